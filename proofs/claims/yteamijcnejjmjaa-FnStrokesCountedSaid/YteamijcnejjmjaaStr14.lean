/- All halves at which a list may have begun: by the program and by the model. -/
import Derived.Test.YteamijcnejjmjaaStr12
import Derived.Test.YteamijcnejjmjaaShelfB
set_option linter.unusedSimpArgs false
set_option linter.unusedVariables false
set_option maxRecDepth 100000
namespace Go.Proofs.Yteamijcnejjmjaa
open Go.ChangeShapes Go.WideShapes Go.ChangeAt Go.RowKit Go.Maps Go.Shelf Go.Sort

theorem sortsI (m : Nat) : AnyZI.SortsIn Try.prog Try.sortedI_ren Fence.wide m :=
  ⟨fun blk off cap ss W hH hblk hsz => callsIn_wide.2 (AnyM.slices_Sort_int Try.sortI blk off cap ss W hH hblk hsz), fun p cap W => callsIn_wide.2 (AnyM.slices_Sort_int_none Try.sortI p cap W)⟩
theorem keys_any (b : Nat) (w : World) : Calls Try.prog 44 #[.map (some b)] w fun e w' => e = .returned (.func (.func 60) #[] #[.pointer (some ⟨w.heap.size, 0, none⟩)]) ∧ w' = (w.alloc (.cells #[.map (some b)] 58)) :=
  callsIn_wide.1 (AnyZI.keys_in Try.keysI Fence.wide 5 trivial rfl (some b) w)
set_option maxHeartbeats 1000000 in
theorem sorted_any (h : Int) (L : List Int) (hh : 2 ≤ h ∧ h ≤ 24) (b : Nat) (w : World) (hm : MapAt w b (fun x => allS h x && hvB h L x)) :
    Calls Try.prog 43 #[.func (.func 60) #[] #[.pointer (some ⟨w.heap.size, 0, none⟩)]] (w.alloc (.cells #[.map (some b)] 58)) fun e w' => ∃ v, e = .returned v ∧ IRow w' w.heap.size v (hvs h L) ∧ Below w.heap.size w w' := by
  obtain ⟨nn, D, hown, -, hD⟩ := hm
  obtain ⟨hp, hsz⟩ := keys_perm w b nn _ hown hD
  have hlen := hvs_len hh L
  have hbl := hown.lt
  have hseq : SeqGives Fence.wide 2 Try.prog 60 #[.pointer (some ⟨w.heap.size, 0, none⟩)] encZ (fun ss => ss.Perm (intKeys D)) (Maps.size D) (w.alloc (.cells #[.map (some b)] 58)) :=
    AnyZI.keys_gives (ρ := Try.keysI_ren) { Try.keysI with } Fence.wide _ trivial rfl (by omega) w.heap.size b nn D _ (by simp) (by simp) (by
      obtain ⟨es, clock, hb, Ft, hs, hD⟩ := hown
      exact ⟨es, clock, (Below.heap_alloc _ _ b hbl).trans hb, Ft, hs, hD⟩)
  have cS := AnyZI.sorted_in Try.sortedI Fence.wide 5 trivial trivial trivial trivial rfl (by omega) (sortsI _) (enters_of Try.func59 (by kernel_rfl) rfl) 60 #[.pointer (some ⟨w.heap.size, 0, none⟩)] trivial (enters_of Try.func60 (by kernel_rfl) rfl) _ _ (by unfold maxLen; omega) (by omega) _ hseq
  change CallsIn _ _ Try.prog 43 _ _ _ at cS
  refine (callsIn_wide.1 cS).mono ?_
  rintro e w' ⟨v, ss, rfl, hS, hrow, -, hb⟩
  have hps := hS.trans hp.symm
  rw [show (ss.mergeSort fun x y => decide (x ≤ y)) = hvs h L from sorted_hvs hps, hps.length_eq] at hrow
  refine ⟨v, rfl, IRow.mono (b := (w.alloc (.cells #[.map (some b)] 58)).heap.size) hrow (by simp), ?_⟩
  exact (Below.alloc (Below.refl _ _) (Nat.le_refl _) _).trans (hb.mono (by simp))

def hoL (h : Int) (L : List Int) : List Int := if heardB h L then hvs h L else []
theorem hoL_len (h : Int) (L : List Int) : (hoL h L).length ≤ 1000000 := by
  unfold hoL
  split
  · rename_i k
    exact Nat.le_trans (hvs_len (heardB_bd k).1 L) (by omega)
  · simp
theorem apart_sym {x y : Option Nat} (h : x = none ∨ x ≠ y) : y = none ∨ y ≠ x := by
  rcases h with rfl | h
  · exact Classical.em _
  · exact .inr fun e => h e.symm

set_option maxHeartbeats 1600000 in
theorem implHalvesOfHeard_any (h : Int) (L : List Int) (n : Nat) (hn : L.length = n) (a : Option Addr) (c : Nat) (hle : n ≤ 2000000) (w : World) (h1 : IIn w a L) :
    Calls Try.prog 14 #[.int .i64 h, .slice a n c] w (IntsOut w (hoL h L) (heardB h L)) := by
  have X1 := Lib.hid h1
  have HN := Lib.hid hn
  clear h1 hn
  cases ga : inB h 2 24
  · have HF2 := Lib.hid (hkB_dial ga : heardB h L = false)
    (go_enter Try.func14, Try.ntmps14)
    go_wp2_with fail
    refine (isDial_is _ ga _).mono ?_
    (rintro e1 w1 ⟨rfl, rfl⟩)
    go_wp2
    (refine bodyPost_ret (by simp [results, Try.results14, go_sem, *]; try rfl) rfl ?_)
    rw [show hoL h L = [] by simp [hoL, HF2.out], HF2.out]
    exact IntsOut.none (Below.refl _ _)
  · obtain ⟨r, hq⟩ : ∃ r, hlB L = r := ⟨_, rfl⟩
    have HQ := Lib.hid hq
    cases r
    · have HF := Lib.hid (hkB_list ga hq)
      clear hq
      have HF2 := Lib.hid (HF.out : heardB h L = false)
      (go_enter Try.func14, Try.ntmps14)
      go_wp2_with fail
      refine (isDial_is _ ga _).mono ?_
      (rintro e1 w1 ⟨rfl, rfl⟩)
      go_wp2_with fail
      refine (isHeardList_is L n HN.out a c hle HQ.out _ X1.out).mono ?_
      rintro e1 w1 ⟨rfl, hb1⟩
      have hz1 := hb1.size
      go_wp2
      (refine bodyPost_ret (by simp [results, Try.results14, go_sem, *]; try rfl) rfl ?_)
      rw [show hoL h L = [] by simp [hoL, HF2.out], HF2.out]
      exact IntsOut.none (hb1)
    · have hkB := Lib.hid (hkB_ok ga hq)
      have hh := inB_bd ga
      obtain ⟨l1, l2⟩ := hlB_bd hq
      rw [HN.out] at l1 l2
      clear hq
      (go_enter Try.func14, Try.ntmps14)
      go_wp2_with fail
      refine (isDial_is _ ga _).mono ?_
      (rintro e1 w1 ⟨rfl, rfl⟩)
      go_wp2_with fail
      refine (isHeardList_is L n HN.out a c hle HQ.out _ X1.out).mono ?_
      rintro e1 w1 ⟨rfl, hb1⟩
      have hz1 := hb1.size
      have X2 := Lib.hid (IIn.below X1.out hb1)
      go_wp2_with fail
      refine (halvesLeft_any h L n HN.out a c (by omega) hh _ X2.out).mono ?_
      rintro e2 w2 ⟨rfl, hm2, hb2⟩
      have HM2 := Lib.hid hm2
      have hz2 := hb2.size
      have hB2 : Below w.heap.size w w2 := hb1.trans (hb2.mono hz1)
      clear hm2
      go_wp2_with fail
      refine (keys_any _ _).mono ?_
      rintro e3 w3 ⟨rfl, rfl⟩
      go_wp2_with fail
      refine (sorted_any h L hh _ _ HM2.out).mono ?_
      rintro e4 w4 ⟨v4, rfl, hr4, hb4⟩
      have HR4 := Lib.hid hr4
      clear hr4
      go_wp2
      (refine bodyPost_ret (by simp [results, Try.results14, go_sem, *]; try rfl) rfl ?_)
      rw [show hoL h L = hvs h L by simp [hoL, hkB.out], hkB.out]
      exact ⟨_, rfl, IRow.mono HR4.out (by omega), hB2.trans (hb4.mono (by omega))⟩

end Go.Proofs.Yteamijcnejjmjaa
