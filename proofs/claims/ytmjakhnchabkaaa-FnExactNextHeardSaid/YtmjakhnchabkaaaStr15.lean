/- Which numbers may come next behind a list: by the program. -/
import Derived.Test.YtmjakhnchabkaaaStr15a
set_option linter.unusedSimpArgs false
set_option linter.unusedVariables false
set_option maxRecDepth 100000
namespace Go.Proofs.Ytmjakhnchabkaaa
open Go.ChangeShapes Go.WideShapes Go.ChangeAt Go.RowKit Go.Maps Go.Shelf Go.Sort

set_option maxHeartbeats 1600000 in
theorem implNextHeard_any (h : Int) (L : List Int) (n : Nat) (hn : L.length = n) (a : Option Addr) (c : Nat) (hle : n ≤ 2000000) (w : World) (h1 : IIn w a L) :
    Calls Try.prog 42 #[.int .i64 h, .slice a n c] w (IntsOut w (nhL h L) (heardB h L)) := by
  have X1 := Lib.hid h1
  have HN := Lib.hid hn
  clear h1 hn
  cases ga : inB h 2 24
  · have HF2 := Lib.hid (hkB_dial ga : heardB h L = false)
    (go_enter Try.func42, Try.ntmps42)
    go_wp2_with fail
    refine (isDial_is _ ga _).mono ?_
    (rintro e1 w1 ⟨rfl, rfl⟩)
    go_wp2
    (refine bodyPost_ret (by simp [results, Try.results42, go_sem, *]; try rfl) rfl ?_)
    rw [show nhL h L = [] by simp [nhL, HF2.out], HF2.out]
    exact IntsOut.none (Below.refl _ _)
  · obtain ⟨r, hq⟩ : ∃ r, hlB L = r := ⟨_, rfl⟩
    have HQ := Lib.hid hq
    cases r
    · have HF := Lib.hid (hkB_list ga hq)
      clear hq
      have HF2 := Lib.hid (HF.out : heardB h L = false)
      (go_enter Try.func42, Try.ntmps42)
      go_wp2_with fail
      refine (isDial_is _ ga _).mono ?_
      (rintro e1 w1 ⟨rfl, rfl⟩)
      go_wp2_with fail
      refine (isHeardList_is L n HN.out a c hle HQ.out _ X1.out).mono ?_
      rintro e1 w1 ⟨rfl, hb1⟩
      have hz1 := hb1.size
      go_wp2
      (refine bodyPost_ret (by simp [results, Try.results42, go_sem, *]; try rfl) rfl ?_)
      rw [show nhL h L = [] by simp [nhL, HF2.out], HF2.out]
      exact IntsOut.none (hb1)
    · have hkB := Lib.hid (hkB_ok ga hq)
      have hh := inB_bd ga
      obtain ⟨l1, l2⟩ := hlB_bd hq
      rw [HN.out] at l1 l2
      clear hq
      obtain ⟨i0, hi0, hz0, hz1, hz2⟩ := info_parts Try.infoInt
      have I0 := Lib.hid hi0
      have Z0 := Lib.hid hz0
      have Z1 := Lib.hid hz1
      have Z2 := Lib.hid hz2
      clear hi0 hz0 hz1 hz2
      have HNX : Hid (nhK h n (hvs h L) (hvs h L).length = nhL h L) := Lib.hid (by simp [nhL, hkB.out, HN.out])
      (go_enter Try.func42, Try.ntmps42)
      go_wp2_with fail
      refine (isDial_is _ ga _).mono ?_
      (rintro e1 w1 ⟨rfl, rfl⟩)
      go_wp2_with fail
      refine (isHeardList_is L n HN.out a c hle HQ.out _ X1.out).mono ?_
      rintro e1 w1 ⟨rfl, hb1⟩
      have hz1 := hb1.size
      have X2 := Lib.hid (IIn.below X1.out hb1)
      go_wp2_with fail
      refine (strokesOf_any h _).mono ?_
      rintro e2 w2 ⟨rfl, rfl⟩
      go_wp2_with fail
      refine (halvesLeft_any h L n HN.out a c (by omega) hh _ (IIn.below X2.out (Below.alloc (Below.refl _ _) (Nat.le_refl _) _))).mono ?_
      rintro e3 w3 ⟨rfl, hm3, hb3⟩
      simp only [World.size_alloc] at hm3 hb3 ⊢
      have hlt3 := hm3.lt
      obtain ⟨nn, D, ho, -, hD⟩ := hm3
      have HO := Lib.hid ho
      have HD := Lib.hid hD
      have hz3 := hb3.size
      simp only [World.size_alloc] at hz3
      have HC3 : Hid (w3.cell? ⟨w1.heap.size, 0, none⟩ = some (.int .i64 h)) := Lib.hid ((hb3.cell (p := ⟨w1.heap.size, 0, none⟩) (by show w1.heap.size < w1.heap.size + 1; omega)).trans (by go_simp))
      have hB2 : Below w1.heap.size w1 w3 := (Below.alloc (Below.refl _ _) (Nat.le_refl _) _).trans (hb3.mono (by omega))
      have hB3 : Below w.heap.size w w3 := hb1.trans (hB2.mono hz1)
      have HB3 := Lib.hid hB3
      have HPM := Lib.hid (keys_perm w3 _ nn _ ho hD).1
      clear ho hD hb3 hB2 hB3
      go_wp2_with (first | (at_range; refine wpList_range_own _ rfl _ 55 rfl 3 4 mb_law mb_under _ (w1.heap.size + 1 + 1) nn _ rfl HO.out ?_; intro w4 hrg4 hg4 hs4) | go_in)
      try go_frame
      go_loopw [7] (fun o wr => ∃ (left : Lit → Bool) (cnt : Nat) (ss zs : List Int), wr.ranges Try.prog 3 (plainElem Try.prog 4) (w1.heap.size + 1 + 1) w3.heap.size nn D left cnt ∧ CollectedI D left ss ∧ Hid (zs = ss.map fun z => stM h (z + n)) ∧ IRow wr (w3.heap.size + 1) o zs ∧ Below w3.heap.size w3 wr) (fun _ wr => wr.rangeLeft (w1.heap.size + 1 + 1) w3.heap.size)
      case atStart => exact ⟨_, _, [], [], hrg4, CollectedI.start D, Lib.hid rfl, IRow.nil _ _, Below.grown (Below.refl _ _) hg4 (Nat.le_refl _) (fun j hj => by cases hj)⟩
      case round =>
        obtain ⟨left, cnt, ss, zs, hrg, hC, HZ, hown, hbr⟩ := hrel
        have hzr := hbr.size
        have hrl := hrg.lt
        have HOWN := Lib.hid hown
        have HCC := Lib.hid hC
        clear hown hC
        go_wp2_with (first | (at_next; refine wpList_next_ranges _ rfl _ rfl 3 mb_law (plainElem Try.prog 4) (Value.int .i64) (fun v : Value => v) (fun key kl hk => by obtain ⟨x, rfl, _⟩ := Maps.keyOf_int_inv mb_int hk; exact ⟨x, rfl⟩) (fun v y hv => ⟨v, rfl⟩) (w1.heap.size + 1 + 1) w3.heap.size nn _ _ _ rfl hrg ?_ ?_) | go_in)
        · intro _ hl0
          have hp : ss.Perm (hvs h L) := (CollectedI.perm HCC.out hrg.owns mb_law mb_int hl0).trans HPM.out.symm
          have HR : Hid (Lib.compact (zs.mergeSort leI) = nhL h L) := Lib.hid ((next_same hp HZ.out).trans HNX.out)
          have hlz : zs.length ≤ 1000000 := by
            have := hvs_len hh L
            rw [HZ.out, List.length_map, hp.length_eq]; omega
          rcases IRow.form HOWN.out with ⟨rfl, rfl⟩ | ⟨g, c2, rfl⟩
          · go_wp2_with fail
            refine (sort_none _).mono ?_
            rintro e5 w5 ⟨rfl, rfl⟩
            go_wp2_with fail
            refine (compact_none _).mono ?_
            rintro e5 w5 ⟨rfl, rfl⟩
            go_wp2
            (refine bodyPost_ret (by simp [results, Try.results42, go_sem, *]; try rfl) rfl ?_)
            rw [← HR.out, hkB.out]
            refine ⟨_, rfl, ?_, HB3.out.trans (hbr.mono HB3.out.size)⟩
            rw [show Lib.compact (([] : List Int).mergeSort leI) = [] by simp [Lib.compact, Lib.compactUpTo]]
            exact IRow.nil _ _
          · have hlow := IRow.low HOWN.out g rfl
            have hzB := HB3.out.size
            go_wp2_with fail
            refine (sort_any g c2 zs _ _ HOWN.out hlz).mono ?_
            rintro e5 w5 ⟨rfl, hr5, hg5⟩
            have HR5 := Lib.hid hr5
            have hz5 := hg5.size
            have hB5 : Below w3.heap.size w3 w5 := Below.grown hbr hg5 hzr (fun j hj => by cases hj; omega)
            clear hr5 hg5
            go_wp2_with fail
            refine (compact_any g c2 (zs.mergeSort leI) zs.length (List.length_mergeSort _) _ _ HR5.out (by rw [List.length_mergeSort]; exact hlz)).mono ?_
            rintro e6 w6 ⟨rfl, hr6, hg6⟩
            have HR6 := Lib.hid hr6
            have hB6 : Below w3.heap.size w3 w6 := Below.grown hB5 hg6 hB5.size (fun j hj => by cases hj; omega)
            clear hr6 hg6
            rw [HR.out]
            go_wp2
            (refine bodyPost_ret (by simp [results, Try.results42, go_sem, *]; try rfl) rfl ?_)
            rw [hkB.out]
            refine ⟨_, rfl, ?_, HB3.out.trans (hB6.mono hzB)⟩
            have := HR6.out
            rw [HR.out] at this
            exact IRow.mono this (by omega)
        · intro x cb kl yd yp w5 cnt5 hkey hlk hv hat hrg5 hlt hg5 hs5 hen
          obtain ⟨x', ex, rfl, hwx⟩ := Maps.keyOf_int_inv mb_int hkey
          obtain rfl : x = x' := by simpa using ex
          have hxS := HD.out x
          rw [has_true_of_atKey hat] at hxS
          obtain ⟨x0, x1⟩ := allS_bd hxS.symm
          clear hxS
          have HCS := Lib.hid (CollectedI.step HCC.out hlk hat)
          have HLT := IRow.low HOWN.out
          have hB5 : Below w3.heap.size w3 w5 := Below.grown hbr hg5 hzr (fun j hj => by cases hj; exact Nat.le_refl _)
          have HO5 : Hid (w5.ownsRow (w3.heap.size + 1) 3 1 u7 zs.length (ints zs)) := Lib.hid (IRow.kept HOWN.out hg5 (by
            cases e : u7.ownBlock with
            | none => exact .inl rfl
            | some j => exact .inr (fun e2 => by have := HLT j e; cases e2; omega)))
          have hz5 := hB5.size
          have hrl5 : w3.heap.size < w5.heap.size := by omega
          clear hs5
          have hcell : w5.cell? ⟨w1.heap.size, 0, none⟩ = some (.int .i64 h) := ((bcell hB5).1 _ _ (by omega)).trans HC3.out
          obtain ⟨t, hte⟩ : ∃ t, stM h (x + n) = t := ⟨_, rfl⟩
          have HT := Lib.hid hte
          have HZ2 : Hid (zs ++ [t] = (ss ++ [x]).map fun z => stM h (z + n)) := Lib.hid (by rw [HZ.out, ← hte]; simp)
          have hlz : zs.length ≤ 1000000 := by
            have h1 := (CollectedI.step HCC.out hlk hat).1
            have h2 : ∀ y ∈ ss, y ∈ hvs h L := fun y hy => mem_hvs.2 (by rw [← HD.out y]; exact ((HCC.out.2 y).1 hy).1)
            have h3 := nodup_len HCC.out.1 h2
            have := hvs_len hh L
            rw [HZ.out, List.length_map]; omega
          have HLT2 := Lib.hid HLT
          clear hte HLT
          go_wp2_with fail
          refine (strokes_is h (x + n) w1.heap.size _ hcell hh (by omega) (by omega) HT.out).mono ?_
          rintro e6 w6 ⟨rfl, rfl⟩
          go_wp2_with (at_builtin; refine wpList_append_lies _ rfl _ _ _ rfl ((w3.heap.size + 1)) 3 i0 _ 1 8 Try.underlying31 I0.out Z0.out Z1.out Z2.out rfl (by omega) u7 (zs.length) _ rfl (HO5.out.alloc _) ⟨w5.heap.size, 0, none⟩ 1 1 [.int .i64 (t)] rfl rfl (World.news_of_block (cs := #[.int .i64 (t)]) (t := 3) (fr := (0, 0)) (by simpa using heap_alloc_new w5 _)) (by simp [Value.oneCell']) (by omega) (by unfold maxLen; omega) (by omega) (by simp; omega) (w5.heap.size + 1) (by simp) ?_; intro g cap w7 hown3 hgrow hat hlt3)
          have hrg7 := (hrg5.alloc _).kept hgrow (fun e => by have := HLT2.out _ e.symm; omega) (fun e => by have := HLT2.out _ e.symm; omega)
          go_wp2
          go_roundw
          case rel =>
            refine ⟨_, cnt5, ss ++ [x], zs ++ [t], hrg7, HCS.out, HZ2, ?_, ?_⟩
            · unfold IRow
              rw [show (zs ++ [t]).length = zs.length + 1 by simp, show ints (zs ++ [t]) = ints zs ++ [.int .i64 t] by simp [ints]]
              exact hown3
            · exact Below.grown (by (repeat' (first | (with_reducible exact Below.refl _ _) | (with_reducible assumption) | (with_reducible refine Below.alloc ?_ ?_ _) | (with_reducible refine Below.drew ?_) | (with_reducible refine below_drewN ?_ _) | (with_reducible refine Below.setCell ?_ ?_ _) | (with_reducible refine below_call ?_ ?_ (by assumption)) | go_size))) hgrow (by simp; omega) (fun j hj => by have := HLT2.out j hj; omega)
          case measure => rw [hrg7.left_eq, hrg.left_eq]; exact hlt

end Go.Proofs.Ytmjakhnchabkaaa
