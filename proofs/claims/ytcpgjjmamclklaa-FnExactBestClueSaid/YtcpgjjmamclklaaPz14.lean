/- Puzzles: how many minutes are left by the first clues: by the program and by the model. -/
import Derived.Test.YtcpgjjmamclklaaPz11
import Derived.Test.YtcpgjjmamclklaaOrder
set_option linter.unusedSimpArgs false
set_option linter.unusedVariables false
set_option maxRecDepth 100000
namespace Go.Proofs.Ytcpgjjmamclklaa
open Go.RowKit

/-- How many minutes fit the first k clues. -/
def cntT (h : Int) (L : List (Int × Int × Int)) (k : Nat) : Int := (sol h (L.take k)).length
def lefK (h : Int) (L : List (Int × Int × Int)) (k : Nat) : List Int := (List.range k).map (cntT h L)
theorem lefK_len (h : Int) (L : List (Int × Int × Int)) (k : Nat) : (lefK h L k).length = k := by simp [lefK]
theorem lefK_snoc (h : Int) (L : List (Int × Int × Int)) (k : Nat) : ints (lefK h L (k + 1)) = ints (lefK h L k) ++ [.int .i64 (cntT h L k)] := by simp [lefK, ints, List.range_succ]
def lefR (h : Int) (L : List (Int × Int × Int)) : List Int × Bool := if okZ h L then (lefK h L (L.length + 1), true) else ([], false)
theorem lefR_len (h : Int) (L : List (Int × Int × Int)) : (lefR h L).1.length ≤ 2000000 := by
  unfold lefR
  split
  · rename_i hok
    have := (okZ_bd hok).2.1
    show (lefK h L (L.length + 1)).length ≤ _
    rw [lefK_len]
    omega
  · simp
theorem all_take {L : List (Int × Int × Int)} {p : Int × Int × Int → Bool} (h : L.all p = true) (t : Nat) : (L.take t).all p = true := by
  rw [List.all_eq_true] at h ⊢
  exact fun x hx => h x (List.mem_of_mem_take hx)
theorem CIn.take {w : World} {a : Option Addr} {L : List (Int × Int × Int)} (h : CIn w a L) (t : Nat) : CIn w a (L.take t) := by
  have := h.cut 0 t t (Nat.le_refl _)
  rwa [cutA_zero, List.drop_zero] at this
set_option maxHeartbeats 400000 in
theorem countTake_any (h : Int) (a : Option Addr) (c : Nat) (L : List (Int × Int × Int)) (k : Nat) (hk : k ≤ L.length) (hh : 2 ≤ h ∧ h ≤ 24) (hok : L.all (okC h) = true) (hl : L.length ≤ 1048576) (w : World) (hin : CIn w a L) :
    Calls Try.prog 79 #[pzv h (.slice a k k)] w fun e w' => e = .returned (.int .i64 (cntT h L k)) ∧ Below w.heap.size w w' := by
  have hlt : (L.take k).length = k := by rw [List.length_take]; omega
  have := countSolutions_any h a k (L.take k) hh (all_take hok k) (by omega) w (hin.take k)
  rwa [hlt] at this
theorem pzTake_any (h : Int) (a : Option Addr) (c : Nat) (L : List (Int × Int × Int)) (k : Nat) (hk : k ≤ L.length) (hh : 2 ≤ h ∧ h ≤ 24) (hok : L.all (okC h) = true) (hl : L.length ≤ 1048576) (w : World) (hin : CIn w a L) :
    Calls Try.prog 74 #[.int .i64 h, .slice a k c] w fun e w' => ∃ v, e = .returned v ∧ IRow w' w.heap.size v (sol h (L.take k)) ∧ Below w.heap.size w w' := by
  have hlt : (L.take k).length = k := by rw [List.length_take]; omega
  have := pzAll_any h a c (L.take k) hh (all_take hok k) (by omega) w (hin.take k)
  rwa [hlt] at this
theorem cntT_bd {h : Int} (hh : 2 ≤ h ∧ h ≤ 24) (L : List (Int × Int × Int)) (k : Nat) : 0 ≤ cntT h L k ∧ cntT h L k ≤ 1440 := by
  have := sol_len hh.2 (L.take k)
  unfold cntT
  omega
set_option maxHeartbeats 1600000 in
theorem leftByClues_any (h : Int) (a : Option Addr) (c : Nat) (L : List (Int × Int × Int)) (hh : 2 ≤ h ∧ h ≤ 24) (hok : L.all (okC h) = true) (hc : L.length ≤ c) (hcm : c ≤ maxLen) (hl : L.length ≤ 1048576) (w : World) (hin : CIn w a L) :
    Calls Try.prog 96 #[pzv h (.slice a L.length c)] w fun e w' => ∃ v, e = .returned v ∧ IRow w' w.heap.size v (lefK h L (L.length + 1)) ∧ Below w.heap.size w w' := by
  obtain ⟨i0, hi0, hz0, hz1, hz2⟩ := info_parts Try.infoInt
  have I0 := Lib.hid hi0
  have Z0 := Lib.hid hz0
  have Z1 := Lib.hid hz1
  have Z2 := Lib.hid hz2
  clear hi0 hz0 hz1 hz2
  have f0 := zw64 (n := (L.length : Int) + 1) (by omega)
  have HC1 := Lib.hid (fun (k : Nat) (hk : k ≤ L.length) W => cut0_any h a L.length c k (by omega) hcm W)
  have HC2 := Lib.hid (fun (k : Nat) (hk : k ≤ L.length) W (hb : Below w.heap.size w W) => countTake_any h a c L k hk hh hok hl W (hin.below hb))
  have HB := Lib.hid (fun k => cntT_bd hh L k)
  clear hin hok
  (go_enter Try.func96, Try.ntmps96)
  go_wp2
  go_loopw [3, 9] (fun q i wr => ∃ (k : Nat), k ≤ L.length + 1 ∧ i = .int .i64 k ∧ IRow wr (w.heap.size + 1) q (lefK h L k) ∧ wr.cell? ⟨w.heap.size, 0, none⟩ = some (.int .i64 h) ∧ wr.cell? ⟨w.heap.size, 1, none⟩ = some (.slice a L.length c) ∧ w.heap.size + 1 ≤ wr.heap.size ∧ Below w.heap.size w wr) (fun _ i _ => L.length + 1 - (intOf i).toNat)
  case atStart => exact ⟨0, by omega, rfl, by simpa [lefK] using IRow.nil _ _, by go_simp, by go_simp, by go_size, by (repeat' (first | (with_reducible exact Below.refl _ _) | (with_reducible assumption) | (with_reducible refine Below.alloc ?_ ?_ _) | (with_reducible refine Below.drew ?_) | (with_reducible refine below_drewN ?_ _) | (with_reducible refine Below.setCell ?_ ?_ _) | (with_reducible refine below_call ?_ ?_ (by assumption)) | go_size))⟩
  case round =>
    obtain ⟨k, hk, rfl, hrow, c0, c1, hz3, hbr⟩ := hrel
    have HR := Lib.hid hrow
    obtain ⟨qa, qc, rfl, -, -, -⟩ := hrow.cells
    have hlk := lefK_len h L k
    rw [hlk] at HR ⊢
    have HLK := Lib.hid hlk
    clear hrow hlk
    have n0' : (0 : Int) ≤ (k : Int) := Int.natCast_nonneg _
    have p0 : w.heap.size < wr.heap.size := by omega
    by_cases hlt : k ≤ L.length
    · have k1 : (k : Int) < (L.length : Int) + 1 := by omega
      have HD1 := Lib.hid (HC1.out k hlt)
      have HD2 := Lib.hid (HC2.out k hlt)
      have HS := Lib.hid (lefK_snoc h L k)
      have hb := HB.out k
      generalize cntT h L k = t at *
      go_wp2_with fail
      refine (HD1.out _).mono ?_
      rintro e1 w1 ⟨rfl, hb1⟩
      have hz1 := hb1.size
      go_wp2_with fail
      refine (HD2.out _ (hbr.trans (hb1.mono hbr.size))).mono ?_
      rintro e2 w2 ⟨rfl, hb2⟩
      have hb12 : Below wr.heap.size wr w2 := hb1.trans (hb2.mono hb1.size)
      obtain ⟨hc2, hf2⟩ := bcell hb12
      have hz2 := hb12.size
      have v0 := (hc2 _ _ p0).trans c0
      have v1 := (hc2 _ _ p0).trans c1
      have HR2 : Hid (w2.ownsRow (w.heap.size + 1) 3 1 (.slice qa k qc) k (ints (lefK h L k))) := Lib.hid (by have := HR.out.below hb12; unfold IRow at this; rwa [HLK.out] at this)
      have hbw : Below w.heap.size w w2 := hbr.trans (hb12.mono hbr.size)
      have HLT : ∀ j, (Value.slice qa k qc).ownBlock = some j → w.heap.size + 1 ≤ j := fun j hj => (World.ownsRow.lt HR2.out j hj).1
      clear hc2 hf2 c0 c1 HR hb1 hb2
      obtain ⟨wq, rfl⟩ : ∃ wq, wq = w2 := ⟨_, rfl⟩
      go_wp2_with (at_builtin; refine wpList_append_lies _ rfl _ _ _ rfl (w.heap.size + 1) 3 i0 _ 1 8 Try.underlying42 I0.out Z0.out Z1.out Z2.out rfl (by omega) (.slice qa k qc) (k) _ rfl (World.ownsRow.alloc HR2.out _) ⟨wq.heap.size, 0, none⟩ 1 1 [.int .i64 t] rfl rfl (World.news_of_block (cs := #[.int .i64 t]) (t := 3) (fr := (0, 0)) (by simpa using heap_alloc_new wq _)) (by simp [Value.oneCell']) (by omega) (by unfold maxLen; omega) (by omega) (by simp; omega) (wq.heap.size + 1) (by simp) ?_; intro g cap w3 hown3 hgrow hat hlt3)
      have hb3 : Below w.heap.size w w3 := Below.grown (w := wq.alloc (.cells #[.int .i64 t] 3)) (by (repeat' (first | (with_reducible exact Below.refl _ _) | (with_reducible assumption) | (with_reducible refine Below.alloc ?_ ?_ _) | (with_reducible refine Below.drew ?_) | (with_reducible refine below_drewN ?_ _) | (with_reducible refine Below.setCell ?_ ?_ _) | (with_reducible refine below_call ?_ ?_ (by assumption)) | go_size))) hgrow (by simp; omega) (fun j hj => by have := HLT j hj; omega)
      have hz4 := hgrow.size
      simp only [World.size_alloc] at hz4
      have kc : ∀ o, w3.cell? ⟨w.heap.size, o, none⟩ = wq.cell? ⟨w.heap.size, o, none⟩ := fun o => (cell_of_heap (hgrow.block _ (by simp; omega) (fun e => by have := HLT _ e.symm; omega))).trans (World.cell?_alloc_past _ _ _ (by omega))
      have v3 := (kc 0).trans v0
      have v4 := (kc 1).trans v1
      have OWN := Lib.hid hown3
      clear hown3 hgrow hat kc v0 v1
      go_wp2
      go_roundw
      case rel =>
        refine ⟨k + 1, by omega, by go_num, ?_, v3, v4, by omega, hb3⟩
        unfold IRow
        rw [HS.out, lefK_len]
        exact OWN.out
      case measure => simp [intOf]; omega
    · obtain rfl : k = L.length + 1 := by omega
      go_wp2
      go_ret
      exact ⟨_, rfl, HR.out.mono (by omega), hbr⟩
set_option maxHeartbeats 800000 in
theorem tellLeft_any (h : Int) (a : Option Addr) (c : Nat) (L : List (Int × Int × Int)) (hm : L.length ≤ maxLen) (w : World) (hin : CIn w a L) :
    Calls Try.prog 75 #[pzv h (.slice a L.length c), .func (.func 96) #[] #[]] w fun e w' => ∃ v, e = .returned (.tuple #[v, .bool (lefR h L).2]) ∧ IRow w' w.heap.size v (lefR h L).1 ∧ Below w.heap.size w w' := by
  have HC := Lib.hid (fun W (hb : Below w.heap.size w W) => openPuzzle_any h a c L hm W (hin.below hb))
  clear hin
  (go_enter Try.func75, Try.ntmps75)
  go_wp2_with fail
  refine (HC.out _ (by (repeat' (first | (with_reducible exact Below.refl _ _) | (with_reducible assumption) | (with_reducible refine Below.alloc ?_ ?_ _) | (with_reducible refine Below.drew ?_) | (with_reducible refine below_drewN ?_ _) | (with_reducible refine Below.setCell ?_ ?_ _) | (with_reducible refine below_call ?_ ?_ (by assumption)) | go_size)))).mono ?_
  rintro e1 w1 ⟨hb1, ⟨hok, v, rfl, hr⟩ | ⟨hok, rfl⟩⟩
  · obtain ⟨hh, hl6, hall⟩ := okZ_bd hok
    obtain ⟨a1, c1, rfl, hi1, hcap, hcmx⟩ := hr.inn
    have HM := Lib.hid hok
    have HI := Lib.hid hi1
    have hz1 := hb1.size
    simp only [World.size_alloc] at hz1
    obtain ⟨hc1, hf1⟩ := bcell hb1
    clear hr hok hi1
    go_wp2_with fail
    refine (leftByClues_any h a1 c1 L hh hall hcap hcmx (by omega) _ (HI.out.below (by (repeat' (first | (with_reducible exact Below.refl _ _) | (with_reducible assumption) | (with_reducible refine Below.alloc ?_ ?_ _) | (with_reducible refine Below.drew ?_) | (with_reducible refine below_drewN ?_ _) | (with_reducible refine Below.setCell ?_ ?_ _) | (with_reducible refine below_call ?_ ?_ (by assumption)) | go_size))))).mono ?_
    rintro e2 w2 ⟨v2, rfl, hr2, hb2⟩
    have HR := Lib.hid (hr2.mono (show w.heap.size ≤ _ by simp; omega))
    clear hr2
    have hz2 := hb2.size
    simp only [World.size_alloc] at hz2
    go_wp2
    (refine bodyPost_ret (by simp [results, Try.results75, go_sem, *]; try rfl) rfl ?_)
    rw [show lefR h L = (lefK h L (L.length + 1), true) from by simp [lefR, HM.out]]
    exact ⟨_, rfl, HR.out, by (repeat' (first | (with_reducible exact Below.refl _ _) | (with_reducible assumption) | (with_reducible refine Below.alloc ?_ ?_ _) | (with_reducible refine Below.drew ?_) | (with_reducible refine below_drewN ?_ _) | (with_reducible refine Below.setCell ?_ ?_ _) | (with_reducible refine below_call ?_ ?_ (by assumption)) | go_size))⟩
  · have HM := Lib.hid hok
    have hz1 := hb1.size
    simp only [World.size_alloc] at hz1
    clear hok
    go_wp2
    (refine bodyPost_ret (by simp [results, Try.results75, go_sem, *]; try rfl) rfl ?_)
    rw [show lefR h L = ([], false) from by simp [lefR, HM.out]]
    exact ⟨_, rfl, IRow.nil _ _, by (repeat' (first | (with_reducible exact Below.refl _ _) | (with_reducible assumption) | (with_reducible refine Below.alloc ?_ ?_ _) | (with_reducible refine Below.drew ?_) | (with_reducible refine below_drewN ?_ _) | (with_reducible refine Below.setCell ?_ ?_ _) | (with_reducible refine below_call ?_ ?_ (by assumption)) | go_size))⟩
set_option maxHeartbeats 800000 in
theorem implLeftByClues_any (h : Int) (a : Option Addr) (c : Nat) (L : List (Int × Int × Int)) (hm : L.length ≤ maxLen) (w : World) (hin : CIn w a L) :
    Calls Try.prog 53 #[pzv h (.slice a L.length c)] w fun e w' => ∃ v, e = .returned (.tuple #[v, .bool (lefR h L).2]) ∧ IRow w' w.heap.size v (lefR h L).1 ∧ Below w.heap.size w w' := by
  have HC := Lib.hid (fun W (hb : Below w.heap.size w W) => tellLeft_any h a c L hm W (hin.below hb))
  clear hin
  (go_enter Try.func53, Try.ntmps53)
  go_wp2_with fail
  refine (HC.out _ (by (repeat' (first | (with_reducible exact Below.refl _ _) | (with_reducible assumption) | (with_reducible refine Below.alloc ?_ ?_ _) | (with_reducible refine Below.drew ?_) | (with_reducible refine below_drewN ?_ _) | (with_reducible refine Below.setCell ?_ ?_ _) | (with_reducible refine below_call ?_ ?_ (by assumption)) | go_size)))).mono ?_
  rintro e1 w1 ⟨v1, rfl, hr1, hb1⟩
  have HR := Lib.hid (hr1.mono (show w.heap.size ≤ _ by simp))
  clear hr1
  have hz1 := hb1.size
  simp only [World.size_alloc] at hz1
  go_wp2
  (refine bodyPost_ret (by simp [results, Try.results53, go_sem, *]; try rfl) rfl ?_)
  exact ⟨_, rfl, HR.out, by (repeat' (first | (with_reducible exact Below.refl _ _) | (with_reducible assumption) | (with_reducible refine Below.alloc ?_ ?_ _) | (with_reducible refine Below.drew ?_) | (with_reducible refine below_drewN ?_ _) | (with_reducible refine Below.setCell ?_ ?_ _) | (with_reducible refine below_call ?_ ?_ (by assumption)) | go_size))⟩
set_option maxHeartbeats 1600000 in
theorem specLeftByClues_any (h : Int) (a : Option Addr) (c : Nat) (L : List (Int × Int × Int)) (hm : L.length ≤ maxLen) (hc : L.length ≤ c) (hcm : c ≤ maxLen) (w : World) (hin : CIn w a L) :
    Calls Try.prog 52 #[pzv h (.slice a L.length c)] w fun e w' => ∃ v, e = .returned (.tuple #[v, .bool (lefR h L).2]) ∧ IRow w' w.heap.size v (lefR h L).1 ∧ Below w.heap.size w w' := by
  obtain ⟨i0, hi0, hz0, hz1, hz2⟩ := info_parts Try.infoInt
  have I0 := Lib.hid hi0
  have Z0 := Lib.hid hz0
  have Z1 := Lib.hid hz1
  have Z2 := Lib.hid hz2
  clear hi0 hz0 hz1 hz2
  obtain ⟨ic0, hic0, hz0, hz1, hz2⟩ := info_parts Try.infoClue
  have IC0 := Lib.hid hic0
  have IZ0 := Lib.hid hz0
  have IZ1 := Lib.hid hz1
  have IZ2 := Lib.hid hz2
  clear hic0 hz0 hz1 hz2
  have HX := Lib.hid (fun W (hb : Below w.heap.size w W) => hin.below hb)
  cases hok : okZ h L
  · have HC := Lib.hid (fun W (hb : Below w.heap.size w W) => pzGood_is h a c L hm hok W (hin.below hb))
    have HM := Lib.hid hok
    clear hin hok
    (go_enter Try.func52, Try.ntmps52)
    go_wp2_with fail
    refine (HC.out _ (by (repeat' (first | (with_reducible exact Below.refl _ _) | (with_reducible assumption) | (with_reducible refine Below.alloc ?_ ?_ _) | (with_reducible refine Below.drew ?_) | (with_reducible refine below_drewN ?_ _) | (with_reducible refine Below.setCell ?_ ?_ _) | (with_reducible refine below_call ?_ ?_ (by assumption)) | go_size)))).mono ?_
    (rintro e1 w1 ⟨rfl, hb1⟩; obtain ⟨hc1, hf1⟩ := bcell hb1; have hz1 := hb1.size; (try simp only [World.size_alloc, World.size_setCell, World.size_drew] at hz1); have q1 : w.heap.size ≤ w1.heap.size := (by omega); (try have q1_0 : w.heap.size < w1.heap.size := (by omega)); (try have q1_1 : w.heap.size + 1 < w1.heap.size := (by omega)); (try have q1_2 : w.heap.size + 2 < w1.heap.size := (by omega)); (try have q1_3 : w.heap.size + 3 < w1.heap.size := (by omega)))
    go_wp2
    (refine bodyPost_ret (by simp [results, Try.results52, go_sem, *]; try rfl) rfl ?_)
    rw [show lefR h L = ([], false) from by simp [lefR, HM.out]]
    exact ⟨_, rfl, IRow.nil _ _, by (repeat' (first | (with_reducible exact Below.refl _ _) | (with_reducible assumption) | (with_reducible refine Below.alloc ?_ ?_ _) | (with_reducible refine Below.drew ?_) | (with_reducible refine below_drewN ?_ _) | (with_reducible refine Below.setCell ?_ ?_ _) | (with_reducible refine below_call ?_ ?_ (by assumption)) | go_size))⟩
  · have HC := Lib.hid (fun W (hb : Below w.heap.size w W) => pzGood_is h a c L hm hok W (hin.below hb))
    have HM := Lib.hid hok
    obtain ⟨hh, hl6, hall⟩ := okZ_bd hok
    clear hin hok
    (go_enter Try.func52, Try.ntmps52)
    go_wp2_with fail
    refine (HC.out _ (by (repeat' (first | (with_reducible exact Below.refl _ _) | (with_reducible assumption) | (with_reducible refine Below.alloc ?_ ?_ _) | (with_reducible refine Below.drew ?_) | (with_reducible refine below_drewN ?_ _) | (with_reducible refine Below.setCell ?_ ?_ _) | (with_reducible refine below_call ?_ ?_ (by assumption)) | go_size)))).mono ?_
    (rintro e1 w1 ⟨rfl, hb1⟩; obtain ⟨hc1, hf1⟩ := bcell hb1; have hz1 := hb1.size; (try simp only [World.size_alloc, World.size_setCell, World.size_drew] at hz1); have q1 : w.heap.size ≤ w1.heap.size := (by omega); (try have q1_0 : w.heap.size < w1.heap.size := (by omega)); (try have q1_1 : w.heap.size + 1 < w1.heap.size := (by omega)); (try have q1_2 : w.heap.size + 2 < w1.heap.size := (by omega)); (try have q1_3 : w.heap.size + 3 < w1.heap.size := (by omega)))
    have HD := Lib.hid (fun (k : Nat) (hk : k ≤ L.length) W (hb : Below w.heap.size w W) => pzTake_any h a c L k hk hh hall (by omega) W (HX.out W hb))
    have HB := Lib.hid (fun k => cntT_bd hh L k)
    have HM2 := Lib.hid (show lefR h L = (lefK h L (L.length + 1), true) from by simp [lefR, HM.out])
    have HSH := Lib.hid (fun (k : Nat) (hk : k ≤ L.length) => run_cutH Try.underlying33 IC0.out IZ1.out a L.length c k (by omega))
    have x0 : w1.cell? ⟨w.heap.size, 0, none⟩ = some (.int .i64 h) := (hc1 _ _ (by go_size)).trans (by go_simp)
    have x1 : w1.cell? ⟨w.heap.size, 1, none⟩ = some (.slice a L.length c) := (hc1 _ _ (by go_size)).trans (by go_simp)
    have hbw1 : Below w.heap.size w w1 := by (repeat' (first | (with_reducible exact Below.refl _ _) | (with_reducible assumption) | (with_reducible refine Below.alloc ?_ ?_ _) | (with_reducible refine Below.drew ?_) | (with_reducible refine below_drewN ?_ _) | (with_reducible refine Below.setCell ?_ ?_ _) | (with_reducible refine below_call ?_ ?_ (by assumption)) | go_size))
    have hzz : w.heap.size + 1 ≤ w1.heap.size := by omega
    clear hc1 hf1 hb1
    go_wp2
    go_loopw [4, 5] (fun q i wr => ∃ (k : Nat), k ≤ L.length + 1 ∧ i = .int .i64 k ∧ IRow wr (w.heap.size + 1) q (lefK h L k) ∧ wr.cell? ⟨w.heap.size, 0, none⟩ = some (.int .i64 h) ∧ wr.cell? ⟨w.heap.size, 1, none⟩ = some (.slice a L.length c) ∧ w.heap.size + 1 ≤ wr.heap.size ∧ Below w.heap.size w wr) (fun _ i _ => L.length + 1 - (intOf i).toNat)
    case atStart => exact ⟨0, by omega, rfl, by simpa [lefK] using IRow.nil _ _, x0, x1, hzz, hbw1⟩
    case round =>
      obtain ⟨k, hk, rfl, hrow, c0, c1, hz3, hbr⟩ := hrel
      have HR := Lib.hid hrow
      obtain ⟨qa, qc, rfl, -, -, -⟩ := hrow.cells
      have hlk := lefK_len h L k
      rw [hlk] at HR ⊢
      have HLK := Lib.hid hlk
      clear hrow hlk
      have n0' : (0 : Int) ≤ (k : Int) := Int.natCast_nonneg _
      have p0 : w.heap.size < wr.heap.size := by omega
      by_cases hlt : k ≤ L.length
      · have k1 : (k : Int) ≤ (L.length : Int) := by omega
        have HD2 := Lib.hid (HD.out k hlt)
        have HS := Lib.hid (lefK_snoc h L k)
        have hsh := HSH.out k hlt
        have hb := HB.out k
        go_wp2_with fail
        have hS1 : wr.drew.cell? ⟨w.heap.size, 0, none⟩ = some (.int .i64 h) ∧ wr.drew.cell? ⟨w.heap.size, 1, none⟩ = some (.slice a L.length c) := ⟨c0, c1⟩
        refine wp_region_held (by kernel_rfl) (S := fun W => W.cell? ⟨w.heap.size, 0, none⟩ = some (.int .i64 h) ∧ W.cell? ⟨w.heap.size, 1, none⟩ = some (.slice a L.length c)) ?_
        refine take_first (i := 0) (v := .slice qa k qc) _ rfl rfl (by kernel_rfl) (by kernel_rfl) (by kernel_rfl) (fun _ _ _ h => h) (by rfl) ?_ (by assumption) ?_
        · intro wq hq
          obtain ⟨s0, s1⟩ := hq
          go_simp
          try rfl
        simp only [Act.put, List.setIfInBounds_toArray, List.set_cons_zero, List.set_cons_succ]
        refine take_first (i := 1) (v := .pointer (some ⟨w.heap.size, 0, none⟩)) _ rfl rfl (by kernel_rfl) (by kernel_rfl) (by kernel_rfl) (fun _ _ _ h => h) (by rfl) ?_ (by assumption) ?_
        · intro wq hq
          obtain ⟨s0, s1⟩ := hq
          go_simp
          try rfl
        simp only [Act.put, List.setIfInBounds_toArray, List.set_cons_zero, List.set_cons_succ]
        refine take_first (i := 2) (v := .int .i64 h) _ rfl rfl (by kernel_rfl) (by kernel_rfl) (by kernel_rfl) (fun _ _ _ h => h) (by rfl) ?_ (by assumption) ?_
        · intro wq hq
          obtain ⟨s0, s1⟩ := hq
          go_simp
          try rfl
        simp only [Act.put, List.setIfInBounds_toArray, List.set_cons_zero, List.set_cons_succ]
        refine take_first (i := 3) (v := .pointer (some ⟨w.heap.size, 1, none⟩)) _ rfl rfl (by kernel_rfl) (by kernel_rfl) (by kernel_rfl) (fun _ _ _ h => h) (by rfl) ?_ (by assumption) ?_
        · intro wq hq
          obtain ⟨s0, s1⟩ := hq
          go_simp
          try rfl
        simp only [Act.put, List.setIfInBounds_toArray, List.set_cons_zero, List.set_cons_succ]
        refine take_first (i := 4) (v := .slice a L.length c) _ rfl rfl (by kernel_rfl) (by kernel_rfl) (by kernel_rfl) (fun _ _ _ h => h) (by rfl) ?_ (by assumption) ?_
        · intro wq hq
          obtain ⟨s0, s1⟩ := hq
          go_simp
          try rfl
        simp only [Act.put, List.setIfInBounds_toArray, List.set_cons_zero, List.set_cons_succ]
        refine take_first (i := 5) (v := .int .i64 k) _ rfl rfl (by kernel_rfl) (by kernel_rfl) (by kernel_rfl) (fun _ _ _ h => h) (by rfl) ?_ (by assumption) ?_
        · intro wq hq
          obtain ⟨s0, s1⟩ := hq
          go_simp
          try rfl
        simp only [Act.put, List.setIfInBounds_toArray, List.set_cons_zero, List.set_cons_succ]
        refine take_first (i := 6) (v := .slice a k c) _ rfl rfl (by kernel_rfl) (by kernel_rfl) (by kernel_rfl) (fun _ _ _ h => h) (by rfl) ?_ (by assumption) ?_
        · intro wq hq
          obtain ⟨s0, s1⟩ := hq
          go_simp
          try rfl
        simp only [Act.put, List.setIfInBounds_toArray, List.set_cons_zero, List.set_cons_succ]
        refine wpAnyH_all (rs := [7]) (by kernel_rfl) (by decide) (List.forall_mem_cons.2 ⟨?_, fun _ h => absurd h List.not_mem_nil⟩)
        refine wpOp_wp rfl rfl (wp_call_at _ rfl (f := 74) (args := #[.int .i64 h, .slice a k c]) (by go_simp) ((HD2.out _ hbr.drew).mono ?_))
        rintro e2 w2 ⟨v2, rfl, hr2, hb2⟩
        obtain ⟨a2, c2, rfl, -⟩ := hr2.inn
        have hE2 : Below wr.heap.size wr w2 := (Below.refl _ _).drew.trans hb2
        obtain ⟨hc2, hf2⟩ := bcell hE2
        have hz2 := hE2.size
        have s0 := (hc2 _ _ p0).trans c0
        have s1 := (hc2 _ _ p0).trans c1
        have hbw : Below w.heap.size w w2 := hbr.trans (hE2.mono hbr.size)
        have HR2 : Hid (w2.ownsRow (w.heap.size + 1) 3 1 (.slice qa k qc) k (ints (lefK h L k))) := Lib.hid (by have := HR.out.below hE2; unfold IRow at this; rwa [HLK.out] at this)
        have HLT : ∀ j, (Value.slice qa k qc).ownBlock = some j → w.heap.size + 1 ≤ j := fun j hj => (World.ownsRow.lt HR2.out j hj).1
        obtain ⟨t, ht⟩ : ∃ t : Int, t = ((sol h (L.take k)).length : Int) := ⟨_, rfl⟩
        have HTT := Lib.hid ht
        clear hr2 hc2 hf2 hS1
        refine ⟨_, rfl, ⟨s0, s1⟩, ?_⟩
        simp only [Act.put, List.setIfInBounds_toArray, List.set_cons_zero, List.set_cons_succ]
        refine wpAnyH_all (rs := [8]) (by kernel_rfl) (by decide) (List.forall_mem_cons.2 ⟨?_, fun _ h => absurd h List.not_mem_nil⟩)
        refine wpOp_value (v := .int .i64 t) (w' := w2) _ rfl rfl rfl (by rw [ht]; clear ht; go_simp; try rfl) ⟨⟨s0, s1⟩, ?_⟩
        clear ht
        simp only [Act.put, List.setIfInBounds_toArray, List.set_cons_zero, List.set_cons_succ]
        refine wpAnyH_all (rs := [9]) (by kernel_rfl) (by decide) (List.forall_mem_cons.2 ⟨?_, fun _ h => absurd h List.not_mem_nil⟩)
        have hE3 : Below w2.heap.size w2 (w2.alloc (.cells #[.int .i64 t] 3)) := by (repeat' (first | (with_reducible exact Below.refl _ _) | (with_reducible assumption) | (with_reducible refine Below.alloc ?_ ?_ _) | (with_reducible refine Below.drew ?_) | (with_reducible refine below_drewN ?_ _) | (with_reducible refine Below.setCell ?_ ?_ _) | (with_reducible refine below_call ?_ ?_ (by assumption)) | go_size))
        have s2 := ((bcell hE3).1 w.heap.size 0 (by omega)).trans s0
        have s3 := ((bcell hE3).1 w.heap.size 1 (by omega)).trans s1
        refine wpOp_value (v := .slice (some ⟨w2.heap.size, 0, none⟩) 1 1) (w' := w2.alloc (.cells #[.int .i64 t] 3)) _ rfl rfl rfl (by go_simp; try rfl) ⟨⟨s2, s3⟩, ?_⟩
        simp only [Act.put, List.setIfInBounds_toArray, List.set_cons_zero, List.set_cons_succ]
        refine wpAnyH_all (rs := [10]) (by kernel_rfl) (by decide) (List.forall_mem_cons.2 ⟨?_, fun _ h => absurd h List.not_mem_nil⟩)
        refine wpOp_wp rfl rfl ?_
        refine wp_append_lies _ _ _ _ rfl (w.heap.size + 1) 3 i0 _ 1 8 Try.underlying42 I0.out Z0.out Z1.out Z2.out rfl (by omega) (.slice qa k qc) k _ rfl (HR2.out.alloc _) ⟨w2.heap.size, 0, none⟩ 1 1 [.int .i64 t] rfl rfl (World.news_of_block (cs := #[.int .i64 t]) (t := 3) (fr := (0, 0)) (by simpa using heap_alloc_new w2 _)) (by simp [Value.oneCell']) (by omega) (by unfold maxLen; omega) (by omega) (by simp; omega) (w2.heap.size + 1) (by simp) fun g cap w3 hown3 hgrow hat hlt3 => ?_
        have hb3 : Below w.heap.size w w3 := Below.grown (w := w2.alloc (.cells #[.int .i64 t] 3)) (by (repeat' (first | (with_reducible exact Below.refl _ _) | (with_reducible assumption) | (with_reducible refine Below.alloc ?_ ?_ _) | (with_reducible refine Below.drew ?_) | (with_reducible refine below_drewN ?_ _) | (with_reducible refine Below.setCell ?_ ?_ _) | (with_reducible refine below_call ?_ ?_ (by assumption)) | go_size))) hgrow (by simp; omega) (fun j hj => by have := HLT j hj; omega)
        have hz4 := hgrow.size
        simp only [World.size_alloc] at hz4
        have kc : ∀ o, w3.cell? ⟨w.heap.size, o, none⟩ = (w2.alloc (.cells #[.int .i64 t] 3)).cell? ⟨w.heap.size, o, none⟩ := fun o => cell_of_heap (hgrow.block _ (by simp; omega) (fun e => by have := HLT _ e.symm; omega))
        have v3 := (kc 0).trans s2
        have v4 := (kc 1).trans s3
        have OWN := Lib.hid hown3
        clear hown3 hgrow hat kc s2 s3 s0 s1 hE3
        refine ⟨⟨v3, v4⟩, ?_⟩
        simp only [Act.put, List.getElem_toArray, List.getElem_cons_succ, List.getElem_cons_zero, List.setIfInBounds_toArray, List.set_cons_zero, List.set_cons_succ]
        refine wpAnyH_all (rs := [11]) (by kernel_rfl) (by decide) (List.forall_mem_cons.2 ⟨?_, fun _ h => absurd h List.not_mem_nil⟩)
        refine wpOp_value (v := .slice (some ⟨g, 0, none⟩) (k + 1) cap) (w' := w3) _ rfl rfl rfl (by go_simp; try rfl) ⟨⟨v3, v4⟩, ?_⟩
        simp only [Act.put, List.setIfInBounds_toArray, List.set_cons_zero, List.set_cons_succ]
        refine wpAnyH_done (by kernel_rfl) ?_ _
        go_wp2
        go_roundw
        case rel =>
          refine ⟨k + 1, by omega, by go_num, ?_, v3, v4, by omega, hb3⟩
          unfold IRow
          rw [HS.out, lefK_len, show cntT h L k = t from HTT.out.symm]
          exact OWN.out
        case measure => simp [intOf]; omega

      · obtain rfl : k = L.length + 1 := by omega
        go_wp2
        (refine bodyPost_ret (by simp [results, Try.results52, go_sem, *]; try rfl) rfl ?_)
        rw [HM2.out]
        exact ⟨_, rfl, HR.out.mono (by omega), hbr⟩

end Go.Proofs.Ytcpgjjmamclklaa
