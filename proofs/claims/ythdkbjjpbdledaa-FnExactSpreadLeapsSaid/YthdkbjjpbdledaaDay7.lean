/- MonthsOf and SpreadLeaps: by the program and by the model. -/
import Derived.Test.YthdkbjjpbdledaaDBRow
import Derived.Test.YthdkbjjpbdledaaDay2
import Derived.Test.YthdkbjjpbdledaaOrder
import Derived.Laws.OwnMore
import Derived.OwnWalk
import Derived.Deep.AppendLies
set_option linter.unusedSimpArgs false
set_option linter.unusedVariables false
set_option maxRecDepth 100000
namespace Go.Proofs.Ythdkbjjpbdledaa
open Go.RowKit

/-- What the k-th of equal steps of num / den brings in whole ones. -/
def wsI (k num den : Int) : Int := k * num / den - (k - 1) * num / den
theorem mulM {a b A B : Int} (h1 : 0 ≤ a) (h2 : a ≤ A) (h3 : 0 ≤ b) (h4 : b ≤ B) : 0 ≤ a * b ∧ a * b ≤ A * B :=
  ⟨Int.mul_nonneg h1 h3, Int.mul_le_mul h2 h4 h3 (by omega)⟩
theorem div_add (m a b : Int) (hb : 1 ≤ b) (h0 : 0 ≤ a) (h1 : a ≤ b) : 0 ≤ (m + a) / b - m / b ∧ (m + a) / b - m / b ≤ 1 := by
  have e1 : m / b ≤ (m + a) / b := Int.ediv_le_ediv (by omega) (by omega)
  have e2 : (m + a) / b ≤ (m + 1 * b) / b := Int.ediv_le_ediv (by omega) (by omega)
  rw [Int.add_mul_ediv_right _ _ (by omega)] at e2
  omega
theorem wsI_bit (k a b : Int) (hb : 1 ≤ b) (h0 : 0 ≤ a) (h1 : a ≤ b) : wsI k a b = 0 ∨ wsI k a b = 1 := by
  have := div_add ((k - 1) * a) a b hb h0 h1
  rw [show (k - 1) * a + a = k * a by rw [Int.sub_mul]; omega] at this
  unfold wsI; omega
theorem wsI_ints {k num den : Int} (hk : 1 ≤ k ∧ k ≤ 1000) (hn : 0 ≤ num ∧ num ≤ 1000000) (hd : 1 ≤ den) :
    (0 ≤ k * num ∧ k * num ≤ 1000000000) ∧ (0 ≤ (k - 1) * num ∧ (k - 1) * num ≤ 1000000000) ∧ (0 ≤ k * num / den ∧ k * num / den ≤ 1000000000) ∧ (0 ≤ (k - 1) * num / den ∧ (k - 1) * num / den ≤ 1000000000) := by
  have m1 := mulM (show 0 ≤ k by omega) hk.2 hn.1 hn.2
  have m2 := mulM (show 0 ≤ k - 1 by omega) (show k - 1 ≤ 1000 by omega) hn.1 hn.2
  have q1 := Int.ediv_le_self den m1.1
  have q2 := Int.ediv_le_self den m2.1
  have q3 := Int.ediv_nonneg m1.1 (show 0 ≤ den by omega)
  have q4 := Int.ediv_nonneg m2.1 (show 0 ≤ den by omega)
  omega
set_option maxHeartbeats 800000 in
theorem wholeStep_any (k num den : Int) (hk : 1 ≤ k ∧ k ≤ 1000) (hn : 0 ≤ num ∧ num ≤ 1000000) (hd : 1 ≤ den ∧ den ≤ 1000000) (w : World) :
    Calls Try.prog 99 #[.int .i64 k, .int .i64 num, .int .i64 den] w fun e' w' => e' = .returned (.int .i64 (wsI k num den)) ∧ Below w.heap.size w w' := by
  obtain ⟨⟨m1, m2⟩, ⟨m3, m4⟩, ⟨m5, m6⟩, m7, m8⟩ := wsI_ints hk hn hd.1
  have v1 : IntKind.i64.wrap (k * num) = k * num := dw64 (by omega)
  have v2 : IntKind.i64.wrap ((k - 1) * num) = (k - 1) * num := dw64 (by omega)
  have v3 : IntKind.i64.wrap (k - 1) = k - 1 := dw64 (by omega)
  have v4 := dq64 (n := k * num) (g := den) m1 (by omega) (by omega)
  have v5 := dq64 (n := (k - 1) * num) (g := den) m3 (by omega) (by omega)
  have v6 : IntKind.i64.wrap (k * num / den - (k - 1) * num / den) = k * num / den - (k - 1) * num / den := dw64 (by omega)
  have v7 : ¬ (den = 0) := by omega
  have HM := Lib.hid (show k * num / den - (k - 1) * num / den = wsI k num den from rfl)
  clear m5 m6 m7 m8
  (go_enter Try.func99, Try.ntmps99)
  go_wp2_with fail
  refine wp_region_below (by kernel_rfl) (by kernel_rfl) ?_
  (apply wpB_take (hw := rfl); (intro wq hq; obtain ⟨hcq, hfq⟩ := bcell hq; unfold atB; go_simp; exact ⟨rfl, rfl⟩); simp only [Act.put, List.setIfInBounds_toArray, List.set_cons_zero, List.set_cons_succ])
  (apply wpB_take (hw := rfl); (intro wq hq; obtain ⟨hcq, hfq⟩ := bcell hq; unfold atB; go_simp; exact ⟨rfl, rfl⟩); simp only [Act.put, List.setIfInBounds_toArray, List.set_cons_zero, List.set_cons_succ])
  (apply wpB_take (hw := rfl); (intro wq hq; obtain ⟨hcq, hfq⟩ := bcell hq; unfold atB; go_simp; exact ⟨rfl, rfl⟩); simp only [Act.put, List.setIfInBounds_toArray, List.set_cons_zero, List.set_cons_succ])
  (apply wpB_take (hw := rfl); (intro wq hq; obtain ⟨hcq, hfq⟩ := bcell hq; unfold atB; go_simp; exact ⟨rfl, rfl⟩); simp only [Act.put, List.setIfInBounds_toArray, List.set_cons_zero, List.set_cons_succ])
  (apply wpB_take (hw := rfl); (intro wq hq; obtain ⟨hcq, hfq⟩ := bcell hq; unfold atB; go_simp; exact ⟨rfl, rfl⟩); simp only [Act.put, List.setIfInBounds_toArray, List.set_cons_zero, List.set_cons_succ])
  (apply wpB_take (hw := rfl); (intro wq hq; obtain ⟨hcq, hfq⟩ := bcell hq; unfold atB; go_simp; exact ⟨rfl, rfl⟩); simp only [Act.put, List.setIfInBounds_toArray, List.set_cons_zero, List.set_cons_succ])
  (apply wpB_take (hw := rfl); (intro wq hq; obtain ⟨hcq, hfq⟩ := bcell hq; unfold atB; go_simp; exact ⟨rfl, rfl⟩); simp only [Act.put, List.setIfInBounds_toArray, List.set_cons_zero, List.set_cons_succ])
  (apply wpB_take (hw := rfl); (intro wq hq; obtain ⟨hcq, hfq⟩ := bcell hq; unfold atB; go_simp; exact ⟨rfl, rfl⟩); simp only [Act.put, List.setIfInBounds_toArray, List.set_cons_zero, List.set_cons_succ])
  (apply wpB_take (hw := rfl); (intro wq hq; obtain ⟨hcq, hfq⟩ := bcell hq; unfold atB; go_simp; exact ⟨rfl, rfl⟩); simp only [Act.put, List.setIfInBounds_toArray, List.set_cons_zero, List.set_cons_succ])
  (apply wpB_take (hw := rfl); (intro wq hq; obtain ⟨hcq, hfq⟩ := bcell hq; unfold atB; go_simp; exact ⟨rfl, rfl⟩); simp only [Act.put, List.setIfInBounds_toArray, List.set_cons_zero, List.set_cons_succ])
  (apply wpB_take (hw := rfl); (intro wq hq; obtain ⟨hcq, hfq⟩ := bcell hq; unfold atB; go_simp; exact ⟨rfl, rfl⟩); simp only [Act.put, List.setIfInBounds_toArray, List.set_cons_zero, List.set_cons_succ])
  (apply wpB_take (hw := rfl); (intro wq hq; obtain ⟨hcq, hfq⟩ := bcell hq; unfold atB; go_simp; exact ⟨rfl, rfl⟩); simp only [Act.put, List.setIfInBounds_toArray, List.set_cons_zero, List.set_cons_succ])
  (apply wpB_take (hw := rfl); (intro wq hq; obtain ⟨hcq, hfq⟩ := bcell hq; unfold atB; go_simp; exact ⟨rfl, rfl⟩); simp only [Act.put, List.setIfInBounds_toArray, List.set_cons_zero, List.set_cons_succ])
  refine fun w1 hb1 => ?_
  (obtain ⟨hc1, hf1⟩ := bcell hb1; have hz1 := hb1.size; (try simp only [World.size_alloc, World.size_setCell, World.size_drew] at hz1); have q1 : w.heap.size ≤ w1.heap.size := (by omega); (try have q1_0 : w.heap.size < w1.heap.size := (by omega)); (try have q1_1 : w.heap.size + 1 < w1.heap.size := (by omega)); (try have q1_2 : w.heap.size + 2 < w1.heap.size := (by omega)); (try have q1_3 : w.heap.size + 3 < w1.heap.size := (by omega)); try simp only [Act.put, List.setIfInBounds_toArray, List.set_cons_zero, List.set_cons_succ])
  go_wp2
  go_ret
  exact ⟨dret_int HM.out, by (repeat' (first | (with_reducible exact Below.refl _ _) | (with_reducible assumption) | (with_reducible refine Below.alloc ?_ ?_ _) | (with_reducible refine Below.drew ?_) | (with_reducible refine below_drewN ?_ _) | (with_reducible refine Below.setCell ?_ ?_ _) | (with_reducible refine below_call ?_ ?_ (by assumption)) | go_size))⟩

def moB (num den m : Int) : Bool := decide (1 ≤ den ∧ den ≤ num ∧ num ≤ 1000000 ∧ 1 ≤ m ∧ m ≤ 400)
def moF (num den : Int) (k : Nat) : Int := wsI ((k : Int) + 1) num den
def moL (num den m : Int) : List Int := if moB num den m then (List.range m.toNat).map (moF num den) else []
theorem moL_len (num den m : Int) : (moL num den m).length ≤ 1000 := by
  unfold moL
  split
  · rename_i h; simp [moB] at h; simp; omega
  · simp
def spB (a n : Int) : Bool := decide (0 ≤ a ∧ a ≤ n ∧ 1 ≤ n ∧ n ≤ 1000)
def spF (a n : Int) (k : Nat) : Bool := decide (wsI ((k : Int) + 1) a n = 1)
def spL (a n : Int) : List Bool := if spB a n then (List.range n.toNat).map (spF a n) else []
theorem spL_len (a n : Int) : (spL a n).length ≤ 1000 := by
  unfold spL
  split
  · rename_i h; simp [spB] at h; simp; omega
  · simp
theorem map_range_get {α : Type} (f : Nat → α) (d : α) {N k : Nat} (hk : k < N) : ((List.range N).map f).getD k d = f k := by simp [List.getD_eq_getElem?_getD, hk]
theorem snocIr (f : Nat → Int) (k : Nat) : ints ((List.range k).map f) ++ [.int .i64 (f k)] = ints ((List.range (k + 1)).map f) := by simp [ints, List.range_succ]
theorem snocBr (f : Nat → Bool) (k : Nat) : bools ((List.range k).map f) ++ [.bool (f k)] = bools ((List.range (k + 1)).map f) := by simp [bools, List.range_succ]
theorem rangeI {dk : List Int} {N : Nat} {f : Nat → Int} (hl : dk.length = N) (h : ∀ j, j < N → dk.getD j 0 = f j) : dk = (List.range N).map f :=
  list_extI (by simpa using hl) (fun j hj => by have hj' : j < N := by simpa using hj
                                                rw [h j hj', map_range_get f 0 hj'])
theorem rangeB {dk : List Bool} {N : Nat} {f : Nat → Bool} (hl : dk.length = N) (h : ∀ j, j < N → dk.getD j false = f j) : dk = (List.range N).map f :=
  list_extB (by simpa using hl) (fun j hj => by have hj' : j < N := by simpa using hj
                                                rw [h j hj', map_range_get f false hj'])
theorem getDB_self {L : List Bool} {k : Nat} {x : Bool} (hk : k < L.length) : (L.set k x).getD k false = x := by
  rw [List.getD_eq_getElem?_getD, List.getElem?_set_self hk]; rfl
theorem getDB_far {L : List Bool} {k j : Nat} {x : Bool} (h : k ≠ j) : (L.set k x).getD j false = L.getD j false := by
  rw [List.getD_eq_getElem?_getD, List.getElem?_set_ne h, ← List.getD_eq_getElem?_getD]
theorem getD_selfI {L : List Int} {k : Nat} {x : Int} (hk : k < L.length) : (L.set k x).getD k 0 = x := getD_set_self hk
theorem getD_farI {L : List Int} {k j : Nat} {x : Int} (h : k ≠ j) : (L.set k x).getD j 0 = L.getD j 0 := getD_set_far h
set_option maxHeartbeats 3200000 in
theorem implMonthsOf_any (num den m : Int) (w : World) :
    Calls Try.prog 52 #[.int .i64 num, .int .i64 den, .int .i64 m] w (IntsOut w (moL num den m) (moB num den m)) := by
  cases g1 : inB den 1 1000000
  · have f0 := inBn g1
    have HB : Hid (moB num den m = false) := (by simp only [moB]; exact decide_eq_false (by omega))
    have HL := Lib.hid (show moL num den m = [] from by unfold moL; rw [HB.out]; simp)
    (go_enter Try.func52, Try.ntmps52)
    go_wp2_with fail
    refine (isWithin_is _ _ _ g1 _).mono ?_
    (rintro e1 w1 ⟨rfl, rfl⟩)
    go_wp2
    (refine bodyPost_ret (by simp [results, Try.results52, go_sem, *]; try rfl) rfl ?_)
    rw [HL.out, HB.out]
    exact IntsOut.none (by (repeat' (first | (with_reducible exact Below.refl _ _) | (with_reducible assumption) | (with_reducible refine Below.alloc ?_ ?_ _) | (with_reducible refine Below.drew ?_) | (with_reducible refine below_drewN ?_ _) | (with_reducible refine Below.setCell ?_ ?_ _) | (with_reducible refine below_call ?_ ?_ (by assumption)) | go_size)))
  · have b0 := inBd g1
    cases g2 : inB num den 1000000
    · have f1 := inBn g2
      have HB : Hid (moB num den m = false) := (by simp only [moB]; exact decide_eq_false (by omega))
      have HL := Lib.hid (show moL num den m = [] from by unfold moL; rw [HB.out]; simp)
      (go_enter Try.func52, Try.ntmps52)
      go_wp2_with fail
      refine (isWithin_is _ _ _ g1 _).mono ?_
      (rintro e1 w1 ⟨rfl, rfl⟩)
      go_wp2_with fail
      refine (isWithin_is _ _ _ g2 _).mono ?_
      (rintro e1 w1 ⟨rfl, rfl⟩)
      go_wp2
      (refine bodyPost_ret (by simp [results, Try.results52, go_sem, *]; try rfl) rfl ?_)
      rw [HL.out, HB.out]
      exact IntsOut.none (by (repeat' (first | (with_reducible exact Below.refl _ _) | (with_reducible assumption) | (with_reducible refine Below.alloc ?_ ?_ _) | (with_reducible refine Below.drew ?_) | (with_reducible refine below_drewN ?_ _) | (with_reducible refine Below.setCell ?_ ?_ _) | (with_reducible refine below_call ?_ ?_ (by assumption)) | go_size)))
    · have b1 := inBd g2
      cases g3 : inB m 1 400
      · have f2 := inBn g3
        have HB : Hid (moB num den m = false) := (by simp only [moB]; exact decide_eq_false (by omega))
        have HL := Lib.hid (show moL num den m = [] from by unfold moL; rw [HB.out]; simp)
        (go_enter Try.func52, Try.ntmps52)
        go_wp2_with fail
        refine (isWithin_is _ _ _ g1 _).mono ?_
        (rintro e1 w1 ⟨rfl, rfl⟩)
        go_wp2_with fail
        refine (isWithin_is _ _ _ g2 _).mono ?_
        (rintro e1 w1 ⟨rfl, rfl⟩)
        go_wp2_with fail
        refine (isWithin_is _ _ _ g3 _).mono ?_
        (rintro e1 w1 ⟨rfl, rfl⟩)
        go_wp2
        (refine bodyPost_ret (by simp [results, Try.results52, go_sem, *]; try rfl) rfl ?_)
        rw [HL.out, HB.out]
        exact IntsOut.none (by (repeat' (first | (with_reducible exact Below.refl _ _) | (with_reducible assumption) | (with_reducible refine Below.alloc ?_ ?_ _) | (with_reducible refine Below.drew ?_) | (with_reducible refine below_drewN ?_ _) | (with_reducible refine Below.setCell ?_ ?_ _) | (with_reducible refine below_call ?_ ?_ (by assumption)) | go_size)))
      · have b2 := inBd g3
        have HB := Lib.hid (show moB num den m = true from by simp only [moB]; exact decide_eq_true (by omega))
        obtain ⟨N, hN⟩ : ∃ N : Nat, m = (N : Int) := ⟨m.toNat, by omega⟩
        have HL := Lib.hid (show moL num den m = (List.range N).map (moF num den) from by unfold moL; rw [HB.out, hN]; simp)
        subst hN
        obtain ⟨i0, hi0, hz0, hz1, hz2⟩ := info_parts Try.infoInt
        have I0 := Lib.hid hi0
        have Z0 := Lib.hid hz0
        have Z1 := Lib.hid hz1
        have Z2 := Lib.hid hz2
        clear hi0 hz0 hz1 hz2
        have WS := Lib.hid (fun (k : Nat) (hk : k < N) w => (show Calls _ _ _ _ _ from wholeStep_any ((k : Int) + 1) num den ⟨by omega, by omega⟩ ⟨by omega, by omega⟩ ⟨by omega, by omega⟩ w))
        (go_enter Try.func52, Try.ntmps52)
        go_wp2_with fail
        refine (isWithin_is _ _ _ g1 _).mono ?_
        (rintro e1 w1 ⟨rfl, rfl⟩)
        go_wp2_with fail
        refine (isWithin_is _ _ _ g2 _).mono ?_
        (rintro e1 w1 ⟨rfl, rfl⟩)
        go_wp2_with fail
        refine (isWithin_is _ _ _ g3 _).mono ?_
        (rintro e1 w1 ⟨rfl, rfl⟩)
        go_wp2_with (at_make; refine wpList_make_full _ rfl _ _ 52 rfl w.heap.size 3 i0 (.int .i64 0) 1 Try.underlying52 I0.out Z0.out Z1.out .i64 .i64 _ _ N rfl rfl (by simp) (by simp) (by rw [Z2.out]; omega) (by unfold maxLen; omega) (by go_size) ?_; intro w0 hown0 hgrow0)
        rw [made_zeroI] at hown0
        have hb0 : Below w.heap.size w w0 := Below.grown (Below.refl _ _) hgrow0 (by go_size) (fun k hk => by cases hk)
        have hz0' := hgrow0.size
        have HO0 := Lib.hid hown0
        clear hown0 hgrow0
        go_wp2
        go_loopw [28] (fun i wr => ∃ (k : Nat) (dk : List Int), k ≤ N ∧ i = .int .i64 k ∧ dk.length = N ∧ (∀ j, j < k → dk.getD j 0 = moF num den j) ∧ wr.ownsRow w.heap.size 3 1 (.slice (some ⟨w.heap.size, 0, none⟩) N N) N (ints dk) ∧ Below w.heap.size w wr) (fun i _ => N - (intOf i).toNat)
        case atStart => exact ⟨0, List.replicate N 0, Nat.zero_le _, rfl, by simp, fun j hj => absurd hj (Nat.not_lt_zero _), HO0.out, hb0⟩
        case round =>
          obtain ⟨k, dk, hk, rfl, hdl, hall, hown, hbr⟩ := hrel
          have HA := Lib.hid hall
          have HO := Lib.hid hown
          have hzr := hbr.size
          have i0' : (0 : Int) ≤ (k : Int) := Int.natCast_nonneg _
          by_cases hlt : k < N
          · have hglt : w.heap.size < wr.heap.size := (World.ownsRow.lt hown w.heap.size rfl).2
            have i1 : (k : Int) < (N : Int) := by omega
            have HF : Hid (wsI ((k : Int) + 1) num den = moF num den k) := rfl
            clear hall hown
            have v1 : IntKind.i64.wrap ((k : Int) + 1) = (k : Int) + 1 := dw64 (by omega)
            have WK := Lib.hid (fun w => WS.out k hlt w)
            generalize wsI ((k : Int) + 1) num den = x at *
            go_wp2_with fail
            refine ((WK.out _)).mono ?_
            rintro e3 w3 ⟨rfl, hb3⟩
            have HO3 := Lib.hid (World.ownsRow.kept HO.out (row := none) ⟨hb3.os, hb3.tape, hb3.output, hb3.size, fun k hk _ => hb3.block k hk⟩ (by simp [Value.ownBlock]))
            have z0 : w3.frozen? ⟨w.heap.size, k, none⟩ = false := World.ownsRow.frozenAt HO3.out _
            have d0 := (World.ownsRow.cellAt HO3.out k (by omega)).trans (ints_get dk k (by omega))
            have hs3 := hb3.size
            have hg3 : w.heap.size < w3.heap.size := by omega
            have hbr3 : Below w.heap.size w w3 := hbr.trans (hb3.mono hbr.size)
            generalize dk.getD k 0 = o1 at d0
            go_wp2
            go_roundw
            case rel =>
              have s1 := World.ownsRow.stored HO3.out k (.int .i64 (x))
              refine ⟨k + 1, dk.set k (x), by omega, by go_num, by simpa using hdl, fun j hj => ?_, ?_, ?_⟩
              · by_cases hjk : j = k
                · subst hjk; rw [getD_selfI (by omega)]; exact HF.out
                · rw [getD_farI (by omega)]; exact HA.out j (by omega)
              · rw [← ints_set]
                exact s1.1
              · exact Below.grown hbr3 s1.2 (by omega) (fun j hj => some_le' hj (Nat.le_refl _))
            case measure => simp [intOf]; omega
          · obtain rfl : k = N := by omega
            have HE := Lib.hid (rangeI hdl HA.out)
            clear hall hown
            go_wp2
            (refine bodyPost_ret (by simp [results, Try.results52, go_sem, *]; try rfl) rfl ?_)
            rw [HL.out, HB.out]
            refine ⟨_, rfl, ?_, hbr⟩
            unfold IRow
            rw [List.length_map, List.length_range, ← HE.out]
            exact HO.out

set_option maxHeartbeats 3200000 in
theorem specMonthsOf_any (num den m : Int) (w : World) :
    Calls Try.prog 51 #[.int .i64 num, .int .i64 den, .int .i64 m] w (IntsOut w (moL num den m) (moB num den m)) := by
  cases g1 : inB num 1 1000000
  · have f0 := inBn g1
    have HB : Hid (moB num den m = false) := (by simp only [moB]; exact decide_eq_false (by omega))
    have HL := Lib.hid (show moL num den m = [] from by unfold moL; rw [HB.out]; simp)
    (go_enter Try.func51, Try.ntmps51)
    go_wp2_with fail
    refine (l1In_is _ _ _ g1 _).mono ?_
    (rintro e1 w1 ⟨rfl, rfl⟩)
    go_wp2
    (refine bodyPost_ret (by simp [results, Try.results51, go_sem, *]; try rfl) rfl ?_)
    rw [HL.out, HB.out]
    exact IntsOut.none (by (repeat' (first | (with_reducible exact Below.refl _ _) | (with_reducible assumption) | (with_reducible refine Below.alloc ?_ ?_ _) | (with_reducible refine Below.drew ?_) | (with_reducible refine below_drewN ?_ _) | (with_reducible refine Below.setCell ?_ ?_ _) | (with_reducible refine below_call ?_ ?_ (by assumption)) | go_size)))
  · have b0 := inBd g1
    cases g2 : inB den 1 num
    · have f1 := inBn g2
      have HB : Hid (moB num den m = false) := (by simp only [moB]; exact decide_eq_false (by omega))
      have HL := Lib.hid (show moL num den m = [] from by unfold moL; rw [HB.out]; simp)
      (go_enter Try.func51, Try.ntmps51)
      go_wp2_with fail
      refine (l1In_is _ _ _ g1 _).mono ?_
      (rintro e1 w1 ⟨rfl, rfl⟩)
      go_wp2_with fail
      refine (l1In_is _ _ _ g2 _).mono ?_
      (rintro e1 w1 ⟨rfl, rfl⟩)
      go_wp2
      (refine bodyPost_ret (by simp [results, Try.results51, go_sem, *]; try rfl) rfl ?_)
      rw [HL.out, HB.out]
      exact IntsOut.none (by (repeat' (first | (with_reducible exact Below.refl _ _) | (with_reducible assumption) | (with_reducible refine Below.alloc ?_ ?_ _) | (with_reducible refine Below.drew ?_) | (with_reducible refine below_drewN ?_ _) | (with_reducible refine Below.setCell ?_ ?_ _) | (with_reducible refine below_call ?_ ?_ (by assumption)) | go_size)))
    · have b1 := inBd g2
      cases g3 : inB m 1 400
      · have f2 := inBn g3
        have HB : Hid (moB num den m = false) := (by simp only [moB]; exact decide_eq_false (by omega))
        have HL := Lib.hid (show moL num den m = [] from by unfold moL; rw [HB.out]; simp)
        (go_enter Try.func51, Try.ntmps51)
        go_wp2_with fail
        refine (l1In_is _ _ _ g1 _).mono ?_
        (rintro e1 w1 ⟨rfl, rfl⟩)
        go_wp2_with fail
        refine (l1In_is _ _ _ g2 _).mono ?_
        (rintro e1 w1 ⟨rfl, rfl⟩)
        go_wp2_with fail
        refine (l1In_is _ _ _ g3 _).mono ?_
        (rintro e1 w1 ⟨rfl, rfl⟩)
        go_wp2
        (refine bodyPost_ret (by simp [results, Try.results51, go_sem, *]; try rfl) rfl ?_)
        rw [HL.out, HB.out]
        exact IntsOut.none (by (repeat' (first | (with_reducible exact Below.refl _ _) | (with_reducible assumption) | (with_reducible refine Below.alloc ?_ ?_ _) | (with_reducible refine Below.drew ?_) | (with_reducible refine below_drewN ?_ _) | (with_reducible refine Below.setCell ?_ ?_ _) | (with_reducible refine below_call ?_ ?_ (by assumption)) | go_size)))
      · have b2 := inBd g3
        have HB := Lib.hid (show moB num den m = true from by simp only [moB]; exact decide_eq_true (by omega))
        obtain ⟨N, hN⟩ : ∃ N : Nat, m = (N : Int) := ⟨m.toNat, by omega⟩
        have HL := Lib.hid (show moL num den m = (List.range N).map (moF num den) from by unfold moL; rw [HB.out, hN]; simp)
        subst hN
        obtain ⟨i0, hi0, hz0, hz1, hz2⟩ := info_parts Try.infoInt
        have I0 := Lib.hid hi0
        have Z0 := Lib.hid hz0
        have Z1 := Lib.hid hz1
        have Z2 := Lib.hid hz2
        clear hi0 hz0 hz1 hz2
        have FX := Lib.hid (fun (k : Nat) (hk : k < N) => wsI_ints (k := (k : Int) + 1) (num := num) (den := den) ⟨by omega, by omega⟩ ⟨by omega, by omega⟩ (by omega))
        have FB := Lib.hid (fun (k : Nat) => (rfl : wsI ((k : Int) + 1) num den = wsI ((k : Int) + 1) num den))
        (go_enter Try.func51, Try.ntmps51)
        go_wp2_with fail
        refine (l1In_is _ _ _ g1 _).mono ?_
        (rintro e1 w1 ⟨rfl, rfl⟩)
        go_wp2_with fail
        refine (l1In_is _ _ _ g2 _).mono ?_
        (rintro e1 w1 ⟨rfl, rfl⟩)
        go_wp2_with fail
        refine (l1In_is _ _ _ g3 _).mono ?_
        (rintro e1 w1 ⟨rfl, rfl⟩)
        go_wp2
        go_loopw [8, 9] (fun o i wr => ∃ k : Nat, k ≤ N ∧ i = .int .i64 ((k : Int) + 1) ∧ wr.ownsRow w.heap.size 3 1 o k (ints ((List.range k).map (moF num den))) ∧ Below w.heap.size w wr) (fun _ i _ => N + 1 - (intOf i).toNat)
        case atStart => exact ⟨0, by omega, rfl, World.ownsRow_nil _ _ _ _, Below.refl _ _⟩
        case round =>
          obtain ⟨k, hk, rfl, hown, hbel⟩ := hrel
          have HO := Lib.hid hown
          have hzr := hbel.size
          have i0' : (0 : Int) ≤ (k : Int) := Int.natCast_nonneg _
          by_cases hlt : k < N
          · obtain ⟨⟨m1, m2⟩, ⟨m3, m4⟩, ⟨m5, m6⟩, m7, m8⟩ := FX.out k hlt
            have i1 : (k : Int) + 1 ≤ (N : Int) := by omega
            rw [show (k : Int) + 1 - 1 = (k : Int) by omega] at m3 m4 m7 m8
            have v1 : IntKind.i64.wrap (((k : Int) + 1) * num) = ((k : Int) + 1) * num := dw64 (by omega)
            have v2 : IntKind.i64.wrap ((k : Int) * num) = (k : Int) * num := dw64 (by omega)
            obtain ⟨A, hA⟩ : ∃ A, ((k : Int) + 1) * num / den = A := ⟨_, rfl⟩
            obtain ⟨B, hB⟩ : ∃ B, (k : Int) * num / den = B := ⟨_, rfl⟩
            have v4 : IntKind.i64.wrap ((((k : Int) + 1) * num).tdiv den) = A := by rw [← hA]; exact dq64 m1 (by omega) (by omega)
            have v5 : IntKind.i64.wrap (((k : Int) * num).tdiv den) = B := by rw [← hB]; exact dq64 m3 (by omega) (by omega)
            have v7 : ¬ (den = 0) := by omega
            have v8 : IntKind.i64.wrap (k : Int) = (k : Int) := dw64 (by omega)
            have v9 : ¬ (N = 0) := by omega
            rw [hA] at m5 m6
            rw [hB] at m7 m8
            have v6 : IntKind.i64.wrap (A - B) = A - B := dw64 (by omega)
            have HV : Hid ((A - B) = moF num den k) := by
              have := FB.out k
              show (A - B) = moF num den k
              unfold moF wsI; rw [show (k : Int) + 1 - 1 = (k : Int) by omega, hA, hB]
            have HLT : ∀ k, u8.ownBlock = some k → w.heap.size ≤ k := fun k hk => (World.ownsRow.lt HO.out k hk).1
            clear hown hA hB
            go_wp2_with fail
            refine wp_region_held (by kernel_rfl) (S := fun W => Below w.heap.size w W) ?_
            have hb0 : Below w.heap.size w wr.drew := hbel.drew
            refine take_first (i := 0) (v := u8) 29 rfl rfl (by kernel_rfl) (by kernel_rfl) (by kernel_rfl) (fun _ _ _ h => h) (by rfl) ?_ (by assumption) ?_
            · intro W hS'
              obtain ⟨hcq, hfq⟩ := bcell hS'
              go_simp
            simp only [Act.put, List.setIfInBounds_toArray, List.set_cons_zero, List.set_cons_succ]
            refine take_first (i := 1) (v := .int .i64 ((k : Int) + 1)) 30 rfl rfl (by kernel_rfl) (by kernel_rfl) (by kernel_rfl) (fun _ _ _ h => h) (by rfl) ?_ (by assumption) ?_
            · intro W hS'
              obtain ⟨hcq, hfq⟩ := bcell hS'
              go_simp
            simp only [Act.put, List.setIfInBounds_toArray, List.set_cons_zero, List.set_cons_succ]
            refine take_first (i := 2) (v := .int .i64 num) 31 rfl rfl (by kernel_rfl) (by kernel_rfl) (by kernel_rfl) (fun _ _ _ h => h) (by rfl) ?_ (by assumption) ?_
            · intro W hS'
              obtain ⟨hcq, hfq⟩ := bcell hS'
              go_simp
            simp only [Act.put, List.setIfInBounds_toArray, List.set_cons_zero, List.set_cons_succ]
            refine take_first (i := 3) (v := .int .i64 (((k : Int) + 1) * num)) 32 rfl rfl (by kernel_rfl) (by kernel_rfl) (by kernel_rfl) (fun _ _ _ h => h) (by rfl) ?_ (by assumption) ?_
            · intro W hS'
              obtain ⟨hcq, hfq⟩ := bcell hS'
              go_simp
            simp only [Act.put, List.setIfInBounds_toArray, List.set_cons_zero, List.set_cons_succ]
            refine take_first (i := 4) (v := .int .i64 den) 33 rfl rfl (by kernel_rfl) (by kernel_rfl) (by kernel_rfl) (fun _ _ _ h => h) (by rfl) ?_ (by assumption) ?_
            · intro W hS'
              obtain ⟨hcq, hfq⟩ := bcell hS'
              go_simp
            simp only [Act.put, List.setIfInBounds_toArray, List.set_cons_zero, List.set_cons_succ]
            refine take_first (i := 5) (v := .int .i64 A) 34 rfl rfl (by kernel_rfl) (by kernel_rfl) (by kernel_rfl) (fun _ _ _ h => h) (by rfl) ?_ (by assumption) ?_
            · intro W hS'
              obtain ⟨hcq, hfq⟩ := bcell hS'
              go_simp
            simp only [Act.put, List.setIfInBounds_toArray, List.set_cons_zero, List.set_cons_succ]
            refine take_first (i := 6) (v := .int .i64 ((k : Int) + 1)) 35 rfl rfl (by kernel_rfl) (by kernel_rfl) (by kernel_rfl) (fun _ _ _ h => h) (by rfl) ?_ (by assumption) ?_
            · intro W hS'
              obtain ⟨hcq, hfq⟩ := bcell hS'
              go_simp
            simp only [Act.put, List.setIfInBounds_toArray, List.set_cons_zero, List.set_cons_succ]
            refine take_first (i := 7) (v := .int .i64 (k : Int)) 36 rfl rfl (by kernel_rfl) (by kernel_rfl) (by kernel_rfl) (fun _ _ _ h => h) (by rfl) ?_ (by assumption) ?_
            · intro W hS'
              obtain ⟨hcq, hfq⟩ := bcell hS'
              go_simp
            simp only [Act.put, List.setIfInBounds_toArray, List.set_cons_zero, List.set_cons_succ]
            refine take_first (i := 8) (v := .int .i64 num) 37 rfl rfl (by kernel_rfl) (by kernel_rfl) (by kernel_rfl) (fun _ _ _ h => h) (by rfl) ?_ (by assumption) ?_
            · intro W hS'
              obtain ⟨hcq, hfq⟩ := bcell hS'
              go_simp
            simp only [Act.put, List.setIfInBounds_toArray, List.set_cons_zero, List.set_cons_succ]
            refine take_first (i := 9) (v := .int .i64 ((k : Int) * num)) 38 rfl rfl (by kernel_rfl) (by kernel_rfl) (by kernel_rfl) (fun _ _ _ h => h) (by rfl) ?_ (by assumption) ?_
            · intro W hS'
              obtain ⟨hcq, hfq⟩ := bcell hS'
              go_simp
            simp only [Act.put, List.setIfInBounds_toArray, List.set_cons_zero, List.set_cons_succ]
            refine take_first (i := 10) (v := .int .i64 den) 39 rfl rfl (by kernel_rfl) (by kernel_rfl) (by kernel_rfl) (fun _ _ _ h => h) (by rfl) ?_ (by assumption) ?_
            · intro W hS'
              obtain ⟨hcq, hfq⟩ := bcell hS'
              go_simp
            simp only [Act.put, List.setIfInBounds_toArray, List.set_cons_zero, List.set_cons_succ]
            refine take_first (i := 11) (v := .int .i64 B) 40 rfl rfl (by kernel_rfl) (by kernel_rfl) (by kernel_rfl) (fun _ _ _ h => h) (by rfl) ?_ (by assumption) ?_
            · intro W hS'
              obtain ⟨hcq, hfq⟩ := bcell hS'
              go_simp
            simp only [Act.put, List.setIfInBounds_toArray, List.set_cons_zero, List.set_cons_succ]
            refine take_first (i := 12) (v := .int .i64 (A - B)) 41 rfl rfl (by kernel_rfl) (by kernel_rfl) (by kernel_rfl) (fun _ _ _ h => h) (by rfl) ?_ (by assumption) ?_
            · intro W hS'
              obtain ⟨hcq, hfq⟩ := bcell hS'
              go_simp
            simp only [Act.put, List.setIfInBounds_toArray, List.set_cons_zero, List.set_cons_succ]
            refine wpAnyH_all (rs := [13]) (by kernel_rfl) (by decide) (List.forall_mem_cons.2 ⟨?_, fun _ h => absurd h List.not_mem_nil⟩)
            have hbn : Below w.heap.size w (wr.drew.alloc (.cells #[.int .i64 (A - B)] 3)) := by (repeat' (first | (with_reducible exact Below.refl _ _) | (with_reducible assumption) | (with_reducible refine Below.alloc ?_ ?_ _) | (with_reducible refine Below.drew ?_) | (with_reducible refine below_drewN ?_ _) | (with_reducible refine Below.setCell ?_ ?_ _) | (with_reducible refine below_call ?_ ?_ (by assumption)) | go_size))
            refine wpOp_value (v := .slice (some ⟨wr.heap.size, 0, none⟩) 1 1) (w' := wr.drew.alloc (.cells #[.int .i64 (A - B)] 3)) 42 rfl rfl rfl (by go_simp; try rfl) ⟨hbn, ?_⟩
            simp only [Act.put, List.setIfInBounds_toArray, List.set_cons_zero, List.set_cons_succ]
            have HON : wr.drew.ownsRow w.heap.size 3 1 u8 k (ints ((List.range k).map (moF num den))) := World.ownsRow.kept HO.out (row := none) ⟨rfl, rfl, rfl, Nat.le_refl _, fun _ _ _ => rfl⟩ (by generalize (u8 : Value).ownBlock = z; cases z <;> simp)
            refine wpAnyH_all (rs := [14]) (by kernel_rfl) (by decide) (List.forall_mem_cons.2 ⟨?_, fun _ h => absurd h List.not_mem_nil⟩)
            refine wpOp_wp rfl rfl ?_
            refine wp_append_lies _ _ _ _ rfl w.heap.size 3 i0 _ 1 8 Try.underlying52 I0.out Z0.out Z1.out Z2.out rfl (by omega) u8 k _ rfl (HON.alloc _) ⟨wr.heap.size, 0, none⟩ 1 1 [.int .i64 (A - B)] rfl rfl (World.news_of_block (cs := #[.int .i64 (A - B)]) (t := 3) (fr := (0, 0)) (by simpa using heap_alloc_new wr.drew _)) (by simp [Value.oneCell']) (by omega) (by unfold maxLen; omega) (by omega) hbn.size (wr.heap.size + 1) (by simp) fun g cap w4 hown3 hgrow hat hlt3 => ?_
            have hb4 : Below w.heap.size w w4 := Below.grown hbn hgrow (by simp; omega) HLT
            refine ⟨hb4, ?_⟩
            simp only [Act.put, List.getElem_toArray, List.getElem_cons_succ, List.getElem_cons_zero, List.setIfInBounds_toArray, List.set_cons_zero, List.set_cons_succ]
            refine wpAnyH_all (rs := [15]) (by kernel_rfl) (by decide) (List.forall_mem_cons.2 ⟨?_, fun _ h => absurd h List.not_mem_nil⟩)
            refine wpOp_value (v := .slice (some ⟨g, 0, none⟩) (k + 1) cap) (w' := w4) 8 rfl rfl rfl (by go_simp; try rfl) ⟨hb4, ?_⟩
            simp only [Act.put, List.setIfInBounds_toArray, List.set_cons_zero, List.set_cons_succ]
            refine wpAnyH_done (by kernel_rfl) ?_ _
            have HO4 := Lib.hid hown3
            clear hown3 hgrow hat hlt3
            go_wp2
            go_roundw
            case rel =>
              refine ⟨k + 1, by omega, by go_num, ?_, hb4⟩
              rw [← snocIr, ← HV.out]; exact HO4.out
            case measure => simp [intOf]; omega
          · obtain rfl : k = N := by omega
            have i1 : ¬ (k : Int) + 1 ≤ (k : Int) := by omega
            go_wp2
            (refine bodyPost_ret (by simp [results, Try.results51, go_sem, *]; try rfl) rfl ?_)
            rw [HL.out, HB.out]
            refine ⟨_, rfl, ?_, hbel⟩
            unfold IRow
            rw [List.length_map, List.length_range]
            exact HO.out

set_option maxHeartbeats 3200000 in
theorem implSpreadLeaps_any (num den : Int) (w : World) :
    Calls Try.prog 57 #[.int .i64 num, .int .i64 den] w (BoolsOut w (spL num den) (spB num den)) := by
  cases g1 : inB den 1 1000
  · have f0 := inBn g1
    have HB : Hid (spB num den = false) := (by simp only [spB]; exact decide_eq_false (by omega))
    have HL := Lib.hid (show spL num den = [] from by unfold spL; rw [HB.out]; simp)
    (go_enter Try.func57, Try.ntmps57)
    go_wp2_with fail
    refine (isWithin_is _ _ _ g1 _).mono ?_
    (rintro e1 w1 ⟨rfl, rfl⟩)
    go_wp2
    (refine bodyPost_ret (by simp [results, Try.results57, go_sem, *]; try rfl) rfl ?_)
    rw [HL.out, HB.out]
    exact BoolsOut.none (by (repeat' (first | (with_reducible exact Below.refl _ _) | (with_reducible assumption) | (with_reducible refine Below.alloc ?_ ?_ _) | (with_reducible refine Below.drew ?_) | (with_reducible refine below_drewN ?_ _) | (with_reducible refine Below.setCell ?_ ?_ _) | (with_reducible refine below_call ?_ ?_ (by assumption)) | go_size)))
  · have b0 := inBd g1
    cases g2 : inB num 0 den
    · have f1 := inBn g2
      have HB : Hid (spB num den = false) := (by simp only [spB]; exact decide_eq_false (by omega))
      have HL := Lib.hid (show spL num den = [] from by unfold spL; rw [HB.out]; simp)
      (go_enter Try.func57, Try.ntmps57)
      go_wp2_with fail
      refine (isWithin_is _ _ _ g1 _).mono ?_
      (rintro e1 w1 ⟨rfl, rfl⟩)
      go_wp2_with fail
      refine (isWithin_is _ _ _ g2 _).mono ?_
      (rintro e1 w1 ⟨rfl, rfl⟩)
      go_wp2
      (refine bodyPost_ret (by simp [results, Try.results57, go_sem, *]; try rfl) rfl ?_)
      rw [HL.out, HB.out]
      exact BoolsOut.none (by (repeat' (first | (with_reducible exact Below.refl _ _) | (with_reducible assumption) | (with_reducible refine Below.alloc ?_ ?_ _) | (with_reducible refine Below.drew ?_) | (with_reducible refine below_drewN ?_ _) | (with_reducible refine Below.setCell ?_ ?_ _) | (with_reducible refine below_call ?_ ?_ (by assumption)) | go_size)))
    · have b1 := inBd g2
      have HB := Lib.hid (show spB num den = true from by simp only [spB]; exact decide_eq_true (by omega))
      obtain ⟨N, hN⟩ : ∃ N : Nat, den = (N : Int) := ⟨den.toNat, by omega⟩
      have HL := Lib.hid (show spL num den = (List.range N).map (spF num den) from by unfold spL; rw [HB.out, hN]; simp)
      subst hN
      obtain ⟨i0, hi0, hz0, hz1, hz2⟩ := info_parts Try.infoBool
      have I0 := Lib.hid hi0
      have Z0 := Lib.hid hz0
      have Z1 := Lib.hid hz1
      have Z2 := Lib.hid hz2
      clear hi0 hz0 hz1 hz2
      have WS := Lib.hid (fun (k : Nat) (hk : k < N) w => (show Calls _ _ _ _ _ from wholeStep_any ((k : Int) + 1) num (N : Int) ⟨by omega, by omega⟩ ⟨by omega, by omega⟩ ⟨by omega, by omega⟩ w))
      (go_enter Try.func57, Try.ntmps57)
      go_wp2_with fail
      refine (isWithin_is _ _ _ g1 _).mono ?_
      (rintro e1 w1 ⟨rfl, rfl⟩)
      go_wp2_with fail
      refine (isWithin_is _ _ _ g2 _).mono ?_
      (rintro e1 w1 ⟨rfl, rfl⟩)
      go_wp2_with (at_make; refine wpList_make_full _ rfl _ _ 57 rfl w.heap.size 4 i0 (.bool false) 1 Try.underlying57 I0.out Z0.out Z1.out .i64 .i64 _ _ N rfl rfl (by simp) (by simp) (by rw [Z2.out]; omega) (by unfold maxLen; omega) (by go_size) ?_; intro w0 hown0 hgrow0)
      rw [made_zeroB] at hown0
      have hb0 : Below w.heap.size w w0 := Below.grown (Below.refl _ _) hgrow0 (by go_size) (fun k hk => by cases hk)
      have hz0' := hgrow0.size
      have HO0 := Lib.hid hown0
      clear hown0 hgrow0
      go_wp2
      go_loopw [21] (fun i wr => ∃ (k : Nat) (dk : List Bool), k ≤ N ∧ i = .int .i64 k ∧ dk.length = N ∧ (∀ j, j < k → dk.getD j false = spF num (N : Int) j) ∧ wr.ownsRow w.heap.size 4 1 (.slice (some ⟨w.heap.size, 0, none⟩) N N) N (bools dk) ∧ Below w.heap.size w wr) (fun i _ => N - (intOf i).toNat)
      case atStart => exact ⟨0, List.replicate N false, Nat.zero_le _, rfl, by simp, fun j hj => absurd hj (Nat.not_lt_zero _), HO0.out, hb0⟩
      case round =>
        obtain ⟨k, dk, hk, rfl, hdl, hall, hown, hbr⟩ := hrel
        have HA := Lib.hid hall
        have HO := Lib.hid hown
        have hzr := hbr.size
        have i0' : (0 : Int) ≤ (k : Int) := Int.natCast_nonneg _
        by_cases hlt : k < N
        · have hglt : w.heap.size < wr.heap.size := (World.ownsRow.lt hown w.heap.size rfl).2
          have i1 : (k : Int) < (N : Int) := by omega
          have HF : Hid (decide (wsI ((k : Int) + 1) num (N : Int) = 1) = spF num (N : Int) k) := rfl
          clear hall hown
          have v1 : IntKind.i64.wrap ((k : Int) + 1) = (k : Int) + 1 := dw64 (by omega)
          have WK := Lib.hid (fun w => WS.out k hlt w)
          generalize wsI ((k : Int) + 1) num (N : Int) = x at *
          go_wp2_with fail
          refine ((WK.out _)).mono ?_
          rintro e3 w3 ⟨rfl, hb3⟩
          have HO3 := Lib.hid (World.ownsRow.kept HO.out (row := none) ⟨hb3.os, hb3.tape, hb3.output, hb3.size, fun k hk _ => hb3.block k hk⟩ (by simp [Value.ownBlock]))
          have z0 : w3.frozen? ⟨w.heap.size, k, none⟩ = false := World.ownsRow.frozenAt HO3.out _
          have d0 := (World.ownsRow.cellAt HO3.out k (by omega)).trans (bools_get dk k (by omega))
          have hs3 := hb3.size
          have hg3 : w.heap.size < w3.heap.size := by omega
          have hbr3 : Below w.heap.size w w3 := hbr.trans (hb3.mono hbr.size)
          generalize dk.getD k false = o1 at d0
          go_wp2
          go_roundw
          case rel =>
            have s1 := World.ownsRow.stored HO3.out k (.bool (decide (x = 1)))
            refine ⟨k + 1, dk.set k (decide (x = 1)), by omega, by go_num, by simpa using hdl, fun j hj => ?_, ?_, ?_⟩
            · by_cases hjk : j = k
              · subst hjk; rw [getDB_self (by omega)]; exact HF.out
              · rw [getDB_far (by omega)]; exact HA.out j (by omega)
            · rw [← bools_set]
              exact s1.1
            · exact Below.grown hbr3 s1.2 (by omega) (fun j hj => some_le' hj (Nat.le_refl _))
          case measure => simp [intOf]; omega
        · obtain rfl : k = N := by omega
          have HE := Lib.hid (rangeB hdl HA.out)
          clear hall hown
          go_wp2
          (refine bodyPost_ret (by simp [results, Try.results57, go_sem, *]; try rfl) rfl ?_)
          rw [HL.out, HB.out]
          refine ⟨_, rfl, ?_, hbr⟩
          unfold BRow
          rw [List.length_map, List.length_range, ← HE.out]
          exact HO.out

set_option maxHeartbeats 3200000 in
theorem specSpreadLeaps_any (num den : Int) (w : World) :
    Calls Try.prog 56 #[.int .i64 num, .int .i64 den] w (BoolsOut w (spL num den) (spB num den)) := by
  cases g1 : inB den 1 1000
  · have f0 := inBn g1
    have HB : Hid (spB num den = false) := (by simp only [spB]; exact decide_eq_false (by omega))
    have HL := Lib.hid (show spL num den = [] from by unfold spL; rw [HB.out]; simp)
    (go_enter Try.func56, Try.ntmps56)
    go_wp2_with fail
    refine (l1In_is _ _ _ g1 _).mono ?_
    (rintro e1 w1 ⟨rfl, rfl⟩)
    go_wp2
    (refine bodyPost_ret (by simp [results, Try.results56, go_sem, *]; try rfl) rfl ?_)
    rw [HL.out, HB.out]
    exact BoolsOut.none (by (repeat' (first | (with_reducible exact Below.refl _ _) | (with_reducible assumption) | (with_reducible refine Below.alloc ?_ ?_ _) | (with_reducible refine Below.drew ?_) | (with_reducible refine below_drewN ?_ _) | (with_reducible refine Below.setCell ?_ ?_ _) | (with_reducible refine below_call ?_ ?_ (by assumption)) | go_size)))
  · have b0 := inBd g1
    cases g2 : inB num 0 den
    · have f1 := inBn g2
      have HB : Hid (spB num den = false) := (by simp only [spB]; exact decide_eq_false (by omega))
      have HL := Lib.hid (show spL num den = [] from by unfold spL; rw [HB.out]; simp)
      (go_enter Try.func56, Try.ntmps56)
      go_wp2_with fail
      refine (l1In_is _ _ _ g1 _).mono ?_
      (rintro e1 w1 ⟨rfl, rfl⟩)
      go_wp2_with fail
      refine (l1In_is _ _ _ g2 _).mono ?_
      (rintro e1 w1 ⟨rfl, rfl⟩)
      go_wp2
      (refine bodyPost_ret (by simp [results, Try.results56, go_sem, *]; try rfl) rfl ?_)
      rw [HL.out, HB.out]
      exact BoolsOut.none (by (repeat' (first | (with_reducible exact Below.refl _ _) | (with_reducible assumption) | (with_reducible refine Below.alloc ?_ ?_ _) | (with_reducible refine Below.drew ?_) | (with_reducible refine below_drewN ?_ _) | (with_reducible refine Below.setCell ?_ ?_ _) | (with_reducible refine below_call ?_ ?_ (by assumption)) | go_size)))
    · have b1 := inBd g2
      have HB := Lib.hid (show spB num den = true from by simp only [spB]; exact decide_eq_true (by omega))
      obtain ⟨N, hN⟩ : ∃ N : Nat, den = (N : Int) := ⟨den.toNat, by omega⟩
      have HL := Lib.hid (show spL num den = (List.range N).map (spF num den) from by unfold spL; rw [HB.out, hN]; simp)
      subst hN
      obtain ⟨i0, hi0, hz0, hz1, hz2⟩ := info_parts Try.infoBool
      have I0 := Lib.hid hi0
      have Z0 := Lib.hid hz0
      have Z1 := Lib.hid hz1
      have Z2 := Lib.hid hz2
      clear hi0 hz0 hz1 hz2
      have FX := Lib.hid (fun (k : Nat) (hk : k < N) => wsI_ints (k := (k : Int) + 1) (num := num) (den := (N : Int)) ⟨by omega, by omega⟩ ⟨by omega, by omega⟩ (by omega))
      have FB := Lib.hid (fun (k : Nat) => wsI_bit ((k : Int) + 1) num (N : Int) (by omega) (by omega) (by omega))
      (go_enter Try.func56, Try.ntmps56)
      go_wp2_with fail
      refine (l1In_is _ _ _ g1 _).mono ?_
      (rintro e1 w1 ⟨rfl, rfl⟩)
      go_wp2_with fail
      refine (l1In_is _ _ _ g2 _).mono ?_
      (rintro e1 w1 ⟨rfl, rfl⟩)
      go_wp2
      go_loopw [6, 7] (fun o i wr => ∃ k : Nat, k ≤ N ∧ i = .int .i64 ((k : Int) + 1) ∧ wr.ownsRow w.heap.size 4 1 o k (bools ((List.range k).map (spF num (N : Int)))) ∧ Below w.heap.size w wr) (fun _ i _ => N + 1 - (intOf i).toNat)
      case atStart => exact ⟨0, by omega, rfl, World.ownsRow_nil _ _ _ _, Below.refl _ _⟩
      case round =>
        obtain ⟨k, hk, rfl, hown, hbel⟩ := hrel
        have HO := Lib.hid hown
        have hzr := hbel.size
        have i0' : (0 : Int) ≤ (k : Int) := Int.natCast_nonneg _
        by_cases hlt : k < N
        · obtain ⟨⟨m1, m2⟩, ⟨m3, m4⟩, ⟨m5, m6⟩, m7, m8⟩ := FX.out k hlt
          have i1 : (k : Int) + 1 ≤ (N : Int) := by omega
          rw [show (k : Int) + 1 - 1 = (k : Int) by omega] at m3 m4 m7 m8
          have v1 : IntKind.i64.wrap (((k : Int) + 1) * num) = ((k : Int) + 1) * num := dw64 (by omega)
          have v2 : IntKind.i64.wrap ((k : Int) * num) = (k : Int) * num := dw64 (by omega)
          obtain ⟨A, hA⟩ : ∃ A, ((k : Int) + 1) * num / (N : Int) = A := ⟨_, rfl⟩
          obtain ⟨B, hB⟩ : ∃ B, (k : Int) * num / (N : Int) = B := ⟨_, rfl⟩
          have v4 : IntKind.i64.wrap ((((k : Int) + 1) * num).tdiv (N : Int)) = A := by rw [← hA]; exact dq64 m1 (by omega) (by omega)
          have v5 : IntKind.i64.wrap (((k : Int) * num).tdiv (N : Int)) = B := by rw [← hB]; exact dq64 m3 (by omega) (by omega)
          have v7 : ¬ ((N : Int) = 0) := by omega
          have v8 : IntKind.i64.wrap (k : Int) = (k : Int) := dw64 (by omega)
          have v9 : ¬ (N = 0) := by omega
          rw [hA] at m5 m6
          rw [hB] at m7 m8
          have v6 : IntKind.i64.wrap (A - B) = A - B := dw64 (by omega)
          have HV : Hid ((decide (B < A)) = spF num (N : Int) k) := by
            have := FB.out k
            show (decide (B < A)) = spF num (N : Int) k
            unfold spF; unfold wsI at this ⊢; rw [show (k : Int) + 1 - 1 = (k : Int) by omega, hA, hB] at this ⊢; by_cases hx : B < A <;> simp [hx] <;> omega
          have HLT : ∀ k, u6.ownBlock = some k → w.heap.size ≤ k := fun k hk => (World.ownsRow.lt HO.out k hk).1
          clear hown hA hB
          go_wp2_with fail
          refine wp_region_held (by kernel_rfl) (S := fun W => Below w.heap.size w W) ?_
          have hb0 : Below w.heap.size w wr.drew := hbel.drew
          refine take_first (i := 0) (v := u6) 22 rfl rfl (by kernel_rfl) (by kernel_rfl) (by kernel_rfl) (fun _ _ _ h => h) (by rfl) ?_ (by assumption) ?_
          · intro W hS'
            obtain ⟨hcq, hfq⟩ := bcell hS'
            go_simp
          simp only [Act.put, List.setIfInBounds_toArray, List.set_cons_zero, List.set_cons_succ]
          refine take_first (i := 1) (v := .int .i64 ((k : Int) + 1)) 23 rfl rfl (by kernel_rfl) (by kernel_rfl) (by kernel_rfl) (fun _ _ _ h => h) (by rfl) ?_ (by assumption) ?_
          · intro W hS'
            obtain ⟨hcq, hfq⟩ := bcell hS'
            go_simp
          simp only [Act.put, List.setIfInBounds_toArray, List.set_cons_zero, List.set_cons_succ]
          refine take_first (i := 2) (v := .int .i64 num) 24 rfl rfl (by kernel_rfl) (by kernel_rfl) (by kernel_rfl) (fun _ _ _ h => h) (by rfl) ?_ (by assumption) ?_
          · intro W hS'
            obtain ⟨hcq, hfq⟩ := bcell hS'
            go_simp
          simp only [Act.put, List.setIfInBounds_toArray, List.set_cons_zero, List.set_cons_succ]
          refine take_first (i := 3) (v := .int .i64 (((k : Int) + 1) * num)) 25 rfl rfl (by kernel_rfl) (by kernel_rfl) (by kernel_rfl) (fun _ _ _ h => h) (by rfl) ?_ (by assumption) ?_
          · intro W hS'
            obtain ⟨hcq, hfq⟩ := bcell hS'
            go_simp
          simp only [Act.put, List.setIfInBounds_toArray, List.set_cons_zero, List.set_cons_succ]
          refine take_first (i := 4) (v := .int .i64 (N : Int)) 26 rfl rfl (by kernel_rfl) (by kernel_rfl) (by kernel_rfl) (fun _ _ _ h => h) (by rfl) ?_ (by assumption) ?_
          · intro W hS'
            obtain ⟨hcq, hfq⟩ := bcell hS'
            go_simp
          simp only [Act.put, List.setIfInBounds_toArray, List.set_cons_zero, List.set_cons_succ]
          refine take_first (i := 5) (v := .int .i64 A) 27 rfl rfl (by kernel_rfl) (by kernel_rfl) (by kernel_rfl) (fun _ _ _ h => h) (by rfl) ?_ (by assumption) ?_
          · intro W hS'
            obtain ⟨hcq, hfq⟩ := bcell hS'
            go_simp
          simp only [Act.put, List.setIfInBounds_toArray, List.set_cons_zero, List.set_cons_succ]
          refine take_first (i := 6) (v := .int .i64 ((k : Int) + 1)) 28 rfl rfl (by kernel_rfl) (by kernel_rfl) (by kernel_rfl) (fun _ _ _ h => h) (by rfl) ?_ (by assumption) ?_
          · intro W hS'
            obtain ⟨hcq, hfq⟩ := bcell hS'
            go_simp
          simp only [Act.put, List.setIfInBounds_toArray, List.set_cons_zero, List.set_cons_succ]
          refine take_first (i := 7) (v := .int .i64 (k : Int)) 29 rfl rfl (by kernel_rfl) (by kernel_rfl) (by kernel_rfl) (fun _ _ _ h => h) (by rfl) ?_ (by assumption) ?_
          · intro W hS'
            obtain ⟨hcq, hfq⟩ := bcell hS'
            go_simp
          simp only [Act.put, List.setIfInBounds_toArray, List.set_cons_zero, List.set_cons_succ]
          refine take_first (i := 8) (v := .int .i64 num) 30 rfl rfl (by kernel_rfl) (by kernel_rfl) (by kernel_rfl) (fun _ _ _ h => h) (by rfl) ?_ (by assumption) ?_
          · intro W hS'
            obtain ⟨hcq, hfq⟩ := bcell hS'
            go_simp
          simp only [Act.put, List.setIfInBounds_toArray, List.set_cons_zero, List.set_cons_succ]
          refine take_first (i := 9) (v := .int .i64 ((k : Int) * num)) 31 rfl rfl (by kernel_rfl) (by kernel_rfl) (by kernel_rfl) (fun _ _ _ h => h) (by rfl) ?_ (by assumption) ?_
          · intro W hS'
            obtain ⟨hcq, hfq⟩ := bcell hS'
            go_simp
          simp only [Act.put, List.setIfInBounds_toArray, List.set_cons_zero, List.set_cons_succ]
          refine take_first (i := 10) (v := .int .i64 (N : Int)) 32 rfl rfl (by kernel_rfl) (by kernel_rfl) (by kernel_rfl) (fun _ _ _ h => h) (by rfl) ?_ (by assumption) ?_
          · intro W hS'
            obtain ⟨hcq, hfq⟩ := bcell hS'
            go_simp
          simp only [Act.put, List.setIfInBounds_toArray, List.set_cons_zero, List.set_cons_succ]
          refine take_first (i := 11) (v := .int .i64 B) 33 rfl rfl (by kernel_rfl) (by kernel_rfl) (by kernel_rfl) (fun _ _ _ h => h) (by rfl) ?_ (by assumption) ?_
          · intro W hS'
            obtain ⟨hcq, hfq⟩ := bcell hS'
            go_simp
          simp only [Act.put, List.setIfInBounds_toArray, List.set_cons_zero, List.set_cons_succ]
          refine take_first (i := 12) (v := .bool (decide (B < A))) 34 rfl rfl (by kernel_rfl) (by kernel_rfl) (by kernel_rfl) (fun _ _ _ h => h) (by rfl) ?_ (by assumption) ?_
          · intro W hS'
            obtain ⟨hcq, hfq⟩ := bcell hS'
            go_simp
          simp only [Act.put, List.setIfInBounds_toArray, List.set_cons_zero, List.set_cons_succ]
          refine wpAnyH_all (rs := [13]) (by kernel_rfl) (by decide) (List.forall_mem_cons.2 ⟨?_, fun _ h => absurd h List.not_mem_nil⟩)
          have hbn : Below w.heap.size w (wr.drew.alloc (.cells #[.bool (decide (B < A))] 4)) := by (repeat' (first | (with_reducible exact Below.refl _ _) | (with_reducible assumption) | (with_reducible refine Below.alloc ?_ ?_ _) | (with_reducible refine Below.drew ?_) | (with_reducible refine below_drewN ?_ _) | (with_reducible refine Below.setCell ?_ ?_ _) | (with_reducible refine below_call ?_ ?_ (by assumption)) | go_size))
          refine wpOp_value (v := .slice (some ⟨wr.heap.size, 0, none⟩) 1 1) (w' := wr.drew.alloc (.cells #[.bool (decide (B < A))] 4)) 35 rfl rfl rfl (by go_simp; try rfl) ⟨hbn, ?_⟩
          simp only [Act.put, List.setIfInBounds_toArray, List.set_cons_zero, List.set_cons_succ]
          have HON : wr.drew.ownsRow w.heap.size 4 1 u6 k (bools ((List.range k).map (spF num (N : Int)))) := World.ownsRow.kept HO.out (row := none) ⟨rfl, rfl, rfl, Nat.le_refl _, fun _ _ _ => rfl⟩ (by generalize (u6 : Value).ownBlock = z; cases z <;> simp)
          refine wpAnyH_all (rs := [14]) (by kernel_rfl) (by decide) (List.forall_mem_cons.2 ⟨?_, fun _ h => absurd h List.not_mem_nil⟩)
          refine wpOp_wp rfl rfl ?_
          refine wp_append_lies _ _ _ _ rfl w.heap.size 4 i0 _ 1 1 Try.underlying57 I0.out Z0.out Z1.out Z2.out rfl (by omega) u6 k _ rfl (HON.alloc _) ⟨wr.heap.size, 0, none⟩ 1 1 [.bool (decide (B < A))] rfl rfl (World.news_of_block (cs := #[.bool (decide (B < A))]) (t := 4) (fr := (0, 0)) (by simpa using heap_alloc_new wr.drew _)) (by simp [Value.oneCell']) (by omega) (by unfold maxLen; omega) (by omega) hbn.size (wr.heap.size + 1) (by simp) fun g cap w4 hown3 hgrow hat hlt3 => ?_
          have hb4 : Below w.heap.size w w4 := Below.grown hbn hgrow (by simp; omega) HLT
          refine ⟨hb4, ?_⟩
          simp only [Act.put, List.getElem_toArray, List.getElem_cons_succ, List.getElem_cons_zero, List.setIfInBounds_toArray, List.set_cons_zero, List.set_cons_succ]
          refine wpAnyH_all (rs := [15]) (by kernel_rfl) (by decide) (List.forall_mem_cons.2 ⟨?_, fun _ h => absurd h List.not_mem_nil⟩)
          refine wpOp_value (v := .slice (some ⟨g, 0, none⟩) (k + 1) cap) (w' := w4) 6 rfl rfl rfl (by go_simp; try rfl) ⟨hb4, ?_⟩
          simp only [Act.put, List.setIfInBounds_toArray, List.set_cons_zero, List.set_cons_succ]
          refine wpAnyH_done (by kernel_rfl) ?_ _
          have HO4 := Lib.hid hown3
          clear hown3 hgrow hat hlt3
          go_wp2
          go_roundw
          case rel =>
            refine ⟨k + 1, by omega, by go_num, ?_, hb4⟩
            rw [← snocBr, ← HV.out]; exact HO4.out
          case measure => simp [intOf]; omega
        · obtain rfl : k = N := by omega
          have i1 : ¬ (k : Int) + 1 ≤ (k : Int) := by omega
          go_wp2
          (refine bodyPost_ret (by simp [results, Try.results56, go_sem, *]; try rfl) rfl ?_)
          rw [HL.out, HB.out]
          refine ⟨_, rfl, ?_, hbel⟩
          unfold BRow
          rw [List.length_map, List.length_range]
          exact HO.out

end Go.Proofs.Ythdkbjjpbdledaa
