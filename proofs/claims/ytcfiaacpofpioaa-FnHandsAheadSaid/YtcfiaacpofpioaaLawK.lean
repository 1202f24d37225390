/- What the laws ask of lists of turns: whether two are the same, whether one has a turn, whether one rises. -/
import Derived.Test.YtcfiaacpofpioaaTRow
import Derived.Test.YtcfiaacpofpioaaLawW
import Derived.Test.YtcfiaacpofpioaaTaE
import Derived.Test.YtcfiaacpofpioaaDial1
set_option linter.unusedSimpArgs false
set_option linter.unusedVariables false
set_option maxRecDepth 100000
namespace Go.Proofs.Ytcfiaacpofpioaa
open Go.RowKit
attribute [local go_sem ↓] Go.wp_at_zero Go.wp_at_succ run_neq_same run_neq_turn run_eql_turn

set_option maxHeartbeats 800000 in
theorem kTurns_same (ts : List (Int × Int)) (v1 v2 : Value) (b1 b2 : Nat) (w : World) (r1 : TRow w b1 v1 ts) (r2 : TRow w b2 v2 ts) (hl : ts.length ≤ 1000000) :
    Calls Try.prog 17 #[v1, v2] w fun e w' => e = .returned (.bool true) ∧ Below w.heap.size w w' := by
  obtain ⟨a1, c1, rfl, l1, m1, x1⟩ := r1.cells
  obtain ⟨a2, c2, rfl, l2, m2, x2⟩ := r2.cells
  clear r1 r2
  have X1 := Lib.hid x1
  have X2 := Lib.hid x2
  clear x1 x2
  (go_enter Try.func17, Try.ntmps17)
  go_wp2
  go_loopw [13] (fun i wr => ∃ k : Nat, k ≤ ts.length ∧ i = .int .i64 k ∧ Below w.heap.size w wr) (fun i _ => ts.length - (intOf i).toNat)
  case atStart => exact ⟨0, Nat.zero_le _, rfl, Below.refl _ _⟩
  case round =>
    obtain ⟨k, hk, rfl, hbel⟩ := hrel
    by_cases hlt : k < ts.length
    · obtain ⟨g1, rfl, e1, e2, e3, e4⟩ := X1.out k hlt
      obtain ⟨g2, rfl, f1, f2, f3, f4⟩ := X2.out k hlt
      obtain ⟨hc0, hf0⟩ := bcell hbel
      have hz := hbel.size
      generalize ts.getD k (0, 0) = t at *
      obtain ⟨x, y⟩ := t
      have i0 : (0 : Int) ≤ (k : Int) := Int.natCast_nonneg _
      have i1 : (k : Int) < (ts.length : Int) := by omega
      have u1 : g1 < wr.heap.size := by omega
      have u2 : g2 < wr.heap.size := by omega
      go_wp2_with fail
      refine wp_region_below (by kernel_rfl) (by kernel_rfl) ?_
      repeat (apply wpB_take (hw := rfl); (intro wq hq; obtain ⟨hcq, hfq⟩ := bcell hq; unfold atB; go_simp; exact ⟨rfl, rfl⟩); simp only [Act.put, List.setIfInBounds_toArray, List.set_cons_zero, List.set_cons_succ])
      refine fun wn hbn => ?_
      try simp only [Act.put, List.setIfInBounds_toArray, List.set_cons_zero, List.set_cons_succ]
      go_wp2
      go_roundw
      case rel => exact ⟨k + 1, by omega, by go_num, hbel.trans (hbn.mono hbel.size)⟩
      case measure => simp [intOf]; omega
    · go_wp2
      go_ret
      exact ⟨rfl, hbel⟩

set_option maxHeartbeats 800000 in
theorem kIn_any (ts : List (Int × Int)) (v : Value) (b : Nat) (x y : Int) (w : World) (r : TRow w b v ts) (hl : ts.length ≤ 1000000) :
    Calls Try.prog 23 #[v, tv x y] w fun e w' => e = .returned (.bool (hasT ts x y)) ∧ Below w.heap.size w w' := by
  obtain ⟨a1, c1, rfl, l1, m1, x1⟩ := r.cells
  clear r
  have X1 := Lib.hid x1
  clear x1
  (go_enter Try.func23, Try.ntmps23)
  go_wp2
  go_loopw [9] (fun i wr => ∃ k : Nat, k ≤ ts.length ∧ i = .int .i64 k ∧ (∀ j, j < k → ts.getD j (0, 0) ≠ (x, y)) ∧ Below w.heap.size w wr ∧ (∀ o, wr.cell? ⟨w.heap.size, o, none⟩ = #[Value.int .i64 x, .int .i64 y][o]?) ∧ w.heap.size < wr.heap.size) (fun i _ => ts.length - (intOf i).toNat)
  case atStart => exact ⟨0, Nat.zero_le _, rfl, fun j hj => absurd hj (Nat.not_lt_zero _), by (repeat' (first | (with_reducible exact Below.refl _ _) | (with_reducible assumption) | (with_reducible refine Below.alloc ?_ ?_ _) | (with_reducible refine Below.drew ?_) | (with_reducible refine below_drewN ?_ _) | (with_reducible refine Below.setCell ?_ ?_ _) | (with_reducible refine below_call ?_ ?_ (by assumption)) | go_size)), (cells_of_block (heap_alloc_new w _)).1, by simp⟩
  case round =>
    obtain ⟨k, hk, rfl, hno, hbel, hcx, hsz⟩ := hrel
    have HN := Lib.hid hno
    have HX := Lib.hid hcx
    clear hno hcx
    by_cases hlt : k < ts.length
    · obtain ⟨g1, rfl, e1, e2, e3, e4⟩ := X1.out k hlt
      obtain ⟨hc0, hf0⟩ := bcell hbel
      have hz := hbel.size
      have q0 : wr.cell? ⟨w.heap.size, 0, none⟩ = some (.int .i64 x) := HX.out 0
      have q1 : wr.cell? ⟨w.heap.size, 1, none⟩ = some (.int .i64 y) := HX.out 1
      have e5 := (hc0 g1 (k * 2) e2).trans e3
      have e6 := (hc0 g1 (k * 2 + 1) e2).trans e4
      have HMEM := Lib.hid (show ts.getD k (0, 0) ∈ ts from by
        rw [List.getD_eq_getElem?_getD, List.getElem?_eq_getElem hlt]; exact List.getElem_mem hlt)
      have HNX : Hid (ts.getD k (0, 0) ≠ (x, y) → ∀ j, j < k + 1 → ts.getD j (0, 0) ≠ (x, y)) := fun h j hj => by
        by_cases hjk : j = k
        · subst hjk; exact h
        · exact HN.out j (by omega)
      have i0 : (0 : Int) ≤ (k : Int) := Int.natCast_nonneg _
      have i1 : (k : Int) < (ts.length : Int) := by omega
      have u1 : g1 < wr.heap.size := by omega
      clear e3 e4 hc0 hf0
      generalize ts.getD k (0, 0) = t at *
      obtain ⟨p, q⟩ := t
      simp only at e5 e6
      by_cases he : p = x ∧ q = y
      · obtain ⟨rfl, rfl⟩ := he
        have hT : eqT p q p q = true := by simp [eqT]
        have HR := Lib.hid (show true = hasT ts p q from by simp [hasT, HMEM.out])
        go_wp2
        go_ret
        exact ⟨ret_bool HR.out, by (repeat' (first | (with_reducible exact Below.refl _ _) | (with_reducible assumption) | (with_reducible refine Below.alloc ?_ ?_ _) | (with_reducible refine Below.drew ?_) | (with_reducible refine below_drewN ?_ _) | (with_reducible refine Below.setCell ?_ ?_ _) | (with_reducible refine below_call ?_ ?_ (by assumption)) | go_size))⟩
      · have hT : eqT p q x y = false := by simpa [eqT] using he
        have HNN := Lib.hid (HNX.out (fun h => he (by simpa using h)))
        go_wp2
        go_roundw
        case rel =>
          refine ⟨k + 1, by omega, by go_num, HNN.out, by (repeat' (first | (with_reducible exact Below.refl _ _) | (with_reducible assumption) | (with_reducible refine Below.alloc ?_ ?_ _) | (with_reducible refine Below.drew ?_) | (with_reducible refine below_drewN ?_ _) | (with_reducible refine Below.setCell ?_ ?_ _) | (with_reducible refine below_call ?_ ?_ (by assumption)) | go_size)), fun o => ?_, by go_size⟩
          rw [World.cell?_alloc_past _ _ _ (by omega)]
          exact HX.out o
        case measure => simp [intOf]; omega
    · obtain rfl : k = ts.length := by omega
      have HR := Lib.hid (show false = hasT ts x y from by
        symm
        rw [← Bool.not_eq_true]
        intro h
        simp only [hasT, decide_eq_true_eq] at h
        obtain ⟨j, hj, e⟩ := List.getElem_of_mem h
        exact HN.out j hj (by rw [List.getD_eq_getElem?_getD, List.getElem?_eq_getElem hj, e]; rfl))
      go_wp2
      go_ret
      exact ⟨ret_bool HR.out, hbel⟩

set_option maxHeartbeats 1600000 in
theorem kRises_yes (ts : List (Int × Int)) (v : Value) (b : Nat) (w : World) (r : TRow w b v ts) (hl : ts.length ≤ 1000000) (hr : Rises ts) :
    Calls Try.prog 21 #[v] w fun e w' => e = .returned (.bool true) ∧ Below w.heap.size w w' := by
  obtain ⟨a1, c1, rfl, l1, m1, x1⟩ := r.cells
  clear r
  have X1 := Lib.hid x1
  have HR := Lib.hid hr
  clear x1 hr
  (go_enter Try.func21, Try.ntmps21)
  go_wp2
  go_loopw [3] (fun i wr => ∃ k : Nat, (k ≤ ts.length ∨ k = 0) ∧ i = .int .i64 ((k : Int) + 1) ∧ Below w.heap.size w wr) (fun i _ => ts.length + 1 - (intOf i).toNat)
  case atStart => exact ⟨0, .inr rfl, rfl, Below.refl _ _⟩
  case round =>
    obtain ⟨k, hk, rfl, hbel⟩ := hrel
    have hz := hbel.size
    have i0 : (0 : Int) ≤ (k : Int) := Int.natCast_nonneg _
    by_cases hlt : k + 1 < ts.length
    · obtain ⟨g1, rfl, e1, e2, e3, e4⟩ := X1.out k (by omega)
      obtain ⟨g2, hg2, f1, f2, f3, f4⟩ := X1.out (k + 1) hlt
      obtain rfl : g1 = g2 := by simpa using hg2
      obtain ⟨hc0, hf0⟩ := bcell hbel
      obtain ⟨⟨a1, a2⟩, a3, a4⟩ := HR.out.1 k (by omega)
      obtain ⟨⟨b1, b2⟩, b3, b4⟩ := HR.out.1 (k + 1) hlt
      have hless := HR.out.2 k hlt
      have e5 := (hc0 g1 (k * 2) e2).trans e3
      have e6 := (hc0 g1 (k * 2 + 1) e2).trans e4
      have e7 := (hc0 g1 ((k + 1) * 2) e2).trans f3
      have e8 := (hc0 g1 ((k + 1) * 2 + 1) e2).trans f4
      have i1 : (k : Int) + 1 < (ts.length : Int) := by omega
      have i2 : (k : Int) < (ts.length : Int) := by omega
      have hwm : IntKind.i64.wrap (k : Int) = k := by rw [IntKind.wrap_i64]; omega
      have u1 : g1 < wr.heap.size := by omega
      clear e3 e4 f3 f4 hc0 hf0 hg2
      generalize ts.getD k (0, 0) = s at *
      generalize ts.getD (k + 1) (0, 0) = t at *
      obtain ⟨p, q⟩ := s
      obtain ⟨x, y⟩ := t
      simp only at e5 e6 e7 e8 a1 a2 a3 a4 b1 b2 b3 b4 hless
      obtain ⟨p1, p2⟩ := mulb a1 a2 (show 0 ≤ y by omega) b4
      obtain ⟨p3, p4⟩ := mulb b1 b2 (show 0 ≤ q by omega) a4
      have hge : ¬ x * q ≤ p * y := by omega
      have hgd : decide (x * q ≤ p * y) = false := decide_eq_false hge
      have hw1 : IntKind.i64.wrap (x * q) = x * q := by rw [IntKind.wrap_i64]; omega
      have hw2 : IntKind.i64.wrap (p * y) = p * y := by rw [IntKind.wrap_i64]; omega
      go_wp2_with fail
      refine wp_region_below (by kernel_rfl) (by kernel_rfl) ?_
      repeat (apply wpB_take (hw := rfl); (intro wq hq; obtain ⟨hcq, hfq⟩ := bcell hq; unfold atB; go_simp; exact ⟨rfl, rfl⟩); simp only [Act.put, List.setIfInBounds_toArray, List.set_cons_zero, List.set_cons_succ])
      refine fun wn hbn => ?_
      try simp only [Act.put, List.setIfInBounds_toArray, List.set_cons_zero, List.set_cons_succ]
      go_wp2
      go_roundw
      case rel => exact ⟨k + 1, .inl (by omega), by go_num, hbel.trans (hbn.mono hbel.size)⟩
      case measure => simp [intOf]; omega
    · have i1 : ¬ (k : Int) + 1 < (ts.length : Int) := by omega
      go_wp2
      go_ret
      exact ⟨rfl, hbel⟩
theorem kIn_is {r : Bool} (ts : List (Int × Int)) (v : Value) (b : Nat) (x y : Int) (w : World) (hr : hasT ts x y = r) (row : TRow w b v ts) (hl : ts.length ≤ 1000000) :
    Calls Try.prog 23 #[v, tv x y] w fun e w' => e = .returned (.bool r) ∧ Below w.heap.size w w' := by
  subst hr; exact kIn_any ts v b x y w row hl
set_option maxHeartbeats 400000 in
theorem kAbs_any (n : Int) (h : -1000 ≤ n ∧ n ≤ 1000) (w : World) :
    Calls Try.prog 20 #[.int .i64 n] w fun e w' => e = .returned (.int .i64 (if n < 0 then -n else n)) ∧ Below w.heap.size w w' := by
  by_cases hn : n < 0
  · have hw : IntKind.i64.wrap (-n) = -n := by rw [IntKind.wrap_i64]; omega
    have HM := Lib.hid (show (-n : Int) = if n < 0 then -n else n from (if_pos hn).symm)
    (go_enter Try.func20, Try.ntmps20)
    go_wp2
    go_ret
    exact ⟨rfl, by (repeat' (first | (with_reducible exact Below.refl _ _) | (with_reducible assumption) | (with_reducible refine Below.alloc ?_ ?_ _) | (with_reducible refine Below.drew ?_) | (with_reducible refine below_drewN ?_ _) | (with_reducible refine Below.setCell ?_ ?_ _) | (with_reducible refine below_call ?_ ?_ (by assumption)) | go_size))⟩
  · have HM := Lib.hid (show (n : Int) = if n < 0 then -n else n from (if_neg hn).symm)
    (go_enter Try.func20, Try.ntmps20)
    go_wp2
    go_ret
    exact ⟨rfl, by (repeat' (first | (with_reducible exact Below.refl _ _) | (with_reducible assumption) | (with_reducible refine Below.alloc ?_ ?_ _) | (with_reducible refine Below.drew ?_) | (with_reducible refine below_drewN ?_ _) | (with_reducible refine Below.setCell ?_ ?_ _) | (with_reducible refine below_call ?_ ?_ (by assumption)) | go_size))⟩
end Go.Proofs.Ytcfiaacpofpioaa
