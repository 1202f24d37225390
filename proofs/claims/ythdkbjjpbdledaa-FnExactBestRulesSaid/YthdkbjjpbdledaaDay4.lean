/- OffBy, YearsForDay, NextLeap: by the program and by the model. -/
import Derived.Test.YthdkbjjpbdledaaDay3
set_option linter.unusedSimpArgs false
set_option linter.unusedVariables false
set_option maxRecDepth 100000
namespace Go.Proofs.Ythdkbjjpbdledaa
open Go.RowKit

def frB (num den : Int) : Bool := decide (1 ≤ num ∧ num ≤ den - 1 ∧ den ≤ 100000)
theorem frBd {num den : Int} (h : frB num den = true) : 1 ≤ num ∧ num ≤ den - 1 ∧ den ≤ 100000 := by simpa [frB] using h
def ofM (e b y num den : Int) : Int := lc e b y (cyc e b y) * den - num * cyc e b y
def ofP (e b y den : Int) : Int := cyc e b y * den
def absD (n : Int) : Int := if n < 0 then -n else n
def ofN (e b y num den : Int) : Int := (ofM e b y num den).tdiv (gc (absD (ofM e b y num den)) (ofP e b y den))
def ofD (e b y num den : Int) : Int := ofP e b y den / gc (absD (ofM e b y num den)) (ofP e b y den)
def offR (e b y num den : Int) : Int × Int × Bool := if ruleB e b y && frB num den then (ofN e b y num den, ofD e b y num den, true) else (0, 0, false)
def yfdR (e b y num den : Int) : Int × Bool := if ruleB e b y && frB num den then (if ofN e b y num den = 0 then (0, false) else ((ofD e b y num den + absD (ofN e b y num den) - 1) / absD (ofN e b y num den), true)) else (0, false)
theorem absD_bd (n : Int) : 0 ≤ absD n ∧ (n < 0 → absD n = -n) ∧ (0 ≤ n → absD n = n) ∧ (n ≠ 0 → 1 ≤ absD n) := by unfold absD; split <;> omega
theorem gc_in (a d : Int) (hd : 1 ≤ d) : 1 ≤ gc a d ∧ gc a d ≤ d := ⟨gcd_pos_of a d hd, gcd_le_of a d hd⟩
theorem tdiv_abs {m g : Int} (hg : 1 ≤ g) : absD (m.tdiv g) ≤ absD m := by
  rcases Int.lt_or_le m 0 with h | h
  · have h1 : m.tdiv g = -((-m).tdiv g) := by rw [Int.neg_tdiv]; omega
    rw [Int.tdiv_eq_ediv_of_nonneg (show 0 ≤ -m by omega)] at h1
    have h2 := Int.ediv_le_self g (show 0 ≤ -m by omega)
    have h3 := Int.ediv_nonneg (show 0 ≤ -m by omega) (show 0 ≤ g by omega)
    rw [h1]
    have := (absD_bd m).2.1 h
    unfold absD at *; split <;> split at this <;> omega
  · rw [Int.tdiv_eq_ediv_of_nonneg h]
    have h2 := Int.ediv_le_self g h
    have h3 := Int.ediv_nonneg h (show 0 ≤ g by omega)
    rw [(absD_bd _).2.2.1 h, (absD_bd _).2.2.1 h3]; exact h2
/-- The numbers of OffBy. -/
theorem of_bd {e b y num den : Int} (h : ruleB e b y = true) (hf : frB num den = true) :
    (0 ≤ lc e b y (cyc e b y) * den ∧ lc e b y (cyc e b y) * den ≤ 1000000000) ∧ (0 ≤ num * cyc e b y ∧ num * cyc e b y ≤ 1000000000) ∧ (1 ≤ ofP e b y den ∧ ofP e b y den ≤ 1000000000) ∧ (-1000000000 ≤ ofM e b y num den ∧ ofM e b y num den ≤ 1000000000) := by
  obtain ⟨c1, c2⟩ := cyc_bd h
  obtain ⟨f1, f2, f3⟩ := frBd hf
  have l1 := lc_nonneg h (cyc e b y) (by omega)
  have l2 := lc_up h (cyc e b y) (by omega)
  have m1 := mulD l1 (show lc e b y (cyc e b y) ≤ 10000 by omega) (show 0 ≤ den by omega) f3
  have m2 := mulD (show 0 ≤ num by omega) (show num ≤ 100000 by omega) (show 0 ≤ cyc e b y by omega) c2
  have m3 := mulD (show 0 ≤ cyc e b y by omega) c2 (show 0 ≤ den by omega) f3
  have m4 : 0 < cyc e b y * den := Int.mul_pos (by omega) (by omega)
  unfold ofP ofM
  omega
theorem of_q {e b y num den : Int} (h : ruleB e b y = true) (hf : frB num den = true) :
    (1 ≤ gc (absD (ofM e b y num den)) (ofP e b y den) ∧ gc (absD (ofM e b y num den)) (ofP e b y den) ≤ 1000000000) ∧ (-1000000000 ≤ ofN e b y num den ∧ ofN e b y num den ≤ 1000000000) ∧ (1 ≤ ofD e b y num den ∧ ofD e b y num den ≤ 1000000000) := by
  obtain ⟨-, -, ⟨p1, p2⟩, q1, q2⟩ := of_bd h hf
  obtain ⟨g1, g2⟩ := gc_in (absD (ofM e b y num den)) _ p1
  have t := tdiv_abs (m := ofM e b y num den) g1
  have a1 := absD_bd (ofM e b y num den)
  have a2 := absD_bd ((ofM e b y num den).tdiv (gc (absD (ofM e b y num den)) (ofP e b y den)))
  unfold ofN ofD
  generalize gc (absD (ofM e b y num den)) (ofP e b y den) = g at *
  generalize ofM e b y num den = m at *
  generalize ofP e b y den = p at *
  have d1 := Int.ediv_le_self g (show 0 ≤ p by omega)
  have d2 := Int.ediv_le_ediv (show 0 < g by omega) g2
  rw [Int.ediv_self (by omega)] at d2
  omega
set_option maxHeartbeats 800000 in
theorem isPart_any (num den : Int) (w : World) :
    Calls Try.prog 97 #[.int .i64 num, .int .i64 den] w fun e' w' => e' = .returned (.bool (frB num den)) ∧ Below w.heap.size w w' := by
  cases g1 : inB den 1 100000
  · have f1 := inBn g1
    have HM := Lib.hid (show false = frB num den from by unfold frB; first | (refine (decide_eq_true ?_).symm; omega) | (refine (decide_eq_false ?_).symm; omega))
    (go_enter Try.func97, Try.ntmps97)
    go_wp2_with fail
    refine (isWithin_is _ _ _ g1 _).mono ?_
    (rintro e1 w1 ⟨rfl, rfl⟩)
    go_wp2
    go_ret
    exact ⟨dret_bool HM.out, by (repeat' (first | (with_reducible exact Below.refl _ _) | (with_reducible assumption) | (with_reducible refine Below.alloc ?_ ?_ _) | (with_reducible refine Below.drew ?_) | (with_reducible refine below_drewN ?_ _) | (with_reducible refine Below.setCell ?_ ?_ _) | (with_reducible refine below_call ?_ ?_ (by assumption)) | go_size))⟩
  · obtain ⟨d1, d2⟩ := inBd g1
    have hw := dw64 (n := den - 1) (by omega)
    cases g2 : inB num 1 (den - 1)
    · have f2 := inBn g2
      have HM := Lib.hid (show false = frB num den from by unfold frB; first | (refine (decide_eq_true ?_).symm; omega) | (refine (decide_eq_false ?_).symm; omega))
      (go_enter Try.func97, Try.ntmps97)
      go_wp2_with fail
      refine (isWithin_is _ _ _ g1 _).mono ?_
      (rintro e1 w1 ⟨rfl, rfl⟩)
      go_wp2_with fail
      refine (isWithin_is _ _ _ g2 _).mono ?_
      (rintro e1 w1 ⟨rfl, rfl⟩)
      go_wp2
      go_ret
      exact ⟨dret_bool HM.out, by (repeat' (first | (with_reducible exact Below.refl _ _) | (with_reducible assumption) | (with_reducible refine Below.alloc ?_ ?_ _) | (with_reducible refine Below.drew ?_) | (with_reducible refine below_drewN ?_ _) | (with_reducible refine Below.setCell ?_ ?_ _) | (with_reducible refine below_call ?_ ?_ (by assumption)) | go_size))⟩
    · obtain ⟨d3, d4⟩ := inBd g2
      have HM := Lib.hid (show true = frB num den from by unfold frB; first | (refine (decide_eq_true ?_).symm; omega) | (refine (decide_eq_false ?_).symm; omega))
      (go_enter Try.func97, Try.ntmps97)
      go_wp2_with fail
      refine (isWithin_is _ _ _ g1 _).mono ?_
      (rintro e1 w1 ⟨rfl, rfl⟩)
      go_wp2_with fail
      refine (isWithin_is _ _ _ g2 _).mono ?_
      (rintro e1 w1 ⟨rfl, rfl⟩)
      go_wp2
      go_ret
      exact ⟨dret_bool HM.out, by (repeat' (first | (with_reducible exact Below.refl _ _) | (with_reducible assumption) | (with_reducible refine Below.alloc ?_ ?_ _) | (with_reducible refine Below.drew ?_) | (with_reducible refine below_drewN ?_ _) | (with_reducible refine Below.setCell ?_ ?_ _) | (with_reducible refine below_call ?_ ?_ (by assumption)) | go_size))⟩

theorem isPart_is {r : Bool} (num den : Int) (h : frB num den = r) (w : World) :
    Calls Try.prog 97 #[.int .i64 num, .int .i64 den] w fun e' w' => e' = .returned (.bool r) ∧ Below w.heap.size w w' := by
  subst h; exact isPart_any num den w

set_option maxHeartbeats 800000 in
theorem daFrac_any (num den : Int) (w : World) :
    Calls Try.prog 95 #[.int .i64 num, .int .i64 den] w fun e' w' => e' = .returned (.bool (frB num den)) ∧ Below w.heap.size w w' := by
  cases g1 : inB den 2 100000
  · have f1 := inBn g1
    have HM := Lib.hid (show false = frB num den from by unfold frB; first | (refine (decide_eq_true ?_).symm; omega) | (refine (decide_eq_false ?_).symm; omega))
    (go_enter Try.func95, Try.ntmps95)
    go_wp2_with fail
    refine (l1In_is _ _ _ g1 _).mono ?_
    (rintro e1 w1 ⟨rfl, rfl⟩)
    go_wp2
    go_ret
    exact ⟨dret_bool HM.out, by (repeat' (first | (with_reducible exact Below.refl _ _) | (with_reducible assumption) | (with_reducible refine Below.alloc ?_ ?_ _) | (with_reducible refine Below.drew ?_) | (with_reducible refine below_drewN ?_ _) | (with_reducible refine Below.setCell ?_ ?_ _) | (with_reducible refine below_call ?_ ?_ (by assumption)) | go_size))⟩
  · obtain ⟨d1, d2⟩ := inBd g1
    have hw := dw64 (n := den - 1) (by omega)
    cases g2 : inB num 1 (den - 1)
    · have f2 := inBn g2
      have HM := Lib.hid (show false = frB num den from by unfold frB; first | (refine (decide_eq_true ?_).symm; omega) | (refine (decide_eq_false ?_).symm; omega))
      (go_enter Try.func95, Try.ntmps95)
      go_wp2_with fail
      refine (l1In_is _ _ _ g1 _).mono ?_
      (rintro e1 w1 ⟨rfl, rfl⟩)
      go_wp2_with fail
      refine (l1In_is _ _ _ g2 _).mono ?_
      (rintro e1 w1 ⟨rfl, rfl⟩)
      go_wp2
      go_ret
      exact ⟨dret_bool HM.out, by (repeat' (first | (with_reducible exact Below.refl _ _) | (with_reducible assumption) | (with_reducible refine Below.alloc ?_ ?_ _) | (with_reducible refine Below.drew ?_) | (with_reducible refine below_drewN ?_ _) | (with_reducible refine Below.setCell ?_ ?_ _) | (with_reducible refine below_call ?_ ?_ (by assumption)) | go_size))⟩
    · obtain ⟨d3, d4⟩ := inBd g2
      have HM := Lib.hid (show true = frB num den from by unfold frB; first | (refine (decide_eq_true ?_).symm; omega) | (refine (decide_eq_false ?_).symm; omega))
      (go_enter Try.func95, Try.ntmps95)
      go_wp2_with fail
      refine (l1In_is _ _ _ g1 _).mono ?_
      (rintro e1 w1 ⟨rfl, rfl⟩)
      go_wp2_with fail
      refine (l1In_is _ _ _ g2 _).mono ?_
      (rintro e1 w1 ⟨rfl, rfl⟩)
      go_wp2
      go_ret
      exact ⟨dret_bool HM.out, by (repeat' (first | (with_reducible exact Below.refl _ _) | (with_reducible assumption) | (with_reducible refine Below.alloc ?_ ?_ _) | (with_reducible refine Below.drew ?_) | (with_reducible refine below_drewN ?_ _) | (with_reducible refine Below.setCell ?_ ?_ _) | (with_reducible refine below_call ?_ ?_ (by assumption)) | go_size))⟩

theorem daFrac_is {r : Bool} (num den : Int) (h : frB num den = r) (w : World) :
    Calls Try.prog 95 #[.int .i64 num, .int .i64 den] w fun e' w' => e' = .returned (.bool r) ∧ Below w.heap.size w w' := by
  subst h; exact daFrac_any num den w

set_option maxHeartbeats 400000 in
theorem l1AbsD (n : Int) (h : -9000000000000000000 ≤ n ∧ n ≤ 9000000000000000000) (w : World) :
    Calls Try.prog 70 #[.int .i64 n] w fun e' w' => e' = .returned (.int .i64 (absD n)) ∧ Below w.heap.size w w' := by
  obtain ⟨h1, h2⟩ := h
  have HM := Lib.hid (show mxD n (-n) = absD n from by unfold mxD absD; split <;> split <;> omega)
  have hw := dw64 (n := -n) (by omega)
  (go_enter Try.func70, Try.ntmps70)
  go_wp2_with fail
  refine (l1MostD n (-n) _).mono ?_
  (rintro e1 w1 ⟨rfl, hb1⟩; obtain ⟨hc1, hf1⟩ := bcell hb1; have hz1 := hb1.size; (try simp only [World.size_alloc, World.size_setCell, World.size_drew] at hz1); have q1 : w.heap.size ≤ w1.heap.size := (by omega); (try have q1_0 : w.heap.size < w1.heap.size := (by omega)); (try have q1_1 : w.heap.size + 1 < w1.heap.size := (by omega)); (try have q1_2 : w.heap.size + 2 < w1.heap.size := (by omega)); (try have q1_3 : w.heap.size + 3 < w1.heap.size := (by omega)))
  go_wp2
  go_ret
  exact ⟨dret_int HM.out, by (repeat' (first | (with_reducible exact Below.refl _ _) | (with_reducible assumption) | (with_reducible refine Below.alloc ?_ ?_ _) | (with_reducible refine Below.drew ?_) | (with_reducible refine below_drewN ?_ _) | (with_reducible refine Below.setCell ?_ ?_ _) | (with_reducible refine below_call ?_ ?_ (by assumption)) | go_size))⟩

set_option maxHeartbeats 1600000 in
theorem daOff_any (e b y num den : Int) (h : ruleB e b y = true) (hf : frB num den = true) (w : World) :
    Calls Try.prog 96 #[lv e b y, .int .i64 num, .int .i64 den] w fun e' w' => e' = .returned (.tuple #[.int .i64 (ofN e b y num den), .int .i64 (ofD e b y num den)]) ∧ Below w.heap.size w w' := by
  obtain ⟨⟨m1, m2⟩, ⟨m3, m4⟩, ⟨p1, p2⟩, q1, q2⟩ := of_bd h hf
  obtain ⟨⟨g1, g2⟩, ⟨n1, n2⟩, d1, d2⟩ := of_q h hf
  obtain ⟨c1, c2⟩ := cyc_bd h
  obtain ⟨a0, a1, a2, -⟩ := absD_bd (ofM e b y num den)
  obtain ⟨f1, f2, f3⟩ := frBd hf
  have l1 := lc_nonneg h (cyc e b y) (by omega)
  have l2 := lc_up h (cyc e b y) (by omega)
  have CY := Lib.hid (fun w => cycS_any e b y h w)
  have CL := Lib.hid (fun w => lcS_any e b y (cyc e b y) h ⟨by omega, by omega⟩ w)
  have CG := Lib.hid (fun w => diCommon_any (absD (ofM e b y num den)) (ofP e b y den) a0 (by omega) w)
  have AB := Lib.hid (fun w => l1AbsD (ofM e b y num den) (by omega) w)
  have X1 : IntKind.i64.wrap (lc e b y (cyc e b y) * den) = lc e b y (cyc e b y) * den := dw64 (by omega)
  have X2 : IntKind.i64.wrap (num * cyc e b y) = num * cyc e b y := dw64 (by omega)
  have X3 : IntKind.i64.wrap (cyc e b y * den) = ofP e b y den := dw64 (by unfold ofP at p1 p2; omega)
  have X4 : IntKind.i64.wrap (lc e b y (cyc e b y) * den - num * cyc e b y) = ofM e b y num den := dw64 (by unfold ofM at q1 q2; omega)
  have X5 : IntKind.i64.wrap ((ofM e b y num den).tdiv (gc (absD (ofM e b y num den)) (ofP e b y den))) = ofN e b y num den := dw64 (by unfold ofN at n1 n2; omega)
  have X6 : IntKind.i64.wrap ((ofP e b y den).tdiv (gc (absD (ofM e b y num den)) (ofP e b y den))) = ofD e b y num den := dq64 (by omega) (by omega) g1
  generalize ofN e b y num den = N at *
  generalize ofD e b y num den = D at *
  generalize gc (absD (ofM e b y num den)) (ofP e b y den) = g at *
  generalize ofM e b y num den = M at *
  generalize ofP e b y den = P at *
  generalize lc e b y (cyc e b y) = K at *
  generalize cyc e b y = c at *
  have X7 : ¬ (g = 0) := by omega
  (go_enter Try.func96, Try.ntmps96)
  go_wp2_with fail
  refine (CY.out _).mono ?_
  (rintro e1 w1 ⟨rfl, hb1⟩; obtain ⟨hc1, hf1⟩ := bcell hb1; have hz1 := hb1.size; (try simp only [World.size_alloc, World.size_setCell, World.size_drew] at hz1); have q1 : w.heap.size ≤ w1.heap.size := (by omega); (try have q1_0 : w.heap.size < w1.heap.size := (by omega)); (try have q1_1 : w.heap.size + 1 < w1.heap.size := (by omega)); (try have q1_2 : w.heap.size + 2 < w1.heap.size := (by omega)); (try have q1_3 : w.heap.size + 3 < w1.heap.size := (by omega)))
  go_wp2_with fail
  refine (CL.out _).mono ?_
  (rintro e2 w2 ⟨rfl, hb2⟩; obtain ⟨hc2, hf2⟩ := bcell hb2; have hz2 := hb2.size; (try simp only [World.size_alloc, World.size_setCell, World.size_drew] at hz2); have q2 : w.heap.size ≤ w2.heap.size := (by omega); (try have q2_0 : w.heap.size < w2.heap.size := (by omega)); (try have q2_1 : w.heap.size + 1 < w2.heap.size := (by omega)); (try have q2_2 : w.heap.size + 2 < w2.heap.size := (by omega)); (try have q2_3 : w.heap.size + 3 < w2.heap.size := (by omega)); (try have q2_1_0 : w1.heap.size < w2.heap.size := (by omega)); (try have q2_1_1 : w1.heap.size + 1 < w2.heap.size := (by omega)))
  go_wp2_with fail
  refine (AB.out _).mono ?_
  (rintro e3 w3 ⟨rfl, hb3⟩; obtain ⟨hc3, hf3⟩ := bcell hb3; have hz3 := hb3.size; (try simp only [World.size_alloc, World.size_setCell, World.size_drew] at hz3); have q3 : w.heap.size ≤ w3.heap.size := (by omega); (try have q3_0 : w.heap.size < w3.heap.size := (by omega)); (try have q3_1 : w.heap.size + 1 < w3.heap.size := (by omega)); (try have q3_2 : w.heap.size + 2 < w3.heap.size := (by omega)); (try have q3_3 : w.heap.size + 3 < w3.heap.size := (by omega)); (try have q3_1_0 : w1.heap.size < w3.heap.size := (by omega)); (try have q3_1_1 : w1.heap.size + 1 < w3.heap.size := (by omega)); (try have q3_2_0 : w2.heap.size < w3.heap.size := (by omega)); (try have q3_2_1 : w2.heap.size + 1 < w3.heap.size := (by omega)))
  go_wp2_with fail
  refine (CG.out _).mono ?_
  (rintro e4 w4 ⟨rfl, hb4⟩; obtain ⟨hc4, hf4⟩ := bcell hb4; have hz4 := hb4.size; (try simp only [World.size_alloc, World.size_setCell, World.size_drew] at hz4); have q4 : w.heap.size ≤ w4.heap.size := (by omega); (try have q4_0 : w.heap.size < w4.heap.size := (by omega)); (try have q4_1 : w.heap.size + 1 < w4.heap.size := (by omega)); (try have q4_2 : w.heap.size + 2 < w4.heap.size := (by omega)); (try have q4_3 : w.heap.size + 3 < w4.heap.size := (by omega)); (try have q4_1_0 : w1.heap.size < w4.heap.size := (by omega)); (try have q4_1_1 : w1.heap.size + 1 < w4.heap.size := (by omega)); (try have q4_2_0 : w2.heap.size < w4.heap.size := (by omega)); (try have q4_2_1 : w2.heap.size + 1 < w4.heap.size := (by omega)); (try have q4_3_0 : w3.heap.size < w4.heap.size := (by omega)); (try have q4_3_1 : w3.heap.size + 1 < w4.heap.size := (by omega)))
  go_wp2_with fail
  refine wp_region_below (by kernel_rfl) (by kernel_rfl) ?_
  (apply wpB_take (hw := rfl); (intro wq hq; obtain ⟨hcq, hfq⟩ := bcell hq; unfold atB; go_simp; exact ⟨rfl, rfl⟩); simp only [Act.put, List.setIfInBounds_toArray, List.set_cons_zero, List.set_cons_succ])
  (apply wpB_take (hw := rfl); (intro wq hq; obtain ⟨hcq, hfq⟩ := bcell hq; unfold atB; go_simp; exact ⟨rfl, rfl⟩); simp only [Act.put, List.setIfInBounds_toArray, List.set_cons_zero, List.set_cons_succ])
  (apply wpB_take (hw := rfl); (intro wq hq; obtain ⟨hcq, hfq⟩ := bcell hq; unfold atB; go_simp; exact ⟨rfl, rfl⟩); simp only [Act.put, List.setIfInBounds_toArray, List.set_cons_zero, List.set_cons_succ])
  (apply wpB_take (hw := rfl); (intro wq hq; obtain ⟨hcq, hfq⟩ := bcell hq; unfold atB; go_simp; exact ⟨rfl, rfl⟩); simp only [Act.put, List.setIfInBounds_toArray, List.set_cons_zero, List.set_cons_succ])
  (apply wpB_take (hw := rfl); (intro wq hq; obtain ⟨hcq, hfq⟩ := bcell hq; unfold atB; go_simp; exact ⟨rfl, rfl⟩); simp only [Act.put, List.setIfInBounds_toArray, List.set_cons_zero, List.set_cons_succ])
  (apply wpB_take (hw := rfl); (intro wq hq; obtain ⟨hcq, hfq⟩ := bcell hq; unfold atB; go_simp; exact ⟨rfl, rfl⟩); simp only [Act.put, List.setIfInBounds_toArray, List.set_cons_zero, List.set_cons_succ])
  (apply wpB_take (hw := rfl); (intro wq hq; obtain ⟨hcq, hfq⟩ := bcell hq; unfold atB; go_simp; exact ⟨rfl, rfl⟩); simp only [Act.put, List.setIfInBounds_toArray, List.set_cons_zero, List.set_cons_succ])
  (apply wpB_take (hw := rfl); (intro wq hq; obtain ⟨hcq, hfq⟩ := bcell hq; unfold atB; go_simp; exact ⟨rfl, rfl⟩); simp only [Act.put, List.setIfInBounds_toArray, List.set_cons_zero, List.set_cons_succ])
  refine fun w5 hb5 => ?_
  (obtain ⟨hc5, hf5⟩ := bcell hb5; have hz5 := hb5.size; (try simp only [World.size_alloc, World.size_setCell, World.size_drew] at hz5); have q5 : w.heap.size ≤ w5.heap.size := (by omega); (try have q5_0 : w.heap.size < w5.heap.size := (by omega)); (try have q5_1 : w.heap.size + 1 < w5.heap.size := (by omega)); (try have q5_2 : w.heap.size + 2 < w5.heap.size := (by omega)); (try have q5_3 : w.heap.size + 3 < w5.heap.size := (by omega)); (try have p5_1 : b1 < w5.heap.size := (by omega)); (try have p5_2 : b2 < w5.heap.size := (by omega)); (try have p5_3 : b3 < w5.heap.size := (by omega)); (try have p5_4 : b4 < w5.heap.size := (by omega)); try simp only [Act.put, List.setIfInBounds_toArray, List.set_cons_zero, List.set_cons_succ])
  go_wp2
  (refine bodyPost_ret (by simp [results, Try.results96, go_sem, *]; try rfl) rfl ?_)
  exact ⟨rfl, by (repeat' (first | (with_reducible exact Below.refl _ _) | (with_reducible assumption) | (with_reducible refine Below.alloc ?_ ?_ _) | (with_reducible refine Below.drew ?_) | (with_reducible refine below_drewN ?_ _) | (with_reducible refine Below.setCell ?_ ?_ _) | (with_reducible refine below_call ?_ ?_ (by assumption)) | go_size))⟩

set_option maxHeartbeats 800000 in
theorem specOffBy_any (e b y num den : Int) (w : World) :
    Calls Try.prog 42 #[lv e b y, .int .i64 num, .int .i64 den] w fun e' w' => e' = .returned (dnn (offR e b y num den)) ∧ Below w.heap.size w w' := by
  cases ga : ruleB e b y
  · have HM := Lib.hid (show (0, 0, false) = offR e b y num den from by simp [offR, ga])
    (go_enter Try.func42, Try.ntmps42)
    go_wp2_with fail
    refine (daRule_is e b y ga _).mono ?_
    (rintro e1 w1 ⟨rfl, hb1⟩; obtain ⟨hc1, hf1⟩ := bcell hb1; have hz1 := hb1.size; (try simp only [World.size_alloc, World.size_setCell, World.size_drew] at hz1); have q1 : w.heap.size ≤ w1.heap.size := (by omega); (try have q1_0 : w.heap.size < w1.heap.size := (by omega)); (try have q1_1 : w.heap.size + 1 < w1.heap.size := (by omega)); (try have q1_2 : w.heap.size + 2 < w1.heap.size := (by omega)); (try have q1_3 : w.heap.size + 3 < w1.heap.size := (by omega)))
    go_wp2
    (refine bodyPost_ret (by simp [results, Try.results42, go_sem, *]; try rfl) rfl ?_)
    exact ⟨ret_dnn HM.out, by (repeat' (first | (with_reducible exact Below.refl _ _) | (with_reducible assumption) | (with_reducible refine Below.alloc ?_ ?_ _) | (with_reducible refine Below.drew ?_) | (with_reducible refine below_drewN ?_ _) | (with_reducible refine Below.setCell ?_ ?_ _) | (with_reducible refine below_call ?_ ?_ (by assumption)) | go_size))⟩
  · cases gb : frB num den
    · have HM := Lib.hid (show (0, 0, false) = offR e b y num den from by simp [offR, ga, gb])
      (go_enter Try.func42, Try.ntmps42)
      go_wp2_with fail
      refine (daRule_is e b y ga _).mono ?_
      (rintro e1 w1 ⟨rfl, hb1⟩; obtain ⟨hc1, hf1⟩ := bcell hb1; have hz1 := hb1.size; (try simp only [World.size_alloc, World.size_setCell, World.size_drew] at hz1); have q1 : w.heap.size ≤ w1.heap.size := (by omega); (try have q1_0 : w.heap.size < w1.heap.size := (by omega)); (try have q1_1 : w.heap.size + 1 < w1.heap.size := (by omega)); (try have q1_2 : w.heap.size + 2 < w1.heap.size := (by omega)); (try have q1_3 : w.heap.size + 3 < w1.heap.size := (by omega)))
      go_wp2_with fail
      refine (daFrac_is num den gb _).mono ?_
      (rintro e2 w2 ⟨rfl, hb2⟩; obtain ⟨hc2, hf2⟩ := bcell hb2; have hz2 := hb2.size; (try simp only [World.size_alloc, World.size_setCell, World.size_drew] at hz2); have q2 : w.heap.size ≤ w2.heap.size := (by omega); (try have q2_0 : w.heap.size < w2.heap.size := (by omega)); (try have q2_1 : w.heap.size + 1 < w2.heap.size := (by omega)); (try have q2_2 : w.heap.size + 2 < w2.heap.size := (by omega)); (try have q2_3 : w.heap.size + 3 < w2.heap.size := (by omega)); (try have q2_1_0 : w1.heap.size < w2.heap.size := (by omega)); (try have q2_1_1 : w1.heap.size + 1 < w2.heap.size := (by omega)))
      go_wp2
      (refine bodyPost_ret (by simp [results, Try.results42, go_sem, *]; try rfl) rfl ?_)
      exact ⟨ret_dnn HM.out, by (repeat' (first | (with_reducible exact Below.refl _ _) | (with_reducible assumption) | (with_reducible refine Below.alloc ?_ ?_ _) | (with_reducible refine Below.drew ?_) | (with_reducible refine below_drewN ?_ _) | (with_reducible refine Below.setCell ?_ ?_ _) | (with_reducible refine below_call ?_ ?_ (by assumption)) | go_size))⟩
    · have HM := Lib.hid (show (ofN e b y num den, ofD e b y num den, true) = offR e b y num den from by simp [offR, ga, gb])
      (go_enter Try.func42, Try.ntmps42)
      go_wp2_with fail
      refine (daRule_is e b y ga _).mono ?_
      (rintro e1 w1 ⟨rfl, hb1⟩; obtain ⟨hc1, hf1⟩ := bcell hb1; have hz1 := hb1.size; (try simp only [World.size_alloc, World.size_setCell, World.size_drew] at hz1); have q1 : w.heap.size ≤ w1.heap.size := (by omega); (try have q1_0 : w.heap.size < w1.heap.size := (by omega)); (try have q1_1 : w.heap.size + 1 < w1.heap.size := (by omega)); (try have q1_2 : w.heap.size + 2 < w1.heap.size := (by omega)); (try have q1_3 : w.heap.size + 3 < w1.heap.size := (by omega)))
      go_wp2_with fail
      refine (daFrac_is num den gb _).mono ?_
      (rintro e2 w2 ⟨rfl, hb2⟩; obtain ⟨hc2, hf2⟩ := bcell hb2; have hz2 := hb2.size; (try simp only [World.size_alloc, World.size_setCell, World.size_drew] at hz2); have q2 : w.heap.size ≤ w2.heap.size := (by omega); (try have q2_0 : w.heap.size < w2.heap.size := (by omega)); (try have q2_1 : w.heap.size + 1 < w2.heap.size := (by omega)); (try have q2_2 : w.heap.size + 2 < w2.heap.size := (by omega)); (try have q2_3 : w.heap.size + 3 < w2.heap.size := (by omega)); (try have q2_1_0 : w1.heap.size < w2.heap.size := (by omega)); (try have q2_1_1 : w1.heap.size + 1 < w2.heap.size := (by omega)))
      go_wp2_with fail
      refine (daOff_any e b y num den ga gb _).mono ?_
      (rintro e3 w3 ⟨rfl, hb3⟩; obtain ⟨hc3, hf3⟩ := bcell hb3; have hz3 := hb3.size; (try simp only [World.size_alloc, World.size_setCell, World.size_drew] at hz3); have q3 : w.heap.size ≤ w3.heap.size := (by omega); (try have q3_0 : w.heap.size < w3.heap.size := (by omega)); (try have q3_1 : w.heap.size + 1 < w3.heap.size := (by omega)); (try have q3_2 : w.heap.size + 2 < w3.heap.size := (by omega)); (try have q3_3 : w.heap.size + 3 < w3.heap.size := (by omega)); (try have q3_1_0 : w1.heap.size < w3.heap.size := (by omega)); (try have q3_1_1 : w1.heap.size + 1 < w3.heap.size := (by omega)); (try have q3_2_0 : w2.heap.size < w3.heap.size := (by omega)); (try have q3_2_1 : w2.heap.size + 1 < w3.heap.size := (by omega)))
      go_wp2
      (refine bodyPost_ret (by simp [results, Try.results42, go_sem, *]; try rfl) rfl ?_)
      exact ⟨ret_dnn HM.out, by (repeat' (first | (with_reducible exact Below.refl _ _) | (with_reducible assumption) | (with_reducible refine Below.alloc ?_ ?_ _) | (with_reducible refine Below.drew ?_) | (with_reducible refine below_drewN ?_ _) | (with_reducible refine Below.setCell ?_ ?_ _) | (with_reducible refine below_call ?_ ?_ (by assumption)) | go_size))⟩

set_option maxHeartbeats 1600000 in
theorem implOffBy_any (e b y num den : Int) (w : World) :
    Calls Try.prog 43 #[lv e b y, .int .i64 num, .int .i64 den] w fun e' w' => e' = .returned (dnn (offR e b y num den)) ∧ Below w.heap.size w w' := by
  cases ga : ruleB e b y
  · have HM := Lib.hid (show (0, 0, false) = offR e b y num den from by simp [offR, ga])
    (go_enter Try.func43, Try.ntmps43)
    go_wp2_with fail
    refine (isRule_is e b y ga _).mono ?_
    (rintro e1 w1 ⟨rfl, hb1⟩; obtain ⟨hc1, hf1⟩ := bcell hb1; have hz1 := hb1.size; (try simp only [World.size_alloc, World.size_setCell, World.size_drew] at hz1); have q1 : w.heap.size ≤ w1.heap.size := (by omega); (try have q1_0 : w.heap.size < w1.heap.size := (by omega)); (try have q1_1 : w.heap.size + 1 < w1.heap.size := (by omega)); (try have q1_2 : w.heap.size + 2 < w1.heap.size := (by omega)); (try have q1_3 : w.heap.size + 3 < w1.heap.size := (by omega)))
    go_wp2
    (refine bodyPost_ret (by simp [results, Try.results43, go_sem, *]; try rfl) rfl ?_)
    exact ⟨ret_dnn HM.out, by (repeat' (first | (with_reducible exact Below.refl _ _) | (with_reducible assumption) | (with_reducible refine Below.alloc ?_ ?_ _) | (with_reducible refine Below.drew ?_) | (with_reducible refine below_drewN ?_ _) | (with_reducible refine Below.setCell ?_ ?_ _) | (with_reducible refine below_call ?_ ?_ (by assumption)) | go_size))⟩
  · cases gb : frB num den
    · have HM := Lib.hid (show (0, 0, false) = offR e b y num den from by simp [offR, ga, gb])
      (go_enter Try.func43, Try.ntmps43)
      go_wp2_with fail
      refine (isRule_is e b y ga _).mono ?_
      (rintro e1 w1 ⟨rfl, hb1⟩; obtain ⟨hc1, hf1⟩ := bcell hb1; have hz1 := hb1.size; (try simp only [World.size_alloc, World.size_setCell, World.size_drew] at hz1); have q1 : w.heap.size ≤ w1.heap.size := (by omega); (try have q1_0 : w.heap.size < w1.heap.size := (by omega)); (try have q1_1 : w.heap.size + 1 < w1.heap.size := (by omega)); (try have q1_2 : w.heap.size + 2 < w1.heap.size := (by omega)); (try have q1_3 : w.heap.size + 3 < w1.heap.size := (by omega)))
      go_wp2_with fail
      refine (isPart_is num den gb _).mono ?_
      (rintro e2 w2 ⟨rfl, hb2⟩; obtain ⟨hc2, hf2⟩ := bcell hb2; have hz2 := hb2.size; (try simp only [World.size_alloc, World.size_setCell, World.size_drew] at hz2); have q2 : w.heap.size ≤ w2.heap.size := (by omega); (try have q2_0 : w.heap.size < w2.heap.size := (by omega)); (try have q2_1 : w.heap.size + 1 < w2.heap.size := (by omega)); (try have q2_2 : w.heap.size + 2 < w2.heap.size := (by omega)); (try have q2_3 : w.heap.size + 3 < w2.heap.size := (by omega)); (try have q2_1_0 : w1.heap.size < w2.heap.size := (by omega)); (try have q2_1_1 : w1.heap.size + 1 < w2.heap.size := (by omega)))
      go_wp2
      (refine bodyPost_ret (by simp [results, Try.results43, go_sem, *]; try rfl) rfl ?_)
      exact ⟨ret_dnn HM.out, by (repeat' (first | (with_reducible exact Below.refl _ _) | (with_reducible assumption) | (with_reducible refine Below.alloc ?_ ?_ _) | (with_reducible refine Below.drew ?_) | (with_reducible refine below_drewN ?_ _) | (with_reducible refine Below.setCell ?_ ?_ _) | (with_reducible refine below_call ?_ ?_ (by assumption)) | go_size))⟩
    · have HM := Lib.hid (show (ofN e b y num den, ofD e b y num den, true) = offR e b y num den from by simp [offR, ga, gb])
      obtain ⟨⟨m1, m2⟩, ⟨m3, m4⟩, ⟨p1, p2⟩, q1, q2⟩ := of_bd ga gb
      obtain ⟨⟨g1, g2⟩, ⟨n1, n2⟩, d1, d2⟩ := of_q ga gb
      obtain ⟨c1, c2⟩ := cyc_bd ga
      obtain ⟨a0, a1, a2, -⟩ := absD_bd (ofM e b y num den)
      obtain ⟨f1, f2, f3⟩ := frBd gb
      have l1 := lc_nonneg ga (cyc e b y) (by omega)
      have l2 := lc_up ga (cyc e b y) (by omega)
      have CY := Lib.hid (fun w => cycI_any e b y ga w)
      have CL := Lib.hid (fun w => lcI_any e b y (cyc e b y) ga ⟨by omega, by omega⟩ w)
      have CG := Lib.hid (fun w => commonDivisor_any (absD (ofM e b y num den)) (ofP e b y den) a0 (by omega) w)
      have X1 : IntKind.i64.wrap (lc e b y (cyc e b y) * den) = lc e b y (cyc e b y) * den := dw64 (by omega)
      have X2 : IntKind.i64.wrap (num * cyc e b y) = num * cyc e b y := dw64 (by omega)
      have X3 : IntKind.i64.wrap (cyc e b y * den) = ofP e b y den := dw64 (by unfold ofP at p1 p2; omega)
      have X4 : IntKind.i64.wrap (lc e b y (cyc e b y) * den - num * cyc e b y) = ofM e b y num den := dw64 (by unfold ofM at q1 q2; omega)
      have X5 : IntKind.i64.wrap ((ofM e b y num den).tdiv (gc (absD (ofM e b y num den)) (ofP e b y den))) = ofN e b y num den := dw64 (by unfold ofN at n1 n2; omega)
      have X6 : IntKind.i64.wrap ((ofP e b y den).tdiv (gc (absD (ofM e b y num den)) (ofP e b y den))) = ofD e b y num den := dq64 (by omega) (by omega) g1
      generalize ofN e b y num den = N at *
      generalize ofD e b y num den = D at *
      generalize gc (absD (ofM e b y num den)) (ofP e b y den) = g at *
      generalize ofM e b y num den = M at *
      generalize ofP e b y den = P at *
      generalize lc e b y (cyc e b y) = K at *
      generalize cyc e b y = c at *
      have X7 : ¬ (g = 0) := by omega
      by_cases hs : M < 0
      · have a3 := a1 hs
        have hx : M < -M := by omega
        have CGx := CG
        rw [a3] at CGx
        (go_enter Try.func43, Try.ntmps43)
        go_wp2_with fail
        refine (isRule_is e b y ga _).mono ?_
        (rintro e1 w1 ⟨rfl, hb1⟩; obtain ⟨hc1, hf1⟩ := bcell hb1; have hz1 := hb1.size; (try simp only [World.size_alloc, World.size_setCell, World.size_drew] at hz1); have q1 : w.heap.size ≤ w1.heap.size := (by omega); (try have q1_0 : w.heap.size < w1.heap.size := (by omega)); (try have q1_1 : w.heap.size + 1 < w1.heap.size := (by omega)); (try have q1_2 : w.heap.size + 2 < w1.heap.size := (by omega)); (try have q1_3 : w.heap.size + 3 < w1.heap.size := (by omega)))
        go_wp2_with fail
        refine (isPart_is num den gb _).mono ?_
        (rintro e2 w2 ⟨rfl, hb2⟩; obtain ⟨hc2, hf2⟩ := bcell hb2; have hz2 := hb2.size; (try simp only [World.size_alloc, World.size_setCell, World.size_drew] at hz2); have q2 : w.heap.size ≤ w2.heap.size := (by omega); (try have q2_0 : w.heap.size < w2.heap.size := (by omega)); (try have q2_1 : w.heap.size + 1 < w2.heap.size := (by omega)); (try have q2_2 : w.heap.size + 2 < w2.heap.size := (by omega)); (try have q2_3 : w.heap.size + 3 < w2.heap.size := (by omega)); (try have q2_1_0 : w1.heap.size < w2.heap.size := (by omega)); (try have q2_1_1 : w1.heap.size + 1 < w2.heap.size := (by omega)))
        go_wp2_with fail
        refine (CY.out _).mono ?_
        (rintro e3 w3 ⟨rfl, hb3⟩; obtain ⟨hc3, hf3⟩ := bcell hb3; have hz3 := hb3.size; (try simp only [World.size_alloc, World.size_setCell, World.size_drew] at hz3); have q3 : w.heap.size ≤ w3.heap.size := (by omega); (try have q3_0 : w.heap.size < w3.heap.size := (by omega)); (try have q3_1 : w.heap.size + 1 < w3.heap.size := (by omega)); (try have q3_2 : w.heap.size + 2 < w3.heap.size := (by omega)); (try have q3_3 : w.heap.size + 3 < w3.heap.size := (by omega)); (try have q3_1_0 : w1.heap.size < w3.heap.size := (by omega)); (try have q3_1_1 : w1.heap.size + 1 < w3.heap.size := (by omega)); (try have q3_2_0 : w2.heap.size < w3.heap.size := (by omega)); (try have q3_2_1 : w2.heap.size + 1 < w3.heap.size := (by omega)))
        go_wp2_with fail
        refine (CL.out _).mono ?_
        (rintro e4 w4 ⟨rfl, hb4⟩; obtain ⟨hc4, hf4⟩ := bcell hb4; have hz4 := hb4.size; (try simp only [World.size_alloc, World.size_setCell, World.size_drew] at hz4); have q4 : w.heap.size ≤ w4.heap.size := (by omega); (try have q4_0 : w.heap.size < w4.heap.size := (by omega)); (try have q4_1 : w.heap.size + 1 < w4.heap.size := (by omega)); (try have q4_2 : w.heap.size + 2 < w4.heap.size := (by omega)); (try have q4_3 : w.heap.size + 3 < w4.heap.size := (by omega)); (try have q4_1_0 : w1.heap.size < w4.heap.size := (by omega)); (try have q4_1_1 : w1.heap.size + 1 < w4.heap.size := (by omega)); (try have q4_2_0 : w2.heap.size < w4.heap.size := (by omega)); (try have q4_2_1 : w2.heap.size + 1 < w4.heap.size := (by omega)); (try have q4_3_0 : w3.heap.size < w4.heap.size := (by omega)); (try have q4_3_1 : w3.heap.size + 1 < w4.heap.size := (by omega)))
        go_wp2_with fail
        refine (CGx.out _).mono ?_
        (rintro e5 w5 ⟨rfl, hb5⟩; obtain ⟨hc5, hf5⟩ := bcell hb5; have hz5 := hb5.size; (try simp only [World.size_alloc, World.size_setCell, World.size_drew] at hz5); have q5 : w.heap.size ≤ w5.heap.size := (by omega); (try have q5_0 : w.heap.size < w5.heap.size := (by omega)); (try have q5_1 : w.heap.size + 1 < w5.heap.size := (by omega)); (try have q5_2 : w.heap.size + 2 < w5.heap.size := (by omega)); (try have q5_3 : w.heap.size + 3 < w5.heap.size := (by omega)); (try have q5_1_0 : w1.heap.size < w5.heap.size := (by omega)); (try have q5_1_1 : w1.heap.size + 1 < w5.heap.size := (by omega)); (try have q5_2_0 : w2.heap.size < w5.heap.size := (by omega)); (try have q5_2_1 : w2.heap.size + 1 < w5.heap.size := (by omega)); (try have q5_3_0 : w3.heap.size < w5.heap.size := (by omega)); (try have q5_3_1 : w3.heap.size + 1 < w5.heap.size := (by omega)); (try have q5_4_0 : w4.heap.size < w5.heap.size := (by omega)); (try have q5_4_1 : w4.heap.size + 1 < w5.heap.size := (by omega)))
        go_wp2_with fail
        refine wp_region_below (by kernel_rfl) (by kernel_rfl) ?_
        (apply wpB_take (hw := rfl); (intro wq hq; obtain ⟨hcq, hfq⟩ := bcell hq; unfold atB; go_simp; exact ⟨rfl, rfl⟩); simp only [Act.put, List.setIfInBounds_toArray, List.set_cons_zero, List.set_cons_succ])
        (apply wpB_take (hw := rfl); (intro wq hq; obtain ⟨hcq, hfq⟩ := bcell hq; unfold atB; go_simp; exact ⟨rfl, rfl⟩); simp only [Act.put, List.setIfInBounds_toArray, List.set_cons_zero, List.set_cons_succ])
        (apply wpB_take (hw := rfl); (intro wq hq; obtain ⟨hcq, hfq⟩ := bcell hq; unfold atB; go_simp; exact ⟨rfl, rfl⟩); simp only [Act.put, List.setIfInBounds_toArray, List.set_cons_zero, List.set_cons_succ])
        (apply wpB_take (hw := rfl); (intro wq hq; obtain ⟨hcq, hfq⟩ := bcell hq; unfold atB; go_simp; exact ⟨rfl, rfl⟩); simp only [Act.put, List.setIfInBounds_toArray, List.set_cons_zero, List.set_cons_succ])
        (apply wpB_take (hw := rfl); (intro wq hq; obtain ⟨hcq, hfq⟩ := bcell hq; unfold atB; go_simp; exact ⟨rfl, rfl⟩); simp only [Act.put, List.setIfInBounds_toArray, List.set_cons_zero, List.set_cons_succ])
        (apply wpB_take (hw := rfl); (intro wq hq; obtain ⟨hcq, hfq⟩ := bcell hq; unfold atB; go_simp; exact ⟨rfl, rfl⟩); simp only [Act.put, List.setIfInBounds_toArray, List.set_cons_zero, List.set_cons_succ])
        (apply wpB_take (hw := rfl); (intro wq hq; obtain ⟨hcq, hfq⟩ := bcell hq; unfold atB; go_simp; exact ⟨rfl, rfl⟩); simp only [Act.put, List.setIfInBounds_toArray, List.set_cons_zero, List.set_cons_succ])
        (apply wpB_take (hw := rfl); (intro wq hq; obtain ⟨hcq, hfq⟩ := bcell hq; unfold atB; go_simp; exact ⟨rfl, rfl⟩); simp only [Act.put, List.setIfInBounds_toArray, List.set_cons_zero, List.set_cons_succ])
        (apply wpB_take (hw := rfl); (intro wq hq; obtain ⟨hcq, hfq⟩ := bcell hq; unfold atB; go_simp; exact ⟨rfl, rfl⟩); simp only [Act.put, List.setIfInBounds_toArray, List.set_cons_zero, List.set_cons_succ])
        refine fun w6 hb6 => ?_
        (obtain ⟨hc6, hf6⟩ := bcell hb6; have hz6 := hb6.size; (try simp only [World.size_alloc, World.size_setCell, World.size_drew] at hz6); have q6 : w.heap.size ≤ w6.heap.size := (by omega); (try have q6_0 : w.heap.size < w6.heap.size := (by omega)); (try have q6_1 : w.heap.size + 1 < w6.heap.size := (by omega)); (try have q6_2 : w.heap.size + 2 < w6.heap.size := (by omega)); (try have q6_3 : w.heap.size + 3 < w6.heap.size := (by omega)); (try have p6_1 : b1 < w6.heap.size := (by omega)); (try have p6_2 : b2 < w6.heap.size := (by omega)); (try have p6_3 : b3 < w6.heap.size := (by omega)); (try have p6_4 : b4 < w6.heap.size := (by omega)); (try have p6_5 : b5 < w6.heap.size := (by omega)); try simp only [Act.put, List.setIfInBounds_toArray, List.set_cons_zero, List.set_cons_succ])
        go_wp2
        (refine bodyPost_ret (by simp [results, Try.results43, go_sem, *]; try rfl) rfl ?_)
        exact ⟨ret_dnn HM.out, by (repeat' (first | (with_reducible exact Below.refl _ _) | (with_reducible assumption) | (with_reducible refine Below.alloc ?_ ?_ _) | (with_reducible refine Below.drew ?_) | (with_reducible refine below_drewN ?_ _) | (with_reducible refine Below.setCell ?_ ?_ _) | (with_reducible refine below_call ?_ ?_ (by assumption)) | go_size))⟩
      · have a3 := a2 (by omega)
        have hx : ¬ M < -M := by omega
        have CGx := CG
        rw [a3] at CGx
        (go_enter Try.func43, Try.ntmps43)
        go_wp2_with fail
        refine (isRule_is e b y ga _).mono ?_
        (rintro e1 w1 ⟨rfl, hb1⟩; obtain ⟨hc1, hf1⟩ := bcell hb1; have hz1 := hb1.size; (try simp only [World.size_alloc, World.size_setCell, World.size_drew] at hz1); have q1 : w.heap.size ≤ w1.heap.size := (by omega); (try have q1_0 : w.heap.size < w1.heap.size := (by omega)); (try have q1_1 : w.heap.size + 1 < w1.heap.size := (by omega)); (try have q1_2 : w.heap.size + 2 < w1.heap.size := (by omega)); (try have q1_3 : w.heap.size + 3 < w1.heap.size := (by omega)))
        go_wp2_with fail
        refine (isPart_is num den gb _).mono ?_
        (rintro e2 w2 ⟨rfl, hb2⟩; obtain ⟨hc2, hf2⟩ := bcell hb2; have hz2 := hb2.size; (try simp only [World.size_alloc, World.size_setCell, World.size_drew] at hz2); have q2 : w.heap.size ≤ w2.heap.size := (by omega); (try have q2_0 : w.heap.size < w2.heap.size := (by omega)); (try have q2_1 : w.heap.size + 1 < w2.heap.size := (by omega)); (try have q2_2 : w.heap.size + 2 < w2.heap.size := (by omega)); (try have q2_3 : w.heap.size + 3 < w2.heap.size := (by omega)); (try have q2_1_0 : w1.heap.size < w2.heap.size := (by omega)); (try have q2_1_1 : w1.heap.size + 1 < w2.heap.size := (by omega)))
        go_wp2_with fail
        refine (CY.out _).mono ?_
        (rintro e3 w3 ⟨rfl, hb3⟩; obtain ⟨hc3, hf3⟩ := bcell hb3; have hz3 := hb3.size; (try simp only [World.size_alloc, World.size_setCell, World.size_drew] at hz3); have q3 : w.heap.size ≤ w3.heap.size := (by omega); (try have q3_0 : w.heap.size < w3.heap.size := (by omega)); (try have q3_1 : w.heap.size + 1 < w3.heap.size := (by omega)); (try have q3_2 : w.heap.size + 2 < w3.heap.size := (by omega)); (try have q3_3 : w.heap.size + 3 < w3.heap.size := (by omega)); (try have q3_1_0 : w1.heap.size < w3.heap.size := (by omega)); (try have q3_1_1 : w1.heap.size + 1 < w3.heap.size := (by omega)); (try have q3_2_0 : w2.heap.size < w3.heap.size := (by omega)); (try have q3_2_1 : w2.heap.size + 1 < w3.heap.size := (by omega)))
        go_wp2_with fail
        refine (CL.out _).mono ?_
        (rintro e4 w4 ⟨rfl, hb4⟩; obtain ⟨hc4, hf4⟩ := bcell hb4; have hz4 := hb4.size; (try simp only [World.size_alloc, World.size_setCell, World.size_drew] at hz4); have q4 : w.heap.size ≤ w4.heap.size := (by omega); (try have q4_0 : w.heap.size < w4.heap.size := (by omega)); (try have q4_1 : w.heap.size + 1 < w4.heap.size := (by omega)); (try have q4_2 : w.heap.size + 2 < w4.heap.size := (by omega)); (try have q4_3 : w.heap.size + 3 < w4.heap.size := (by omega)); (try have q4_1_0 : w1.heap.size < w4.heap.size := (by omega)); (try have q4_1_1 : w1.heap.size + 1 < w4.heap.size := (by omega)); (try have q4_2_0 : w2.heap.size < w4.heap.size := (by omega)); (try have q4_2_1 : w2.heap.size + 1 < w4.heap.size := (by omega)); (try have q4_3_0 : w3.heap.size < w4.heap.size := (by omega)); (try have q4_3_1 : w3.heap.size + 1 < w4.heap.size := (by omega)))
        go_wp2_with fail
        refine (CGx.out _).mono ?_
        (rintro e5 w5 ⟨rfl, hb5⟩; obtain ⟨hc5, hf5⟩ := bcell hb5; have hz5 := hb5.size; (try simp only [World.size_alloc, World.size_setCell, World.size_drew] at hz5); have q5 : w.heap.size ≤ w5.heap.size := (by omega); (try have q5_0 : w.heap.size < w5.heap.size := (by omega)); (try have q5_1 : w.heap.size + 1 < w5.heap.size := (by omega)); (try have q5_2 : w.heap.size + 2 < w5.heap.size := (by omega)); (try have q5_3 : w.heap.size + 3 < w5.heap.size := (by omega)); (try have q5_1_0 : w1.heap.size < w5.heap.size := (by omega)); (try have q5_1_1 : w1.heap.size + 1 < w5.heap.size := (by omega)); (try have q5_2_0 : w2.heap.size < w5.heap.size := (by omega)); (try have q5_2_1 : w2.heap.size + 1 < w5.heap.size := (by omega)); (try have q5_3_0 : w3.heap.size < w5.heap.size := (by omega)); (try have q5_3_1 : w3.heap.size + 1 < w5.heap.size := (by omega)); (try have q5_4_0 : w4.heap.size < w5.heap.size := (by omega)); (try have q5_4_1 : w4.heap.size + 1 < w5.heap.size := (by omega)))
        go_wp2_with fail
        refine wp_region_below (by kernel_rfl) (by kernel_rfl) ?_
        (apply wpB_take (hw := rfl); (intro wq hq; obtain ⟨hcq, hfq⟩ := bcell hq; unfold atB; go_simp; exact ⟨rfl, rfl⟩); simp only [Act.put, List.setIfInBounds_toArray, List.set_cons_zero, List.set_cons_succ])
        (apply wpB_take (hw := rfl); (intro wq hq; obtain ⟨hcq, hfq⟩ := bcell hq; unfold atB; go_simp; exact ⟨rfl, rfl⟩); simp only [Act.put, List.setIfInBounds_toArray, List.set_cons_zero, List.set_cons_succ])
        (apply wpB_take (hw := rfl); (intro wq hq; obtain ⟨hcq, hfq⟩ := bcell hq; unfold atB; go_simp; exact ⟨rfl, rfl⟩); simp only [Act.put, List.setIfInBounds_toArray, List.set_cons_zero, List.set_cons_succ])
        (apply wpB_take (hw := rfl); (intro wq hq; obtain ⟨hcq, hfq⟩ := bcell hq; unfold atB; go_simp; exact ⟨rfl, rfl⟩); simp only [Act.put, List.setIfInBounds_toArray, List.set_cons_zero, List.set_cons_succ])
        (apply wpB_take (hw := rfl); (intro wq hq; obtain ⟨hcq, hfq⟩ := bcell hq; unfold atB; go_simp; exact ⟨rfl, rfl⟩); simp only [Act.put, List.setIfInBounds_toArray, List.set_cons_zero, List.set_cons_succ])
        (apply wpB_take (hw := rfl); (intro wq hq; obtain ⟨hcq, hfq⟩ := bcell hq; unfold atB; go_simp; exact ⟨rfl, rfl⟩); simp only [Act.put, List.setIfInBounds_toArray, List.set_cons_zero, List.set_cons_succ])
        (apply wpB_take (hw := rfl); (intro wq hq; obtain ⟨hcq, hfq⟩ := bcell hq; unfold atB; go_simp; exact ⟨rfl, rfl⟩); simp only [Act.put, List.setIfInBounds_toArray, List.set_cons_zero, List.set_cons_succ])
        (apply wpB_take (hw := rfl); (intro wq hq; obtain ⟨hcq, hfq⟩ := bcell hq; unfold atB; go_simp; exact ⟨rfl, rfl⟩); simp only [Act.put, List.setIfInBounds_toArray, List.set_cons_zero, List.set_cons_succ])
        (apply wpB_take (hw := rfl); (intro wq hq; obtain ⟨hcq, hfq⟩ := bcell hq; unfold atB; go_simp; exact ⟨rfl, rfl⟩); simp only [Act.put, List.setIfInBounds_toArray, List.set_cons_zero, List.set_cons_succ])
        refine fun w6 hb6 => ?_
        (obtain ⟨hc6, hf6⟩ := bcell hb6; have hz6 := hb6.size; (try simp only [World.size_alloc, World.size_setCell, World.size_drew] at hz6); have q6 : w.heap.size ≤ w6.heap.size := (by omega); (try have q6_0 : w.heap.size < w6.heap.size := (by omega)); (try have q6_1 : w.heap.size + 1 < w6.heap.size := (by omega)); (try have q6_2 : w.heap.size + 2 < w6.heap.size := (by omega)); (try have q6_3 : w.heap.size + 3 < w6.heap.size := (by omega)); (try have p6_1 : b1 < w6.heap.size := (by omega)); (try have p6_2 : b2 < w6.heap.size := (by omega)); (try have p6_3 : b3 < w6.heap.size := (by omega)); (try have p6_4 : b4 < w6.heap.size := (by omega)); (try have p6_5 : b5 < w6.heap.size := (by omega)); try simp only [Act.put, List.setIfInBounds_toArray, List.set_cons_zero, List.set_cons_succ])
        go_wp2
        (refine bodyPost_ret (by simp [results, Try.results43, go_sem, *]; try rfl) rfl ?_)
        exact ⟨ret_dnn HM.out, by (repeat' (first | (with_reducible exact Below.refl _ _) | (with_reducible assumption) | (with_reducible refine Below.alloc ?_ ?_ _) | (with_reducible refine Below.drew ?_) | (with_reducible refine below_drewN ?_ _) | (with_reducible refine Below.setCell ?_ ?_ _) | (with_reducible refine below_call ?_ ?_ (by assumption)) | go_size))⟩

set_option maxHeartbeats 1600000 in
theorem specYearsForDay_any (e b y num den : Int) (w : World) :
    Calls Try.prog 44 #[lv e b y, .int .i64 num, .int .i64 den] w fun e' w' => e' = .returned (dn (yfdR e b y num den)) ∧ Below w.heap.size w w' := by
  cases ga : ruleB e b y
  · have HM := Lib.hid (show (0, false) = yfdR e b y num den from by simp [yfdR, ga])
    (go_enter Try.func44, Try.ntmps44)
    go_wp2_with fail
    refine (daRule_is e b y ga _).mono ?_
    (rintro e1 w1 ⟨rfl, hb1⟩; obtain ⟨hc1, hf1⟩ := bcell hb1; have hz1 := hb1.size; (try simp only [World.size_alloc, World.size_setCell, World.size_drew] at hz1); have q1 : w.heap.size ≤ w1.heap.size := (by omega); (try have q1_0 : w.heap.size < w1.heap.size := (by omega)); (try have q1_1 : w.heap.size + 1 < w1.heap.size := (by omega)); (try have q1_2 : w.heap.size + 2 < w1.heap.size := (by omega)); (try have q1_3 : w.heap.size + 3 < w1.heap.size := (by omega)))
    go_wp2
    go_ret2
    exact ⟨ret_dn HM.out, by (repeat' (first | (with_reducible exact Below.refl _ _) | (with_reducible assumption) | (with_reducible refine Below.alloc ?_ ?_ _) | (with_reducible refine Below.drew ?_) | (with_reducible refine below_drewN ?_ _) | (with_reducible refine Below.setCell ?_ ?_ _) | (with_reducible refine below_call ?_ ?_ (by assumption)) | go_size))⟩
  · cases gb : frB num den
    · have HM := Lib.hid (show (0, false) = yfdR e b y num den from by simp [yfdR, ga, gb])
      (go_enter Try.func44, Try.ntmps44)
      go_wp2_with fail
      refine (daRule_is e b y ga _).mono ?_
      (rintro e1 w1 ⟨rfl, hb1⟩; obtain ⟨hc1, hf1⟩ := bcell hb1; have hz1 := hb1.size; (try simp only [World.size_alloc, World.size_setCell, World.size_drew] at hz1); have q1 : w.heap.size ≤ w1.heap.size := (by omega); (try have q1_0 : w.heap.size < w1.heap.size := (by omega)); (try have q1_1 : w.heap.size + 1 < w1.heap.size := (by omega)); (try have q1_2 : w.heap.size + 2 < w1.heap.size := (by omega)); (try have q1_3 : w.heap.size + 3 < w1.heap.size := (by omega)))
      go_wp2_with fail
      refine (daFrac_is num den gb _).mono ?_
      (rintro e2 w2 ⟨rfl, hb2⟩; obtain ⟨hc2, hf2⟩ := bcell hb2; have hz2 := hb2.size; (try simp only [World.size_alloc, World.size_setCell, World.size_drew] at hz2); have q2 : w.heap.size ≤ w2.heap.size := (by omega); (try have q2_0 : w.heap.size < w2.heap.size := (by omega)); (try have q2_1 : w.heap.size + 1 < w2.heap.size := (by omega)); (try have q2_2 : w.heap.size + 2 < w2.heap.size := (by omega)); (try have q2_3 : w.heap.size + 3 < w2.heap.size := (by omega)); (try have q2_1_0 : w1.heap.size < w2.heap.size := (by omega)); (try have q2_1_1 : w1.heap.size + 1 < w2.heap.size := (by omega)))
      go_wp2
      go_ret2
      exact ⟨ret_dn HM.out, by (repeat' (first | (with_reducible exact Below.refl _ _) | (with_reducible assumption) | (with_reducible refine Below.alloc ?_ ?_ _) | (with_reducible refine Below.drew ?_) | (with_reducible refine below_drewN ?_ _) | (with_reducible refine Below.setCell ?_ ?_ _) | (with_reducible refine below_call ?_ ?_ (by assumption)) | go_size))⟩
    · obtain ⟨⟨g1, g2⟩, ⟨n1, n2⟩, d1, d2⟩ := of_q ga gb
      obtain ⟨a0, a1, a2, a4⟩ := absD_bd (ofN e b y num den)
      by_cases hz : ofN e b y num den = 0
      · have HM := Lib.hid (show (0, false) = yfdR e b y num den from by simp [yfdR, ga, gb, hz])
        have CO := Lib.hid (fun w => daOff_any e b y num den ga gb w)
        generalize ofN e b y num den = N at *
        generalize ofD e b y num den = D at *
        subst hz
        (go_enter Try.func44, Try.ntmps44)
        go_wp2_with fail
        refine (daRule_is e b y ga _).mono ?_
        (rintro e1 w1 ⟨rfl, hb1⟩; obtain ⟨hc1, hf1⟩ := bcell hb1; have hz1 := hb1.size; (try simp only [World.size_alloc, World.size_setCell, World.size_drew] at hz1); have q1 : w.heap.size ≤ w1.heap.size := (by omega); (try have q1_0 : w.heap.size < w1.heap.size := (by omega)); (try have q1_1 : w.heap.size + 1 < w1.heap.size := (by omega)); (try have q1_2 : w.heap.size + 2 < w1.heap.size := (by omega)); (try have q1_3 : w.heap.size + 3 < w1.heap.size := (by omega)))
        go_wp2_with fail
        refine (daFrac_is num den gb _).mono ?_
        (rintro e2 w2 ⟨rfl, hb2⟩; obtain ⟨hc2, hf2⟩ := bcell hb2; have hz2 := hb2.size; (try simp only [World.size_alloc, World.size_setCell, World.size_drew] at hz2); have q2 : w.heap.size ≤ w2.heap.size := (by omega); (try have q2_0 : w.heap.size < w2.heap.size := (by omega)); (try have q2_1 : w.heap.size + 1 < w2.heap.size := (by omega)); (try have q2_2 : w.heap.size + 2 < w2.heap.size := (by omega)); (try have q2_3 : w.heap.size + 3 < w2.heap.size := (by omega)); (try have q2_1_0 : w1.heap.size < w2.heap.size := (by omega)); (try have q2_1_1 : w1.heap.size + 1 < w2.heap.size := (by omega)))
        go_wp2_with fail
        refine (CO.out _).mono ?_
        (rintro e3 w3 ⟨rfl, hb3⟩; obtain ⟨hc3, hf3⟩ := bcell hb3; have hz3 := hb3.size; (try simp only [World.size_alloc, World.size_setCell, World.size_drew] at hz3); have q3 : w.heap.size ≤ w3.heap.size := (by omega); (try have q3_0 : w.heap.size < w3.heap.size := (by omega)); (try have q3_1 : w.heap.size + 1 < w3.heap.size := (by omega)); (try have q3_2 : w.heap.size + 2 < w3.heap.size := (by omega)); (try have q3_3 : w.heap.size + 3 < w3.heap.size := (by omega)); (try have q3_1_0 : w1.heap.size < w3.heap.size := (by omega)); (try have q3_1_1 : w1.heap.size + 1 < w3.heap.size := (by omega)); (try have q3_2_0 : w2.heap.size < w3.heap.size := (by omega)); (try have q3_2_1 : w2.heap.size + 1 < w3.heap.size := (by omega)))
        go_wp2
        go_ret2
        exact ⟨ret_dn HM.out, by (repeat' (first | (with_reducible exact Below.refl _ _) | (with_reducible assumption) | (with_reducible refine Below.alloc ?_ ?_ _) | (with_reducible refine Below.drew ?_) | (with_reducible refine below_drewN ?_ _) | (with_reducible refine Below.setCell ?_ ?_ _) | (with_reducible refine below_call ?_ ?_ (by assumption)) | go_size))⟩
      · have HM := Lib.hid (show ((ofD e b y num den + absD (ofN e b y num den) - 1) / absD (ofN e b y num den), true) = yfdR e b y num den from by simp [yfdR, ga, gb, hz])
        have CO := Lib.hid (fun w => daOff_any e b y num den ga gb w)
        have CB := Lib.hid (fun w => l1AbsD (ofN e b y num den) (by omega) w)
        have a5 := a4 hz
        have a6 : absD (ofN e b y num den) ≤ 1000000000 := by
          rcases Int.lt_or_le (ofN e b y num den) 0 with h | h
          · have := a1 h; omega
          · have := a2 h; omega
        generalize ofN e b y num den = N at *
        generalize ofD e b y num den = D at *
        clear a1 a2 a4
        generalize absD N = S at *
        have hq := dq64 (n := D + S - 1) (g := S) (by omega) (by omega) (by omega)
        have hz' : (N == 0) = false := by simpa using hz
        have hs0 : ¬ (S = 0) := by omega
        (go_enter Try.func44, Try.ntmps44)
        go_wp2_with fail
        refine (daRule_is e b y ga _).mono ?_
        (rintro e1 w1 ⟨rfl, hb1⟩; obtain ⟨hc1, hf1⟩ := bcell hb1; have hz1 := hb1.size; (try simp only [World.size_alloc, World.size_setCell, World.size_drew] at hz1); have q1 : w.heap.size ≤ w1.heap.size := (by omega); (try have q1_0 : w.heap.size < w1.heap.size := (by omega)); (try have q1_1 : w.heap.size + 1 < w1.heap.size := (by omega)); (try have q1_2 : w.heap.size + 2 < w1.heap.size := (by omega)); (try have q1_3 : w.heap.size + 3 < w1.heap.size := (by omega)))
        go_wp2_with fail
        refine (daFrac_is num den gb _).mono ?_
        (rintro e2 w2 ⟨rfl, hb2⟩; obtain ⟨hc2, hf2⟩ := bcell hb2; have hz2 := hb2.size; (try simp only [World.size_alloc, World.size_setCell, World.size_drew] at hz2); have q2 : w.heap.size ≤ w2.heap.size := (by omega); (try have q2_0 : w.heap.size < w2.heap.size := (by omega)); (try have q2_1 : w.heap.size + 1 < w2.heap.size := (by omega)); (try have q2_2 : w.heap.size + 2 < w2.heap.size := (by omega)); (try have q2_3 : w.heap.size + 3 < w2.heap.size := (by omega)); (try have q2_1_0 : w1.heap.size < w2.heap.size := (by omega)); (try have q2_1_1 : w1.heap.size + 1 < w2.heap.size := (by omega)))
        go_wp2_with fail
        refine (CO.out _).mono ?_
        (rintro e3 w3 ⟨rfl, hb3⟩; obtain ⟨hc3, hf3⟩ := bcell hb3; have hz3 := hb3.size; (try simp only [World.size_alloc, World.size_setCell, World.size_drew] at hz3); have q3 : w.heap.size ≤ w3.heap.size := (by omega); (try have q3_0 : w.heap.size < w3.heap.size := (by omega)); (try have q3_1 : w.heap.size + 1 < w3.heap.size := (by omega)); (try have q3_2 : w.heap.size + 2 < w3.heap.size := (by omega)); (try have q3_3 : w.heap.size + 3 < w3.heap.size := (by omega)); (try have q3_1_0 : w1.heap.size < w3.heap.size := (by omega)); (try have q3_1_1 : w1.heap.size + 1 < w3.heap.size := (by omega)); (try have q3_2_0 : w2.heap.size < w3.heap.size := (by omega)); (try have q3_2_1 : w2.heap.size + 1 < w3.heap.size := (by omega)))
        go_wp2_with fail
        refine (CB.out _).mono ?_
        (rintro e4 w4 ⟨rfl, hb4⟩; obtain ⟨hc4, hf4⟩ := bcell hb4; have hz4 := hb4.size; (try simp only [World.size_alloc, World.size_setCell, World.size_drew] at hz4); have q4 : w.heap.size ≤ w4.heap.size := (by omega); (try have q4_0 : w.heap.size < w4.heap.size := (by omega)); (try have q4_1 : w.heap.size + 1 < w4.heap.size := (by omega)); (try have q4_2 : w.heap.size + 2 < w4.heap.size := (by omega)); (try have q4_3 : w.heap.size + 3 < w4.heap.size := (by omega)); (try have q4_1_0 : w1.heap.size < w4.heap.size := (by omega)); (try have q4_1_1 : w1.heap.size + 1 < w4.heap.size := (by omega)); (try have q4_2_0 : w2.heap.size < w4.heap.size := (by omega)); (try have q4_2_1 : w2.heap.size + 1 < w4.heap.size := (by omega)); (try have q4_3_0 : w3.heap.size < w4.heap.size := (by omega)); (try have q4_3_1 : w3.heap.size + 1 < w4.heap.size := (by omega)))
        go_wp2
        go_ret2
        exact ⟨ret_dn HM.out, by (repeat' (first | (with_reducible exact Below.refl _ _) | (with_reducible assumption) | (with_reducible refine Below.alloc ?_ ?_ _) | (with_reducible refine Below.drew ?_) | (with_reducible refine below_drewN ?_ _) | (with_reducible refine Below.setCell ?_ ?_ _) | (with_reducible refine below_call ?_ ?_ (by assumption)) | go_size))⟩

set_option maxHeartbeats 1600000 in
theorem implYearsForDay_any (e b y num den : Int) (w : World) :
    Calls Try.prog 45 #[lv e b y, .int .i64 num, .int .i64 den] w fun e' w' => e' = .returned (dn (yfdR e b y num den)) ∧ Below w.heap.size w w' := by
  cases ga : ruleB e b y
  · have HO := Lib.hid (show offR e b y num den = (0, 0, false) from by simp [offR, ga])
    have CO := Lib.hid (fun w => implOffBy_any e b y num den w)
    rw [HO.out] at CO
    have HM := Lib.hid (show (0, false) = yfdR e b y num den from by simp [yfdR, ga])
    (go_enter Try.func45, Try.ntmps45)
    go_wp2_with fail
    refine (CO.out _).mono ?_
    (rintro e1 w1 ⟨rfl, hb1⟩; obtain ⟨hc1, hf1⟩ := bcell hb1; have hz1 := hb1.size; (try simp only [World.size_alloc, World.size_setCell, World.size_drew] at hz1); have q1 : w.heap.size ≤ w1.heap.size := (by omega); (try have q1_0 : w.heap.size < w1.heap.size := (by omega)); (try have q1_1 : w.heap.size + 1 < w1.heap.size := (by omega)); (try have q1_2 : w.heap.size + 2 < w1.heap.size := (by omega)); (try have q1_3 : w.heap.size + 3 < w1.heap.size := (by omega)))
    go_wp2
    go_ret2
    exact ⟨ret_dn HM.out, by (repeat' (first | (with_reducible exact Below.refl _ _) | (with_reducible assumption) | (with_reducible refine Below.alloc ?_ ?_ _) | (with_reducible refine Below.drew ?_) | (with_reducible refine below_drewN ?_ _) | (with_reducible refine Below.setCell ?_ ?_ _) | (with_reducible refine below_call ?_ ?_ (by assumption)) | go_size))⟩
  · cases gb : frB num den
    · have HO := Lib.hid (show offR e b y num den = (0, 0, false) from by simp [offR, gb])
      have CO := Lib.hid (fun w => implOffBy_any e b y num den w)
      rw [HO.out] at CO
      have HM := Lib.hid (show (0, false) = yfdR e b y num den from by simp [yfdR, gb])
      (go_enter Try.func45, Try.ntmps45)
      go_wp2_with fail
      refine (CO.out _).mono ?_
      (rintro e1 w1 ⟨rfl, hb1⟩; obtain ⟨hc1, hf1⟩ := bcell hb1; have hz1 := hb1.size; (try simp only [World.size_alloc, World.size_setCell, World.size_drew] at hz1); have q1 : w.heap.size ≤ w1.heap.size := (by omega); (try have q1_0 : w.heap.size < w1.heap.size := (by omega)); (try have q1_1 : w.heap.size + 1 < w1.heap.size := (by omega)); (try have q1_2 : w.heap.size + 2 < w1.heap.size := (by omega)); (try have q1_3 : w.heap.size + 3 < w1.heap.size := (by omega)))
      go_wp2
      go_ret2
      exact ⟨ret_dn HM.out, by (repeat' (first | (with_reducible exact Below.refl _ _) | (with_reducible assumption) | (with_reducible refine Below.alloc ?_ ?_ _) | (with_reducible refine Below.drew ?_) | (with_reducible refine below_drewN ?_ _) | (with_reducible refine Below.setCell ?_ ?_ _) | (with_reducible refine below_call ?_ ?_ (by assumption)) | go_size))⟩
    · obtain ⟨⟨g1, g2⟩, ⟨n1, n2⟩, d1, d2⟩ := of_q ga gb
      obtain ⟨a0, a1, a2, a4⟩ := absD_bd (ofN e b y num den)
      have HO := Lib.hid (show offR e b y num den = (ofN e b y num den, ofD e b y num den, true) from by simp [offR, ga, gb])
      have CO := Lib.hid (fun w => implOffBy_any e b y num den w)
      rw [HO.out] at CO
      by_cases hz : ofN e b y num den = 0
      · have HM := Lib.hid (show (0, false) = yfdR e b y num den from by simp [yfdR, ga, gb, hz])
        generalize ofN e b y num den = N at *
        generalize ofD e b y num den = D at *
        subst hz
        (go_enter Try.func45, Try.ntmps45)
        go_wp2_with fail
        refine (CO.out _).mono ?_
        (rintro e1 w1 ⟨rfl, hb1⟩; obtain ⟨hc1, hf1⟩ := bcell hb1; have hz1 := hb1.size; (try simp only [World.size_alloc, World.size_setCell, World.size_drew] at hz1); have q1 : w.heap.size ≤ w1.heap.size := (by omega); (try have q1_0 : w.heap.size < w1.heap.size := (by omega)); (try have q1_1 : w.heap.size + 1 < w1.heap.size := (by omega)); (try have q1_2 : w.heap.size + 2 < w1.heap.size := (by omega)); (try have q1_3 : w.heap.size + 3 < w1.heap.size := (by omega)))
        go_wp2
        go_ret2
        exact ⟨ret_dn HM.out, by (repeat' (first | (with_reducible exact Below.refl _ _) | (with_reducible assumption) | (with_reducible refine Below.alloc ?_ ?_ _) | (with_reducible refine Below.drew ?_) | (with_reducible refine below_drewN ?_ _) | (with_reducible refine Below.setCell ?_ ?_ _) | (with_reducible refine below_call ?_ ?_ (by assumption)) | go_size))⟩
      · have HM := Lib.hid (show ((ofD e b y num den + absD (ofN e b y num den) - 1) / absD (ofN e b y num den), true) = yfdR e b y num den from by simp [yfdR, ga, gb, hz])
        have a5 := a4 hz
        have a6 : absD (ofN e b y num den) ≤ 1000000000 := by
          rcases Int.lt_or_le (ofN e b y num den) 0 with h | h
          · have := a1 h; omega
          · have := a2 h; omega
        generalize ofN e b y num den = N at *
        generalize ofD e b y num den = D at *
        have hz' : (N == 0) = false := by simpa using hz
        by_cases hs : N < 0
        · have a7 := a1 hs
          clear a1 a2 a4
          rw [a7] at HM a5 a6
          obtain ⟨S, rfl⟩ : ∃ S, N = -S := ⟨-N, by omega⟩
          rw [Int.neg_neg] at HM a5 a6
          have hx : -S < S := by omega
          have hs0 : ¬ (S = 0) := by omega
          have hz2 : (-S = 0) = False := by simpa using hs0
          have hq := dq64 (n := D + S - 1) (g := S) (by omega) (by omega) (by omega)
          (go_enter Try.func45, Try.ntmps45)
          go_wp2_with fail
          refine (CO.out _).mono ?_
          (rintro e1 w1 ⟨rfl, hb1⟩; obtain ⟨hc1, hf1⟩ := bcell hb1; have hz1 := hb1.size; (try simp only [World.size_alloc, World.size_setCell, World.size_drew] at hz1); have q1 : w.heap.size ≤ w1.heap.size := (by omega); (try have q1_0 : w.heap.size < w1.heap.size := (by omega)); (try have q1_1 : w.heap.size + 1 < w1.heap.size := (by omega)); (try have q1_2 : w.heap.size + 2 < w1.heap.size := (by omega)); (try have q1_3 : w.heap.size + 3 < w1.heap.size := (by omega)))
          go_wp2
          go_ret2
          exact ⟨ret_dn HM.out, by (repeat' (first | (with_reducible exact Below.refl _ _) | (with_reducible assumption) | (with_reducible refine Below.alloc ?_ ?_ _) | (with_reducible refine Below.drew ?_) | (with_reducible refine below_drewN ?_ _) | (with_reducible refine Below.setCell ?_ ?_ _) | (with_reducible refine below_call ?_ ?_ (by assumption)) | go_size))⟩
        · have a7 := a2 (by omega)
          have hx : ¬ N < -N := by omega
          clear a1 a2 a4
          rw [a7] at HM a5 a6
          have hq := dq64 (n := D + N - 1) (g := N) (by omega) (by omega) (by omega)
          have hs0 : ¬ (N = 0) := by omega
          (go_enter Try.func45, Try.ntmps45)
          go_wp2_with fail
          refine (CO.out _).mono ?_
          (rintro e1 w1 ⟨rfl, hb1⟩; obtain ⟨hc1, hf1⟩ := bcell hb1; have hz1 := hb1.size; (try simp only [World.size_alloc, World.size_setCell, World.size_drew] at hz1); have q1 : w.heap.size ≤ w1.heap.size := (by omega); (try have q1_0 : w.heap.size < w1.heap.size := (by omega)); (try have q1_1 : w.heap.size + 1 < w1.heap.size := (by omega)); (try have q1_2 : w.heap.size + 2 < w1.heap.size := (by omega)); (try have q1_3 : w.heap.size + 3 < w1.heap.size := (by omega)))
          go_wp2
          go_ret2
          exact ⟨ret_dn HM.out, by (repeat' (first | (with_reducible exact Below.refl _ _) | (with_reducible assumption) | (with_reducible refine Below.alloc ?_ ?_ _) | (with_reducible refine Below.drew ?_) | (with_reducible refine below_drewN ?_ _) | (with_reducible refine Below.setCell ?_ ?_ _) | (with_reducible refine below_call ?_ ?_ (by assumption)) | go_size))⟩

end Go.Proofs.Ythdkbjjpbdledaa
