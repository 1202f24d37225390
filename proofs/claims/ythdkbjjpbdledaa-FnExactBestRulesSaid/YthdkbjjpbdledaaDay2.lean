/- Years of a leap rule, how many are leap years, days: by the program and by the model. -/
import Derived.Test.YthdkbjjpbdledaaDay1
set_option linter.unusedSimpArgs false
set_option linter.unusedVariables false
set_option maxRecDepth 100000
namespace Go.Proofs.Ythdkbjjpbdledaa
open Go.RowKit

def askY (e b y n : Int) : Bool := ruleB e b y && inB n 1 1000000
theorem askBd {e b y n : Int} (h : askY e b y n = true) : ruleB e b y = true ∧ 1 ≤ n ∧ n ≤ 1000000 := by
  simp only [askY, Bool.and_eq_true] at h
  exact ⟨h.1, inBd h.2⟩
theorem leapNat {e b y n : Int} (h : ruleB e b y = true) : decide (lc e b y (n - 1) < lc e b y n) = leapB e b y n := by
  have := lc_step h n
  cases hl : leapB e b y n
  · simp [hl] at this; exact decide_eq_false (by omega)
  · simp [hl] at this; exact decide_eq_true (by omega)
set_option maxHeartbeats 400000 in
theorem isYear_is {r : Bool} (n : Int) (h : inB n 1 1000000 = r) (w : World) :
    Calls Try.prog 79 #[.int .i64 n] w fun e' w' => e' = .returned (.bool r) ∧ w = w' := by
  (go_enter Try.func79, Try.ntmps79)
  go_wp2_with fail
  refine (isWithin_is _ _ _ h _).mono ?_
  (rintro e1 w1 ⟨rfl, rfl⟩)
  go_wp2
  go_ret
  exact ⟨rfl, rfl⟩

set_option maxHeartbeats 800000 in
theorem daYear_any (e b y n : Int) (w : World) :
    Calls Try.prog 77 #[lv e b y, .int .i64 n] w fun e' w' => e' = .returned (.bool (askY e b y n)) ∧ Below w.heap.size w w' := by
  cases ga : ruleB e b y
  · have HM := Lib.hid (show false = askY e b y n from by simp [askY, ga])
    (go_enter Try.func77, Try.ntmps77)
    go_wp2_with fail
    refine (daRule_is e b y ga _).mono ?_
    (rintro e1 w1 ⟨rfl, hb1⟩; obtain ⟨hc1, hf1⟩ := bcell hb1; have hz1 := hb1.size; (try simp only [World.size_alloc, World.size_setCell, World.size_drew] at hz1); have q1 : w.heap.size ≤ w1.heap.size := (by omega); (try have q1_0 : w.heap.size < w1.heap.size := (by omega)); (try have q1_1 : w.heap.size + 1 < w1.heap.size := (by omega)); (try have q1_2 : w.heap.size + 2 < w1.heap.size := (by omega)); (try have q1_3 : w.heap.size + 3 < w1.heap.size := (by omega)))
    go_wp2
    go_ret
    exact ⟨dret_bool HM.out, by (repeat' (first | (with_reducible exact Below.refl _ _) | (with_reducible assumption) | (with_reducible refine Below.alloc ?_ ?_ _) | (with_reducible refine Below.drew ?_) | (with_reducible refine below_drewN ?_ _) | (with_reducible refine Below.setCell ?_ ?_ _) | (with_reducible refine below_call ?_ ?_ (by assumption)) | go_size))⟩
  · cases gb : inB n 1 1000000
    · have HM := Lib.hid (show false = askY e b y n from by simp [askY, ga, gb])
      (go_enter Try.func77, Try.ntmps77)
      go_wp2_with fail
      refine (daRule_is e b y ga _).mono ?_
      (rintro e1 w1 ⟨rfl, hb1⟩; obtain ⟨hc1, hf1⟩ := bcell hb1; have hz1 := hb1.size; (try simp only [World.size_alloc, World.size_setCell, World.size_drew] at hz1); have q1 : w.heap.size ≤ w1.heap.size := (by omega); (try have q1_0 : w.heap.size < w1.heap.size := (by omega)); (try have q1_1 : w.heap.size + 1 < w1.heap.size := (by omega)); (try have q1_2 : w.heap.size + 2 < w1.heap.size := (by omega)); (try have q1_3 : w.heap.size + 3 < w1.heap.size := (by omega)))
      go_wp2_with fail
      refine (l1In_is _ _ _ gb _).mono ?_
      (rintro e1 w1 ⟨rfl, rfl⟩)
      go_wp2
      go_ret
      exact ⟨dret_bool HM.out, by (repeat' (first | (with_reducible exact Below.refl _ _) | (with_reducible assumption) | (with_reducible refine Below.alloc ?_ ?_ _) | (with_reducible refine Below.drew ?_) | (with_reducible refine below_drewN ?_ _) | (with_reducible refine Below.setCell ?_ ?_ _) | (with_reducible refine below_call ?_ ?_ (by assumption)) | go_size))⟩
    · have HM := Lib.hid (show true = askY e b y n from by simp [askY, ga, gb])
      (go_enter Try.func77, Try.ntmps77)
      go_wp2_with fail
      refine (daRule_is e b y ga _).mono ?_
      (rintro e1 w1 ⟨rfl, hb1⟩; obtain ⟨hc1, hf1⟩ := bcell hb1; have hz1 := hb1.size; (try simp only [World.size_alloc, World.size_setCell, World.size_drew] at hz1); have q1 : w.heap.size ≤ w1.heap.size := (by omega); (try have q1_0 : w.heap.size < w1.heap.size := (by omega)); (try have q1_1 : w.heap.size + 1 < w1.heap.size := (by omega)); (try have q1_2 : w.heap.size + 2 < w1.heap.size := (by omega)); (try have q1_3 : w.heap.size + 3 < w1.heap.size := (by omega)))
      go_wp2_with fail
      refine (l1In_is _ _ _ gb _).mono ?_
      (rintro e1 w1 ⟨rfl, rfl⟩)
      go_wp2
      go_ret
      exact ⟨dret_bool HM.out, by (repeat' (first | (with_reducible exact Below.refl _ _) | (with_reducible assumption) | (with_reducible refine Below.alloc ?_ ?_ _) | (with_reducible refine Below.drew ?_) | (with_reducible refine below_drewN ?_ _) | (with_reducible refine Below.setCell ?_ ?_ _) | (with_reducible refine below_call ?_ ?_ (by assumption)) | go_size))⟩

theorem daYear_is {r : Bool} (e b y n : Int) (h : askY e b y n = r) (w : World) :
    Calls Try.prog 77 #[lv e b y, .int .i64 n] w fun e' w' => e' = .returned (.bool r) ∧ Below w.heap.size w w' := by
  subst h; exact daYear_any e b y n w

set_option maxHeartbeats 800000 in
theorem upTo_any (n k : Int) (hn : 0 ≤ n ∧ n ≤ 1000000000) (hk : 0 ≤ k ∧ k ≤ 10000) (w : World) :
    Calls Try.prog 108 #[.int .i64 n, .int .i64 k] w fun e' w' => e' = .returned (.int .i64 (upTo n k)) ∧ Below w.heap.size w w' := by
  by_cases c : k = 0
  · subst c
    have HM := Lib.hid (show 0 = upTo n 0 from by simp [upTo])
    (go_enter Try.func108, Try.ntmps108)
    go_wp2
    go_ret
    exact ⟨dret_int HM.out, by (repeat' (first | (with_reducible exact Below.refl _ _) | (with_reducible assumption) | (with_reducible refine Below.alloc ?_ ?_ _) | (with_reducible refine Below.drew ?_) | (with_reducible refine below_drewN ?_ _) | (with_reducible refine Below.setCell ?_ ?_ _) | (with_reducible refine below_call ?_ ?_ (by assumption)) | go_size))⟩
  · have c' : (k == 0) = false := by simpa using c
    have hq := dq64 (n := n) (g := k) (by omega) (by omega) (by omega)
    have HM := Lib.hid (show n / k = upTo n k from by simp [upTo, c])
    (go_enter Try.func108, Try.ntmps108)
    go_wp2
    go_ret
    exact ⟨dret_int HM.out, by (repeat' (first | (with_reducible exact Below.refl _ _) | (with_reducible assumption) | (with_reducible refine Below.alloc ?_ ?_ _) | (with_reducible refine Below.drew ?_) | (with_reducible refine below_drewN ?_ _) | (with_reducible refine Below.setCell ?_ ?_ _) | (with_reducible refine below_call ?_ ?_ (by assumption)) | go_size))⟩

set_option maxHeartbeats 800000 in
theorem lcI_any (e b y n : Int) (h : ruleB e b y = true) (hn : 0 ≤ n ∧ n ≤ 1000000000) (w : World) :
    Calls Try.prog 82 #[lv e b y, .int .i64 n] w fun e' w' => e' = .returned (.int .i64 (lc e b y n)) ∧ Below w.heap.size w w' := by
  obtain ⟨⟨e1, e2⟩, ⟨b1, b2⟩, y1, y2⟩ := ruleB_bd h
  obtain ⟨n1, n2⟩ := hn
  obtain ⟨u1, u2⟩ := upTo_bd n e n1 (by omega)
  obtain ⟨u3, u4⟩ := upTo_bd n b n1 (by omega)
  obtain ⟨u5, u6⟩ := upTo_bd n y n1 (by omega)
  have l1 := lc_nonneg h n n1
  have hw := dw64 (n := upTo n e - upTo n b) (by omega)
  have hw2 := dw64 (n := upTo n e - upTo n b + upTo n y) (by omega)
  have HM := Lib.hid (show upTo n e - upTo n b + upTo n y = lc e b y n from rfl)
  clear l1
  (go_enter Try.func82, Try.ntmps82)
  go_wp2_with fail
  refine wp_region_below (by kernel_rfl) (by kernel_rfl) ?_
  (apply wpB_take (hw := rfl); (intro wq hq; obtain ⟨hcq, hfq⟩ := bcell hq; unfold atB; go_simp; exact ⟨rfl, rfl⟩); simp only [Act.put, List.setIfInBounds_toArray, List.set_cons_zero, List.set_cons_succ])
  (apply wpB_take (hw := rfl); (intro wq hq; obtain ⟨hcq, hfq⟩ := bcell hq; unfold atB; go_simp; exact ⟨rfl, rfl⟩); simp only [Act.put, List.setIfInBounds_toArray, List.set_cons_zero, List.set_cons_succ])
  (apply wpB_take (hw := rfl); (intro wq hq; obtain ⟨hcq, hfq⟩ := bcell hq; unfold atB; go_simp; exact ⟨rfl, rfl⟩); simp only [Act.put, List.setIfInBounds_toArray, List.set_cons_zero, List.set_cons_succ])
  (apply wpB_take (hw := rfl); (intro wq hq; unfold atB; go_simp; exact ⟨rfl, upTo_any n e ⟨n1, n2⟩ ⟨by omega, e2⟩ _⟩); simp only [Act.put, List.setIfInBounds_toArray, List.set_cons_zero, List.set_cons_succ])
  (apply wpB_take (hw := rfl); (intro wq hq; obtain ⟨hcq, hfq⟩ := bcell hq; unfold atB; go_simp; exact ⟨rfl, rfl⟩); simp only [Act.put, List.setIfInBounds_toArray, List.set_cons_zero, List.set_cons_succ])
  (apply wpB_take (hw := rfl); (intro wq hq; obtain ⟨hcq, hfq⟩ := bcell hq; unfold atB; go_simp; exact ⟨rfl, rfl⟩); simp only [Act.put, List.setIfInBounds_toArray, List.set_cons_zero, List.set_cons_succ])
  (apply wpB_take (hw := rfl); (intro wq hq; obtain ⟨hcq, hfq⟩ := bcell hq; unfold atB; go_simp; exact ⟨rfl, rfl⟩); simp only [Act.put, List.setIfInBounds_toArray, List.set_cons_zero, List.set_cons_succ])
  (apply wpB_take (hw := rfl); (intro wq hq; unfold atB; go_simp; exact ⟨rfl, upTo_any n b ⟨n1, n2⟩ ⟨b1, b2⟩ _⟩); simp only [Act.put, List.setIfInBounds_toArray, List.set_cons_zero, List.set_cons_succ])
  (apply wpB_take (hw := rfl); (intro wq hq; obtain ⟨hcq, hfq⟩ := bcell hq; unfold atB; go_simp; exact ⟨rfl, rfl⟩); simp only [Act.put, List.setIfInBounds_toArray, List.set_cons_zero, List.set_cons_succ])
  (apply wpB_take (hw := rfl); (intro wq hq; obtain ⟨hcq, hfq⟩ := bcell hq; unfold atB; go_simp; exact ⟨rfl, rfl⟩); simp only [Act.put, List.setIfInBounds_toArray, List.set_cons_zero, List.set_cons_succ])
  (apply wpB_take (hw := rfl); (intro wq hq; obtain ⟨hcq, hfq⟩ := bcell hq; unfold atB; go_simp; exact ⟨rfl, rfl⟩); simp only [Act.put, List.setIfInBounds_toArray, List.set_cons_zero, List.set_cons_succ])
  (apply wpB_take (hw := rfl); (intro wq hq; obtain ⟨hcq, hfq⟩ := bcell hq; unfold atB; go_simp; exact ⟨rfl, rfl⟩); simp only [Act.put, List.setIfInBounds_toArray, List.set_cons_zero, List.set_cons_succ])
  (apply wpB_take (hw := rfl); (intro wq hq; unfold atB; go_simp; exact ⟨rfl, upTo_any n y ⟨n1, n2⟩ ⟨y1, y2⟩ _⟩); simp only [Act.put, List.setIfInBounds_toArray, List.set_cons_zero, List.set_cons_succ])
  (apply wpB_take (hw := rfl); (intro wq hq; obtain ⟨hcq, hfq⟩ := bcell hq; unfold atB; go_simp; exact ⟨rfl, rfl⟩); simp only [Act.put, List.setIfInBounds_toArray, List.set_cons_zero, List.set_cons_succ])
  (apply wpB_take (hw := rfl); (intro wq hq; obtain ⟨hcq, hfq⟩ := bcell hq; unfold atB; go_simp; exact ⟨rfl, rfl⟩); simp only [Act.put, List.setIfInBounds_toArray, List.set_cons_zero, List.set_cons_succ])
  refine fun w1 hb1 => ?_
  (obtain ⟨hc1, hf1⟩ := bcell hb1; have hz1 := hb1.size; (try simp only [World.size_alloc, World.size_setCell, World.size_drew] at hz1); have q1 : w.heap.size ≤ w1.heap.size := (by omega); (try have q1_0 : w.heap.size < w1.heap.size := (by omega)); (try have q1_1 : w.heap.size + 1 < w1.heap.size := (by omega)); (try have q1_2 : w.heap.size + 2 < w1.heap.size := (by omega)); (try have q1_3 : w.heap.size + 3 < w1.heap.size := (by omega)); try simp only [Act.put, List.setIfInBounds_toArray, List.set_cons_zero, List.set_cons_succ])
  go_wp2
  go_ret
  exact ⟨dret_int HM.out, by (repeat' (first | (with_reducible exact Below.refl _ _) | (with_reducible assumption) | (with_reducible refine Below.alloc ?_ ?_ _) | (with_reducible refine Below.drew ?_) | (with_reducible refine below_drewN ?_ _) | (with_reducible refine Below.setCell ?_ ?_ _) | (with_reducible refine below_call ?_ ?_ (by assumption)) | go_size))⟩

set_option maxHeartbeats 800000 in
theorem lcS_any (e b y n : Int) (h : ruleB e b y = true) (hn : 0 ≤ n ∧ n ≤ 1000000000) (w : World) :
    Calls Try.prog 81 #[lv e b y, .int .i64 n] w fun e' w' => e' = .returned (.int .i64 (lc e b y n)) ∧ Below w.heap.size w w' := by
  obtain ⟨⟨e1, e2⟩, ⟨b1, b2⟩, y1, y2⟩ := ruleB_bd h
  obtain ⟨n1, n2⟩ := hn
  have hq1 := dq64 (n := n) (g := e) n1 (by omega) (by omega)
  have v1 : 0 ≤ n / e ∧ n / e ≤ n := ⟨Int.ediv_nonneg n1 (by omega), Int.ediv_le_self _ n1⟩
  by_cases c0 : b = 0
  · subst c0
    by_cases c1 : y = 0
    · subst c1
      have HM := Lib.hid (show n / e = lc e 0 0 n from by simp [lc, upTo]; omega)
      (go_enter Try.func81, Try.ntmps81)
      go_wp2
      go_ret
      exact ⟨dret_int HM.out, by (repeat' (first | (with_reducible exact Below.refl _ _) | (with_reducible assumption) | (with_reducible refine Below.alloc ?_ ?_ _) | (with_reducible refine Below.drew ?_) | (with_reducible refine below_drewN ?_ _) | (with_reducible refine Below.setCell ?_ ?_ _) | (with_reducible refine below_call ?_ ?_ (by assumption)) | go_size))⟩
    · have c1' : 0 < y := by omega
      have hq3 := dq64 (n := n) (g := y) n1 (by omega) (by omega)
      have v3 : 0 ≤ n / y ∧ n / y ≤ n := ⟨Int.ediv_nonneg n1 (by omega), Int.ediv_le_self _ n1⟩
      have HM := Lib.hid (show n / e + n / y = lc e 0 y n from by simp [lc, upTo, c1]; omega)
      (go_enter Try.func81, Try.ntmps81)
      go_wp2
      go_ret
      exact ⟨dret_int HM.out, by (repeat' (first | (with_reducible exact Below.refl _ _) | (with_reducible assumption) | (with_reducible refine Below.alloc ?_ ?_ _) | (with_reducible refine Below.drew ?_) | (with_reducible refine below_drewN ?_ _) | (with_reducible refine Below.setCell ?_ ?_ _) | (with_reducible refine below_call ?_ ?_ (by assumption)) | go_size))⟩
  · have c0' : 0 < b := by omega
    have hq2 := dq64 (n := n) (g := b) n1 (by omega) (by omega)
    have v2 : 0 ≤ n / b ∧ n / b ≤ n := ⟨Int.ediv_nonneg n1 (by omega), Int.ediv_le_self _ n1⟩
    by_cases c1 : y = 0
    · subst c1
      have HM := Lib.hid (show n / e - n / b = lc e b 0 n from by simp [lc, upTo, c0]; omega)
      (go_enter Try.func81, Try.ntmps81)
      go_wp2
      go_ret
      exact ⟨dret_int HM.out, by (repeat' (first | (with_reducible exact Below.refl _ _) | (with_reducible assumption) | (with_reducible refine Below.alloc ?_ ?_ _) | (with_reducible refine Below.drew ?_) | (with_reducible refine below_drewN ?_ _) | (with_reducible refine Below.setCell ?_ ?_ _) | (with_reducible refine below_call ?_ ?_ (by assumption)) | go_size))⟩
    · have c1' : 0 < y := by omega
      have hq3 := dq64 (n := n) (g := y) n1 (by omega) (by omega)
      have v3 : 0 ≤ n / y ∧ n / y ≤ n := ⟨Int.ediv_nonneg n1 (by omega), Int.ediv_le_self _ n1⟩
      have HM := Lib.hid (show n / e - n / b + n / y = lc e b y n from by simp [lc, upTo, c0, c1]; omega)
      (go_enter Try.func81, Try.ntmps81)
      go_wp2
      go_ret
      exact ⟨dret_int HM.out, by (repeat' (first | (with_reducible exact Below.refl _ _) | (with_reducible assumption) | (with_reducible refine Below.alloc ?_ ?_ _) | (with_reducible refine Below.drew ?_) | (with_reducible refine below_drewN ?_ _) | (with_reducible refine Below.setCell ?_ ?_ _) | (with_reducible refine below_call ?_ ?_ (by assumption)) | go_size))⟩

set_option maxHeartbeats 800000 in
theorem ddI_any (e b y n : Int) (h : ruleB e b y = true) (hn : 0 ≤ n ∧ n ≤ 1000000000) (w : World) :
    Calls Try.prog 86 #[lv e b y, .int .i64 n] w fun e' w' => e' = .returned (.int .i64 (dd e b y n)) ∧ Below w.heap.size w w' := by
  obtain ⟨⟨e1, e2⟩, ⟨b1, b2⟩, y1, y2⟩ := ruleB_bd h
  obtain ⟨n1, n2⟩ := hn
  have l1 := lc_nonneg h n n1
  have l2 := lc_up h n n1
  have HM := Lib.hid (show 365 * n + lc e b y n = dd e b y n from rfl)
  (go_enter Try.func86, Try.ntmps86)
  go_wp2_with fail
  refine (lcI_any e b y n h ⟨n1, n2⟩ _).mono ?_
  (rintro e1 w1 ⟨rfl, hb1⟩; obtain ⟨hc1, hf1⟩ := bcell hb1; have hz1 := hb1.size; (try simp only [World.size_alloc, World.size_setCell, World.size_drew] at hz1); have q1 : w.heap.size ≤ w1.heap.size := (by omega); (try have q1_0 : w.heap.size < w1.heap.size := (by omega)); (try have q1_1 : w.heap.size + 1 < w1.heap.size := (by omega)); (try have q1_2 : w.heap.size + 2 < w1.heap.size := (by omega)); (try have q1_3 : w.heap.size + 3 < w1.heap.size := (by omega)))
  go_wp2
  go_ret
  exact ⟨dret_int HM.out, by (repeat' (first | (with_reducible exact Below.refl _ _) | (with_reducible assumption) | (with_reducible refine Below.alloc ?_ ?_ _) | (with_reducible refine Below.drew ?_) | (with_reducible refine below_drewN ?_ _) | (with_reducible refine Below.setCell ?_ ?_ _) | (with_reducible refine below_call ?_ ?_ (by assumption)) | go_size))⟩

set_option maxHeartbeats 800000 in
theorem ddS_any (e b y n : Int) (h : ruleB e b y = true) (hn : 1 ≤ n ∧ n ≤ 1000000000) (w : World) :
    Calls Try.prog 85 #[lv e b y, .int .i64 n] w fun e' w' => e' = .returned (.int .i64 (dd e b y (n - 1))) ∧ Below w.heap.size w w' := by
  obtain ⟨⟨e1, e2⟩, ⟨b1, b2⟩, y1, y2⟩ := ruleB_bd h
  obtain ⟨n1, n2⟩ := hn
  have l1 := lc_nonneg h (n - 1) (by omega)
  have l2 := lc_up h (n - 1) (by omega)
  have HM := Lib.hid (show 365 * (n - 1) + lc e b y (n - 1) = dd e b y (n - 1) from rfl)
  (go_enter Try.func85, Try.ntmps85)
  go_wp2_with fail
  refine (lcS_any e b y (n - 1) h ⟨by omega, by omega⟩ _).mono ?_
  (rintro e1 w1 ⟨rfl, hb1⟩; obtain ⟨hc1, hf1⟩ := bcell hb1; have hz1 := hb1.size; (try simp only [World.size_alloc, World.size_setCell, World.size_drew] at hz1); have q1 : w.heap.size ≤ w1.heap.size := (by omega); (try have q1_0 : w.heap.size < w1.heap.size := (by omega)); (try have q1_1 : w.heap.size + 1 < w1.heap.size := (by omega)); (try have q1_2 : w.heap.size + 2 < w1.heap.size := (by omega)); (try have q1_3 : w.heap.size + 3 < w1.heap.size := (by omega)))
  go_wp2
  go_ret
  exact ⟨dret_int HM.out, by (repeat' (first | (with_reducible exact Below.refl _ _) | (with_reducible assumption) | (with_reducible refine Below.alloc ?_ ?_ _) | (with_reducible refine Below.drew ?_) | (with_reducible refine below_drewN ?_ _) | (with_reducible refine Below.setCell ?_ ?_ _) | (with_reducible refine below_call ?_ ?_ (by assumption)) | go_size))⟩

set_option maxHeartbeats 800000 in
theorem leapI_any (e b y n : Int) (h : ruleB e b y = true) (hn : 1 ≤ n ∧ n ≤ 1000000000) (w : World) :
    Calls Try.prog 80 #[lv e b y, .int .i64 n] w fun e' w' => e' = .returned (.bool (leapB e b y n)) ∧ Below w.heap.size w w' := by
  obtain ⟨⟨e1, e2⟩, ⟨b1, b2⟩, y1, y2⟩ := ruleB_bd h
  obtain ⟨n1, n2⟩ := hn
  have hw := dw64 (n := n - 1) (by omega)
  have HM := Lib.hid (show decide (lc e b y (n - 1) < lc e b y n) = leapB e b y n from leapNat h)
  (go_enter Try.func80, Try.ntmps80)
  go_wp2_with fail
  refine wp_region_below (by kernel_rfl) (by kernel_rfl) ?_
  (apply wpB_take (hw := rfl); (intro wq hq; obtain ⟨hcq, hfq⟩ := bcell hq; unfold atB; go_simp; exact ⟨rfl, rfl⟩); simp only [Act.put, List.setIfInBounds_toArray, List.set_cons_zero, List.set_cons_succ])
  (apply wpB_take (hw := rfl); (intro wq hq; obtain ⟨hcq, hfq⟩ := bcell hq; unfold atB; go_simp; exact ⟨rfl, rfl⟩); simp only [Act.put, List.setIfInBounds_toArray, List.set_cons_zero, List.set_cons_succ])
  (apply wpB_take (hw := rfl); (intro wq hq; unfold atB; go_simp; exact ⟨rfl, lcI_any e b y n h ⟨by omega, n2⟩ _⟩); simp only [Act.put, List.setIfInBounds_toArray, List.set_cons_zero, List.set_cons_succ])
  (apply wpB_take (hw := rfl); (intro wq hq; obtain ⟨hcq, hfq⟩ := bcell hq; unfold atB; go_simp; exact ⟨rfl, rfl⟩); simp only [Act.put, List.setIfInBounds_toArray, List.set_cons_zero, List.set_cons_succ])
  (apply wpB_take (hw := rfl); (intro wq hq; obtain ⟨hcq, hfq⟩ := bcell hq; unfold atB; go_simp; exact ⟨rfl, rfl⟩); simp only [Act.put, List.setIfInBounds_toArray, List.set_cons_zero, List.set_cons_succ])
  (apply wpB_take (hw := rfl); (intro wq hq; obtain ⟨hcq, hfq⟩ := bcell hq; unfold atB; go_simp; exact ⟨rfl, rfl⟩); simp only [Act.put, List.setIfInBounds_toArray, List.set_cons_zero, List.set_cons_succ])
  (apply wpB_take (hw := rfl); (intro wq hq; unfold atB; go_simp; exact ⟨rfl, lcI_any e b y (n - 1) h ⟨by omega, by omega⟩ _⟩); simp only [Act.put, List.setIfInBounds_toArray, List.set_cons_zero, List.set_cons_succ])
  (apply wpB_take (hw := rfl); (intro wq hq; obtain ⟨hcq, hfq⟩ := bcell hq; unfold atB; go_simp; exact ⟨rfl, rfl⟩); simp only [Act.put, List.setIfInBounds_toArray, List.set_cons_zero, List.set_cons_succ])
  (apply wpB_take (hw := rfl); (intro wq hq; obtain ⟨hcq, hfq⟩ := bcell hq; unfold atB; go_simp; exact ⟨rfl, rfl⟩); simp only [Act.put, List.setIfInBounds_toArray, List.set_cons_zero, List.set_cons_succ])
  refine fun w1 hb1 => ?_
  (obtain ⟨hc1, hf1⟩ := bcell hb1; have hz1 := hb1.size; (try simp only [World.size_alloc, World.size_setCell, World.size_drew] at hz1); have q1 : w.heap.size ≤ w1.heap.size := (by omega); (try have q1_0 : w.heap.size < w1.heap.size := (by omega)); (try have q1_1 : w.heap.size + 1 < w1.heap.size := (by omega)); (try have q1_2 : w.heap.size + 2 < w1.heap.size := (by omega)); (try have q1_3 : w.heap.size + 3 < w1.heap.size := (by omega)); try simp only [Act.put, List.setIfInBounds_toArray, List.set_cons_zero, List.set_cons_succ])
  go_wp2
  go_ret
  exact ⟨dret_bool HM.out, by (repeat' (first | (with_reducible exact Below.refl _ _) | (with_reducible assumption) | (with_reducible refine Below.alloc ?_ ?_ _) | (with_reducible refine Below.drew ?_) | (with_reducible refine below_drewN ?_ _) | (with_reducible refine Below.setCell ?_ ?_ _) | (with_reducible refine below_call ?_ ?_ (by assumption)) | go_size))⟩

theorem leapI_is {r : Bool} (e b y n : Int) (g : ruleB e b y = true) (hn : 1 ≤ n ∧ n ≤ 1000000000) (h : leapB e b y n = r) (w : World) :
    Calls Try.prog 80 #[lv e b y, .int .i64 n] w fun e' w' => e' = .returned (.bool r) ∧ Below w.heap.size w w' := by
  subst h; exact leapI_any e b y n g hn w

set_option maxHeartbeats 800000 in
theorem leapS_any (e b y n : Int) (h : ruleB e b y = true) (hn : 1 ≤ n ∧ n ≤ 1000000000) (w : World) :
    Calls Try.prog 78 #[lv e b y, .int .i64 n] w fun e' w' => e' = .returned (.bool (leapB e b y n)) ∧ Below w.heap.size w w' := by
  obtain ⟨⟨e1, e2⟩, ⟨b1, b2⟩, y1, y2⟩ := ruleB_bd h
  obtain ⟨n1, n2⟩ := hn
  have t1 := dt64 (n := n) (g := e) (by omega) (by omega) (by omega)
  by_cases c1 : n % e = 0
  · by_cases c2 : b = 0
    · subst c2
      have HM := Lib.hid (show true = leapB e 0 y n from by unfold leapB; first | (refine (decide_eq_true ?_).symm; omega) | (refine (decide_eq_false ?_).symm; omega))
      (go_enter Try.func78, Try.ntmps78)
      go_wp2
      go_ret
      exact ⟨dret_bool HM.out, by (repeat' (first | (with_reducible exact Below.refl _ _) | (with_reducible assumption) | (with_reducible refine Below.alloc ?_ ?_ _) | (with_reducible refine Below.drew ?_) | (with_reducible refine below_drewN ?_ _) | (with_reducible refine Below.setCell ?_ ?_ _) | (with_reducible refine below_call ?_ ?_ (by assumption)) | go_size))⟩
    · have c2' : (b == 0) = false := by simpa using c2
      have c2n : (b != 0) = true := by simpa using c2
      have t2 := dt64 (n := n) (g := b) (by omega) (by omega) (by omega)
      by_cases c3 : n % b = 0
      · by_cases c4 : y = 0
        · subst c4
          have HM := Lib.hid (show false = leapB e b 0 n from by unfold leapB; first | (refine (decide_eq_true ?_).symm; omega) | (refine (decide_eq_false ?_).symm; omega))
          (go_enter Try.func78, Try.ntmps78)
          go_wp2
          go_ret
          exact ⟨dret_bool HM.out, by (repeat' (first | (with_reducible exact Below.refl _ _) | (with_reducible assumption) | (with_reducible refine Below.alloc ?_ ?_ _) | (with_reducible refine Below.drew ?_) | (with_reducible refine below_drewN ?_ _) | (with_reducible refine Below.setCell ?_ ?_ _) | (with_reducible refine below_call ?_ ?_ (by assumption)) | go_size))⟩
        · have c4' : (y == 0) = false := by simpa using c4
          have c4n : (y != 0) = true := by simpa using c4
          have t3 := dt64 (n := n) (g := y) (by omega) (by omega) (by omega)
          by_cases c5 : n % y = 0
          · have HM := Lib.hid (show true = leapB e b y n from by unfold leapB; first | (refine (decide_eq_true ?_).symm; omega) | (refine (decide_eq_false ?_).symm; omega))
            (go_enter Try.func78, Try.ntmps78)
            go_wp2
            go_ret
            exact ⟨dret_bool HM.out, by (repeat' (first | (with_reducible exact Below.refl _ _) | (with_reducible assumption) | (with_reducible refine Below.alloc ?_ ?_ _) | (with_reducible refine Below.drew ?_) | (with_reducible refine below_drewN ?_ _) | (with_reducible refine Below.setCell ?_ ?_ _) | (with_reducible refine below_call ?_ ?_ (by assumption)) | go_size))⟩
          · have c5' : (n % y == 0) = false := by simpa using c5
            have HM := Lib.hid (show false = leapB e b y n from by unfold leapB; first | (refine (decide_eq_true ?_).symm; omega) | (refine (decide_eq_false ?_).symm; omega))
            (go_enter Try.func78, Try.ntmps78)
            go_wp2
            go_ret
            exact ⟨dret_bool HM.out, by (repeat' (first | (with_reducible exact Below.refl _ _) | (with_reducible assumption) | (with_reducible refine Below.alloc ?_ ?_ _) | (with_reducible refine Below.drew ?_) | (with_reducible refine below_drewN ?_ _) | (with_reducible refine Below.setCell ?_ ?_ _) | (with_reducible refine below_call ?_ ?_ (by assumption)) | go_size))⟩
      · have c3' : (n % b == 0) = false := by simpa using c3
        have c3n : (n % b != 0) = true := by simpa using c3
        have HM := Lib.hid (show true = leapB e b y n from by unfold leapB; first | (refine (decide_eq_true ?_).symm; omega) | (refine (decide_eq_false ?_).symm; omega))
        (go_enter Try.func78, Try.ntmps78)
        go_wp2
        go_ret
        exact ⟨dret_bool HM.out, by (repeat' (first | (with_reducible exact Below.refl _ _) | (with_reducible assumption) | (with_reducible refine Below.alloc ?_ ?_ _) | (with_reducible refine Below.drew ?_) | (with_reducible refine below_drewN ?_ _) | (with_reducible refine Below.setCell ?_ ?_ _) | (with_reducible refine below_call ?_ ?_ (by assumption)) | go_size))⟩
  · have c1' : (n % e == 0) = false := by simpa using c1
    have c1n : (n % e != 0) = true := by simpa using c1
    have HM := Lib.hid (show false = leapB e b y n from by unfold leapB; first | (refine (decide_eq_true ?_).symm; omega) | (refine (decide_eq_false ?_).symm; omega))
    (go_enter Try.func78, Try.ntmps78)
    go_wp2
    go_ret
    exact ⟨dret_bool HM.out, by (repeat' (first | (with_reducible exact Below.refl _ _) | (with_reducible assumption) | (with_reducible refine Below.alloc ?_ ?_ _) | (with_reducible refine Below.drew ?_) | (with_reducible refine below_drewN ?_ _) | (with_reducible refine Below.setCell ?_ ?_ _) | (with_reducible refine below_call ?_ ?_ (by assumption)) | go_size))⟩

theorem leapS_is {r : Bool} (e b y n : Int) (g : ruleB e b y = true) (hn : 1 ≤ n ∧ n ≤ 1000000000) (h : leapB e b y n = r) (w : World) :
    Calls Try.prog 78 #[lv e b y, .int .i64 n] w fun e' w' => e' = .returned (.bool r) ∧ Below w.heap.size w w' := by
  subst h; exact leapS_any e b y n g hn w

end Go.Proofs.Ythdkbjjpbdledaa
