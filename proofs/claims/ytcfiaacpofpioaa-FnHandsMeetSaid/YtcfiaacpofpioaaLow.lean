/- What is a turn in lowest terms, by the program and by the model. -/
import Derived.Test.YtcfiaacpofpioaaGcd
set_option linter.unusedSimpArgs false
set_option linter.unusedVariables false
set_option maxRecDepth 100000
namespace Go.Proofs.Ytcfiaacpofpioaa
open Go.RowKit

theorem tmod_neg_of (n d : Int) (hn : n < 0) (hd : 1 ≤ d) (h : n.tmod d < 0) : n.tmod d + d = n % d := by
  rw [Int.tmod_eq_emod]
  rw [Int.tmod_eq_emod] at h
  split at h
  · have := Int.emod_nonneg n (b := d) (by omega); omega
  · rename_i hx
    rw [if_neg hx]; omega
theorem tmod_zero_of (n d : Int) (hn : n < 0) (hd : 1 ≤ d) (h : n.tmod d = 0) : 0 = n % d := by
  rw [← Int.dvd_iff_tmod_eq_zero] at h
  exact (Int.emod_eq_zero_of_dvd h).symm
theorem tmod_range (n d : Int) (hn : n < 0) (hd : 1 ≤ d) : -d < n.tmod d ∧ n.tmod d ≤ 0 := by
  constructor
  · have := Int.tmod_lt_of_pos (-n) (b := d) (by omega)
    rw [Int.neg_tmod] at this; omega
  · have := Int.tmod_nonneg d (a := -n) (by omega)
    rw [Int.neg_tmod] at this; omega

def lowOf (r d : Int) : Value := tv (r / gc r d) (d / gc r d)
theorem lowOf_eq (r n d : Int) (h : r = n % d) : lowOf r d = tv (lowNum n d) (lowDen n d) := by
  subst h; rfl

set_option maxHeartbeats 400000 in
theorem lowest_any (n d : Int) (hd : 1 ≤ d) (hd' : d ≤ 1000000000000000000) (w : World) :
    Calls Try.prog 81 #[.int .i64 n, .int .i64 d] w fun e w' => e = .returned (tv (lowNum n d) (lowDen n d)) ∧ Below w.heap.size w w' := by
  by_cases hn : 0 ≤ n
  · have hm0 : 0 ≤ n % d := Int.emod_nonneg _ (by omega)
    have hm1 : n % d < d := Int.emod_lt_of_pos _ (by omega)
    have hg := gcd_pos_of (n % d) d hd
    (go_enter Try.func81, Try.ntmps81)
    go_wp2_with (go_at_call 102; refine (commonDivisor_any _ _ (by omega) (by omega) _).mono ?_; (rintro e1 w1 ⟨rfl, hb1⟩; obtain ⟨hc1, hf1⟩ := bcell hb1; have hz1 := hb1.size; (try simp only [World.size_alloc, World.size_setCell, World.size_drew] at hz1); have q1 : w.heap.size ≤ w1.heap.size := (by omega); (try have q1_0 : w.heap.size < w1.heap.size := (by omega)); (try have q1_1 : w.heap.size + 1 < w1.heap.size := (by omega)); (try have q1_2 : w.heap.size + 2 < w1.heap.size := (by omega)); (try have q1_3 : w.heap.size + 3 < w1.heap.size := (by omega))))
    go_region
    all_goals (go_wp2; (refine bodyPost_ret (by simp [results, Try.results81, go_sem, *]; try rfl) rfl ?_))
    all_goals exact ⟨rfl, by (repeat' (first | (with_reducible exact Below.refl _ _) | (with_reducible assumption) | (with_reducible refine Below.alloc ?_ ?_ _) | (with_reducible refine Below.drew ?_) | (with_reducible refine below_drewN ?_ _) | (with_reducible refine Below.setCell ?_ ?_ _) | (with_reducible refine below_call ?_ ?_ (by assumption)) | go_size))⟩
  · obtain ⟨hr1, hr2⟩ := tmod_range n d (by omega) hd
    by_cases hz : n.tmod d = 0
    · have e := tmod_zero_of n d (by omega) hd hz
      have hg := gcd_pos_of 0 d hd
      have E := Lib.hid e
      clear e
      (go_enter Try.func81, Try.ntmps81)
      go_wp2_with (go_at_call 102; refine (commonDivisor_any _ _ (by omega) (by omega) _).mono ?_; (rintro e1 w1 ⟨rfl, hb1⟩; obtain ⟨hc1, hf1⟩ := bcell hb1; have hz1 := hb1.size; (try simp only [World.size_alloc, World.size_setCell, World.size_drew] at hz1); have q1 : w.heap.size ≤ w1.heap.size := (by omega); (try have q1_0 : w.heap.size < w1.heap.size := (by omega)); (try have q1_1 : w.heap.size + 1 < w1.heap.size := (by omega)); (try have q1_2 : w.heap.size + 2 < w1.heap.size := (by omega)); (try have q1_3 : w.heap.size + 3 < w1.heap.size := (by omega))))
      go_region
      all_goals (go_wp2; (refine bodyPost_ret (by simp [results, Try.results81, go_sem, *]; try rfl) rfl ?_))
      all_goals exact ⟨congrArg Ending.returned (by simpa [lowOf] using lowOf_eq 0 n d E.out), by (repeat' (first | (with_reducible exact Below.refl _ _) | (with_reducible assumption) | (with_reducible refine Below.alloc ?_ ?_ _) | (with_reducible refine Below.drew ?_) | (with_reducible refine below_drewN ?_ _) | (with_reducible refine Below.setCell ?_ ?_ _) | (with_reducible refine below_call ?_ ?_ (by assumption)) | go_size))⟩
    · have hr3 : n.tmod d < 0 := by omega
      have e := tmod_neg_of n d (by omega) hd hr3
      have hg := gcd_pos_of (n.tmod d + d) d hd
      have E := Lib.hid e
      clear e
      (go_enter Try.func81, Try.ntmps81)
      go_wp2_with (go_at_call 102; refine (commonDivisor_any _ _ (by omega) (by omega) _).mono ?_; (rintro e1 w1 ⟨rfl, hb1⟩; obtain ⟨hc1, hf1⟩ := bcell hb1; have hz1 := hb1.size; (try simp only [World.size_alloc, World.size_setCell, World.size_drew] at hz1); have q1 : w.heap.size ≤ w1.heap.size := (by omega); (try have q1_0 : w.heap.size < w1.heap.size := (by omega)); (try have q1_1 : w.heap.size + 1 < w1.heap.size := (by omega)); (try have q1_2 : w.heap.size + 2 < w1.heap.size := (by omega)); (try have q1_3 : w.heap.size + 3 < w1.heap.size := (by omega))))
      go_region
      all_goals (go_wp2; (refine bodyPost_ret (by simp [results, Try.results81, go_sem, *]; try rfl) rfl ?_))
      all_goals exact ⟨congrArg Ending.returned (lowOf_eq (n.tmod d + d) n d E.out), by (repeat' (first | (with_reducible exact Below.refl _ _) | (with_reducible assumption) | (with_reducible refine Below.alloc ?_ ?_ _) | (with_reducible refine Below.drew ?_) | (with_reducible refine below_drewN ?_ _) | (with_reducible refine Below.setCell ?_ ?_ _) | (with_reducible refine below_call ?_ ?_ (by assumption)) | go_size))⟩

/-- What a function hands back that returns a turn and whether there is one: num, den, ok. -/
abbrev rv (r : Int × Int × Bool) : Value := .tuple #[.agg #[.int .i64 r.1, .int .i64 r.2.1], .bool r.2.2]
def fail3 : Int × Int × Bool := (0, 0, false)
/-- num / den without whole turns, if its Den is not too great. -/
def mk (n d : Int) : Int × Int × Bool := if lowDen n d ≤ 1000000 then (lowNum n d, lowDen n d, true) else fail3
theorem ret_rv {a b : Int × Int × Bool} (h : a = b) : Ending.returned (rv a) = .returned (rv b) := by rw [h]

theorem low_bd (n d : Int) (hd : 1 ≤ d) : 0 ≤ lowNum n d ∧ 1 ≤ lowDen n d ∧ lowDen n d ≤ d := by
  have h0 : 0 ≤ n % d := Int.emod_nonneg _ (by omega)
  have hg := gcd_pos_of (n % d) d hd
  have hl := gcd_le_of (n % d) d hd
  refine ⟨Int.ediv_nonneg h0 (by omega), ?_, ?_⟩
  · exact (Int.le_ediv_iff_mul_le (by omega)).2 (by omega)
  · exact Int.ediv_le_self _ (by omega)

/-- A turn whose Den may be too great. -/
def lim (n d : Int) : Int × Int × Bool := if d ≤ 1000000 then (n, d, true) else fail3
set_option maxHeartbeats 400000 in
theorem limitedTurn_any (n d : Int) (w : World) :
    Calls Try.prog 57 #[tv n d] w fun e w' => e = .returned (rv (lim n d)) ∧ Below w.heap.size w w' := by
  by_cases hf : d ≤ 1000000
  · have HM := Lib.hid (show (n, d, true) = lim n d from (if_pos hf).symm)
    (go_enter Try.func57, Try.ntmps57)
    go_wp2
    (refine bodyPost_ret (by simp [results, Try.results57, go_sem, *]; try rfl) rfl ?_)
    exact ⟨ret_rv HM.out, by (repeat' (first | (with_reducible exact Below.refl _ _) | (with_reducible assumption) | (with_reducible refine Below.alloc ?_ ?_ _) | (with_reducible refine Below.drew ?_) | (with_reducible refine below_drewN ?_ _) | (with_reducible refine Below.setCell ?_ ?_ _) | (with_reducible refine below_call ?_ ?_ (by assumption)) | go_size))⟩
  · have HM := Lib.hid (show fail3 = lim n d from (if_neg hf).symm)
    (go_enter Try.func57, Try.ntmps57)
    go_wp2
    (refine bodyPost_ret (by simp [results, Try.results57, go_sem, *]; try rfl) rfl ?_)
    exact ⟨ret_rv HM.out, by (repeat' (first | (with_reducible exact Below.refl _ _) | (with_reducible assumption) | (with_reducible refine Below.alloc ?_ ?_ _) | (with_reducible refine Below.drew ?_) | (with_reducible refine below_drewN ?_ _) | (with_reducible refine Below.setCell ?_ ?_ _) | (with_reducible refine below_call ?_ ?_ (by assumption)) | go_size))⟩
theorem limitedTurn_low (n d : Int) (w : World) :
    Calls Try.prog 57 #[tv (lowNum n d) (lowDen n d)] w fun e w' => e = .returned (rv (mk n d)) ∧ Below w.heap.size w w' :=
  limitedTurn_any (lowNum n d) (lowDen n d) w
theorem mk_yes (r n d : Int) (h : r = n % d) (hf : d / gc r d ≤ 1000000) : (r / gc r d, d / gc r d, true) = mk n d := by
  subst h; exact (if_pos hf).symm
theorem mk_no (r n d : Int) (h : r = n % d) (hf : ¬ d / gc r d ≤ 1000000) : fail3 = mk n d := by
  subst h; exact (if_neg hf).symm
theorem tmod_add_emod (n d : Int) (hn : n < 0) (hd : 1 ≤ d) : n.tmod d % d = n % d := by
  obtain ⟨h1, h2⟩ := tmod_range n d hn hd
  by_cases hz : n.tmod d = 0
  · rw [hz, ← tmod_zero_of n d hn hd hz]; simp
  · rw [← Int.add_emod_right, tmod_neg_of n d hn hd (by omega), Int.emod_emod_of_dvd _ (Int.dvd_refl d)]
theorem ret_bool {a b : Bool} (h : a = b) : Ending.returned (.bool a) = .returned (.bool b) := by rw [h]

set_option maxHeartbeats 400000 in
theorem diMake_any (n d : Int) (hd : 1 ≤ d) (hd' : d ≤ 1000000000000000000) (w : World) :
    Calls Try.prog 75 #[.int .i64 n, .int .i64 d] w fun e w' => e = .returned (rv (mk n d)) ∧ Below w.heap.size w w' := by
  by_cases hn : 0 ≤ n
  · have hm0 : 0 ≤ n % d := Int.emod_nonneg _ (by omega)
    have hm1 : n % d < d := Int.emod_lt_of_pos _ (by omega)
    have hg := gcd_pos_of (n % d) d hd
    by_cases hf : d / gc (n % d) d ≤ 1000000
    · have HM := Lib.hid (mk_yes _ n d rfl hf)
      (go_enter Try.func75, Try.ntmps75)
      go_wp2_with fail
      refine (diCommon_any _ _ (by omega) (by omega) _).mono ?_
      (rintro e1 w1 ⟨rfl, hb1⟩; obtain ⟨hc1, hf1⟩ := bcell hb1; have hz1 := hb1.size; (try simp only [World.size_alloc, World.size_setCell, World.size_drew] at hz1); have q1 : w.heap.size ≤ w1.heap.size := (by omega); (try have q1_0 : w.heap.size < w1.heap.size := (by omega)); (try have q1_1 : w.heap.size + 1 < w1.heap.size := (by omega)); (try have q1_2 : w.heap.size + 2 < w1.heap.size := (by omega)); (try have q1_3 : w.heap.size + 3 < w1.heap.size := (by omega)))
      go_wp2
      go_region
      all_goals (go_wp2; (refine bodyPost_ret (by simp [results, Try.results75, go_sem, *]; try rfl) rfl ?_))
      all_goals exact ⟨ret_rv HM.out, by (repeat' (first | (with_reducible exact Below.refl _ _) | (with_reducible assumption) | (with_reducible refine Below.alloc ?_ ?_ _) | (with_reducible refine Below.drew ?_) | (with_reducible refine below_drewN ?_ _) | (with_reducible refine Below.setCell ?_ ?_ _) | (with_reducible refine below_call ?_ ?_ (by assumption)) | go_size))⟩
    · have HM := Lib.hid (mk_no _ n d rfl hf)
      (go_enter Try.func75, Try.ntmps75)
      go_wp2_with fail
      refine (diCommon_any _ _ (by omega) (by omega) _).mono ?_
      (rintro e1 w1 ⟨rfl, hb1⟩; obtain ⟨hc1, hf1⟩ := bcell hb1; have hz1 := hb1.size; (try simp only [World.size_alloc, World.size_setCell, World.size_drew] at hz1); have q1 : w.heap.size ≤ w1.heap.size := (by omega); (try have q1_0 : w.heap.size < w1.heap.size := (by omega)); (try have q1_1 : w.heap.size + 1 < w1.heap.size := (by omega)); (try have q1_2 : w.heap.size + 2 < w1.heap.size := (by omega)); (try have q1_3 : w.heap.size + 3 < w1.heap.size := (by omega)))
      go_wp2
      go_region
      all_goals (go_wp2; (refine bodyPost_ret (by simp [results, Try.results75, go_sem, *]; try rfl) rfl ?_))
      all_goals exact ⟨ret_rv HM.out, by (repeat' (first | (with_reducible exact Below.refl _ _) | (with_reducible assumption) | (with_reducible refine Below.alloc ?_ ?_ _) | (with_reducible refine Below.drew ?_) | (with_reducible refine below_drewN ?_ _) | (with_reducible refine Below.setCell ?_ ?_ _) | (with_reducible refine below_call ?_ ?_ (by assumption)) | go_size))⟩
  · obtain ⟨hr1, hr2⟩ := tmod_range n d (by omega) hd
    have hm0 : 0 ≤ n.tmod d % d := Int.emod_nonneg _ (by omega)
    have hm1 : n.tmod d % d < d := Int.emod_lt_of_pos _ (by omega)
    have hs : 0 ≤ n.tmod d + d := by omega
    have hg := gcd_pos_of (n.tmod d % d) d hd
    have E := Lib.hid (tmod_add_emod n d (by omega) hd)
    by_cases hf : d / gc (n.tmod d % d) d ≤ 1000000
    · have HM := Lib.hid (mk_yes _ n d E.out hf)
      (go_enter Try.func75, Try.ntmps75)
      go_wp2_with fail
      refine (diCommon_any _ _ (by omega) (by omega) _).mono ?_
      (rintro e1 w1 ⟨rfl, hb1⟩; obtain ⟨hc1, hf1⟩ := bcell hb1; have hz1 := hb1.size; (try simp only [World.size_alloc, World.size_setCell, World.size_drew] at hz1); have q1 : w.heap.size ≤ w1.heap.size := (by omega); (try have q1_0 : w.heap.size < w1.heap.size := (by omega)); (try have q1_1 : w.heap.size + 1 < w1.heap.size := (by omega)); (try have q1_2 : w.heap.size + 2 < w1.heap.size := (by omega)); (try have q1_3 : w.heap.size + 3 < w1.heap.size := (by omega)))
      go_wp2
      go_region
      all_goals (go_wp2; (refine bodyPost_ret (by simp [results, Try.results75, go_sem, *]; try rfl) rfl ?_))
      all_goals exact ⟨ret_rv HM.out, by (repeat' (first | (with_reducible exact Below.refl _ _) | (with_reducible assumption) | (with_reducible refine Below.alloc ?_ ?_ _) | (with_reducible refine Below.drew ?_) | (with_reducible refine below_drewN ?_ _) | (with_reducible refine Below.setCell ?_ ?_ _) | (with_reducible refine below_call ?_ ?_ (by assumption)) | go_size))⟩
    · have HM := Lib.hid (mk_no _ n d E.out hf)
      (go_enter Try.func75, Try.ntmps75)
      go_wp2_with fail
      refine (diCommon_any _ _ (by omega) (by omega) _).mono ?_
      (rintro e1 w1 ⟨rfl, hb1⟩; obtain ⟨hc1, hf1⟩ := bcell hb1; have hz1 := hb1.size; (try simp only [World.size_alloc, World.size_setCell, World.size_drew] at hz1); have q1 : w.heap.size ≤ w1.heap.size := (by omega); (try have q1_0 : w.heap.size < w1.heap.size := (by omega)); (try have q1_1 : w.heap.size + 1 < w1.heap.size := (by omega)); (try have q1_2 : w.heap.size + 2 < w1.heap.size := (by omega)); (try have q1_3 : w.heap.size + 3 < w1.heap.size := (by omega)))
      go_wp2
      go_region
      all_goals (go_wp2; (refine bodyPost_ret (by simp [results, Try.results75, go_sem, *]; try rfl) rfl ?_))
      all_goals exact ⟨ret_rv HM.out, by (repeat' (first | (with_reducible exact Below.refl _ _) | (with_reducible assumption) | (with_reducible refine Below.alloc ?_ ?_ _) | (with_reducible refine Below.drew ?_) | (with_reducible refine below_drewN ?_ _) | (with_reducible refine Below.setCell ?_ ?_ _) | (with_reducible refine below_call ?_ ?_ (by assumption)) | go_size))⟩

/-! ### Which turns are turns -/
def goodB (n d : Int) : Bool := decide (1 ≤ d ∧ d ≤ 1000000 ∧ 0 ≤ n ∧ n ≤ d - 1 ∧ gc n d = 1)
theorem goodB_iff (n d : Int) : goodB n d = true ↔ (1 ≤ d ∧ d ≤ 1000000 ∧ 0 ≤ n ∧ n ≤ d - 1 ∧ gc n d = 1) := by simp [goodB]

set_option maxHeartbeats 400000 in
theorem diGood_any (n d : Int) (w : World) (hw1 : -9223372036854775808 ≤ d) (hw2 : d ≤ 9223372036854775807) :
    Calls Try.prog 63 #[tv n d] w fun e w' => e = .returned (.bool (goodB n d)) ∧ Below w.heap.size w w' := by
  by_cases h1 : inB d 1 1000000 = true
  · have h1' := h1
    simp only [inB, decide_eq_true_eq] at h1'
    obtain ⟨h2, h3⟩ := h1'
    by_cases h4 : inB n 0 (d - 1) = true
    · have h4' := h4
      simp only [inB, decide_eq_true_eq] at h4'
      obtain ⟨h5, h6⟩ := h4'
      have HG : Hid (goodB n d = (gc n d == 1)) := by
        show goodB n d = (gc n d == 1)
        rw [Bool.eq_iff_iff, goodB_iff]; simp; omega
      (go_enter Try.func63, Try.ntmps63)
      go_wp2_with fail
      refine (l1In_any _ _ _ _).mono ?_
      (rintro e1 w1 ⟨rfl, rfl⟩)
      go_wp2_with fail
      refine (l1In_any _ _ _ _).mono ?_
      (rintro e1 w1 ⟨rfl, rfl⟩)
      go_wp2_with fail
      refine (diCommon_any _ _ (by omega) (by omega) _).mono ?_
      (rintro e1 w1 ⟨rfl, hb1⟩; obtain ⟨hc1, hf1⟩ := bcell hb1; have hz1 := hb1.size; (try simp only [World.size_alloc, World.size_setCell, World.size_drew] at hz1); have q1 : w.heap.size ≤ w1.heap.size := (by omega); (try have q1_0 : w.heap.size < w1.heap.size := (by omega)); (try have q1_1 : w.heap.size + 1 < w1.heap.size := (by omega)); (try have q1_2 : w.heap.size + 2 < w1.heap.size := (by omega)); (try have q1_3 : w.heap.size + 3 < w1.heap.size := (by omega)))
      go_wp2
      go_ret
      exact ⟨ret_bool HG.out.symm, by (repeat' (first | (with_reducible exact Below.refl _ _) | (with_reducible assumption) | (with_reducible refine Below.alloc ?_ ?_ _) | (with_reducible refine Below.drew ?_) | (with_reducible refine below_drewN ?_ _) | (with_reducible refine Below.setCell ?_ ?_ _) | (with_reducible refine below_call ?_ ?_ (by assumption)) | go_size))⟩
    · have h4' : inB n 0 (d - 1) = false := by simpa using h4
      have HG : Hid (goodB n d = false) := by
        show goodB n d = false
        rw [← Bool.not_eq_true, goodB_iff]; simp [inB] at h4; omega
      (go_enter Try.func63, Try.ntmps63)
      go_wp2_with fail
      refine (l1In_any _ _ _ _).mono ?_
      (rintro e1 w1 ⟨rfl, rfl⟩)
      go_wp2_with fail
      refine (l1In_any _ _ _ _).mono ?_
      (rintro e1 w1 ⟨rfl, rfl⟩)
      go_wp2
      go_ret
      exact ⟨ret_bool HG.out.symm, by (repeat' (first | (with_reducible exact Below.refl _ _) | (with_reducible assumption) | (with_reducible refine Below.alloc ?_ ?_ _) | (with_reducible refine Below.drew ?_) | (with_reducible refine below_drewN ?_ _) | (with_reducible refine Below.setCell ?_ ?_ _) | (with_reducible refine below_call ?_ ?_ (by assumption)) | go_size))⟩
  · have h1' : inB d 1 1000000 = false := by simpa using h1
    have HG : Hid (goodB n d = false) := by
      show goodB n d = false
      rw [← Bool.not_eq_true, goodB_iff]; simp [inB] at h1; omega
    (go_enter Try.func63, Try.ntmps63)
    go_wp2_with fail
    refine (l1In_any _ _ _ _).mono ?_
    (rintro e1 w1 ⟨rfl, rfl⟩)
    go_wp2
    go_ret
    exact ⟨ret_bool HG.out.symm, by (repeat' (first | (with_reducible exact Below.refl _ _) | (with_reducible assumption) | (with_reducible refine Below.alloc ?_ ?_ _) | (with_reducible refine Below.drew ?_) | (with_reducible refine below_drewN ?_ _) | (with_reducible refine Below.setCell ?_ ?_ _) | (with_reducible refine below_call ?_ ?_ (by assumption)) | go_size))⟩
end Go.Proofs.Ytcfiaacpofpioaa
