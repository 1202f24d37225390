/- Which turns are turns, by the program. -/
import Derived.Test.YtcfiaacpofpioaaLow
import Derived.Deep.RegionHeld3
import Derived.Deep.DrawnRows
set_option linter.unusedSimpArgs false
set_option linter.unusedVariables false
set_option maxRecDepth 100000
namespace Go.Proofs.Ytcfiaacpofpioaa
open Go.RowKit
attribute [local go_sem ↓] Go.wp_at_zero Go.wp_at_succ

/-- '==' between two turns. -/
theorem run_eql_turn (a b c d : Int) (w : World) : (binOp .eql 25 (.agg #[.int .i64 a, .int .i64 b]) (.agg #[.int .i64 c, .int .i64 d])).run Try.prog w = .ok (.bool (eqT a b c d)) w := by
  have hu : Try.prog.underlying 25 = some (.struct (Try.prog.fieldsOf 25)) := by kernel_rfl
  have hp : Try.prog.stoodInHeld 25 = false := by kernel_rfl
  have u3 := Try.underlying3
  have a3 := Try.isAgg3
  have z3 := Try.sizeOf3
  rw [run_eql_struct, show (10000 : Nat) = 9999 + 1 from rfl, run_equalIn_agg w 9999 25 _ _ hu hp]
  simp only [Program.fieldsOf, Try.underlying25]
  go_simp
  by_cases h1 : a = c <;> by_cases h2 : b = d <;> simp [h1, h2, eqT]
attribute [local go_sem ↓] run_eql_turn

theorem gc_dvd (r d : Int) : gc r d ∣ d := by
  unfold gc; exact Int.gcd_dvd_right ..
theorem gc_mul (r d : Int) : gc r d * (d / gc r d) = d := Int.mul_ediv_cancel' (gc_dvd r d)
theorem good_low (n d : Int) (hd : 1 ≤ d) (hd' : d ≤ 1000000) : goodB n d = (decide (n = lowNum n d) && decide (d = lowDen n d)) := by
  rw [Bool.eq_iff_iff, goodB_iff]
  simp only [Bool.and_eq_true, decide_eq_true_eq]
  have hg := gcd_pos_of (n % d) d hd
  have hm0 : 0 ≤ n % d := Int.emod_nonneg _ (by omega)
  have hm1 : n % d < d := Int.emod_lt_of_pos _ (by omega)
  constructor
  · rintro ⟨_, _, h0, h1, h2⟩
    have e : n % d = n := Int.emod_eq_of_lt h0 (by omega)
    unfold lowNum lowDen
    rw [e, h2]
    simp
  · rintro ⟨h1, h2⟩
    have hmul := gc_mul (n % d) d
    unfold lowDen at h2
    rw [← h2] at hmul
    have hone : gc (n % d) d = 1 := by
      have : (gc (n % d) d - 1) * d = 0 := by rw [Int.sub_mul]; omega
      rcases Int.mul_eq_zero.1 this with h | h <;> omega
    unfold lowNum at h1
    rw [hone, Int.ediv_one] at h1
    exact ⟨hd, hd', by omega, by omega, by rw [h1, hone]⟩

set_option maxHeartbeats 800000 in
theorem isTurn_any (n d : Int) (w : World) :
    Calls Try.prog 56 #[tv n d] w fun e w' => e = .returned (.bool (goodB n d)) ∧ Below w.heap.size w w' := by
  by_cases h1 : inB d 1 1000000 = true
  · have h1' := h1
    simp only [inB, decide_eq_true_eq] at h1'
    obtain ⟨h2, h3⟩ := h1'
    have HG := Lib.hid (good_low n d h2 h3)
    (go_enter Try.func56, Try.ntmps56)
    go_wp2_with fail
    go_region_held3 (fun w' => w'.cell? ⟨w.heap.size, 0, none⟩ = some (.int .i64 n) ∧ w'.cell? ⟨w.heap.size, 1, none⟩ = some (.int .i64 d) ∧ Below w.heap.size w w' ∧ w.heap.size < w'.heap.size)
      ((go_split_ands; refine ⟨?_, ?_, ?_, ?_⟩ <;> first | (go_keep; done) | ((repeat' (first | (with_reducible exact Below.refl _ _) | (with_reducible assumption) | (with_reducible refine Below.alloc ?_ ?_ _) | (with_reducible refine Below.drew ?_) | (with_reducible refine below_drewN ?_ _) | (with_reducible refine Below.setCell ?_ ?_ _) | (with_reducible refine below_call ?_ ?_ (by assumption)) | go_size)); done)))
      (first
        | (go_at_call 54; refine (isWithin_any _ _ _ _).mono ?_; (rintro e1 w1 ⟨rfl, rfl⟩))
        | (go_at_call 81; refine (lowest_any _ _ (by omega) (by omega) _).mono ?_; (rintro e1 w1 ⟨rfl, hb1⟩; obtain ⟨hc1, hf1⟩ := bcell hb1; have hz1 := hb1.size; (try simp only [World.size_alloc, World.size_setCell, World.size_drew] at hz1); have q1 : w.heap.size ≤ w1.heap.size := (by omega); (try have q1_0 : w.heap.size < w1.heap.size := (by omega)); (try have q1_1 : w.heap.size + 1 < w1.heap.size := (by omega)); (try have q1_2 : w.heap.size + 2 < w1.heap.size := (by omega)); (try have q1_3 : w.heap.size + 3 < w1.heap.size := (by omega)))))
    all_goals go_wp2
    all_goals go_ret
    all_goals exact ⟨ret_bool (by rw [HG.out]; simp [eqT]), by go_split_ands; (repeat' (first | (with_reducible exact Below.refl _ _) | (with_reducible assumption) | (with_reducible refine Below.alloc ?_ ?_ _) | (with_reducible refine Below.drew ?_) | (with_reducible refine below_drewN ?_ _) | (with_reducible refine Below.setCell ?_ ?_ _) | (with_reducible refine below_call ?_ ?_ (by assumption)) | go_size))⟩
  · have h1' : inB d 1 1000000 = false := by simpa using h1
    have HG : Hid (goodB n d = false) := by
      show goodB n d = false
      rw [← Bool.not_eq_true, goodB_iff]; simp [inB] at h1; omega
    (go_enter Try.func56, Try.ntmps56)
    go_wp2_with fail
    go_quiet ((go_at_call 54; exact Calls.quiet_of_same ((isWithin_is _ _ _ h1' _).mono fun _ _ h => ⟨h.1, h.2.symm⟩)))
    all_goals go_wp2
    all_goals go_ret
    all_goals exact ⟨ret_bool HG.out.symm, by (repeat' (first | (with_reducible exact Below.refl _ _) | (with_reducible assumption) | (with_reducible refine Below.alloc ?_ ?_ _) | (with_reducible refine Below.drew ?_) | (with_reducible refine below_drewN ?_ _) | (with_reducible refine Below.setCell ?_ ?_ _) | (with_reducible refine below_call ?_ ?_ (by assumption)) | go_size))⟩
end Go.Proofs.Ytcfiaacpofpioaa
