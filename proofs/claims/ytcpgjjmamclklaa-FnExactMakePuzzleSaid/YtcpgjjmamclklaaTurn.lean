/- Which turns are turns, by the program. -/
import Derived.Test.YtcpgjjmamclklaaLow
import Derived.Deep.RegionHeld3
import Derived.Deep.DrawnRows
set_option linter.unusedSimpArgs false
set_option linter.unusedVariables false
set_option maxRecDepth 100000
namespace Go.Proofs.Ytcpgjjmamclklaa
open Go.RowKit
attribute [local go_sem ↓] Go.wp_at_zero Go.wp_at_succ

/-- '==' between two turns. -/
theorem run_eql_turn (a b c d : Int) (w : World) : (binOp .eql 88 (.agg #[.int .i64 a, .int .i64 b]) (.agg #[.int .i64 c, .int .i64 d])).run Try.prog w = .ok (.bool (eqT a b c d)) w := by
  have hu : Try.prog.underlying 88 = some (.struct (Try.prog.fieldsOf 88)) := by kernel_rfl
  have hp : Try.prog.stoodInHeld 88 = false := by kernel_rfl
  have u3 := Try.underlying3
  have a3 := Try.isAgg3
  have z3 := Try.sizeOf3
  rw [run_eql_struct, show (10000 : Nat) = 9999 + 1 from rfl, run_equalIn_agg w 9999 88 _ _ hu hp]
  simp only [Program.fieldsOf, Try.underlying88]
  go_simp
  by_cases h1 : a = c <;> by_cases h2 : b = d <;> simp [h1, h2, eqT]
attribute [local go_sem ↓] run_eql_turn

theorem gc_dvd (r d : Int) : gc r d ∣ d := by
  unfold gc; exact Int.gcd_dvd_right ..
theorem gc_mul (r d : Int) : gc r d * (d / gc r d) = d := Int.mul_ediv_cancel' (gc_dvd r d)
theorem good_low (n d : Int) (hd : 1 ≤ d) (hd' : d ≤ 1000000) : goodB n d = (decide (n = lowNum n d) && decide (d = lowDen n d)) := by
  rw [Bool.eq_iff_iff, goodB_iff]
  simp only [Bool.and_eq_true, decide_eq_true_eq]
  have hg := gcd_pos_of (n % d) d hd
  have hm0 : 0 ≤ n % d := Int.emod_nonneg _ (by omega)
  have hm1 : n % d < d := Int.emod_lt_of_pos _ (by omega)
  constructor
  · rintro ⟨_, _, h0, h1, h2⟩
    have e : n % d = n := Int.emod_eq_of_lt h0 (by omega)
    unfold lowNum lowDen
    rw [e, h2]
    simp
  · rintro ⟨h1, h2⟩
    have hmul := gc_mul (n % d) d
    unfold lowDen at h2
    rw [← h2] at hmul
    have hone : gc (n % d) d = 1 := by
      have : (gc (n % d) d - 1) * d = 0 := by rw [Int.sub_mul]; omega
      rcases Int.mul_eq_zero.1 this with h | h <;> omega
    unfold lowNum at h1
    rw [hone, Int.ediv_one] at h1
    exact ⟨hd, hd', by omega, by omega, by rw [h1, hone]⟩

end Go.Proofs.Ytcpgjjmamclklaa
