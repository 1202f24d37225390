/- What a wrap leaves as it is. -/
import Derived.Test.YtcfiaacpofpioaaDial1
set_option linter.unusedSimpArgs false
set_option linter.unusedVariables false
set_option maxRecDepth 100000
namespace Go.Proofs.Ytcfiaacpofpioaa
open Go.RowKit

theorem w64 {n : Int} (h : -9223372036854775808 ≤ n ∧ n ≤ 9223372036854775807) : IntKind.i64.wrap n = n := by rw [IntKind.wrap_i64]; omega
theorem q64 {n g : Int} (h0 : 0 ≤ n) (h1 : n ≤ 9223372036854775807) (hg : 1 ≤ g) : IntKind.i64.wrap (n.tdiv g) = n / g := by
  rw [Int.tdiv_eq_ediv_of_nonneg h0]
  have := Int.ediv_le_self g h0
  have := Int.ediv_nonneg h0 (show 0 ≤ g by omega)
  exact w64 ⟨by omega, by omega⟩
theorem t64 {n g : Int} (h0 : 0 ≤ n) (hg : 1 ≤ g) (h1 : g ≤ 9223372036854775807) : IntKind.i64.wrap (n.tmod g) = n % g := by
  rw [Int.tmod_eq_emod_of_nonneg h0]
  have := Int.emod_nonneg n (show g ≠ 0 by omega)
  have := Int.emod_lt_of_pos n (show 0 < g by omega)
  exact w64 ⟨by omega, by omega⟩
end Go.Proofs.Ytcfiaacpofpioaa
