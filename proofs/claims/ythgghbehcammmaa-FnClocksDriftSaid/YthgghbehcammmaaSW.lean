/- What a wrap leaves as it is, for a seat that has chapter 3's texts: fill it and copy it to <Name>SW. -/
import Derived.Test.YthgghbehcammmaaDial1
import Derived.Test.YthgghbehcammmaaDrift0
set_option linter.unusedSimpArgs false
set_option linter.unusedVariables false
set_option maxRecDepth 100000
namespace Go.Proofs.Ythgghbehcammmaa
open Go.RowKit

theorem t64 {n g : Int} (h0 : 0 ≤ n) (hg : 1 ≤ g) (h1 : g ≤ 9223372036854775807) : IntKind.i64.wrap (n.tmod g) = n % g := by
  rw [Int.tmod_eq_emod_of_nonneg h0]
  have := Int.emod_nonneg n (show g ≠ 0 by omega)
  have := Int.emod_lt_of_pos n (show 0 < g by omega)
  exact w64 ⟨by omega, by omega⟩
end Go.Proofs.Ythgghbehcammmaa
