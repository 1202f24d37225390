/- Turns: added, multiplied, divided, compared by the model, multiplied, divided and compared by the program. -/
import Derived.Test.YtfddlmnfkmiomaaDial1
set_option linter.unusedSimpArgs false
set_option linter.unusedVariables false
set_option maxRecDepth 100000
namespace Go.Proofs.Ytfddlmnfkmiomaa
open Go.RowKit

theorem mulk {n k A K : Int} (h1 : 0 ≤ n) (h2 : n ≤ A) (h3 : -K ≤ k) (h4 : k ≤ K) : -(A * K) ≤ n * k ∧ n * k ≤ A * K := by
  have hK : 0 ≤ K := by omega
  have hA : 0 ≤ A := by omega
  constructor
  · have e1 : n * (-K) ≤ n * k := Int.mul_le_mul_of_nonneg_left h3 h1
    have e2 : n * K ≤ A * K := Int.mul_le_mul_of_nonneg_right h2 hK
    rw [Int.mul_neg] at e1; omega
  · have e1 : n * k ≤ n * K := Int.mul_le_mul_of_nonneg_left h4 h1
    have e2 : n * K ≤ A * K := Int.mul_le_mul_of_nonneg_right h2 hK
    omega

end Go.Proofs.Ytfddlmnfkmiomaa
