/- What the laws ask of lists of turns: whether two are the same, whether one has a turn, whether one rises. -/
import Derived.Test.YtcfiaacpofpioaaTRow
import Derived.Test.YtcfiaacpofpioaaTaE
import Derived.Test.YtcfiaacpofpioaaDial1
set_option linter.unusedSimpArgs false
set_option linter.unusedVariables false
set_option maxRecDepth 100000
namespace Go.Proofs.Ytcfiaacpofpioaa
open Go.RowKit
attribute [local go_sem ↓] Go.wp_at_zero Go.wp_at_succ run_neq_same run_neq_turn run_eql_turn

/-- Whether a list has a turn. -/
def hasT (ts : List (Int × Int)) (x y : Int) : Bool := decide ((x, y) ∈ ts)
/-- Each is less than the one behind it; all are small. -/
def Rises (ts : List (Int × Int)) : Prop := (∀ j, j < ts.length → (0 ≤ (ts.getD j (0, 0)).1 ∧ (ts.getD j (0, 0)).1 ≤ 999999) ∧ 1 ≤ (ts.getD j (0, 0)).2 ∧ (ts.getD j (0, 0)).2 ≤ 1000000) ∧
  ∀ j, j + 1 < ts.length → (ts.getD j (0, 0)).1 * (ts.getD (j + 1) (0, 0)).2 < (ts.getD (j + 1) (0, 0)).1 * (ts.getD j (0, 0)).2
end Go.Proofs.Ytcfiaacpofpioaa
