/- How a hand that is an argument is read, and that it reads behind the call as before. -/
import Derived.Test.YtcfiaacpofpioaaRow
set_option linter.unusedSimpArgs false
set_option linter.unusedVariables false
set_option maxRecDepth 100000
namespace Go.Proofs.Ytcfiaacpofpioaa
open Go.ChangeShapes Go.WideShapes Go.ChangeAt Go.RowKit Go.Joins

/-- The value of a hand. -/
abbrev hv (n d s : Int) : Value := .agg #[.int .i64 n, .int .i64 d, .int .i64 s]
theorem Try.cellsInt : Try.prog.cellsOf 3 = 1 := by kernel_rfl
section
variable {H : Type} {enc : TypeId × Value → H} {w : World} {base : Nat} {spare : Nat → Bool} {held : Bool}
end
end Go.Proofs.Ytcfiaacpofpioaa
