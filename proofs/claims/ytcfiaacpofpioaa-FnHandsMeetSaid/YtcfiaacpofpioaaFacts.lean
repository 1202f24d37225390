/- What the rows ask of the whole program, each fact once: the rows' own proofs take it from here. -/
import Derived.Test.YtcfiaacpofpioaaRows
import Derived.JoinedOf
import Derived.KernelRfl
set_option linter.unusedSimpArgs false
set_option linter.unusedVariables false
set_option maxRecDepth 100000
namespace Go.Proofs.Ytcfiaacpofpioaa
theorem Try.fEnter : Try.prog.mayEnter = true := by kernel_rfl
theorem Try.fLifts : Try.prog.liftsFinal = false := by kernel_rfl
theorem Try.fMake : Try.prog.make = some Make.cut := by kernel_rfl
theorem Try.fMaps : mapsRowed Try.prog = true := by kernel_rfl
theorem Try.fLaid : laidOutB Try.prog = true := by kernel_rfl
theorem Try.fHeard : Try.prog.stopsHeard = true := by kernel_rfl
theorem Try.fKeys : Try.prog.plainKeys = true := by kernel_rfl
end Go.Proofs.Ytcfiaacpofpioaa
