/- What the rows ask of the whole program, each fact once: the rows' own proofs take it from here. -/
import Derived.Test.YticdmochedadbaaGreatRows
import Derived.JoinedOf
import Derived.KernelRfl
set_option linter.unusedSimpArgs false
set_option linter.unusedVariables false
set_option maxRecDepth 100000
namespace Go.Proofs.YticdmochedadbaaGreat
theorem Tryz.fEnter : Tryz.prog.mayEnter = true := by kernel_rfl
theorem Tryz.fLifts : Tryz.prog.liftsFinal = false := by kernel_rfl
theorem Tryz.fMake : Tryz.prog.make = some Make.cut := by kernel_rfl
theorem Tryz.fMaps : mapsRowed Tryz.prog = true := by kernel_rfl
theorem Tryz.fLaid : laidOutB Tryz.prog = true := by kernel_rfl
theorem Tryz.fHeard : Tryz.prog.stopsHeard = true := by kernel_rfl
theorem Tryz.fKeys : Tryz.prog.plainKeys = true := by kernel_rfl
end Go.Proofs.YticdmochedadbaaGreat
