/- How one of the program's own turns that is an argument is read, and that it reads behind the call as before. -/
import Derived.Test.YtcfiaacpofpioaaRow
import Derived.ProofKit
import Derived.OpenShut
import Derived.ShutString
import Derived.ChangeOld
import Derived.Lib.SmallJoins
set_option linter.unusedSimpArgs false
set_option linter.unusedVariables false
set_option maxRecDepth 100000
namespace Go.Proofs.Ytcfiaacpofpioaa
open Go.ChangeShapes Go.WideShapes Go.ChangeAt Go.RowKit Go.Joins

section
variable {H : Type} {enc : TypeId × Value → H} {w : World} {base : Nat} {spare : Nat → Bool} {held : Bool}
set_option maxRecDepth 100000 in
theorem open_iturn {r : Reach} {b0 : Nat} {v : Value} {d : DataW H} {p : List MemPlace}
    (hv : Value.okWide Try.prog w r b0 25 v) (h : DataW.Trod enc Try.prog w base spare held 25 v d p) :
    ∃ n m : Int, v = tv n m ∧ d = .agg [.lit (.int .i64 n), .lit (.int .i64 m)] ∧ p = [] ∧ (Lit.int .i64 n).wf = true ∧ (Lit.int .i64 m).wf = true := by
  obtain ⟨v0, v1, y0, y1, n, rfl, rfl, rfl, t0, t1⟩ := open_agg2 Try.underlying25 (by kernel_rfl) (by kernel_rfl) hv h
  obtain ⟨a, h0, rfl, wa⟩ := DataW.trod_int Try.underlying3 t0
  obtain ⟨b, h1, rfl, wb⟩ := DataW.trod_int Try.underlying3 t1
  simp at h0 h1
  subst h0 h1
  exact ⟨a, b, rfl, rfl, rfl, wa, wb⟩
set_option maxRecDepth 100000 in
theorem shut_iturn {n m : Int} (wn : (Lit.int .i64 n).wf = true) (wm : (Lit.int .i64 m).wf = true) :
    DataW.Trod enc Try.prog w base spare held 25 (tv n m) (.agg [.lit (.int .i64 n), .lit (.int .i64 m)]) [] := by
  have h := shut_agg2 (enc := enc) (w := w) (base := base) (spare := spare) (held := held) (v0 := .int .i64 n) (v1 := .int .i64 m) (y0 := (.lit (.int .i64 n), [])) (y1 := (.lit (.int .i64 m), [])) Try.underlying25 (by kernel_rfl) (by kernel_rfl)
    ⟨1, trod_int_mk 0 Try.underlying3 wn⟩ ⟨1, trod_int_mk 0 Try.underlying3 wm⟩
  exact h
end
end Go.Proofs.Ytcfiaacpofpioaa
