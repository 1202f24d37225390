/- How a leap rule that is an argument is read, and that it reads behind the call as before. -/
import Derived.Test.YthdkbjjpbdledaaRow
set_option linter.unusedSimpArgs false
set_option linter.unusedVariables false
set_option maxRecDepth 100000
namespace Go.Proofs.Ythdkbjjpbdledaa
open Go.ChangeShapes Go.WideShapes Go.ChangeAt Go.RowKit Go.Joins

/-- The value of a leap rule. -/
abbrev lv (e b y : Int) : Value := .agg #[.int .i64 e, .int .i64 b, .int .i64 y]
section
variable {H : Type} {enc : TypeId × Value → H} {w : World} {base : Nat} {spare : Nat → Bool} {held : Bool}
set_option maxRecDepth 100000 in
theorem open_rule {r : Reach} {b0 : Nat} {v : Value} {d : DataW H} {p : List MemPlace}
    (hv' : Value.okWide Try.prog w r b0 29 v) (h : DataW.Trod enc Try.prog w base spare held 29 v d p) :
    ∃ n m s : Int, v = lv n m s ∧ d = .agg [.lit (.int .i64 n), .lit (.int .i64 m), .lit (.int .i64 s)] ∧ p = [] ∧ (Lit.int .i64 n).wf = true ∧ (Lit.int .i64 m).wf = true ∧ (Lit.int .i64 s).wf = true := by
  obtain ⟨v0, v1, v2, y0, y1, y2, n, rfl, rfl, rfl, t0, t1, t2⟩ := open_agg3 Try.underlying29 (by kernel_rfl) (by kernel_rfl) hv' h
  obtain ⟨a, h0, rfl, wa⟩ := DataW.trod_int Try.underlying3 t0
  obtain ⟨b, h1, rfl, wb⟩ := DataW.trod_int Try.underlying3 t1
  obtain ⟨c, h2, rfl, wc⟩ := DataW.trod_int Try.underlying3 t2
  simp at h0 h1 h2
  subst h0 h1 h2
  exact ⟨a, b, c, rfl, rfl, rfl, wa, wb, wc⟩
set_option maxRecDepth 100000 in
theorem shut_rule {n m s : Int} (wn : (Lit.int .i64 n).wf = true) (wm : (Lit.int .i64 m).wf = true) (ws : (Lit.int .i64 s).wf = true) :
    DataW.Trod enc Try.prog w base spare held 29 (lv n m s) (.agg [.lit (.int .i64 n), .lit (.int .i64 m), .lit (.int .i64 s)]) [] := by
  have h := shut_agg3 (enc := enc) (w := w) (base := base) (spare := spare) (held := held) (v0 := .int .i64 n) (v1 := .int .i64 m) (v2 := .int .i64 s) (y0 := (.lit (.int .i64 n), [])) (y1 := (.lit (.int .i64 m), [])) (y2 := (.lit (.int .i64 s), [])) Try.underlying29 (by kernel_rfl) (by kernel_rfl)
    ⟨1, trod_int_mk 0 Try.underlying3 wn⟩ ⟨1, trod_int_mk 0 Try.underlying3 wm⟩ ⟨1, trod_int_mk 0 Try.underlying3 ws⟩
  exact h
end
set_option maxHeartbeats 400000 in
theorem toLeapRule_any (e b y : Int) (w : World) :
    Calls Try.prog 26 #[lv e b y] w fun e' w' => e' = .returned (lv e b y) ∧ Below w.heap.size w w' := by
  (go_enter Try.func26, Try.ntmps26)
  go_wp2
  (refine bodyPost_ret (by simp [results, Try.results26, go_sem, *]; try rfl) rfl ?_)
  exact ⟨rfl, by (repeat' (first | (with_reducible exact Below.refl _ _) | (with_reducible assumption) | (with_reducible refine Below.alloc ?_ ?_ _) | (with_reducible refine Below.drew ?_) | (with_reducible refine below_drewN ?_ _) | (with_reducible refine Below.setCell ?_ ?_ _) | (with_reducible refine below_call ?_ ?_ (by assumption)) | go_size))⟩
end Go.Proofs.Ythdkbjjpbdledaa
