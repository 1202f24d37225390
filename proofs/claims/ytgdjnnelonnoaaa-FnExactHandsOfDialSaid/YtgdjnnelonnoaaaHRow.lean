/- How a hand that is an argument is read, and that it reads behind the call as before. -/
import Derived.Test.YtgdjnnelonnoaaaRow
set_option linter.unusedSimpArgs false
set_option linter.unusedVariables false
set_option maxRecDepth 100000
namespace Go.Proofs.Ytgdjnnelonnoaaa
open Go.ChangeShapes Go.WideShapes Go.ChangeAt Go.RowKit Go.Joins

/-- The value of a hand. -/
abbrev hv (n d s : Int) : Value := .agg #[.int .i64 n, .int .i64 d, .int .i64 s]
theorem Try.cellsTurn : Try.prog.cellsOf 23 = 2 := by kernel_rfl
theorem Try.cellsHand : Try.prog.cellsOf 25 = 3 := by kernel_rfl
theorem Try.cellsInt : Try.prog.cellsOf 3 = 1 := by kernel_rfl
section
variable {H : Type} {enc : TypeId × Value → H} {w : World} {base : Nat} {spare : Nat → Bool} {held : Bool}
set_option maxRecDepth 100000 in
theorem trod_hand {fuel : Nat} {c0 c1 c2 : Value} {x : DataW H × List MemPlace} (hf : DataW.trod enc Try.prog w base spare held fuel 25 [c0, c1, c2] = some x) :
    ∃ n m s : Int, c0 = .int .i64 n ∧ c1 = .int .i64 m ∧ c2 = .int .i64 s ∧ x = (.agg [.agg [.lit (.int .i64 n), .lit (.int .i64 m)], .lit (.int .i64 s)], []) ∧ (Lit.int .i64 n).wf = true ∧ (Lit.int .i64 m).wf = true ∧ (Lit.int .i64 s).wf = true := by
  obtain ⟨y0, y1, k, hx, _, h0, h1⟩ := trod_struct2 Try.underlying25 hf
  simp only [Try.cellsTurn, Try.cellsInt, List.drop_zero, List.drop_succ_cons, List.take_succ_cons, List.take_zero] at h0 h1
  obtain ⟨z0, z1, j, hy, _, g0, g1⟩ := trod_struct2 Try.underlying23 h0
  simp only [Try.cellsInt, List.drop_zero, List.drop_succ_cons, List.take_succ_cons, List.take_zero] at g0 g1
  obtain ⟨a, e0, rfl, wa⟩ := DataW.trod_int Try.underlying3 g0
  obtain ⟨b, e1, rfl, wb⟩ := DataW.trod_int Try.underlying3 g1
  obtain ⟨c, e2, rfl, wc⟩ := DataW.trod_int Try.underlying3 h1
  simp at e0 e1 e2
  subst e0 e1 e2
  subst hy hx
  exact ⟨a, b, c, rfl, rfl, rfl, rfl, wa, wb, wc⟩
set_option maxRecDepth 100000 in
theorem open_hand {r : Reach} {b0 : Nat} {v : Value} {d : DataW H} {p : List MemPlace}
    (hv' : Value.okWide Try.prog w r b0 25 v) (h : DataW.Trod enc Try.prog w base spare held 25 v d p) :
    ∃ n m s : Int, v = hv n m s ∧ d = .agg [.agg [.lit (.int .i64 n), .lit (.int .i64 m)], .lit (.int .i64 s)] ∧ p = [] ∧ (Lit.int .i64 n).wf = true ∧ (Lit.int .i64 m).wf = true ∧ (Lit.int .i64 s).wf = true := by
  obtain ⟨cs, rfl, hsz⟩ := okWide_struct Try.underlying25 hv'
  obtain ⟨c0, c1, c2, rfl⟩ := array3 (hsz.trans Try.cellsHand)
  obtain ⟨fuel, hf⟩ := h
  obtain ⟨n, m, s, rfl, rfl, rfl, hx, wn, wm, ws⟩ := trod_hand hf
  simp only [Prod.mk.injEq] at hx
  exact ⟨n, m, s, rfl, hx.1, hx.2, wn, wm, ws⟩
set_option maxRecDepth 100000 in
theorem trod_hand_mk {n m s : Int} (wn : (Lit.int .i64 n).wf = true) (wm : (Lit.int .i64 m).wf = true) (ws : (Lit.int .i64 s).wf = true) :
    DataW.trod enc Try.prog w base spare held 3 25 [.int .i64 n, .int .i64 m, .int .i64 s] = some (.agg [.agg [.lit (.int .i64 n), .lit (.int .i64 m)], .lit (.int .i64 s)], []) := by
  have t0 := trod_struct2_mk (enc := enc) (w := w) (base := base) (spare := spare) (held := held) (n := 1) (cs := [.int .i64 n, .int .i64 m]) (y0 := (.lit (.int .i64 n), [])) (y1 := (.lit (.int .i64 m), [])) Try.underlying23 (by rw [Try.cellsTurn]; rfl)
    (by simpa [Try.cellsInt] using trod_int_mk 0 Try.underlying3 wn) (by simpa [Try.cellsInt] using trod_int_mk 0 Try.underlying3 wm)
  have t1 := trod_struct2_mk (enc := enc) (w := w) (base := base) (spare := spare) (held := held) (n := 2) (cs := [.int .i64 n, .int .i64 m, .int .i64 s]) (y1 := (.lit (.int .i64 s), [])) Try.underlying25 (by rw [Try.cellsHand]; rfl)
    (by simpa [Try.cellsTurn] using t0) (by simpa [Try.cellsInt] using trod_int_mk 1 Try.underlying3 ws)
  simpa using t1
set_option maxRecDepth 100000 in
theorem shut_hand {n m s : Int} (wn : (Lit.int .i64 n).wf = true) (wm : (Lit.int .i64 m).wf = true) (ws : (Lit.int .i64 s).wf = true) :
    DataW.Trod enc Try.prog w base spare held 25 (hv n m s) (.agg [.agg [.lit (.int .i64 n), .lit (.int .i64 m)], .lit (.int .i64 s)]) [] :=
  ⟨3, trod_hand_mk wn wm ws⟩
end
end Go.Proofs.Ytgdjnnelonnoaaa
