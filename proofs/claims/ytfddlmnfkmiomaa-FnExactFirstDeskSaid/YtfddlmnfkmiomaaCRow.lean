/- How spans and clocks that are arguments are read, and that they read behind the call as before. -/
import Derived.Test.YtfddlmnfkmiomaaRow
import Derived.Test.YtfddlmnfkmiomaaDrift1
import Derived.Deep.Strs
set_option linter.unusedSimpArgs false
set_option linter.unusedVariables false
set_option maxRecDepth 100000
namespace Go.Proofs.Ytfddlmnfkmiomaa
open Go.ChangeShapes Go.WideShapes Go.ChangeAt Go.RowKit Go.Joins

section
variable {H : Type} {enc : TypeId × Value → H} {w : World} {base : Nat} {spare : Nat → Bool} {held : Bool}
end

theorem Try.cellsTurnC : Try.prog.cellsOf 31 = 2 := by kernel_rfl
theorem Try.cellsClock : Try.prog.cellsOf 33 = 4 := by kernel_rfl
theorem Try.cellsIntC : Try.prog.cellsOf 3 = 1 := by kernel_rfl
section
variable {H : Type} {enc : TypeId × Value → H} {w : World} {base : Nat} {spare : Nat → Bool} {held : Bool}
set_option maxRecDepth 100000 in
theorem trod_clock {fuel : Nat} {c0 c1 c2 c3 : Value} {x : DataW H × List MemPlace} (hf : DataW.trod enc Try.prog w base spare held fuel 33 [c0, c1, c2, c3] = some x) :
    ∃ n m s q : Int, c0 = .int .i64 n ∧ c1 = .int .i64 m ∧ c2 = .int .i64 s ∧ c3 = .int .i64 q ∧ x = (.agg [.agg [.lit (.int .i64 n), .lit (.int .i64 m)], .lit (.int .i64 s), .lit (.int .i64 q)], []) ∧ (Lit.int .i64 n).wf = true ∧ (Lit.int .i64 m).wf = true ∧ (Lit.int .i64 s).wf = true ∧ (Lit.int .i64 q).wf = true := by
  obtain ⟨y0, y1, y2, k, hx, _, h0, h1, h2⟩ := Go.Deep.trod_struct3 Try.underlying33 hf
  simp only [Try.cellsTurnC, Try.cellsIntC, List.drop_zero, List.drop_succ_cons, List.take_succ_cons, List.take_zero] at h0 h1 h2
  obtain ⟨z0, z1, j, hy, _, g0, g1⟩ := trod_struct2 Try.underlying31 h0
  simp only [Try.cellsIntC, List.drop_zero, List.drop_succ_cons, List.take_succ_cons, List.take_zero] at g0 g1
  obtain ⟨a, e0, rfl, wa⟩ := DataW.trod_int Try.underlying3 g0
  obtain ⟨b, e1, rfl, wb⟩ := DataW.trod_int Try.underlying3 g1
  obtain ⟨c, e2, rfl, wc⟩ := DataW.trod_int Try.underlying3 h1
  obtain ⟨d, e3, rfl, wd⟩ := DataW.trod_int Try.underlying3 h2
  simp at e0 e1 e2 e3
  subst e0 e1 e2 e3
  subst hy hx
  exact ⟨a, b, c, d, rfl, rfl, rfl, rfl, rfl, wa, wb, wc, wd⟩
set_option maxRecDepth 100000 in
theorem open_clock {r : Reach} {b0 : Nat} {v : Value} {d : DataW H} {p : List MemPlace}
    (hv' : Value.okWide Try.prog w r b0 33 v) (h : DataW.Trod enc Try.prog w base spare held 33 v d p) :
    ∃ n m s q : Int, v = cv n m s q ∧ d = .agg [.agg [.lit (.int .i64 n), .lit (.int .i64 m)], .lit (.int .i64 s), .lit (.int .i64 q)] ∧ p = [] ∧ (Lit.int .i64 n).wf = true ∧ (Lit.int .i64 m).wf = true ∧ (Lit.int .i64 s).wf = true ∧ (Lit.int .i64 q).wf = true := by
  obtain ⟨cs, rfl, hsz⟩ := okWide_struct Try.underlying33 hv'
  obtain ⟨c0, c1, c2, c3, rfl⟩ := array4 (hsz.trans Try.cellsClock)
  obtain ⟨fuel, hf⟩ := h
  obtain ⟨n, m, s, q, rfl, rfl, rfl, rfl, hx, wn, wm, ws, wq⟩ := trod_clock hf
  simp only [Prod.mk.injEq] at hx
  exact ⟨n, m, s, q, rfl, hx.1, hx.2, wn, wm, ws, wq⟩
set_option maxRecDepth 100000 in
theorem trod_clock_mk {n m s q : Int} (wn : (Lit.int .i64 n).wf = true) (wm : (Lit.int .i64 m).wf = true) (ws : (Lit.int .i64 s).wf = true) (wq : (Lit.int .i64 q).wf = true) :
    DataW.trod enc Try.prog w base spare held 3 33 [.int .i64 n, .int .i64 m, .int .i64 s, .int .i64 q] = some (.agg [.agg [.lit (.int .i64 n), .lit (.int .i64 m)], .lit (.int .i64 s), .lit (.int .i64 q)], []) := by
  have t0 := trod_struct2_mk (enc := enc) (w := w) (base := base) (spare := spare) (held := held) (n := 1) (cs := [.int .i64 n, .int .i64 m]) (y0 := (.lit (.int .i64 n), [])) (y1 := (.lit (.int .i64 m), [])) Try.underlying31 (by rw [Try.cellsTurnC]; rfl)
    (by simpa [Try.cellsIntC] using trod_int_mk 0 Try.underlying3 wn) (by simpa [Try.cellsIntC] using trod_int_mk 0 Try.underlying3 wm)
  have t1 := Go.Deep.trod_struct3_mk (enc := enc) (w := w) (base := base) (spare := spare) (held := held) (n := 2) (cs := [.int .i64 n, .int .i64 m, .int .i64 s, .int .i64 q]) (y1 := (.lit (.int .i64 s), [])) (y2 := (.lit (.int .i64 q), [])) Try.underlying33 (by rw [Try.cellsClock]; rfl)
    (by simpa [Try.cellsTurnC] using t0) (by simpa [Try.cellsIntC] using trod_int_mk 1 Try.underlying3 ws) (by simpa [Try.cellsIntC] using trod_int_mk 1 Try.underlying3 wq)
  simpa using t1
set_option maxRecDepth 100000 in
theorem shut_clock {n m s q : Int} (wn : (Lit.int .i64 n).wf = true) (wm : (Lit.int .i64 m).wf = true) (ws : (Lit.int .i64 s).wf = true) (wq : (Lit.int .i64 q).wf = true) :
    DataW.Trod enc Try.prog w base spare held 33 (cv n m s q) (.agg [.agg [.lit (.int .i64 n), .lit (.int .i64 m)], .lit (.int .i64 s), .lit (.int .i64 q)]) [] :=
  ⟨3, trod_clock_mk wn wm ws wq⟩
end
end Go.Proofs.Ytfddlmnfkmiomaa
