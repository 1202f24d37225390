/- How the program's own seen hands that are arguments are read, and that they read behind the call as before; '!=' of them. -/
import Derived.Test.YticdmochedadbaaRow
import Derived.Test.YticdmochedadbaaSeen1
import Derived.Test.YticdmochedadbaaSeen4
import Derived.Test.YticdmochedadbaaTaE
import Derived.Deep.Strs
set_option linter.unusedSimpArgs false
set_option linter.unusedVariables false
set_option maxRecDepth 100000
namespace Go.Proofs.Yticdmochedadbaa
open Go.ChangeShapes Go.WideShapes Go.ChangeAt Go.RowKit Go.Joins

theorem Try.cellsTurnJ : Try.prog.cellsOf 25 = 2 := by kernel_rfl
theorem Try.cellsSeenJ : Try.prog.cellsOf 31 = 4 := by kernel_rfl
theorem Try.cellsIntJ : Try.prog.cellsOf 3 = 1 := by kernel_rfl
section
variable {H : Type} {enc : TypeId × Value → H} {w : World} {base : Nat} {spare : Nat → Bool} {held : Bool}
set_option maxRecDepth 100000 in
theorem trod_iseen {fuel : Nat} {c0 c1 c2 c3 : Value} {x : DataW H × List MemPlace} (hf : DataW.trod enc Try.prog w base spare held fuel 31 [c0, c1, c2, c3] = some x) :
    ∃ n m s q : Int, c0 = .int .i64 n ∧ c1 = .int .i64 m ∧ c2 = .int .i64 s ∧ c3 = .int .i64 q ∧ x = (.agg [.agg [.lit (.int .i64 n), .lit (.int .i64 m)], .agg [.lit (.int .i64 s), .lit (.int .i64 q)]], []) ∧ (Lit.int .i64 n).wf = true ∧ (Lit.int .i64 m).wf = true ∧ (Lit.int .i64 s).wf = true ∧ (Lit.int .i64 q).wf = true := by
  obtain ⟨y0, y1, k, hx, _, h0, h1⟩ := trod_struct2 Try.underlying31 hf
  simp only [Try.cellsTurnJ, Try.cellsIntJ, List.drop_zero, List.drop_succ_cons, List.take_succ_cons, List.take_zero] at h0 h1
  obtain ⟨z0, z1, j, hy, _, g0, g1⟩ := trod_struct2 Try.underlying25 h0
  obtain ⟨z2, z3, j', hy', _, g2, g3⟩ := trod_struct2 Try.underlying25 h1
  simp only [Try.cellsIntJ, List.drop_zero, List.drop_succ_cons, List.take_succ_cons, List.take_zero] at g0 g1 g2 g3
  obtain ⟨a, e0, rfl, wa⟩ := DataW.trod_int Try.underlying3 g0
  obtain ⟨b, e1, rfl, wb⟩ := DataW.trod_int Try.underlying3 g1
  obtain ⟨c, e2, rfl, wc⟩ := DataW.trod_int Try.underlying3 g2
  obtain ⟨d, e3, rfl, wd⟩ := DataW.trod_int Try.underlying3 g3
  simp at e0 e1 e2 e3
  subst e0 e1 e2 e3
  subst hy hy' hx
  exact ⟨a, b, c, d, rfl, rfl, rfl, rfl, rfl, wa, wb, wc, wd⟩
set_option maxRecDepth 100000 in
theorem open_iseen {r : Reach} {b0 : Nat} {v : Value} {d : DataW H} {p : List MemPlace}
    (hv' : Value.okWide Try.prog w r b0 31 v) (h : DataW.Trod enc Try.prog w base spare held 31 v d p) :
    ∃ n m s q : Int, v = sn n m s q ∧ d = .agg [.agg [.lit (.int .i64 n), .lit (.int .i64 m)], .agg [.lit (.int .i64 s), .lit (.int .i64 q)]] ∧ p = [] ∧ (Lit.int .i64 n).wf = true ∧ (Lit.int .i64 m).wf = true ∧ (Lit.int .i64 s).wf = true ∧ (Lit.int .i64 q).wf = true := by
  obtain ⟨cs, rfl, hsz⟩ := okWide_struct Try.underlying31 hv'
  obtain ⟨c0, c1, c2, c3, rfl⟩ := array4 (hsz.trans Try.cellsSeenJ)
  obtain ⟨fuel, hf⟩ := h
  obtain ⟨n, m, s, q, rfl, rfl, rfl, rfl, hx, wn, wm, ws, wq⟩ := trod_iseen hf
  simp only [Prod.mk.injEq] at hx
  exact ⟨n, m, s, q, rfl, hx.1, hx.2, wn, wm, ws, wq⟩
set_option maxRecDepth 100000 in
theorem trod_iseen_mk {n m s q : Int} (wn : (Lit.int .i64 n).wf = true) (wm : (Lit.int .i64 m).wf = true) (ws : (Lit.int .i64 s).wf = true) (wq : (Lit.int .i64 q).wf = true) :
    DataW.trod enc Try.prog w base spare held 3 31 [.int .i64 n, .int .i64 m, .int .i64 s, .int .i64 q] = some (.agg [.agg [.lit (.int .i64 n), .lit (.int .i64 m)], .agg [.lit (.int .i64 s), .lit (.int .i64 q)]], []) := by
  have t0 := trod_struct2_mk (enc := enc) (w := w) (base := base) (spare := spare) (held := held) (n := 1) (cs := [.int .i64 n, .int .i64 m]) (y0 := (.lit (.int .i64 n), [])) (y1 := (.lit (.int .i64 m), [])) Try.underlying25 (by rw [Try.cellsTurnJ]; rfl)
    (by simpa [Try.cellsIntJ] using trod_int_mk 0 Try.underlying3 wn) (by simpa [Try.cellsIntJ] using trod_int_mk 0 Try.underlying3 wm)
  have t2 := trod_struct2_mk (enc := enc) (w := w) (base := base) (spare := spare) (held := held) (n := 1) (cs := [.int .i64 s, .int .i64 q]) (y0 := (.lit (.int .i64 s), [])) (y1 := (.lit (.int .i64 q), [])) Try.underlying25 (by rw [Try.cellsTurnJ]; rfl)
    (by simpa [Try.cellsIntJ] using trod_int_mk 0 Try.underlying3 ws) (by simpa [Try.cellsIntJ] using trod_int_mk 0 Try.underlying3 wq)
  have t1 := trod_struct2_mk (enc := enc) (w := w) (base := base) (spare := spare) (held := held) (n := 2) (cs := [.int .i64 n, .int .i64 m, .int .i64 s, .int .i64 q]) (y0 := (.agg [.lit (.int .i64 n), .lit (.int .i64 m)], [])) (y1 := (.agg [.lit (.int .i64 s), .lit (.int .i64 q)], [])) Try.underlying31 (by rw [Try.cellsSeenJ]; rfl)
    (by simpa [Try.cellsTurnJ] using t0) (by simpa [Try.cellsTurnJ] using t2)
  simpa using t1
set_option maxRecDepth 100000 in
theorem shut_iseen {n m s q : Int} (wn : (Lit.int .i64 n).wf = true) (wm : (Lit.int .i64 m).wf = true) (ws : (Lit.int .i64 s).wf = true) (wq : (Lit.int .i64 q).wf = true) :
    DataW.Trod enc Try.prog w base spare held 31 (sn n m s q) (.agg [.agg [.lit (.int .i64 n), .lit (.int .i64 m)], .agg [.lit (.int .i64 s), .lit (.int .i64 q)]]) [] :=
  ⟨3, trod_iseen_mk wn wm ws wq⟩
end
theorem run_neq_seen (a b c d a' b' c' d' : Int) (w : World) : (binOp .neq 31 (sn a b c d) (sn a' b' c' d')).run Try.prog w = .ok (.bool (!(eqT a b a' b' && eqT c d c' d'))) w := by
  have hu' : Try.prog.underlying 31 = some (.struct (Try.prog.fieldsOf 31)) := by kernel_rfl
  have hp' : Try.prog.stoodInHeld 31 = false := by kernel_rfl
  have hp : Try.prog.stoodInHeld 25 = false := by kernel_rfl
  have hu : Try.prog.underlying 25 = some (.struct (Try.prog.fieldsOf 25)) := by kernel_rfl
  have u3 := Try.underlying3
  have a3 := Try.isAgg3
  have z3 := Try.sizeOf3
  have a2 := Try.isAgg25
  have z2 := Try.sizeOf25
  have e : ∀ (x y x' y' : Int), (Op.equalIn 9999 25 (.agg #[.int .i64 x, .int .i64 y]) (.agg #[.int .i64 x', .int .i64 y'])).run Try.prog w = .ok (eqT x y x' y') w := fun x y x' y' => by
    rw [show (9999 : Nat) = 9998 + 1 from rfl, run_equalIn_agg w 9998 25 _ _ hu hp]
    simp only [Program.fieldsOf, Try.underlying25]
    go_simp
    by_cases h1 : x = x' <;> by_cases h2 : y = y' <;> simp [h1, h2, eqT]
  rw [run_neq_struct, show (10000 : Nat) = 9999 + 1 from rfl, run_equalIn_agg w 9999 31 _ _ hu' hp']
  simp only [Program.fieldsOf, Try.underlying31]
  clear hu hp hu' hp'
  go_simp
  by_cases h1 : a = a' <;> by_cases h2 : b = b' <;> by_cases h3 : c = c' <;> by_cases h4 : d = d' <;> simp [h1, h2, h3, h4, eqT]
/-- The same hands are not other. -/
theorem run_neq_sameSeen (a b c d : Int) (w : World) : (binOp .neq 31 (sn a b c d) (sn a b c d)).run Try.prog w = .ok (.bool false) w := by
  rw [run_neq_seen, eqT_same, eqT_same]; rfl
end Go.Proofs.Yticdmochedadbaa
