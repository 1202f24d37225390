/- How the program's own seen hands that are arguments are read, and that they read behind the call as before; '!=' of them. -/
import Derived.Test.YticdmochedadbaaGreatRow
import Derived.Test.YticdmochedadbaaGreatSeen1
import Derived.Test.YticdmochedadbaaGreatSeen4
import Derived.Test.YticdmochedadbaaGreatTaE
import Derived.Deep.Strs
set_option linter.unusedSimpArgs false
set_option linter.unusedVariables false
set_option maxRecDepth 100000
namespace Go.Proofs.YticdmochedadbaaGreat
open Go.ChangeShapes Go.WideShapes Go.ChangeAt Go.RowKit Go.Joins

theorem Tryz.cellsTurnJ : Tryz.prog.cellsOf 25 = 2 := by kernel_rfl
theorem Tryz.cellsSeenJ : Tryz.prog.cellsOf 27 = 4 := by kernel_rfl
theorem Tryz.cellsIntJ : Tryz.prog.cellsOf 3 = 1 := by kernel_rfl
section
variable {H : Type} {enc : TypeId × Value → H} {w : World} {base : Nat} {spare : Nat → Bool} {held : Bool}
set_option maxRecDepth 100000 in
theorem trod_iseen {fuel : Nat} {c0 c1 c2 c3 : Value} {x : DataW H × List MemPlace} (hf : DataW.trod enc Tryz.prog w base spare held fuel 27 [c0, c1, c2, c3] = some x) :
    ∃ n m s q : Int, c0 = .int .i64 n ∧ c1 = .int .i64 m ∧ c2 = .int .i64 s ∧ c3 = .int .i64 q ∧ x = (.agg [.agg [.lit (.int .i64 n), .lit (.int .i64 m)], .agg [.lit (.int .i64 s), .lit (.int .i64 q)]], []) ∧ (Lit.int .i64 n).wf = true ∧ (Lit.int .i64 m).wf = true ∧ (Lit.int .i64 s).wf = true ∧ (Lit.int .i64 q).wf = true := by
  obtain ⟨y0, y1, k, hx, _, h0, h1⟩ := trod_struct2 Tryz.underlying27 hf
  simp only [Tryz.cellsTurnJ, Tryz.cellsIntJ, List.drop_zero, List.drop_succ_cons, List.take_succ_cons, List.take_zero] at h0 h1
  obtain ⟨z0, z1, j, hy, _, g0, g1⟩ := trod_struct2 Tryz.underlying25 h0
  obtain ⟨z2, z3, j', hy', _, g2, g3⟩ := trod_struct2 Tryz.underlying25 h1
  simp only [Tryz.cellsIntJ, List.drop_zero, List.drop_succ_cons, List.take_succ_cons, List.take_zero] at g0 g1 g2 g3
  obtain ⟨a, e0, rfl, wa⟩ := DataW.trod_int Tryz.underlying3 g0
  obtain ⟨b, e1, rfl, wb⟩ := DataW.trod_int Tryz.underlying3 g1
  obtain ⟨c, e2, rfl, wc⟩ := DataW.trod_int Tryz.underlying3 g2
  obtain ⟨d, e3, rfl, wd⟩ := DataW.trod_int Tryz.underlying3 g3
  simp at e0 e1 e2 e3
  subst e0 e1 e2 e3
  subst hy hy' hx
  exact ⟨a, b, c, d, rfl, rfl, rfl, rfl, rfl, wa, wb, wc, wd⟩
set_option maxRecDepth 100000 in
theorem open_iseen {r : Reach} {b0 : Nat} {v : Value} {d : DataW H} {p : List MemPlace}
    (hv' : Value.okWide Tryz.prog w r b0 27 v) (h : DataW.Trod enc Tryz.prog w base spare held 27 v d p) :
    ∃ n m s q : Int, v = sn n m s q ∧ d = .agg [.agg [.lit (.int .i64 n), .lit (.int .i64 m)], .agg [.lit (.int .i64 s), .lit (.int .i64 q)]] ∧ p = [] ∧ (Lit.int .i64 n).wf = true ∧ (Lit.int .i64 m).wf = true ∧ (Lit.int .i64 s).wf = true ∧ (Lit.int .i64 q).wf = true := by
  obtain ⟨cs, rfl, hsz⟩ := okWide_struct Tryz.underlying27 hv'
  obtain ⟨c0, c1, c2, c3, rfl⟩ := array4 (hsz.trans Tryz.cellsSeenJ)
  obtain ⟨fuel, hf⟩ := h
  obtain ⟨n, m, s, q, rfl, rfl, rfl, rfl, hx, wn, wm, ws, wq⟩ := trod_iseen hf
  simp only [Prod.mk.injEq] at hx
  exact ⟨n, m, s, q, rfl, hx.1, hx.2, wn, wm, ws, wq⟩
set_option maxRecDepth 100000 in
theorem trod_iseen_mk {n m s q : Int} (wn : (Lit.int .i64 n).wf = true) (wm : (Lit.int .i64 m).wf = true) (ws : (Lit.int .i64 s).wf = true) (wq : (Lit.int .i64 q).wf = true) :
    DataW.trod enc Tryz.prog w base spare held 3 27 [.int .i64 n, .int .i64 m, .int .i64 s, .int .i64 q] = some (.agg [.agg [.lit (.int .i64 n), .lit (.int .i64 m)], .agg [.lit (.int .i64 s), .lit (.int .i64 q)]], []) := by
  have t0 := trod_struct2_mk (enc := enc) (w := w) (base := base) (spare := spare) (held := held) (n := 1) (cs := [.int .i64 n, .int .i64 m]) (y0 := (.lit (.int .i64 n), [])) (y1 := (.lit (.int .i64 m), [])) Tryz.underlying25 (by rw [Tryz.cellsTurnJ]; rfl)
    (by simpa [Tryz.cellsIntJ] using trod_int_mk 0 Tryz.underlying3 wn) (by simpa [Tryz.cellsIntJ] using trod_int_mk 0 Tryz.underlying3 wm)
  have t2 := trod_struct2_mk (enc := enc) (w := w) (base := base) (spare := spare) (held := held) (n := 1) (cs := [.int .i64 s, .int .i64 q]) (y0 := (.lit (.int .i64 s), [])) (y1 := (.lit (.int .i64 q), [])) Tryz.underlying25 (by rw [Tryz.cellsTurnJ]; rfl)
    (by simpa [Tryz.cellsIntJ] using trod_int_mk 0 Tryz.underlying3 ws) (by simpa [Tryz.cellsIntJ] using trod_int_mk 0 Tryz.underlying3 wq)
  have t1 := trod_struct2_mk (enc := enc) (w := w) (base := base) (spare := spare) (held := held) (n := 2) (cs := [.int .i64 n, .int .i64 m, .int .i64 s, .int .i64 q]) (y0 := (.agg [.lit (.int .i64 n), .lit (.int .i64 m)], [])) (y1 := (.agg [.lit (.int .i64 s), .lit (.int .i64 q)], [])) Tryz.underlying27 (by rw [Tryz.cellsSeenJ]; rfl)
    (by simpa [Tryz.cellsTurnJ] using t0) (by simpa [Tryz.cellsTurnJ] using t2)
  simpa using t1
set_option maxRecDepth 100000 in
theorem shut_iseen {n m s q : Int} (wn : (Lit.int .i64 n).wf = true) (wm : (Lit.int .i64 m).wf = true) (ws : (Lit.int .i64 s).wf = true) (wq : (Lit.int .i64 q).wf = true) :
    DataW.Trod enc Tryz.prog w base spare held 27 (sn n m s q) (.agg [.agg [.lit (.int .i64 n), .lit (.int .i64 m)], .agg [.lit (.int .i64 s), .lit (.int .i64 q)]]) [] :=
  ⟨3, trod_iseen_mk wn wm ws wq⟩
end
theorem run_neq_seen (a b c d a' b' c' d' : Int) (w : World) : (binOp .neq 27 (sn a b c d) (sn a' b' c' d')).run Tryz.prog w = .ok (.bool (!(eqT a b a' b' && eqT c d c' d'))) w := by
  have hu' : Tryz.prog.underlying 27 = some (.struct (Tryz.prog.fieldsOf 27)) := by kernel_rfl
  have hp' : Tryz.prog.stoodInHeld 27 = false := by kernel_rfl
  have hp : Tryz.prog.stoodInHeld 25 = false := by kernel_rfl
  have hu : Tryz.prog.underlying 25 = some (.struct (Tryz.prog.fieldsOf 25)) := by kernel_rfl
  have u3 := Tryz.underlying3
  have a3 := Tryz.isAgg3
  have z3 := Tryz.sizeOf3
  have a2 := Tryz.isAgg25
  have z2 := Tryz.sizeOf25
  have e : ∀ (x y x' y' : Int), (Op.equalIn 9999 25 (.agg #[.int .i64 x, .int .i64 y]) (.agg #[.int .i64 x', .int .i64 y'])).run Tryz.prog w = .ok (eqT x y x' y') w := fun x y x' y' => by
    rw [show (9999 : Nat) = 9998 + 1 from rfl, run_equalIn_agg w 9998 25 _ _ hu hp]
    simp only [Program.fieldsOf, Tryz.underlying25]
    go_simp
    by_cases h1 : x = x' <;> by_cases h2 : y = y' <;> simp [h1, h2, eqT]
  rw [run_neq_struct, show (10000 : Nat) = 9999 + 1 from rfl, run_equalIn_agg w 9999 27 _ _ hu' hp']
  simp only [Program.fieldsOf, Tryz.underlying27]
  clear hu hp hu' hp'
  go_simp
  by_cases h1 : a = a' <;> by_cases h2 : b = b' <;> by_cases h3 : c = c' <;> by_cases h4 : d = d' <;> simp [h1, h2, h3, h4, eqT]
/-- The same hands are not other. -/
theorem run_neq_sameSeen (a b c d : Int) (w : World) : (binOp .neq 27 (sn a b c d) (sn a b c d)).run Tryz.prog w = .ok (.bool false) w := by
  rw [run_neq_seen, eqT_same, eqT_same]; rfl
end Go.Proofs.YticdmochedadbaaGreat
