/- How the program's own hands that are arguments are read, and that they read behind the call as before; '!=' of them. -/
import Derived.Test.YtcfiaacpofpioaaHRow
import Derived.Test.YtcfiaacpofpioaaTaE
set_option linter.unusedSimpArgs false
set_option linter.unusedVariables false
set_option maxRecDepth 100000
namespace Go.Proofs.Ytcfiaacpofpioaa
open Go.ChangeShapes Go.WideShapes Go.ChangeAt Go.RowKit Go.Joins

theorem Try.cellsTurnG : Try.prog.cellsOf 25 = 2 := by kernel_rfl
theorem Try.cellsHandG : Try.prog.cellsOf 27 = 3 := by kernel_rfl
theorem Try.cellsIntG : Try.prog.cellsOf 3 = 1 := by kernel_rfl
section
variable {H : Type} {enc : TypeId × Value → H} {w : World} {base : Nat} {spare : Nat → Bool} {held : Bool}
set_option maxRecDepth 100000 in
theorem trod_ihand {fuel : Nat} {c0 c1 c2 : Value} {x : DataW H × List MemPlace} (hf : DataW.trod enc Try.prog w base spare held fuel 27 [c0, c1, c2] = some x) :
    ∃ n m s : Int, c0 = .int .i64 n ∧ c1 = .int .i64 m ∧ c2 = .int .i64 s ∧ x = (.agg [.agg [.lit (.int .i64 n), .lit (.int .i64 m)], .lit (.int .i64 s)], []) ∧ (Lit.int .i64 n).wf = true ∧ (Lit.int .i64 m).wf = true ∧ (Lit.int .i64 s).wf = true := by
  obtain ⟨y0, y1, k, hx, _, h0, h1⟩ := trod_struct2 Try.underlying27 hf
  simp only [Try.cellsTurnG, Try.cellsIntG, List.drop_zero, List.drop_succ_cons, List.take_succ_cons, List.take_zero] at h0 h1
  obtain ⟨z0, z1, j, hy, _, g0, g1⟩ := trod_struct2 Try.underlying25 h0
  simp only [Try.cellsIntG, List.drop_zero, List.drop_succ_cons, List.take_succ_cons, List.take_zero] at g0 g1
  obtain ⟨a, e0, rfl, wa⟩ := DataW.trod_int Try.underlying3 g0
  obtain ⟨b, e1, rfl, wb⟩ := DataW.trod_int Try.underlying3 g1
  obtain ⟨c, e2, rfl, wc⟩ := DataW.trod_int Try.underlying3 h1
  simp at e0 e1 e2
  subst e0 e1 e2
  subst hy hx
  exact ⟨a, b, c, rfl, rfl, rfl, rfl, wa, wb, wc⟩
set_option maxRecDepth 100000 in
theorem open_ihand {r : Reach} {b0 : Nat} {v : Value} {d : DataW H} {p : List MemPlace}
    (hv' : Value.okWide Try.prog w r b0 27 v) (h : DataW.Trod enc Try.prog w base spare held 27 v d p) :
    ∃ n m s : Int, v = hv n m s ∧ d = .agg [.agg [.lit (.int .i64 n), .lit (.int .i64 m)], .lit (.int .i64 s)] ∧ p = [] ∧ (Lit.int .i64 n).wf = true ∧ (Lit.int .i64 m).wf = true ∧ (Lit.int .i64 s).wf = true := by
  obtain ⟨cs, rfl, hsz⟩ := okWide_struct Try.underlying27 hv'
  obtain ⟨c0, c1, c2, rfl⟩ := array3 (hsz.trans Try.cellsHandG)
  obtain ⟨fuel, hf⟩ := h
  obtain ⟨n, m, s, rfl, rfl, rfl, hx, wn, wm, ws⟩ := trod_ihand hf
  simp only [Prod.mk.injEq] at hx
  exact ⟨n, m, s, rfl, hx.1, hx.2, wn, wm, ws⟩
set_option maxRecDepth 100000 in
theorem trod_ihand_mk {n m s : Int} (wn : (Lit.int .i64 n).wf = true) (wm : (Lit.int .i64 m).wf = true) (ws : (Lit.int .i64 s).wf = true) :
    DataW.trod enc Try.prog w base spare held 3 27 [.int .i64 n, .int .i64 m, .int .i64 s] = some (.agg [.agg [.lit (.int .i64 n), .lit (.int .i64 m)], .lit (.int .i64 s)], []) := by
  have t0 := trod_struct2_mk (enc := enc) (w := w) (base := base) (spare := spare) (held := held) (n := 1) (cs := [.int .i64 n, .int .i64 m]) (y0 := (.lit (.int .i64 n), [])) (y1 := (.lit (.int .i64 m), [])) Try.underlying25 (by rw [Try.cellsTurnG]; rfl)
    (by simpa [Try.cellsIntG] using trod_int_mk 0 Try.underlying3 wn) (by simpa [Try.cellsIntG] using trod_int_mk 0 Try.underlying3 wm)
  have t1 := trod_struct2_mk (enc := enc) (w := w) (base := base) (spare := spare) (held := held) (n := 2) (cs := [.int .i64 n, .int .i64 m, .int .i64 s]) (y1 := (.lit (.int .i64 s), [])) Try.underlying27 (by rw [Try.cellsHandG]; rfl)
    (by simpa [Try.cellsTurnG] using t0) (by simpa [Try.cellsIntG] using trod_int_mk 1 Try.underlying3 ws)
  simpa using t1
set_option maxRecDepth 100000 in
theorem shut_ihand {n m s : Int} (wn : (Lit.int .i64 n).wf = true) (wm : (Lit.int .i64 m).wf = true) (ws : (Lit.int .i64 s).wf = true) :
    DataW.Trod enc Try.prog w base spare held 27 (hv n m s) (.agg [.agg [.lit (.int .i64 n), .lit (.int .i64 m)], .lit (.int .i64 s)]) [] :=
  ⟨3, trod_ihand_mk wn wm ws⟩
end
theorem run_neq_sameHand (a b c : Int) (w : World) : (binOp .neq 27 (.agg #[.int .i64 a, .int .i64 b, .int .i64 c]) (.agg #[.int .i64 a, .int .i64 b, .int .i64 c])).run Try.prog w = .ok (.bool false) w := by
  have hu : Try.prog.underlying 27 = some (.struct (Try.prog.fieldsOf 27)) := by kernel_rfl
  have hp : Try.prog.stoodInHeld 27 = false := by kernel_rfl
  have hu2 : Try.prog.underlying 25 = some (.struct (Try.prog.fieldsOf 25)) := by kernel_rfl
  have hp2 : Try.prog.stoodInHeld 25 = false := by kernel_rfl
  have u3 := Try.underlying3
  have a3 := Try.isAgg3
  have z3 := Try.sizeOf3
  have a2 := Try.isAgg25
  have z2 := Try.sizeOf25
  have e : ∀ (x y x' y' : Int), (Op.equalIn 9999 25 (.agg #[.int .i64 x, .int .i64 y]) (.agg #[.int .i64 x', .int .i64 y'])).run Try.prog w = .ok (eqT x y x' y') w := fun x y x' y' => by
    rw [show (9999 : Nat) = 9998 + 1 from rfl, run_equalIn_agg w 9998 25 _ _ hu2 hp2]
    simp only [Program.fieldsOf, Try.underlying25]
    go_simp
    by_cases h1 : x = x' <;> by_cases h2 : y = y' <;> simp [h1, h2, eqT]
  have e' := e a b a b
  rw [eqT_same] at e'
  rw [run_neq_struct, show (10000 : Nat) = 9999 + 1 from rfl, run_equalIn_agg w 9999 27 _ _ hu hp]
  simp only [Program.fieldsOf, Try.underlying27]
  clear hu hp hu2 hp2
  go_simp
end Go.Proofs.Ytcfiaacpofpioaa
