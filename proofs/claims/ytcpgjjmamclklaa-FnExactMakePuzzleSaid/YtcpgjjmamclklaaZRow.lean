/- How a clue and a puzzle that are arguments are read, and that they read behind the call as before. -/
import Derived.Test.YtcpgjjmamclklaaRow
import Derived.Test.YtcpgjjmamclklaaLate
import Derived.Deep.Strs
import Derived.Deep.Slices
set_option linter.unusedSimpArgs false
set_option linter.unusedVariables false
set_option maxRecDepth 100000
namespace Go.Proofs.Ytcpgjjmamclklaa
open Go.ChangeShapes Go.WideShapes Go.ChangeAt Go.RowKit Go.Joins

/-- The value of a clue, and of its parts. -/
abbrev kv (k a b : Int) : Value := .agg #[.int .i64 k, .int .i64 a, .int .i64 b]
/-- The value of a puzzle. -/
abbrev pzv (h : Int) (v : Value) : Value := .agg #[.int .i64 h, v]
theorem Try.cellsClue : Try.prog.cellsOf 23 = 3 := by kernel_rfl
theorem Try.cellsNum : Try.prog.cellsOf 3 = 1 := by kernel_rfl
section
variable {H : Type} {enc : TypeId × Value → H} {w : World} {base : Nat} {spare : Nat → Bool} {held : Bool}
set_option maxRecDepth 100000 in
theorem open_clue {r : Reach} {b0 : Nat} {v : Value} {d : DataW H} {p : List MemPlace}
    (hv' : Value.okWide Try.prog w r b0 23 v) (h : DataW.Trod enc Try.prog w base spare held 23 v d p) :
    ∃ n m s : Int, v = kv n m s ∧ d = .agg [.lit (.int .i64 n), .lit (.int .i64 m), .lit (.int .i64 s)] ∧ p = [] ∧ (Lit.int .i64 n).wf = true ∧ (Lit.int .i64 m).wf = true ∧ (Lit.int .i64 s).wf = true := by
  obtain ⟨v0, v1, v2, y0, y1, y2, n, rfl, rfl, rfl, t0, t1, t2⟩ := open_agg3 Try.underlying23 (by kernel_rfl) (by kernel_rfl) hv' h
  obtain ⟨a, h0, rfl, wa⟩ := DataW.trod_int Try.underlying3 t0
  obtain ⟨b, h1, rfl, wb⟩ := DataW.trod_int Try.underlying3 t1
  obtain ⟨c, h2, rfl, wc⟩ := DataW.trod_int Try.underlying3 t2
  simp at h0 h1 h2
  subst h0 h1 h2
  exact ⟨a, b, c, rfl, rfl, rfl, wa, wb, wc⟩
set_option maxRecDepth 100000 in
theorem shut_clue {n m s : Int} (wn : (Lit.int .i64 n).wf = true) (wm : (Lit.int .i64 m).wf = true) (ws : (Lit.int .i64 s).wf = true) :
    DataW.Trod enc Try.prog w base spare held 23 (kv n m s) (.agg [.lit (.int .i64 n), .lit (.int .i64 m), .lit (.int .i64 s)]) [] := by
  have h := shut_agg3 (enc := enc) (w := w) (base := base) (spare := spare) (held := held) (v0 := .int .i64 n) (v1 := .int .i64 m) (v2 := .int .i64 s) (y0 := (.lit (.int .i64 n), [])) (y1 := (.lit (.int .i64 m), [])) (y2 := (.lit (.int .i64 s), [])) Try.underlying23 (by kernel_rfl) (by kernel_rfl)
    ⟨1, trod_int_mk 0 Try.underlying3 wn⟩ ⟨1, trod_int_mk 0 Try.underlying3 wm⟩ ⟨1, trod_int_mk 0 Try.underlying3 ws⟩
  exact h
end
section
variable {H : Type} {enc : TypeId × Value → H} {w : World} {base : Nat} {spare : Nat → Bool} {held : Bool}
set_option maxRecDepth 100000 in
theorem trod_clue {fuel : Nat} {c0 c1 c2 : Value} {x : DataW H × List MemPlace} (hf : DataW.trod enc Try.prog w base spare held fuel 23 [c0, c1, c2] = some x) :
    ∃ n m s : Int, c0 = .int .i64 n ∧ c1 = .int .i64 m ∧ c2 = .int .i64 s ∧ (Lit.int .i64 n).wf = true ∧ (Lit.int .i64 m).wf = true ∧ (Lit.int .i64 s).wf = true := by
  obtain ⟨y0, y1, y2, k, hx, _, h0, h1, h2⟩ := Go.Deep.trod_struct3 Try.underlying23 hf
  simp only [Try.cellsNum, List.drop_zero, List.drop_succ_cons, List.take_succ_cons, List.take_zero] at h0 h1 h2
  obtain ⟨a, e0, rfl, wa⟩ := DataW.trod_int Try.underlying3 h0
  obtain ⟨b, e1, rfl, wb⟩ := DataW.trod_int Try.underlying3 h1
  obtain ⟨c, e2, rfl, wc⟩ := DataW.trod_int Try.underlying3 h2
  simp at e0 e1 e2
  subst e0 e1 e2
  exact ⟨a, b, c, rfl, rfl, rfl, wa, wb, wc⟩
end
set_option maxHeartbeats 400000 in
theorem toClue_any (e b y : Int) (w : World) :
    Calls Try.prog 19 #[kv e b y] w fun e' w' => e' = .returned (kv e b y) ∧ Below w.heap.size w w' := by
  (go_enter Try.func19, Try.ntmps19)
  go_wp2
  (refine bodyPost_ret (by simp [results, Try.results19, go_sem, *]; try rfl) rfl ?_)
  exact ⟨rfl, by (repeat' (first | (with_reducible exact Below.refl _ _) | (with_reducible assumption) | (with_reducible refine Below.alloc ?_ ?_ _) | (with_reducible refine Below.drew ?_) | (with_reducible refine below_drewN ?_ _) | (with_reducible refine Below.setCell ?_ ?_ _) | (with_reducible refine below_call ?_ ?_ (by assumption)) | go_size))⟩
set_option maxHeartbeats 400000 in
theorem eqClue_self (n d s : Int) (w : World) :
    Calls Try.prog 105 #[kv n d s, kv n d s] w fun e w' => e = .returned (.bool true) ∧ Below w.heap.size w w' := by
  (go_enter Try.func105, Try.ntmps105)
  go_wp2
  go_ret
  exact ⟨rfl, by (repeat' (first | (with_reducible exact Below.refl _ _) | (with_reducible assumption) | (with_reducible refine Below.alloc ?_ ?_ _) | (with_reducible refine Below.drew ?_) | (with_reducible refine below_drewN ?_ _) | (with_reducible refine Below.setCell ?_ ?_ _) | (with_reducible refine below_call ?_ ?_ (by assumption)) | go_size))⟩
end Go.Proofs.Ytcpgjjmamclklaa
