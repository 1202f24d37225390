/- How what is seen is read as an argument, and that it reads behind the call as before; the law's conversion and comparison of it. -/
import Derived.Test.YtkhadikdhenibaaRow
import Derived.Test.YtkhadikdhenibaaSeen1
import Derived.Deep.Strs
set_option linter.unusedSimpArgs false
set_option linter.unusedVariables false
set_option maxRecDepth 100000
namespace Go.Proofs.Ytkhadikdhenibaa
open Go.ChangeShapes Go.WideShapes Go.ChangeAt Go.RowKit Go.Joins

theorem Try.cellsTurnN : Try.prog.cellsOf 23 = 2 := by kernel_rfl
theorem Try.cellsSeen : Try.prog.cellsOf 25 = 4 := by kernel_rfl
theorem Try.cellsIntN : Try.prog.cellsOf 3 = 1 := by kernel_rfl
section
variable {H : Type} {enc : TypeId × Value → H} {w : World} {base : Nat} {spare : Nat → Bool} {held : Bool}
set_option maxRecDepth 100000 in
theorem trod_seen {fuel : Nat} {c0 c1 c2 c3 : Value} {x : DataW H × List MemPlace} (hf : DataW.trod enc Try.prog w base spare held fuel 25 [c0, c1, c2, c3] = some x) :
    ∃ n m s q : Int, c0 = .int .i64 n ∧ c1 = .int .i64 m ∧ c2 = .int .i64 s ∧ c3 = .int .i64 q ∧ x = (.agg [.agg [.lit (.int .i64 n), .lit (.int .i64 m)], .agg [.lit (.int .i64 s), .lit (.int .i64 q)]], []) ∧ (Lit.int .i64 n).wf = true ∧ (Lit.int .i64 m).wf = true ∧ (Lit.int .i64 s).wf = true ∧ (Lit.int .i64 q).wf = true := by
  obtain ⟨y0, y1, k, hx, _, h0, h1⟩ := trod_struct2 Try.underlying25 hf
  simp only [Try.cellsTurnN, Try.cellsIntN, List.drop_zero, List.drop_succ_cons, List.take_succ_cons, List.take_zero] at h0 h1
  obtain ⟨z0, z1, j, hy, _, g0, g1⟩ := trod_struct2 Try.underlying23 h0
  obtain ⟨z2, z3, j', hy', _, g2, g3⟩ := trod_struct2 Try.underlying23 h1
  simp only [Try.cellsIntN, List.drop_zero, List.drop_succ_cons, List.take_succ_cons, List.take_zero] at g0 g1 g2 g3
  obtain ⟨a, e0, rfl, wa⟩ := DataW.trod_int Try.underlying3 g0
  obtain ⟨b, e1, rfl, wb⟩ := DataW.trod_int Try.underlying3 g1
  obtain ⟨c, e2, rfl, wc⟩ := DataW.trod_int Try.underlying3 g2
  obtain ⟨d, e3, rfl, wd⟩ := DataW.trod_int Try.underlying3 g3
  simp at e0 e1 e2 e3
  subst e0 e1 e2 e3
  subst hy hy' hx
  exact ⟨a, b, c, d, rfl, rfl, rfl, rfl, rfl, wa, wb, wc, wd⟩
set_option maxRecDepth 100000 in
theorem open_seen {r : Reach} {b0 : Nat} {v : Value} {d : DataW H} {p : List MemPlace}
    (hv' : Value.okWide Try.prog w r b0 25 v) (h : DataW.Trod enc Try.prog w base spare held 25 v d p) :
    ∃ n m s q : Int, v = sn n m s q ∧ d = .agg [.agg [.lit (.int .i64 n), .lit (.int .i64 m)], .agg [.lit (.int .i64 s), .lit (.int .i64 q)]] ∧ p = [] ∧ (Lit.int .i64 n).wf = true ∧ (Lit.int .i64 m).wf = true ∧ (Lit.int .i64 s).wf = true ∧ (Lit.int .i64 q).wf = true := by
  obtain ⟨cs, rfl, hsz⟩ := okWide_struct Try.underlying25 hv'
  obtain ⟨c0, c1, c2, c3, rfl⟩ := array4 (hsz.trans Try.cellsSeen)
  obtain ⟨fuel, hf⟩ := h
  obtain ⟨n, m, s, q, rfl, rfl, rfl, rfl, hx, wn, wm, ws, wq⟩ := trod_seen hf
  simp only [Prod.mk.injEq] at hx
  exact ⟨n, m, s, q, rfl, hx.1, hx.2, wn, wm, ws, wq⟩
set_option maxRecDepth 100000 in
theorem trod_seen_mk {n m s q : Int} (wn : (Lit.int .i64 n).wf = true) (wm : (Lit.int .i64 m).wf = true) (ws : (Lit.int .i64 s).wf = true) (wq : (Lit.int .i64 q).wf = true) :
    DataW.trod enc Try.prog w base spare held 3 25 [.int .i64 n, .int .i64 m, .int .i64 s, .int .i64 q] = some (.agg [.agg [.lit (.int .i64 n), .lit (.int .i64 m)], .agg [.lit (.int .i64 s), .lit (.int .i64 q)]], []) := by
  have t0 := trod_struct2_mk (enc := enc) (w := w) (base := base) (spare := spare) (held := held) (n := 1) (cs := [.int .i64 n, .int .i64 m]) (y0 := (.lit (.int .i64 n), [])) (y1 := (.lit (.int .i64 m), [])) Try.underlying23 (by rw [Try.cellsTurnN]; rfl)
    (by simpa [Try.cellsIntN] using trod_int_mk 0 Try.underlying3 wn) (by simpa [Try.cellsIntN] using trod_int_mk 0 Try.underlying3 wm)
  have t2 := trod_struct2_mk (enc := enc) (w := w) (base := base) (spare := spare) (held := held) (n := 1) (cs := [.int .i64 s, .int .i64 q]) (y0 := (.lit (.int .i64 s), [])) (y1 := (.lit (.int .i64 q), [])) Try.underlying23 (by rw [Try.cellsTurnN]; rfl)
    (by simpa [Try.cellsIntN] using trod_int_mk 0 Try.underlying3 ws) (by simpa [Try.cellsIntN] using trod_int_mk 0 Try.underlying3 wq)
  have t1 := trod_struct2_mk (enc := enc) (w := w) (base := base) (spare := spare) (held := held) (n := 2) (cs := [.int .i64 n, .int .i64 m, .int .i64 s, .int .i64 q]) (y0 := (.agg [.lit (.int .i64 n), .lit (.int .i64 m)], [])) (y1 := (.agg [.lit (.int .i64 s), .lit (.int .i64 q)], [])) Try.underlying25 (by rw [Try.cellsSeen]; rfl)
    (by simpa [Try.cellsTurnN] using t0) (by simpa [Try.cellsTurnN] using t2)
  simpa using t1
set_option maxRecDepth 100000 in
theorem shut_seen {n m s q : Int} (wn : (Lit.int .i64 n).wf = true) (wm : (Lit.int .i64 m).wf = true) (ws : (Lit.int .i64 s).wf = true) (wq : (Lit.int .i64 q).wf = true) :
    DataW.Trod enc Try.prog w base spare held 25 (sn n m s q) (.agg [.agg [.lit (.int .i64 n), .lit (.int .i64 m)], .agg [.lit (.int .i64 s), .lit (.int .i64 q)]]) [] :=
  ⟨3, trod_seen_mk wn wm ws wq⟩
end
set_option maxHeartbeats 400000 in
theorem toSeen_any (a b c d : Int) (w : World) :
    Calls Try.prog 20 #[sn a b c d] w fun e w' => e = .returned (sn a b c d) ∧ Below w.heap.size w w' := by
  (go_enter Try.func20, Try.ntmps20)
  go_wp2_with fail
  refine (toTurn_any _ _ _).mono ?_
  (rintro e1 w1 ⟨rfl, hb1⟩; obtain ⟨hc1, hf1⟩ := bcell hb1; have hz1 := hb1.size; (try simp only [World.size_alloc, World.size_setCell, World.size_drew] at hz1); have q1 : w.heap.size ≤ w1.heap.size := (by omega); (try have q1_0 : w.heap.size < w1.heap.size := (by omega)); (try have q1_1 : w.heap.size + 1 < w1.heap.size := (by omega)); (try have q1_2 : w.heap.size + 2 < w1.heap.size := (by omega)); (try have q1_3 : w.heap.size + 3 < w1.heap.size := (by omega)))
  go_wp2_with fail
  refine (toTurn_any _ _ _).mono ?_
  (rintro e2 w2 ⟨rfl, hb2⟩; obtain ⟨hc2, hf2⟩ := bcell hb2; have hz2 := hb2.size; (try simp only [World.size_alloc, World.size_setCell, World.size_drew] at hz2); have q2 : w.heap.size ≤ w2.heap.size := (by omega); (try have q2_0 : w.heap.size < w2.heap.size := (by omega)); (try have q2_1 : w.heap.size + 1 < w2.heap.size := (by omega)); (try have q2_2 : w.heap.size + 2 < w2.heap.size := (by omega)); (try have q2_3 : w.heap.size + 3 < w2.heap.size := (by omega)); (try have q2_1_0 : w1.heap.size < w2.heap.size := (by omega)); (try have q2_1_1 : w1.heap.size + 1 < w2.heap.size := (by omega)))
  go_wp2
  (refine bodyPost_ret (by simp [results, Try.results20, go_sem, *]; try rfl) rfl ?_)
  exact ⟨rfl, by (repeat' (first | (with_reducible exact Below.refl _ _) | (with_reducible assumption) | (with_reducible refine Below.alloc ?_ ?_ _) | (with_reducible refine Below.drew ?_) | (with_reducible refine below_drewN ?_ _) | (with_reducible refine Below.setCell ?_ ?_ _) | (with_reducible refine below_call ?_ ?_ (by assumption)) | go_size))⟩
set_option maxHeartbeats 400000 in
theorem eqSeen_self (a b c d : Int) (w : World) :
    Calls Try.prog 25 #[sn a b c d, sn a b c d] w fun e w' => e = .returned (.bool true) ∧ Below w.heap.size w w' := by
  (go_enter Try.func25, Try.ntmps25)
  go_wp2_with fail
  refine (eqTurn_self _ _ _).mono ?_
  (rintro e1 w1 ⟨rfl, hb1⟩; obtain ⟨hc1, hf1⟩ := bcell hb1; have hz1 := hb1.size; (try simp only [World.size_alloc, World.size_setCell, World.size_drew] at hz1); have q1 : w.heap.size ≤ w1.heap.size := (by omega); (try have q1_0 : w.heap.size < w1.heap.size := (by omega)); (try have q1_1 : w.heap.size + 1 < w1.heap.size := (by omega)); (try have q1_2 : w.heap.size + 2 < w1.heap.size := (by omega)); (try have q1_3 : w.heap.size + 3 < w1.heap.size := (by omega)))
  go_wp2_with fail
  refine (eqTurn_self _ _ _).mono ?_
  (rintro e2 w2 ⟨rfl, hb2⟩; obtain ⟨hc2, hf2⟩ := bcell hb2; have hz2 := hb2.size; (try simp only [World.size_alloc, World.size_setCell, World.size_drew] at hz2); have q2 : w.heap.size ≤ w2.heap.size := (by omega); (try have q2_0 : w.heap.size < w2.heap.size := (by omega)); (try have q2_1 : w.heap.size + 1 < w2.heap.size := (by omega)); (try have q2_2 : w.heap.size + 2 < w2.heap.size := (by omega)); (try have q2_3 : w.heap.size + 3 < w2.heap.size := (by omega)); (try have q2_1_0 : w1.heap.size < w2.heap.size := (by omega)); (try have q2_1_1 : w1.heap.size + 1 < w2.heap.size := (by omega)))
  go_wp2
  go_ret
  exact ⟨rfl, by (repeat' (first | (with_reducible exact Below.refl _ _) | (with_reducible assumption) | (with_reducible refine Below.alloc ?_ ?_ _) | (with_reducible refine Below.drew ?_) | (with_reducible refine below_drewN ?_ _) | (with_reducible refine Below.setCell ?_ ?_ _) | (with_reducible refine below_call ?_ ?_ (by assumption)) | go_size))⟩
end Go.Proofs.Ytkhadikdhenibaa
