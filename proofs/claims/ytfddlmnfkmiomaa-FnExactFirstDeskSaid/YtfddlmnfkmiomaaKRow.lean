/- How desks that are arguments are read, and that they read behind the call as before; the law's conversion and comparison of them. -/
import Derived.Test.YtfddlmnfkmiomaaRow
import Derived.Test.YtfddlmnfkmiomaaDrift0
import Derived.Test.YtfddlmnfkmiomaaCRow
import Derived.Deep.Strs
set_option linter.unusedSimpArgs false
set_option linter.unusedVariables false
set_option maxRecDepth 100000
namespace Go.Proofs.Ytfddlmnfkmiomaa
open Go.ChangeShapes Go.WideShapes Go.ChangeAt Go.RowKit Go.Joins

/-- A desk as a value: the hours, the time, the clock. -/
abbrev dkv (h n d p q x y : Int) : Value := .agg #[.int .i64 h, .int .i64 n, .int .i64 d, .int .i64 p, .int .i64 q, .int .i64 x, .int .i64 y]
theorem array7 {α : Type} {cs : Array α} (h : cs.size = 7) : ∃ c0 c1 c2 c3 c4 c5 c6, cs = #[c0, c1, c2, c3, c4, c5, c6] := by
  obtain ⟨l⟩ := cs
  have h : l.length = 7 := by simpa using h
  match l, h with
  | [a, b, c, d, e, f, g], _ => exact ⟨a, b, c, d, e, f, g, rfl⟩
theorem Try.cellsTurnK : Try.prog.cellsOf 31 = 2 := by kernel_rfl
theorem Try.cellsClockK : Try.prog.cellsOf 33 = 4 := by kernel_rfl
theorem Try.cellsDeskK : Try.prog.cellsOf 35 = 7 := by kernel_rfl
theorem Try.cellsIntK : Try.prog.cellsOf 3 = 1 := by kernel_rfl
abbrev deskD {H : Type} (h n d p q x y : Int) : DataW H := .agg [.lit (.int .i64 h), .agg [.lit (.int .i64 n), .lit (.int .i64 d)], .agg [.agg [.lit (.int .i64 p), .lit (.int .i64 q)], .lit (.int .i64 x), .lit (.int .i64 y)]]
section
variable {H : Type} {enc : TypeId × Value → H} {w : World} {base : Nat} {spare : Nat → Bool} {held : Bool}
set_option maxRecDepth 100000 in
theorem trod_desk {fuel : Nat} {c0 c1 c2 c3 c4 c5 c6 : Value} {x : DataW H × List MemPlace} (hf : DataW.trod enc Try.prog w base spare held fuel 35 [c0, c1, c2, c3, c4, c5, c6] = some x) :
    ∃ h n d p q s r : Int, c0 = .int .i64 h ∧ c1 = .int .i64 n ∧ c2 = .int .i64 d ∧ c3 = .int .i64 p ∧ c4 = .int .i64 q ∧ c5 = .int .i64 s ∧ c6 = .int .i64 r ∧ x = (deskD h n d p q s r, []) ∧
      (Lit.int .i64 h).wf = true ∧ (Lit.int .i64 n).wf = true ∧ (Lit.int .i64 d).wf = true ∧ (Lit.int .i64 p).wf = true ∧ (Lit.int .i64 q).wf = true ∧ (Lit.int .i64 s).wf = true ∧ (Lit.int .i64 r).wf = true := by
  obtain ⟨y0, y1, y2, k, hx, _, h0, h1, h2⟩ := Go.Deep.trod_struct3 Try.underlying35 hf
  simp only [Try.cellsTurnK, Try.cellsClockK, Try.cellsIntK, List.drop_zero, List.drop_succ_cons, List.take_succ_cons, List.take_zero] at h0 h1 h2
  obtain ⟨h, e0, rfl, wh⟩ := DataW.trod_int Try.underlying3 h0
  obtain ⟨z0, z1, j, hy, _, g0, g1⟩ := trod_struct2 Try.underlying31 h1
  simp only [Try.cellsIntK, List.drop_zero, List.drop_succ_cons, List.take_succ_cons, List.take_zero] at g0 g1
  obtain ⟨n, e1, rfl, wn⟩ := DataW.trod_int Try.underlying3 g0
  obtain ⟨d, e2, rfl, wd⟩ := DataW.trod_int Try.underlying3 g1
  obtain ⟨p, q, s, r, rfl, rfl, rfl, rfl, hz, wp, wq, ws, wr⟩ := trod_clock h2
  simp at e0 e1 e2
  subst e0 e1 e2
  subst hz hy hx
  exact ⟨h, n, d, p, q, s, r, rfl, rfl, rfl, rfl, rfl, rfl, rfl, rfl, wh, wn, wd, wp, wq, ws, wr⟩
set_option maxRecDepth 100000 in
theorem open_desk {r : Reach} {b0 : Nat} {v : Value} {d : DataW H} {p : List MemPlace}
    (hv' : Value.okWide Try.prog w r b0 35 v) (h : DataW.Trod enc Try.prog w base spare held 35 v d p) :
    ∃ h n e p' q s r' : Int, v = dkv h n e p' q s r' ∧ d = deskD h n e p' q s r' ∧ p = [] ∧
      (Lit.int .i64 h).wf = true ∧ (Lit.int .i64 n).wf = true ∧ (Lit.int .i64 e).wf = true ∧ (Lit.int .i64 p').wf = true ∧ (Lit.int .i64 q).wf = true ∧ (Lit.int .i64 s).wf = true ∧ (Lit.int .i64 r').wf = true := by
  obtain ⟨cs, rfl, hsz⟩ := okWide_struct Try.underlying35 hv'
  obtain ⟨c0, c1, c2, c3, c4, c5, c6, rfl⟩ := array7 (hsz.trans Try.cellsDeskK)
  obtain ⟨fuel, hf⟩ := h
  obtain ⟨h, n, e, p', q, s, r', rfl, rfl, rfl, rfl, rfl, rfl, rfl, hx, ws⟩ := trod_desk hf
  simp only [Prod.mk.injEq] at hx
  exact ⟨h, n, e, p', q, s, r', rfl, hx.1, hx.2, ws⟩
set_option maxRecDepth 100000 in
theorem trod_desk_mk {h n d p q s r : Int} (wh : (Lit.int .i64 h).wf = true) (wn : (Lit.int .i64 n).wf = true) (wd : (Lit.int .i64 d).wf = true) (wp : (Lit.int .i64 p).wf = true) (wq : (Lit.int .i64 q).wf = true) (ws : (Lit.int .i64 s).wf = true) (wr : (Lit.int .i64 r).wf = true) :
    DataW.trod enc Try.prog w base spare held 4 35 [.int .i64 h, .int .i64 n, .int .i64 d, .int .i64 p, .int .i64 q, .int .i64 s, .int .i64 r] = some (deskD h n d p q s r, []) := by
  have t0 := trod_struct2_mk (enc := enc) (w := w) (base := base) (spare := spare) (held := held) (n := 2) (cs := [.int .i64 n, .int .i64 d]) (y0 := (.lit (.int .i64 n), [])) (y1 := (.lit (.int .i64 d), [])) Try.underlying31 (by rw [Try.cellsTurnK]; rfl)
    (by simpa [Try.cellsIntK] using trod_int_mk 1 Try.underlying3 wn) (by simpa [Try.cellsIntK] using trod_int_mk 1 Try.underlying3 wd)
  have t2 := trod_clock_mk (enc := enc) (w := w) (base := base) (spare := spare) (held := held) wp wq ws wr
  have t1 := Go.Deep.trod_struct3_mk (enc := enc) (w := w) (base := base) (spare := spare) (held := held) (n := 3) (cs := [.int .i64 h, .int .i64 n, .int .i64 d, .int .i64 p, .int .i64 q, .int .i64 s, .int .i64 r]) (y0 := (.lit (.int .i64 h), [])) (y1 := (.agg [.lit (.int .i64 n), .lit (.int .i64 d)], [])) (y2 := (.agg [.agg [.lit (.int .i64 p), .lit (.int .i64 q)], .lit (.int .i64 s), .lit (.int .i64 r)], [])) Try.underlying35 (by rw [Try.cellsDeskK]; rfl)
    (by simpa [Try.cellsIntK] using trod_int_mk 2 Try.underlying3 wh) (by simpa [Try.cellsTurnK] using t0) (by simpa [Try.cellsClockK] using t2)
  simpa using t1
set_option maxRecDepth 100000 in
theorem shut_desk {h n d p q s r : Int} (wh : (Lit.int .i64 h).wf = true) (wn : (Lit.int .i64 n).wf = true) (wd : (Lit.int .i64 d).wf = true) (wp : (Lit.int .i64 p).wf = true) (wq : (Lit.int .i64 q).wf = true) (ws : (Lit.int .i64 s).wf = true) (wr : (Lit.int .i64 r).wf = true) :
    DataW.Trod enc Try.prog w base spare held 35 (dkv h n d p q s r) (deskD h n d p q s r) [] :=
  ⟨4, trod_desk_mk wh wn wd wp wq ws wr⟩
end
set_option maxHeartbeats 6400000 in
theorem toDesk_any (h n d p q x y : Int) (w : World) :
    Calls Try.prog 9 #[dkv h n d p q x y] w fun e w' => e = .returned (dkv h n d p q x y) ∧ Below w.heap.size w w' := by
  (go_enter Try.func9, Try.ntmps9)
  go_wp2_with fail
  refine (toTurn_any _ _ _).mono ?_
  (rintro e1 w1 ⟨rfl, hb1⟩; obtain ⟨hc1, hf1⟩ := bcell hb1; have hz1 := hb1.size; (try simp only [World.size_alloc, World.size_setCell, World.size_drew] at hz1); have q1 : w.heap.size ≤ w1.heap.size := (by omega); (try have q1_0 : w.heap.size < w1.heap.size := (by omega)); (try have q1_1 : w.heap.size + 1 < w1.heap.size := (by omega)); (try have q1_2 : w.heap.size + 2 < w1.heap.size := (by omega)); (try have q1_3 : w.heap.size + 3 < w1.heap.size := (by omega)))
  go_wp2_with fail
  refine (toClock_any _ _ _ _ _).mono ?_
  (rintro e2 w2 ⟨rfl, hb2⟩; obtain ⟨hc2, hf2⟩ := bcell hb2; have hz2 := hb2.size; (try simp only [World.size_alloc, World.size_setCell, World.size_drew] at hz2); have q2 : w.heap.size ≤ w2.heap.size := (by omega); (try have q2_0 : w.heap.size < w2.heap.size := (by omega)); (try have q2_1 : w.heap.size + 1 < w2.heap.size := (by omega)); (try have q2_2 : w.heap.size + 2 < w2.heap.size := (by omega)); (try have q2_3 : w.heap.size + 3 < w2.heap.size := (by omega)); (try have q2_1_0 : w1.heap.size < w2.heap.size := (by omega)); (try have q2_1_1 : w1.heap.size + 1 < w2.heap.size := (by omega)))
  go_wp2
  (refine bodyPost_ret (by simp [results, Try.results9, go_sem, *]; try rfl) rfl ?_)
  exact ⟨rfl, by (repeat' (first | (with_reducible exact Below.refl _ _) | (with_reducible assumption) | (with_reducible refine Below.alloc ?_ ?_ _) | (with_reducible refine Below.drew ?_) | (with_reducible refine below_drewN ?_ _) | (with_reducible refine Below.setCell ?_ ?_ _) | (with_reducible refine below_call ?_ ?_ (by assumption)) | go_size))⟩
set_option maxHeartbeats 400000 in
theorem eqDesk_self (h n d p q x y : Int) (w : World) :
    Calls Try.prog 7 #[dkv h n d p q x y, dkv h n d p q x y] w fun e w' => e = .returned (.bool true) ∧ Below w.heap.size w w' := by
  (go_enter Try.func7, Try.ntmps7)
  go_wp2_with fail
  refine (eqTurn_self _ _ _).mono ?_
  (rintro e1 w1 ⟨rfl, hb1⟩; obtain ⟨hc1, hf1⟩ := bcell hb1; have hz1 := hb1.size; (try simp only [World.size_alloc, World.size_setCell, World.size_drew] at hz1); have q1 : w.heap.size ≤ w1.heap.size := (by omega); (try have q1_0 : w.heap.size < w1.heap.size := (by omega)); (try have q1_1 : w.heap.size + 1 < w1.heap.size := (by omega)); (try have q1_2 : w.heap.size + 2 < w1.heap.size := (by omega)); (try have q1_3 : w.heap.size + 3 < w1.heap.size := (by omega)))
  go_wp2_with fail
  refine (eqClock_self _ _ _ _ _).mono ?_
  (rintro e2 w2 ⟨rfl, hb2⟩; obtain ⟨hc2, hf2⟩ := bcell hb2; have hz2 := hb2.size; (try simp only [World.size_alloc, World.size_setCell, World.size_drew] at hz2); have q2 : w.heap.size ≤ w2.heap.size := (by omega); (try have q2_0 : w.heap.size < w2.heap.size := (by omega)); (try have q2_1 : w.heap.size + 1 < w2.heap.size := (by omega)); (try have q2_2 : w.heap.size + 2 < w2.heap.size := (by omega)); (try have q2_3 : w.heap.size + 3 < w2.heap.size := (by omega)); (try have q2_1_0 : w1.heap.size < w2.heap.size := (by omega)); (try have q2_1_1 : w1.heap.size + 1 < w2.heap.size := (by omega)))
  go_wp2
  (refine bodyPost_ret (by simp [results, Try.results7, go_sem, *]; try rfl) rfl ?_)
  exact ⟨rfl, by (repeat' (first | (with_reducible exact Below.refl _ _) | (with_reducible assumption) | (with_reducible refine Below.alloc ?_ ?_ _) | (with_reducible refine Below.drew ?_) | (with_reducible refine below_drewN ?_ _) | (with_reducible refine Below.setCell ?_ ?_ _) | (with_reducible refine below_call ?_ ?_ (by assumption)) | go_size))⟩
end Go.Proofs.Ytfddlmnfkmiomaa
