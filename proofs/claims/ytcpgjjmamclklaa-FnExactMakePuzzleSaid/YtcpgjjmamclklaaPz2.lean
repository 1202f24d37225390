/- Puzzles: the door: a clue that is none is raised, and recovered. -/
import Derived.Test.YtcpgjjmamclklaaPz1
import Derived.Tactics2
import Derived.Defers
import Derived.Recover
import Derived.Laws.Pointers
set_option linter.unusedSimpArgs false
set_option linter.unusedVariables false
set_option maxRecDepth 100000
namespace Go.Proofs.Ytcpgjjmamclklaa
open Go.RowKit

set_option maxHeartbeats 400000 in
theorem mustBe_yes (k a b h : Int) (hh : 2 ≤ h ∧ h ≤ 24) (hc : okC h (k, a, b) = true) (w : World) :
    Calls Try.prog 104 #[.int .i64 h, kv k a b] w fun e w' => e = .returned (kv k a b) ∧ Below w.heap.size w w' := by
  (go_enter Try.func104, Try.ntmps104)
  go_wp2_with fail
  refine (partsOf_any k a b _).mono ?_
  (rintro e1 w1 ⟨rfl, hb1⟩; obtain ⟨hc1, hf1⟩ := bcell hb1; have hz1 := hb1.size; (try simp only [World.size_alloc, World.size_setCell, World.size_drew] at hz1); have q1 : w.heap.size ≤ w1.heap.size := (by omega); (try have q1_0 : w.heap.size < w1.heap.size := (by omega)); (try have q1_1 : w.heap.size + 1 < w1.heap.size := (by omega)); (try have q1_2 : w.heap.size + 2 < w1.heap.size := (by omega)); (try have q1_3 : w.heap.size + 3 < w1.heap.size := (by omega)))
  go_wp2_with fail
  refine (areOf_is k a b h hh hc _).mono ?_
  (rintro e2 w2 ⟨rfl, hb2⟩; obtain ⟨hc2, hf2⟩ := bcell hb2; have hz2 := hb2.size; (try simp only [World.size_alloc, World.size_setCell, World.size_drew] at hz2); have q2 : w.heap.size ≤ w2.heap.size := (by omega); (try have q2_0 : w.heap.size < w2.heap.size := (by omega)); (try have q2_1 : w.heap.size + 1 < w2.heap.size := (by omega)); (try have q2_2 : w.heap.size + 2 < w2.heap.size := (by omega)); (try have q2_3 : w.heap.size + 3 < w2.heap.size := (by omega)); (try have q2_1_0 : w1.heap.size < w2.heap.size := (by omega)); (try have q2_1_1 : w1.heap.size + 1 < w2.heap.size := (by omega)))
  go_wp2
  (refine bodyPost_ret (by simp [results, Try.results104, go_sem, *]; try rfl) rfl ?_)
  exact ⟨rfl, by (repeat' (first | (with_reducible exact Below.refl _ _) | (with_reducible assumption) | (with_reducible refine Below.alloc ?_ ?_ _) | (with_reducible refine Below.drew ?_) | (with_reducible refine below_drewN ?_ _) | (with_reducible refine Below.setCell ?_ ?_ _) | (with_reducible refine below_call ?_ ?_ (by assumption)) | go_size))⟩
set_option maxHeartbeats 400000 in
theorem mustBe_no (k a b h : Int) (hh : 2 ≤ h ∧ h ≤ 24) (hc : okC h (k, a, b) = false) (w : World) :
    Calls Try.prog 104 #[.int .i64 h, kv k a b] w fun e w' => e = .panicked [{ v := .iface 108 (kv k a b), recovered := false }] ∧ Below w.heap.size w w' := by
  (go_enter Try.func104, Try.ntmps104)
  go_wp2_with fail
  refine (partsOf_any k a b _).mono ?_
  (rintro e1 w1 ⟨rfl, hb1⟩; obtain ⟨hc1, hf1⟩ := bcell hb1; have hz1 := hb1.size; (try simp only [World.size_alloc, World.size_setCell, World.size_drew] at hz1); have q1 : w.heap.size ≤ w1.heap.size := (by omega); (try have q1_0 : w.heap.size < w1.heap.size := (by omega)); (try have q1_1 : w.heap.size + 1 < w1.heap.size := (by omega)); (try have q1_2 : w.heap.size + 2 < w1.heap.size := (by omega)); (try have q1_3 : w.heap.size + 3 < w1.heap.size := (by omega)))
  go_wp2_with fail
  refine (areOf_is k a b h hh hc _).mono ?_
  (rintro e2 w2 ⟨rfl, hb2⟩; obtain ⟨hc2, hf2⟩ := bcell hb2; have hz2 := hb2.size; (try simp only [World.size_alloc, World.size_setCell, World.size_drew] at hz2); have q2 : w.heap.size ≤ w2.heap.size := (by omega); (try have q2_0 : w.heap.size < w2.heap.size := (by omega)); (try have q2_1 : w.heap.size + 1 < w2.heap.size := (by omega)); (try have q2_2 : w.heap.size + 2 < w2.heap.size := (by omega)); (try have q2_3 : w.heap.size + 3 < w2.heap.size := (by omega)); (try have q2_1_0 : w1.heap.size < w2.heap.size := (by omega)); (try have q2_1_1 : w1.heap.size + 1 < w2.heap.size := (by omega)))
  go_wp2
  exact ⟨rfl, rfl, by (repeat' (first | (with_reducible exact Below.refl _ _) | (with_reducible assumption) | (with_reducible refine Below.alloc ?_ ?_ _) | (with_reducible refine Below.drew ?_) | (with_reducible refine below_drewN ?_ _) | (with_reducible refine Below.setCell ?_ ?_ _) | (with_reducible refine below_call ?_ ?_ (by assumption)) | go_size))⟩
theorem Try.assertNone (w : World) : (Instr.typeAssert .nilIface 20 108 true).run Try.prog w = .ok (.tuple #[kv 0 0 0, .bool false]) w := by kernel_rfl
theorem Try.assertSome (v : Value) (w : World) : (Instr.typeAssert (.iface 108 v) 20 108 true).run Try.prog w = .ok (.tuple #[v, .bool true]) w := by kernel_rfl
set_option maxHeartbeats 1600000 in
/-- The deferred closure where nothing was raised. -/
theorem catch_idle (p q : Addr) (w : World) :
    CallsD Try.prog 103 #[.pointer (some p), .pointer (some q)] .returning w fun e u' w' => e = .returned (.tuple #[]) ∧ u' = .returning ∧ w' = w.alloc (.cells #[.int .i64 0, .int .i64 0, .int .i64 0] 108) := by
  refine callsD_of_wpS Try.func103 rfl fun c₀ cs hu => ?_
  apply wpS_seq
  apply wpS_region
  simp [wpOpsS, go_sem, recoverD, hu, Try.ntmps103, Exit.thenS, Try.assertNone]
  apply wpS_seq
  apply wpS_region
  simp [wpOpsS, go_sem, Exit.thenS]
  refine wpS_cond (t := false) (by simp [Act.eval, Array.replicate]) ?_
  simp only [Bool.false_eq_true, if_false]
  refine wpS_of_wp (wp_skip ?_)
  cases c₀
  simp_all [bodyPostS, results, Try.results103]
set_option maxHeartbeats 1600000 in
/-- The deferred closure where a clue that is none was raised. -/
theorem catch_raised (bp bq : Nat) (k a b : Int) (older : List PanicEntry) (w : World) {x y : Value} {z : Bool} (hp : w.cell? ⟨bp, 0, none⟩ = some x) (hp1 : w.cell? ⟨bp, 1, none⟩ = some y) (hq : w.cell? ⟨bq, 0, none⟩ = some (.bool z))
    (zp : w.frozen? ⟨bp, 0, none⟩ = false) (zp1 : w.frozen? ⟨bp, 1, none⟩ = false) (zq : w.frozen? ⟨bq, 0, none⟩ = false) (lp : bp < w.heap.size) (lq : bq < w.heap.size) (hne : ¬ bp = bq) :
    CallsD Try.prog 103 #[.pointer (some ⟨bp, 0, none⟩), .pointer (some ⟨bq, 0, none⟩)] (.panicking ({ v := .iface 108 (kv k a b), recovered := false } :: older)) w fun e u' w' =>
      e = .returned (.tuple #[]) ∧ u' = .panicking ({ v := .iface 108 (kv k a b), recovered := true } :: older) ∧
      w' = (((w.setCell ⟨bp, 0, none⟩ (.int .i64 0)).setCell ⟨bp, 1, none⟩ (.slice none 0 0)).setCell ⟨bq, 0, none⟩ (.bool false)).alloc (.cells #[.int .i64 k, .int .i64 a, .int .i64 b] 108) := by
  refine callsD_of_wpS Try.func103 rfl fun c₀ cs hu => ?_
  apply wpS_seq
  apply wpS_region
  simp [wpOpsS, go_sem, recoverD, hu, Try.ntmps103, Exit.thenS, Try.assertSome]
  apply wpS_seq
  apply wpS_region
  simp [wpOpsS, go_sem, Exit.thenS]
  refine wpS_cond (t := true) (by simp [Act.eval, Array.replicate]) ?_
  simp only [if_true]
  apply wpS_region
  have hne' : ¬ bq = bp := fun e => hne e.symm
  simp [wpOpsS, go_sem, hp, hp1, hq, zp, zp1, zq, lp, lq, hne, hne', bodyPostS, results, Try.results103]
end Go.Proofs.Ytcpgjjmamclklaa
