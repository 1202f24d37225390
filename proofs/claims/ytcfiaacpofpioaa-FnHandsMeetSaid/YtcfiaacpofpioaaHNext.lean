/- The draw of the law FnHandsMeet: two hands, and a time. -/
import Derived.Test.YtcfiaacpofpioaaHCur
import Derived.Deep.DeepCutAuto
import Derived.Test.YtcfiaacpofpioaaMtT
import Derived.Test.YtcfiaacpofpioaaOrder
import Derived.Test.YtcfiaacpofpioaaPivot
set_option linter.unusedSimpArgs false
set_option linter.unusedVariables false
set_option maxRecDepth 100000
namespace Go.Proofs.Ytcfiaacpofpioaa
open Go.RowKit
attribute [local go_sem ↓] Go.wp_at_zero Go.wp_at_succ

theorem wpOp_store {P : Program} {ops : Array Oper} {Q : Exit → Act → World → Prop} {K : Act → World → Prop} {i : Nat} {o : Oper} {a : Act} {w w' : World} (hi : ops[i]? = some o) (hw : Region.wanted o (yielded ops a.tmps) = true) (hr : (execOp a.eval o).run P w = .ok .skip w') (hK : K (a.put o.dst undef) w') : wpOp P ops Q i K a w := by
  refine wpOp_wp hi hw ?_
  unfold Oper.wp
  rw [hr]
  exact hK
set_option maxHeartbeats 6400000 in
theorem DrawNextMeet_any (L : List Int) (a : Option Addr) (n cp : Nat) (hn : L.length = n) (hm : n ≤ 1048576) (w : World) (hB : BIn w a L) :
    Calls Try.prog 25 #[.slice a n cp] w fun e w' => ∃ n0 d0 z0 n1 d1 z1 n2 d2, e = .returned (.tuple #[.agg #[.int .i64 n0, .int .i64 d0, .int .i64 z0], .agg #[.int .i64 n1, .int .i64 d1, .int .i64 z1], .agg #[.int .i64 n2, .int .i64 d2]]) ∧ (I64 n0 ∧ I64 d0 ∧ I64 z0 ∧ I64 n1 ∧ I64 d1 ∧ I64 z1 ∧ I64 n2 ∧ I64 d2) ∧ Below w.heap.size w w' := by
  have hs : (((w.alloc (Obj.cells #[.int .i64 0, .int .i64 0, .int .i64 0] 27)).alloc (Obj.cells #[.int .i64 0, .int .i64 0, .int .i64 0] 27)).alloc (Obj.cells #[.int .i64 0, .int .i64 0] 25)).heap.size = w.heap.size + 1 + 1 + 1 := by simp
  have hO : CurOK L a n (((w.alloc (Obj.cells #[.int .i64 0, .int .i64 0, .int .i64 0] 27)).alloc (Obj.cells #[.int .i64 0, .int .i64 0, .int .i64 0] 27)).alloc (Obj.cells #[.int .i64 0, .int .i64 0] 25)) (w.heap.size + 1 + 1 + 1) := ⟨hn, by rw [hs]; exact Nat.le_refl _, hm, hB.below (by (repeat' (first | (with_reducible exact Below.refl _ _) | (with_reducible assumption) | (with_reducible refine Below.alloc ?_ ?_ _) | (with_reducible refine Below.drew ?_) | (with_reducible refine below_drewN ?_ _) | (with_reducible refine Below.setCell ?_ ?_ _) | (with_reducible refine below_call ?_ ?_ (by assumption)) | go_size)))⟩
  have h0 := Cur.start (((w.alloc (Obj.cells #[.int .i64 0, .int .i64 0, .int .i64 0] 27)).alloc (Obj.cells #[.int .i64 0, .int .i64 0, .int .i64 0] 27)).alloc (Obj.cells #[.int .i64 0, .int .i64 0] 25)) a n cp
  rw [hs] at h0
  have HC0 := Lib.hid h0
  clear hn hm hB h0 hs
  (go_enter Try.func25, Try.ntmps25)
  go_wp2_with fail
  refine (hand_any L a n cp (((w.alloc (Obj.cells #[.int .i64 0, .int .i64 0, .int .i64 0] 27)).alloc (Obj.cells #[.int .i64 0, .int .i64 0, .int .i64 0] 27)).alloc (Obj.cells #[.int .i64 0, .int .i64 0] 25)) (w.heap.size + 1 + 1 + 1) 0 hO (by omega) _ HC0.out).mono ?_
  rintro e1 w1 ⟨n0, d0, z0, rfl, ⟨kn0, kd0, kz0⟩, hC1, hg1⟩
  have hz1 := hg1.size
  try simp only [World.size_alloc] at hz1
  have HC1 := Lib.hid hC1
  have r1_0_0 : w1.cell? ⟨w.heap.size, 0, none⟩ = some (.int .i64 0) := (World.grownBy.cell_far hg1 ⟨w.heap.size, 0, none⟩ (by first | (simp; done) | (simp; omega) | (show _ < _; simp only; omega)) (fun e => by simp only [Option.some.injEq] at e; omega)).trans (by go_simp)
  have z1_0_0 : w1.frozen? ⟨w.heap.size, 0, none⟩ = false := (World.grownBy.frozen_far hg1 ⟨w.heap.size, 0, none⟩ (by first | (simp; done) | (simp; omega) | (show _ < _; simp only; omega)) (fun e => by simp only [Option.some.injEq] at e; omega)).trans (by go_simp)
  have r1_0_1 : w1.cell? ⟨w.heap.size, 1, none⟩ = some (.int .i64 0) := (World.grownBy.cell_far hg1 ⟨w.heap.size, 1, none⟩ (by first | (simp; done) | (simp; omega) | (show _ < _; simp only; omega)) (fun e => by simp only [Option.some.injEq] at e; omega)).trans (by go_simp)
  have z1_0_1 : w1.frozen? ⟨w.heap.size, 1, none⟩ = false := (World.grownBy.frozen_far hg1 ⟨w.heap.size, 1, none⟩ (by first | (simp; done) | (simp; omega) | (show _ < _; simp only; omega)) (fun e => by simp only [Option.some.injEq] at e; omega)).trans (by go_simp)
  have r1_0_2 : w1.cell? ⟨w.heap.size, 2, none⟩ = some (.int .i64 0) := (World.grownBy.cell_far hg1 ⟨w.heap.size, 2, none⟩ (by first | (simp; done) | (simp; omega) | (show _ < _; simp only; omega)) (fun e => by simp only [Option.some.injEq] at e; omega)).trans (by go_simp)
  have z1_0_2 : w1.frozen? ⟨w.heap.size, 2, none⟩ = false := (World.grownBy.frozen_far hg1 ⟨w.heap.size, 2, none⟩ (by first | (simp; done) | (simp; omega) | (show _ < _; simp only; omega)) (fun e => by simp only [Option.some.injEq] at e; omega)).trans (by go_simp)
  have r1_1_0 : w1.cell? ⟨w.heap.size + 1, 0, none⟩ = some (.int .i64 0) := (World.grownBy.cell_far hg1 ⟨w.heap.size + 1, 0, none⟩ (by first | (simp; done) | (simp; omega) | (show _ < _; simp only; omega)) (fun e => by simp only [Option.some.injEq] at e; omega)).trans (by go_simp)
  have z1_1_0 : w1.frozen? ⟨w.heap.size + 1, 0, none⟩ = false := (World.grownBy.frozen_far hg1 ⟨w.heap.size + 1, 0, none⟩ (by first | (simp; done) | (simp; omega) | (show _ < _; simp only; omega)) (fun e => by simp only [Option.some.injEq] at e; omega)).trans (by go_simp)
  have r1_1_1 : w1.cell? ⟨w.heap.size + 1, 1, none⟩ = some (.int .i64 0) := (World.grownBy.cell_far hg1 ⟨w.heap.size + 1, 1, none⟩ (by first | (simp; done) | (simp; omega) | (show _ < _; simp only; omega)) (fun e => by simp only [Option.some.injEq] at e; omega)).trans (by go_simp)
  have z1_1_1 : w1.frozen? ⟨w.heap.size + 1, 1, none⟩ = false := (World.grownBy.frozen_far hg1 ⟨w.heap.size + 1, 1, none⟩ (by first | (simp; done) | (simp; omega) | (show _ < _; simp only; omega)) (fun e => by simp only [Option.some.injEq] at e; omega)).trans (by go_simp)
  have r1_1_2 : w1.cell? ⟨w.heap.size + 1, 2, none⟩ = some (.int .i64 0) := (World.grownBy.cell_far hg1 ⟨w.heap.size + 1, 2, none⟩ (by first | (simp; done) | (simp; omega) | (show _ < _; simp only; omega)) (fun e => by simp only [Option.some.injEq] at e; omega)).trans (by go_simp)
  have z1_1_2 : w1.frozen? ⟨w.heap.size + 1, 2, none⟩ = false := (World.grownBy.frozen_far hg1 ⟨w.heap.size + 1, 2, none⟩ (by first | (simp; done) | (simp; omega) | (show _ < _; simp only; omega)) (fun e => by simp only [Option.some.injEq] at e; omega)).trans (by go_simp)
  have r1_2_0 : w1.cell? ⟨w.heap.size + 1 + 1, 0, none⟩ = some (.int .i64 0) := (World.grownBy.cell_far hg1 ⟨w.heap.size + 1 + 1, 0, none⟩ (by first | (simp; done) | (simp; omega) | (show _ < _; simp only; omega)) (fun e => by simp only [Option.some.injEq] at e; omega)).trans (by go_simp)
  have z1_2_0 : w1.frozen? ⟨w.heap.size + 1 + 1, 0, none⟩ = false := (World.grownBy.frozen_far hg1 ⟨w.heap.size + 1 + 1, 0, none⟩ (by first | (simp; done) | (simp; omega) | (show _ < _; simp only; omega)) (fun e => by simp only [Option.some.injEq] at e; omega)).trans (by go_simp)
  have r1_2_1 : w1.cell? ⟨w.heap.size + 1 + 1, 1, none⟩ = some (.int .i64 0) := (World.grownBy.cell_far hg1 ⟨w.heap.size + 1 + 1, 1, none⟩ (by first | (simp; done) | (simp; omega) | (show _ < _; simp only; omega)) (fun e => by simp only [Option.some.injEq] at e; omega)).trans (by go_simp)
  have z1_2_1 : w1.frozen? ⟨w.heap.size + 1 + 1, 1, none⟩ = false := (World.grownBy.frozen_far hg1 ⟨w.heap.size + 1 + 1, 1, none⟩ (by first | (simp; done) | (simp; omega) | (show _ < _; simp only; omega)) (fun e => by simp only [Option.some.injEq] at e; omega)).trans (by go_simp)
  have hb1 := Cur.same hC1
  clear hC1 hg1
  go_wp2_with fail
  refine (hand_any L a n cp (((w.alloc (Obj.cells #[.int .i64 0, .int .i64 0, .int .i64 0] 27)).alloc (Obj.cells #[.int .i64 0, .int .i64 0, .int .i64 0] 27)).alloc (Obj.cells #[.int .i64 0, .int .i64 0] 25)) (w.heap.size + 1 + 1 + 1) 20 hO (by omega) _ HC1.out).mono ?_
  rintro e2 w2 ⟨n1, d1, z1, rfl, ⟨kn1, kd1, kz1⟩, hC2, hg2⟩
  have hz2 := hg2.size
  try simp only [World.size_alloc] at hz2
  have HC2 := Lib.hid hC2
  have r2_0_0 : w2.cell? ⟨w.heap.size, 0, none⟩ = some (.int .i64 0) := (World.grownBy.cell_far hg2 ⟨w.heap.size, 0, none⟩ (by first | (simp; done) | (simp; omega) | (show _ < _; simp only; omega)) (fun e => by simp only [Option.some.injEq] at e; omega)).trans (r1_0_0)
  have z2_0_0 : w2.frozen? ⟨w.heap.size, 0, none⟩ = false := (World.grownBy.frozen_far hg2 ⟨w.heap.size, 0, none⟩ (by first | (simp; done) | (simp; omega) | (show _ < _; simp only; omega)) (fun e => by simp only [Option.some.injEq] at e; omega)).trans (z1_0_0)
  have r2_0_1 : w2.cell? ⟨w.heap.size, 1, none⟩ = some (.int .i64 0) := (World.grownBy.cell_far hg2 ⟨w.heap.size, 1, none⟩ (by first | (simp; done) | (simp; omega) | (show _ < _; simp only; omega)) (fun e => by simp only [Option.some.injEq] at e; omega)).trans (r1_0_1)
  have z2_0_1 : w2.frozen? ⟨w.heap.size, 1, none⟩ = false := (World.grownBy.frozen_far hg2 ⟨w.heap.size, 1, none⟩ (by first | (simp; done) | (simp; omega) | (show _ < _; simp only; omega)) (fun e => by simp only [Option.some.injEq] at e; omega)).trans (z1_0_1)
  have r2_0_2 : w2.cell? ⟨w.heap.size, 2, none⟩ = some (.int .i64 0) := (World.grownBy.cell_far hg2 ⟨w.heap.size, 2, none⟩ (by first | (simp; done) | (simp; omega) | (show _ < _; simp only; omega)) (fun e => by simp only [Option.some.injEq] at e; omega)).trans (r1_0_2)
  have z2_0_2 : w2.frozen? ⟨w.heap.size, 2, none⟩ = false := (World.grownBy.frozen_far hg2 ⟨w.heap.size, 2, none⟩ (by first | (simp; done) | (simp; omega) | (show _ < _; simp only; omega)) (fun e => by simp only [Option.some.injEq] at e; omega)).trans (z1_0_2)
  have r2_1_0 : w2.cell? ⟨w.heap.size + 1, 0, none⟩ = some (.int .i64 0) := (World.grownBy.cell_far hg2 ⟨w.heap.size + 1, 0, none⟩ (by first | (simp; done) | (simp; omega) | (show _ < _; simp only; omega)) (fun e => by simp only [Option.some.injEq] at e; omega)).trans (r1_1_0)
  have z2_1_0 : w2.frozen? ⟨w.heap.size + 1, 0, none⟩ = false := (World.grownBy.frozen_far hg2 ⟨w.heap.size + 1, 0, none⟩ (by first | (simp; done) | (simp; omega) | (show _ < _; simp only; omega)) (fun e => by simp only [Option.some.injEq] at e; omega)).trans (z1_1_0)
  have r2_1_1 : w2.cell? ⟨w.heap.size + 1, 1, none⟩ = some (.int .i64 0) := (World.grownBy.cell_far hg2 ⟨w.heap.size + 1, 1, none⟩ (by first | (simp; done) | (simp; omega) | (show _ < _; simp only; omega)) (fun e => by simp only [Option.some.injEq] at e; omega)).trans (r1_1_1)
  have z2_1_1 : w2.frozen? ⟨w.heap.size + 1, 1, none⟩ = false := (World.grownBy.frozen_far hg2 ⟨w.heap.size + 1, 1, none⟩ (by first | (simp; done) | (simp; omega) | (show _ < _; simp only; omega)) (fun e => by simp only [Option.some.injEq] at e; omega)).trans (z1_1_1)
  have r2_1_2 : w2.cell? ⟨w.heap.size + 1, 2, none⟩ = some (.int .i64 0) := (World.grownBy.cell_far hg2 ⟨w.heap.size + 1, 2, none⟩ (by first | (simp; done) | (simp; omega) | (show _ < _; simp only; omega)) (fun e => by simp only [Option.some.injEq] at e; omega)).trans (r1_1_2)
  have z2_1_2 : w2.frozen? ⟨w.heap.size + 1, 2, none⟩ = false := (World.grownBy.frozen_far hg2 ⟨w.heap.size + 1, 2, none⟩ (by first | (simp; done) | (simp; omega) | (show _ < _; simp only; omega)) (fun e => by simp only [Option.some.injEq] at e; omega)).trans (z1_1_2)
  have r2_2_0 : w2.cell? ⟨w.heap.size + 1 + 1, 0, none⟩ = some (.int .i64 0) := (World.grownBy.cell_far hg2 ⟨w.heap.size + 1 + 1, 0, none⟩ (by first | (simp; done) | (simp; omega) | (show _ < _; simp only; omega)) (fun e => by simp only [Option.some.injEq] at e; omega)).trans (r1_2_0)
  have z2_2_0 : w2.frozen? ⟨w.heap.size + 1 + 1, 0, none⟩ = false := (World.grownBy.frozen_far hg2 ⟨w.heap.size + 1 + 1, 0, none⟩ (by first | (simp; done) | (simp; omega) | (show _ < _; simp only; omega)) (fun e => by simp only [Option.some.injEq] at e; omega)).trans (z1_2_0)
  have r2_2_1 : w2.cell? ⟨w.heap.size + 1 + 1, 1, none⟩ = some (.int .i64 0) := (World.grownBy.cell_far hg2 ⟨w.heap.size + 1 + 1, 1, none⟩ (by first | (simp; done) | (simp; omega) | (show _ < _; simp only; omega)) (fun e => by simp only [Option.some.injEq] at e; omega)).trans (r1_2_1)
  have z2_2_1 : w2.frozen? ⟨w.heap.size + 1 + 1, 1, none⟩ = false := (World.grownBy.frozen_far hg2 ⟨w.heap.size + 1 + 1, 1, none⟩ (by first | (simp; done) | (simp; omega) | (show _ < _; simp only; omega)) (fun e => by simp only [Option.some.injEq] at e; omega)).trans (z1_2_1)
  clear r1_0_0 z1_0_0 r1_0_1 z1_0_1 r1_0_2 z1_0_2 r1_1_0 z1_1_0 r1_1_1 z1_1_1 r1_1_2 z1_1_2 r1_2_0 z1_2_0 r1_2_1 z1_2_1
  have hb2 := Cur.same hC2
  clear hC2 hg2
  go_upto_region 3 with fail
  have hb3 : Below w2.heap.size w2 ((w2.alloc (Obj.cells #[.int .i64 n0, .int .i64 d0, .int .i64 z0] 27)).alloc (Obj.cells #[.int .i64 n1, .int .i64 d1, .int .i64 z1] 27)) := by (repeat' (first | (with_reducible exact Below.refl _ _) | (with_reducible assumption) | (with_reducible refine Below.alloc ?_ ?_ _) | (with_reducible refine Below.drew ?_) | (with_reducible refine below_drewN ?_ _) | (with_reducible refine Below.setCell ?_ ?_ _) | (with_reducible refine below_call ?_ ?_ (by assumption)) | go_size))
  obtain ⟨hc3, hf3⟩ := bcell hb3
  have hz3 : ((w2.alloc (Obj.cells #[.int .i64 n0, .int .i64 d0, .int .i64 z0] 27)).alloc (Obj.cells #[.int .i64 n1, .int .i64 d1, .int .i64 z1] 27)).heap.size = w2.heap.size + 1 + 1 := by simp
  have t3_va_0 : ((w2.alloc (Obj.cells #[.int .i64 n0, .int .i64 d0, .int .i64 z0] 27)).alloc (Obj.cells #[.int .i64 n1, .int .i64 d1, .int .i64 z1] 27)).cell? ⟨w2.heap.size, 0, none⟩ = some (.int .i64 n0) := by go_simp
  have t3_va_1 : ((w2.alloc (Obj.cells #[.int .i64 n0, .int .i64 d0, .int .i64 z0] 27)).alloc (Obj.cells #[.int .i64 n1, .int .i64 d1, .int .i64 z1] 27)).cell? ⟨w2.heap.size, 1, none⟩ = some (.int .i64 d0) := by go_simp
  have t3_va_2 : ((w2.alloc (Obj.cells #[.int .i64 n0, .int .i64 d0, .int .i64 z0] 27)).alloc (Obj.cells #[.int .i64 n1, .int .i64 d1, .int .i64 z1] 27)).cell? ⟨w2.heap.size, 2, none⟩ = some (.int .i64 z0) := by go_simp
  have t3_vb_0 : ((w2.alloc (Obj.cells #[.int .i64 n0, .int .i64 d0, .int .i64 z0] 27)).alloc (Obj.cells #[.int .i64 n1, .int .i64 d1, .int .i64 z1] 27)).cell? ⟨w2.heap.size + 1, 0, none⟩ = some (.int .i64 n1) := by go_simp
  have t3_vb_1 : ((w2.alloc (Obj.cells #[.int .i64 n0, .int .i64 d0, .int .i64 z0] 27)).alloc (Obj.cells #[.int .i64 n1, .int .i64 d1, .int .i64 z1] 27)).cell? ⟨w2.heap.size + 1, 1, none⟩ = some (.int .i64 d1) := by go_simp
  have t3_vb_2 : ((w2.alloc (Obj.cells #[.int .i64 n0, .int .i64 d0, .int .i64 z0] 27)).alloc (Obj.cells #[.int .i64 n1, .int .i64 d1, .int .i64 z1] 27)).cell? ⟨w2.heap.size + 1, 2, none⟩ = some (.int .i64 z1) := by go_simp
  generalize hW3 : ((w2.alloc (Obj.cells #[.int .i64 n0, .int .i64 d0, .int .i64 z0] 27)).alloc (Obj.cells #[.int .i64 n1, .int .i64 d1, .int .i64 z1] 27)) = w3 at *
  have r3_0_0 : w3.cell? ⟨w.heap.size, 0, none⟩ = some (.int .i64 0) := (hc3 _ _ (by omega)).trans r2_0_0
  have z3_0_0 : w3.frozen? ⟨w.heap.size, 0, none⟩ = false := (hf3 _ _ (by omega)).trans z2_0_0
  have r3_0_1 : w3.cell? ⟨w.heap.size, 1, none⟩ = some (.int .i64 0) := (hc3 _ _ (by omega)).trans r2_0_1
  have z3_0_1 : w3.frozen? ⟨w.heap.size, 1, none⟩ = false := (hf3 _ _ (by omega)).trans z2_0_1
  have r3_0_2 : w3.cell? ⟨w.heap.size, 2, none⟩ = some (.int .i64 0) := (hc3 _ _ (by omega)).trans r2_0_2
  have z3_0_2 : w3.frozen? ⟨w.heap.size, 2, none⟩ = false := (hf3 _ _ (by omega)).trans z2_0_2
  have r3_1_0 : w3.cell? ⟨w.heap.size + 1, 0, none⟩ = some (.int .i64 0) := (hc3 _ _ (by omega)).trans r2_1_0
  have z3_1_0 : w3.frozen? ⟨w.heap.size + 1, 0, none⟩ = false := (hf3 _ _ (by omega)).trans z2_1_0
  have r3_1_1 : w3.cell? ⟨w.heap.size + 1, 1, none⟩ = some (.int .i64 0) := (hc3 _ _ (by omega)).trans r2_1_1
  have z3_1_1 : w3.frozen? ⟨w.heap.size + 1, 1, none⟩ = false := (hf3 _ _ (by omega)).trans z2_1_1
  have r3_1_2 : w3.cell? ⟨w.heap.size + 1, 2, none⟩ = some (.int .i64 0) := (hc3 _ _ (by omega)).trans r2_1_2
  have z3_1_2 : w3.frozen? ⟨w.heap.size + 1, 2, none⟩ = false := (hf3 _ _ (by omega)).trans z2_1_2
  have r3_2_0 : w3.cell? ⟨w.heap.size + 1 + 1, 0, none⟩ = some (.int .i64 0) := (hc3 _ _ (by omega)).trans r2_2_0
  have z3_2_0 : w3.frozen? ⟨w.heap.size + 1 + 1, 0, none⟩ = false := (hf3 _ _ (by omega)).trans z2_2_0
  have r3_2_1 : w3.cell? ⟨w.heap.size + 1 + 1, 1, none⟩ = some (.int .i64 0) := (hc3 _ _ (by omega)).trans r2_2_1
  have z3_2_1 : w3.frozen? ⟨w.heap.size + 1 + 1, 1, none⟩ = false := (hf3 _ _ (by omega)).trans z2_2_1
  have hbwW : Below w.heap.size w (((w.alloc (Obj.cells #[.int .i64 0, .int .i64 0, .int .i64 0] 27)).alloc (Obj.cells #[.int .i64 0, .int .i64 0, .int .i64 0] 27)).alloc (Obj.cells #[.int .i64 0, .int .i64 0] 25)) := by (repeat' (first | (with_reducible exact Below.refl _ _) | (with_reducible assumption) | (with_reducible refine Below.alloc ?_ ?_ _) | (with_reducible refine Below.drew ?_) | (with_reducible refine below_drewN ?_ _) | (with_reducible refine Below.setCell ?_ ?_ _) | (with_reducible refine below_call ?_ ?_ (by assumption)) | go_size))
  have hbw3 : Below w.heap.size w w3 := (hbwW.trans (hb2.mono (by omega))).trans (hb3.mono (by omega))
  have HC3 := Lib.hid (Cur.below HC2.out hb3)
  have hz3' : w2.heap.size + 1 + 1 ≤ w3.heap.size := by omega
  have hvaB : w.heap.size + 1 + 1 + 1 < w2.heap.size := by omega
  clear hb3 hc3 hf3 hW3 hb1 hb2 hz3 r2_0_0 z2_0_0 r2_0_1 z2_0_1 r2_0_2 z2_0_2 r2_1_0 z2_1_0 r2_1_1 z2_1_1 r2_1_2 z2_1_2 r2_2_0 z2_2_0 r2_2_1 z2_2_1
  obtain ⟨LL, lo, hLL⟩ : ∃ l o, aheadR n0 d0 z0 n1 d1 z1 0 1 = (l, o) := ⟨_, _, rfl⟩
  have ZM := Lib.hid (fun W => (show Calls Try.prog 10 #[.agg #[.int .i64 n0, .int .i64 d0, .int .i64 z0], .agg #[.int .i64 n1, .int .i64 d1, .int .i64 z1]] W (TurnsOut W LL lo) from by have := specMeetTimes_any n0 d0 z0 n1 d1 z1 kd0 kd1 W; rw [hLL] at this; exact this))
  have FL := Lib.hid (fun (e : lo = true) => ahead_all (by rw [hLL, e] : aheadR n0 d0 z0 n1 d1 z1 0 1 = (LL, true)))
  have HLL := Lib.hid (show LL.length ≤ 1000000 from by have := aheadR_len n0 d0 z0 n1 d1 z1 0 1; rw [hLL] at this; exact this)
  clear hLL
  go_wp2_with fail
  refine (ZM.out _).mono ?_
  rintro e4 w4 ⟨v4, rfl, hr4, hb4⟩
  obtain ⟨pa, pc, rfl, -, -, hcell⟩ := TRow.cells hr4
  have HCELL := Lib.hid hcell
  clear hr4 hcell
  obtain ⟨hc4, hf4⟩ := bcell hb4
  have hz4 := hb4.size
  have r4_0_0 : w4.cell? ⟨w.heap.size, 0, none⟩ = some (.int .i64 0) := (hc4 _ _ (by omega)).trans r3_0_0
  have z4_0_0 : w4.frozen? ⟨w.heap.size, 0, none⟩ = false := (hf4 _ _ (by omega)).trans z3_0_0
  have r4_0_1 : w4.cell? ⟨w.heap.size, 1, none⟩ = some (.int .i64 0) := (hc4 _ _ (by omega)).trans r3_0_1
  have z4_0_1 : w4.frozen? ⟨w.heap.size, 1, none⟩ = false := (hf4 _ _ (by omega)).trans z3_0_1
  have r4_0_2 : w4.cell? ⟨w.heap.size, 2, none⟩ = some (.int .i64 0) := (hc4 _ _ (by omega)).trans r3_0_2
  have z4_0_2 : w4.frozen? ⟨w.heap.size, 2, none⟩ = false := (hf4 _ _ (by omega)).trans z3_0_2
  have r4_1_0 : w4.cell? ⟨w.heap.size + 1, 0, none⟩ = some (.int .i64 0) := (hc4 _ _ (by omega)).trans r3_1_0
  have z4_1_0 : w4.frozen? ⟨w.heap.size + 1, 0, none⟩ = false := (hf4 _ _ (by omega)).trans z3_1_0
  have r4_1_1 : w4.cell? ⟨w.heap.size + 1, 1, none⟩ = some (.int .i64 0) := (hc4 _ _ (by omega)).trans r3_1_1
  have z4_1_1 : w4.frozen? ⟨w.heap.size + 1, 1, none⟩ = false := (hf4 _ _ (by omega)).trans z3_1_1
  have r4_1_2 : w4.cell? ⟨w.heap.size + 1, 2, none⟩ = some (.int .i64 0) := (hc4 _ _ (by omega)).trans r3_1_2
  have z4_1_2 : w4.frozen? ⟨w.heap.size + 1, 2, none⟩ = false := (hf4 _ _ (by omega)).trans z3_1_2
  have r4_2_0 : w4.cell? ⟨w.heap.size + 1 + 1, 0, none⟩ = some (.int .i64 0) := (hc4 _ _ (by omega)).trans r3_2_0
  have z4_2_0 : w4.frozen? ⟨w.heap.size + 1 + 1, 0, none⟩ = false := (hf4 _ _ (by omega)).trans z3_2_0
  have r4_2_1 : w4.cell? ⟨w.heap.size + 1 + 1, 1, none⟩ = some (.int .i64 0) := (hc4 _ _ (by omega)).trans r3_2_1
  have z4_2_1 : w4.frozen? ⟨w.heap.size + 1 + 1, 1, none⟩ = false := (hf4 _ _ (by omega)).trans z3_2_1
  have t4_va_0 : w4.cell? ⟨w2.heap.size, 0, none⟩ = some (.int .i64 n0) := (hc4 _ _ (by omega)).trans t3_va_0
  have t4_va_1 : w4.cell? ⟨w2.heap.size, 1, none⟩ = some (.int .i64 d0) := (hc4 _ _ (by omega)).trans t3_va_1
  have t4_va_2 : w4.cell? ⟨w2.heap.size, 2, none⟩ = some (.int .i64 z0) := (hc4 _ _ (by omega)).trans t3_va_2
  have t4_vb_0 : w4.cell? ⟨w2.heap.size + 1, 0, none⟩ = some (.int .i64 n1) := (hc4 _ _ (by omega)).trans t3_vb_0
  have t4_vb_1 : w4.cell? ⟨w2.heap.size + 1, 1, none⟩ = some (.int .i64 d1) := (hc4 _ _ (by omega)).trans t3_vb_1
  have t4_vb_2 : w4.cell? ⟨w2.heap.size + 1, 2, none⟩ = some (.int .i64 z1) := (hc4 _ _ (by omega)).trans t3_vb_2
  have hbw4 : Below w.heap.size w w4 := hbw3.trans (hb4.mono (by omega))
  have HC4 := Lib.hid (Cur.below HC3.out hb4)
  clear hb4 hc4 hf4 hbw3 r3_0_0 z3_0_0 r3_0_1 z3_0_1 r3_0_2 z3_0_2 r3_1_0 z3_1_0 r3_1_1 z3_1_1 r3_1_2 z3_1_2 r3_2_0 z3_2_0 r3_2_1 z3_2_1 t3_va_0 t3_va_1 t3_va_2 t3_vb_0 t3_vb_1 t3_vb_2
  cases lo with
  | false =>
    go_wp2_with fail
    have hS0 : Below w4.heap.size w4 w4.drew := (Below.refl _ _).drew
    have hSS : (fun W => W.cell? ⟨w2.heap.size, 0, none⟩ = some (.int .i64 n0) ∧ W.cell? ⟨w2.heap.size, 1, none⟩ = some (.int .i64 d0) ∧ W.cell? ⟨w2.heap.size, 2, none⟩ = some (.int .i64 z0) ∧ W.cell? ⟨w2.heap.size + 1, 0, none⟩ = some (.int .i64 n1) ∧ W.cell? ⟨w2.heap.size + 1, 1, none⟩ = some (.int .i64 d1) ∧ W.cell? ⟨w2.heap.size + 1, 2, none⟩ = some (.int .i64 z1)) w4.drew := ⟨t4_va_0, t4_va_1, t4_va_2, t4_vb_0, t4_vb_1, t4_vb_2⟩
    refine wp_region_held (by kernel_rfl) (S := fun W => W.cell? ⟨w2.heap.size, 0, none⟩ = some (.int .i64 n0) ∧ W.cell? ⟨w2.heap.size, 1, none⟩ = some (.int .i64 d0) ∧ W.cell? ⟨w2.heap.size, 2, none⟩ = some (.int .i64 z0) ∧ W.cell? ⟨w2.heap.size + 1, 0, none⟩ = some (.int .i64 n1) ∧ W.cell? ⟨w2.heap.size + 1, 1, none⟩ = some (.int .i64 d1) ∧ W.cell? ⟨w2.heap.size + 1, 2, none⟩ = some (.int .i64 z1)) ?_
    refine take_first (i := 0) (v := .agg #[.int .i64 n0, .int .i64 d0, .int .i64 z0]) _ rfl rfl (by kernel_rfl) (by kernel_rfl) (by kernel_rfl) (fun _ _ _ h => h) (by rfl) ?_ (by assumption) ?_
    · intro wq hq
      obtain ⟨xq0, xq1, xq2, xq3, xq4, xq5⟩ := hq
      go_simp
      try rfl
    try simp only [Act.put, List.setIfInBounds_toArray, List.set_cons_zero, List.set_cons_succ]
    refine take_first (i := 1) (v := .agg #[.int .i64 n1, .int .i64 d1, .int .i64 z1]) _ rfl rfl (by kernel_rfl) (by kernel_rfl) (by kernel_rfl) (fun _ _ _ h => h) (by rfl) ?_ (by assumption) ?_
    · intro wq hq
      obtain ⟨xq0, xq1, xq2, xq3, xq4, xq5⟩ := hq
      go_simp
      try rfl
    try simp only [Act.put, List.setIfInBounds_toArray, List.set_cons_zero, List.set_cons_succ]
    refine take_first (i := 2) (v := .pointer (some ⟨w.heap.size + 1 + 1 + 1, 0, none⟩)) _ rfl rfl (by kernel_rfl) (by kernel_rfl) (by kernel_rfl) (fun _ _ _ h => h) (by rfl) ?_ (by assumption) ?_
    · intro wq hq
      obtain ⟨xq0, xq1, xq2, xq3, xq4, xq5⟩ := hq
      go_simp
      try rfl
    try simp only [Act.put, List.setIfInBounds_toArray, List.set_cons_zero, List.set_cons_succ]
    refine wpAnyH_all (rs := [3]) (by kernel_rfl) (by decide) (List.forall_mem_cons.2 ⟨?_, fun _ h => absurd h List.not_mem_nil⟩)
    refine wpOp_wp rfl rfl (wp_call_at _ rfl (f := 62) (args := #[.pointer (some ⟨w.heap.size + 1 + 1 + 1, 0, none⟩)]) (by go_simp) ((turn_any L a n cp (((w.alloc (Obj.cells #[.int .i64 0, .int .i64 0, .int .i64 0] 27)).alloc (Obj.cells #[.int .i64 0, .int .i64 0, .int .i64 0] 27)).alloc (Obj.cells #[.int .i64 0, .int .i64 0] 25)) (w.heap.size + 1 + 1 + 1) 40 hO (by omega) _ (Cur.below HC4.out hS0)).mono ?_))
    rintro e5 w5 ⟨x, y, rfl, ⟨ix, iy⟩, hC5, hg5⟩
    have hz5 := hg5.size
    try simp only [World.size_drew] at hz5
    have r5_0_0 : w5.cell? ⟨w.heap.size, 0, none⟩ = some (.int .i64 0) := (World.grownBy.cell_far hg5 ⟨w.heap.size, 0, none⟩ (by show _ < _; first | omega | (simp only [World.size_drew]; omega) | (simp only; omega)) (fun e => by simp only [Option.some.injEq] at e; omega)).trans r4_0_0
    have z5_0_0 : w5.frozen? ⟨w.heap.size, 0, none⟩ = false := (World.grownBy.frozen_far hg5 ⟨w.heap.size, 0, none⟩ (by show _ < _; first | omega | (simp only [World.size_drew]; omega) | (simp only; omega)) (fun e => by simp only [Option.some.injEq] at e; omega)).trans z4_0_0
    have r5_0_1 : w5.cell? ⟨w.heap.size, 1, none⟩ = some (.int .i64 0) := (World.grownBy.cell_far hg5 ⟨w.heap.size, 1, none⟩ (by show _ < _; first | omega | (simp only [World.size_drew]; omega) | (simp only; omega)) (fun e => by simp only [Option.some.injEq] at e; omega)).trans r4_0_1
    have z5_0_1 : w5.frozen? ⟨w.heap.size, 1, none⟩ = false := (World.grownBy.frozen_far hg5 ⟨w.heap.size, 1, none⟩ (by show _ < _; first | omega | (simp only [World.size_drew]; omega) | (simp only; omega)) (fun e => by simp only [Option.some.injEq] at e; omega)).trans z4_0_1
    have r5_0_2 : w5.cell? ⟨w.heap.size, 2, none⟩ = some (.int .i64 0) := (World.grownBy.cell_far hg5 ⟨w.heap.size, 2, none⟩ (by show _ < _; first | omega | (simp only [World.size_drew]; omega) | (simp only; omega)) (fun e => by simp only [Option.some.injEq] at e; omega)).trans r4_0_2
    have z5_0_2 : w5.frozen? ⟨w.heap.size, 2, none⟩ = false := (World.grownBy.frozen_far hg5 ⟨w.heap.size, 2, none⟩ (by show _ < _; first | omega | (simp only [World.size_drew]; omega) | (simp only; omega)) (fun e => by simp only [Option.some.injEq] at e; omega)).trans z4_0_2
    have r5_1_0 : w5.cell? ⟨w.heap.size + 1, 0, none⟩ = some (.int .i64 0) := (World.grownBy.cell_far hg5 ⟨w.heap.size + 1, 0, none⟩ (by show _ < _; first | omega | (simp only [World.size_drew]; omega) | (simp only; omega)) (fun e => by simp only [Option.some.injEq] at e; omega)).trans r4_1_0
    have z5_1_0 : w5.frozen? ⟨w.heap.size + 1, 0, none⟩ = false := (World.grownBy.frozen_far hg5 ⟨w.heap.size + 1, 0, none⟩ (by show _ < _; first | omega | (simp only [World.size_drew]; omega) | (simp only; omega)) (fun e => by simp only [Option.some.injEq] at e; omega)).trans z4_1_0
    have r5_1_1 : w5.cell? ⟨w.heap.size + 1, 1, none⟩ = some (.int .i64 0) := (World.grownBy.cell_far hg5 ⟨w.heap.size + 1, 1, none⟩ (by show _ < _; first | omega | (simp only [World.size_drew]; omega) | (simp only; omega)) (fun e => by simp only [Option.some.injEq] at e; omega)).trans r4_1_1
    have z5_1_1 : w5.frozen? ⟨w.heap.size + 1, 1, none⟩ = false := (World.grownBy.frozen_far hg5 ⟨w.heap.size + 1, 1, none⟩ (by show _ < _; first | omega | (simp only [World.size_drew]; omega) | (simp only; omega)) (fun e => by simp only [Option.some.injEq] at e; omega)).trans z4_1_1
    have r5_1_2 : w5.cell? ⟨w.heap.size + 1, 2, none⟩ = some (.int .i64 0) := (World.grownBy.cell_far hg5 ⟨w.heap.size + 1, 2, none⟩ (by show _ < _; first | omega | (simp only [World.size_drew]; omega) | (simp only; omega)) (fun e => by simp only [Option.some.injEq] at e; omega)).trans r4_1_2
    have z5_1_2 : w5.frozen? ⟨w.heap.size + 1, 2, none⟩ = false := (World.grownBy.frozen_far hg5 ⟨w.heap.size + 1, 2, none⟩ (by show _ < _; first | omega | (simp only [World.size_drew]; omega) | (simp only; omega)) (fun e => by simp only [Option.some.injEq] at e; omega)).trans z4_1_2
    have r5_2_0 : w5.cell? ⟨w.heap.size + 1 + 1, 0, none⟩ = some (.int .i64 0) := (World.grownBy.cell_far hg5 ⟨w.heap.size + 1 + 1, 0, none⟩ (by show _ < _; first | omega | (simp only [World.size_drew]; omega) | (simp only; omega)) (fun e => by simp only [Option.some.injEq] at e; omega)).trans r4_2_0
    have z5_2_0 : w5.frozen? ⟨w.heap.size + 1 + 1, 0, none⟩ = false := (World.grownBy.frozen_far hg5 ⟨w.heap.size + 1 + 1, 0, none⟩ (by show _ < _; first | omega | (simp only [World.size_drew]; omega) | (simp only; omega)) (fun e => by simp only [Option.some.injEq] at e; omega)).trans z4_2_0
    have r5_2_1 : w5.cell? ⟨w.heap.size + 1 + 1, 1, none⟩ = some (.int .i64 0) := (World.grownBy.cell_far hg5 ⟨w.heap.size + 1 + 1, 1, none⟩ (by show _ < _; first | omega | (simp only [World.size_drew]; omega) | (simp only; omega)) (fun e => by simp only [Option.some.injEq] at e; omega)).trans r4_2_1
    have z5_2_1 : w5.frozen? ⟨w.heap.size + 1 + 1, 1, none⟩ = false := (World.grownBy.frozen_far hg5 ⟨w.heap.size + 1 + 1, 1, none⟩ (by show _ < _; first | omega | (simp only [World.size_drew]; omega) | (simp only; omega)) (fun e => by simp only [Option.some.injEq] at e; omega)).trans z4_2_1
    have t5_va_0 : w5.cell? ⟨w2.heap.size, 0, none⟩ = some (.int .i64 n0) := (World.grownBy.cell_far hg5 ⟨w2.heap.size, 0, none⟩ (by show _ < _; first | omega | (simp only [World.size_drew]; omega) | (simp only; omega)) (fun e => by simp only [Option.some.injEq] at e; omega)).trans t4_va_0
    have t5_va_1 : w5.cell? ⟨w2.heap.size, 1, none⟩ = some (.int .i64 d0) := (World.grownBy.cell_far hg5 ⟨w2.heap.size, 1, none⟩ (by show _ < _; first | omega | (simp only [World.size_drew]; omega) | (simp only; omega)) (fun e => by simp only [Option.some.injEq] at e; omega)).trans t4_va_1
    have t5_va_2 : w5.cell? ⟨w2.heap.size, 2, none⟩ = some (.int .i64 z0) := (World.grownBy.cell_far hg5 ⟨w2.heap.size, 2, none⟩ (by show _ < _; first | omega | (simp only [World.size_drew]; omega) | (simp only; omega)) (fun e => by simp only [Option.some.injEq] at e; omega)).trans t4_va_2
    have t5_vb_0 : w5.cell? ⟨w2.heap.size + 1, 0, none⟩ = some (.int .i64 n1) := (World.grownBy.cell_far hg5 ⟨w2.heap.size + 1, 0, none⟩ (by show _ < _; first | omega | (simp only [World.size_drew]; omega) | (simp only; omega)) (fun e => by simp only [Option.some.injEq] at e; omega)).trans t4_vb_0
    have t5_vb_1 : w5.cell? ⟨w2.heap.size + 1, 1, none⟩ = some (.int .i64 d1) := (World.grownBy.cell_far hg5 ⟨w2.heap.size + 1, 1, none⟩ (by show _ < _; first | omega | (simp only [World.size_drew]; omega) | (simp only; omega)) (fun e => by simp only [Option.some.injEq] at e; omega)).trans t4_vb_1
    have t5_vb_2 : w5.cell? ⟨w2.heap.size + 1, 2, none⟩ = some (.int .i64 z1) := (World.grownBy.cell_far hg5 ⟨w2.heap.size + 1, 2, none⟩ (by show _ < _; first | omega | (simp only [World.size_drew]; omega) | (simp only; omega)) (fun e => by simp only [Option.some.injEq] at e; omega)).trans t4_vb_2
    have hsame := Cur.same hC5
    have hbw5 : Below w.heap.size w w5 := hbwW.trans (hsame.mono (by omega))
    clear r4_0_0 z4_0_0 r4_0_1 z4_0_1 r4_0_2 z4_0_2 r4_1_0 z4_1_0 r4_1_1 z4_1_1 r4_1_2 z4_1_2 r4_2_0 z4_2_0 r4_2_1 z4_2_1 t4_va_0 t4_va_1 t4_va_2 t4_vb_0 t4_vb_1 t4_vb_2
    have s5_0 : w.heap.size < w5.heap.size := by omega
    have s5_1 : w.heap.size + 1 < w5.heap.size := by omega
    have s5_2 : w.heap.size + 1 + 1 < w5.heap.size := by omega
    refine ⟨_, rfl, ⟨t5_va_0, t5_va_1, t5_va_2, t5_vb_0, t5_vb_1, t5_vb_2⟩, ?_⟩
    try simp only [Act.put, List.setIfInBounds_toArray, List.set_cons_zero, List.set_cons_succ]
    refine wpAnyH_all (rs := [4]) (by kernel_rfl) (by decide) (List.forall_mem_cons.2 ⟨?_, fun _ h => absurd h List.not_mem_nil⟩)
    refine wpOp_store rfl rfl (w' := (((w5.setCell ⟨w.heap.size, 0, none⟩ (.int .i64 n0)).setCell ⟨w.heap.size, 1, none⟩ (.int .i64 d0)).setCell ⟨w.heap.size, 2, none⟩ (.int .i64 z0))) (by go_simp; try rfl) ⟨⟨by go_simp, by go_simp, by go_simp, by go_simp, by go_simp, by go_simp⟩, ?_⟩
    refine wpAnyH_all (rs := [5]) (by kernel_rfl) (by decide) (List.forall_mem_cons.2 ⟨?_, fun _ h => absurd h List.not_mem_nil⟩)
    refine wpOp_store rfl rfl (w' := ((((((w5.setCell ⟨w.heap.size, 0, none⟩ (.int .i64 n0)).setCell ⟨w.heap.size, 1, none⟩ (.int .i64 d0)).setCell ⟨w.heap.size, 2, none⟩ (.int .i64 z0)).setCell ⟨w.heap.size + 1, 0, none⟩ (.int .i64 n1)).setCell ⟨w.heap.size + 1, 1, none⟩ (.int .i64 d1)).setCell ⟨w.heap.size + 1, 2, none⟩ (.int .i64 z1))) (by go_simp; try rfl) ⟨⟨by go_simp, by go_simp, by go_simp, by go_simp, by go_simp, by go_simp⟩, ?_⟩
    refine wpAnyH_all (rs := [6]) (by kernel_rfl) (by decide) (List.forall_mem_cons.2 ⟨?_, fun _ h => absurd h List.not_mem_nil⟩)
    refine wpOp_store rfl rfl (w' := ((((((((w5.setCell ⟨w.heap.size, 0, none⟩ (.int .i64 n0)).setCell ⟨w.heap.size, 1, none⟩ (.int .i64 d0)).setCell ⟨w.heap.size, 2, none⟩ (.int .i64 z0)).setCell ⟨w.heap.size + 1, 0, none⟩ (.int .i64 n1)).setCell ⟨w.heap.size + 1, 1, none⟩ (.int .i64 d1)).setCell ⟨w.heap.size + 1, 2, none⟩ (.int .i64 z1)).setCell ⟨w.heap.size + 1 + 1, 0, none⟩ (.int .i64 x)).setCell ⟨w.heap.size + 1 + 1, 1, none⟩ (.int .i64 y))) (by go_simp; try rfl) ⟨⟨by go_simp, by go_simp, by go_simp, by go_simp, by go_simp, by go_simp⟩, ?_⟩
    refine wpAnyH_done (by kernel_rfl) ?_ _
    try simp only [Act.put, List.setIfInBounds_toArray, List.set_cons_zero, List.set_cons_succ]
    go_wp2
    (refine bodyPost_ret (by simp [results, Try.results25, go_sem, *]; try rfl) rfl ?_)
    exact ⟨n0, d0, z0, n1, d1, z1, x, y, rfl, ⟨kn0, kd0, kz0, kn1, kd1, kz1, ix, iy⟩, by (repeat' (first | (with_reducible exact Below.refl _ _) | (with_reducible assumption) | (with_reducible refine Below.alloc ?_ ?_ _) | (with_reducible refine Below.drew ?_) | (with_reducible refine below_drewN ?_ _) | (with_reducible refine Below.setCell ?_ ?_ _) | (with_reducible refine below_call ?_ ?_ (by assumption)) | go_size))⟩

  | true =>
    obtain ⟨-, -, -, -, -, hga, -, h1⟩ := FL.out rfl
    go_wp2_with fail
    refine (one_any L a n cp (((w.alloc (Obj.cells #[.int .i64 0, .int .i64 0, .int .i64 0] 27)).alloc (Obj.cells #[.int .i64 0, .int .i64 0, .int .i64 0] 27)).alloc (Obj.cells #[.int .i64 0, .int .i64 0] 25)) (w.heap.size + 1 + 1 + 1) 40 2 (by omega) hO (by omega) _ HC4.out).mono ?_
    rintro e5 w5 ⟨o5, rfl, hC5, hg5⟩
    have hz5 := hg5.size
    have r5_0_0 : w5.cell? ⟨w.heap.size, 0, none⟩ = some (.int .i64 0) := (World.grownBy.cell_far hg5 ⟨w.heap.size, 0, none⟩ (by show _ < _; first | omega | (simp only [World.size_drew]; omega) | (simp only; omega)) (fun e => by simp only [Option.some.injEq] at e; omega)).trans r4_0_0
    have z5_0_0 : w5.frozen? ⟨w.heap.size, 0, none⟩ = false := (World.grownBy.frozen_far hg5 ⟨w.heap.size, 0, none⟩ (by show _ < _; first | omega | (simp only [World.size_drew]; omega) | (simp only; omega)) (fun e => by simp only [Option.some.injEq] at e; omega)).trans z4_0_0
    have r5_0_1 : w5.cell? ⟨w.heap.size, 1, none⟩ = some (.int .i64 0) := (World.grownBy.cell_far hg5 ⟨w.heap.size, 1, none⟩ (by show _ < _; first | omega | (simp only [World.size_drew]; omega) | (simp only; omega)) (fun e => by simp only [Option.some.injEq] at e; omega)).trans r4_0_1
    have z5_0_1 : w5.frozen? ⟨w.heap.size, 1, none⟩ = false := (World.grownBy.frozen_far hg5 ⟨w.heap.size, 1, none⟩ (by show _ < _; first | omega | (simp only [World.size_drew]; omega) | (simp only; omega)) (fun e => by simp only [Option.some.injEq] at e; omega)).trans z4_0_1
    have r5_0_2 : w5.cell? ⟨w.heap.size, 2, none⟩ = some (.int .i64 0) := (World.grownBy.cell_far hg5 ⟨w.heap.size, 2, none⟩ (by show _ < _; first | omega | (simp only [World.size_drew]; omega) | (simp only; omega)) (fun e => by simp only [Option.some.injEq] at e; omega)).trans r4_0_2
    have z5_0_2 : w5.frozen? ⟨w.heap.size, 2, none⟩ = false := (World.grownBy.frozen_far hg5 ⟨w.heap.size, 2, none⟩ (by show _ < _; first | omega | (simp only [World.size_drew]; omega) | (simp only; omega)) (fun e => by simp only [Option.some.injEq] at e; omega)).trans z4_0_2
    have r5_1_0 : w5.cell? ⟨w.heap.size + 1, 0, none⟩ = some (.int .i64 0) := (World.grownBy.cell_far hg5 ⟨w.heap.size + 1, 0, none⟩ (by show _ < _; first | omega | (simp only [World.size_drew]; omega) | (simp only; omega)) (fun e => by simp only [Option.some.injEq] at e; omega)).trans r4_1_0
    have z5_1_0 : w5.frozen? ⟨w.heap.size + 1, 0, none⟩ = false := (World.grownBy.frozen_far hg5 ⟨w.heap.size + 1, 0, none⟩ (by show _ < _; first | omega | (simp only [World.size_drew]; omega) | (simp only; omega)) (fun e => by simp only [Option.some.injEq] at e; omega)).trans z4_1_0
    have r5_1_1 : w5.cell? ⟨w.heap.size + 1, 1, none⟩ = some (.int .i64 0) := (World.grownBy.cell_far hg5 ⟨w.heap.size + 1, 1, none⟩ (by show _ < _; first | omega | (simp only [World.size_drew]; omega) | (simp only; omega)) (fun e => by simp only [Option.some.injEq] at e; omega)).trans r4_1_1
    have z5_1_1 : w5.frozen? ⟨w.heap.size + 1, 1, none⟩ = false := (World.grownBy.frozen_far hg5 ⟨w.heap.size + 1, 1, none⟩ (by show _ < _; first | omega | (simp only [World.size_drew]; omega) | (simp only; omega)) (fun e => by simp only [Option.some.injEq] at e; omega)).trans z4_1_1
    have r5_1_2 : w5.cell? ⟨w.heap.size + 1, 2, none⟩ = some (.int .i64 0) := (World.grownBy.cell_far hg5 ⟨w.heap.size + 1, 2, none⟩ (by show _ < _; first | omega | (simp only [World.size_drew]; omega) | (simp only; omega)) (fun e => by simp only [Option.some.injEq] at e; omega)).trans r4_1_2
    have z5_1_2 : w5.frozen? ⟨w.heap.size + 1, 2, none⟩ = false := (World.grownBy.frozen_far hg5 ⟨w.heap.size + 1, 2, none⟩ (by show _ < _; first | omega | (simp only [World.size_drew]; omega) | (simp only; omega)) (fun e => by simp only [Option.some.injEq] at e; omega)).trans z4_1_2
    have r5_2_0 : w5.cell? ⟨w.heap.size + 1 + 1, 0, none⟩ = some (.int .i64 0) := (World.grownBy.cell_far hg5 ⟨w.heap.size + 1 + 1, 0, none⟩ (by show _ < _; first | omega | (simp only [World.size_drew]; omega) | (simp only; omega)) (fun e => by simp only [Option.some.injEq] at e; omega)).trans r4_2_0
    have z5_2_0 : w5.frozen? ⟨w.heap.size + 1 + 1, 0, none⟩ = false := (World.grownBy.frozen_far hg5 ⟨w.heap.size + 1 + 1, 0, none⟩ (by show _ < _; first | omega | (simp only [World.size_drew]; omega) | (simp only; omega)) (fun e => by simp only [Option.some.injEq] at e; omega)).trans z4_2_0
    have r5_2_1 : w5.cell? ⟨w.heap.size + 1 + 1, 1, none⟩ = some (.int .i64 0) := (World.grownBy.cell_far hg5 ⟨w.heap.size + 1 + 1, 1, none⟩ (by show _ < _; first | omega | (simp only [World.size_drew]; omega) | (simp only; omega)) (fun e => by simp only [Option.some.injEq] at e; omega)).trans r4_2_1
    have z5_2_1 : w5.frozen? ⟨w.heap.size + 1 + 1, 1, none⟩ = false := (World.grownBy.frozen_far hg5 ⟨w.heap.size + 1 + 1, 1, none⟩ (by show _ < _; first | omega | (simp only [World.size_drew]; omega) | (simp only; omega)) (fun e => by simp only [Option.some.injEq] at e; omega)).trans z4_2_1
    have t5_va_0 : w5.cell? ⟨w2.heap.size, 0, none⟩ = some (.int .i64 n0) := (World.grownBy.cell_far hg5 ⟨w2.heap.size, 0, none⟩ (by show _ < _; first | omega | (simp only [World.size_drew]; omega) | (simp only; omega)) (fun e => by simp only [Option.some.injEq] at e; omega)).trans t4_va_0
    have t5_va_1 : w5.cell? ⟨w2.heap.size, 1, none⟩ = some (.int .i64 d0) := (World.grownBy.cell_far hg5 ⟨w2.heap.size, 1, none⟩ (by show _ < _; first | omega | (simp only [World.size_drew]; omega) | (simp only; omega)) (fun e => by simp only [Option.some.injEq] at e; omega)).trans t4_va_1
    have t5_va_2 : w5.cell? ⟨w2.heap.size, 2, none⟩ = some (.int .i64 z0) := (World.grownBy.cell_far hg5 ⟨w2.heap.size, 2, none⟩ (by show _ < _; first | omega | (simp only [World.size_drew]; omega) | (simp only; omega)) (fun e => by simp only [Option.some.injEq] at e; omega)).trans t4_va_2
    have t5_vb_0 : w5.cell? ⟨w2.heap.size + 1, 0, none⟩ = some (.int .i64 n1) := (World.grownBy.cell_far hg5 ⟨w2.heap.size + 1, 0, none⟩ (by show _ < _; first | omega | (simp only [World.size_drew]; omega) | (simp only; omega)) (fun e => by simp only [Option.some.injEq] at e; omega)).trans t4_vb_0
    have t5_vb_1 : w5.cell? ⟨w2.heap.size + 1, 1, none⟩ = some (.int .i64 d1) := (World.grownBy.cell_far hg5 ⟨w2.heap.size + 1, 1, none⟩ (by show _ < _; first | omega | (simp only [World.size_drew]; omega) | (simp only; omega)) (fun e => by simp only [Option.some.injEq] at e; omega)).trans t4_vb_1
    have t5_vb_2 : w5.cell? ⟨w2.heap.size + 1, 2, none⟩ = some (.int .i64 z1) := (World.grownBy.cell_far hg5 ⟨w2.heap.size + 1, 2, none⟩ (by show _ < _; first | omega | (simp only [World.size_drew]; omega) | (simp only; omega)) (fun e => by simp only [Option.some.injEq] at e; omega)).trans t4_vb_2
    have HCL := Lib.hid (fun j (hj : j < LL.length) => (show ∃ g, pa = some ⟨g, 0, none⟩ ∧ w.heap.size + 1 + 1 + 1 < g ∧ g < w5.heap.size ∧ w5.cell? ⟨g, j * 2, none⟩ = some (.int .i64 (LL.getD j (0, 0)).1) ∧ w5.cell? ⟨g, j * 2 + 1, none⟩ = some (.int .i64 (LL.getD j (0, 0)).2) from by
      obtain ⟨g, c1, c2, c3, c4, c5⟩ := HCELL.out j hj
      exact ⟨g, c1, by omega, by omega, (World.grownBy.cell_far hg5 ⟨g, j * 2, none⟩ (by show _ < _; first | omega | (simp only [World.size_drew]; omega) | (simp only; omega)) (fun e => by simp only [Option.some.injEq] at e; omega)).trans c4, (World.grownBy.cell_far hg5 ⟨g, j * 2 + 1, none⟩ (by show _ < _; first | omega | (simp only [World.size_drew]; omega) | (simp only; omega)) (fun e => by simp only [Option.some.injEq] at e; omega)).trans c5⟩))
    have HC5 := Lib.hid hC5
    clear hC5 hg5 hbw4 r4_0_0 z4_0_0 r4_0_1 z4_0_1 r4_0_2 z4_0_2 r4_1_0 z4_1_0 r4_1_1 z4_1_1 r4_1_2 z4_1_2 r4_2_0 z4_2_0 r4_2_1 z4_2_1 t4_va_0 t4_va_1 t4_va_2 t4_vb_0 t4_vb_1 t4_vb_2
    cases o5 with
    | false =>
      go_wp2_with fail
      have hS0 : Below w5.heap.size w5 w5.drew := (Below.refl _ _).drew
      have hSS : (fun W => W.cell? ⟨w2.heap.size, 0, none⟩ = some (.int .i64 n0) ∧ W.cell? ⟨w2.heap.size, 1, none⟩ = some (.int .i64 d0) ∧ W.cell? ⟨w2.heap.size, 2, none⟩ = some (.int .i64 z0) ∧ W.cell? ⟨w2.heap.size + 1, 0, none⟩ = some (.int .i64 n1) ∧ W.cell? ⟨w2.heap.size + 1, 1, none⟩ = some (.int .i64 d1) ∧ W.cell? ⟨w2.heap.size + 1, 2, none⟩ = some (.int .i64 z1)) w5.drew := ⟨t5_va_0, t5_va_1, t5_va_2, t5_vb_0, t5_vb_1, t5_vb_2⟩
      refine wp_region_held (by kernel_rfl) (S := fun W => W.cell? ⟨w2.heap.size, 0, none⟩ = some (.int .i64 n0) ∧ W.cell? ⟨w2.heap.size, 1, none⟩ = some (.int .i64 d0) ∧ W.cell? ⟨w2.heap.size, 2, none⟩ = some (.int .i64 z0) ∧ W.cell? ⟨w2.heap.size + 1, 0, none⟩ = some (.int .i64 n1) ∧ W.cell? ⟨w2.heap.size + 1, 1, none⟩ = some (.int .i64 d1) ∧ W.cell? ⟨w2.heap.size + 1, 2, none⟩ = some (.int .i64 z1)) ?_
      refine take_first (i := 0) (v := .agg #[.int .i64 n0, .int .i64 d0, .int .i64 z0]) _ rfl rfl (by kernel_rfl) (by kernel_rfl) (by kernel_rfl) (fun _ _ _ h => h) (by rfl) ?_ (by assumption) ?_
      · intro wq hq
        obtain ⟨xq0, xq1, xq2, xq3, xq4, xq5⟩ := hq
        go_simp
        try rfl
      try simp only [Act.put, List.setIfInBounds_toArray, List.set_cons_zero, List.set_cons_succ]
      refine take_first (i := 1) (v := .agg #[.int .i64 n1, .int .i64 d1, .int .i64 z1]) _ rfl rfl (by kernel_rfl) (by kernel_rfl) (by kernel_rfl) (fun _ _ _ h => h) (by rfl) ?_ (by assumption) ?_
      · intro wq hq
        obtain ⟨xq0, xq1, xq2, xq3, xq4, xq5⟩ := hq
        go_simp
        try rfl
      try simp only [Act.put, List.setIfInBounds_toArray, List.set_cons_zero, List.set_cons_succ]
      refine take_first (i := 2) (v := .pointer (some ⟨w.heap.size + 1 + 1 + 1, 0, none⟩)) _ rfl rfl (by kernel_rfl) (by kernel_rfl) (by kernel_rfl) (fun _ _ _ h => h) (by rfl) ?_ (by assumption) ?_
      · intro wq hq
        obtain ⟨xq0, xq1, xq2, xq3, xq4, xq5⟩ := hq
        go_simp
        try rfl
      try simp only [Act.put, List.setIfInBounds_toArray, List.set_cons_zero, List.set_cons_succ]
      refine wpAnyH_all (rs := [3]) (by kernel_rfl) (by decide) (List.forall_mem_cons.2 ⟨?_, fun _ h => absurd h List.not_mem_nil⟩)
      refine wpOp_wp rfl rfl (wp_call_at _ rfl (f := 62) (args := #[.pointer (some ⟨w.heap.size + 1 + 1 + 1, 0, none⟩)]) (by go_simp) ((turn_any L a n cp (((w.alloc (Obj.cells #[.int .i64 0, .int .i64 0, .int .i64 0] 27)).alloc (Obj.cells #[.int .i64 0, .int .i64 0, .int .i64 0] 27)).alloc (Obj.cells #[.int .i64 0, .int .i64 0] 25)) (w.heap.size + 1 + 1 + 1) 42 hO (by omega) _ (Cur.below HC5.out hS0)).mono ?_))
      rintro e6 w6 ⟨x, y, rfl, ⟨ix, iy⟩, hC6, hg6⟩
      have hz6 := hg6.size
      try simp only [World.size_drew] at hz6
      have r6_0_0 : w6.cell? ⟨w.heap.size, 0, none⟩ = some (.int .i64 0) := (World.grownBy.cell_far hg6 ⟨w.heap.size, 0, none⟩ (by show _ < _; first | omega | (simp only [World.size_drew]; omega) | (simp only; omega)) (fun e => by simp only [Option.some.injEq] at e; omega)).trans r5_0_0
      have z6_0_0 : w6.frozen? ⟨w.heap.size, 0, none⟩ = false := (World.grownBy.frozen_far hg6 ⟨w.heap.size, 0, none⟩ (by show _ < _; first | omega | (simp only [World.size_drew]; omega) | (simp only; omega)) (fun e => by simp only [Option.some.injEq] at e; omega)).trans z5_0_0
      have r6_0_1 : w6.cell? ⟨w.heap.size, 1, none⟩ = some (.int .i64 0) := (World.grownBy.cell_far hg6 ⟨w.heap.size, 1, none⟩ (by show _ < _; first | omega | (simp only [World.size_drew]; omega) | (simp only; omega)) (fun e => by simp only [Option.some.injEq] at e; omega)).trans r5_0_1
      have z6_0_1 : w6.frozen? ⟨w.heap.size, 1, none⟩ = false := (World.grownBy.frozen_far hg6 ⟨w.heap.size, 1, none⟩ (by show _ < _; first | omega | (simp only [World.size_drew]; omega) | (simp only; omega)) (fun e => by simp only [Option.some.injEq] at e; omega)).trans z5_0_1
      have r6_0_2 : w6.cell? ⟨w.heap.size, 2, none⟩ = some (.int .i64 0) := (World.grownBy.cell_far hg6 ⟨w.heap.size, 2, none⟩ (by show _ < _; first | omega | (simp only [World.size_drew]; omega) | (simp only; omega)) (fun e => by simp only [Option.some.injEq] at e; omega)).trans r5_0_2
      have z6_0_2 : w6.frozen? ⟨w.heap.size, 2, none⟩ = false := (World.grownBy.frozen_far hg6 ⟨w.heap.size, 2, none⟩ (by show _ < _; first | omega | (simp only [World.size_drew]; omega) | (simp only; omega)) (fun e => by simp only [Option.some.injEq] at e; omega)).trans z5_0_2
      have r6_1_0 : w6.cell? ⟨w.heap.size + 1, 0, none⟩ = some (.int .i64 0) := (World.grownBy.cell_far hg6 ⟨w.heap.size + 1, 0, none⟩ (by show _ < _; first | omega | (simp only [World.size_drew]; omega) | (simp only; omega)) (fun e => by simp only [Option.some.injEq] at e; omega)).trans r5_1_0
      have z6_1_0 : w6.frozen? ⟨w.heap.size + 1, 0, none⟩ = false := (World.grownBy.frozen_far hg6 ⟨w.heap.size + 1, 0, none⟩ (by show _ < _; first | omega | (simp only [World.size_drew]; omega) | (simp only; omega)) (fun e => by simp only [Option.some.injEq] at e; omega)).trans z5_1_0
      have r6_1_1 : w6.cell? ⟨w.heap.size + 1, 1, none⟩ = some (.int .i64 0) := (World.grownBy.cell_far hg6 ⟨w.heap.size + 1, 1, none⟩ (by show _ < _; first | omega | (simp only [World.size_drew]; omega) | (simp only; omega)) (fun e => by simp only [Option.some.injEq] at e; omega)).trans r5_1_1
      have z6_1_1 : w6.frozen? ⟨w.heap.size + 1, 1, none⟩ = false := (World.grownBy.frozen_far hg6 ⟨w.heap.size + 1, 1, none⟩ (by show _ < _; first | omega | (simp only [World.size_drew]; omega) | (simp only; omega)) (fun e => by simp only [Option.some.injEq] at e; omega)).trans z5_1_1
      have r6_1_2 : w6.cell? ⟨w.heap.size + 1, 2, none⟩ = some (.int .i64 0) := (World.grownBy.cell_far hg6 ⟨w.heap.size + 1, 2, none⟩ (by show _ < _; first | omega | (simp only [World.size_drew]; omega) | (simp only; omega)) (fun e => by simp only [Option.some.injEq] at e; omega)).trans r5_1_2
      have z6_1_2 : w6.frozen? ⟨w.heap.size + 1, 2, none⟩ = false := (World.grownBy.frozen_far hg6 ⟨w.heap.size + 1, 2, none⟩ (by show _ < _; first | omega | (simp only [World.size_drew]; omega) | (simp only; omega)) (fun e => by simp only [Option.some.injEq] at e; omega)).trans z5_1_2
      have r6_2_0 : w6.cell? ⟨w.heap.size + 1 + 1, 0, none⟩ = some (.int .i64 0) := (World.grownBy.cell_far hg6 ⟨w.heap.size + 1 + 1, 0, none⟩ (by show _ < _; first | omega | (simp only [World.size_drew]; omega) | (simp only; omega)) (fun e => by simp only [Option.some.injEq] at e; omega)).trans r5_2_0
      have z6_2_0 : w6.frozen? ⟨w.heap.size + 1 + 1, 0, none⟩ = false := (World.grownBy.frozen_far hg6 ⟨w.heap.size + 1 + 1, 0, none⟩ (by show _ < _; first | omega | (simp only [World.size_drew]; omega) | (simp only; omega)) (fun e => by simp only [Option.some.injEq] at e; omega)).trans z5_2_0
      have r6_2_1 : w6.cell? ⟨w.heap.size + 1 + 1, 1, none⟩ = some (.int .i64 0) := (World.grownBy.cell_far hg6 ⟨w.heap.size + 1 + 1, 1, none⟩ (by show _ < _; first | omega | (simp only [World.size_drew]; omega) | (simp only; omega)) (fun e => by simp only [Option.some.injEq] at e; omega)).trans r5_2_1
      have z6_2_1 : w6.frozen? ⟨w.heap.size + 1 + 1, 1, none⟩ = false := (World.grownBy.frozen_far hg6 ⟨w.heap.size + 1 + 1, 1, none⟩ (by show _ < _; first | omega | (simp only [World.size_drew]; omega) | (simp only; omega)) (fun e => by simp only [Option.some.injEq] at e; omega)).trans z5_2_1
      have t6_va_0 : w6.cell? ⟨w2.heap.size, 0, none⟩ = some (.int .i64 n0) := (World.grownBy.cell_far hg6 ⟨w2.heap.size, 0, none⟩ (by show _ < _; first | omega | (simp only [World.size_drew]; omega) | (simp only; omega)) (fun e => by simp only [Option.some.injEq] at e; omega)).trans t5_va_0
      have t6_va_1 : w6.cell? ⟨w2.heap.size, 1, none⟩ = some (.int .i64 d0) := (World.grownBy.cell_far hg6 ⟨w2.heap.size, 1, none⟩ (by show _ < _; first | omega | (simp only [World.size_drew]; omega) | (simp only; omega)) (fun e => by simp only [Option.some.injEq] at e; omega)).trans t5_va_1
      have t6_va_2 : w6.cell? ⟨w2.heap.size, 2, none⟩ = some (.int .i64 z0) := (World.grownBy.cell_far hg6 ⟨w2.heap.size, 2, none⟩ (by show _ < _; first | omega | (simp only [World.size_drew]; omega) | (simp only; omega)) (fun e => by simp only [Option.some.injEq] at e; omega)).trans t5_va_2
      have t6_vb_0 : w6.cell? ⟨w2.heap.size + 1, 0, none⟩ = some (.int .i64 n1) := (World.grownBy.cell_far hg6 ⟨w2.heap.size + 1, 0, none⟩ (by show _ < _; first | omega | (simp only [World.size_drew]; omega) | (simp only; omega)) (fun e => by simp only [Option.some.injEq] at e; omega)).trans t5_vb_0
      have t6_vb_1 : w6.cell? ⟨w2.heap.size + 1, 1, none⟩ = some (.int .i64 d1) := (World.grownBy.cell_far hg6 ⟨w2.heap.size + 1, 1, none⟩ (by show _ < _; first | omega | (simp only [World.size_drew]; omega) | (simp only; omega)) (fun e => by simp only [Option.some.injEq] at e; omega)).trans t5_vb_1
      have t6_vb_2 : w6.cell? ⟨w2.heap.size + 1, 2, none⟩ = some (.int .i64 z1) := (World.grownBy.cell_far hg6 ⟨w2.heap.size + 1, 2, none⟩ (by show _ < _; first | omega | (simp only [World.size_drew]; omega) | (simp only; omega)) (fun e => by simp only [Option.some.injEq] at e; omega)).trans t5_vb_2
      have hsame := Cur.same hC6
      have hbw6 : Below w.heap.size w w6 := hbwW.trans (hsame.mono (by omega))
      clear r5_0_0 z5_0_0 r5_0_1 z5_0_1 r5_0_2 z5_0_2 r5_1_0 z5_1_0 r5_1_1 z5_1_1 r5_1_2 z5_1_2 r5_2_0 z5_2_0 r5_2_1 z5_2_1 t5_va_0 t5_va_1 t5_va_2 t5_vb_0 t5_vb_1 t5_vb_2
      have s6_0 : w.heap.size < w6.heap.size := by omega
      have s6_1 : w.heap.size + 1 < w6.heap.size := by omega
      have s6_2 : w.heap.size + 1 + 1 < w6.heap.size := by omega
      refine ⟨_, rfl, ⟨t6_va_0, t6_va_1, t6_va_2, t6_vb_0, t6_vb_1, t6_vb_2⟩, ?_⟩
      try simp only [Act.put, List.setIfInBounds_toArray, List.set_cons_zero, List.set_cons_succ]
      refine wpAnyH_all (rs := [4]) (by kernel_rfl) (by decide) (List.forall_mem_cons.2 ⟨?_, fun _ h => absurd h List.not_mem_nil⟩)
      refine wpOp_store rfl rfl (w' := (((w6.setCell ⟨w.heap.size, 0, none⟩ (.int .i64 n0)).setCell ⟨w.heap.size, 1, none⟩ (.int .i64 d0)).setCell ⟨w.heap.size, 2, none⟩ (.int .i64 z0))) (by go_simp; try rfl) ⟨⟨by go_simp, by go_simp, by go_simp, by go_simp, by go_simp, by go_simp⟩, ?_⟩
      refine wpAnyH_all (rs := [5]) (by kernel_rfl) (by decide) (List.forall_mem_cons.2 ⟨?_, fun _ h => absurd h List.not_mem_nil⟩)
      refine wpOp_store rfl rfl (w' := ((((((w6.setCell ⟨w.heap.size, 0, none⟩ (.int .i64 n0)).setCell ⟨w.heap.size, 1, none⟩ (.int .i64 d0)).setCell ⟨w.heap.size, 2, none⟩ (.int .i64 z0)).setCell ⟨w.heap.size + 1, 0, none⟩ (.int .i64 n1)).setCell ⟨w.heap.size + 1, 1, none⟩ (.int .i64 d1)).setCell ⟨w.heap.size + 1, 2, none⟩ (.int .i64 z1))) (by go_simp; try rfl) ⟨⟨by go_simp, by go_simp, by go_simp, by go_simp, by go_simp, by go_simp⟩, ?_⟩
      refine wpAnyH_all (rs := [6]) (by kernel_rfl) (by decide) (List.forall_mem_cons.2 ⟨?_, fun _ h => absurd h List.not_mem_nil⟩)
      refine wpOp_store rfl rfl (w' := ((((((((w6.setCell ⟨w.heap.size, 0, none⟩ (.int .i64 n0)).setCell ⟨w.heap.size, 1, none⟩ (.int .i64 d0)).setCell ⟨w.heap.size, 2, none⟩ (.int .i64 z0)).setCell ⟨w.heap.size + 1, 0, none⟩ (.int .i64 n1)).setCell ⟨w.heap.size + 1, 1, none⟩ (.int .i64 d1)).setCell ⟨w.heap.size + 1, 2, none⟩ (.int .i64 z1)).setCell ⟨w.heap.size + 1 + 1, 0, none⟩ (.int .i64 x)).setCell ⟨w.heap.size + 1 + 1, 1, none⟩ (.int .i64 y))) (by go_simp; try rfl) ⟨⟨by go_simp, by go_simp, by go_simp, by go_simp, by go_simp, by go_simp⟩, ?_⟩
      refine wpAnyH_done (by kernel_rfl) ?_ _
      try simp only [Act.put, List.setIfInBounds_toArray, List.set_cons_zero, List.set_cons_succ]
      go_wp2
      (refine bodyPost_ret (by simp [results, Try.results25, go_sem, *]; try rfl) rfl ?_)
      exact ⟨n0, d0, z0, n1, d1, z1, x, y, rfl, ⟨kn0, kd0, kz0, kn1, kd1, kz1, ix, iy⟩, by (repeat' (first | (with_reducible exact Below.refl _ _) | (with_reducible assumption) | (with_reducible refine Below.alloc ?_ ?_ _) | (with_reducible refine Below.drew ?_) | (with_reducible refine below_drewN ?_ _) | (with_reducible refine Below.setCell ?_ ?_ _) | (with_reducible refine below_call ?_ ?_ (by assumption)) | go_size))⟩

    | true =>
      obtain ⟨g, hpa, hgB, hgl, -, -⟩ := HCL.out 0 (by omega)
      subst hpa
      have hG5 : ∀ o, (w5.drew).cell? ⟨g, o, none⟩ = w5.cell? ⟨g, o, none⟩ := fun o => rfl
      go_wp2_with fail
      have hS0 : Below w5.heap.size w5 w5.drew := (Below.refl _ _).drew
      have hSS : (fun W => W.cell? ⟨w2.heap.size, 0, none⟩ = some (.int .i64 n0) ∧ W.cell? ⟨w2.heap.size, 1, none⟩ = some (.int .i64 d0) ∧ W.cell? ⟨w2.heap.size, 2, none⟩ = some (.int .i64 z0) ∧ W.cell? ⟨w2.heap.size + 1, 0, none⟩ = some (.int .i64 n1) ∧ W.cell? ⟨w2.heap.size + 1, 1, none⟩ = some (.int .i64 d1) ∧ W.cell? ⟨w2.heap.size + 1, 2, none⟩ = some (.int .i64 z1) ∧ ∀ o, W.cell? ⟨g, o, none⟩ = w5.cell? ⟨g, o, none⟩) w5.drew := ⟨t5_va_0, t5_va_1, t5_va_2, t5_vb_0, t5_vb_1, t5_vb_2, hG5⟩
      refine wp_region_held (by kernel_rfl) (S := fun W => W.cell? ⟨w2.heap.size, 0, none⟩ = some (.int .i64 n0) ∧ W.cell? ⟨w2.heap.size, 1, none⟩ = some (.int .i64 d0) ∧ W.cell? ⟨w2.heap.size, 2, none⟩ = some (.int .i64 z0) ∧ W.cell? ⟨w2.heap.size + 1, 0, none⟩ = some (.int .i64 n1) ∧ W.cell? ⟨w2.heap.size + 1, 1, none⟩ = some (.int .i64 d1) ∧ W.cell? ⟨w2.heap.size + 1, 2, none⟩ = some (.int .i64 z1) ∧ ∀ o, W.cell? ⟨g, o, none⟩ = w5.cell? ⟨g, o, none⟩) ?_
      refine take_first (i := 0) (v := .agg #[.int .i64 n0, .int .i64 d0, .int .i64 z0]) _ rfl rfl (by kernel_rfl) (by kernel_rfl) (by kernel_rfl) (fun _ _ _ h => h) (by rfl) ?_ (by assumption) ?_
      · intro wq hq
        obtain ⟨xq0, xq1, xq2, xq3, xq4, xq5, xqg⟩ := hq
        go_simp
        try rfl
      try simp only [Act.put, List.setIfInBounds_toArray, List.set_cons_zero, List.set_cons_succ]
      refine take_first (i := 1) (v := .agg #[.int .i64 n1, .int .i64 d1, .int .i64 z1]) _ rfl rfl (by kernel_rfl) (by kernel_rfl) (by kernel_rfl) (fun _ _ _ h => h) (by rfl) ?_ (by assumption) ?_
      · intro wq hq
        obtain ⟨xq0, xq1, xq2, xq3, xq4, xq5, xqg⟩ := hq
        go_simp
        try rfl
      try simp only [Act.put, List.setIfInBounds_toArray, List.set_cons_zero, List.set_cons_succ]
      refine take_first (i := 2) (v := .slice (some ⟨g, 0, none⟩) LL.length pc) _ rfl rfl (by kernel_rfl) (by kernel_rfl) (by kernel_rfl) (fun _ _ _ h => h) (by rfl) ?_ (by assumption) ?_
      · intro wq hq
        obtain ⟨xq0, xq1, xq2, xq3, xq4, xq5, xqg⟩ := hq
        go_simp
        try rfl
      try simp only [Act.put, List.setIfInBounds_toArray, List.set_cons_zero, List.set_cons_succ]
      refine take_first (i := 3) (v := .pointer (some ⟨w.heap.size + 1 + 1 + 1, 0, none⟩)) _ rfl rfl (by kernel_rfl) (by kernel_rfl) (by kernel_rfl) (fun _ _ _ h => h) (by rfl) ?_ (by assumption) ?_
      · intro wq hq
        obtain ⟨xq0, xq1, xq2, xq3, xq4, xq5, xqg⟩ := hq
        go_simp
        try rfl
      try simp only [Act.put, List.setIfInBounds_toArray, List.set_cons_zero, List.set_cons_succ]
      refine take_first (i := 4) (v := .slice (some ⟨g, 0, none⟩) LL.length pc) _ rfl rfl (by kernel_rfl) (by kernel_rfl) (by kernel_rfl) (fun _ _ _ h => h) (by rfl) ?_ (by assumption) ?_
      · intro wq hq
        obtain ⟨xq0, xq1, xq2, xq3, xq4, xq5, xqg⟩ := hq
        go_simp
        try rfl
      try simp only [Act.put, List.setIfInBounds_toArray, List.set_cons_zero, List.set_cons_succ]
      refine take_first (i := 5) (v := .int .i64 (LL.length : Int)) _ rfl rfl (by kernel_rfl) (by kernel_rfl) (by kernel_rfl) (fun _ _ _ h => h) (by rfl) ?_ (by assumption) ?_
      · intro wq hq
        obtain ⟨xq0, xq1, xq2, xq3, xq4, xq5, xqg⟩ := hq
        go_simp
        try rfl
      try simp only [Act.put, List.setIfInBounds_toArray, List.set_cons_zero, List.set_cons_succ]
      refine wpAnyH_all (rs := [6]) (by kernel_rfl) (by decide) (List.forall_mem_cons.2 ⟨?_, fun _ h => absurd h List.not_mem_nil⟩)
      refine wpOp_wp rfl rfl (wp_call_at _ rfl (f := 61) (args := #[.pointer (some ⟨w.heap.size + 1 + 1 + 1, 0, none⟩), .int .i64 (LL.length : Int)]) (by go_simp) ((pick_any L a n cp (((w.alloc (Obj.cells #[.int .i64 0, .int .i64 0, .int .i64 0] 27)).alloc (Obj.cells #[.int .i64 0, .int .i64 0, .int .i64 0] 27)).alloc (Obj.cells #[.int .i64 0, .int .i64 0] 25)) (w.heap.size + 1 + 1 + 1) 42 (LL.length : Int) (by have := HLL.out; omega) hO (by omega) _ (Cur.below HC5.out hS0)).mono ?_))
      rintro e6 w6 ⟨j, rfl, hj, hC6, hg6⟩
      have hz6 := hg6.size
      try simp only [World.size_drew] at hz6
      have r6_0_0 : w6.cell? ⟨w.heap.size, 0, none⟩ = some (.int .i64 0) := (World.grownBy.cell_far hg6 ⟨w.heap.size, 0, none⟩ (by show _ < _; first | omega | (simp only [World.size_drew]; omega) | (simp only; omega)) (fun e => by simp only [Option.some.injEq] at e; omega)).trans r5_0_0
      have z6_0_0 : w6.frozen? ⟨w.heap.size, 0, none⟩ = false := (World.grownBy.frozen_far hg6 ⟨w.heap.size, 0, none⟩ (by show _ < _; first | omega | (simp only [World.size_drew]; omega) | (simp only; omega)) (fun e => by simp only [Option.some.injEq] at e; omega)).trans z5_0_0
      have r6_0_1 : w6.cell? ⟨w.heap.size, 1, none⟩ = some (.int .i64 0) := (World.grownBy.cell_far hg6 ⟨w.heap.size, 1, none⟩ (by show _ < _; first | omega | (simp only [World.size_drew]; omega) | (simp only; omega)) (fun e => by simp only [Option.some.injEq] at e; omega)).trans r5_0_1
      have z6_0_1 : w6.frozen? ⟨w.heap.size, 1, none⟩ = false := (World.grownBy.frozen_far hg6 ⟨w.heap.size, 1, none⟩ (by show _ < _; first | omega | (simp only [World.size_drew]; omega) | (simp only; omega)) (fun e => by simp only [Option.some.injEq] at e; omega)).trans z5_0_1
      have r6_0_2 : w6.cell? ⟨w.heap.size, 2, none⟩ = some (.int .i64 0) := (World.grownBy.cell_far hg6 ⟨w.heap.size, 2, none⟩ (by show _ < _; first | omega | (simp only [World.size_drew]; omega) | (simp only; omega)) (fun e => by simp only [Option.some.injEq] at e; omega)).trans r5_0_2
      have z6_0_2 : w6.frozen? ⟨w.heap.size, 2, none⟩ = false := (World.grownBy.frozen_far hg6 ⟨w.heap.size, 2, none⟩ (by show _ < _; first | omega | (simp only [World.size_drew]; omega) | (simp only; omega)) (fun e => by simp only [Option.some.injEq] at e; omega)).trans z5_0_2
      have r6_1_0 : w6.cell? ⟨w.heap.size + 1, 0, none⟩ = some (.int .i64 0) := (World.grownBy.cell_far hg6 ⟨w.heap.size + 1, 0, none⟩ (by show _ < _; first | omega | (simp only [World.size_drew]; omega) | (simp only; omega)) (fun e => by simp only [Option.some.injEq] at e; omega)).trans r5_1_0
      have z6_1_0 : w6.frozen? ⟨w.heap.size + 1, 0, none⟩ = false := (World.grownBy.frozen_far hg6 ⟨w.heap.size + 1, 0, none⟩ (by show _ < _; first | omega | (simp only [World.size_drew]; omega) | (simp only; omega)) (fun e => by simp only [Option.some.injEq] at e; omega)).trans z5_1_0
      have r6_1_1 : w6.cell? ⟨w.heap.size + 1, 1, none⟩ = some (.int .i64 0) := (World.grownBy.cell_far hg6 ⟨w.heap.size + 1, 1, none⟩ (by show _ < _; first | omega | (simp only [World.size_drew]; omega) | (simp only; omega)) (fun e => by simp only [Option.some.injEq] at e; omega)).trans r5_1_1
      have z6_1_1 : w6.frozen? ⟨w.heap.size + 1, 1, none⟩ = false := (World.grownBy.frozen_far hg6 ⟨w.heap.size + 1, 1, none⟩ (by show _ < _; first | omega | (simp only [World.size_drew]; omega) | (simp only; omega)) (fun e => by simp only [Option.some.injEq] at e; omega)).trans z5_1_1
      have r6_1_2 : w6.cell? ⟨w.heap.size + 1, 2, none⟩ = some (.int .i64 0) := (World.grownBy.cell_far hg6 ⟨w.heap.size + 1, 2, none⟩ (by show _ < _; first | omega | (simp only [World.size_drew]; omega) | (simp only; omega)) (fun e => by simp only [Option.some.injEq] at e; omega)).trans r5_1_2
      have z6_1_2 : w6.frozen? ⟨w.heap.size + 1, 2, none⟩ = false := (World.grownBy.frozen_far hg6 ⟨w.heap.size + 1, 2, none⟩ (by show _ < _; first | omega | (simp only [World.size_drew]; omega) | (simp only; omega)) (fun e => by simp only [Option.some.injEq] at e; omega)).trans z5_1_2
      have r6_2_0 : w6.cell? ⟨w.heap.size + 1 + 1, 0, none⟩ = some (.int .i64 0) := (World.grownBy.cell_far hg6 ⟨w.heap.size + 1 + 1, 0, none⟩ (by show _ < _; first | omega | (simp only [World.size_drew]; omega) | (simp only; omega)) (fun e => by simp only [Option.some.injEq] at e; omega)).trans r5_2_0
      have z6_2_0 : w6.frozen? ⟨w.heap.size + 1 + 1, 0, none⟩ = false := (World.grownBy.frozen_far hg6 ⟨w.heap.size + 1 + 1, 0, none⟩ (by show _ < _; first | omega | (simp only [World.size_drew]; omega) | (simp only; omega)) (fun e => by simp only [Option.some.injEq] at e; omega)).trans z5_2_0
      have r6_2_1 : w6.cell? ⟨w.heap.size + 1 + 1, 1, none⟩ = some (.int .i64 0) := (World.grownBy.cell_far hg6 ⟨w.heap.size + 1 + 1, 1, none⟩ (by show _ < _; first | omega | (simp only [World.size_drew]; omega) | (simp only; omega)) (fun e => by simp only [Option.some.injEq] at e; omega)).trans r5_2_1
      have z6_2_1 : w6.frozen? ⟨w.heap.size + 1 + 1, 1, none⟩ = false := (World.grownBy.frozen_far hg6 ⟨w.heap.size + 1 + 1, 1, none⟩ (by show _ < _; first | omega | (simp only [World.size_drew]; omega) | (simp only; omega)) (fun e => by simp only [Option.some.injEq] at e; omega)).trans z5_2_1
      have t6_va_0 : w6.cell? ⟨w2.heap.size, 0, none⟩ = some (.int .i64 n0) := (World.grownBy.cell_far hg6 ⟨w2.heap.size, 0, none⟩ (by show _ < _; first | omega | (simp only [World.size_drew]; omega) | (simp only; omega)) (fun e => by simp only [Option.some.injEq] at e; omega)).trans t5_va_0
      have t6_va_1 : w6.cell? ⟨w2.heap.size, 1, none⟩ = some (.int .i64 d0) := (World.grownBy.cell_far hg6 ⟨w2.heap.size, 1, none⟩ (by show _ < _; first | omega | (simp only [World.size_drew]; omega) | (simp only; omega)) (fun e => by simp only [Option.some.injEq] at e; omega)).trans t5_va_1
      have t6_va_2 : w6.cell? ⟨w2.heap.size, 2, none⟩ = some (.int .i64 z0) := (World.grownBy.cell_far hg6 ⟨w2.heap.size, 2, none⟩ (by show _ < _; first | omega | (simp only [World.size_drew]; omega) | (simp only; omega)) (fun e => by simp only [Option.some.injEq] at e; omega)).trans t5_va_2
      have t6_vb_0 : w6.cell? ⟨w2.heap.size + 1, 0, none⟩ = some (.int .i64 n1) := (World.grownBy.cell_far hg6 ⟨w2.heap.size + 1, 0, none⟩ (by show _ < _; first | omega | (simp only [World.size_drew]; omega) | (simp only; omega)) (fun e => by simp only [Option.some.injEq] at e; omega)).trans t5_vb_0
      have t6_vb_1 : w6.cell? ⟨w2.heap.size + 1, 1, none⟩ = some (.int .i64 d1) := (World.grownBy.cell_far hg6 ⟨w2.heap.size + 1, 1, none⟩ (by show _ < _; first | omega | (simp only [World.size_drew]; omega) | (simp only; omega)) (fun e => by simp only [Option.some.injEq] at e; omega)).trans t5_vb_1
      have t6_vb_2 : w6.cell? ⟨w2.heap.size + 1, 2, none⟩ = some (.int .i64 z1) := (World.grownBy.cell_far hg6 ⟨w2.heap.size + 1, 2, none⟩ (by show _ < _; first | omega | (simp only [World.size_drew]; omega) | (simp only; omega)) (fun e => by simp only [Option.some.injEq] at e; omega)).trans t5_vb_2
      have hG6 : ∀ o, w6.cell? ⟨g, o, none⟩ = w5.cell? ⟨g, o, none⟩ := fun o => World.grownBy.cell_far hg6 ⟨g, o, none⟩ (by show _ < _; first | omega | (simp only [World.size_drew]; omega)) (fun e => by simp only [Option.some.injEq] at e; omega)
      have hj' : j < LL.length := by omega
      obtain ⟨g', hpa, -, -, c4, c5⟩ := HCL.out j hj'
      obtain rfl : g = g' := by simpa using hpa
      obtain ⟨gx1, gx2, gx3, gx4⟩ := goodB_bd (hga _ (mem_getD hj'))
      have i1 : (j : Int) < (LL.length : Int) := by omega
      have i0 : (0 : Int) ≤ (j : Int) := Int.natCast_nonneg _
      generalize LL.getD j (0, 0) = x at *
      obtain ⟨x1, x2⟩ := x
      simp only at c4 c5 gx1 gx2 gx3 gx4
      have hsame := Cur.same hC6
      have hbw6 : Below w.heap.size w w6 := hbwW.trans (hsame.mono (by omega))
      clear r5_0_0 z5_0_0 r5_0_1 z5_0_1 r5_0_2 z5_0_2 r5_1_0 z5_1_0 r5_1_1 z5_1_1 r5_1_2 z5_1_2 r5_2_0 z5_2_0 r5_2_1 z5_2_1 t5_va_0 t5_va_1 t5_va_2 t5_vb_0 t5_vb_1 t5_vb_2
      have s6_0 : w.heap.size < w6.heap.size := by omega
      have s6_1 : w.heap.size + 1 < w6.heap.size := by omega
      have s6_2 : w.heap.size + 1 + 1 < w6.heap.size := by omega
      have hSS6 : (fun W => W.cell? ⟨w2.heap.size, 0, none⟩ = some (.int .i64 n0) ∧ W.cell? ⟨w2.heap.size, 1, none⟩ = some (.int .i64 d0) ∧ W.cell? ⟨w2.heap.size, 2, none⟩ = some (.int .i64 z0) ∧ W.cell? ⟨w2.heap.size + 1, 0, none⟩ = some (.int .i64 n1) ∧ W.cell? ⟨w2.heap.size + 1, 1, none⟩ = some (.int .i64 d1) ∧ W.cell? ⟨w2.heap.size + 1, 2, none⟩ = some (.int .i64 z1) ∧ ∀ o, W.cell? ⟨g, o, none⟩ = w5.cell? ⟨g, o, none⟩) w6 := ⟨t6_va_0, t6_va_1, t6_va_2, t6_vb_0, t6_vb_1, t6_vb_2, hG6⟩
      refine ⟨_, rfl, hSS6, ?_⟩
      try simp only [Act.put, List.setIfInBounds_toArray, List.set_cons_zero, List.set_cons_succ]
      refine take_first (i := 7) (v := .pointer (some ⟨g, j * 2, none⟩)) _ rfl rfl (by kernel_rfl) (by kernel_rfl) (by kernel_rfl) (fun _ _ _ h => h) (by rfl) ?_ (by assumption) ?_
      · intro wq hq
        obtain ⟨xq0, xq1, xq2, xq3, xq4, xq5, xqg⟩ := hq
        go_simp
        try rfl
      try simp only [Act.put, List.setIfInBounds_toArray, List.set_cons_zero, List.set_cons_succ]
      refine take_first (i := 8) (v := .agg #[.int .i64 x1, .int .i64 x2]) _ rfl rfl (by kernel_rfl) (by kernel_rfl) (by kernel_rfl) (fun _ _ _ h => h) (by rfl) ?_ (by assumption) ?_
      · intro wq hq
        obtain ⟨xq0, xq1, xq2, xq3, xq4, xq5, xqg⟩ := hq
        have y4 := (xqg (j * 2)).trans c4
        have y5 := (xqg (j * 2 + 1)).trans c5
        go_simp
        try rfl
      try simp only [Act.put, List.setIfInBounds_toArray, List.set_cons_zero, List.set_cons_succ]
      refine wpAnyH_all (rs := [9]) (by kernel_rfl) (by decide) (List.forall_mem_cons.2 ⟨?_, fun _ h => absurd h List.not_mem_nil⟩)
      refine wpOp_store rfl rfl (w' := (((w6.setCell ⟨w.heap.size, 0, none⟩ (.int .i64 n0)).setCell ⟨w.heap.size, 1, none⟩ (.int .i64 d0)).setCell ⟨w.heap.size, 2, none⟩ (.int .i64 z0))) (by go_simp; try rfl) ⟨⟨by go_simp, by go_simp, by go_simp, by go_simp, by go_simp, by go_simp, fun o => (World.cell?_setCell_other _ _ _ _ (by intro he; have hx := congrArg Addr.block he; simp only at hx; omega)).trans ((World.cell?_setCell_other _ _ _ _ (by intro he; have hx := congrArg Addr.block he; simp only at hx; omega)).trans ((World.cell?_setCell_other _ _ _ _ (by intro he; have hx := congrArg Addr.block he; simp only at hx; omega)).trans (hG6 o)))⟩, ?_⟩
      refine wpAnyH_all (rs := [10]) (by kernel_rfl) (by decide) (List.forall_mem_cons.2 ⟨?_, fun _ h => absurd h List.not_mem_nil⟩)
      refine wpOp_store rfl rfl (w' := ((((((w6.setCell ⟨w.heap.size, 0, none⟩ (.int .i64 n0)).setCell ⟨w.heap.size, 1, none⟩ (.int .i64 d0)).setCell ⟨w.heap.size, 2, none⟩ (.int .i64 z0)).setCell ⟨w.heap.size + 1, 0, none⟩ (.int .i64 n1)).setCell ⟨w.heap.size + 1, 1, none⟩ (.int .i64 d1)).setCell ⟨w.heap.size + 1, 2, none⟩ (.int .i64 z1))) (by go_simp; try rfl) ⟨⟨by go_simp, by go_simp, by go_simp, by go_simp, by go_simp, by go_simp, fun o => (World.cell?_setCell_other _ _ _ _ (by intro he; have hx := congrArg Addr.block he; simp only at hx; omega)).trans ((World.cell?_setCell_other _ _ _ _ (by intro he; have hx := congrArg Addr.block he; simp only at hx; omega)).trans ((World.cell?_setCell_other _ _ _ _ (by intro he; have hx := congrArg Addr.block he; simp only at hx; omega)).trans ((World.cell?_setCell_other _ _ _ _ (by intro he; have hx := congrArg Addr.block he; simp only at hx; omega)).trans ((World.cell?_setCell_other _ _ _ _ (by intro he; have hx := congrArg Addr.block he; simp only at hx; omega)).trans ((World.cell?_setCell_other _ _ _ _ (by intro he; have hx := congrArg Addr.block he; simp only at hx; omega)).trans (hG6 o))))))⟩, ?_⟩
      refine wpAnyH_all (rs := [11]) (by kernel_rfl) (by decide) (List.forall_mem_cons.2 ⟨?_, fun _ h => absurd h List.not_mem_nil⟩)
      refine wpOp_store rfl rfl (w' := ((((((((w6.setCell ⟨w.heap.size, 0, none⟩ (.int .i64 n0)).setCell ⟨w.heap.size, 1, none⟩ (.int .i64 d0)).setCell ⟨w.heap.size, 2, none⟩ (.int .i64 z0)).setCell ⟨w.heap.size + 1, 0, none⟩ (.int .i64 n1)).setCell ⟨w.heap.size + 1, 1, none⟩ (.int .i64 d1)).setCell ⟨w.heap.size + 1, 2, none⟩ (.int .i64 z1)).setCell ⟨w.heap.size + 1 + 1, 0, none⟩ (.int .i64 x1)).setCell ⟨w.heap.size + 1 + 1, 1, none⟩ (.int .i64 x2))) (by go_simp; try rfl) ⟨⟨by go_simp, by go_simp, by go_simp, by go_simp, by go_simp, by go_simp, fun o => (World.cell?_setCell_other _ _ _ _ (by intro he; have hx := congrArg Addr.block he; simp only at hx; omega)).trans ((World.cell?_setCell_other _ _ _ _ (by intro he; have hx := congrArg Addr.block he; simp only at hx; omega)).trans ((World.cell?_setCell_other _ _ _ _ (by intro he; have hx := congrArg Addr.block he; simp only at hx; omega)).trans ((World.cell?_setCell_other _ _ _ _ (by intro he; have hx := congrArg Addr.block he; simp only at hx; omega)).trans ((World.cell?_setCell_other _ _ _ _ (by intro he; have hx := congrArg Addr.block he; simp only at hx; omega)).trans ((World.cell?_setCell_other _ _ _ _ (by intro he; have hx := congrArg Addr.block he; simp only at hx; omega)).trans ((World.cell?_setCell_other _ _ _ _ (by intro he; have hx := congrArg Addr.block he; simp only at hx; omega)).trans ((World.cell?_setCell_other _ _ _ _ (by intro he; have hx := congrArg Addr.block he; simp only at hx; omega)).trans (hG6 o))))))))⟩, ?_⟩
      refine wpAnyH_done (by kernel_rfl) ?_ _
      try simp only [Act.put, List.setIfInBounds_toArray, List.set_cons_zero, List.set_cons_succ]
      go_wp2
      (refine bodyPost_ret (by simp [results, Try.results25, go_sem, *]; try rfl) rfl ?_)
      exact ⟨n0, d0, z0, n1, d1, z1, x1, x2, rfl, ⟨kn0, kd0, kz0, kn1, kd1, kz1, i64h (by omega), i64h (by omega)⟩, by (repeat' (first | (with_reducible exact Below.refl _ _) | (with_reducible assumption) | (with_reducible refine Below.alloc ?_ ?_ _) | (with_reducible refine Below.drew ?_) | (with_reducible refine below_drewN ?_ _) | (with_reducible refine Below.setCell ?_ ?_ _) | (with_reducible refine below_call ?_ ?_ (by assumption)) | go_size))⟩

end Go.Proofs.Ytcfiaacpofpioaa
