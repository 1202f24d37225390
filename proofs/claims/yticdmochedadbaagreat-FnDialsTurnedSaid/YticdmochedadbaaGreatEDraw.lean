/- The draws of chapter 5's laws. -/
import Derived.Test.YticdmochedadbaaGreatECur
import Derived.Deep.DeepCutAuto
set_option linter.unusedSimpArgs false
set_option linter.unusedVariables false
set_option maxRecDepth 100000
namespace Go.Proofs.YticdmochedadbaaGreat
open Go.RowKit
attribute [local go_sem ↓] Go.wp_at_zero Go.wp_at_succ

set_option maxHeartbeats 1600000 in
theorem DrawTimeSeen_any (L : List Int) (a : Option Addr) (n cp : Nat) (hn : L.length = n) (hm : n ≤ 1048576) (w : World) (hB : BIn w a L) :
    Calls Tryz.prog 30 #[.slice a n cp] w fun e w' => ∃ g p q x y, e = .returned (.tuple #[.int .i64 g, sn p q x y]) ∧ (I64 g ∧ I64 p ∧ I64 q ∧ I64 x ∧ I64 y) ∧ Below w.heap.size w w' := by
  have hs : (w.alloc (Obj.cells #[.int .i64 0, .int .i64 0, .int .i64 0, .int .i64 0] 27)).heap.size = w.heap.size + 1 := by simp
  have hO : CurOK L a n (w.alloc (Obj.cells #[.int .i64 0, .int .i64 0, .int .i64 0, .int .i64 0] 27)) (w.heap.size + 1) := ⟨hn, by rw [hs]; exact Nat.le_refl _, hm, hB.below (by (repeat' (first | (with_reducible exact Below.refl _ _) | (with_reducible assumption) | (with_reducible refine Below.alloc ?_ ?_ _) | (with_reducible refine Below.drew ?_) | (with_reducible refine below_drewN ?_ _) | (with_reducible refine Below.setCell ?_ ?_ _) | (with_reducible refine below_call ?_ ?_ (by assumption)) | go_size)))⟩
  have h0 := Cur.start (w.alloc (Obj.cells #[.int .i64 0, .int .i64 0, .int .i64 0, .int .i64 0] 27)) a n cp
  rw [hs] at h0
  have HC0 := Lib.hid h0
  clear hn hm hB h0 hs
  (go_enter Tryz.func30, Tryz.ntmps30)
  go_wp2_with fail
  refine (hours_any L a n cp (w.alloc (Obj.cells #[.int .i64 0, .int .i64 0, .int .i64 0, .int .i64 0] 27)) (w.heap.size + 1) 0 hO (by omega) _ HC0.out).mono ?_
  rintro e1 w1 ⟨g, rfl, gm, hC1, hg1⟩
  have hz1 := hg1.size
  try simp only [World.size_alloc] at hz1
  have HC1 := Lib.hid hC1
  have r1_0_0 : w1.cell? ⟨w.heap.size, 0, none⟩ = some (.int .i64 0) := (World.grownBy.cell_far hg1 ⟨w.heap.size, 0, none⟩ (by first | (simp; done) | (simp; omega) | (show _ < _; simp only; omega)) (fun e => by simp only [Option.some.injEq] at e; omega)).trans (by go_simp)
  have z1_0_0 : w1.frozen? ⟨w.heap.size, 0, none⟩ = false := (World.grownBy.frozen_far hg1 ⟨w.heap.size, 0, none⟩ (by first | (simp; done) | (simp; omega) | (show _ < _; simp only; omega)) (fun e => by simp only [Option.some.injEq] at e; omega)).trans (by go_simp)
  have r1_0_1 : w1.cell? ⟨w.heap.size, 1, none⟩ = some (.int .i64 0) := (World.grownBy.cell_far hg1 ⟨w.heap.size, 1, none⟩ (by first | (simp; done) | (simp; omega) | (show _ < _; simp only; omega)) (fun e => by simp only [Option.some.injEq] at e; omega)).trans (by go_simp)
  have z1_0_1 : w1.frozen? ⟨w.heap.size, 1, none⟩ = false := (World.grownBy.frozen_far hg1 ⟨w.heap.size, 1, none⟩ (by first | (simp; done) | (simp; omega) | (show _ < _; simp only; omega)) (fun e => by simp only [Option.some.injEq] at e; omega)).trans (by go_simp)
  have r1_0_2 : w1.cell? ⟨w.heap.size, 2, none⟩ = some (.int .i64 0) := (World.grownBy.cell_far hg1 ⟨w.heap.size, 2, none⟩ (by first | (simp; done) | (simp; omega) | (show _ < _; simp only; omega)) (fun e => by simp only [Option.some.injEq] at e; omega)).trans (by go_simp)
  have z1_0_2 : w1.frozen? ⟨w.heap.size, 2, none⟩ = false := (World.grownBy.frozen_far hg1 ⟨w.heap.size, 2, none⟩ (by first | (simp; done) | (simp; omega) | (show _ < _; simp only; omega)) (fun e => by simp only [Option.some.injEq] at e; omega)).trans (by go_simp)
  have r1_0_3 : w1.cell? ⟨w.heap.size, 3, none⟩ = some (.int .i64 0) := (World.grownBy.cell_far hg1 ⟨w.heap.size, 3, none⟩ (by first | (simp; done) | (simp; omega) | (show _ < _; simp only; omega)) (fun e => by simp only [Option.some.injEq] at e; omega)).trans (by go_simp)
  have z1_0_3 : w1.frozen? ⟨w.heap.size, 3, none⟩ = false := (World.grownBy.frozen_far hg1 ⟨w.heap.size, 3, none⟩ (by first | (simp; done) | (simp; omega) | (show _ < _; simp only; omega)) (fun e => by simp only [Option.some.injEq] at e; omega)).trans (by go_simp)
  have hb1 := Cur.same hC1
  clear hC1 hg1
  go_wp2_with fail
  refine (seen_any g L a n cp (w.alloc (Obj.cells #[.int .i64 0, .int .i64 0, .int .i64 0, .int .i64 0] 27)) (w.heap.size + 1) 2 hO (by omega) _ HC1.out).mono ?_
  rintro e2 w2 ⟨p, q, x, y, rfl, ⟨ip, iq, ix, iy⟩, hC2, hg2⟩
  have hz2 := hg2.size
  try simp only [World.size_alloc] at hz2
  have HC2 := Lib.hid hC2
  have r2_0_0 : w2.cell? ⟨w.heap.size, 0, none⟩ = some (.int .i64 0) := (World.grownBy.cell_far hg2 ⟨w.heap.size, 0, none⟩ (by first | (simp; done) | (simp; omega) | (show _ < _; simp only; omega)) (fun e => by simp only [Option.some.injEq] at e; omega)).trans (r1_0_0)
  have z2_0_0 : w2.frozen? ⟨w.heap.size, 0, none⟩ = false := (World.grownBy.frozen_far hg2 ⟨w.heap.size, 0, none⟩ (by first | (simp; done) | (simp; omega) | (show _ < _; simp only; omega)) (fun e => by simp only [Option.some.injEq] at e; omega)).trans (z1_0_0)
  have r2_0_1 : w2.cell? ⟨w.heap.size, 1, none⟩ = some (.int .i64 0) := (World.grownBy.cell_far hg2 ⟨w.heap.size, 1, none⟩ (by first | (simp; done) | (simp; omega) | (show _ < _; simp only; omega)) (fun e => by simp only [Option.some.injEq] at e; omega)).trans (r1_0_1)
  have z2_0_1 : w2.frozen? ⟨w.heap.size, 1, none⟩ = false := (World.grownBy.frozen_far hg2 ⟨w.heap.size, 1, none⟩ (by first | (simp; done) | (simp; omega) | (show _ < _; simp only; omega)) (fun e => by simp only [Option.some.injEq] at e; omega)).trans (z1_0_1)
  have r2_0_2 : w2.cell? ⟨w.heap.size, 2, none⟩ = some (.int .i64 0) := (World.grownBy.cell_far hg2 ⟨w.heap.size, 2, none⟩ (by first | (simp; done) | (simp; omega) | (show _ < _; simp only; omega)) (fun e => by simp only [Option.some.injEq] at e; omega)).trans (r1_0_2)
  have z2_0_2 : w2.frozen? ⟨w.heap.size, 2, none⟩ = false := (World.grownBy.frozen_far hg2 ⟨w.heap.size, 2, none⟩ (by first | (simp; done) | (simp; omega) | (show _ < _; simp only; omega)) (fun e => by simp only [Option.some.injEq] at e; omega)).trans (z1_0_2)
  have r2_0_3 : w2.cell? ⟨w.heap.size, 3, none⟩ = some (.int .i64 0) := (World.grownBy.cell_far hg2 ⟨w.heap.size, 3, none⟩ (by first | (simp; done) | (simp; omega) | (show _ < _; simp only; omega)) (fun e => by simp only [Option.some.injEq] at e; omega)).trans (r1_0_3)
  have z2_0_3 : w2.frozen? ⟨w.heap.size, 3, none⟩ = false := (World.grownBy.frozen_far hg2 ⟨w.heap.size, 3, none⟩ (by first | (simp; done) | (simp; omega) | (show _ < _; simp only; omega)) (fun e => by simp only [Option.some.injEq] at e; omega)).trans (z1_0_3)
  clear r1_0_0 z1_0_0 r1_0_1 z1_0_1 r1_0_2 z1_0_2 r1_0_3 z1_0_3
  have hb2 := Cur.same hC2
  clear hC2 hg2
  have hbw : Below w.heap.size w w2 := (show Below w.heap.size w (w.alloc (Obj.cells #[.int .i64 0, .int .i64 0, .int .i64 0, .int .i64 0] 27)) from by (repeat' (first | (with_reducible exact Below.refl _ _) | (with_reducible assumption) | (with_reducible refine Below.alloc ?_ ?_ _) | (with_reducible refine Below.drew ?_) | (with_reducible refine below_drewN ?_ _) | (with_reducible refine Below.setCell ?_ ?_ _) | (with_reducible refine below_call ?_ ?_ (by assumption)) | go_size))).trans (hb2.mono (by omega))
  clear hb1 hb2
  have s0 : w.heap.size < w2.heap.size := by omega
  go_wp2
  (refine bodyPost_ret (by simp [results, Tryz.results30, go_sem, *]; try rfl) rfl ?_)
  exact ⟨g, p, q, x, y, rfl, ⟨i64s (by omega), ip, iq, ix, iy⟩, by (repeat' (first | (with_reducible exact Below.refl _ _) | (with_reducible assumption) | (with_reducible refine Below.alloc ?_ ?_ _) | (with_reducible refine Below.drew ?_) | (with_reducible refine below_drewN ?_ _) | (with_reducible refine Below.setCell ?_ ?_ _) | (with_reducible refine below_call ?_ ?_ (by assumption)) | go_size))⟩

set_option maxHeartbeats 1600000 in
theorem DrawIsSeen_any (L : List Int) (a : Option Addr) (n cp : Nat) (hn : L.length = n) (hm : n ≤ 1048576) (w : World) (hB : BIn w a L) :
    Calls Tryz.prog 52 #[.slice a n cp] w fun e w' => ∃ p q x y, e = .returned (sn p q x y) ∧ (I64 p ∧ I64 q ∧ I64 x ∧ I64 y) ∧ Below w.heap.size w w' := by
  have hs : (w.alloc (Obj.cells #[.int .i64 0, .int .i64 0, .int .i64 0, .int .i64 0] 27)).heap.size = w.heap.size + 1 := by simp
  have hO : CurOK L a n (w.alloc (Obj.cells #[.int .i64 0, .int .i64 0, .int .i64 0, .int .i64 0] 27)) (w.heap.size + 1) := ⟨hn, by rw [hs]; exact Nat.le_refl _, hm, hB.below (by (repeat' (first | (with_reducible exact Below.refl _ _) | (with_reducible assumption) | (with_reducible refine Below.alloc ?_ ?_ _) | (with_reducible refine Below.drew ?_) | (with_reducible refine below_drewN ?_ _) | (with_reducible refine Below.setCell ?_ ?_ _) | (with_reducible refine below_call ?_ ?_ (by assumption)) | go_size)))⟩
  have h0 := Cur.start (w.alloc (Obj.cells #[.int .i64 0, .int .i64 0, .int .i64 0, .int .i64 0] 27)) a n cp
  rw [hs] at h0
  have HC0 := Lib.hid h0
  clear hn hm hB h0 hs
  (go_enter Tryz.func52, Tryz.ntmps52)
  go_wp2_with fail
  refine (seen_any 12 L a n cp (w.alloc (Obj.cells #[.int .i64 0, .int .i64 0, .int .i64 0, .int .i64 0] 27)) (w.heap.size + 1) 0 hO (by omega) _ HC0.out).mono ?_
  rintro e1 w1 ⟨p, q, x, y, rfl, ⟨ip, iq, ix, iy⟩, hC1, hg1⟩
  have hz1 := hg1.size
  try simp only [World.size_alloc] at hz1
  have HC1 := Lib.hid hC1
  have r1_0_0 : w1.cell? ⟨w.heap.size, 0, none⟩ = some (.int .i64 0) := (World.grownBy.cell_far hg1 ⟨w.heap.size, 0, none⟩ (by first | (simp; done) | (simp; omega) | (show _ < _; simp only; omega)) (fun e => by simp only [Option.some.injEq] at e; omega)).trans (by go_simp)
  have z1_0_0 : w1.frozen? ⟨w.heap.size, 0, none⟩ = false := (World.grownBy.frozen_far hg1 ⟨w.heap.size, 0, none⟩ (by first | (simp; done) | (simp; omega) | (show _ < _; simp only; omega)) (fun e => by simp only [Option.some.injEq] at e; omega)).trans (by go_simp)
  have r1_0_1 : w1.cell? ⟨w.heap.size, 1, none⟩ = some (.int .i64 0) := (World.grownBy.cell_far hg1 ⟨w.heap.size, 1, none⟩ (by first | (simp; done) | (simp; omega) | (show _ < _; simp only; omega)) (fun e => by simp only [Option.some.injEq] at e; omega)).trans (by go_simp)
  have z1_0_1 : w1.frozen? ⟨w.heap.size, 1, none⟩ = false := (World.grownBy.frozen_far hg1 ⟨w.heap.size, 1, none⟩ (by first | (simp; done) | (simp; omega) | (show _ < _; simp only; omega)) (fun e => by simp only [Option.some.injEq] at e; omega)).trans (by go_simp)
  have r1_0_2 : w1.cell? ⟨w.heap.size, 2, none⟩ = some (.int .i64 0) := (World.grownBy.cell_far hg1 ⟨w.heap.size, 2, none⟩ (by first | (simp; done) | (simp; omega) | (show _ < _; simp only; omega)) (fun e => by simp only [Option.some.injEq] at e; omega)).trans (by go_simp)
  have z1_0_2 : w1.frozen? ⟨w.heap.size, 2, none⟩ = false := (World.grownBy.frozen_far hg1 ⟨w.heap.size, 2, none⟩ (by first | (simp; done) | (simp; omega) | (show _ < _; simp only; omega)) (fun e => by simp only [Option.some.injEq] at e; omega)).trans (by go_simp)
  have r1_0_3 : w1.cell? ⟨w.heap.size, 3, none⟩ = some (.int .i64 0) := (World.grownBy.cell_far hg1 ⟨w.heap.size, 3, none⟩ (by first | (simp; done) | (simp; omega) | (show _ < _; simp only; omega)) (fun e => by simp only [Option.some.injEq] at e; omega)).trans (by go_simp)
  have z1_0_3 : w1.frozen? ⟨w.heap.size, 3, none⟩ = false := (World.grownBy.frozen_far hg1 ⟨w.heap.size, 3, none⟩ (by first | (simp; done) | (simp; omega) | (show _ < _; simp only; omega)) (fun e => by simp only [Option.some.injEq] at e; omega)).trans (by go_simp)
  have hb1 := Cur.same hC1
  clear hC1 hg1
  have hbw : Below w.heap.size w w1 := (show Below w.heap.size w (w.alloc (Obj.cells #[.int .i64 0, .int .i64 0, .int .i64 0, .int .i64 0] 27)) from by (repeat' (first | (with_reducible exact Below.refl _ _) | (with_reducible assumption) | (with_reducible refine Below.alloc ?_ ?_ _) | (with_reducible refine Below.drew ?_) | (with_reducible refine below_drewN ?_ _) | (with_reducible refine Below.setCell ?_ ?_ _) | (with_reducible refine below_call ?_ ?_ (by assumption)) | go_size))).trans (hb1.mono (by omega))
  clear hb1
  have s0 : w.heap.size < w1.heap.size := by omega
  go_wp2
  (refine bodyPost_ret (by simp [results, Tryz.results52, go_sem, *]; try rfl) rfl ?_)
  exact ⟨p, q, x, y, rfl, ⟨ip, iq, ix, iy⟩, by (repeat' (first | (with_reducible exact Below.refl _ _) | (with_reducible assumption) | (with_reducible refine Below.alloc ?_ ?_ _) | (with_reducible refine Below.drew ?_) | (with_reducible refine below_drewN ?_ _) | (with_reducible refine Below.setCell ?_ ?_ _) | (with_reducible refine below_call ?_ ?_ (by assumption)) | go_size))⟩

end Go.Proofs.YticdmochedadbaaGreat
