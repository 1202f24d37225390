/- The draws of chapter 5's laws. -/
import Derived.Test.YticdmochedadbaaECur
import Derived.Deep.DeepCutAuto
set_option linter.unusedSimpArgs false
set_option linter.unusedVariables false
set_option maxRecDepth 100000
namespace Go.Proofs.Yticdmochedadbaa
open Go.RowKit
attribute [local go_sem ↓] Go.wp_at_zero Go.wp_at_succ

set_option maxHeartbeats 1600000 in
theorem DrawTimeSeen_any (L : List Int) (a : Option Addr) (n cp : Nat) (hn : L.length = n) (hm : n ≤ 1048576) (w : World) (hB : BIn w a L) :
    Calls Try.prog 28 #[.slice a n cp] w fun e w' => ∃ g p q x y, e = .returned (.tuple #[.int .i64 g, sn p q x y]) ∧ (I64 g ∧ I64 p ∧ I64 q ∧ I64 x ∧ I64 y) ∧ Below w.heap.size w w' := by
  have hs : (w.alloc (Obj.cells #[.int .i64 0, .int .i64 0, .int .i64 0, .int .i64 0] 31)).heap.size = w.heap.size + 1 := by simp
  have hO : CurOK L a n (w.alloc (Obj.cells #[.int .i64 0, .int .i64 0, .int .i64 0, .int .i64 0] 31)) (w.heap.size + 1) := ⟨hn, by rw [hs]; exact Nat.le_refl _, hm, hB.below (by (repeat' (first | (with_reducible exact Below.refl _ _) | (with_reducible assumption) | (with_reducible refine Below.alloc ?_ ?_ _) | (with_reducible refine Below.drew ?_) | (with_reducible refine below_drewN ?_ _) | (with_reducible refine Below.setCell ?_ ?_ _) | (with_reducible refine below_call ?_ ?_ (by assumption)) | go_size)))⟩
  have h0 := Cur.start (w.alloc (Obj.cells #[.int .i64 0, .int .i64 0, .int .i64 0, .int .i64 0] 31)) a n cp
  rw [hs] at h0
  have HC0 := Lib.hid h0
  clear hn hm hB h0 hs
  (go_enter Try.func28, Try.ntmps28)
  go_wp2_with fail
  refine (hours_any L a n cp (w.alloc (Obj.cells #[.int .i64 0, .int .i64 0, .int .i64 0, .int .i64 0] 31)) (w.heap.size + 1) 0 hO (by omega) _ HC0.out).mono ?_
  rintro e1 w1 ⟨g, rfl, gm, hC1, hg1⟩
  have hz1 := hg1.size
  try simp only [World.size_alloc] at hz1
  have HC1 := Lib.hid hC1
  have r1_0_0 : w1.cell? ⟨w.heap.size, 0, none⟩ = some (.int .i64 0) := (World.grownBy.cell_far hg1 ⟨w.heap.size, 0, none⟩ (by first | (simp; done) | (simp; omega) | (show _ < _; simp only; omega)) (fun e => by simp only [Option.some.injEq] at e; omega)).trans (by go_simp)
  have z1_0_0 : w1.frozen? ⟨w.heap.size, 0, none⟩ = false := (World.grownBy.frozen_far hg1 ⟨w.heap.size, 0, none⟩ (by first | (simp; done) | (simp; omega) | (show _ < _; simp only; omega)) (fun e => by simp only [Option.some.injEq] at e; omega)).trans (by go_simp)
  have r1_0_1 : w1.cell? ⟨w.heap.size, 1, none⟩ = some (.int .i64 0) := (World.grownBy.cell_far hg1 ⟨w.heap.size, 1, none⟩ (by first | (simp; done) | (simp; omega) | (show _ < _; simp only; omega)) (fun e => by simp only [Option.some.injEq] at e; omega)).trans (by go_simp)
  have z1_0_1 : w1.frozen? ⟨w.heap.size, 1, none⟩ = false := (World.grownBy.frozen_far hg1 ⟨w.heap.size, 1, none⟩ (by first | (simp; done) | (simp; omega) | (show _ < _; simp only; omega)) (fun e => by simp only [Option.some.injEq] at e; omega)).trans (by go_simp)
  have r1_0_2 : w1.cell? ⟨w.heap.size, 2, none⟩ = some (.int .i64 0) := (World.grownBy.cell_far hg1 ⟨w.heap.size, 2, none⟩ (by first | (simp; done) | (simp; omega) | (show _ < _; simp only; omega)) (fun e => by simp only [Option.some.injEq] at e; omega)).trans (by go_simp)
  have z1_0_2 : w1.frozen? ⟨w.heap.size, 2, none⟩ = false := (World.grownBy.frozen_far hg1 ⟨w.heap.size, 2, none⟩ (by first | (simp; done) | (simp; omega) | (show _ < _; simp only; omega)) (fun e => by simp only [Option.some.injEq] at e; omega)).trans (by go_simp)
  have r1_0_3 : w1.cell? ⟨w.heap.size, 3, none⟩ = some (.int .i64 0) := (World.grownBy.cell_far hg1 ⟨w.heap.size, 3, none⟩ (by first | (simp; done) | (simp; omega) | (show _ < _; simp only; omega)) (fun e => by simp only [Option.some.injEq] at e; omega)).trans (by go_simp)
  have z1_0_3 : w1.frozen? ⟨w.heap.size, 3, none⟩ = false := (World.grownBy.frozen_far hg1 ⟨w.heap.size, 3, none⟩ (by first | (simp; done) | (simp; omega) | (show _ < _; simp only; omega)) (fun e => by simp only [Option.some.injEq] at e; omega)).trans (by go_simp)
  have hb1 := Cur.same hC1
  clear hC1 hg1
  go_wp2_with fail
  refine (seen_any g L a n cp (w.alloc (Obj.cells #[.int .i64 0, .int .i64 0, .int .i64 0, .int .i64 0] 31)) (w.heap.size + 1) 2 hO (by omega) _ HC1.out).mono ?_
  rintro e2 w2 ⟨p, q, x, y, rfl, ⟨ip, iq, ix, iy⟩, hC2, hg2⟩
  have hz2 := hg2.size
  try simp only [World.size_alloc] at hz2
  have HC2 := Lib.hid hC2
  have r2_0_0 : w2.cell? ⟨w.heap.size, 0, none⟩ = some (.int .i64 0) := (World.grownBy.cell_far hg2 ⟨w.heap.size, 0, none⟩ (by first | (simp; done) | (simp; omega) | (show _ < _; simp only; omega)) (fun e => by simp only [Option.some.injEq] at e; omega)).trans (r1_0_0)
  have z2_0_0 : w2.frozen? ⟨w.heap.size, 0, none⟩ = false := (World.grownBy.frozen_far hg2 ⟨w.heap.size, 0, none⟩ (by first | (simp; done) | (simp; omega) | (show _ < _; simp only; omega)) (fun e => by simp only [Option.some.injEq] at e; omega)).trans (z1_0_0)
  have r2_0_1 : w2.cell? ⟨w.heap.size, 1, none⟩ = some (.int .i64 0) := (World.grownBy.cell_far hg2 ⟨w.heap.size, 1, none⟩ (by first | (simp; done) | (simp; omega) | (show _ < _; simp only; omega)) (fun e => by simp only [Option.some.injEq] at e; omega)).trans (r1_0_1)
  have z2_0_1 : w2.frozen? ⟨w.heap.size, 1, none⟩ = false := (World.grownBy.frozen_far hg2 ⟨w.heap.size, 1, none⟩ (by first | (simp; done) | (simp; omega) | (show _ < _; simp only; omega)) (fun e => by simp only [Option.some.injEq] at e; omega)).trans (z1_0_1)
  have r2_0_2 : w2.cell? ⟨w.heap.size, 2, none⟩ = some (.int .i64 0) := (World.grownBy.cell_far hg2 ⟨w.heap.size, 2, none⟩ (by first | (simp; done) | (simp; omega) | (show _ < _; simp only; omega)) (fun e => by simp only [Option.some.injEq] at e; omega)).trans (r1_0_2)
  have z2_0_2 : w2.frozen? ⟨w.heap.size, 2, none⟩ = false := (World.grownBy.frozen_far hg2 ⟨w.heap.size, 2, none⟩ (by first | (simp; done) | (simp; omega) | (show _ < _; simp only; omega)) (fun e => by simp only [Option.some.injEq] at e; omega)).trans (z1_0_2)
  have r2_0_3 : w2.cell? ⟨w.heap.size, 3, none⟩ = some (.int .i64 0) := (World.grownBy.cell_far hg2 ⟨w.heap.size, 3, none⟩ (by first | (simp; done) | (simp; omega) | (show _ < _; simp only; omega)) (fun e => by simp only [Option.some.injEq] at e; omega)).trans (r1_0_3)
  have z2_0_3 : w2.frozen? ⟨w.heap.size, 3, none⟩ = false := (World.grownBy.frozen_far hg2 ⟨w.heap.size, 3, none⟩ (by first | (simp; done) | (simp; omega) | (show _ < _; simp only; omega)) (fun e => by simp only [Option.some.injEq] at e; omega)).trans (z1_0_3)
  clear r1_0_0 z1_0_0 r1_0_1 z1_0_1 r1_0_2 z1_0_2 r1_0_3 z1_0_3
  have hb2 := Cur.same hC2
  clear hC2 hg2
  have hbw : Below w.heap.size w w2 := (show Below w.heap.size w (w.alloc (Obj.cells #[.int .i64 0, .int .i64 0, .int .i64 0, .int .i64 0] 31)) from by (repeat' (first | (with_reducible exact Below.refl _ _) | (with_reducible assumption) | (with_reducible refine Below.alloc ?_ ?_ _) | (with_reducible refine Below.drew ?_) | (with_reducible refine below_drewN ?_ _) | (with_reducible refine Below.setCell ?_ ?_ _) | (with_reducible refine below_call ?_ ?_ (by assumption)) | go_size))).trans (hb2.mono (by omega))
  clear hb1 hb2
  have s0 : w.heap.size < w2.heap.size := by omega
  go_wp2
  (refine bodyPost_ret (by simp [results, Try.results28, go_sem, *]; try rfl) rfl ?_)
  exact ⟨g, p, q, x, y, rfl, ⟨i64s (by omega), ip, iq, ix, iy⟩, by (repeat' (first | (with_reducible exact Below.refl _ _) | (with_reducible assumption) | (with_reducible refine Below.alloc ?_ ?_ _) | (with_reducible refine Below.drew ?_) | (with_reducible refine below_drewN ?_ _) | (with_reducible refine Below.setCell ?_ ?_ _) | (with_reducible refine below_call ?_ ?_ (by assumption)) | go_size))⟩

set_option maxHeartbeats 1600000 in
theorem DrawIsSeen_any (L : List Int) (a : Option Addr) (n cp : Nat) (hn : L.length = n) (hm : n ≤ 1048576) (w : World) (hB : BIn w a L) :
    Calls Try.prog 32 #[.slice a n cp] w fun e w' => ∃ p q x y, e = .returned (sn p q x y) ∧ (I64 p ∧ I64 q ∧ I64 x ∧ I64 y) ∧ Below w.heap.size w w' := by
  have hs : (w.alloc (Obj.cells #[.int .i64 0, .int .i64 0, .int .i64 0, .int .i64 0] 31)).heap.size = w.heap.size + 1 := by simp
  have hO : CurOK L a n (w.alloc (Obj.cells #[.int .i64 0, .int .i64 0, .int .i64 0, .int .i64 0] 31)) (w.heap.size + 1) := ⟨hn, by rw [hs]; exact Nat.le_refl _, hm, hB.below (by (repeat' (first | (with_reducible exact Below.refl _ _) | (with_reducible assumption) | (with_reducible refine Below.alloc ?_ ?_ _) | (with_reducible refine Below.drew ?_) | (with_reducible refine below_drewN ?_ _) | (with_reducible refine Below.setCell ?_ ?_ _) | (with_reducible refine below_call ?_ ?_ (by assumption)) | go_size)))⟩
  have h0 := Cur.start (w.alloc (Obj.cells #[.int .i64 0, .int .i64 0, .int .i64 0, .int .i64 0] 31)) a n cp
  rw [hs] at h0
  have HC0 := Lib.hid h0
  clear hn hm hB h0 hs
  (go_enter Try.func32, Try.ntmps32)
  go_wp2_with fail
  refine (seen_any 12 L a n cp (w.alloc (Obj.cells #[.int .i64 0, .int .i64 0, .int .i64 0, .int .i64 0] 31)) (w.heap.size + 1) 0 hO (by omega) _ HC0.out).mono ?_
  rintro e1 w1 ⟨p, q, x, y, rfl, ⟨ip, iq, ix, iy⟩, hC1, hg1⟩
  have hz1 := hg1.size
  try simp only [World.size_alloc] at hz1
  have HC1 := Lib.hid hC1
  have r1_0_0 : w1.cell? ⟨w.heap.size, 0, none⟩ = some (.int .i64 0) := (World.grownBy.cell_far hg1 ⟨w.heap.size, 0, none⟩ (by first | (simp; done) | (simp; omega) | (show _ < _; simp only; omega)) (fun e => by simp only [Option.some.injEq] at e; omega)).trans (by go_simp)
  have z1_0_0 : w1.frozen? ⟨w.heap.size, 0, none⟩ = false := (World.grownBy.frozen_far hg1 ⟨w.heap.size, 0, none⟩ (by first | (simp; done) | (simp; omega) | (show _ < _; simp only; omega)) (fun e => by simp only [Option.some.injEq] at e; omega)).trans (by go_simp)
  have r1_0_1 : w1.cell? ⟨w.heap.size, 1, none⟩ = some (.int .i64 0) := (World.grownBy.cell_far hg1 ⟨w.heap.size, 1, none⟩ (by first | (simp; done) | (simp; omega) | (show _ < _; simp only; omega)) (fun e => by simp only [Option.some.injEq] at e; omega)).trans (by go_simp)
  have z1_0_1 : w1.frozen? ⟨w.heap.size, 1, none⟩ = false := (World.grownBy.frozen_far hg1 ⟨w.heap.size, 1, none⟩ (by first | (simp; done) | (simp; omega) | (show _ < _; simp only; omega)) (fun e => by simp only [Option.some.injEq] at e; omega)).trans (by go_simp)
  have r1_0_2 : w1.cell? ⟨w.heap.size, 2, none⟩ = some (.int .i64 0) := (World.grownBy.cell_far hg1 ⟨w.heap.size, 2, none⟩ (by first | (simp; done) | (simp; omega) | (show _ < _; simp only; omega)) (fun e => by simp only [Option.some.injEq] at e; omega)).trans (by go_simp)
  have z1_0_2 : w1.frozen? ⟨w.heap.size, 2, none⟩ = false := (World.grownBy.frozen_far hg1 ⟨w.heap.size, 2, none⟩ (by first | (simp; done) | (simp; omega) | (show _ < _; simp only; omega)) (fun e => by simp only [Option.some.injEq] at e; omega)).trans (by go_simp)
  have r1_0_3 : w1.cell? ⟨w.heap.size, 3, none⟩ = some (.int .i64 0) := (World.grownBy.cell_far hg1 ⟨w.heap.size, 3, none⟩ (by first | (simp; done) | (simp; omega) | (show _ < _; simp only; omega)) (fun e => by simp only [Option.some.injEq] at e; omega)).trans (by go_simp)
  have z1_0_3 : w1.frozen? ⟨w.heap.size, 3, none⟩ = false := (World.grownBy.frozen_far hg1 ⟨w.heap.size, 3, none⟩ (by first | (simp; done) | (simp; omega) | (show _ < _; simp only; omega)) (fun e => by simp only [Option.some.injEq] at e; omega)).trans (by go_simp)
  have hb1 := Cur.same hC1
  clear hC1 hg1
  have hbw : Below w.heap.size w w1 := (show Below w.heap.size w (w.alloc (Obj.cells #[.int .i64 0, .int .i64 0, .int .i64 0, .int .i64 0] 31)) from by (repeat' (first | (with_reducible exact Below.refl _ _) | (with_reducible assumption) | (with_reducible refine Below.alloc ?_ ?_ _) | (with_reducible refine Below.drew ?_) | (with_reducible refine below_drewN ?_ _) | (with_reducible refine Below.setCell ?_ ?_ _) | (with_reducible refine below_call ?_ ?_ (by assumption)) | go_size))).trans (hb1.mono (by omega))
  clear hb1
  have s0 : w.heap.size < w1.heap.size := by omega
  go_wp2
  (refine bodyPost_ret (by simp [results, Try.results32, go_sem, *]; try rfl) rfl ?_)
  exact ⟨p, q, x, y, rfl, ⟨ip, iq, ix, iy⟩, by (repeat' (first | (with_reducible exact Below.refl _ _) | (with_reducible assumption) | (with_reducible refine Below.alloc ?_ ?_ _) | (with_reducible refine Below.drew ?_) | (with_reducible refine below_drewN ?_ _) | (with_reducible refine Below.setCell ?_ ?_ _) | (with_reducible refine below_call ?_ ?_ (by assumption)) | go_size))⟩

set_option maxHeartbeats 1600000 in
theorem DrawAllExchanged_any (L : List Int) (a : Option Addr) (n cp : Nat) (hn : L.length = n) (hm : n ≤ 1048576) (w : World) (hB : BIn w a L) :
    Calls Try.prog 19 #[.slice a n cp] w fun e w' => ∃ g, e = .returned (.int .i64 g) ∧ (I64 g) ∧ Below w.heap.size w w' := by
  have hO : CurOK L a n w w.heap.size := ⟨hn, Nat.le_refl _, hm, hB⟩
  have HC0 := Lib.hid (Cur.start w a n cp)
  clear hn hm hB
  (go_enter Try.func19, Try.ntmps19)
  go_wp2_with fail
  refine (hours_any L a n cp w w.heap.size 0 hO (by omega) _ HC0.out).mono ?_
  rintro e1 w1 ⟨g, rfl, gm, hC1, hg1⟩
  have hb1 := Cur.same hC1
  clear hC1 hg1
  go_wp2
  go_ret
  exact ⟨g, rfl, i64s (by omega), hb1⟩

set_option maxHeartbeats 1600000 in
theorem DrawExchangedTime_any (L : List Int) (a : Option Addr) (n cp : Nat) (hn : L.length = n) (hm : n ≤ 1048576) (w : World) (hB : BIn w a L) :
    Calls Try.prog 7 #[.slice a n cp] w fun e w' => ∃ g p q, e = .returned (.tuple #[.int .i64 g, tv p q]) ∧ (I64 g ∧ I64 p ∧ I64 q) ∧ Below w.heap.size w w' := by
  have hs : (w.alloc (Obj.cells #[.int .i64 0, .int .i64 0] 25)).heap.size = w.heap.size + 1 := by simp
  have hO : CurOK L a n (w.alloc (Obj.cells #[.int .i64 0, .int .i64 0] 25)) (w.heap.size + 1) := ⟨hn, by rw [hs]; exact Nat.le_refl _, hm, hB.below (by (repeat' (first | (with_reducible exact Below.refl _ _) | (with_reducible assumption) | (with_reducible refine Below.alloc ?_ ?_ _) | (with_reducible refine Below.drew ?_) | (with_reducible refine below_drewN ?_ _) | (with_reducible refine Below.setCell ?_ ?_ _) | (with_reducible refine below_call ?_ ?_ (by assumption)) | go_size)))⟩
  have h0 := Cur.start (w.alloc (Obj.cells #[.int .i64 0, .int .i64 0] 25)) a n cp
  rw [hs] at h0
  have HC0 := Lib.hid h0
  clear hn hm hB h0 hs
  (go_enter Try.func7, Try.ntmps7)
  go_wp2_with fail
  refine (hours_any L a n cp (w.alloc (Obj.cells #[.int .i64 0, .int .i64 0] 25)) (w.heap.size + 1) 0 hO (by omega) _ HC0.out).mono ?_
  rintro e1 w1 ⟨g, rfl, gm, hC1, hg1⟩
  have hz1 := hg1.size
  try simp only [World.size_alloc] at hz1
  have HC1 := Lib.hid hC1
  have r1_0_0 : w1.cell? ⟨w.heap.size, 0, none⟩ = some (.int .i64 0) := (World.grownBy.cell_far hg1 ⟨w.heap.size, 0, none⟩ (by first | (simp; done) | (simp; omega) | (show _ < _; simp only; omega)) (fun e => by simp only [Option.some.injEq] at e; omega)).trans (by go_simp)
  have z1_0_0 : w1.frozen? ⟨w.heap.size, 0, none⟩ = false := (World.grownBy.frozen_far hg1 ⟨w.heap.size, 0, none⟩ (by first | (simp; done) | (simp; omega) | (show _ < _; simp only; omega)) (fun e => by simp only [Option.some.injEq] at e; omega)).trans (by go_simp)
  have r1_0_1 : w1.cell? ⟨w.heap.size, 1, none⟩ = some (.int .i64 0) := (World.grownBy.cell_far hg1 ⟨w.heap.size, 1, none⟩ (by first | (simp; done) | (simp; omega) | (show _ < _; simp only; omega)) (fun e => by simp only [Option.some.injEq] at e; omega)).trans (by go_simp)
  have z1_0_1 : w1.frozen? ⟨w.heap.size, 1, none⟩ = false := (World.grownBy.frozen_far hg1 ⟨w.heap.size, 1, none⟩ (by first | (simp; done) | (simp; omega) | (show _ < _; simp only; omega)) (fun e => by simp only [Option.some.injEq] at e; omega)).trans (by go_simp)
  have hb1 := Cur.same hC1
  clear hC1 hg1
  cases gh : inB g 2 24
  · go_wp2_with fail
    refine (diHours_is g gh _).mono ?_
    rintro ex wx ⟨rfl, rfl⟩
    go_wp2_with fail
    refine (turn_any L a n cp (w.alloc (Obj.cells #[.int .i64 0, .int .i64 0] 25)) (w.heap.size + 1) 2 hO (by omega) _ HC1.out).mono ?_
    rintro e2 w2 ⟨p, q, rfl, ⟨ip, iq⟩, hC2, hg2⟩
    have hz2 := hg2.size
    try simp only [World.size_alloc] at hz2
    have HC2 := Lib.hid hC2
    have r2_0_0 : w2.cell? ⟨w.heap.size, 0, none⟩ = some (.int .i64 0) := (World.grownBy.cell_far hg2 ⟨w.heap.size, 0, none⟩ (by first | (simp; done) | (simp; omega) | (show _ < _; simp only; omega)) (fun e => by simp only [Option.some.injEq] at e; omega)).trans (r1_0_0)
    have z2_0_0 : w2.frozen? ⟨w.heap.size, 0, none⟩ = false := (World.grownBy.frozen_far hg2 ⟨w.heap.size, 0, none⟩ (by first | (simp; done) | (simp; omega) | (show _ < _; simp only; omega)) (fun e => by simp only [Option.some.injEq] at e; omega)).trans (z1_0_0)
    have r2_0_1 : w2.cell? ⟨w.heap.size, 1, none⟩ = some (.int .i64 0) := (World.grownBy.cell_far hg2 ⟨w.heap.size, 1, none⟩ (by first | (simp; done) | (simp; omega) | (show _ < _; simp only; omega)) (fun e => by simp only [Option.some.injEq] at e; omega)).trans (r1_0_1)
    have z2_0_1 : w2.frozen? ⟨w.heap.size, 1, none⟩ = false := (World.grownBy.frozen_far hg2 ⟨w.heap.size, 1, none⟩ (by first | (simp; done) | (simp; omega) | (show _ < _; simp only; omega)) (fun e => by simp only [Option.some.injEq] at e; omega)).trans (z1_0_1)
    clear r1_0_0 z1_0_0 r1_0_1 z1_0_1
    have hb2 := Cur.same hC2
    clear hC2 hg2
    have hbw : Below w.heap.size w w2 := (show Below w.heap.size w (w.alloc (Obj.cells #[.int .i64 0, .int .i64 0] 25)) from by (repeat' (first | (with_reducible exact Below.refl _ _) | (with_reducible assumption) | (with_reducible refine Below.alloc ?_ ?_ _) | (with_reducible refine Below.drew ?_) | (with_reducible refine below_drewN ?_ _) | (with_reducible refine Below.setCell ?_ ?_ _) | (with_reducible refine below_call ?_ ?_ (by assumption)) | go_size))).trans (hb2.mono (by omega))
    have s0 : w.heap.size < w2.heap.size := by omega
    go_wp2
    (refine bodyPost_ret (by simp [results, Try.results7, go_sem, *]; try rfl) rfl ?_)
    exact ⟨g, p, q, rfl, ⟨i64s (by omega), ip, iq⟩, by (repeat' (first | (with_reducible exact Below.refl _ _) | (with_reducible assumption) | (with_reducible refine Below.alloc ?_ ?_ _) | (with_reducible refine Below.drew ?_) | (with_reducible refine below_drewN ?_ _) | (with_reducible refine Below.setCell ?_ ?_ _) | (with_reducible refine below_call ?_ ?_ (by assumption)) | go_size))⟩

  obtain ⟨gh1, gh2⟩ := inB_bd gh
  have hq2 := hhE ⟨gh1, gh2⟩
  go_wp2_with fail
  refine (diHours_is g gh _).mono ?_
  rintro ex wx ⟨rfl, rfl⟩
  go_wp2_with fail
  refine (one_any L a n cp (w.alloc (Obj.cells #[.int .i64 0, .int .i64 0] 25)) (w.heap.size + 1) 2 4 (by omega) hO (by omega) _ HC1.out).mono ?_
  rintro e2 w2 ⟨o4, rfl, hC2, hg2⟩
  have hz2 := hg2.size
  try simp only [World.size_alloc] at hz2
  have HC2 := Lib.hid hC2
  have r2_0_0 : w2.cell? ⟨w.heap.size, 0, none⟩ = some (.int .i64 0) := (World.grownBy.cell_far hg2 ⟨w.heap.size, 0, none⟩ (by first | (simp; done) | (simp; omega) | (show _ < _; simp only; omega)) (fun e => by simp only [Option.some.injEq] at e; omega)).trans (r1_0_0)
  have z2_0_0 : w2.frozen? ⟨w.heap.size, 0, none⟩ = false := (World.grownBy.frozen_far hg2 ⟨w.heap.size, 0, none⟩ (by first | (simp; done) | (simp; omega) | (show _ < _; simp only; omega)) (fun e => by simp only [Option.some.injEq] at e; omega)).trans (z1_0_0)
  have r2_0_1 : w2.cell? ⟨w.heap.size, 1, none⟩ = some (.int .i64 0) := (World.grownBy.cell_far hg2 ⟨w.heap.size, 1, none⟩ (by first | (simp; done) | (simp; omega) | (show _ < _; simp only; omega)) (fun e => by simp only [Option.some.injEq] at e; omega)).trans (r1_0_1)
  have z2_0_1 : w2.frozen? ⟨w.heap.size, 1, none⟩ = false := (World.grownBy.frozen_far hg2 ⟨w.heap.size, 1, none⟩ (by first | (simp; done) | (simp; omega) | (show _ < _; simp only; omega)) (fun e => by simp only [Option.some.injEq] at e; omega)).trans (z1_0_1)
  clear r1_0_0 z1_0_0 r1_0_1 z1_0_1
  have hb2 := Cur.same hC2
  clear hC2 hg2
  cases o4 with
  | true =>
    go_wp2_with fail
    refine (turn_any L a n cp (w.alloc (Obj.cells #[.int .i64 0, .int .i64 0] 25)) (w.heap.size + 1) 4 hO (by omega) _ HC2.out).mono ?_
    rintro e3 w3 ⟨p, q, rfl, ⟨ip, iq⟩, hC3, hg3⟩
    have hz3 := hg3.size
    try simp only [World.size_alloc] at hz3
    have HC3 := Lib.hid hC3
    have r3_0_0 : w3.cell? ⟨w.heap.size, 0, none⟩ = some (.int .i64 0) := (World.grownBy.cell_far hg3 ⟨w.heap.size, 0, none⟩ (by first | (simp; done) | (simp; omega) | (show _ < _; simp only; omega)) (fun e => by simp only [Option.some.injEq] at e; omega)).trans (r2_0_0)
    have z3_0_0 : w3.frozen? ⟨w.heap.size, 0, none⟩ = false := (World.grownBy.frozen_far hg3 ⟨w.heap.size, 0, none⟩ (by first | (simp; done) | (simp; omega) | (show _ < _; simp only; omega)) (fun e => by simp only [Option.some.injEq] at e; omega)).trans (z2_0_0)
    have r3_0_1 : w3.cell? ⟨w.heap.size, 1, none⟩ = some (.int .i64 0) := (World.grownBy.cell_far hg3 ⟨w.heap.size, 1, none⟩ (by first | (simp; done) | (simp; omega) | (show _ < _; simp only; omega)) (fun e => by simp only [Option.some.injEq] at e; omega)).trans (r2_0_1)
    have z3_0_1 : w3.frozen? ⟨w.heap.size, 1, none⟩ = false := (World.grownBy.frozen_far hg3 ⟨w.heap.size, 1, none⟩ (by first | (simp; done) | (simp; omega) | (show _ < _; simp only; omega)) (fun e => by simp only [Option.some.injEq] at e; omega)).trans (z2_0_1)
    clear r2_0_0 z2_0_0 r2_0_1 z2_0_1
    have hb3 := Cur.same hC3
    clear hC3 hg3
    have hbw : Below w.heap.size w w3 := (show Below w.heap.size w (w.alloc (Obj.cells #[.int .i64 0, .int .i64 0] 25)) from by (repeat' (first | (with_reducible exact Below.refl _ _) | (with_reducible assumption) | (with_reducible refine Below.alloc ?_ ?_ _) | (with_reducible refine Below.drew ?_) | (with_reducible refine below_drewN ?_ _) | (with_reducible refine Below.setCell ?_ ?_ _) | (with_reducible refine below_call ?_ ?_ (by assumption)) | go_size))).trans (hb3.mono (by omega))
    have s0 : w.heap.size < w3.heap.size := by omega
    go_wp2
    (refine bodyPost_ret (by simp [results, Try.results7, go_sem, *]; try rfl) rfl ?_)
    exact ⟨g, p, q, rfl, ⟨i64s (by omega), ip, iq⟩, by (repeat' (first | (with_reducible exact Below.refl _ _) | (with_reducible assumption) | (with_reducible refine Below.alloc ?_ ?_ _) | (with_reducible refine Below.drew ?_) | (with_reducible refine below_drewN ?_ _) | (with_reducible refine Below.setCell ?_ ?_ _) | (with_reducible refine below_call ?_ ?_ (by assumption)) | go_size))⟩

  | false =>
    have hwh : IntKind.i64.wrap (g * g) = g * g := by rw [IntKind.wrap_i64]; omega
    have hwN : IntKind.i64.wrap (g * g - 1) = g * g - 1 := by rw [IntKind.wrap_i64]; omega
    obtain ⟨N, hN⟩ : ∃ N, g * g - 1 = N := ⟨_, rfl⟩
    go_wp2_with fail
    refine (pick_any L a n cp (w.alloc (Obj.cells #[.int .i64 0, .int .i64 0] 25)) (w.heap.size + 1) 4 (g * g) (by omega) hO (by omega) _ HC2.out).mono ?_
    rintro e3 w3 ⟨j, rfl, hj, hC3, hg3⟩
    have hz3 := hg3.size
    try simp only [World.size_alloc] at hz3
    have HC3 := Lib.hid hC3
    have r3_0_0 : w3.cell? ⟨w.heap.size, 0, none⟩ = some (.int .i64 0) := (World.grownBy.cell_far hg3 ⟨w.heap.size, 0, none⟩ (by first | (simp; done) | (simp; omega) | (show _ < _; simp only; omega)) (fun e => by simp only [Option.some.injEq] at e; omega)).trans (r2_0_0)
    have z3_0_0 : w3.frozen? ⟨w.heap.size, 0, none⟩ = false := (World.grownBy.frozen_far hg3 ⟨w.heap.size, 0, none⟩ (by first | (simp; done) | (simp; omega) | (show _ < _; simp only; omega)) (fun e => by simp only [Option.some.injEq] at e; omega)).trans (z2_0_0)
    have r3_0_1 : w3.cell? ⟨w.heap.size, 1, none⟩ = some (.int .i64 0) := (World.grownBy.cell_far hg3 ⟨w.heap.size, 1, none⟩ (by first | (simp; done) | (simp; omega) | (show _ < _; simp only; omega)) (fun e => by simp only [Option.some.injEq] at e; omega)).trans (r2_0_1)
    have z3_0_1 : w3.frozen? ⟨w.heap.size, 1, none⟩ = false := (World.grownBy.frozen_far hg3 ⟨w.heap.size, 1, none⟩ (by first | (simp; done) | (simp; omega) | (show _ < _; simp only; omega)) (fun e => by simp only [Option.some.injEq] at e; omega)).trans (z2_0_1)
    clear r2_0_0 z2_0_0 r2_0_1 z2_0_1
    have hb3 := Cur.same hC3
    clear hC3 hg3
    have j0 : (0 : Int) ≤ (j : Int) := Int.natCast_nonneg _
    have hjb : (j : Int) ≤ 576 := by omega
    rw [hN] at hwN
    have hNb : 3 ≤ N ∧ N ≤ 575 := by omega
    obtain ⟨x, y, ok, hM⟩ : ∃ x y o, mk (j : Int) N = (x, y, o) := ⟨_, _, _, rfl⟩
    obtain ⟨hx1, hx2, hy1, hy2⟩ := mk_bdE hNb hM
    have HM := Lib.hid hM
    clear hM hj
    go_wp2_with fail
    refine (diMake_val (j : Int) N HM.out (by omega) (by omega) _).mono ?_
    rintro e4 w4 ⟨rfl, hb4⟩
    obtain ⟨hc4, hf4⟩ := bcell hb4
    have hz4 := hb4.size
    have r4_0_0 : w4.cell? ⟨w.heap.size, 0, none⟩ = some (.int .i64 0) := (hc4 _ _ (by omega)).trans r3_0_0
    have z4_0_0 : w4.frozen? ⟨w.heap.size, 0, none⟩ = false := (hf4 _ _ (by omega)).trans z3_0_0
    have r4_0_1 : w4.cell? ⟨w.heap.size, 1, none⟩ = some (.int .i64 0) := (hc4 _ _ (by omega)).trans r3_0_1
    have z4_0_1 : w4.frozen? ⟨w.heap.size, 1, none⟩ = false := (hf4 _ _ (by omega)).trans z3_0_1
    have hbw : Below w.heap.size w w4 := ((show Below w.heap.size w (w.alloc (Obj.cells #[.int .i64 0, .int .i64 0] 25)) from by (repeat' (first | (with_reducible exact Below.refl _ _) | (with_reducible assumption) | (with_reducible refine Below.alloc ?_ ?_ _) | (with_reducible refine Below.drew ?_) | (with_reducible refine below_drewN ?_ _) | (with_reducible refine Below.setCell ?_ ?_ _) | (with_reducible refine below_call ?_ ?_ (by assumption)) | go_size))).trans (hb3.mono (by omega))).trans (hb4.mono (by omega))
    have s0 : w.heap.size < w4.heap.size := by omega
    clear hc4 hf4 hb4 r3_0_0 r3_0_1 z3_0_0 z3_0_1 hb3
    go_upto_region 6 with fail
    have hb5 : Below w4.heap.size w4 (w4.alloc (Obj.cells #[.int .i64 x, .int .i64 y] 25)) := by (repeat' (first | (with_reducible exact Below.refl _ _) | (with_reducible assumption) | (with_reducible refine Below.alloc ?_ ?_ _) | (with_reducible refine Below.drew ?_) | (with_reducible refine below_drewN ?_ _) | (with_reducible refine Below.setCell ?_ ?_ _) | (with_reducible refine below_call ?_ ?_ (by assumption)) | go_size))
    have t0 : (w4.alloc (Obj.cells #[.int .i64 x, .int .i64 y] 25)).cell? ⟨w4.heap.size, 0, none⟩ = some (.int .i64 x) := by go_simp
    have t1 : (w4.alloc (Obj.cells #[.int .i64 x, .int .i64 y] 25)).cell? ⟨w4.heap.size, 1, none⟩ = some (.int .i64 y) := by go_simp
    obtain ⟨T, hT⟩ : ∃ T, T = w4.heap.size := ⟨_, rfl⟩
    obtain ⟨hc5, hf5⟩ := bcell hb5
    have hz5 : (w4.alloc (Obj.cells #[.int .i64 x, .int .i64 y] 25)).heap.size = w4.heap.size + 1 := by simp
    have r5_0_0 : (w4.alloc (Obj.cells #[.int .i64 x, .int .i64 y] 25)).cell? ⟨w.heap.size, 0, none⟩ = some (.int .i64 0) := (hc5 _ _ s0).trans r4_0_0
    have z5_0_0 : (w4.alloc (Obj.cells #[.int .i64 x, .int .i64 y] 25)).frozen? ⟨w.heap.size, 0, none⟩ = false := (hf5 _ _ s0).trans z4_0_0
    have r5_0_1 : (w4.alloc (Obj.cells #[.int .i64 x, .int .i64 y] 25)).cell? ⟨w.heap.size, 1, none⟩ = some (.int .i64 0) := (hc5 _ _ s0).trans r4_0_1
    have z5_0_1 : (w4.alloc (Obj.cells #[.int .i64 x, .int .i64 y] 25)).frozen? ⟨w.heap.size, 1, none⟩ = false := (hf5 _ _ s0).trans z4_0_1
    have hbx : Below w.heap.size w (w4.alloc (Obj.cells #[.int .i64 x, .int .i64 y] 25)) := hbw.trans (hb5.mono (by omega))
    clear hc5 hf5 hb5 hbw r4_0_0 r4_0_1 z4_0_0 z4_0_1
    generalize (w4.alloc (Obj.cells #[.int .i64 x, .int .i64 y] 25)) = w5 at *
    have s1 : w.heap.size < w5.heap.size := by omega
    have s2 : w4.heap.size < w5.heap.size := by omega
    have s3 : w.heap.size ≠ w4.heap.size := by omega
    go_region
    all_goals (first | (go_wp2; (refine bodyPost_ret (by simp [results, Try.results7, go_sem, *]; try rfl) rfl ?_); exact ⟨g, x, y, rfl, ⟨i64s (by omega), i64s (by omega), i64s (by omega)⟩, by (repeat' (first | (with_reducible exact Below.refl _ _) | (with_reducible assumption) | (with_reducible refine Below.alloc ?_ ?_ _) | (with_reducible refine Below.drew ?_) | (with_reducible refine below_drewN ?_ _) | (with_reducible refine Below.setCell ?_ ?_ _) | (with_reducible refine below_call ?_ ?_ (by assumption)) | go_size))⟩))

end Go.Proofs.Yticdmochedadbaa
