/- What the laws of chapter 2 draw: hands. -/
import Derived.Test.YtcfiaacpofpioaaTCur
set_option linter.unusedSimpArgs false
set_option linter.unusedVariables false
set_option maxRecDepth 100000
namespace Go.Proofs.Ytcfiaacpofpioaa
open Go.RowKit
attribute [local go_sem ↓] Go.wp_at_zero Go.wp_at_succ

theorem i64h {p : Int} (h : -4611686018427387904 ≤ p ∧ p ≤ 4611686018427387904) : I64 p := ⟨by omega, by omega⟩
set_option maxHeartbeats 3200000 in
theorem hand_any (L : List Int) (a : Option Addr) (n cp : Nat) (w0 : World) (b T : Nat) (hO : CurOK L a n w0 b) (hT : T ≤ 500000) (w : World) (hC : Cur w0 w b a n cp T) :
    Calls Try.prog 59 #[.pointer (some ⟨b, 0, none⟩)] w fun e w' => ∃ p q s, e = .returned (.agg #[.int .i64 p, .int .i64 q, .int .i64 s]) ∧ (I64 p ∧ I64 q ∧ I64 s) ∧ Cur w0 w' b a n cp (T + 20) ∧ w.grownBy w' (some b) := by
  have HC := Lib.hid hC
  clear hC
  have hlt := Cur.lt HC.out
  (go_enter Try.func59, Try.ntmps59)
  go_wp2_with fail
  refine (pick_any L a n cp w0 b (T + 0) 15 (by omega) hO (by omega) _ (Cur.alloc HC.out _)).mono ?_
  rintro e1 w1 ⟨j, rfl, hj, hC1, hg1⟩
  have HC1 := Lib.hid hC1
  have hz1 := hg1.size
  try simp only [World.size_alloc, World.size_setCell, World.size_drew] at hz1
  have r1_A_0 : w1.cell? ⟨w.heap.size, 0, none⟩ = some (.int .i64 0) := (World.grownBy.cell_far hg1 ⟨w.heap.size, 0, none⟩ (by show w.heap.size < _; first | omega | (simp; omega) | go_size) (fun e => by simp only [Option.some.injEq] at e; omega)).trans (by go_simp)
  have z1_A_0 : w1.frozen? ⟨w.heap.size, 0, none⟩ = false := (World.grownBy.frozen_far hg1 ⟨w.heap.size, 0, none⟩ (by show w.heap.size < _; first | omega | (simp; omega) | go_size) (fun e => by simp only [Option.some.injEq] at e; omega)).trans (by go_simp)
  have r1_A_1 : w1.cell? ⟨w.heap.size, 1, none⟩ = some (.int .i64 0) := (World.grownBy.cell_far hg1 ⟨w.heap.size, 1, none⟩ (by show w.heap.size < _; first | omega | (simp; omega) | go_size) (fun e => by simp only [Option.some.injEq] at e; omega)).trans (by go_simp)
  have z1_A_1 : w1.frozen? ⟨w.heap.size, 1, none⟩ = false := (World.grownBy.frozen_far hg1 ⟨w.heap.size, 1, none⟩ (by show w.heap.size < _; first | omega | (simp; omega) | go_size) (fun e => by simp only [Option.some.injEq] at e; omega)).trans (by go_simp)
  have r1_A_2 : w1.cell? ⟨w.heap.size, 2, none⟩ = some (.int .i64 0) := (World.grownBy.cell_far hg1 ⟨w.heap.size, 2, none⟩ (by show w.heap.size < _; first | omega | (simp; omega) | go_size) (fun e => by simp only [Option.some.injEq] at e; omega)).trans (by go_simp)
  have z1_A_2 : w1.frozen? ⟨w.heap.size, 2, none⟩ = false := (World.grownBy.frozen_far hg1 ⟨w.heap.size, 2, none⟩ (by show w.heap.size < _; first | omega | (simp; omega) | go_size) (fun e => by simp only [Option.some.injEq] at e; omega)).trans (by go_simp)
  have HG1 := Lib.hid ((grown_trans (World.grownBy_alloc w _ (some b)) hg1))
  have ja : (0 : Int) ≤ (j : Int) := Int.natCast_nonneg _
  have jb : (j : Int) < 15 := by omega
  clear hC1 hg1 
  go_wp2_with fail
  refine (one_any L a n cp w0 b (T + 2) 2 (by omega) hO (by omega) _ (Cur.far HC1.out ((show Below w.heap.size w1 _ from by (repeat' (first | (with_reducible exact Below.refl _ _) | (with_reducible assumption) | (with_reducible refine Below.alloc ?_ ?_ _) | (with_reducible refine Below.drew ?_) | (with_reducible refine below_drewN ?_ _) | (with_reducible refine Below.setCell ?_ ?_ _) | (with_reducible refine below_call ?_ ?_ (by assumption)) | go_size))).mono (by omega)))).mono ?_
  rintro e2 w2 ⟨o2, rfl, hC2, hg2⟩
  have HC2 := Lib.hid hC2
  have hz2 := hg2.size
  try simp only [World.size_alloc, World.size_setCell, World.size_drew] at hz2
  have r2_A_0 : w2.cell? ⟨w.heap.size, 0, none⟩ = some (.int .i64 0) := (World.grownBy.cell_far hg2 ⟨w.heap.size, 0, none⟩ (by show w.heap.size < _; first | omega | (simp; omega) | go_size) (fun e => by simp only [Option.some.injEq] at e; omega)).trans (by first | (go_simp; done) | exact (World.cell?_alloc_past _ _ _ (by show w.heap.size < _; omega)).trans r1_A_0)
  have z2_A_0 : w2.frozen? ⟨w.heap.size, 0, none⟩ = false := (World.grownBy.frozen_far hg2 ⟨w.heap.size, 0, none⟩ (by show w.heap.size < _; first | omega | (simp; omega) | go_size) (fun e => by simp only [Option.some.injEq] at e; omega)).trans (by first | (go_simp; done) | exact (World.frozen?_alloc_past _ _ _ (by show w.heap.size < _; omega)).trans z1_A_0)
  have r2_A_1 : w2.cell? ⟨w.heap.size, 1, none⟩ = some (.int .i64 0) := (World.grownBy.cell_far hg2 ⟨w.heap.size, 1, none⟩ (by show w.heap.size < _; first | omega | (simp; omega) | go_size) (fun e => by simp only [Option.some.injEq] at e; omega)).trans (by first | (go_simp; done) | exact (World.cell?_alloc_past _ _ _ (by show w.heap.size < _; omega)).trans r1_A_1)
  have z2_A_1 : w2.frozen? ⟨w.heap.size, 1, none⟩ = false := (World.grownBy.frozen_far hg2 ⟨w.heap.size, 1, none⟩ (by show w.heap.size < _; first | omega | (simp; omega) | go_size) (fun e => by simp only [Option.some.injEq] at e; omega)).trans (by first | (go_simp; done) | exact (World.frozen?_alloc_past _ _ _ (by show w.heap.size < _; omega)).trans z1_A_1)
  have r2_A_2 : w2.cell? ⟨w.heap.size, 2, none⟩ = some (.int .i64 0) := (World.grownBy.cell_far hg2 ⟨w.heap.size, 2, none⟩ (by show w.heap.size < _; first | omega | (simp; omega) | go_size) (fun e => by simp only [Option.some.injEq] at e; omega)).trans (by first | (go_simp; done) | exact (World.cell?_alloc_past _ _ _ (by show w.heap.size < _; omega)).trans r1_A_2)
  have z2_A_2 : w2.frozen? ⟨w.heap.size, 2, none⟩ = false := (World.grownBy.frozen_far hg2 ⟨w.heap.size, 2, none⟩ (by show w.heap.size < _; first | omega | (simp; omega) | go_size) (fun e => by simp only [Option.some.injEq] at e; omega)).trans (by first | (go_simp; done) | exact (World.frozen?_alloc_past _ _ _ (by show w.heap.size < _; omega)).trans z1_A_2)
  have r2_C_0 : w2.cell? ⟨w1.heap.size, 0, none⟩ = some (.int .i64 0) := (World.grownBy.cell_far hg2 ⟨w1.heap.size, 0, none⟩ (by show w1.heap.size < _; first | omega | (simp; omega) | go_size) (fun e => by simp only [Option.some.injEq] at e; omega)).trans (by go_simp)
  have z2_C_0 : w2.frozen? ⟨w1.heap.size, 0, none⟩ = false := (World.grownBy.frozen_far hg2 ⟨w1.heap.size, 0, none⟩ (by show w1.heap.size < _; first | omega | (simp; omega) | go_size) (fun e => by simp only [Option.some.injEq] at e; omega)).trans (by go_simp)
  have r2_C_1 : w2.cell? ⟨w1.heap.size, 1, none⟩ = some (.int .i64 1) := (World.grownBy.cell_far hg2 ⟨w1.heap.size, 1, none⟩ (by show w1.heap.size < _; first | omega | (simp; omega) | go_size) (fun e => by simp only [Option.some.injEq] at e; omega)).trans (by go_simp)
  have z2_C_1 : w2.frozen? ⟨w1.heap.size, 1, none⟩ = false := (World.grownBy.frozen_far hg2 ⟨w1.heap.size, 1, none⟩ (by show w1.heap.size < _; first | omega | (simp; omega) | go_size) (fun e => by simp only [Option.some.injEq] at e; omega)).trans (by go_simp)
  have r2_C_2 : w2.cell? ⟨w1.heap.size, 2, none⟩ = some (.int .i64 ((j : Int) - 5)) := (World.grownBy.cell_far hg2 ⟨w1.heap.size, 2, none⟩ (by show w1.heap.size < _; first | omega | (simp; omega) | go_size) (fun e => by simp only [Option.some.injEq] at e; omega)).trans (by go_simp)
  have z2_C_2 : w2.frozen? ⟨w1.heap.size, 2, none⟩ = false := (World.grownBy.frozen_far hg2 ⟨w1.heap.size, 2, none⟩ (by show w1.heap.size < _; first | omega | (simp; omega) | go_size) (fun e => by simp only [Option.some.injEq] at e; omega)).trans (by go_simp)
  have HG2 := Lib.hid (grown_trans (grown_far HG1.out (by (repeat' (first | (with_reducible exact Below.refl _ _) | (with_reducible assumption) | (with_reducible refine Below.alloc ?_ ?_ _) | (with_reducible refine Below.drew ?_) | (with_reducible refine below_drewN ?_ _) | (with_reducible refine Below.setCell ?_ ?_ _) | (with_reducible refine below_call ?_ ?_ (by assumption)) | go_size)))) hg2)
  clear hC2 hg2 r1_A_0 z1_A_0 r1_A_1 z1_A_1 r1_A_2 z1_A_2
  cases o2 with
  | false =>
    go_wp2_with fail
    refine (pick_any L a n cp w0 b (T + 4) 16 (by omega) hO (by omega) _ (Cur.far HC2.out ((show Below w.heap.size w2 _ from by (repeat' (first | (with_reducible exact Below.refl _ _) | (with_reducible assumption) | (with_reducible refine Below.alloc ?_ ?_ _) | (with_reducible refine Below.drew ?_) | (with_reducible refine below_drewN ?_ _) | (with_reducible refine Below.setCell ?_ ?_ _) | (with_reducible refine below_call ?_ ?_ (by assumption)) | go_size))).mono (by omega)))).mono ?_
    rintro e3 w3 ⟨m, rfl, hm, hC3, hg3⟩
    have HC3 := Lib.hid hC3
    have hz3 := hg3.size
    try simp only [World.size_alloc, World.size_setCell, World.size_drew] at hz3
    have r3_A_0 : w3.cell? ⟨w.heap.size, 0, none⟩ = some (.int .i64 0) := (World.grownBy.cell_far hg3 ⟨w.heap.size, 0, none⟩ (by show w.heap.size < _; first | omega | (simp; omega) | go_size) (fun e => by simp only [Option.some.injEq] at e; omega)).trans (by first | (go_simp; done) | exact (World.cell?_alloc_past _ _ _ (by show w.heap.size < _; omega)).trans r2_A_0)
    have z3_A_0 : w3.frozen? ⟨w.heap.size, 0, none⟩ = false := (World.grownBy.frozen_far hg3 ⟨w.heap.size, 0, none⟩ (by show w.heap.size < _; first | omega | (simp; omega) | go_size) (fun e => by simp only [Option.some.injEq] at e; omega)).trans (by first | (go_simp; done) | exact (World.frozen?_alloc_past _ _ _ (by show w.heap.size < _; omega)).trans z2_A_0)
    have r3_A_1 : w3.cell? ⟨w.heap.size, 1, none⟩ = some (.int .i64 0) := (World.grownBy.cell_far hg3 ⟨w.heap.size, 1, none⟩ (by show w.heap.size < _; first | omega | (simp; omega) | go_size) (fun e => by simp only [Option.some.injEq] at e; omega)).trans (by first | (go_simp; done) | exact (World.cell?_alloc_past _ _ _ (by show w.heap.size < _; omega)).trans r2_A_1)
    have z3_A_1 : w3.frozen? ⟨w.heap.size, 1, none⟩ = false := (World.grownBy.frozen_far hg3 ⟨w.heap.size, 1, none⟩ (by show w.heap.size < _; first | omega | (simp; omega) | go_size) (fun e => by simp only [Option.some.injEq] at e; omega)).trans (by first | (go_simp; done) | exact (World.frozen?_alloc_past _ _ _ (by show w.heap.size < _; omega)).trans z2_A_1)
    have r3_A_2 : w3.cell? ⟨w.heap.size, 2, none⟩ = some (.int .i64 0) := (World.grownBy.cell_far hg3 ⟨w.heap.size, 2, none⟩ (by show w.heap.size < _; first | omega | (simp; omega) | go_size) (fun e => by simp only [Option.some.injEq] at e; omega)).trans (by first | (go_simp; done) | exact (World.cell?_alloc_past _ _ _ (by show w.heap.size < _; omega)).trans r2_A_2)
    have z3_A_2 : w3.frozen? ⟨w.heap.size, 2, none⟩ = false := (World.grownBy.frozen_far hg3 ⟨w.heap.size, 2, none⟩ (by show w.heap.size < _; first | omega | (simp; omega) | go_size) (fun e => by simp only [Option.some.injEq] at e; omega)).trans (by first | (go_simp; done) | exact (World.frozen?_alloc_past _ _ _ (by show w.heap.size < _; omega)).trans z2_A_2)
    have r3_C_0 : w3.cell? ⟨w1.heap.size, 0, none⟩ = some (.int .i64 0) := (World.grownBy.cell_far hg3 ⟨w1.heap.size, 0, none⟩ (by show w1.heap.size < _; first | omega | (simp; omega) | go_size) (fun e => by simp only [Option.some.injEq] at e; omega)).trans (by first | (go_simp; done) | exact (World.cell?_alloc_past _ _ _ (by show w1.heap.size < _; omega)).trans r2_C_0)
    have z3_C_0 : w3.frozen? ⟨w1.heap.size, 0, none⟩ = false := (World.grownBy.frozen_far hg3 ⟨w1.heap.size, 0, none⟩ (by show w1.heap.size < _; first | omega | (simp; omega) | go_size) (fun e => by simp only [Option.some.injEq] at e; omega)).trans (by first | (go_simp; done) | exact (World.frozen?_alloc_past _ _ _ (by show w1.heap.size < _; omega)).trans z2_C_0)
    have r3_C_1 : w3.cell? ⟨w1.heap.size, 1, none⟩ = some (.int .i64 1) := (World.grownBy.cell_far hg3 ⟨w1.heap.size, 1, none⟩ (by show w1.heap.size < _; first | omega | (simp; omega) | go_size) (fun e => by simp only [Option.some.injEq] at e; omega)).trans (by first | (go_simp; done) | exact (World.cell?_alloc_past _ _ _ (by show w1.heap.size < _; omega)).trans r2_C_1)
    have z3_C_1 : w3.frozen? ⟨w1.heap.size, 1, none⟩ = false := (World.grownBy.frozen_far hg3 ⟨w1.heap.size, 1, none⟩ (by show w1.heap.size < _; first | omega | (simp; omega) | go_size) (fun e => by simp only [Option.some.injEq] at e; omega)).trans (by first | (go_simp; done) | exact (World.frozen?_alloc_past _ _ _ (by show w1.heap.size < _; omega)).trans z2_C_1)
    have r3_C_2 : w3.cell? ⟨w1.heap.size, 2, none⟩ = some (.int .i64 ((j : Int) - 5)) := (World.grownBy.cell_far hg3 ⟨w1.heap.size, 2, none⟩ (by show w1.heap.size < _; first | omega | (simp; omega) | go_size) (fun e => by simp only [Option.some.injEq] at e; omega)).trans (by first | (go_simp; done) | exact (World.cell?_alloc_past _ _ _ (by show w1.heap.size < _; omega)).trans r2_C_2)
    have z3_C_2 : w3.frozen? ⟨w1.heap.size, 2, none⟩ = false := (World.grownBy.frozen_far hg3 ⟨w1.heap.size, 2, none⟩ (by show w1.heap.size < _; first | omega | (simp; omega) | go_size) (fun e => by simp only [Option.some.injEq] at e; omega)).trans (by first | (go_simp; done) | exact (World.frozen?_alloc_past _ _ _ (by show w1.heap.size < _; omega)).trans z2_C_2)
    have HG3 := Lib.hid (grown_trans (grown_far HG2.out (by (repeat' (first | (with_reducible exact Below.refl _ _) | (with_reducible assumption) | (with_reducible refine Below.alloc ?_ ?_ _) | (with_reducible refine Below.drew ?_) | (with_reducible refine below_drewN ?_ _) | (with_reducible refine Below.setCell ?_ ?_ _) | (with_reducible refine below_call ?_ ?_ (by assumption)) | go_size)))) hg3)
    clear hC3 hg3 r2_A_0 z2_A_0 r2_A_1 z2_A_1 r2_A_2 z2_A_2 r2_C_0 z2_C_0 r2_C_1 z2_C_1 r2_C_2 z2_C_2
    by_cases m0 : m = 0
    · subst m0
      go_wp2_with fail
      refine (turn_any L a n cp w0 b (T + 6)  hO (by omega) _ HC3.out).mono ?_
      rintro e4 w4 ⟨p2, q2, rfl, ⟨ip2, iq2⟩, hC4, hg4⟩
      have HC4 := Lib.hid hC4
      have hz4 := hg4.size
      try simp only [World.size_alloc, World.size_setCell, World.size_drew] at hz4
      have r4_A_0 : w4.cell? ⟨w.heap.size, 0, none⟩ = some (.int .i64 0) := (World.grownBy.cell_far hg4 ⟨w.heap.size, 0, none⟩ (by show w.heap.size < _; first | omega | (simp; omega) | go_size) (fun e => by simp only [Option.some.injEq] at e; omega)).trans (r3_A_0)
      have z4_A_0 : w4.frozen? ⟨w.heap.size, 0, none⟩ = false := (World.grownBy.frozen_far hg4 ⟨w.heap.size, 0, none⟩ (by show w.heap.size < _; first | omega | (simp; omega) | go_size) (fun e => by simp only [Option.some.injEq] at e; omega)).trans (z3_A_0)
      have r4_A_1 : w4.cell? ⟨w.heap.size, 1, none⟩ = some (.int .i64 0) := (World.grownBy.cell_far hg4 ⟨w.heap.size, 1, none⟩ (by show w.heap.size < _; first | omega | (simp; omega) | go_size) (fun e => by simp only [Option.some.injEq] at e; omega)).trans (r3_A_1)
      have z4_A_1 : w4.frozen? ⟨w.heap.size, 1, none⟩ = false := (World.grownBy.frozen_far hg4 ⟨w.heap.size, 1, none⟩ (by show w.heap.size < _; first | omega | (simp; omega) | go_size) (fun e => by simp only [Option.some.injEq] at e; omega)).trans (z3_A_1)
      have r4_A_2 : w4.cell? ⟨w.heap.size, 2, none⟩ = some (.int .i64 0) := (World.grownBy.cell_far hg4 ⟨w.heap.size, 2, none⟩ (by show w.heap.size < _; first | omega | (simp; omega) | go_size) (fun e => by simp only [Option.some.injEq] at e; omega)).trans (r3_A_2)
      have z4_A_2 : w4.frozen? ⟨w.heap.size, 2, none⟩ = false := (World.grownBy.frozen_far hg4 ⟨w.heap.size, 2, none⟩ (by show w.heap.size < _; first | omega | (simp; omega) | go_size) (fun e => by simp only [Option.some.injEq] at e; omega)).trans (z3_A_2)
      have r4_C_0 : w4.cell? ⟨w1.heap.size, 0, none⟩ = some (.int .i64 0) := (World.grownBy.cell_far hg4 ⟨w1.heap.size, 0, none⟩ (by show w1.heap.size < _; first | omega | (simp; omega) | go_size) (fun e => by simp only [Option.some.injEq] at e; omega)).trans (r3_C_0)
      have z4_C_0 : w4.frozen? ⟨w1.heap.size, 0, none⟩ = false := (World.grownBy.frozen_far hg4 ⟨w1.heap.size, 0, none⟩ (by show w1.heap.size < _; first | omega | (simp; omega) | go_size) (fun e => by simp only [Option.some.injEq] at e; omega)).trans (z3_C_0)
      have r4_C_1 : w4.cell? ⟨w1.heap.size, 1, none⟩ = some (.int .i64 1) := (World.grownBy.cell_far hg4 ⟨w1.heap.size, 1, none⟩ (by show w1.heap.size < _; first | omega | (simp; omega) | go_size) (fun e => by simp only [Option.some.injEq] at e; omega)).trans (r3_C_1)
      have z4_C_1 : w4.frozen? ⟨w1.heap.size, 1, none⟩ = false := (World.grownBy.frozen_far hg4 ⟨w1.heap.size, 1, none⟩ (by show w1.heap.size < _; first | omega | (simp; omega) | go_size) (fun e => by simp only [Option.some.injEq] at e; omega)).trans (z3_C_1)
      have r4_C_2 : w4.cell? ⟨w1.heap.size, 2, none⟩ = some (.int .i64 ((j : Int) - 5)) := (World.grownBy.cell_far hg4 ⟨w1.heap.size, 2, none⟩ (by show w1.heap.size < _; first | omega | (simp; omega) | go_size) (fun e => by simp only [Option.some.injEq] at e; omega)).trans (r3_C_2)
      have z4_C_2 : w4.frozen? ⟨w1.heap.size, 2, none⟩ = false := (World.grownBy.frozen_far hg4 ⟨w1.heap.size, 2, none⟩ (by show w1.heap.size < _; first | omega | (simp; omega) | go_size) (fun e => by simp only [Option.some.injEq] at e; omega)).trans (z3_C_2)
      have HG4 := Lib.hid (grown_trans HG3.out hg4)
      clear hC4 hg4 r3_A_0 z3_A_0 r3_A_1 z3_A_1 r3_A_2 z3_A_2 r3_C_0 z3_C_0 r3_C_1 z3_C_1 r3_C_2 z3_C_2
      have s4_A : w.heap.size < w4.heap.size := by omega
      have s4_C : w1.heap.size < w4.heap.size := by omega
      go_wp2
      (refine bodyPost_ret (by simp [results, Try.results59, go_sem, *]; try rfl) rfl ?_)
      refine ⟨_, _, _, rfl, ⟨ip2, iq2, i64h (by omega)⟩, Cur.far (Cur.mono HC4.out (by omega)) ((show Below w.heap.size w4 _ from by (repeat' (first | (with_reducible exact Below.refl _ _) | (with_reducible assumption) | (with_reducible refine Below.alloc ?_ ?_ _) | (with_reducible refine Below.drew ?_) | (with_reducible refine below_drewN ?_ _) | (with_reducible refine Below.setCell ?_ ?_ _) | (with_reducible refine below_call ?_ ?_ (by assumption)) | go_size))).mono (by omega)), grown_far HG4.out (by (repeat' (first | (with_reducible exact Below.refl _ _) | (with_reducible assumption) | (with_reducible refine Below.alloc ?_ ?_ _) | (with_reducible refine Below.drew ?_) | (with_reducible refine below_drewN ?_ _) | (with_reducible refine Below.setCell ?_ ?_ _) | (with_reducible refine below_call ?_ ?_ (by assumption)) | go_size)))⟩
    by_cases m1 : m = 1
    · subst m1
      have hI4 := Lib.hid (iin_new w3 [(-401 : Int), (-400 : Int), (400 : Int), (401 : Int), (4611686018427387904 : Int)] 3)
      have hl4 := Cur.lt HC3.out
      go_wp2_with fail
      refine (among_any L a n cp w0 b (T + 6) [(-401 : Int), (-400 : Int), (400 : Int), (401 : Int), (4611686018427387904 : Int)] 5 rfl (by omega) w3.heap.size 0 5 hO (by omega) _ (Cur.alloc HC3.out _) hI4.out (by omega)).mono ?_
      rintro e4 w4 ⟨x, rfl, hm4, hC4, hg4⟩
      have HC4 := Lib.hid hC4
      have hz4 := hg4.size
      try simp only [World.size_alloc, World.size_setCell, World.size_drew] at hz4
      have r4_A_0 : w4.cell? ⟨w.heap.size, 0, none⟩ = some (.int .i64 0) := (World.grownBy.cell_far hg4 ⟨w.heap.size, 0, none⟩ (by show w.heap.size < _; first | omega | (simp; omega) | go_size) (fun e => by simp only [Option.some.injEq] at e; omega)).trans ((World.cell?_alloc_past _ _ _ (by show w.heap.size < _; omega)).trans r3_A_0)
      have z4_A_0 : w4.frozen? ⟨w.heap.size, 0, none⟩ = false := (World.grownBy.frozen_far hg4 ⟨w.heap.size, 0, none⟩ (by show w.heap.size < _; first | omega | (simp; omega) | go_size) (fun e => by simp only [Option.some.injEq] at e; omega)).trans ((World.frozen?_alloc_past _ _ _ (by show w.heap.size < _; omega)).trans z3_A_0)
      have r4_A_1 : w4.cell? ⟨w.heap.size, 1, none⟩ = some (.int .i64 0) := (World.grownBy.cell_far hg4 ⟨w.heap.size, 1, none⟩ (by show w.heap.size < _; first | omega | (simp; omega) | go_size) (fun e => by simp only [Option.some.injEq] at e; omega)).trans ((World.cell?_alloc_past _ _ _ (by show w.heap.size < _; omega)).trans r3_A_1)
      have z4_A_1 : w4.frozen? ⟨w.heap.size, 1, none⟩ = false := (World.grownBy.frozen_far hg4 ⟨w.heap.size, 1, none⟩ (by show w.heap.size < _; first | omega | (simp; omega) | go_size) (fun e => by simp only [Option.some.injEq] at e; omega)).trans ((World.frozen?_alloc_past _ _ _ (by show w.heap.size < _; omega)).trans z3_A_1)
      have r4_A_2 : w4.cell? ⟨w.heap.size, 2, none⟩ = some (.int .i64 0) := (World.grownBy.cell_far hg4 ⟨w.heap.size, 2, none⟩ (by show w.heap.size < _; first | omega | (simp; omega) | go_size) (fun e => by simp only [Option.some.injEq] at e; omega)).trans ((World.cell?_alloc_past _ _ _ (by show w.heap.size < _; omega)).trans r3_A_2)
      have z4_A_2 : w4.frozen? ⟨w.heap.size, 2, none⟩ = false := (World.grownBy.frozen_far hg4 ⟨w.heap.size, 2, none⟩ (by show w.heap.size < _; first | omega | (simp; omega) | go_size) (fun e => by simp only [Option.some.injEq] at e; omega)).trans ((World.frozen?_alloc_past _ _ _ (by show w.heap.size < _; omega)).trans z3_A_2)
      have r4_C_0 : w4.cell? ⟨w1.heap.size, 0, none⟩ = some (.int .i64 0) := (World.grownBy.cell_far hg4 ⟨w1.heap.size, 0, none⟩ (by show w1.heap.size < _; first | omega | (simp; omega) | go_size) (fun e => by simp only [Option.some.injEq] at e; omega)).trans ((World.cell?_alloc_past _ _ _ (by show w1.heap.size < _; omega)).trans r3_C_0)
      have z4_C_0 : w4.frozen? ⟨w1.heap.size, 0, none⟩ = false := (World.grownBy.frozen_far hg4 ⟨w1.heap.size, 0, none⟩ (by show w1.heap.size < _; first | omega | (simp; omega) | go_size) (fun e => by simp only [Option.some.injEq] at e; omega)).trans ((World.frozen?_alloc_past _ _ _ (by show w1.heap.size < _; omega)).trans z3_C_0)
      have r4_C_1 : w4.cell? ⟨w1.heap.size, 1, none⟩ = some (.int .i64 1) := (World.grownBy.cell_far hg4 ⟨w1.heap.size, 1, none⟩ (by show w1.heap.size < _; first | omega | (simp; omega) | go_size) (fun e => by simp only [Option.some.injEq] at e; omega)).trans ((World.cell?_alloc_past _ _ _ (by show w1.heap.size < _; omega)).trans r3_C_1)
      have z4_C_1 : w4.frozen? ⟨w1.heap.size, 1, none⟩ = false := (World.grownBy.frozen_far hg4 ⟨w1.heap.size, 1, none⟩ (by show w1.heap.size < _; first | omega | (simp; omega) | go_size) (fun e => by simp only [Option.some.injEq] at e; omega)).trans ((World.frozen?_alloc_past _ _ _ (by show w1.heap.size < _; omega)).trans z3_C_1)
      have r4_C_2 : w4.cell? ⟨w1.heap.size, 2, none⟩ = some (.int .i64 ((j : Int) - 5)) := (World.grownBy.cell_far hg4 ⟨w1.heap.size, 2, none⟩ (by show w1.heap.size < _; first | omega | (simp; omega) | go_size) (fun e => by simp only [Option.some.injEq] at e; omega)).trans ((World.cell?_alloc_past _ _ _ (by show w1.heap.size < _; omega)).trans r3_C_2)
      have z4_C_2 : w4.frozen? ⟨w1.heap.size, 2, none⟩ = false := (World.grownBy.frozen_far hg4 ⟨w1.heap.size, 2, none⟩ (by show w1.heap.size < _; first | omega | (simp; omega) | go_size) (fun e => by simp only [Option.some.injEq] at e; omega)).trans ((World.frozen?_alloc_past _ _ _ (by show w1.heap.size < _; omega)).trans z3_C_2)
      have HG4 := Lib.hid (grown_trans HG3.out (grown_trans (World.grownBy_alloc w3 _ (some b)) hg4))
      have xm : -4611686018427387904 ≤ x ∧ x ≤ 4611686018427387904 := by simp only [List.mem_cons, List.not_mem_nil, or_false] at hm4; omega
      clear hm4
      clear hC4 hg4 r3_A_0 z3_A_0 r3_A_1 z3_A_1 r3_A_2 z3_A_2 r3_C_0 z3_C_0 r3_C_1 z3_C_1 r3_C_2 z3_C_2
      have s4_A : w.heap.size < w4.heap.size := by omega
      have s4_C : w1.heap.size < w4.heap.size := by omega
      go_wp2
      (refine bodyPost_ret (by simp [results, Try.results59, go_sem, *]; try rfl) rfl ?_)
      refine ⟨_, _, _, rfl, ⟨i64h (by omega), i64h (by omega), i64h xm⟩, Cur.far (Cur.mono HC4.out (by omega)) ((show Below w.heap.size w4 _ from by (repeat' (first | (with_reducible exact Below.refl _ _) | (with_reducible assumption) | (with_reducible refine Below.alloc ?_ ?_ _) | (with_reducible refine Below.drew ?_) | (with_reducible refine below_drewN ?_ _) | (with_reducible refine Below.setCell ?_ ?_ _) | (with_reducible refine below_call ?_ ?_ (by assumption)) | go_size))).mono (by omega)), grown_far HG4.out (by (repeat' (first | (with_reducible exact Below.refl _ _) | (with_reducible assumption) | (with_reducible refine Below.alloc ?_ ?_ _) | (with_reducible refine Below.drew ?_) | (with_reducible refine below_drewN ?_ _) | (with_reducible refine Below.setCell ?_ ?_ _) | (with_reducible refine below_call ?_ ?_ (by assumption)) | go_size)))⟩
    have mx0 : ((m : Int) == 0) = false := by simp; omega
    have mx1 : ((m : Int) == 1) = false := by simp; omega
    have s3_A : w.heap.size < w3.heap.size := by omega
    have s3_C : w1.heap.size < w3.heap.size := by omega
    go_wp2
    (refine bodyPost_ret (by simp [results, Try.results59, go_sem, *]; try rfl) rfl ?_)
    refine ⟨_, _, _, rfl, ⟨i64h (by omega), i64h (by omega), i64h (by omega)⟩, Cur.far (Cur.mono HC3.out (by omega)) ((show Below w.heap.size w3 _ from by (repeat' (first | (with_reducible exact Below.refl _ _) | (with_reducible assumption) | (with_reducible refine Below.alloc ?_ ?_ _) | (with_reducible refine Below.drew ?_) | (with_reducible refine below_drewN ?_ _) | (with_reducible refine Below.setCell ?_ ?_ _) | (with_reducible refine below_call ?_ ?_ (by assumption)) | go_size))).mono (by omega)), grown_far HG3.out (by (repeat' (first | (with_reducible exact Below.refl _ _) | (with_reducible assumption) | (with_reducible refine Below.alloc ?_ ?_ _) | (with_reducible refine Below.drew ?_) | (with_reducible refine below_drewN ?_ _) | (with_reducible refine Below.setCell ?_ ?_ _) | (with_reducible refine below_call ?_ ?_ (by assumption)) | go_size)))⟩
  | true =>
    go_wp2_with fail
    refine (sureTurn_any L a n cp w0 b (T + 4)  hO (by omega) _ HC2.out).mono ?_
    rintro e3 w3 ⟨p, q, rfl, ⟨ip, iq⟩, hC3, hg3⟩
    have HC3 := Lib.hid hC3
    have hz3 := hg3.size
    try simp only [World.size_alloc, World.size_setCell, World.size_drew] at hz3
    have r3_A_0 : w3.cell? ⟨w.heap.size, 0, none⟩ = some (.int .i64 0) := (World.grownBy.cell_far hg3 ⟨w.heap.size, 0, none⟩ (by show w.heap.size < _; first | omega | (simp; omega) | go_size) (fun e => by simp only [Option.some.injEq] at e; omega)).trans (r2_A_0)
    have z3_A_0 : w3.frozen? ⟨w.heap.size, 0, none⟩ = false := (World.grownBy.frozen_far hg3 ⟨w.heap.size, 0, none⟩ (by show w.heap.size < _; first | omega | (simp; omega) | go_size) (fun e => by simp only [Option.some.injEq] at e; omega)).trans (z2_A_0)
    have r3_A_1 : w3.cell? ⟨w.heap.size, 1, none⟩ = some (.int .i64 0) := (World.grownBy.cell_far hg3 ⟨w.heap.size, 1, none⟩ (by show w.heap.size < _; first | omega | (simp; omega) | go_size) (fun e => by simp only [Option.some.injEq] at e; omega)).trans (r2_A_1)
    have z3_A_1 : w3.frozen? ⟨w.heap.size, 1, none⟩ = false := (World.grownBy.frozen_far hg3 ⟨w.heap.size, 1, none⟩ (by show w.heap.size < _; first | omega | (simp; omega) | go_size) (fun e => by simp only [Option.some.injEq] at e; omega)).trans (z2_A_1)
    have r3_A_2 : w3.cell? ⟨w.heap.size, 2, none⟩ = some (.int .i64 0) := (World.grownBy.cell_far hg3 ⟨w.heap.size, 2, none⟩ (by show w.heap.size < _; first | omega | (simp; omega) | go_size) (fun e => by simp only [Option.some.injEq] at e; omega)).trans (r2_A_2)
    have z3_A_2 : w3.frozen? ⟨w.heap.size, 2, none⟩ = false := (World.grownBy.frozen_far hg3 ⟨w.heap.size, 2, none⟩ (by show w.heap.size < _; first | omega | (simp; omega) | go_size) (fun e => by simp only [Option.some.injEq] at e; omega)).trans (z2_A_2)
    have r3_C_0 : w3.cell? ⟨w1.heap.size, 0, none⟩ = some (.int .i64 0) := (World.grownBy.cell_far hg3 ⟨w1.heap.size, 0, none⟩ (by show w1.heap.size < _; first | omega | (simp; omega) | go_size) (fun e => by simp only [Option.some.injEq] at e; omega)).trans (r2_C_0)
    have z3_C_0 : w3.frozen? ⟨w1.heap.size, 0, none⟩ = false := (World.grownBy.frozen_far hg3 ⟨w1.heap.size, 0, none⟩ (by show w1.heap.size < _; first | omega | (simp; omega) | go_size) (fun e => by simp only [Option.some.injEq] at e; omega)).trans (z2_C_0)
    have r3_C_1 : w3.cell? ⟨w1.heap.size, 1, none⟩ = some (.int .i64 1) := (World.grownBy.cell_far hg3 ⟨w1.heap.size, 1, none⟩ (by show w1.heap.size < _; first | omega | (simp; omega) | go_size) (fun e => by simp only [Option.some.injEq] at e; omega)).trans (r2_C_1)
    have z3_C_1 : w3.frozen? ⟨w1.heap.size, 1, none⟩ = false := (World.grownBy.frozen_far hg3 ⟨w1.heap.size, 1, none⟩ (by show w1.heap.size < _; first | omega | (simp; omega) | go_size) (fun e => by simp only [Option.some.injEq] at e; omega)).trans (z2_C_1)
    have r3_C_2 : w3.cell? ⟨w1.heap.size, 2, none⟩ = some (.int .i64 ((j : Int) - 5)) := (World.grownBy.cell_far hg3 ⟨w1.heap.size, 2, none⟩ (by show w1.heap.size < _; first | omega | (simp; omega) | go_size) (fun e => by simp only [Option.some.injEq] at e; omega)).trans (r2_C_2)
    have z3_C_2 : w3.frozen? ⟨w1.heap.size, 2, none⟩ = false := (World.grownBy.frozen_far hg3 ⟨w1.heap.size, 2, none⟩ (by show w1.heap.size < _; first | omega | (simp; omega) | go_size) (fun e => by simp only [Option.some.injEq] at e; omega)).trans (z2_C_2)
    have HG3 := Lib.hid (grown_trans HG2.out hg3)
    clear hC3 hg3 r2_A_0 z2_A_0 r2_A_1 z2_A_1 r2_A_2 z2_A_2 r2_C_0 z2_C_0 r2_C_1 z2_C_1 r2_C_2 z2_C_2
    go_wp2_with fail
    refine (pick_any L a n cp w0 b (T + 8) 16 (by omega) hO (by omega) _ (Cur.far HC3.out ((show Below w.heap.size w3 _ from by (repeat' (first | (with_reducible exact Below.refl _ _) | (with_reducible assumption) | (with_reducible refine Below.alloc ?_ ?_ _) | (with_reducible refine Below.drew ?_) | (with_reducible refine below_drewN ?_ _) | (with_reducible refine Below.setCell ?_ ?_ _) | (with_reducible refine below_call ?_ ?_ (by assumption)) | go_size))).mono (by omega)))).mono ?_
    rintro e4 w4 ⟨m, rfl, hm, hC4, hg4⟩
    have HC4 := Lib.hid hC4
    have hz4 := hg4.size
    try simp only [World.size_alloc, World.size_setCell, World.size_drew] at hz4
    have r4_A_0 : w4.cell? ⟨w.heap.size, 0, none⟩ = some (.int .i64 0) := (World.grownBy.cell_far hg4 ⟨w.heap.size, 0, none⟩ (by show w.heap.size < _; first | omega | (simp; omega) | go_size) (fun e => by simp only [Option.some.injEq] at e; omega)).trans (by first | (go_simp; done) | exact (World.cell?_alloc_past _ _ _ (by show w.heap.size < _; omega)).trans r3_A_0)
    have z4_A_0 : w4.frozen? ⟨w.heap.size, 0, none⟩ = false := (World.grownBy.frozen_far hg4 ⟨w.heap.size, 0, none⟩ (by show w.heap.size < _; first | omega | (simp; omega) | go_size) (fun e => by simp only [Option.some.injEq] at e; omega)).trans (by first | (go_simp; done) | exact (World.frozen?_alloc_past _ _ _ (by show w.heap.size < _; omega)).trans z3_A_0)
    have r4_A_1 : w4.cell? ⟨w.heap.size, 1, none⟩ = some (.int .i64 0) := (World.grownBy.cell_far hg4 ⟨w.heap.size, 1, none⟩ (by show w.heap.size < _; first | omega | (simp; omega) | go_size) (fun e => by simp only [Option.some.injEq] at e; omega)).trans (by first | (go_simp; done) | exact (World.cell?_alloc_past _ _ _ (by show w.heap.size < _; omega)).trans r3_A_1)
    have z4_A_1 : w4.frozen? ⟨w.heap.size, 1, none⟩ = false := (World.grownBy.frozen_far hg4 ⟨w.heap.size, 1, none⟩ (by show w.heap.size < _; first | omega | (simp; omega) | go_size) (fun e => by simp only [Option.some.injEq] at e; omega)).trans (by first | (go_simp; done) | exact (World.frozen?_alloc_past _ _ _ (by show w.heap.size < _; omega)).trans z3_A_1)
    have r4_A_2 : w4.cell? ⟨w.heap.size, 2, none⟩ = some (.int .i64 0) := (World.grownBy.cell_far hg4 ⟨w.heap.size, 2, none⟩ (by show w.heap.size < _; first | omega | (simp; omega) | go_size) (fun e => by simp only [Option.some.injEq] at e; omega)).trans (by first | (go_simp; done) | exact (World.cell?_alloc_past _ _ _ (by show w.heap.size < _; omega)).trans r3_A_2)
    have z4_A_2 : w4.frozen? ⟨w.heap.size, 2, none⟩ = false := (World.grownBy.frozen_far hg4 ⟨w.heap.size, 2, none⟩ (by show w.heap.size < _; first | omega | (simp; omega) | go_size) (fun e => by simp only [Option.some.injEq] at e; omega)).trans (by first | (go_simp; done) | exact (World.frozen?_alloc_past _ _ _ (by show w.heap.size < _; omega)).trans z3_A_2)
    have r4_C_0 : w4.cell? ⟨w1.heap.size, 0, none⟩ = some (.int .i64 p) := (World.grownBy.cell_far hg4 ⟨w1.heap.size, 0, none⟩ (by show w1.heap.size < _; first | omega | (simp; omega) | go_size) (fun e => by simp only [Option.some.injEq] at e; omega)).trans (by first | (go_simp; done) | exact (World.cell?_alloc_past _ _ _ (by show w1.heap.size < _; omega)).trans r3_C_0)
    have z4_C_0 : w4.frozen? ⟨w1.heap.size, 0, none⟩ = false := (World.grownBy.frozen_far hg4 ⟨w1.heap.size, 0, none⟩ (by show w1.heap.size < _; first | omega | (simp; omega) | go_size) (fun e => by simp only [Option.some.injEq] at e; omega)).trans (by first | (go_simp; done) | exact (World.frozen?_alloc_past _ _ _ (by show w1.heap.size < _; omega)).trans z3_C_0)
    have r4_C_1 : w4.cell? ⟨w1.heap.size, 1, none⟩ = some (.int .i64 q) := (World.grownBy.cell_far hg4 ⟨w1.heap.size, 1, none⟩ (by show w1.heap.size < _; first | omega | (simp; omega) | go_size) (fun e => by simp only [Option.some.injEq] at e; omega)).trans (by first | (go_simp; done) | exact (World.cell?_alloc_past _ _ _ (by show w1.heap.size < _; omega)).trans r3_C_1)
    have z4_C_1 : w4.frozen? ⟨w1.heap.size, 1, none⟩ = false := (World.grownBy.frozen_far hg4 ⟨w1.heap.size, 1, none⟩ (by show w1.heap.size < _; first | omega | (simp; omega) | go_size) (fun e => by simp only [Option.some.injEq] at e; omega)).trans (by first | (go_simp; done) | exact (World.frozen?_alloc_past _ _ _ (by show w1.heap.size < _; omega)).trans z3_C_1)
    have r4_C_2 : w4.cell? ⟨w1.heap.size, 2, none⟩ = some (.int .i64 ((j : Int) - 5)) := (World.grownBy.cell_far hg4 ⟨w1.heap.size, 2, none⟩ (by show w1.heap.size < _; first | omega | (simp; omega) | go_size) (fun e => by simp only [Option.some.injEq] at e; omega)).trans (by first | (go_simp; done) | exact (World.cell?_alloc_past _ _ _ (by show w1.heap.size < _; omega)).trans r3_C_2)
    have z4_C_2 : w4.frozen? ⟨w1.heap.size, 2, none⟩ = false := (World.grownBy.frozen_far hg4 ⟨w1.heap.size, 2, none⟩ (by show w1.heap.size < _; first | omega | (simp; omega) | go_size) (fun e => by simp only [Option.some.injEq] at e; omega)).trans (by first | (go_simp; done) | exact (World.frozen?_alloc_past _ _ _ (by show w1.heap.size < _; omega)).trans z3_C_2)
    have HG4 := Lib.hid (grown_trans (grown_far HG3.out (by (repeat' (first | (with_reducible exact Below.refl _ _) | (with_reducible assumption) | (with_reducible refine Below.alloc ?_ ?_ _) | (with_reducible refine Below.drew ?_) | (with_reducible refine below_drewN ?_ _) | (with_reducible refine Below.setCell ?_ ?_ _) | (with_reducible refine below_call ?_ ?_ (by assumption)) | go_size)))) hg4)
    clear hC4 hg4 r3_A_0 z3_A_0 r3_A_1 z3_A_1 r3_A_2 z3_A_2 r3_C_0 z3_C_0 r3_C_1 z3_C_1 r3_C_2 z3_C_2
    by_cases m0 : m = 0
    · subst m0
      go_wp2_with fail
      refine (turn_any L a n cp w0 b (T + 10)  hO (by omega) _ HC4.out).mono ?_
      rintro e5 w5 ⟨p2, q2, rfl, ⟨ip2, iq2⟩, hC5, hg5⟩
      have HC5 := Lib.hid hC5
      have hz5 := hg5.size
      try simp only [World.size_alloc, World.size_setCell, World.size_drew] at hz5
      have r5_A_0 : w5.cell? ⟨w.heap.size, 0, none⟩ = some (.int .i64 0) := (World.grownBy.cell_far hg5 ⟨w.heap.size, 0, none⟩ (by show w.heap.size < _; first | omega | (simp; omega) | go_size) (fun e => by simp only [Option.some.injEq] at e; omega)).trans (r4_A_0)
      have z5_A_0 : w5.frozen? ⟨w.heap.size, 0, none⟩ = false := (World.grownBy.frozen_far hg5 ⟨w.heap.size, 0, none⟩ (by show w.heap.size < _; first | omega | (simp; omega) | go_size) (fun e => by simp only [Option.some.injEq] at e; omega)).trans (z4_A_0)
      have r5_A_1 : w5.cell? ⟨w.heap.size, 1, none⟩ = some (.int .i64 0) := (World.grownBy.cell_far hg5 ⟨w.heap.size, 1, none⟩ (by show w.heap.size < _; first | omega | (simp; omega) | go_size) (fun e => by simp only [Option.some.injEq] at e; omega)).trans (r4_A_1)
      have z5_A_1 : w5.frozen? ⟨w.heap.size, 1, none⟩ = false := (World.grownBy.frozen_far hg5 ⟨w.heap.size, 1, none⟩ (by show w.heap.size < _; first | omega | (simp; omega) | go_size) (fun e => by simp only [Option.some.injEq] at e; omega)).trans (z4_A_1)
      have r5_A_2 : w5.cell? ⟨w.heap.size, 2, none⟩ = some (.int .i64 0) := (World.grownBy.cell_far hg5 ⟨w.heap.size, 2, none⟩ (by show w.heap.size < _; first | omega | (simp; omega) | go_size) (fun e => by simp only [Option.some.injEq] at e; omega)).trans (r4_A_2)
      have z5_A_2 : w5.frozen? ⟨w.heap.size, 2, none⟩ = false := (World.grownBy.frozen_far hg5 ⟨w.heap.size, 2, none⟩ (by show w.heap.size < _; first | omega | (simp; omega) | go_size) (fun e => by simp only [Option.some.injEq] at e; omega)).trans (z4_A_2)
      have r5_C_0 : w5.cell? ⟨w1.heap.size, 0, none⟩ = some (.int .i64 p) := (World.grownBy.cell_far hg5 ⟨w1.heap.size, 0, none⟩ (by show w1.heap.size < _; first | omega | (simp; omega) | go_size) (fun e => by simp only [Option.some.injEq] at e; omega)).trans (r4_C_0)
      have z5_C_0 : w5.frozen? ⟨w1.heap.size, 0, none⟩ = false := (World.grownBy.frozen_far hg5 ⟨w1.heap.size, 0, none⟩ (by show w1.heap.size < _; first | omega | (simp; omega) | go_size) (fun e => by simp only [Option.some.injEq] at e; omega)).trans (z4_C_0)
      have r5_C_1 : w5.cell? ⟨w1.heap.size, 1, none⟩ = some (.int .i64 q) := (World.grownBy.cell_far hg5 ⟨w1.heap.size, 1, none⟩ (by show w1.heap.size < _; first | omega | (simp; omega) | go_size) (fun e => by simp only [Option.some.injEq] at e; omega)).trans (r4_C_1)
      have z5_C_1 : w5.frozen? ⟨w1.heap.size, 1, none⟩ = false := (World.grownBy.frozen_far hg5 ⟨w1.heap.size, 1, none⟩ (by show w1.heap.size < _; first | omega | (simp; omega) | go_size) (fun e => by simp only [Option.some.injEq] at e; omega)).trans (z4_C_1)
      have r5_C_2 : w5.cell? ⟨w1.heap.size, 2, none⟩ = some (.int .i64 ((j : Int) - 5)) := (World.grownBy.cell_far hg5 ⟨w1.heap.size, 2, none⟩ (by show w1.heap.size < _; first | omega | (simp; omega) | go_size) (fun e => by simp only [Option.some.injEq] at e; omega)).trans (r4_C_2)
      have z5_C_2 : w5.frozen? ⟨w1.heap.size, 2, none⟩ = false := (World.grownBy.frozen_far hg5 ⟨w1.heap.size, 2, none⟩ (by show w1.heap.size < _; first | omega | (simp; omega) | go_size) (fun e => by simp only [Option.some.injEq] at e; omega)).trans (z4_C_2)
      have HG5 := Lib.hid (grown_trans HG4.out hg5)
      clear hC5 hg5 r4_A_0 z4_A_0 r4_A_1 z4_A_1 r4_A_2 z4_A_2 r4_C_0 z4_C_0 r4_C_1 z4_C_1 r4_C_2 z4_C_2
      have s5_A : w.heap.size < w5.heap.size := by omega
      have s5_C : w1.heap.size < w5.heap.size := by omega
      go_wp2
      (refine bodyPost_ret (by simp [results, Try.results59, go_sem, *]; try rfl) rfl ?_)
      refine ⟨_, _, _, rfl, ⟨ip2, iq2, i64h (by omega)⟩, Cur.far (Cur.mono HC5.out (by omega)) ((show Below w.heap.size w5 _ from by (repeat' (first | (with_reducible exact Below.refl _ _) | (with_reducible assumption) | (with_reducible refine Below.alloc ?_ ?_ _) | (with_reducible refine Below.drew ?_) | (with_reducible refine below_drewN ?_ _) | (with_reducible refine Below.setCell ?_ ?_ _) | (with_reducible refine below_call ?_ ?_ (by assumption)) | go_size))).mono (by omega)), grown_far HG5.out (by (repeat' (first | (with_reducible exact Below.refl _ _) | (with_reducible assumption) | (with_reducible refine Below.alloc ?_ ?_ _) | (with_reducible refine Below.drew ?_) | (with_reducible refine below_drewN ?_ _) | (with_reducible refine Below.setCell ?_ ?_ _) | (with_reducible refine below_call ?_ ?_ (by assumption)) | go_size)))⟩
    by_cases m1 : m = 1
    · subst m1
      have hI5 := Lib.hid (iin_new w4 [(-401 : Int), (-400 : Int), (400 : Int), (401 : Int), (4611686018427387904 : Int)] 3)
      have hl5 := Cur.lt HC4.out
      go_wp2_with fail
      refine (among_any L a n cp w0 b (T + 10) [(-401 : Int), (-400 : Int), (400 : Int), (401 : Int), (4611686018427387904 : Int)] 5 rfl (by omega) w4.heap.size 0 5 hO (by omega) _ (Cur.alloc HC4.out _) hI5.out (by omega)).mono ?_
      rintro e5 w5 ⟨x, rfl, hm5, hC5, hg5⟩
      have HC5 := Lib.hid hC5
      have hz5 := hg5.size
      try simp only [World.size_alloc, World.size_setCell, World.size_drew] at hz5
      have r5_A_0 : w5.cell? ⟨w.heap.size, 0, none⟩ = some (.int .i64 0) := (World.grownBy.cell_far hg5 ⟨w.heap.size, 0, none⟩ (by show w.heap.size < _; first | omega | (simp; omega) | go_size) (fun e => by simp only [Option.some.injEq] at e; omega)).trans ((World.cell?_alloc_past _ _ _ (by show w.heap.size < _; omega)).trans r4_A_0)
      have z5_A_0 : w5.frozen? ⟨w.heap.size, 0, none⟩ = false := (World.grownBy.frozen_far hg5 ⟨w.heap.size, 0, none⟩ (by show w.heap.size < _; first | omega | (simp; omega) | go_size) (fun e => by simp only [Option.some.injEq] at e; omega)).trans ((World.frozen?_alloc_past _ _ _ (by show w.heap.size < _; omega)).trans z4_A_0)
      have r5_A_1 : w5.cell? ⟨w.heap.size, 1, none⟩ = some (.int .i64 0) := (World.grownBy.cell_far hg5 ⟨w.heap.size, 1, none⟩ (by show w.heap.size < _; first | omega | (simp; omega) | go_size) (fun e => by simp only [Option.some.injEq] at e; omega)).trans ((World.cell?_alloc_past _ _ _ (by show w.heap.size < _; omega)).trans r4_A_1)
      have z5_A_1 : w5.frozen? ⟨w.heap.size, 1, none⟩ = false := (World.grownBy.frozen_far hg5 ⟨w.heap.size, 1, none⟩ (by show w.heap.size < _; first | omega | (simp; omega) | go_size) (fun e => by simp only [Option.some.injEq] at e; omega)).trans ((World.frozen?_alloc_past _ _ _ (by show w.heap.size < _; omega)).trans z4_A_1)
      have r5_A_2 : w5.cell? ⟨w.heap.size, 2, none⟩ = some (.int .i64 0) := (World.grownBy.cell_far hg5 ⟨w.heap.size, 2, none⟩ (by show w.heap.size < _; first | omega | (simp; omega) | go_size) (fun e => by simp only [Option.some.injEq] at e; omega)).trans ((World.cell?_alloc_past _ _ _ (by show w.heap.size < _; omega)).trans r4_A_2)
      have z5_A_2 : w5.frozen? ⟨w.heap.size, 2, none⟩ = false := (World.grownBy.frozen_far hg5 ⟨w.heap.size, 2, none⟩ (by show w.heap.size < _; first | omega | (simp; omega) | go_size) (fun e => by simp only [Option.some.injEq] at e; omega)).trans ((World.frozen?_alloc_past _ _ _ (by show w.heap.size < _; omega)).trans z4_A_2)
      have r5_C_0 : w5.cell? ⟨w1.heap.size, 0, none⟩ = some (.int .i64 p) := (World.grownBy.cell_far hg5 ⟨w1.heap.size, 0, none⟩ (by show w1.heap.size < _; first | omega | (simp; omega) | go_size) (fun e => by simp only [Option.some.injEq] at e; omega)).trans ((World.cell?_alloc_past _ _ _ (by show w1.heap.size < _; omega)).trans r4_C_0)
      have z5_C_0 : w5.frozen? ⟨w1.heap.size, 0, none⟩ = false := (World.grownBy.frozen_far hg5 ⟨w1.heap.size, 0, none⟩ (by show w1.heap.size < _; first | omega | (simp; omega) | go_size) (fun e => by simp only [Option.some.injEq] at e; omega)).trans ((World.frozen?_alloc_past _ _ _ (by show w1.heap.size < _; omega)).trans z4_C_0)
      have r5_C_1 : w5.cell? ⟨w1.heap.size, 1, none⟩ = some (.int .i64 q) := (World.grownBy.cell_far hg5 ⟨w1.heap.size, 1, none⟩ (by show w1.heap.size < _; first | omega | (simp; omega) | go_size) (fun e => by simp only [Option.some.injEq] at e; omega)).trans ((World.cell?_alloc_past _ _ _ (by show w1.heap.size < _; omega)).trans r4_C_1)
      have z5_C_1 : w5.frozen? ⟨w1.heap.size, 1, none⟩ = false := (World.grownBy.frozen_far hg5 ⟨w1.heap.size, 1, none⟩ (by show w1.heap.size < _; first | omega | (simp; omega) | go_size) (fun e => by simp only [Option.some.injEq] at e; omega)).trans ((World.frozen?_alloc_past _ _ _ (by show w1.heap.size < _; omega)).trans z4_C_1)
      have r5_C_2 : w5.cell? ⟨w1.heap.size, 2, none⟩ = some (.int .i64 ((j : Int) - 5)) := (World.grownBy.cell_far hg5 ⟨w1.heap.size, 2, none⟩ (by show w1.heap.size < _; first | omega | (simp; omega) | go_size) (fun e => by simp only [Option.some.injEq] at e; omega)).trans ((World.cell?_alloc_past _ _ _ (by show w1.heap.size < _; omega)).trans r4_C_2)
      have z5_C_2 : w5.frozen? ⟨w1.heap.size, 2, none⟩ = false := (World.grownBy.frozen_far hg5 ⟨w1.heap.size, 2, none⟩ (by show w1.heap.size < _; first | omega | (simp; omega) | go_size) (fun e => by simp only [Option.some.injEq] at e; omega)).trans ((World.frozen?_alloc_past _ _ _ (by show w1.heap.size < _; omega)).trans z4_C_2)
      have HG5 := Lib.hid (grown_trans HG4.out (grown_trans (World.grownBy_alloc w4 _ (some b)) hg5))
      have xm : -4611686018427387904 ≤ x ∧ x ≤ 4611686018427387904 := by simp only [List.mem_cons, List.not_mem_nil, or_false] at hm5; omega
      clear hm5
      clear hC5 hg5 r4_A_0 z4_A_0 r4_A_1 z4_A_1 r4_A_2 z4_A_2 r4_C_0 z4_C_0 r4_C_1 z4_C_1 r4_C_2 z4_C_2
      have s5_A : w.heap.size < w5.heap.size := by omega
      have s5_C : w1.heap.size < w5.heap.size := by omega
      go_wp2
      (refine bodyPost_ret (by simp [results, Try.results59, go_sem, *]; try rfl) rfl ?_)
      refine ⟨_, _, _, rfl, ⟨ip, iq, i64h xm⟩, Cur.far (Cur.mono HC5.out (by omega)) ((show Below w.heap.size w5 _ from by (repeat' (first | (with_reducible exact Below.refl _ _) | (with_reducible assumption) | (with_reducible refine Below.alloc ?_ ?_ _) | (with_reducible refine Below.drew ?_) | (with_reducible refine below_drewN ?_ _) | (with_reducible refine Below.setCell ?_ ?_ _) | (with_reducible refine below_call ?_ ?_ (by assumption)) | go_size))).mono (by omega)), grown_far HG5.out (by (repeat' (first | (with_reducible exact Below.refl _ _) | (with_reducible assumption) | (with_reducible refine Below.alloc ?_ ?_ _) | (with_reducible refine Below.drew ?_) | (with_reducible refine below_drewN ?_ _) | (with_reducible refine Below.setCell ?_ ?_ _) | (with_reducible refine below_call ?_ ?_ (by assumption)) | go_size)))⟩
    have mx0 : ((m : Int) == 0) = false := by simp; omega
    have mx1 : ((m : Int) == 1) = false := by simp; omega
    have s4_A : w.heap.size < w4.heap.size := by omega
    have s4_C : w1.heap.size < w4.heap.size := by omega
    go_wp2
    (refine bodyPost_ret (by simp [results, Try.results59, go_sem, *]; try rfl) rfl ?_)
    refine ⟨_, _, _, rfl, ⟨ip, iq, i64h (by omega)⟩, Cur.far (Cur.mono HC4.out (by omega)) ((show Below w.heap.size w4 _ from by (repeat' (first | (with_reducible exact Below.refl _ _) | (with_reducible assumption) | (with_reducible refine Below.alloc ?_ ?_ _) | (with_reducible refine Below.drew ?_) | (with_reducible refine below_drewN ?_ _) | (with_reducible refine Below.setCell ?_ ?_ _) | (with_reducible refine below_call ?_ ?_ (by assumption)) | go_size))).mono (by omega)), grown_far HG4.out (by (repeat' (first | (with_reducible exact Below.refl _ _) | (with_reducible assumption) | (with_reducible refine Below.alloc ?_ ?_ _) | (with_reducible refine Below.drew ?_) | (with_reducible refine below_drewN ?_ _) | (with_reducible refine Below.setCell ?_ ?_ _) | (with_reducible refine below_call ?_ ?_ (by assumption)) | go_size)))⟩
set_option maxHeartbeats 1600000 in
theorem DrawAheadAt_any (L : List Int) (a : Option Addr) (n cp : Nat) (hn : L.length = n) (hm : n ≤ 1048576) (w : World) (hB : BIn w a L) :
    Calls Try.prog 65 #[.slice a n cp] w fun e w' => ∃ n0 d0 z0 n1 d1 z1 n2 d2, e = .returned (.tuple #[.agg #[.int .i64 n0, .int .i64 d0, .int .i64 z0], .agg #[.int .i64 n1, .int .i64 d1, .int .i64 z1], .agg #[.int .i64 n2, .int .i64 d2]]) ∧ (I64 n0 ∧ I64 d0 ∧ I64 z0 ∧ I64 n1 ∧ I64 d1 ∧ I64 z1 ∧ I64 n2 ∧ I64 d2) ∧ Below w.heap.size w w' := by
  have hs : (((w.alloc (Obj.cells #[.int .i64 0, .int .i64 0, .int .i64 0] 27)).alloc (Obj.cells #[.int .i64 0, .int .i64 0, .int .i64 0] 27)).alloc (Obj.cells #[.int .i64 0, .int .i64 0] 25)).heap.size = w.heap.size + 1 + 1 + 1 := by simp
  have hO : CurOK L a n (((w.alloc (Obj.cells #[.int .i64 0, .int .i64 0, .int .i64 0] 27)).alloc (Obj.cells #[.int .i64 0, .int .i64 0, .int .i64 0] 27)).alloc (Obj.cells #[.int .i64 0, .int .i64 0] 25)) (w.heap.size + 1 + 1 + 1) := ⟨hn, by rw [hs]; exact Nat.le_refl _, hm, hB.below (by (repeat' (first | (with_reducible exact Below.refl _ _) | (with_reducible assumption) | (with_reducible refine Below.alloc ?_ ?_ _) | (with_reducible refine Below.drew ?_) | (with_reducible refine below_drewN ?_ _) | (with_reducible refine Below.setCell ?_ ?_ _) | (with_reducible refine below_call ?_ ?_ (by assumption)) | go_size)))⟩
  have h0 := Cur.start (((w.alloc (Obj.cells #[.int .i64 0, .int .i64 0, .int .i64 0] 27)).alloc (Obj.cells #[.int .i64 0, .int .i64 0, .int .i64 0] 27)).alloc (Obj.cells #[.int .i64 0, .int .i64 0] 25)) a n cp
  rw [hs] at h0
  have HC0 := Lib.hid h0
  clear hn hm hB h0 hs
  (go_enter Try.func65, Try.ntmps65)
  go_wp2_with fail
  refine (hand_any L a n cp (((w.alloc (Obj.cells #[.int .i64 0, .int .i64 0, .int .i64 0] 27)).alloc (Obj.cells #[.int .i64 0, .int .i64 0, .int .i64 0] 27)).alloc (Obj.cells #[.int .i64 0, .int .i64 0] 25)) (w.heap.size + 1 + 1 + 1) 0 hO (by omega) _ HC0.out).mono ?_
  rintro e1 w1 ⟨n0, d0, z0, rfl, ⟨kn0, kd0, kz0⟩, hC1, hg1⟩
  have hz1 := hg1.size
  try simp only [World.size_alloc] at hz1
  have HC1 := Lib.hid hC1
  have r1_0_0 : w1.cell? ⟨w.heap.size, 0, none⟩ = some (.int .i64 0) := (World.grownBy.cell_far hg1 ⟨w.heap.size, 0, none⟩ (by first | (simp; done) | (simp; omega) | (show _ < _; simp only; omega)) (fun e => by simp only [Option.some.injEq] at e; omega)).trans (by go_simp)
  have z1_0_0 : w1.frozen? ⟨w.heap.size, 0, none⟩ = false := (World.grownBy.frozen_far hg1 ⟨w.heap.size, 0, none⟩ (by first | (simp; done) | (simp; omega) | (show _ < _; simp only; omega)) (fun e => by simp only [Option.some.injEq] at e; omega)).trans (by go_simp)
  have r1_0_1 : w1.cell? ⟨w.heap.size, 1, none⟩ = some (.int .i64 0) := (World.grownBy.cell_far hg1 ⟨w.heap.size, 1, none⟩ (by first | (simp; done) | (simp; omega) | (show _ < _; simp only; omega)) (fun e => by simp only [Option.some.injEq] at e; omega)).trans (by go_simp)
  have z1_0_1 : w1.frozen? ⟨w.heap.size, 1, none⟩ = false := (World.grownBy.frozen_far hg1 ⟨w.heap.size, 1, none⟩ (by first | (simp; done) | (simp; omega) | (show _ < _; simp only; omega)) (fun e => by simp only [Option.some.injEq] at e; omega)).trans (by go_simp)
  have r1_0_2 : w1.cell? ⟨w.heap.size, 2, none⟩ = some (.int .i64 0) := (World.grownBy.cell_far hg1 ⟨w.heap.size, 2, none⟩ (by first | (simp; done) | (simp; omega) | (show _ < _; simp only; omega)) (fun e => by simp only [Option.some.injEq] at e; omega)).trans (by go_simp)
  have z1_0_2 : w1.frozen? ⟨w.heap.size, 2, none⟩ = false := (World.grownBy.frozen_far hg1 ⟨w.heap.size, 2, none⟩ (by first | (simp; done) | (simp; omega) | (show _ < _; simp only; omega)) (fun e => by simp only [Option.some.injEq] at e; omega)).trans (by go_simp)
  have r1_1_0 : w1.cell? ⟨w.heap.size + 1, 0, none⟩ = some (.int .i64 0) := (World.grownBy.cell_far hg1 ⟨w.heap.size + 1, 0, none⟩ (by first | (simp; done) | (simp; omega) | (show _ < _; simp only; omega)) (fun e => by simp only [Option.some.injEq] at e; omega)).trans (by go_simp)
  have z1_1_0 : w1.frozen? ⟨w.heap.size + 1, 0, none⟩ = false := (World.grownBy.frozen_far hg1 ⟨w.heap.size + 1, 0, none⟩ (by first | (simp; done) | (simp; omega) | (show _ < _; simp only; omega)) (fun e => by simp only [Option.some.injEq] at e; omega)).trans (by go_simp)
  have r1_1_1 : w1.cell? ⟨w.heap.size + 1, 1, none⟩ = some (.int .i64 0) := (World.grownBy.cell_far hg1 ⟨w.heap.size + 1, 1, none⟩ (by first | (simp; done) | (simp; omega) | (show _ < _; simp only; omega)) (fun e => by simp only [Option.some.injEq] at e; omega)).trans (by go_simp)
  have z1_1_1 : w1.frozen? ⟨w.heap.size + 1, 1, none⟩ = false := (World.grownBy.frozen_far hg1 ⟨w.heap.size + 1, 1, none⟩ (by first | (simp; done) | (simp; omega) | (show _ < _; simp only; omega)) (fun e => by simp only [Option.some.injEq] at e; omega)).trans (by go_simp)
  have r1_1_2 : w1.cell? ⟨w.heap.size + 1, 2, none⟩ = some (.int .i64 0) := (World.grownBy.cell_far hg1 ⟨w.heap.size + 1, 2, none⟩ (by first | (simp; done) | (simp; omega) | (show _ < _; simp only; omega)) (fun e => by simp only [Option.some.injEq] at e; omega)).trans (by go_simp)
  have z1_1_2 : w1.frozen? ⟨w.heap.size + 1, 2, none⟩ = false := (World.grownBy.frozen_far hg1 ⟨w.heap.size + 1, 2, none⟩ (by first | (simp; done) | (simp; omega) | (show _ < _; simp only; omega)) (fun e => by simp only [Option.some.injEq] at e; omega)).trans (by go_simp)
  have r1_2_0 : w1.cell? ⟨w.heap.size + 1 + 1, 0, none⟩ = some (.int .i64 0) := (World.grownBy.cell_far hg1 ⟨w.heap.size + 1 + 1, 0, none⟩ (by first | (simp; done) | (simp; omega) | (show _ < _; simp only; omega)) (fun e => by simp only [Option.some.injEq] at e; omega)).trans (by go_simp)
  have z1_2_0 : w1.frozen? ⟨w.heap.size + 1 + 1, 0, none⟩ = false := (World.grownBy.frozen_far hg1 ⟨w.heap.size + 1 + 1, 0, none⟩ (by first | (simp; done) | (simp; omega) | (show _ < _; simp only; omega)) (fun e => by simp only [Option.some.injEq] at e; omega)).trans (by go_simp)
  have r1_2_1 : w1.cell? ⟨w.heap.size + 1 + 1, 1, none⟩ = some (.int .i64 0) := (World.grownBy.cell_far hg1 ⟨w.heap.size + 1 + 1, 1, none⟩ (by first | (simp; done) | (simp; omega) | (show _ < _; simp only; omega)) (fun e => by simp only [Option.some.injEq] at e; omega)).trans (by go_simp)
  have z1_2_1 : w1.frozen? ⟨w.heap.size + 1 + 1, 1, none⟩ = false := (World.grownBy.frozen_far hg1 ⟨w.heap.size + 1 + 1, 1, none⟩ (by first | (simp; done) | (simp; omega) | (show _ < _; simp only; omega)) (fun e => by simp only [Option.some.injEq] at e; omega)).trans (by go_simp)
  have hb1 := Cur.same hC1
  clear hC1 hg1
  go_wp2_with fail
  refine (hand_any L a n cp (((w.alloc (Obj.cells #[.int .i64 0, .int .i64 0, .int .i64 0] 27)).alloc (Obj.cells #[.int .i64 0, .int .i64 0, .int .i64 0] 27)).alloc (Obj.cells #[.int .i64 0, .int .i64 0] 25)) (w.heap.size + 1 + 1 + 1) 20 hO (by omega) _ HC1.out).mono ?_
  rintro e2 w2 ⟨n1, d1, z1, rfl, ⟨kn1, kd1, kz1⟩, hC2, hg2⟩
  have hz2 := hg2.size
  try simp only [World.size_alloc] at hz2
  have HC2 := Lib.hid hC2
  have r2_0_0 : w2.cell? ⟨w.heap.size, 0, none⟩ = some (.int .i64 0) := (World.grownBy.cell_far hg2 ⟨w.heap.size, 0, none⟩ (by first | (simp; done) | (simp; omega) | (show _ < _; simp only; omega)) (fun e => by simp only [Option.some.injEq] at e; omega)).trans (r1_0_0)
  have z2_0_0 : w2.frozen? ⟨w.heap.size, 0, none⟩ = false := (World.grownBy.frozen_far hg2 ⟨w.heap.size, 0, none⟩ (by first | (simp; done) | (simp; omega) | (show _ < _; simp only; omega)) (fun e => by simp only [Option.some.injEq] at e; omega)).trans (z1_0_0)
  have r2_0_1 : w2.cell? ⟨w.heap.size, 1, none⟩ = some (.int .i64 0) := (World.grownBy.cell_far hg2 ⟨w.heap.size, 1, none⟩ (by first | (simp; done) | (simp; omega) | (show _ < _; simp only; omega)) (fun e => by simp only [Option.some.injEq] at e; omega)).trans (r1_0_1)
  have z2_0_1 : w2.frozen? ⟨w.heap.size, 1, none⟩ = false := (World.grownBy.frozen_far hg2 ⟨w.heap.size, 1, none⟩ (by first | (simp; done) | (simp; omega) | (show _ < _; simp only; omega)) (fun e => by simp only [Option.some.injEq] at e; omega)).trans (z1_0_1)
  have r2_0_2 : w2.cell? ⟨w.heap.size, 2, none⟩ = some (.int .i64 0) := (World.grownBy.cell_far hg2 ⟨w.heap.size, 2, none⟩ (by first | (simp; done) | (simp; omega) | (show _ < _; simp only; omega)) (fun e => by simp only [Option.some.injEq] at e; omega)).trans (r1_0_2)
  have z2_0_2 : w2.frozen? ⟨w.heap.size, 2, none⟩ = false := (World.grownBy.frozen_far hg2 ⟨w.heap.size, 2, none⟩ (by first | (simp; done) | (simp; omega) | (show _ < _; simp only; omega)) (fun e => by simp only [Option.some.injEq] at e; omega)).trans (z1_0_2)
  have r2_1_0 : w2.cell? ⟨w.heap.size + 1, 0, none⟩ = some (.int .i64 0) := (World.grownBy.cell_far hg2 ⟨w.heap.size + 1, 0, none⟩ (by first | (simp; done) | (simp; omega) | (show _ < _; simp only; omega)) (fun e => by simp only [Option.some.injEq] at e; omega)).trans (r1_1_0)
  have z2_1_0 : w2.frozen? ⟨w.heap.size + 1, 0, none⟩ = false := (World.grownBy.frozen_far hg2 ⟨w.heap.size + 1, 0, none⟩ (by first | (simp; done) | (simp; omega) | (show _ < _; simp only; omega)) (fun e => by simp only [Option.some.injEq] at e; omega)).trans (z1_1_0)
  have r2_1_1 : w2.cell? ⟨w.heap.size + 1, 1, none⟩ = some (.int .i64 0) := (World.grownBy.cell_far hg2 ⟨w.heap.size + 1, 1, none⟩ (by first | (simp; done) | (simp; omega) | (show _ < _; simp only; omega)) (fun e => by simp only [Option.some.injEq] at e; omega)).trans (r1_1_1)
  have z2_1_1 : w2.frozen? ⟨w.heap.size + 1, 1, none⟩ = false := (World.grownBy.frozen_far hg2 ⟨w.heap.size + 1, 1, none⟩ (by first | (simp; done) | (simp; omega) | (show _ < _; simp only; omega)) (fun e => by simp only [Option.some.injEq] at e; omega)).trans (z1_1_1)
  have r2_1_2 : w2.cell? ⟨w.heap.size + 1, 2, none⟩ = some (.int .i64 0) := (World.grownBy.cell_far hg2 ⟨w.heap.size + 1, 2, none⟩ (by first | (simp; done) | (simp; omega) | (show _ < _; simp only; omega)) (fun e => by simp only [Option.some.injEq] at e; omega)).trans (r1_1_2)
  have z2_1_2 : w2.frozen? ⟨w.heap.size + 1, 2, none⟩ = false := (World.grownBy.frozen_far hg2 ⟨w.heap.size + 1, 2, none⟩ (by first | (simp; done) | (simp; omega) | (show _ < _; simp only; omega)) (fun e => by simp only [Option.some.injEq] at e; omega)).trans (z1_1_2)
  have r2_2_0 : w2.cell? ⟨w.heap.size + 1 + 1, 0, none⟩ = some (.int .i64 0) := (World.grownBy.cell_far hg2 ⟨w.heap.size + 1 + 1, 0, none⟩ (by first | (simp; done) | (simp; omega) | (show _ < _; simp only; omega)) (fun e => by simp only [Option.some.injEq] at e; omega)).trans (r1_2_0)
  have z2_2_0 : w2.frozen? ⟨w.heap.size + 1 + 1, 0, none⟩ = false := (World.grownBy.frozen_far hg2 ⟨w.heap.size + 1 + 1, 0, none⟩ (by first | (simp; done) | (simp; omega) | (show _ < _; simp only; omega)) (fun e => by simp only [Option.some.injEq] at e; omega)).trans (z1_2_0)
  have r2_2_1 : w2.cell? ⟨w.heap.size + 1 + 1, 1, none⟩ = some (.int .i64 0) := (World.grownBy.cell_far hg2 ⟨w.heap.size + 1 + 1, 1, none⟩ (by first | (simp; done) | (simp; omega) | (show _ < _; simp only; omega)) (fun e => by simp only [Option.some.injEq] at e; omega)).trans (r1_2_1)
  have z2_2_1 : w2.frozen? ⟨w.heap.size + 1 + 1, 1, none⟩ = false := (World.grownBy.frozen_far hg2 ⟨w.heap.size + 1 + 1, 1, none⟩ (by first | (simp; done) | (simp; omega) | (show _ < _; simp only; omega)) (fun e => by simp only [Option.some.injEq] at e; omega)).trans (z1_2_1)
  clear r1_0_0 z1_0_0 r1_0_1 z1_0_1 r1_0_2 z1_0_2 r1_1_0 z1_1_0 r1_1_1 z1_1_1 r1_1_2 z1_1_2 r1_2_0 z1_2_0 r1_2_1 z1_2_1
  have hb2 := Cur.same hC2
  clear hC2 hg2
  go_wp2_with fail
  refine (turn_any L a n cp (((w.alloc (Obj.cells #[.int .i64 0, .int .i64 0, .int .i64 0] 27)).alloc (Obj.cells #[.int .i64 0, .int .i64 0, .int .i64 0] 27)).alloc (Obj.cells #[.int .i64 0, .int .i64 0] 25)) (w.heap.size + 1 + 1 + 1) 40 hO (by omega) _ HC2.out).mono ?_
  rintro e3 w3 ⟨n2, d2, rfl, ⟨kn2, kd2⟩, hC3, hg3⟩
  have hz3 := hg3.size
  try simp only [World.size_alloc] at hz3
  have HC3 := Lib.hid hC3
  have r3_0_0 : w3.cell? ⟨w.heap.size, 0, none⟩ = some (.int .i64 0) := (World.grownBy.cell_far hg3 ⟨w.heap.size, 0, none⟩ (by first | (simp; done) | (simp; omega) | (show _ < _; simp only; omega)) (fun e => by simp only [Option.some.injEq] at e; omega)).trans (r2_0_0)
  have z3_0_0 : w3.frozen? ⟨w.heap.size, 0, none⟩ = false := (World.grownBy.frozen_far hg3 ⟨w.heap.size, 0, none⟩ (by first | (simp; done) | (simp; omega) | (show _ < _; simp only; omega)) (fun e => by simp only [Option.some.injEq] at e; omega)).trans (z2_0_0)
  have r3_0_1 : w3.cell? ⟨w.heap.size, 1, none⟩ = some (.int .i64 0) := (World.grownBy.cell_far hg3 ⟨w.heap.size, 1, none⟩ (by first | (simp; done) | (simp; omega) | (show _ < _; simp only; omega)) (fun e => by simp only [Option.some.injEq] at e; omega)).trans (r2_0_1)
  have z3_0_1 : w3.frozen? ⟨w.heap.size, 1, none⟩ = false := (World.grownBy.frozen_far hg3 ⟨w.heap.size, 1, none⟩ (by first | (simp; done) | (simp; omega) | (show _ < _; simp only; omega)) (fun e => by simp only [Option.some.injEq] at e; omega)).trans (z2_0_1)
  have r3_0_2 : w3.cell? ⟨w.heap.size, 2, none⟩ = some (.int .i64 0) := (World.grownBy.cell_far hg3 ⟨w.heap.size, 2, none⟩ (by first | (simp; done) | (simp; omega) | (show _ < _; simp only; omega)) (fun e => by simp only [Option.some.injEq] at e; omega)).trans (r2_0_2)
  have z3_0_2 : w3.frozen? ⟨w.heap.size, 2, none⟩ = false := (World.grownBy.frozen_far hg3 ⟨w.heap.size, 2, none⟩ (by first | (simp; done) | (simp; omega) | (show _ < _; simp only; omega)) (fun e => by simp only [Option.some.injEq] at e; omega)).trans (z2_0_2)
  have r3_1_0 : w3.cell? ⟨w.heap.size + 1, 0, none⟩ = some (.int .i64 0) := (World.grownBy.cell_far hg3 ⟨w.heap.size + 1, 0, none⟩ (by first | (simp; done) | (simp; omega) | (show _ < _; simp only; omega)) (fun e => by simp only [Option.some.injEq] at e; omega)).trans (r2_1_0)
  have z3_1_0 : w3.frozen? ⟨w.heap.size + 1, 0, none⟩ = false := (World.grownBy.frozen_far hg3 ⟨w.heap.size + 1, 0, none⟩ (by first | (simp; done) | (simp; omega) | (show _ < _; simp only; omega)) (fun e => by simp only [Option.some.injEq] at e; omega)).trans (z2_1_0)
  have r3_1_1 : w3.cell? ⟨w.heap.size + 1, 1, none⟩ = some (.int .i64 0) := (World.grownBy.cell_far hg3 ⟨w.heap.size + 1, 1, none⟩ (by first | (simp; done) | (simp; omega) | (show _ < _; simp only; omega)) (fun e => by simp only [Option.some.injEq] at e; omega)).trans (r2_1_1)
  have z3_1_1 : w3.frozen? ⟨w.heap.size + 1, 1, none⟩ = false := (World.grownBy.frozen_far hg3 ⟨w.heap.size + 1, 1, none⟩ (by first | (simp; done) | (simp; omega) | (show _ < _; simp only; omega)) (fun e => by simp only [Option.some.injEq] at e; omega)).trans (z2_1_1)
  have r3_1_2 : w3.cell? ⟨w.heap.size + 1, 2, none⟩ = some (.int .i64 0) := (World.grownBy.cell_far hg3 ⟨w.heap.size + 1, 2, none⟩ (by first | (simp; done) | (simp; omega) | (show _ < _; simp only; omega)) (fun e => by simp only [Option.some.injEq] at e; omega)).trans (r2_1_2)
  have z3_1_2 : w3.frozen? ⟨w.heap.size + 1, 2, none⟩ = false := (World.grownBy.frozen_far hg3 ⟨w.heap.size + 1, 2, none⟩ (by first | (simp; done) | (simp; omega) | (show _ < _; simp only; omega)) (fun e => by simp only [Option.some.injEq] at e; omega)).trans (z2_1_2)
  have r3_2_0 : w3.cell? ⟨w.heap.size + 1 + 1, 0, none⟩ = some (.int .i64 0) := (World.grownBy.cell_far hg3 ⟨w.heap.size + 1 + 1, 0, none⟩ (by first | (simp; done) | (simp; omega) | (show _ < _; simp only; omega)) (fun e => by simp only [Option.some.injEq] at e; omega)).trans (r2_2_0)
  have z3_2_0 : w3.frozen? ⟨w.heap.size + 1 + 1, 0, none⟩ = false := (World.grownBy.frozen_far hg3 ⟨w.heap.size + 1 + 1, 0, none⟩ (by first | (simp; done) | (simp; omega) | (show _ < _; simp only; omega)) (fun e => by simp only [Option.some.injEq] at e; omega)).trans (z2_2_0)
  have r3_2_1 : w3.cell? ⟨w.heap.size + 1 + 1, 1, none⟩ = some (.int .i64 0) := (World.grownBy.cell_far hg3 ⟨w.heap.size + 1 + 1, 1, none⟩ (by first | (simp; done) | (simp; omega) | (show _ < _; simp only; omega)) (fun e => by simp only [Option.some.injEq] at e; omega)).trans (r2_2_1)
  have z3_2_1 : w3.frozen? ⟨w.heap.size + 1 + 1, 1, none⟩ = false := (World.grownBy.frozen_far hg3 ⟨w.heap.size + 1 + 1, 1, none⟩ (by first | (simp; done) | (simp; omega) | (show _ < _; simp only; omega)) (fun e => by simp only [Option.some.injEq] at e; omega)).trans (z2_2_1)
  clear r2_0_0 z2_0_0 r2_0_1 z2_0_1 r2_0_2 z2_0_2 r2_1_0 z2_1_0 r2_1_1 z2_1_1 r2_1_2 z2_1_2 r2_2_0 z2_2_0 r2_2_1 z2_2_1
  have hb3 := Cur.same hC3
  clear hC3 hg3
  have hbw : Below w.heap.size w w3 := (show Below w.heap.size w (((w.alloc (Obj.cells #[.int .i64 0, .int .i64 0, .int .i64 0] 27)).alloc (Obj.cells #[.int .i64 0, .int .i64 0, .int .i64 0] 27)).alloc (Obj.cells #[.int .i64 0, .int .i64 0] 25)) from by (repeat' (first | (with_reducible exact Below.refl _ _) | (with_reducible assumption) | (with_reducible refine Below.alloc ?_ ?_ _) | (with_reducible refine Below.drew ?_) | (with_reducible refine below_drewN ?_ _) | (with_reducible refine Below.setCell ?_ ?_ _) | (with_reducible refine below_call ?_ ?_ (by assumption)) | go_size))).trans (hb3.mono (by omega))
  clear hb1 hb2 hb3
  have s0 : w.heap.size < w3.heap.size := by omega
  have s1 : w.heap.size + 1 < w3.heap.size := by omega
  have s2 : w.heap.size + 1 + 1 < w3.heap.size := by omega
  go_wp2
  (refine bodyPost_ret (by simp [results, Try.results65, go_sem, *]; try rfl) rfl ?_)
  exact ⟨n0, d0, z0, n1, d1, z1, n2, d2, rfl, ⟨kn0, kd0, kz0, kn1, kd1, kz1, kn2, kd2⟩, by (repeat' (first | (with_reducible exact Below.refl _ _) | (with_reducible assumption) | (with_reducible refine Below.alloc ?_ ?_ _) | (with_reducible refine Below.drew ?_) | (with_reducible refine below_drewN ?_ _) | (with_reducible refine Below.setCell ?_ ?_ _) | (with_reducible refine below_call ?_ ?_ (by assumption)) | go_size))⟩

set_option maxHeartbeats 1600000 in
theorem DrawThreeMeet_any (L : List Int) (a : Option Addr) (n cp : Nat) (hn : L.length = n) (hm : n ≤ 1048576) (w : World) (hB : BIn w a L) :
    Calls Try.prog 36 #[.slice a n cp] w fun e w' => ∃ n0 d0 z0 n1 d1 z1 n2 d2 z2, e = .returned (.tuple #[.agg #[.int .i64 n0, .int .i64 d0, .int .i64 z0], .agg #[.int .i64 n1, .int .i64 d1, .int .i64 z1], .agg #[.int .i64 n2, .int .i64 d2, .int .i64 z2]]) ∧ (I64 n0 ∧ I64 d0 ∧ I64 z0 ∧ I64 n1 ∧ I64 d1 ∧ I64 z1 ∧ I64 n2 ∧ I64 d2 ∧ I64 z2) ∧ Below w.heap.size w w' := by
  have hs : (((w.alloc (Obj.cells #[.int .i64 0, .int .i64 0, .int .i64 0] 27)).alloc (Obj.cells #[.int .i64 0, .int .i64 0, .int .i64 0] 27)).alloc (Obj.cells #[.int .i64 0, .int .i64 0, .int .i64 0] 27)).heap.size = w.heap.size + 1 + 1 + 1 := by simp
  have hO : CurOK L a n (((w.alloc (Obj.cells #[.int .i64 0, .int .i64 0, .int .i64 0] 27)).alloc (Obj.cells #[.int .i64 0, .int .i64 0, .int .i64 0] 27)).alloc (Obj.cells #[.int .i64 0, .int .i64 0, .int .i64 0] 27)) (w.heap.size + 1 + 1 + 1) := ⟨hn, by rw [hs]; exact Nat.le_refl _, hm, hB.below (by (repeat' (first | (with_reducible exact Below.refl _ _) | (with_reducible assumption) | (with_reducible refine Below.alloc ?_ ?_ _) | (with_reducible refine Below.drew ?_) | (with_reducible refine below_drewN ?_ _) | (with_reducible refine Below.setCell ?_ ?_ _) | (with_reducible refine below_call ?_ ?_ (by assumption)) | go_size)))⟩
  have h0 := Cur.start (((w.alloc (Obj.cells #[.int .i64 0, .int .i64 0, .int .i64 0] 27)).alloc (Obj.cells #[.int .i64 0, .int .i64 0, .int .i64 0] 27)).alloc (Obj.cells #[.int .i64 0, .int .i64 0, .int .i64 0] 27)) a n cp
  rw [hs] at h0
  have HC0 := Lib.hid h0
  clear hn hm hB h0 hs
  (go_enter Try.func36, Try.ntmps36)
  go_wp2_with fail
  refine (hand_any L a n cp (((w.alloc (Obj.cells #[.int .i64 0, .int .i64 0, .int .i64 0] 27)).alloc (Obj.cells #[.int .i64 0, .int .i64 0, .int .i64 0] 27)).alloc (Obj.cells #[.int .i64 0, .int .i64 0, .int .i64 0] 27)) (w.heap.size + 1 + 1 + 1) 0 hO (by omega) _ HC0.out).mono ?_
  rintro e1 w1 ⟨n0, d0, z0, rfl, ⟨kn0, kd0, kz0⟩, hC1, hg1⟩
  have hz1 := hg1.size
  try simp only [World.size_alloc] at hz1
  have HC1 := Lib.hid hC1
  have r1_0_0 : w1.cell? ⟨w.heap.size, 0, none⟩ = some (.int .i64 0) := (World.grownBy.cell_far hg1 ⟨w.heap.size, 0, none⟩ (by first | (simp; done) | (simp; omega) | (show _ < _; simp only; omega)) (fun e => by simp only [Option.some.injEq] at e; omega)).trans (by go_simp)
  have z1_0_0 : w1.frozen? ⟨w.heap.size, 0, none⟩ = false := (World.grownBy.frozen_far hg1 ⟨w.heap.size, 0, none⟩ (by first | (simp; done) | (simp; omega) | (show _ < _; simp only; omega)) (fun e => by simp only [Option.some.injEq] at e; omega)).trans (by go_simp)
  have r1_0_1 : w1.cell? ⟨w.heap.size, 1, none⟩ = some (.int .i64 0) := (World.grownBy.cell_far hg1 ⟨w.heap.size, 1, none⟩ (by first | (simp; done) | (simp; omega) | (show _ < _; simp only; omega)) (fun e => by simp only [Option.some.injEq] at e; omega)).trans (by go_simp)
  have z1_0_1 : w1.frozen? ⟨w.heap.size, 1, none⟩ = false := (World.grownBy.frozen_far hg1 ⟨w.heap.size, 1, none⟩ (by first | (simp; done) | (simp; omega) | (show _ < _; simp only; omega)) (fun e => by simp only [Option.some.injEq] at e; omega)).trans (by go_simp)
  have r1_0_2 : w1.cell? ⟨w.heap.size, 2, none⟩ = some (.int .i64 0) := (World.grownBy.cell_far hg1 ⟨w.heap.size, 2, none⟩ (by first | (simp; done) | (simp; omega) | (show _ < _; simp only; omega)) (fun e => by simp only [Option.some.injEq] at e; omega)).trans (by go_simp)
  have z1_0_2 : w1.frozen? ⟨w.heap.size, 2, none⟩ = false := (World.grownBy.frozen_far hg1 ⟨w.heap.size, 2, none⟩ (by first | (simp; done) | (simp; omega) | (show _ < _; simp only; omega)) (fun e => by simp only [Option.some.injEq] at e; omega)).trans (by go_simp)
  have r1_1_0 : w1.cell? ⟨w.heap.size + 1, 0, none⟩ = some (.int .i64 0) := (World.grownBy.cell_far hg1 ⟨w.heap.size + 1, 0, none⟩ (by first | (simp; done) | (simp; omega) | (show _ < _; simp only; omega)) (fun e => by simp only [Option.some.injEq] at e; omega)).trans (by go_simp)
  have z1_1_0 : w1.frozen? ⟨w.heap.size + 1, 0, none⟩ = false := (World.grownBy.frozen_far hg1 ⟨w.heap.size + 1, 0, none⟩ (by first | (simp; done) | (simp; omega) | (show _ < _; simp only; omega)) (fun e => by simp only [Option.some.injEq] at e; omega)).trans (by go_simp)
  have r1_1_1 : w1.cell? ⟨w.heap.size + 1, 1, none⟩ = some (.int .i64 0) := (World.grownBy.cell_far hg1 ⟨w.heap.size + 1, 1, none⟩ (by first | (simp; done) | (simp; omega) | (show _ < _; simp only; omega)) (fun e => by simp only [Option.some.injEq] at e; omega)).trans (by go_simp)
  have z1_1_1 : w1.frozen? ⟨w.heap.size + 1, 1, none⟩ = false := (World.grownBy.frozen_far hg1 ⟨w.heap.size + 1, 1, none⟩ (by first | (simp; done) | (simp; omega) | (show _ < _; simp only; omega)) (fun e => by simp only [Option.some.injEq] at e; omega)).trans (by go_simp)
  have r1_1_2 : w1.cell? ⟨w.heap.size + 1, 2, none⟩ = some (.int .i64 0) := (World.grownBy.cell_far hg1 ⟨w.heap.size + 1, 2, none⟩ (by first | (simp; done) | (simp; omega) | (show _ < _; simp only; omega)) (fun e => by simp only [Option.some.injEq] at e; omega)).trans (by go_simp)
  have z1_1_2 : w1.frozen? ⟨w.heap.size + 1, 2, none⟩ = false := (World.grownBy.frozen_far hg1 ⟨w.heap.size + 1, 2, none⟩ (by first | (simp; done) | (simp; omega) | (show _ < _; simp only; omega)) (fun e => by simp only [Option.some.injEq] at e; omega)).trans (by go_simp)
  have r1_2_0 : w1.cell? ⟨w.heap.size + 1 + 1, 0, none⟩ = some (.int .i64 0) := (World.grownBy.cell_far hg1 ⟨w.heap.size + 1 + 1, 0, none⟩ (by first | (simp; done) | (simp; omega) | (show _ < _; simp only; omega)) (fun e => by simp only [Option.some.injEq] at e; omega)).trans (by go_simp)
  have z1_2_0 : w1.frozen? ⟨w.heap.size + 1 + 1, 0, none⟩ = false := (World.grownBy.frozen_far hg1 ⟨w.heap.size + 1 + 1, 0, none⟩ (by first | (simp; done) | (simp; omega) | (show _ < _; simp only; omega)) (fun e => by simp only [Option.some.injEq] at e; omega)).trans (by go_simp)
  have r1_2_1 : w1.cell? ⟨w.heap.size + 1 + 1, 1, none⟩ = some (.int .i64 0) := (World.grownBy.cell_far hg1 ⟨w.heap.size + 1 + 1, 1, none⟩ (by first | (simp; done) | (simp; omega) | (show _ < _; simp only; omega)) (fun e => by simp only [Option.some.injEq] at e; omega)).trans (by go_simp)
  have z1_2_1 : w1.frozen? ⟨w.heap.size + 1 + 1, 1, none⟩ = false := (World.grownBy.frozen_far hg1 ⟨w.heap.size + 1 + 1, 1, none⟩ (by first | (simp; done) | (simp; omega) | (show _ < _; simp only; omega)) (fun e => by simp only [Option.some.injEq] at e; omega)).trans (by go_simp)
  have r1_2_2 : w1.cell? ⟨w.heap.size + 1 + 1, 2, none⟩ = some (.int .i64 0) := (World.grownBy.cell_far hg1 ⟨w.heap.size + 1 + 1, 2, none⟩ (by first | (simp; done) | (simp; omega) | (show _ < _; simp only; omega)) (fun e => by simp only [Option.some.injEq] at e; omega)).trans (by go_simp)
  have z1_2_2 : w1.frozen? ⟨w.heap.size + 1 + 1, 2, none⟩ = false := (World.grownBy.frozen_far hg1 ⟨w.heap.size + 1 + 1, 2, none⟩ (by first | (simp; done) | (simp; omega) | (show _ < _; simp only; omega)) (fun e => by simp only [Option.some.injEq] at e; omega)).trans (by go_simp)
  have hb1 := Cur.same hC1
  clear hC1 hg1
  go_wp2_with fail
  refine (hand_any L a n cp (((w.alloc (Obj.cells #[.int .i64 0, .int .i64 0, .int .i64 0] 27)).alloc (Obj.cells #[.int .i64 0, .int .i64 0, .int .i64 0] 27)).alloc (Obj.cells #[.int .i64 0, .int .i64 0, .int .i64 0] 27)) (w.heap.size + 1 + 1 + 1) 20 hO (by omega) _ HC1.out).mono ?_
  rintro e2 w2 ⟨n1, d1, z1, rfl, ⟨kn1, kd1, kz1⟩, hC2, hg2⟩
  have hz2 := hg2.size
  try simp only [World.size_alloc] at hz2
  have HC2 := Lib.hid hC2
  have r2_0_0 : w2.cell? ⟨w.heap.size, 0, none⟩ = some (.int .i64 0) := (World.grownBy.cell_far hg2 ⟨w.heap.size, 0, none⟩ (by first | (simp; done) | (simp; omega) | (show _ < _; simp only; omega)) (fun e => by simp only [Option.some.injEq] at e; omega)).trans (r1_0_0)
  have z2_0_0 : w2.frozen? ⟨w.heap.size, 0, none⟩ = false := (World.grownBy.frozen_far hg2 ⟨w.heap.size, 0, none⟩ (by first | (simp; done) | (simp; omega) | (show _ < _; simp only; omega)) (fun e => by simp only [Option.some.injEq] at e; omega)).trans (z1_0_0)
  have r2_0_1 : w2.cell? ⟨w.heap.size, 1, none⟩ = some (.int .i64 0) := (World.grownBy.cell_far hg2 ⟨w.heap.size, 1, none⟩ (by first | (simp; done) | (simp; omega) | (show _ < _; simp only; omega)) (fun e => by simp only [Option.some.injEq] at e; omega)).trans (r1_0_1)
  have z2_0_1 : w2.frozen? ⟨w.heap.size, 1, none⟩ = false := (World.grownBy.frozen_far hg2 ⟨w.heap.size, 1, none⟩ (by first | (simp; done) | (simp; omega) | (show _ < _; simp only; omega)) (fun e => by simp only [Option.some.injEq] at e; omega)).trans (z1_0_1)
  have r2_0_2 : w2.cell? ⟨w.heap.size, 2, none⟩ = some (.int .i64 0) := (World.grownBy.cell_far hg2 ⟨w.heap.size, 2, none⟩ (by first | (simp; done) | (simp; omega) | (show _ < _; simp only; omega)) (fun e => by simp only [Option.some.injEq] at e; omega)).trans (r1_0_2)
  have z2_0_2 : w2.frozen? ⟨w.heap.size, 2, none⟩ = false := (World.grownBy.frozen_far hg2 ⟨w.heap.size, 2, none⟩ (by first | (simp; done) | (simp; omega) | (show _ < _; simp only; omega)) (fun e => by simp only [Option.some.injEq] at e; omega)).trans (z1_0_2)
  have r2_1_0 : w2.cell? ⟨w.heap.size + 1, 0, none⟩ = some (.int .i64 0) := (World.grownBy.cell_far hg2 ⟨w.heap.size + 1, 0, none⟩ (by first | (simp; done) | (simp; omega) | (show _ < _; simp only; omega)) (fun e => by simp only [Option.some.injEq] at e; omega)).trans (r1_1_0)
  have z2_1_0 : w2.frozen? ⟨w.heap.size + 1, 0, none⟩ = false := (World.grownBy.frozen_far hg2 ⟨w.heap.size + 1, 0, none⟩ (by first | (simp; done) | (simp; omega) | (show _ < _; simp only; omega)) (fun e => by simp only [Option.some.injEq] at e; omega)).trans (z1_1_0)
  have r2_1_1 : w2.cell? ⟨w.heap.size + 1, 1, none⟩ = some (.int .i64 0) := (World.grownBy.cell_far hg2 ⟨w.heap.size + 1, 1, none⟩ (by first | (simp; done) | (simp; omega) | (show _ < _; simp only; omega)) (fun e => by simp only [Option.some.injEq] at e; omega)).trans (r1_1_1)
  have z2_1_1 : w2.frozen? ⟨w.heap.size + 1, 1, none⟩ = false := (World.grownBy.frozen_far hg2 ⟨w.heap.size + 1, 1, none⟩ (by first | (simp; done) | (simp; omega) | (show _ < _; simp only; omega)) (fun e => by simp only [Option.some.injEq] at e; omega)).trans (z1_1_1)
  have r2_1_2 : w2.cell? ⟨w.heap.size + 1, 2, none⟩ = some (.int .i64 0) := (World.grownBy.cell_far hg2 ⟨w.heap.size + 1, 2, none⟩ (by first | (simp; done) | (simp; omega) | (show _ < _; simp only; omega)) (fun e => by simp only [Option.some.injEq] at e; omega)).trans (r1_1_2)
  have z2_1_2 : w2.frozen? ⟨w.heap.size + 1, 2, none⟩ = false := (World.grownBy.frozen_far hg2 ⟨w.heap.size + 1, 2, none⟩ (by first | (simp; done) | (simp; omega) | (show _ < _; simp only; omega)) (fun e => by simp only [Option.some.injEq] at e; omega)).trans (z1_1_2)
  have r2_2_0 : w2.cell? ⟨w.heap.size + 1 + 1, 0, none⟩ = some (.int .i64 0) := (World.grownBy.cell_far hg2 ⟨w.heap.size + 1 + 1, 0, none⟩ (by first | (simp; done) | (simp; omega) | (show _ < _; simp only; omega)) (fun e => by simp only [Option.some.injEq] at e; omega)).trans (r1_2_0)
  have z2_2_0 : w2.frozen? ⟨w.heap.size + 1 + 1, 0, none⟩ = false := (World.grownBy.frozen_far hg2 ⟨w.heap.size + 1 + 1, 0, none⟩ (by first | (simp; done) | (simp; omega) | (show _ < _; simp only; omega)) (fun e => by simp only [Option.some.injEq] at e; omega)).trans (z1_2_0)
  have r2_2_1 : w2.cell? ⟨w.heap.size + 1 + 1, 1, none⟩ = some (.int .i64 0) := (World.grownBy.cell_far hg2 ⟨w.heap.size + 1 + 1, 1, none⟩ (by first | (simp; done) | (simp; omega) | (show _ < _; simp only; omega)) (fun e => by simp only [Option.some.injEq] at e; omega)).trans (r1_2_1)
  have z2_2_1 : w2.frozen? ⟨w.heap.size + 1 + 1, 1, none⟩ = false := (World.grownBy.frozen_far hg2 ⟨w.heap.size + 1 + 1, 1, none⟩ (by first | (simp; done) | (simp; omega) | (show _ < _; simp only; omega)) (fun e => by simp only [Option.some.injEq] at e; omega)).trans (z1_2_1)
  have r2_2_2 : w2.cell? ⟨w.heap.size + 1 + 1, 2, none⟩ = some (.int .i64 0) := (World.grownBy.cell_far hg2 ⟨w.heap.size + 1 + 1, 2, none⟩ (by first | (simp; done) | (simp; omega) | (show _ < _; simp only; omega)) (fun e => by simp only [Option.some.injEq] at e; omega)).trans (r1_2_2)
  have z2_2_2 : w2.frozen? ⟨w.heap.size + 1 + 1, 2, none⟩ = false := (World.grownBy.frozen_far hg2 ⟨w.heap.size + 1 + 1, 2, none⟩ (by first | (simp; done) | (simp; omega) | (show _ < _; simp only; omega)) (fun e => by simp only [Option.some.injEq] at e; omega)).trans (z1_2_2)
  clear r1_0_0 z1_0_0 r1_0_1 z1_0_1 r1_0_2 z1_0_2 r1_1_0 z1_1_0 r1_1_1 z1_1_1 r1_1_2 z1_1_2 r1_2_0 z1_2_0 r1_2_1 z1_2_1 r1_2_2 z1_2_2
  have hb2 := Cur.same hC2
  clear hC2 hg2
  go_wp2_with fail
  refine (hand_any L a n cp (((w.alloc (Obj.cells #[.int .i64 0, .int .i64 0, .int .i64 0] 27)).alloc (Obj.cells #[.int .i64 0, .int .i64 0, .int .i64 0] 27)).alloc (Obj.cells #[.int .i64 0, .int .i64 0, .int .i64 0] 27)) (w.heap.size + 1 + 1 + 1) 40 hO (by omega) _ HC2.out).mono ?_
  rintro e3 w3 ⟨n2, d2, z2, rfl, ⟨kn2, kd2, kz2⟩, hC3, hg3⟩
  have hz3 := hg3.size
  try simp only [World.size_alloc] at hz3
  have HC3 := Lib.hid hC3
  have r3_0_0 : w3.cell? ⟨w.heap.size, 0, none⟩ = some (.int .i64 0) := (World.grownBy.cell_far hg3 ⟨w.heap.size, 0, none⟩ (by first | (simp; done) | (simp; omega) | (show _ < _; simp only; omega)) (fun e => by simp only [Option.some.injEq] at e; omega)).trans (r2_0_0)
  have z3_0_0 : w3.frozen? ⟨w.heap.size, 0, none⟩ = false := (World.grownBy.frozen_far hg3 ⟨w.heap.size, 0, none⟩ (by first | (simp; done) | (simp; omega) | (show _ < _; simp only; omega)) (fun e => by simp only [Option.some.injEq] at e; omega)).trans (z2_0_0)
  have r3_0_1 : w3.cell? ⟨w.heap.size, 1, none⟩ = some (.int .i64 0) := (World.grownBy.cell_far hg3 ⟨w.heap.size, 1, none⟩ (by first | (simp; done) | (simp; omega) | (show _ < _; simp only; omega)) (fun e => by simp only [Option.some.injEq] at e; omega)).trans (r2_0_1)
  have z3_0_1 : w3.frozen? ⟨w.heap.size, 1, none⟩ = false := (World.grownBy.frozen_far hg3 ⟨w.heap.size, 1, none⟩ (by first | (simp; done) | (simp; omega) | (show _ < _; simp only; omega)) (fun e => by simp only [Option.some.injEq] at e; omega)).trans (z2_0_1)
  have r3_0_2 : w3.cell? ⟨w.heap.size, 2, none⟩ = some (.int .i64 0) := (World.grownBy.cell_far hg3 ⟨w.heap.size, 2, none⟩ (by first | (simp; done) | (simp; omega) | (show _ < _; simp only; omega)) (fun e => by simp only [Option.some.injEq] at e; omega)).trans (r2_0_2)
  have z3_0_2 : w3.frozen? ⟨w.heap.size, 2, none⟩ = false := (World.grownBy.frozen_far hg3 ⟨w.heap.size, 2, none⟩ (by first | (simp; done) | (simp; omega) | (show _ < _; simp only; omega)) (fun e => by simp only [Option.some.injEq] at e; omega)).trans (z2_0_2)
  have r3_1_0 : w3.cell? ⟨w.heap.size + 1, 0, none⟩ = some (.int .i64 0) := (World.grownBy.cell_far hg3 ⟨w.heap.size + 1, 0, none⟩ (by first | (simp; done) | (simp; omega) | (show _ < _; simp only; omega)) (fun e => by simp only [Option.some.injEq] at e; omega)).trans (r2_1_0)
  have z3_1_0 : w3.frozen? ⟨w.heap.size + 1, 0, none⟩ = false := (World.grownBy.frozen_far hg3 ⟨w.heap.size + 1, 0, none⟩ (by first | (simp; done) | (simp; omega) | (show _ < _; simp only; omega)) (fun e => by simp only [Option.some.injEq] at e; omega)).trans (z2_1_0)
  have r3_1_1 : w3.cell? ⟨w.heap.size + 1, 1, none⟩ = some (.int .i64 0) := (World.grownBy.cell_far hg3 ⟨w.heap.size + 1, 1, none⟩ (by first | (simp; done) | (simp; omega) | (show _ < _; simp only; omega)) (fun e => by simp only [Option.some.injEq] at e; omega)).trans (r2_1_1)
  have z3_1_1 : w3.frozen? ⟨w.heap.size + 1, 1, none⟩ = false := (World.grownBy.frozen_far hg3 ⟨w.heap.size + 1, 1, none⟩ (by first | (simp; done) | (simp; omega) | (show _ < _; simp only; omega)) (fun e => by simp only [Option.some.injEq] at e; omega)).trans (z2_1_1)
  have r3_1_2 : w3.cell? ⟨w.heap.size + 1, 2, none⟩ = some (.int .i64 0) := (World.grownBy.cell_far hg3 ⟨w.heap.size + 1, 2, none⟩ (by first | (simp; done) | (simp; omega) | (show _ < _; simp only; omega)) (fun e => by simp only [Option.some.injEq] at e; omega)).trans (r2_1_2)
  have z3_1_2 : w3.frozen? ⟨w.heap.size + 1, 2, none⟩ = false := (World.grownBy.frozen_far hg3 ⟨w.heap.size + 1, 2, none⟩ (by first | (simp; done) | (simp; omega) | (show _ < _; simp only; omega)) (fun e => by simp only [Option.some.injEq] at e; omega)).trans (z2_1_2)
  have r3_2_0 : w3.cell? ⟨w.heap.size + 1 + 1, 0, none⟩ = some (.int .i64 0) := (World.grownBy.cell_far hg3 ⟨w.heap.size + 1 + 1, 0, none⟩ (by first | (simp; done) | (simp; omega) | (show _ < _; simp only; omega)) (fun e => by simp only [Option.some.injEq] at e; omega)).trans (r2_2_0)
  have z3_2_0 : w3.frozen? ⟨w.heap.size + 1 + 1, 0, none⟩ = false := (World.grownBy.frozen_far hg3 ⟨w.heap.size + 1 + 1, 0, none⟩ (by first | (simp; done) | (simp; omega) | (show _ < _; simp only; omega)) (fun e => by simp only [Option.some.injEq] at e; omega)).trans (z2_2_0)
  have r3_2_1 : w3.cell? ⟨w.heap.size + 1 + 1, 1, none⟩ = some (.int .i64 0) := (World.grownBy.cell_far hg3 ⟨w.heap.size + 1 + 1, 1, none⟩ (by first | (simp; done) | (simp; omega) | (show _ < _; simp only; omega)) (fun e => by simp only [Option.some.injEq] at e; omega)).trans (r2_2_1)
  have z3_2_1 : w3.frozen? ⟨w.heap.size + 1 + 1, 1, none⟩ = false := (World.grownBy.frozen_far hg3 ⟨w.heap.size + 1 + 1, 1, none⟩ (by first | (simp; done) | (simp; omega) | (show _ < _; simp only; omega)) (fun e => by simp only [Option.some.injEq] at e; omega)).trans (z2_2_1)
  have r3_2_2 : w3.cell? ⟨w.heap.size + 1 + 1, 2, none⟩ = some (.int .i64 0) := (World.grownBy.cell_far hg3 ⟨w.heap.size + 1 + 1, 2, none⟩ (by first | (simp; done) | (simp; omega) | (show _ < _; simp only; omega)) (fun e => by simp only [Option.some.injEq] at e; omega)).trans (r2_2_2)
  have z3_2_2 : w3.frozen? ⟨w.heap.size + 1 + 1, 2, none⟩ = false := (World.grownBy.frozen_far hg3 ⟨w.heap.size + 1 + 1, 2, none⟩ (by first | (simp; done) | (simp; omega) | (show _ < _; simp only; omega)) (fun e => by simp only [Option.some.injEq] at e; omega)).trans (z2_2_2)
  clear r2_0_0 z2_0_0 r2_0_1 z2_0_1 r2_0_2 z2_0_2 r2_1_0 z2_1_0 r2_1_1 z2_1_1 r2_1_2 z2_1_2 r2_2_0 z2_2_0 r2_2_1 z2_2_1 r2_2_2 z2_2_2
  have hb3 := Cur.same hC3
  clear hC3 hg3
  have hbw : Below w.heap.size w w3 := (show Below w.heap.size w (((w.alloc (Obj.cells #[.int .i64 0, .int .i64 0, .int .i64 0] 27)).alloc (Obj.cells #[.int .i64 0, .int .i64 0, .int .i64 0] 27)).alloc (Obj.cells #[.int .i64 0, .int .i64 0, .int .i64 0] 27)) from by (repeat' (first | (with_reducible exact Below.refl _ _) | (with_reducible assumption) | (with_reducible refine Below.alloc ?_ ?_ _) | (with_reducible refine Below.drew ?_) | (with_reducible refine below_drewN ?_ _) | (with_reducible refine Below.setCell ?_ ?_ _) | (with_reducible refine below_call ?_ ?_ (by assumption)) | go_size))).trans (hb3.mono (by omega))
  clear hb1 hb2 hb3
  have s0 : w.heap.size < w3.heap.size := by omega
  have s1 : w.heap.size + 1 < w3.heap.size := by omega
  have s2 : w.heap.size + 1 + 1 < w3.heap.size := by omega
  go_wp2
  (refine bodyPost_ret (by simp [results, Try.results36, go_sem, *]; try rfl) rfl ?_)
  exact ⟨n0, d0, z0, n1, d1, z1, n2, d2, z2, rfl, ⟨kn0, kd0, kz0, kn1, kd1, kz1, kn2, kd2, kz2⟩, by (repeat' (first | (with_reducible exact Below.refl _ _) | (with_reducible assumption) | (with_reducible refine Below.alloc ?_ ?_ _) | (with_reducible refine Below.drew ?_) | (with_reducible refine below_drewN ?_ _) | (with_reducible refine Below.setCell ?_ ?_ _) | (with_reducible refine below_call ?_ ?_ (by assumption)) | go_size))⟩

set_option maxHeartbeats 1600000 in
theorem DrawHandAt_any (L : List Int) (a : Option Addr) (n cp : Nat) (hn : L.length = n) (hm : n ≤ 1048576) (w : World) (hB : BIn w a L) :
    Calls Try.prog 72 #[.slice a n cp] w fun e w' => ∃ n0 d0 z0 n1 d1, e = .returned (.tuple #[.agg #[.int .i64 n0, .int .i64 d0, .int .i64 z0], .agg #[.int .i64 n1, .int .i64 d1]]) ∧ (I64 n0 ∧ I64 d0 ∧ I64 z0 ∧ I64 n1 ∧ I64 d1) ∧ Below w.heap.size w w' := by
  have hs : ((w.alloc (Obj.cells #[.int .i64 0, .int .i64 0, .int .i64 0] 27)).alloc (Obj.cells #[.int .i64 0, .int .i64 0] 25)).heap.size = w.heap.size + 1 + 1 := by simp
  have hO : CurOK L a n ((w.alloc (Obj.cells #[.int .i64 0, .int .i64 0, .int .i64 0] 27)).alloc (Obj.cells #[.int .i64 0, .int .i64 0] 25)) (w.heap.size + 1 + 1) := ⟨hn, by rw [hs]; exact Nat.le_refl _, hm, hB.below (by (repeat' (first | (with_reducible exact Below.refl _ _) | (with_reducible assumption) | (with_reducible refine Below.alloc ?_ ?_ _) | (with_reducible refine Below.drew ?_) | (with_reducible refine below_drewN ?_ _) | (with_reducible refine Below.setCell ?_ ?_ _) | (with_reducible refine below_call ?_ ?_ (by assumption)) | go_size)))⟩
  have h0 := Cur.start ((w.alloc (Obj.cells #[.int .i64 0, .int .i64 0, .int .i64 0] 27)).alloc (Obj.cells #[.int .i64 0, .int .i64 0] 25)) a n cp
  rw [hs] at h0
  have HC0 := Lib.hid h0
  clear hn hm hB h0 hs
  (go_enter Try.func72, Try.ntmps72)
  go_wp2_with fail
  refine (hand_any L a n cp ((w.alloc (Obj.cells #[.int .i64 0, .int .i64 0, .int .i64 0] 27)).alloc (Obj.cells #[.int .i64 0, .int .i64 0] 25)) (w.heap.size + 1 + 1) 0 hO (by omega) _ HC0.out).mono ?_
  rintro e1 w1 ⟨n0, d0, z0, rfl, ⟨kn0, kd0, kz0⟩, hC1, hg1⟩
  have hz1 := hg1.size
  try simp only [World.size_alloc] at hz1
  have HC1 := Lib.hid hC1
  have r1_0_0 : w1.cell? ⟨w.heap.size, 0, none⟩ = some (.int .i64 0) := (World.grownBy.cell_far hg1 ⟨w.heap.size, 0, none⟩ (by first | (simp; done) | (simp; omega) | (show _ < _; simp only; omega)) (fun e => by simp only [Option.some.injEq] at e; omega)).trans (by go_simp)
  have z1_0_0 : w1.frozen? ⟨w.heap.size, 0, none⟩ = false := (World.grownBy.frozen_far hg1 ⟨w.heap.size, 0, none⟩ (by first | (simp; done) | (simp; omega) | (show _ < _; simp only; omega)) (fun e => by simp only [Option.some.injEq] at e; omega)).trans (by go_simp)
  have r1_0_1 : w1.cell? ⟨w.heap.size, 1, none⟩ = some (.int .i64 0) := (World.grownBy.cell_far hg1 ⟨w.heap.size, 1, none⟩ (by first | (simp; done) | (simp; omega) | (show _ < _; simp only; omega)) (fun e => by simp only [Option.some.injEq] at e; omega)).trans (by go_simp)
  have z1_0_1 : w1.frozen? ⟨w.heap.size, 1, none⟩ = false := (World.grownBy.frozen_far hg1 ⟨w.heap.size, 1, none⟩ (by first | (simp; done) | (simp; omega) | (show _ < _; simp only; omega)) (fun e => by simp only [Option.some.injEq] at e; omega)).trans (by go_simp)
  have r1_0_2 : w1.cell? ⟨w.heap.size, 2, none⟩ = some (.int .i64 0) := (World.grownBy.cell_far hg1 ⟨w.heap.size, 2, none⟩ (by first | (simp; done) | (simp; omega) | (show _ < _; simp only; omega)) (fun e => by simp only [Option.some.injEq] at e; omega)).trans (by go_simp)
  have z1_0_2 : w1.frozen? ⟨w.heap.size, 2, none⟩ = false := (World.grownBy.frozen_far hg1 ⟨w.heap.size, 2, none⟩ (by first | (simp; done) | (simp; omega) | (show _ < _; simp only; omega)) (fun e => by simp only [Option.some.injEq] at e; omega)).trans (by go_simp)
  have r1_1_0 : w1.cell? ⟨w.heap.size + 1, 0, none⟩ = some (.int .i64 0) := (World.grownBy.cell_far hg1 ⟨w.heap.size + 1, 0, none⟩ (by first | (simp; done) | (simp; omega) | (show _ < _; simp only; omega)) (fun e => by simp only [Option.some.injEq] at e; omega)).trans (by go_simp)
  have z1_1_0 : w1.frozen? ⟨w.heap.size + 1, 0, none⟩ = false := (World.grownBy.frozen_far hg1 ⟨w.heap.size + 1, 0, none⟩ (by first | (simp; done) | (simp; omega) | (show _ < _; simp only; omega)) (fun e => by simp only [Option.some.injEq] at e; omega)).trans (by go_simp)
  have r1_1_1 : w1.cell? ⟨w.heap.size + 1, 1, none⟩ = some (.int .i64 0) := (World.grownBy.cell_far hg1 ⟨w.heap.size + 1, 1, none⟩ (by first | (simp; done) | (simp; omega) | (show _ < _; simp only; omega)) (fun e => by simp only [Option.some.injEq] at e; omega)).trans (by go_simp)
  have z1_1_1 : w1.frozen? ⟨w.heap.size + 1, 1, none⟩ = false := (World.grownBy.frozen_far hg1 ⟨w.heap.size + 1, 1, none⟩ (by first | (simp; done) | (simp; omega) | (show _ < _; simp only; omega)) (fun e => by simp only [Option.some.injEq] at e; omega)).trans (by go_simp)
  have hb1 := Cur.same hC1
  clear hC1 hg1
  go_wp2_with fail
  refine (turn_any L a n cp ((w.alloc (Obj.cells #[.int .i64 0, .int .i64 0, .int .i64 0] 27)).alloc (Obj.cells #[.int .i64 0, .int .i64 0] 25)) (w.heap.size + 1 + 1) 20 hO (by omega) _ HC1.out).mono ?_
  rintro e2 w2 ⟨n1, d1, rfl, ⟨kn1, kd1⟩, hC2, hg2⟩
  have hz2 := hg2.size
  try simp only [World.size_alloc] at hz2
  have HC2 := Lib.hid hC2
  have r2_0_0 : w2.cell? ⟨w.heap.size, 0, none⟩ = some (.int .i64 0) := (World.grownBy.cell_far hg2 ⟨w.heap.size, 0, none⟩ (by first | (simp; done) | (simp; omega) | (show _ < _; simp only; omega)) (fun e => by simp only [Option.some.injEq] at e; omega)).trans (r1_0_0)
  have z2_0_0 : w2.frozen? ⟨w.heap.size, 0, none⟩ = false := (World.grownBy.frozen_far hg2 ⟨w.heap.size, 0, none⟩ (by first | (simp; done) | (simp; omega) | (show _ < _; simp only; omega)) (fun e => by simp only [Option.some.injEq] at e; omega)).trans (z1_0_0)
  have r2_0_1 : w2.cell? ⟨w.heap.size, 1, none⟩ = some (.int .i64 0) := (World.grownBy.cell_far hg2 ⟨w.heap.size, 1, none⟩ (by first | (simp; done) | (simp; omega) | (show _ < _; simp only; omega)) (fun e => by simp only [Option.some.injEq] at e; omega)).trans (r1_0_1)
  have z2_0_1 : w2.frozen? ⟨w.heap.size, 1, none⟩ = false := (World.grownBy.frozen_far hg2 ⟨w.heap.size, 1, none⟩ (by first | (simp; done) | (simp; omega) | (show _ < _; simp only; omega)) (fun e => by simp only [Option.some.injEq] at e; omega)).trans (z1_0_1)
  have r2_0_2 : w2.cell? ⟨w.heap.size, 2, none⟩ = some (.int .i64 0) := (World.grownBy.cell_far hg2 ⟨w.heap.size, 2, none⟩ (by first | (simp; done) | (simp; omega) | (show _ < _; simp only; omega)) (fun e => by simp only [Option.some.injEq] at e; omega)).trans (r1_0_2)
  have z2_0_2 : w2.frozen? ⟨w.heap.size, 2, none⟩ = false := (World.grownBy.frozen_far hg2 ⟨w.heap.size, 2, none⟩ (by first | (simp; done) | (simp; omega) | (show _ < _; simp only; omega)) (fun e => by simp only [Option.some.injEq] at e; omega)).trans (z1_0_2)
  have r2_1_0 : w2.cell? ⟨w.heap.size + 1, 0, none⟩ = some (.int .i64 0) := (World.grownBy.cell_far hg2 ⟨w.heap.size + 1, 0, none⟩ (by first | (simp; done) | (simp; omega) | (show _ < _; simp only; omega)) (fun e => by simp only [Option.some.injEq] at e; omega)).trans (r1_1_0)
  have z2_1_0 : w2.frozen? ⟨w.heap.size + 1, 0, none⟩ = false := (World.grownBy.frozen_far hg2 ⟨w.heap.size + 1, 0, none⟩ (by first | (simp; done) | (simp; omega) | (show _ < _; simp only; omega)) (fun e => by simp only [Option.some.injEq] at e; omega)).trans (z1_1_0)
  have r2_1_1 : w2.cell? ⟨w.heap.size + 1, 1, none⟩ = some (.int .i64 0) := (World.grownBy.cell_far hg2 ⟨w.heap.size + 1, 1, none⟩ (by first | (simp; done) | (simp; omega) | (show _ < _; simp only; omega)) (fun e => by simp only [Option.some.injEq] at e; omega)).trans (r1_1_1)
  have z2_1_1 : w2.frozen? ⟨w.heap.size + 1, 1, none⟩ = false := (World.grownBy.frozen_far hg2 ⟨w.heap.size + 1, 1, none⟩ (by first | (simp; done) | (simp; omega) | (show _ < _; simp only; omega)) (fun e => by simp only [Option.some.injEq] at e; omega)).trans (z1_1_1)
  clear r1_0_0 z1_0_0 r1_0_1 z1_0_1 r1_0_2 z1_0_2 r1_1_0 z1_1_0 r1_1_1 z1_1_1
  have hb2 := Cur.same hC2
  clear hC2 hg2
  have hbw : Below w.heap.size w w2 := (show Below w.heap.size w ((w.alloc (Obj.cells #[.int .i64 0, .int .i64 0, .int .i64 0] 27)).alloc (Obj.cells #[.int .i64 0, .int .i64 0] 25)) from by (repeat' (first | (with_reducible exact Below.refl _ _) | (with_reducible assumption) | (with_reducible refine Below.alloc ?_ ?_ _) | (with_reducible refine Below.drew ?_) | (with_reducible refine below_drewN ?_ _) | (with_reducible refine Below.setCell ?_ ?_ _) | (with_reducible refine below_call ?_ ?_ (by assumption)) | go_size))).trans (hb2.mono (by omega))
  clear hb1 hb2
  have s0 : w.heap.size < w2.heap.size := by omega
  have s1 : w.heap.size + 1 < w2.heap.size := by omega
  go_wp2
  (refine bodyPost_ret (by simp [results, Try.results72, go_sem, *]; try rfl) rfl ?_)
  exact ⟨n0, d0, z0, n1, d1, rfl, ⟨kn0, kd0, kz0, kn1, kd1⟩, by (repeat' (first | (with_reducible exact Below.refl _ _) | (with_reducible assumption) | (with_reducible refine Below.alloc ?_ ?_ _) | (with_reducible refine Below.drew ?_) | (with_reducible refine below_drewN ?_ _) | (with_reducible refine Below.setCell ?_ ?_ _) | (with_reducible refine below_call ?_ ?_ (by assumption)) | go_size))⟩

set_option maxHeartbeats 1600000 in
theorem DrawRelativeHand_any (L : List Int) (a : Option Addr) (n cp : Nat) (hn : L.length = n) (hm : n ≤ 1048576) (w : World) (hB : BIn w a L) :
    Calls Try.prog 43 #[.slice a n cp] w fun e w' => ∃ n0 d0 z0 n1 d1 z1, e = .returned (.tuple #[.agg #[.int .i64 n0, .int .i64 d0, .int .i64 z0], .agg #[.int .i64 n1, .int .i64 d1, .int .i64 z1]]) ∧ (I64 n0 ∧ I64 d0 ∧ I64 z0 ∧ I64 n1 ∧ I64 d1 ∧ I64 z1) ∧ Below w.heap.size w w' := by
  have hs : ((w.alloc (Obj.cells #[.int .i64 0, .int .i64 0, .int .i64 0] 27)).alloc (Obj.cells #[.int .i64 0, .int .i64 0, .int .i64 0] 27)).heap.size = w.heap.size + 1 + 1 := by simp
  have hO : CurOK L a n ((w.alloc (Obj.cells #[.int .i64 0, .int .i64 0, .int .i64 0] 27)).alloc (Obj.cells #[.int .i64 0, .int .i64 0, .int .i64 0] 27)) (w.heap.size + 1 + 1) := ⟨hn, by rw [hs]; exact Nat.le_refl _, hm, hB.below (by (repeat' (first | (with_reducible exact Below.refl _ _) | (with_reducible assumption) | (with_reducible refine Below.alloc ?_ ?_ _) | (with_reducible refine Below.drew ?_) | (with_reducible refine below_drewN ?_ _) | (with_reducible refine Below.setCell ?_ ?_ _) | (with_reducible refine below_call ?_ ?_ (by assumption)) | go_size)))⟩
  have h0 := Cur.start ((w.alloc (Obj.cells #[.int .i64 0, .int .i64 0, .int .i64 0] 27)).alloc (Obj.cells #[.int .i64 0, .int .i64 0, .int .i64 0] 27)) a n cp
  rw [hs] at h0
  have HC0 := Lib.hid h0
  clear hn hm hB h0 hs
  (go_enter Try.func43, Try.ntmps43)
  go_wp2_with fail
  refine (hand_any L a n cp ((w.alloc (Obj.cells #[.int .i64 0, .int .i64 0, .int .i64 0] 27)).alloc (Obj.cells #[.int .i64 0, .int .i64 0, .int .i64 0] 27)) (w.heap.size + 1 + 1) 0 hO (by omega) _ HC0.out).mono ?_
  rintro e1 w1 ⟨n0, d0, z0, rfl, ⟨kn0, kd0, kz0⟩, hC1, hg1⟩
  have hz1 := hg1.size
  try simp only [World.size_alloc] at hz1
  have HC1 := Lib.hid hC1
  have r1_0_0 : w1.cell? ⟨w.heap.size, 0, none⟩ = some (.int .i64 0) := (World.grownBy.cell_far hg1 ⟨w.heap.size, 0, none⟩ (by first | (simp; done) | (simp; omega) | (show _ < _; simp only; omega)) (fun e => by simp only [Option.some.injEq] at e; omega)).trans (by go_simp)
  have z1_0_0 : w1.frozen? ⟨w.heap.size, 0, none⟩ = false := (World.grownBy.frozen_far hg1 ⟨w.heap.size, 0, none⟩ (by first | (simp; done) | (simp; omega) | (show _ < _; simp only; omega)) (fun e => by simp only [Option.some.injEq] at e; omega)).trans (by go_simp)
  have r1_0_1 : w1.cell? ⟨w.heap.size, 1, none⟩ = some (.int .i64 0) := (World.grownBy.cell_far hg1 ⟨w.heap.size, 1, none⟩ (by first | (simp; done) | (simp; omega) | (show _ < _; simp only; omega)) (fun e => by simp only [Option.some.injEq] at e; omega)).trans (by go_simp)
  have z1_0_1 : w1.frozen? ⟨w.heap.size, 1, none⟩ = false := (World.grownBy.frozen_far hg1 ⟨w.heap.size, 1, none⟩ (by first | (simp; done) | (simp; omega) | (show _ < _; simp only; omega)) (fun e => by simp only [Option.some.injEq] at e; omega)).trans (by go_simp)
  have r1_0_2 : w1.cell? ⟨w.heap.size, 2, none⟩ = some (.int .i64 0) := (World.grownBy.cell_far hg1 ⟨w.heap.size, 2, none⟩ (by first | (simp; done) | (simp; omega) | (show _ < _; simp only; omega)) (fun e => by simp only [Option.some.injEq] at e; omega)).trans (by go_simp)
  have z1_0_2 : w1.frozen? ⟨w.heap.size, 2, none⟩ = false := (World.grownBy.frozen_far hg1 ⟨w.heap.size, 2, none⟩ (by first | (simp; done) | (simp; omega) | (show _ < _; simp only; omega)) (fun e => by simp only [Option.some.injEq] at e; omega)).trans (by go_simp)
  have r1_1_0 : w1.cell? ⟨w.heap.size + 1, 0, none⟩ = some (.int .i64 0) := (World.grownBy.cell_far hg1 ⟨w.heap.size + 1, 0, none⟩ (by first | (simp; done) | (simp; omega) | (show _ < _; simp only; omega)) (fun e => by simp only [Option.some.injEq] at e; omega)).trans (by go_simp)
  have z1_1_0 : w1.frozen? ⟨w.heap.size + 1, 0, none⟩ = false := (World.grownBy.frozen_far hg1 ⟨w.heap.size + 1, 0, none⟩ (by first | (simp; done) | (simp; omega) | (show _ < _; simp only; omega)) (fun e => by simp only [Option.some.injEq] at e; omega)).trans (by go_simp)
  have r1_1_1 : w1.cell? ⟨w.heap.size + 1, 1, none⟩ = some (.int .i64 0) := (World.grownBy.cell_far hg1 ⟨w.heap.size + 1, 1, none⟩ (by first | (simp; done) | (simp; omega) | (show _ < _; simp only; omega)) (fun e => by simp only [Option.some.injEq] at e; omega)).trans (by go_simp)
  have z1_1_1 : w1.frozen? ⟨w.heap.size + 1, 1, none⟩ = false := (World.grownBy.frozen_far hg1 ⟨w.heap.size + 1, 1, none⟩ (by first | (simp; done) | (simp; omega) | (show _ < _; simp only; omega)) (fun e => by simp only [Option.some.injEq] at e; omega)).trans (by go_simp)
  have r1_1_2 : w1.cell? ⟨w.heap.size + 1, 2, none⟩ = some (.int .i64 0) := (World.grownBy.cell_far hg1 ⟨w.heap.size + 1, 2, none⟩ (by first | (simp; done) | (simp; omega) | (show _ < _; simp only; omega)) (fun e => by simp only [Option.some.injEq] at e; omega)).trans (by go_simp)
  have z1_1_2 : w1.frozen? ⟨w.heap.size + 1, 2, none⟩ = false := (World.grownBy.frozen_far hg1 ⟨w.heap.size + 1, 2, none⟩ (by first | (simp; done) | (simp; omega) | (show _ < _; simp only; omega)) (fun e => by simp only [Option.some.injEq] at e; omega)).trans (by go_simp)
  have hb1 := Cur.same hC1
  clear hC1 hg1
  go_wp2_with fail
  refine (hand_any L a n cp ((w.alloc (Obj.cells #[.int .i64 0, .int .i64 0, .int .i64 0] 27)).alloc (Obj.cells #[.int .i64 0, .int .i64 0, .int .i64 0] 27)) (w.heap.size + 1 + 1) 20 hO (by omega) _ HC1.out).mono ?_
  rintro e2 w2 ⟨n1, d1, z1, rfl, ⟨kn1, kd1, kz1⟩, hC2, hg2⟩
  have hz2 := hg2.size
  try simp only [World.size_alloc] at hz2
  have HC2 := Lib.hid hC2
  have r2_0_0 : w2.cell? ⟨w.heap.size, 0, none⟩ = some (.int .i64 0) := (World.grownBy.cell_far hg2 ⟨w.heap.size, 0, none⟩ (by first | (simp; done) | (simp; omega) | (show _ < _; simp only; omega)) (fun e => by simp only [Option.some.injEq] at e; omega)).trans (r1_0_0)
  have z2_0_0 : w2.frozen? ⟨w.heap.size, 0, none⟩ = false := (World.grownBy.frozen_far hg2 ⟨w.heap.size, 0, none⟩ (by first | (simp; done) | (simp; omega) | (show _ < _; simp only; omega)) (fun e => by simp only [Option.some.injEq] at e; omega)).trans (z1_0_0)
  have r2_0_1 : w2.cell? ⟨w.heap.size, 1, none⟩ = some (.int .i64 0) := (World.grownBy.cell_far hg2 ⟨w.heap.size, 1, none⟩ (by first | (simp; done) | (simp; omega) | (show _ < _; simp only; omega)) (fun e => by simp only [Option.some.injEq] at e; omega)).trans (r1_0_1)
  have z2_0_1 : w2.frozen? ⟨w.heap.size, 1, none⟩ = false := (World.grownBy.frozen_far hg2 ⟨w.heap.size, 1, none⟩ (by first | (simp; done) | (simp; omega) | (show _ < _; simp only; omega)) (fun e => by simp only [Option.some.injEq] at e; omega)).trans (z1_0_1)
  have r2_0_2 : w2.cell? ⟨w.heap.size, 2, none⟩ = some (.int .i64 0) := (World.grownBy.cell_far hg2 ⟨w.heap.size, 2, none⟩ (by first | (simp; done) | (simp; omega) | (show _ < _; simp only; omega)) (fun e => by simp only [Option.some.injEq] at e; omega)).trans (r1_0_2)
  have z2_0_2 : w2.frozen? ⟨w.heap.size, 2, none⟩ = false := (World.grownBy.frozen_far hg2 ⟨w.heap.size, 2, none⟩ (by first | (simp; done) | (simp; omega) | (show _ < _; simp only; omega)) (fun e => by simp only [Option.some.injEq] at e; omega)).trans (z1_0_2)
  have r2_1_0 : w2.cell? ⟨w.heap.size + 1, 0, none⟩ = some (.int .i64 0) := (World.grownBy.cell_far hg2 ⟨w.heap.size + 1, 0, none⟩ (by first | (simp; done) | (simp; omega) | (show _ < _; simp only; omega)) (fun e => by simp only [Option.some.injEq] at e; omega)).trans (r1_1_0)
  have z2_1_0 : w2.frozen? ⟨w.heap.size + 1, 0, none⟩ = false := (World.grownBy.frozen_far hg2 ⟨w.heap.size + 1, 0, none⟩ (by first | (simp; done) | (simp; omega) | (show _ < _; simp only; omega)) (fun e => by simp only [Option.some.injEq] at e; omega)).trans (z1_1_0)
  have r2_1_1 : w2.cell? ⟨w.heap.size + 1, 1, none⟩ = some (.int .i64 0) := (World.grownBy.cell_far hg2 ⟨w.heap.size + 1, 1, none⟩ (by first | (simp; done) | (simp; omega) | (show _ < _; simp only; omega)) (fun e => by simp only [Option.some.injEq] at e; omega)).trans (r1_1_1)
  have z2_1_1 : w2.frozen? ⟨w.heap.size + 1, 1, none⟩ = false := (World.grownBy.frozen_far hg2 ⟨w.heap.size + 1, 1, none⟩ (by first | (simp; done) | (simp; omega) | (show _ < _; simp only; omega)) (fun e => by simp only [Option.some.injEq] at e; omega)).trans (z1_1_1)
  have r2_1_2 : w2.cell? ⟨w.heap.size + 1, 2, none⟩ = some (.int .i64 0) := (World.grownBy.cell_far hg2 ⟨w.heap.size + 1, 2, none⟩ (by first | (simp; done) | (simp; omega) | (show _ < _; simp only; omega)) (fun e => by simp only [Option.some.injEq] at e; omega)).trans (r1_1_2)
  have z2_1_2 : w2.frozen? ⟨w.heap.size + 1, 2, none⟩ = false := (World.grownBy.frozen_far hg2 ⟨w.heap.size + 1, 2, none⟩ (by first | (simp; done) | (simp; omega) | (show _ < _; simp only; omega)) (fun e => by simp only [Option.some.injEq] at e; omega)).trans (z1_1_2)
  clear r1_0_0 z1_0_0 r1_0_1 z1_0_1 r1_0_2 z1_0_2 r1_1_0 z1_1_0 r1_1_1 z1_1_1 r1_1_2 z1_1_2
  have hb2 := Cur.same hC2
  clear hC2 hg2
  have hbw : Below w.heap.size w w2 := (show Below w.heap.size w ((w.alloc (Obj.cells #[.int .i64 0, .int .i64 0, .int .i64 0] 27)).alloc (Obj.cells #[.int .i64 0, .int .i64 0, .int .i64 0] 27)) from by (repeat' (first | (with_reducible exact Below.refl _ _) | (with_reducible assumption) | (with_reducible refine Below.alloc ?_ ?_ _) | (with_reducible refine Below.drew ?_) | (with_reducible refine below_drewN ?_ _) | (with_reducible refine Below.setCell ?_ ?_ _) | (with_reducible refine below_call ?_ ?_ (by assumption)) | go_size))).trans (hb2.mono (by omega))
  clear hb1 hb2
  have s0 : w.heap.size < w2.heap.size := by omega
  have s1 : w.heap.size + 1 < w2.heap.size := by omega
  go_wp2
  (refine bodyPost_ret (by simp [results, Try.results43, go_sem, *]; try rfl) rfl ?_)
  exact ⟨n0, d0, z0, n1, d1, z1, rfl, ⟨kn0, kd0, kz0, kn1, kd1, kz1⟩, by (repeat' (first | (with_reducible exact Below.refl _ _) | (with_reducible assumption) | (with_reducible refine Below.alloc ?_ ?_ _) | (with_reducible refine Below.drew ?_) | (with_reducible refine below_drewN ?_ _) | (with_reducible refine Below.setCell ?_ ?_ _) | (with_reducible refine below_call ?_ ?_ (by assumption)) | go_size))⟩

set_option maxHeartbeats 1600000 in
theorem DrawAheadTimes_any (L : List Int) (a : Option Addr) (n cp : Nat) (hn : L.length = n) (hm : n ≤ 1048576) (w : World) (hB : BIn w a L) :
    Calls Try.prog 27 #[.slice a n cp] w fun e w' => ∃ n0 d0 z0 n1 d1 z1 n2 d2, e = .returned (.tuple #[.agg #[.int .i64 n0, .int .i64 d0, .int .i64 z0], .agg #[.int .i64 n1, .int .i64 d1, .int .i64 z1], .agg #[.int .i64 n2, .int .i64 d2]]) ∧ (I64 n0 ∧ I64 d0 ∧ I64 z0 ∧ I64 n1 ∧ I64 d1 ∧ I64 z1 ∧ I64 n2 ∧ I64 d2) ∧ Below w.heap.size w w' := by
  have HB := Lib.hid hB
  clear hB
  (go_enter Try.func27, Try.ntmps27)
  go_wp2_with fail
  refine (DrawAheadAt_any L a n cp hn hm _ (HB.out.below (by (repeat' (first | (with_reducible exact Below.refl _ _) | (with_reducible assumption) | (with_reducible refine Below.alloc ?_ ?_ _) | (with_reducible refine Below.drew ?_) | (with_reducible refine below_drewN ?_ _) | (with_reducible refine Below.setCell ?_ ?_ _) | (with_reducible refine below_call ?_ ?_ (by assumption)) | go_size))))).mono ?_
  rintro e1 w1 ⟨n0, d0, z0, n1, d1, z1, n2, d2, rfl, ⟨kn0, kd0, kz0, kn1, kd1, kz1, kn2, kd2⟩, hb1⟩
  obtain ⟨hc1, hf1⟩ := bcell hb1
  have hz1 := hb1.size
  simp only [World.size_alloc] at hz1
  have r0_0 : w1.cell? ⟨w.heap.size, 0, none⟩ = some (.int .i64 0) := (hc1 _ _ (by first | (simp; done) | (simp; omega) | go_size)).trans (by go_simp)
  have z0_0 : w1.frozen? ⟨w.heap.size, 0, none⟩ = false := (hf1 _ _ (by first | (simp; done) | (simp; omega) | go_size)).trans (by go_simp)
  have r0_1 : w1.cell? ⟨w.heap.size, 1, none⟩ = some (.int .i64 0) := (hc1 _ _ (by first | (simp; done) | (simp; omega) | go_size)).trans (by go_simp)
  have z0_1 : w1.frozen? ⟨w.heap.size, 1, none⟩ = false := (hf1 _ _ (by first | (simp; done) | (simp; omega) | go_size)).trans (by go_simp)
  have r0_2 : w1.cell? ⟨w.heap.size, 2, none⟩ = some (.int .i64 0) := (hc1 _ _ (by first | (simp; done) | (simp; omega) | go_size)).trans (by go_simp)
  have z0_2 : w1.frozen? ⟨w.heap.size, 2, none⟩ = false := (hf1 _ _ (by first | (simp; done) | (simp; omega) | go_size)).trans (by go_simp)
  have r1_0 : w1.cell? ⟨w.heap.size + 1, 0, none⟩ = some (.int .i64 0) := (hc1 _ _ (by first | (simp; done) | (simp; omega) | go_size)).trans (by go_simp)
  have z1_0 : w1.frozen? ⟨w.heap.size + 1, 0, none⟩ = false := (hf1 _ _ (by first | (simp; done) | (simp; omega) | go_size)).trans (by go_simp)
  have r1_1 : w1.cell? ⟨w.heap.size + 1, 1, none⟩ = some (.int .i64 0) := (hc1 _ _ (by first | (simp; done) | (simp; omega) | go_size)).trans (by go_simp)
  have z1_1 : w1.frozen? ⟨w.heap.size + 1, 1, none⟩ = false := (hf1 _ _ (by first | (simp; done) | (simp; omega) | go_size)).trans (by go_simp)
  have r1_2 : w1.cell? ⟨w.heap.size + 1, 2, none⟩ = some (.int .i64 0) := (hc1 _ _ (by first | (simp; done) | (simp; omega) | go_size)).trans (by go_simp)
  have z1_2 : w1.frozen? ⟨w.heap.size + 1, 2, none⟩ = false := (hf1 _ _ (by first | (simp; done) | (simp; omega) | go_size)).trans (by go_simp)
  have r2_0 : w1.cell? ⟨w.heap.size + 1 + 1, 0, none⟩ = some (.int .i64 0) := (hc1 _ _ (by first | (simp; done) | (simp; omega) | go_size)).trans (by go_simp)
  have z2_0 : w1.frozen? ⟨w.heap.size + 1 + 1, 0, none⟩ = false := (hf1 _ _ (by first | (simp; done) | (simp; omega) | go_size)).trans (by go_simp)
  have r2_1 : w1.cell? ⟨w.heap.size + 1 + 1, 1, none⟩ = some (.int .i64 0) := (hc1 _ _ (by first | (simp; done) | (simp; omega) | go_size)).trans (by go_simp)
  have z2_1 : w1.frozen? ⟨w.heap.size + 1 + 1, 1, none⟩ = false := (hf1 _ _ (by first | (simp; done) | (simp; omega) | go_size)).trans (by go_simp)
  have hbw : Below w.heap.size w w1 := (show Below w.heap.size w (((w.alloc (Obj.cells #[.int .i64 0, .int .i64 0, .int .i64 0] 27)).alloc (Obj.cells #[.int .i64 0, .int .i64 0, .int .i64 0] 27)).alloc (Obj.cells #[.int .i64 0, .int .i64 0] 25)) from by (repeat' (first | (with_reducible exact Below.refl _ _) | (with_reducible assumption) | (with_reducible refine Below.alloc ?_ ?_ _) | (with_reducible refine Below.drew ?_) | (with_reducible refine below_drewN ?_ _) | (with_reducible refine Below.setCell ?_ ?_ _) | (with_reducible refine below_call ?_ ?_ (by assumption)) | go_size))).trans (hb1.mono (by first | (simp; done) | (simp; omega)))
  clear hb1 hc1 hf1
  have s0 : w.heap.size < w1.heap.size := by omega
  have s1 : w.heap.size + 1 < w1.heap.size := by omega
  have s2 : w.heap.size + 1 + 1 < w1.heap.size := by omega
  go_wp2
  (refine bodyPost_ret (by simp [results, Try.results27, go_sem, *]; try rfl) rfl ?_)
  exact ⟨n0, d0, z0, n1, d1, z1, n2, d2, rfl, ⟨kn0, kd0, kz0, kn1, kd1, kz1, kn2, kd2⟩, by (repeat' (first | (with_reducible exact Below.refl _ _) | (with_reducible assumption) | (with_reducible refine Below.alloc ?_ ?_ _) | (with_reducible refine Below.drew ?_) | (with_reducible refine below_drewN ?_ _) | (with_reducible refine Below.setCell ?_ ?_ _) | (with_reducible refine below_call ?_ ?_ (by assumption)) | go_size))⟩

set_option maxHeartbeats 1600000 in
theorem DrawTimesAtPlace_any (L : List Int) (a : Option Addr) (n cp : Nat) (hn : L.length = n) (hm : n ≤ 1048576) (w : World) (hB : BIn w a L) :
    Calls Try.prog 39 #[.slice a n cp] w fun e w' => ∃ n0 d0 z0 n1 d1, e = .returned (.tuple #[.agg #[.int .i64 n0, .int .i64 d0, .int .i64 z0], .agg #[.int .i64 n1, .int .i64 d1]]) ∧ (I64 n0 ∧ I64 d0 ∧ I64 z0 ∧ I64 n1 ∧ I64 d1) ∧ Below w.heap.size w w' := by
  have HB := Lib.hid hB
  clear hB
  (go_enter Try.func39, Try.ntmps39)
  go_wp2_with fail
  refine (DrawHandAt_any L a n cp hn hm _ (HB.out.below (by (repeat' (first | (with_reducible exact Below.refl _ _) | (with_reducible assumption) | (with_reducible refine Below.alloc ?_ ?_ _) | (with_reducible refine Below.drew ?_) | (with_reducible refine below_drewN ?_ _) | (with_reducible refine Below.setCell ?_ ?_ _) | (with_reducible refine below_call ?_ ?_ (by assumption)) | go_size))))).mono ?_
  rintro e1 w1 ⟨n0, d0, z0, n1, d1, rfl, ⟨kn0, kd0, kz0, kn1, kd1⟩, hb1⟩
  obtain ⟨hc1, hf1⟩ := bcell hb1
  have hz1 := hb1.size
  simp only [World.size_alloc] at hz1
  have r0_0 : w1.cell? ⟨w.heap.size, 0, none⟩ = some (.int .i64 0) := (hc1 _ _ (by first | (simp; done) | (simp; omega) | go_size)).trans (by go_simp)
  have z0_0 : w1.frozen? ⟨w.heap.size, 0, none⟩ = false := (hf1 _ _ (by first | (simp; done) | (simp; omega) | go_size)).trans (by go_simp)
  have r0_1 : w1.cell? ⟨w.heap.size, 1, none⟩ = some (.int .i64 0) := (hc1 _ _ (by first | (simp; done) | (simp; omega) | go_size)).trans (by go_simp)
  have z0_1 : w1.frozen? ⟨w.heap.size, 1, none⟩ = false := (hf1 _ _ (by first | (simp; done) | (simp; omega) | go_size)).trans (by go_simp)
  have r0_2 : w1.cell? ⟨w.heap.size, 2, none⟩ = some (.int .i64 0) := (hc1 _ _ (by first | (simp; done) | (simp; omega) | go_size)).trans (by go_simp)
  have z0_2 : w1.frozen? ⟨w.heap.size, 2, none⟩ = false := (hf1 _ _ (by first | (simp; done) | (simp; omega) | go_size)).trans (by go_simp)
  have r1_0 : w1.cell? ⟨w.heap.size + 1, 0, none⟩ = some (.int .i64 0) := (hc1 _ _ (by first | (simp; done) | (simp; omega) | go_size)).trans (by go_simp)
  have z1_0 : w1.frozen? ⟨w.heap.size + 1, 0, none⟩ = false := (hf1 _ _ (by first | (simp; done) | (simp; omega) | go_size)).trans (by go_simp)
  have r1_1 : w1.cell? ⟨w.heap.size + 1, 1, none⟩ = some (.int .i64 0) := (hc1 _ _ (by first | (simp; done) | (simp; omega) | go_size)).trans (by go_simp)
  have z1_1 : w1.frozen? ⟨w.heap.size + 1, 1, none⟩ = false := (hf1 _ _ (by first | (simp; done) | (simp; omega) | go_size)).trans (by go_simp)
  have hbw : Below w.heap.size w w1 := (show Below w.heap.size w ((w.alloc (Obj.cells #[.int .i64 0, .int .i64 0, .int .i64 0] 27)).alloc (Obj.cells #[.int .i64 0, .int .i64 0] 25)) from by (repeat' (first | (with_reducible exact Below.refl _ _) | (with_reducible assumption) | (with_reducible refine Below.alloc ?_ ?_ _) | (with_reducible refine Below.drew ?_) | (with_reducible refine below_drewN ?_ _) | (with_reducible refine Below.setCell ?_ ?_ _) | (with_reducible refine below_call ?_ ?_ (by assumption)) | go_size))).trans (hb1.mono (by first | (simp; done) | (simp; omega)))
  clear hb1 hc1 hf1
  have s0 : w.heap.size < w1.heap.size := by omega
  have s1 : w.heap.size + 1 < w1.heap.size := by omega
  go_wp2
  (refine bodyPost_ret (by simp [results, Try.results39, go_sem, *]; try rfl) rfl ?_)
  exact ⟨n0, d0, z0, n1, d1, rfl, ⟨kn0, kd0, kz0, kn1, kd1⟩, by (repeat' (first | (with_reducible exact Below.refl _ _) | (with_reducible assumption) | (with_reducible refine Below.alloc ?_ ?_ _) | (with_reducible refine Below.drew ?_) | (with_reducible refine below_drewN ?_ _) | (with_reducible refine Below.setCell ?_ ?_ _) | (with_reducible refine below_call ?_ ?_ (by assumption)) | go_size))⟩

set_option maxHeartbeats 1600000 in
theorem DrawMeetTimes_any (L : List Int) (a : Option Addr) (n cp : Nat) (hn : L.length = n) (hm : n ≤ 1048576) (w : World) (hB : BIn w a L) :
    Calls Try.prog 8 #[.slice a n cp] w fun e w' => ∃ n0 d0 z0 n1 d1 z1, e = .returned (.tuple #[.agg #[.int .i64 n0, .int .i64 d0, .int .i64 z0], .agg #[.int .i64 n1, .int .i64 d1, .int .i64 z1]]) ∧ (I64 n0 ∧ I64 d0 ∧ I64 z0 ∧ I64 n1 ∧ I64 d1 ∧ I64 z1) ∧ Below w.heap.size w w' := by
  have HB := Lib.hid hB
  clear hB
  (go_enter Try.func8, Try.ntmps8)
  go_wp2_with fail
  refine (DrawRelativeHand_any L a n cp hn hm _ (HB.out.below (by (repeat' (first | (with_reducible exact Below.refl _ _) | (with_reducible assumption) | (with_reducible refine Below.alloc ?_ ?_ _) | (with_reducible refine Below.drew ?_) | (with_reducible refine below_drewN ?_ _) | (with_reducible refine Below.setCell ?_ ?_ _) | (with_reducible refine below_call ?_ ?_ (by assumption)) | go_size))))).mono ?_
  rintro e1 w1 ⟨n0, d0, z0, n1, d1, z1, rfl, ⟨kn0, kd0, kz0, kn1, kd1, kz1⟩, hb1⟩
  obtain ⟨hc1, hf1⟩ := bcell hb1
  have hz1 := hb1.size
  simp only [World.size_alloc] at hz1
  have r0_0 : w1.cell? ⟨w.heap.size, 0, none⟩ = some (.int .i64 0) := (hc1 _ _ (by first | (simp; done) | (simp; omega) | go_size)).trans (by go_simp)
  have z0_0 : w1.frozen? ⟨w.heap.size, 0, none⟩ = false := (hf1 _ _ (by first | (simp; done) | (simp; omega) | go_size)).trans (by go_simp)
  have r0_1 : w1.cell? ⟨w.heap.size, 1, none⟩ = some (.int .i64 0) := (hc1 _ _ (by first | (simp; done) | (simp; omega) | go_size)).trans (by go_simp)
  have z0_1 : w1.frozen? ⟨w.heap.size, 1, none⟩ = false := (hf1 _ _ (by first | (simp; done) | (simp; omega) | go_size)).trans (by go_simp)
  have r0_2 : w1.cell? ⟨w.heap.size, 2, none⟩ = some (.int .i64 0) := (hc1 _ _ (by first | (simp; done) | (simp; omega) | go_size)).trans (by go_simp)
  have z0_2 : w1.frozen? ⟨w.heap.size, 2, none⟩ = false := (hf1 _ _ (by first | (simp; done) | (simp; omega) | go_size)).trans (by go_simp)
  have r1_0 : w1.cell? ⟨w.heap.size + 1, 0, none⟩ = some (.int .i64 0) := (hc1 _ _ (by first | (simp; done) | (simp; omega) | go_size)).trans (by go_simp)
  have z1_0 : w1.frozen? ⟨w.heap.size + 1, 0, none⟩ = false := (hf1 _ _ (by first | (simp; done) | (simp; omega) | go_size)).trans (by go_simp)
  have r1_1 : w1.cell? ⟨w.heap.size + 1, 1, none⟩ = some (.int .i64 0) := (hc1 _ _ (by first | (simp; done) | (simp; omega) | go_size)).trans (by go_simp)
  have z1_1 : w1.frozen? ⟨w.heap.size + 1, 1, none⟩ = false := (hf1 _ _ (by first | (simp; done) | (simp; omega) | go_size)).trans (by go_simp)
  have r1_2 : w1.cell? ⟨w.heap.size + 1, 2, none⟩ = some (.int .i64 0) := (hc1 _ _ (by first | (simp; done) | (simp; omega) | go_size)).trans (by go_simp)
  have z1_2 : w1.frozen? ⟨w.heap.size + 1, 2, none⟩ = false := (hf1 _ _ (by first | (simp; done) | (simp; omega) | go_size)).trans (by go_simp)
  have hbw : Below w.heap.size w w1 := (show Below w.heap.size w ((w.alloc (Obj.cells #[.int .i64 0, .int .i64 0, .int .i64 0] 27)).alloc (Obj.cells #[.int .i64 0, .int .i64 0, .int .i64 0] 27)) from by (repeat' (first | (with_reducible exact Below.refl _ _) | (with_reducible assumption) | (with_reducible refine Below.alloc ?_ ?_ _) | (with_reducible refine Below.drew ?_) | (with_reducible refine below_drewN ?_ _) | (with_reducible refine Below.setCell ?_ ?_ _) | (with_reducible refine below_call ?_ ?_ (by assumption)) | go_size))).trans (hb1.mono (by first | (simp; done) | (simp; omega)))
  clear hb1 hc1 hf1
  have s0 : w.heap.size < w1.heap.size := by omega
  have s1 : w.heap.size + 1 < w1.heap.size := by omega
  go_wp2
  (refine bodyPost_ret (by simp [results, Try.results8, go_sem, *]; try rfl) rfl ?_)
  exact ⟨n0, d0, z0, n1, d1, z1, rfl, ⟨kn0, kd0, kz0, kn1, kd1, kz1⟩, by (repeat' (first | (with_reducible exact Below.refl _ _) | (with_reducible assumption) | (with_reducible refine Below.alloc ?_ ?_ _) | (with_reducible refine Below.drew ?_) | (with_reducible refine below_drewN ?_ _) | (with_reducible refine Below.setCell ?_ ?_ _) | (with_reducible refine below_call ?_ ?_ (by assumption)) | go_size))⟩

end Go.Proofs.Ytcfiaacpofpioaa
