/- What the laws of chapter 3 draw: spans and clocks. -/
import Derived.Test.YthgghbehcammmaaTCur
import Derived.Test.YthgghbehcammmaaDrift1
import Derived.Test.YthgghbehcammmaaDrL
set_option linter.unusedSimpArgs false
set_option linter.unusedVariables false
set_option maxRecDepth 100000
namespace Go.Proofs.Ythgghbehcammmaa
open Go.RowKit
attribute [local go_sem ↓] Go.wp_at_zero Go.wp_at_succ

theorem ediv_bd {n g : Int} (h0 : 0 ≤ n) (hg : 1 ≤ g) : 0 ≤ n / g ∧ n / g ≤ n := ⟨Int.ediv_nonneg h0 (by omega), Int.ediv_le_self _ h0⟩
theorem mkS_i64 {n d x y : Int} {o : Bool} (hd : 1 ≤ d) (h : mkS n d = (x, y, o)) : (-4611686018427387904 ≤ x ∧ x ≤ 4611686018427387904) ∧ (-4611686018427387904 ≤ y ∧ y ≤ 4611686018427387904) := by
  cases o
  · unfold mkS limS at h
    split at h
    · simp at h
    · simp only [fail3, Prod.mk.injEq] at h
      omega
  · obtain ⟨h1, -⟩ := mkS_ok hd h
    obtain ⟨b1, b2, b3, b4, -⟩ := spanB_bd h1
    omega
set_option maxHeartbeats 1600000 in
theorem span_any (L : List Int) (a : Option Addr) (n cp : Nat) (w0 : World) (b T : Nat) (hO : CurOK L a n w0 b) (hT : T ≤ 600000) (w : World) (hC : Cur w0 w b a n cp T) :
    Calls Try.prog 27 #[.pointer (some ⟨b, 0, none⟩)] w fun e w' => ∃ p q, e = .returned (tv p q) ∧ (I64 p ∧ I64 q) ∧ Cur w0 w' b a n cp (T + 6) ∧ w.grownBy w' (some b) := by
  have HC := Lib.hid hC
  clear hC
  have hlt := Cur.lt HC.out
  (go_enter Try.func27, Try.ntmps27)
  go_wp2_with fail
  refine (pick_any L a n cp w0 b (T + 0) 14 (by omega) hO (by omega) _ (Cur.alloc HC.out _)).mono ?_
  rintro e1 w1 ⟨j, rfl, hj, hC1, hg1⟩
  have HC1 := Lib.hid hC1
  have hz1 := hg1.size
  try simp only [World.size_alloc, World.size_setCell, World.size_drew] at hz1
  have r1_A_0 : w1.cell? ⟨w.heap.size, 0, none⟩ = some (.int .i64 0) := (World.grownBy.cell_far hg1 ⟨w.heap.size, 0, none⟩ (by show w.heap.size < _; first | omega | (simp; omega) | go_size) (fun e => by simp only [Option.some.injEq] at e; omega)).trans (by go_simp)
  have z1_A_0 : w1.frozen? ⟨w.heap.size, 0, none⟩ = false := (World.grownBy.frozen_far hg1 ⟨w.heap.size, 0, none⟩ (by show w.heap.size < _; first | omega | (simp; omega) | go_size) (fun e => by simp only [Option.some.injEq] at e; omega)).trans (by go_simp)
  have r1_A_1 : w1.cell? ⟨w.heap.size, 1, none⟩ = some (.int .i64 0) := (World.grownBy.cell_far hg1 ⟨w.heap.size, 1, none⟩ (by show w.heap.size < _; first | omega | (simp; omega) | go_size) (fun e => by simp only [Option.some.injEq] at e; omega)).trans (by go_simp)
  have z1_A_1 : w1.frozen? ⟨w.heap.size, 1, none⟩ = false := (World.grownBy.frozen_far hg1 ⟨w.heap.size, 1, none⟩ (by show w.heap.size < _; first | omega | (simp; omega) | go_size) (fun e => by simp only [Option.some.injEq] at e; omega)).trans (by go_simp)
  have HG1 := Lib.hid ((grown_trans (World.grownBy_alloc w _ (some b)) hg1))
  have ja : (0 : Int) ≤ (j : Int) := Int.natCast_nonneg _
  have jb : (j : Int) < 14 := by omega
  clear hC1 hg1 
  by_cases h0 : j = 0
  · subst h0
    have hI2 := Lib.hid (iin_new w1 [(-1 : Int), (0 : Int), (2 : Int), (1000000 : Int), (1000001 : Int), (4611686018427387904 : Int)] 3)
    have hl2 := Cur.lt HC1.out
    go_wp2_with fail
    refine (among_any L a n cp w0 b (T + 2) [(-1 : Int), (0 : Int), (2 : Int), (1000000 : Int), (1000001 : Int), (4611686018427387904 : Int)] 6 rfl (by omega) w1.heap.size 0 6 hO (by omega) _ (Cur.alloc HC1.out _) hI2.out (by omega)).mono ?_
    rintro e2 w2 ⟨x, rfl, hm2, hC2, hg2⟩
    have HC2 := Lib.hid hC2
    have hz2 := hg2.size
    try simp only [World.size_alloc, World.size_setCell, World.size_drew] at hz2
    have r2_A_0 : w2.cell? ⟨w.heap.size, 0, none⟩ = some (.int .i64 0) := (World.grownBy.cell_far hg2 ⟨w.heap.size, 0, none⟩ (by show w.heap.size < _; first | omega | (simp; omega) | go_size) (fun e => by simp only [Option.some.injEq] at e; omega)).trans ((World.cell?_alloc_past _ _ _ (by show w.heap.size < _; omega)).trans r1_A_0)
    have z2_A_0 : w2.frozen? ⟨w.heap.size, 0, none⟩ = false := (World.grownBy.frozen_far hg2 ⟨w.heap.size, 0, none⟩ (by show w.heap.size < _; first | omega | (simp; omega) | go_size) (fun e => by simp only [Option.some.injEq] at e; omega)).trans ((World.frozen?_alloc_past _ _ _ (by show w.heap.size < _; omega)).trans z1_A_0)
    have r2_A_1 : w2.cell? ⟨w.heap.size, 1, none⟩ = some (.int .i64 0) := (World.grownBy.cell_far hg2 ⟨w.heap.size, 1, none⟩ (by show w.heap.size < _; first | omega | (simp; omega) | go_size) (fun e => by simp only [Option.some.injEq] at e; omega)).trans ((World.cell?_alloc_past _ _ _ (by show w.heap.size < _; omega)).trans r1_A_1)
    have z2_A_1 : w2.frozen? ⟨w.heap.size, 1, none⟩ = false := (World.grownBy.frozen_far hg2 ⟨w.heap.size, 1, none⟩ (by show w.heap.size < _; first | omega | (simp; omega) | go_size) (fun e => by simp only [Option.some.injEq] at e; omega)).trans ((World.frozen?_alloc_past _ _ _ (by show w.heap.size < _; omega)).trans z1_A_1)
    have HG2 := Lib.hid (grown_trans HG1.out (grown_trans (World.grownBy_alloc w1 _ (some b)) hg2))
    have xm : -4611686018427387904 ≤ x ∧ x ≤ 4611686018427387904 := by simp only [List.mem_cons, List.not_mem_nil, or_false] at hm2; omega
    clear hm2
    clear hC2 hg2 r1_A_0 z1_A_0 r1_A_1 z1_A_1
    have hI3 := Lib.hid (iin_new w2 [(0 : Int), (1 : Int), (2 : Int), (10000 : Int), (10001 : Int), (-1 : Int)] 3)
    have hl3 := Cur.lt HC2.out
    go_wp2_with fail
    refine (among_any L a n cp w0 b (T + 4) [(0 : Int), (1 : Int), (2 : Int), (10000 : Int), (10001 : Int), (-1 : Int)] 6 rfl (by omega) w2.heap.size 0 6 hO (by omega) _ (Cur.alloc HC2.out _) hI3.out (by omega)).mono ?_
    rintro e3 w3 ⟨y, rfl, hm3, hC3, hg3⟩
    have HC3 := Lib.hid hC3
    have hz3 := hg3.size
    try simp only [World.size_alloc, World.size_setCell, World.size_drew] at hz3
    have r3_A_0 : w3.cell? ⟨w.heap.size, 0, none⟩ = some (.int .i64 0) := (World.grownBy.cell_far hg3 ⟨w.heap.size, 0, none⟩ (by show w.heap.size < _; first | omega | (simp; omega) | go_size) (fun e => by simp only [Option.some.injEq] at e; omega)).trans ((World.cell?_alloc_past _ _ _ (by show w.heap.size < _; omega)).trans r2_A_0)
    have z3_A_0 : w3.frozen? ⟨w.heap.size, 0, none⟩ = false := (World.grownBy.frozen_far hg3 ⟨w.heap.size, 0, none⟩ (by show w.heap.size < _; first | omega | (simp; omega) | go_size) (fun e => by simp only [Option.some.injEq] at e; omega)).trans ((World.frozen?_alloc_past _ _ _ (by show w.heap.size < _; omega)).trans z2_A_0)
    have r3_A_1 : w3.cell? ⟨w.heap.size, 1, none⟩ = some (.int .i64 0) := (World.grownBy.cell_far hg3 ⟨w.heap.size, 1, none⟩ (by show w.heap.size < _; first | omega | (simp; omega) | go_size) (fun e => by simp only [Option.some.injEq] at e; omega)).trans ((World.cell?_alloc_past _ _ _ (by show w.heap.size < _; omega)).trans r2_A_1)
    have z3_A_1 : w3.frozen? ⟨w.heap.size, 1, none⟩ = false := (World.grownBy.frozen_far hg3 ⟨w.heap.size, 1, none⟩ (by show w.heap.size < _; first | omega | (simp; omega) | go_size) (fun e => by simp only [Option.some.injEq] at e; omega)).trans ((World.frozen?_alloc_past _ _ _ (by show w.heap.size < _; omega)).trans z2_A_1)
    have HG3 := Lib.hid (grown_trans HG2.out (grown_trans (World.grownBy_alloc w2 _ (some b)) hg3))
    have ym : -4611686018427387904 ≤ y ∧ y ≤ 4611686018427387904 := by simp only [List.mem_cons, List.not_mem_nil, or_false] at hm3; omega
    clear hm3
    clear hC3 hg3 r2_A_0 z2_A_0 r2_A_1 z2_A_1
    have s3_A : w.heap.size < w3.heap.size := by omega
    go_wp2
    (refine bodyPost_ret (by simp [results, Try.results27, go_sem, *]; try rfl) rfl ?_)
    refine ⟨_, _, rfl, ⟨i64_small xm, i64_small ym⟩, Cur.far (Cur.mono HC3.out (by omega)) ((show Below w.heap.size w3 _ from by (repeat' (first | (with_reducible exact Below.refl _ _) | (with_reducible assumption) | (with_reducible refine Below.alloc ?_ ?_ _) | (with_reducible refine Below.drew ?_) | (with_reducible refine below_drewN ?_ _) | (with_reducible refine Below.setCell ?_ ?_ _) | (with_reducible refine below_call ?_ ?_ (by assumption)) | go_size))).mono (by omega)), grown_far HG3.out (by (repeat' (first | (with_reducible exact Below.refl _ _) | (with_reducible assumption) | (with_reducible refine Below.alloc ?_ ?_ _) | (with_reducible refine Below.drew ?_) | (with_reducible refine below_drewN ?_ _) | (with_reducible refine Below.setCell ?_ ?_ _) | (with_reducible refine below_call ?_ ?_ (by assumption)) | go_size)))⟩
  by_cases h1 : j = 1
  · subst h1
    have s1_A : w.heap.size < w1.heap.size := by omega
    go_wp2
    (refine bodyPost_ret (by simp [results, Try.results27, go_sem, *]; try rfl) rfl ?_)
    refine ⟨_, _, rfl, ⟨i64_small (by omega), i64_small (by omega)⟩, Cur.far (Cur.mono HC1.out (by omega)) ((show Below w.heap.size w1 _ from by (repeat' (first | (with_reducible exact Below.refl _ _) | (with_reducible assumption) | (with_reducible refine Below.alloc ?_ ?_ _) | (with_reducible refine Below.drew ?_) | (with_reducible refine below_drewN ?_ _) | (with_reducible refine Below.setCell ?_ ?_ _) | (with_reducible refine below_call ?_ ?_ (by assumption)) | go_size))).mono (by omega)), grown_far HG1.out (by (repeat' (first | (with_reducible exact Below.refl _ _) | (with_reducible assumption) | (with_reducible refine Below.alloc ?_ ?_ _) | (with_reducible refine Below.drew ?_) | (with_reducible refine below_drewN ?_ _) | (with_reducible refine Below.setCell ?_ ?_ _) | (with_reducible refine below_call ?_ ?_ (by assumption)) | go_size)))⟩
  have j0 : ((j : Int) == 0) = false := by simp; omega
  have j1 : ((j : Int) == 1) = false := by simp; omega
  go_wp2_with fail
  refine (pick_any L a n cp w0 b (T + 2) 200 (by omega) hO (by omega) _ HC1.out).mono ?_
  rintro e2 w2 ⟨i, rfl, hi, hC2, hg2⟩
  have HC2 := Lib.hid hC2
  have hz2 := hg2.size
  try simp only [World.size_alloc, World.size_setCell, World.size_drew] at hz2
  have r2_A_0 : w2.cell? ⟨w.heap.size, 0, none⟩ = some (.int .i64 0) := (World.grownBy.cell_far hg2 ⟨w.heap.size, 0, none⟩ (by show w.heap.size < _; first | omega | (simp; omega) | go_size) (fun e => by simp only [Option.some.injEq] at e; omega)).trans (r1_A_0)
  have z2_A_0 : w2.frozen? ⟨w.heap.size, 0, none⟩ = false := (World.grownBy.frozen_far hg2 ⟨w.heap.size, 0, none⟩ (by show w.heap.size < _; first | omega | (simp; omega) | go_size) (fun e => by simp only [Option.some.injEq] at e; omega)).trans (z1_A_0)
  have r2_A_1 : w2.cell? ⟨w.heap.size, 1, none⟩ = some (.int .i64 0) := (World.grownBy.cell_far hg2 ⟨w.heap.size, 1, none⟩ (by show w.heap.size < _; first | omega | (simp; omega) | go_size) (fun e => by simp only [Option.some.injEq] at e; omega)).trans (r1_A_1)
  have z2_A_1 : w2.frozen? ⟨w.heap.size, 1, none⟩ = false := (World.grownBy.frozen_far hg2 ⟨w.heap.size, 1, none⟩ (by show w.heap.size < _; first | omega | (simp; omega) | go_size) (fun e => by simp only [Option.some.injEq] at e; omega)).trans (z1_A_1)
  have HG2 := Lib.hid (grown_trans HG1.out hg2)
  have ia : (0 : Int) ≤ (i : Int) := Int.natCast_nonneg _
  have ib : (i : Int) < 200 := by omega
  clear hC2 hg2 r1_A_0 z1_A_0 r1_A_1 z1_A_1
  go_wp2_with fail
  refine (pick_any L a n cp w0 b (T + 4) 24 (by omega) hO (by omega) _ HC2.out).mono ?_
  rintro e3 w3 ⟨m, rfl, hm, hC3, hg3⟩
  have HC3 := Lib.hid hC3
  have hz3 := hg3.size
  try simp only [World.size_alloc, World.size_setCell, World.size_drew] at hz3
  have r3_A_0 : w3.cell? ⟨w.heap.size, 0, none⟩ = some (.int .i64 0) := (World.grownBy.cell_far hg3 ⟨w.heap.size, 0, none⟩ (by show w.heap.size < _; first | omega | (simp; omega) | go_size) (fun e => by simp only [Option.some.injEq] at e; omega)).trans (r2_A_0)
  have z3_A_0 : w3.frozen? ⟨w.heap.size, 0, none⟩ = false := (World.grownBy.frozen_far hg3 ⟨w.heap.size, 0, none⟩ (by show w.heap.size < _; first | omega | (simp; omega) | go_size) (fun e => by simp only [Option.some.injEq] at e; omega)).trans (z2_A_0)
  have r3_A_1 : w3.cell? ⟨w.heap.size, 1, none⟩ = some (.int .i64 0) := (World.grownBy.cell_far hg3 ⟨w.heap.size, 1, none⟩ (by show w.heap.size < _; first | omega | (simp; omega) | go_size) (fun e => by simp only [Option.some.injEq] at e; omega)).trans (r2_A_1)
  have z3_A_1 : w3.frozen? ⟨w.heap.size, 1, none⟩ = false := (World.grownBy.frozen_far hg3 ⟨w.heap.size, 1, none⟩ (by show w.heap.size < _; first | omega | (simp; omega) | go_size) (fun e => by simp only [Option.some.injEq] at e; omega)).trans (z2_A_1)
  have HG3 := Lib.hid (grown_trans HG2.out hg3)
  have ma : (0 : Int) ≤ (m : Int) := Int.natCast_nonneg _
  have mb : (m : Int) < 24 := by omega
  clear hC3 hg3 r2_A_0 z2_A_0 r2_A_1 z2_A_1
  obtain ⟨x, y, ok, hM⟩ : ∃ x y z, mkS (i : Int) (1 + (m : Int)) = (x, y, z) := ⟨_, _, _, rfl⟩
  obtain ⟨hx, hy⟩ := mkS_i64 (by omega) hM
  have HM := Lib.hid hM
  clear hM
  go_wp2_with fail
  refine (drMake_val (i : Int) (1 + (m : Int)) HM.out (by omega) (by omega) (by omega) (by omega) _).mono ?_
  rintro e4 w4 ⟨rfl, hb4⟩
  obtain ⟨hc4, hf4⟩ := bcell hb4
  have hz4 := hb4.size
  have r4_A_0 : w4.cell? ⟨w.heap.size, 0, none⟩ = some (.int .i64 0) := (hc4 _ _ (by first | omega | go_size)).trans (r3_A_0)
  have z4_A_0 : w4.frozen? ⟨w.heap.size, 0, none⟩ = false := (hf4 _ _ (by first | omega | go_size)).trans (z3_A_0)
  have r4_A_1 : w4.cell? ⟨w.heap.size, 1, none⟩ = some (.int .i64 0) := (hc4 _ _ (by first | omega | go_size)).trans (r3_A_1)
  have z4_A_1 : w4.frozen? ⟨w.heap.size, 1, none⟩ = false := (hf4 _ _ (by first | omega | go_size)).trans (z3_A_1)
  have HC4 := Lib.hid (Cur.below HC3.out hb4)
  have HG4 := Lib.hid (grown_trans HG3.out (below_grown hb4 (some b)))
  clear hc4 hf4 hb4 r3_A_0 z3_A_0 r3_A_1 z3_A_1
  have s4_A : w.heap.size < w4.heap.size := by omega
  go_wp2
  (refine bodyPost_ret (by simp [results, Try.results27, go_sem, *]; try rfl) rfl ?_)
  refine ⟨x, y, rfl, ⟨i64_small hx, i64_small hy⟩, Cur.far (Cur.mono HC4.out (by omega)) ((show Below w.heap.size w4 _ from by (repeat' (first | (with_reducible exact Below.refl _ _) | (with_reducible assumption) | (with_reducible refine Below.alloc ?_ ?_ _) | (with_reducible refine Below.drew ?_) | (with_reducible refine below_drewN ?_ _) | (with_reducible refine Below.setCell ?_ ?_ _) | (with_reducible refine below_call ?_ ?_ (by assumption)) | go_size))).mono (by omega)), grown_far HG4.out (by (repeat' (first | (with_reducible exact Below.refl _ _) | (with_reducible assumption) | (with_reducible refine Below.alloc ?_ ?_ _) | (with_reducible refine Below.drew ?_) | (with_reducible refine below_drewN ?_ _) | (with_reducible refine Below.setCell ?_ ?_ _) | (with_reducible refine below_call ?_ ?_ (by assumption)) | go_size)))⟩
set_option maxHeartbeats 3200000 in
theorem clock_any (L : List Int) (a : Option Addr) (n cp : Nat) (w0 : World) (b T : Nat) (hO : CurOK L a n w0 b) (hT : T ≤ 500000) (w : World) (hC : Cur w0 w b a n cp T) :
    Calls Try.prog 26 #[.pointer (some ⟨b, 0, none⟩)] w fun e w' => ∃ p q x y, e = .returned (cv p q x y) ∧ (I64 p ∧ I64 q ∧ I64 x ∧ I64 y) ∧ Cur w0 w' b a n cp (T + 22) ∧ w.grownBy w' (some b) := by
  have HC := Lib.hid hC
  clear hC
  have hlt := Cur.lt HC.out
  (go_enter Try.func26, Try.ntmps26)
  go_wp2_with fail
  refine (sureTurn_any L a n cp w0 b (T + 0)  hO (by omega) _ (Cur.alloc HC.out _)).mono ?_
  rintro e1 w1 ⟨p, q, rfl, ⟨ip, iq⟩, hC1, hg1⟩
  have HC1 := Lib.hid hC1
  have hz1 := hg1.size
  try simp only [World.size_alloc, World.size_setCell, World.size_drew] at hz1
  have r1_A_0 : w1.cell? ⟨w.heap.size, 0, none⟩ = some (.int .i64 0) := (World.grownBy.cell_far hg1 ⟨w.heap.size, 0, none⟩ (by show w.heap.size < _; first | omega | (simp; omega) | go_size) (fun e => by simp only [Option.some.injEq] at e; omega)).trans (by go_simp)
  have z1_A_0 : w1.frozen? ⟨w.heap.size, 0, none⟩ = false := (World.grownBy.frozen_far hg1 ⟨w.heap.size, 0, none⟩ (by show w.heap.size < _; first | omega | (simp; omega) | go_size) (fun e => by simp only [Option.some.injEq] at e; omega)).trans (by go_simp)
  have r1_A_1 : w1.cell? ⟨w.heap.size, 1, none⟩ = some (.int .i64 0) := (World.grownBy.cell_far hg1 ⟨w.heap.size, 1, none⟩ (by show w.heap.size < _; first | omega | (simp; omega) | go_size) (fun e => by simp only [Option.some.injEq] at e; omega)).trans (by go_simp)
  have z1_A_1 : w1.frozen? ⟨w.heap.size, 1, none⟩ = false := (World.grownBy.frozen_far hg1 ⟨w.heap.size, 1, none⟩ (by show w.heap.size < _; first | omega | (simp; omega) | go_size) (fun e => by simp only [Option.some.injEq] at e; omega)).trans (by go_simp)
  have r1_A_2 : w1.cell? ⟨w.heap.size, 2, none⟩ = some (.int .i64 0) := (World.grownBy.cell_far hg1 ⟨w.heap.size, 2, none⟩ (by show w.heap.size < _; first | omega | (simp; omega) | go_size) (fun e => by simp only [Option.some.injEq] at e; omega)).trans (by go_simp)
  have z1_A_2 : w1.frozen? ⟨w.heap.size, 2, none⟩ = false := (World.grownBy.frozen_far hg1 ⟨w.heap.size, 2, none⟩ (by show w.heap.size < _; first | omega | (simp; omega) | go_size) (fun e => by simp only [Option.some.injEq] at e; omega)).trans (by go_simp)
  have r1_A_3 : w1.cell? ⟨w.heap.size, 3, none⟩ = some (.int .i64 0) := (World.grownBy.cell_far hg1 ⟨w.heap.size, 3, none⟩ (by show w.heap.size < _; first | omega | (simp; omega) | go_size) (fun e => by simp only [Option.some.injEq] at e; omega)).trans (by go_simp)
  have z1_A_3 : w1.frozen? ⟨w.heap.size, 3, none⟩ = false := (World.grownBy.frozen_far hg1 ⟨w.heap.size, 3, none⟩ (by show w.heap.size < _; first | omega | (simp; omega) | go_size) (fun e => by simp only [Option.some.injEq] at e; omega)).trans (by go_simp)
  have HG1 := Lib.hid ((grown_trans (World.grownBy_alloc w _ (some b)) hg1))
  clear hC1 hg1 
  go_wp2_with fail
  refine (pick_any L a n cp w0 b (T + 4) 50 (by omega) hO (by omega) _ (Cur.alloc HC1.out _)).mono ?_
  rintro e2 w2 ⟨j, rfl, hj, hC2, hg2⟩
  have HC2 := Lib.hid hC2
  have hz2 := hg2.size
  try simp only [World.size_alloc, World.size_setCell, World.size_drew] at hz2
  have r2_A_0 : w2.cell? ⟨w.heap.size, 0, none⟩ = some (.int .i64 0) := (World.grownBy.cell_far hg2 ⟨w.heap.size, 0, none⟩ (by show w.heap.size < _; first | omega | (simp; omega) | go_size) (fun e => by simp only [Option.some.injEq] at e; omega)).trans ((World.cell?_alloc_past _ _ _ (by show w.heap.size < _; omega)).trans r1_A_0)
  have z2_A_0 : w2.frozen? ⟨w.heap.size, 0, none⟩ = false := (World.grownBy.frozen_far hg2 ⟨w.heap.size, 0, none⟩ (by show w.heap.size < _; first | omega | (simp; omega) | go_size) (fun e => by simp only [Option.some.injEq] at e; omega)).trans ((World.frozen?_alloc_past _ _ _ (by show w.heap.size < _; omega)).trans z1_A_0)
  have r2_A_1 : w2.cell? ⟨w.heap.size, 1, none⟩ = some (.int .i64 0) := (World.grownBy.cell_far hg2 ⟨w.heap.size, 1, none⟩ (by show w.heap.size < _; first | omega | (simp; omega) | go_size) (fun e => by simp only [Option.some.injEq] at e; omega)).trans ((World.cell?_alloc_past _ _ _ (by show w.heap.size < _; omega)).trans r1_A_1)
  have z2_A_1 : w2.frozen? ⟨w.heap.size, 1, none⟩ = false := (World.grownBy.frozen_far hg2 ⟨w.heap.size, 1, none⟩ (by show w.heap.size < _; first | omega | (simp; omega) | go_size) (fun e => by simp only [Option.some.injEq] at e; omega)).trans ((World.frozen?_alloc_past _ _ _ (by show w.heap.size < _; omega)).trans z1_A_1)
  have r2_A_2 : w2.cell? ⟨w.heap.size, 2, none⟩ = some (.int .i64 0) := (World.grownBy.cell_far hg2 ⟨w.heap.size, 2, none⟩ (by show w.heap.size < _; first | omega | (simp; omega) | go_size) (fun e => by simp only [Option.some.injEq] at e; omega)).trans ((World.cell?_alloc_past _ _ _ (by show w.heap.size < _; omega)).trans r1_A_2)
  have z2_A_2 : w2.frozen? ⟨w.heap.size, 2, none⟩ = false := (World.grownBy.frozen_far hg2 ⟨w.heap.size, 2, none⟩ (by show w.heap.size < _; first | omega | (simp; omega) | go_size) (fun e => by simp only [Option.some.injEq] at e; omega)).trans ((World.frozen?_alloc_past _ _ _ (by show w.heap.size < _; omega)).trans z1_A_2)
  have r2_A_3 : w2.cell? ⟨w.heap.size, 3, none⟩ = some (.int .i64 0) := (World.grownBy.cell_far hg2 ⟨w.heap.size, 3, none⟩ (by show w.heap.size < _; first | omega | (simp; omega) | go_size) (fun e => by simp only [Option.some.injEq] at e; omega)).trans ((World.cell?_alloc_past _ _ _ (by show w.heap.size < _; omega)).trans r1_A_3)
  have z2_A_3 : w2.frozen? ⟨w.heap.size, 3, none⟩ = false := (World.grownBy.frozen_far hg2 ⟨w.heap.size, 3, none⟩ (by show w.heap.size < _; first | omega | (simp; omega) | go_size) (fun e => by simp only [Option.some.injEq] at e; omega)).trans ((World.frozen?_alloc_past _ _ _ (by show w.heap.size < _; omega)).trans z1_A_3)
  have r2_C_0 : w2.cell? ⟨w1.heap.size, 0, none⟩ = some (.int .i64 p) := (World.grownBy.cell_far hg2 ⟨w1.heap.size, 0, none⟩ (by show w1.heap.size < _; first | omega | (simp; omega) | go_size) (fun e => by simp only [Option.some.injEq] at e; omega)).trans (by go_simp)
  have z2_C_0 : w2.frozen? ⟨w1.heap.size, 0, none⟩ = false := (World.grownBy.frozen_far hg2 ⟨w1.heap.size, 0, none⟩ (by show w1.heap.size < _; first | omega | (simp; omega) | go_size) (fun e => by simp only [Option.some.injEq] at e; omega)).trans (by go_simp)
  have r2_C_1 : w2.cell? ⟨w1.heap.size, 1, none⟩ = some (.int .i64 q) := (World.grownBy.cell_far hg2 ⟨w1.heap.size, 1, none⟩ (by show w1.heap.size < _; first | omega | (simp; omega) | go_size) (fun e => by simp only [Option.some.injEq] at e; omega)).trans (by go_simp)
  have z2_C_1 : w2.frozen? ⟨w1.heap.size, 1, none⟩ = false := (World.grownBy.frozen_far hg2 ⟨w1.heap.size, 1, none⟩ (by show w1.heap.size < _; first | omega | (simp; omega) | go_size) (fun e => by simp only [Option.some.injEq] at e; omega)).trans (by go_simp)
  have r2_C_2 : w2.cell? ⟨w1.heap.size, 2, none⟩ = some (.int .i64 72) := (World.grownBy.cell_far hg2 ⟨w1.heap.size, 2, none⟩ (by show w1.heap.size < _; first | omega | (simp; omega) | go_size) (fun e => by simp only [Option.some.injEq] at e; omega)).trans (by go_simp)
  have z2_C_2 : w2.frozen? ⟨w1.heap.size, 2, none⟩ = false := (World.grownBy.frozen_far hg2 ⟨w1.heap.size, 2, none⟩ (by show w1.heap.size < _; first | omega | (simp; omega) | go_size) (fun e => by simp only [Option.some.injEq] at e; omega)).trans (by go_simp)
  have r2_C_3 : w2.cell? ⟨w1.heap.size, 3, none⟩ = some (.int .i64 72) := (World.grownBy.cell_far hg2 ⟨w1.heap.size, 3, none⟩ (by show w1.heap.size < _; first | omega | (simp; omega) | go_size) (fun e => by simp only [Option.some.injEq] at e; omega)).trans (by go_simp)
  have z2_C_3 : w2.frozen? ⟨w1.heap.size, 3, none⟩ = false := (World.grownBy.frozen_far hg2 ⟨w1.heap.size, 3, none⟩ (by show w1.heap.size < _; first | omega | (simp; omega) | go_size) (fun e => by simp only [Option.some.injEq] at e; omega)).trans (by go_simp)
  have HG2 := Lib.hid (grown_trans HG1.out (grown_trans (World.grownBy_alloc w1 _ (some b)) hg2))
  have ja : (0 : Int) ≤ (j : Int) := Int.natCast_nonneg _
  have jb : (j : Int) < 50 := by omega
  clear hC2 hg2 r1_A_0 z1_A_0 r1_A_1 z1_A_1 r1_A_2 z1_A_2 r1_A_3 z1_A_3
  have hI3 := Lib.hid (iin_new w2 [(73 : Int), (71 : Int), (72 : Int), (1 : Int), (2 : Int), (3 : Int), (100 : Int), (999 : Int), (1000 : Int), (1 + (j : Int))] 3)
  have hl3 := Cur.lt HC2.out
  go_wp2_with fail
  refine (among_any L a n cp w0 b (T + 6) [(73 : Int), (71 : Int), (72 : Int), (1 : Int), (2 : Int), (3 : Int), (100 : Int), (999 : Int), (1000 : Int), (1 + (j : Int))] 10 rfl (by omega) w2.heap.size 0 10 hO (by omega) _ (Cur.alloc HC2.out _) hI3.out (by omega)).mono ?_
  rintro e3 w3 ⟨x, rfl, hm3, hC3, hg3⟩
  have HC3 := Lib.hid hC3
  have hz3 := hg3.size
  try simp only [World.size_alloc, World.size_setCell, World.size_drew] at hz3
  have r3_A_0 : w3.cell? ⟨w.heap.size, 0, none⟩ = some (.int .i64 0) := (World.grownBy.cell_far hg3 ⟨w.heap.size, 0, none⟩ (by show w.heap.size < _; first | omega | (simp; omega) | go_size) (fun e => by simp only [Option.some.injEq] at e; omega)).trans ((World.cell?_alloc_past _ _ _ (by show w.heap.size < _; omega)).trans r2_A_0)
  have z3_A_0 : w3.frozen? ⟨w.heap.size, 0, none⟩ = false := (World.grownBy.frozen_far hg3 ⟨w.heap.size, 0, none⟩ (by show w.heap.size < _; first | omega | (simp; omega) | go_size) (fun e => by simp only [Option.some.injEq] at e; omega)).trans ((World.frozen?_alloc_past _ _ _ (by show w.heap.size < _; omega)).trans z2_A_0)
  have r3_A_1 : w3.cell? ⟨w.heap.size, 1, none⟩ = some (.int .i64 0) := (World.grownBy.cell_far hg3 ⟨w.heap.size, 1, none⟩ (by show w.heap.size < _; first | omega | (simp; omega) | go_size) (fun e => by simp only [Option.some.injEq] at e; omega)).trans ((World.cell?_alloc_past _ _ _ (by show w.heap.size < _; omega)).trans r2_A_1)
  have z3_A_1 : w3.frozen? ⟨w.heap.size, 1, none⟩ = false := (World.grownBy.frozen_far hg3 ⟨w.heap.size, 1, none⟩ (by show w.heap.size < _; first | omega | (simp; omega) | go_size) (fun e => by simp only [Option.some.injEq] at e; omega)).trans ((World.frozen?_alloc_past _ _ _ (by show w.heap.size < _; omega)).trans z2_A_1)
  have r3_A_2 : w3.cell? ⟨w.heap.size, 2, none⟩ = some (.int .i64 0) := (World.grownBy.cell_far hg3 ⟨w.heap.size, 2, none⟩ (by show w.heap.size < _; first | omega | (simp; omega) | go_size) (fun e => by simp only [Option.some.injEq] at e; omega)).trans ((World.cell?_alloc_past _ _ _ (by show w.heap.size < _; omega)).trans r2_A_2)
  have z3_A_2 : w3.frozen? ⟨w.heap.size, 2, none⟩ = false := (World.grownBy.frozen_far hg3 ⟨w.heap.size, 2, none⟩ (by show w.heap.size < _; first | omega | (simp; omega) | go_size) (fun e => by simp only [Option.some.injEq] at e; omega)).trans ((World.frozen?_alloc_past _ _ _ (by show w.heap.size < _; omega)).trans z2_A_2)
  have r3_A_3 : w3.cell? ⟨w.heap.size, 3, none⟩ = some (.int .i64 0) := (World.grownBy.cell_far hg3 ⟨w.heap.size, 3, none⟩ (by show w.heap.size < _; first | omega | (simp; omega) | go_size) (fun e => by simp only [Option.some.injEq] at e; omega)).trans ((World.cell?_alloc_past _ _ _ (by show w.heap.size < _; omega)).trans r2_A_3)
  have z3_A_3 : w3.frozen? ⟨w.heap.size, 3, none⟩ = false := (World.grownBy.frozen_far hg3 ⟨w.heap.size, 3, none⟩ (by show w.heap.size < _; first | omega | (simp; omega) | go_size) (fun e => by simp only [Option.some.injEq] at e; omega)).trans ((World.frozen?_alloc_past _ _ _ (by show w.heap.size < _; omega)).trans z2_A_3)
  have r3_C_0 : w3.cell? ⟨w1.heap.size, 0, none⟩ = some (.int .i64 p) := (World.grownBy.cell_far hg3 ⟨w1.heap.size, 0, none⟩ (by show w1.heap.size < _; first | omega | (simp; omega) | go_size) (fun e => by simp only [Option.some.injEq] at e; omega)).trans ((World.cell?_alloc_past _ _ _ (by show w1.heap.size < _; omega)).trans r2_C_0)
  have z3_C_0 : w3.frozen? ⟨w1.heap.size, 0, none⟩ = false := (World.grownBy.frozen_far hg3 ⟨w1.heap.size, 0, none⟩ (by show w1.heap.size < _; first | omega | (simp; omega) | go_size) (fun e => by simp only [Option.some.injEq] at e; omega)).trans ((World.frozen?_alloc_past _ _ _ (by show w1.heap.size < _; omega)).trans z2_C_0)
  have r3_C_1 : w3.cell? ⟨w1.heap.size, 1, none⟩ = some (.int .i64 q) := (World.grownBy.cell_far hg3 ⟨w1.heap.size, 1, none⟩ (by show w1.heap.size < _; first | omega | (simp; omega) | go_size) (fun e => by simp only [Option.some.injEq] at e; omega)).trans ((World.cell?_alloc_past _ _ _ (by show w1.heap.size < _; omega)).trans r2_C_1)
  have z3_C_1 : w3.frozen? ⟨w1.heap.size, 1, none⟩ = false := (World.grownBy.frozen_far hg3 ⟨w1.heap.size, 1, none⟩ (by show w1.heap.size < _; first | omega | (simp; omega) | go_size) (fun e => by simp only [Option.some.injEq] at e; omega)).trans ((World.frozen?_alloc_past _ _ _ (by show w1.heap.size < _; omega)).trans z2_C_1)
  have r3_C_2 : w3.cell? ⟨w1.heap.size, 2, none⟩ = some (.int .i64 72) := (World.grownBy.cell_far hg3 ⟨w1.heap.size, 2, none⟩ (by show w1.heap.size < _; first | omega | (simp; omega) | go_size) (fun e => by simp only [Option.some.injEq] at e; omega)).trans ((World.cell?_alloc_past _ _ _ (by show w1.heap.size < _; omega)).trans r2_C_2)
  have z3_C_2 : w3.frozen? ⟨w1.heap.size, 2, none⟩ = false := (World.grownBy.frozen_far hg3 ⟨w1.heap.size, 2, none⟩ (by show w1.heap.size < _; first | omega | (simp; omega) | go_size) (fun e => by simp only [Option.some.injEq] at e; omega)).trans ((World.frozen?_alloc_past _ _ _ (by show w1.heap.size < _; omega)).trans z2_C_2)
  have r3_C_3 : w3.cell? ⟨w1.heap.size, 3, none⟩ = some (.int .i64 72) := (World.grownBy.cell_far hg3 ⟨w1.heap.size, 3, none⟩ (by show w1.heap.size < _; first | omega | (simp; omega) | go_size) (fun e => by simp only [Option.some.injEq] at e; omega)).trans ((World.cell?_alloc_past _ _ _ (by show w1.heap.size < _; omega)).trans r2_C_3)
  have z3_C_3 : w3.frozen? ⟨w1.heap.size, 3, none⟩ = false := (World.grownBy.frozen_far hg3 ⟨w1.heap.size, 3, none⟩ (by show w1.heap.size < _; first | omega | (simp; omega) | go_size) (fun e => by simp only [Option.some.injEq] at e; omega)).trans ((World.frozen?_alloc_past _ _ _ (by show w1.heap.size < _; omega)).trans z2_C_3)
  have HG3 := Lib.hid (grown_trans HG2.out (grown_trans (World.grownBy_alloc w2 _ (some b)) hg3))
  have xm : 1 ≤ x ∧ x ≤ 1000 := by simp only [List.mem_cons, List.not_mem_nil, or_false] at hm3; omega
  clear hm3
  clear hC3 hg3 r2_A_0 z2_A_0 r2_A_1 z2_A_1 r2_A_2 z2_A_2 r2_A_3 z2_A_3 r2_C_0 z2_C_0 r2_C_1 z2_C_1 r2_C_2 z2_C_2 r2_C_3 z2_C_3
  go_wp2_with fail
  refine (pick_any L a n cp w0 b (T + 8) 50 (by omega) hO (by omega) _ HC3.out).mono ?_
  rintro e4 w4 ⟨i, rfl, hi, hC4, hg4⟩
  have HC4 := Lib.hid hC4
  have hz4 := hg4.size
  try simp only [World.size_alloc, World.size_setCell, World.size_drew] at hz4
  have r4_A_0 : w4.cell? ⟨w.heap.size, 0, none⟩ = some (.int .i64 0) := (World.grownBy.cell_far hg4 ⟨w.heap.size, 0, none⟩ (by show w.heap.size < _; first | omega | (simp; omega) | go_size) (fun e => by simp only [Option.some.injEq] at e; omega)).trans (r3_A_0)
  have z4_A_0 : w4.frozen? ⟨w.heap.size, 0, none⟩ = false := (World.grownBy.frozen_far hg4 ⟨w.heap.size, 0, none⟩ (by show w.heap.size < _; first | omega | (simp; omega) | go_size) (fun e => by simp only [Option.some.injEq] at e; omega)).trans (z3_A_0)
  have r4_A_1 : w4.cell? ⟨w.heap.size, 1, none⟩ = some (.int .i64 0) := (World.grownBy.cell_far hg4 ⟨w.heap.size, 1, none⟩ (by show w.heap.size < _; first | omega | (simp; omega) | go_size) (fun e => by simp only [Option.some.injEq] at e; omega)).trans (r3_A_1)
  have z4_A_1 : w4.frozen? ⟨w.heap.size, 1, none⟩ = false := (World.grownBy.frozen_far hg4 ⟨w.heap.size, 1, none⟩ (by show w.heap.size < _; first | omega | (simp; omega) | go_size) (fun e => by simp only [Option.some.injEq] at e; omega)).trans (z3_A_1)
  have r4_A_2 : w4.cell? ⟨w.heap.size, 2, none⟩ = some (.int .i64 0) := (World.grownBy.cell_far hg4 ⟨w.heap.size, 2, none⟩ (by show w.heap.size < _; first | omega | (simp; omega) | go_size) (fun e => by simp only [Option.some.injEq] at e; omega)).trans (r3_A_2)
  have z4_A_2 : w4.frozen? ⟨w.heap.size, 2, none⟩ = false := (World.grownBy.frozen_far hg4 ⟨w.heap.size, 2, none⟩ (by show w.heap.size < _; first | omega | (simp; omega) | go_size) (fun e => by simp only [Option.some.injEq] at e; omega)).trans (z3_A_2)
  have r4_A_3 : w4.cell? ⟨w.heap.size, 3, none⟩ = some (.int .i64 0) := (World.grownBy.cell_far hg4 ⟨w.heap.size, 3, none⟩ (by show w.heap.size < _; first | omega | (simp; omega) | go_size) (fun e => by simp only [Option.some.injEq] at e; omega)).trans (r3_A_3)
  have z4_A_3 : w4.frozen? ⟨w.heap.size, 3, none⟩ = false := (World.grownBy.frozen_far hg4 ⟨w.heap.size, 3, none⟩ (by show w.heap.size < _; first | omega | (simp; omega) | go_size) (fun e => by simp only [Option.some.injEq] at e; omega)).trans (z3_A_3)
  have r4_C_0 : w4.cell? ⟨w1.heap.size, 0, none⟩ = some (.int .i64 p) := (World.grownBy.cell_far hg4 ⟨w1.heap.size, 0, none⟩ (by show w1.heap.size < _; first | omega | (simp; omega) | go_size) (fun e => by simp only [Option.some.injEq] at e; omega)).trans (r3_C_0)
  have z4_C_0 : w4.frozen? ⟨w1.heap.size, 0, none⟩ = false := (World.grownBy.frozen_far hg4 ⟨w1.heap.size, 0, none⟩ (by show w1.heap.size < _; first | omega | (simp; omega) | go_size) (fun e => by simp only [Option.some.injEq] at e; omega)).trans (z3_C_0)
  have r4_C_1 : w4.cell? ⟨w1.heap.size, 1, none⟩ = some (.int .i64 q) := (World.grownBy.cell_far hg4 ⟨w1.heap.size, 1, none⟩ (by show w1.heap.size < _; first | omega | (simp; omega) | go_size) (fun e => by simp only [Option.some.injEq] at e; omega)).trans (r3_C_1)
  have z4_C_1 : w4.frozen? ⟨w1.heap.size, 1, none⟩ = false := (World.grownBy.frozen_far hg4 ⟨w1.heap.size, 1, none⟩ (by show w1.heap.size < _; first | omega | (simp; omega) | go_size) (fun e => by simp only [Option.some.injEq] at e; omega)).trans (z3_C_1)
  have r4_C_2 : w4.cell? ⟨w1.heap.size, 2, none⟩ = some (.int .i64 72) := (World.grownBy.cell_far hg4 ⟨w1.heap.size, 2, none⟩ (by show w1.heap.size < _; first | omega | (simp; omega) | go_size) (fun e => by simp only [Option.some.injEq] at e; omega)).trans (r3_C_2)
  have z4_C_2 : w4.frozen? ⟨w1.heap.size, 2, none⟩ = false := (World.grownBy.frozen_far hg4 ⟨w1.heap.size, 2, none⟩ (by show w1.heap.size < _; first | omega | (simp; omega) | go_size) (fun e => by simp only [Option.some.injEq] at e; omega)).trans (z3_C_2)
  have r4_C_3 : w4.cell? ⟨w1.heap.size, 3, none⟩ = some (.int .i64 72) := (World.grownBy.cell_far hg4 ⟨w1.heap.size, 3, none⟩ (by show w1.heap.size < _; first | omega | (simp; omega) | go_size) (fun e => by simp only [Option.some.injEq] at e; omega)).trans (r3_C_3)
  have z4_C_3 : w4.frozen? ⟨w1.heap.size, 3, none⟩ = false := (World.grownBy.frozen_far hg4 ⟨w1.heap.size, 3, none⟩ (by show w1.heap.size < _; first | omega | (simp; omega) | go_size) (fun e => by simp only [Option.some.injEq] at e; omega)).trans (z3_C_3)
  have HG4 := Lib.hid (grown_trans HG3.out hg4)
  have ia : (0 : Int) ≤ (i : Int) := Int.natCast_nonneg _
  have ib : (i : Int) < 50 := by omega
  clear hC4 hg4 r3_A_0 z3_A_0 r3_A_1 z3_A_1 r3_A_2 z3_A_2 r3_A_3 z3_A_3 r3_C_0 z3_C_0 r3_C_1 z3_C_1 r3_C_2 z3_C_2 r3_C_3 z3_C_3
  have hI5 := Lib.hid (iin_new w4 [(72 : Int), (72 : Int), (72 : Int), (1 : Int), (3 : Int), (99 : Int), (1000 : Int), (1 + (i : Int))] 3)
  have hl5 := Cur.lt HC4.out
  go_wp2_with fail
  refine (among_any L a n cp w0 b (T + 10) [(72 : Int), (72 : Int), (72 : Int), (1 : Int), (3 : Int), (99 : Int), (1000 : Int), (1 + (i : Int))] 8 rfl (by omega) w4.heap.size 0 8 hO (by omega) _ (Cur.alloc HC4.out _) hI5.out (by omega)).mono ?_
  rintro e5 w5 ⟨y, rfl, hm5, hC5, hg5⟩
  have HC5 := Lib.hid hC5
  have hz5 := hg5.size
  try simp only [World.size_alloc, World.size_setCell, World.size_drew] at hz5
  have r5_A_0 : w5.cell? ⟨w.heap.size, 0, none⟩ = some (.int .i64 0) := (World.grownBy.cell_far hg5 ⟨w.heap.size, 0, none⟩ (by show w.heap.size < _; first | omega | (simp; omega) | go_size) (fun e => by simp only [Option.some.injEq] at e; omega)).trans ((World.cell?_alloc_past _ _ _ (by show w.heap.size < _; omega)).trans r4_A_0)
  have z5_A_0 : w5.frozen? ⟨w.heap.size, 0, none⟩ = false := (World.grownBy.frozen_far hg5 ⟨w.heap.size, 0, none⟩ (by show w.heap.size < _; first | omega | (simp; omega) | go_size) (fun e => by simp only [Option.some.injEq] at e; omega)).trans ((World.frozen?_alloc_past _ _ _ (by show w.heap.size < _; omega)).trans z4_A_0)
  have r5_A_1 : w5.cell? ⟨w.heap.size, 1, none⟩ = some (.int .i64 0) := (World.grownBy.cell_far hg5 ⟨w.heap.size, 1, none⟩ (by show w.heap.size < _; first | omega | (simp; omega) | go_size) (fun e => by simp only [Option.some.injEq] at e; omega)).trans ((World.cell?_alloc_past _ _ _ (by show w.heap.size < _; omega)).trans r4_A_1)
  have z5_A_1 : w5.frozen? ⟨w.heap.size, 1, none⟩ = false := (World.grownBy.frozen_far hg5 ⟨w.heap.size, 1, none⟩ (by show w.heap.size < _; first | omega | (simp; omega) | go_size) (fun e => by simp only [Option.some.injEq] at e; omega)).trans ((World.frozen?_alloc_past _ _ _ (by show w.heap.size < _; omega)).trans z4_A_1)
  have r5_A_2 : w5.cell? ⟨w.heap.size, 2, none⟩ = some (.int .i64 0) := (World.grownBy.cell_far hg5 ⟨w.heap.size, 2, none⟩ (by show w.heap.size < _; first | omega | (simp; omega) | go_size) (fun e => by simp only [Option.some.injEq] at e; omega)).trans ((World.cell?_alloc_past _ _ _ (by show w.heap.size < _; omega)).trans r4_A_2)
  have z5_A_2 : w5.frozen? ⟨w.heap.size, 2, none⟩ = false := (World.grownBy.frozen_far hg5 ⟨w.heap.size, 2, none⟩ (by show w.heap.size < _; first | omega | (simp; omega) | go_size) (fun e => by simp only [Option.some.injEq] at e; omega)).trans ((World.frozen?_alloc_past _ _ _ (by show w.heap.size < _; omega)).trans z4_A_2)
  have r5_A_3 : w5.cell? ⟨w.heap.size, 3, none⟩ = some (.int .i64 0) := (World.grownBy.cell_far hg5 ⟨w.heap.size, 3, none⟩ (by show w.heap.size < _; first | omega | (simp; omega) | go_size) (fun e => by simp only [Option.some.injEq] at e; omega)).trans ((World.cell?_alloc_past _ _ _ (by show w.heap.size < _; omega)).trans r4_A_3)
  have z5_A_3 : w5.frozen? ⟨w.heap.size, 3, none⟩ = false := (World.grownBy.frozen_far hg5 ⟨w.heap.size, 3, none⟩ (by show w.heap.size < _; first | omega | (simp; omega) | go_size) (fun e => by simp only [Option.some.injEq] at e; omega)).trans ((World.frozen?_alloc_past _ _ _ (by show w.heap.size < _; omega)).trans z4_A_3)
  have r5_C_0 : w5.cell? ⟨w1.heap.size, 0, none⟩ = some (.int .i64 p) := (World.grownBy.cell_far hg5 ⟨w1.heap.size, 0, none⟩ (by show w1.heap.size < _; first | omega | (simp; omega) | go_size) (fun e => by simp only [Option.some.injEq] at e; omega)).trans ((World.cell?_alloc_past _ _ _ (by show w1.heap.size < _; omega)).trans r4_C_0)
  have z5_C_0 : w5.frozen? ⟨w1.heap.size, 0, none⟩ = false := (World.grownBy.frozen_far hg5 ⟨w1.heap.size, 0, none⟩ (by show w1.heap.size < _; first | omega | (simp; omega) | go_size) (fun e => by simp only [Option.some.injEq] at e; omega)).trans ((World.frozen?_alloc_past _ _ _ (by show w1.heap.size < _; omega)).trans z4_C_0)
  have r5_C_1 : w5.cell? ⟨w1.heap.size, 1, none⟩ = some (.int .i64 q) := (World.grownBy.cell_far hg5 ⟨w1.heap.size, 1, none⟩ (by show w1.heap.size < _; first | omega | (simp; omega) | go_size) (fun e => by simp only [Option.some.injEq] at e; omega)).trans ((World.cell?_alloc_past _ _ _ (by show w1.heap.size < _; omega)).trans r4_C_1)
  have z5_C_1 : w5.frozen? ⟨w1.heap.size, 1, none⟩ = false := (World.grownBy.frozen_far hg5 ⟨w1.heap.size, 1, none⟩ (by show w1.heap.size < _; first | omega | (simp; omega) | go_size) (fun e => by simp only [Option.some.injEq] at e; omega)).trans ((World.frozen?_alloc_past _ _ _ (by show w1.heap.size < _; omega)).trans z4_C_1)
  have r5_C_2 : w5.cell? ⟨w1.heap.size, 2, none⟩ = some (.int .i64 72) := (World.grownBy.cell_far hg5 ⟨w1.heap.size, 2, none⟩ (by show w1.heap.size < _; first | omega | (simp; omega) | go_size) (fun e => by simp only [Option.some.injEq] at e; omega)).trans ((World.cell?_alloc_past _ _ _ (by show w1.heap.size < _; omega)).trans r4_C_2)
  have z5_C_2 : w5.frozen? ⟨w1.heap.size, 2, none⟩ = false := (World.grownBy.frozen_far hg5 ⟨w1.heap.size, 2, none⟩ (by show w1.heap.size < _; first | omega | (simp; omega) | go_size) (fun e => by simp only [Option.some.injEq] at e; omega)).trans ((World.frozen?_alloc_past _ _ _ (by show w1.heap.size < _; omega)).trans z4_C_2)
  have r5_C_3 : w5.cell? ⟨w1.heap.size, 3, none⟩ = some (.int .i64 72) := (World.grownBy.cell_far hg5 ⟨w1.heap.size, 3, none⟩ (by show w1.heap.size < _; first | omega | (simp; omega) | go_size) (fun e => by simp only [Option.some.injEq] at e; omega)).trans ((World.cell?_alloc_past _ _ _ (by show w1.heap.size < _; omega)).trans r4_C_3)
  have z5_C_3 : w5.frozen? ⟨w1.heap.size, 3, none⟩ = false := (World.grownBy.frozen_far hg5 ⟨w1.heap.size, 3, none⟩ (by show w1.heap.size < _; first | omega | (simp; omega) | go_size) (fun e => by simp only [Option.some.injEq] at e; omega)).trans ((World.frozen?_alloc_past _ _ _ (by show w1.heap.size < _; omega)).trans z4_C_3)
  have HG5 := Lib.hid (grown_trans HG4.out (grown_trans (World.grownBy_alloc w4 _ (some b)) hg5))
  have ym : 1 ≤ y ∧ y ≤ 1000 := by simp only [List.mem_cons, List.not_mem_nil, or_false] at hm5; omega
  clear hm5
  clear hC5 hg5 r4_A_0 z4_A_0 r4_A_1 z4_A_1 r4_A_2 z4_A_2 r4_A_3 z4_A_3 r4_C_0 z4_C_0 r4_C_1 z4_C_1 r4_C_2 z4_C_2 r4_C_3 z4_C_3
  have hgp := gcd_pos_of x y (by omega)
  go_wp2_with fail
  refine (diCommon_any x y (by omega) (by omega) _).mono ?_
  rintro e6 w6 ⟨rfl, hb6⟩
  obtain ⟨hc6, hf6⟩ := bcell hb6
  have hz6 := hb6.size
  have r6_A_0 : w6.cell? ⟨w.heap.size, 0, none⟩ = some (.int .i64 0) := (hc6 _ _ (by first | omega | go_size)).trans (r5_A_0)
  have z6_A_0 : w6.frozen? ⟨w.heap.size, 0, none⟩ = false := (hf6 _ _ (by first | omega | go_size)).trans (z5_A_0)
  have r6_A_1 : w6.cell? ⟨w.heap.size, 1, none⟩ = some (.int .i64 0) := (hc6 _ _ (by first | omega | go_size)).trans (r5_A_1)
  have z6_A_1 : w6.frozen? ⟨w.heap.size, 1, none⟩ = false := (hf6 _ _ (by first | omega | go_size)).trans (z5_A_1)
  have r6_A_2 : w6.cell? ⟨w.heap.size, 2, none⟩ = some (.int .i64 0) := (hc6 _ _ (by first | omega | go_size)).trans (r5_A_2)
  have z6_A_2 : w6.frozen? ⟨w.heap.size, 2, none⟩ = false := (hf6 _ _ (by first | omega | go_size)).trans (z5_A_2)
  have r6_A_3 : w6.cell? ⟨w.heap.size, 3, none⟩ = some (.int .i64 0) := (hc6 _ _ (by first | omega | go_size)).trans (r5_A_3)
  have z6_A_3 : w6.frozen? ⟨w.heap.size, 3, none⟩ = false := (hf6 _ _ (by first | omega | go_size)).trans (z5_A_3)
  have r6_C_0 : w6.cell? ⟨w1.heap.size, 0, none⟩ = some (.int .i64 p) := (hc6 _ _ (by first | omega | go_size)).trans (r5_C_0)
  have z6_C_0 : w6.frozen? ⟨w1.heap.size, 0, none⟩ = false := (hf6 _ _ (by first | omega | go_size)).trans (z5_C_0)
  have r6_C_1 : w6.cell? ⟨w1.heap.size, 1, none⟩ = some (.int .i64 q) := (hc6 _ _ (by first | omega | go_size)).trans (r5_C_1)
  have z6_C_1 : w6.frozen? ⟨w1.heap.size, 1, none⟩ = false := (hf6 _ _ (by first | omega | go_size)).trans (z5_C_1)
  have r6_C_2 : w6.cell? ⟨w1.heap.size, 2, none⟩ = some (.int .i64 72) := (hc6 _ _ (by first | omega | go_size)).trans (r5_C_2)
  have z6_C_2 : w6.frozen? ⟨w1.heap.size, 2, none⟩ = false := (hf6 _ _ (by first | omega | go_size)).trans (z5_C_2)
  have r6_C_3 : w6.cell? ⟨w1.heap.size, 3, none⟩ = some (.int .i64 72) := (hc6 _ _ (by first | omega | go_size)).trans (r5_C_3)
  have z6_C_3 : w6.frozen? ⟨w1.heap.size, 3, none⟩ = false := (hf6 _ _ (by first | omega | go_size)).trans (z5_C_3)
  have HC6 := Lib.hid (Cur.below HC5.out hb6)
  have HG6 := Lib.hid (grown_trans HG5.out (below_grown hb6 (some b)))
  clear hc6 hf6 hb6 r5_A_0 z5_A_0 r5_A_1 z5_A_1 r5_A_2 z5_A_2 r5_A_3 z5_A_3 r5_C_0 z5_C_0 r5_C_1 z5_C_1 r5_C_2 z5_C_2 r5_C_3 z5_C_3
  generalize gc x y = g at *
  have hne : ¬ g = 0 := by omega
  have hwX := q64 (n := x) (g := g) (by omega) (by omega) (by omega)
  have hwY := q64 (n := y) (g := g) (by omega) (by omega) (by omega)
  obtain ⟨X1, X2⟩ := ediv_bd (n := x) (g := g) (by omega) (by omega)
  obtain ⟨Y1, Y2⟩ := ediv_bd (n := y) (g := g) (by omega) (by omega)
  obtain ⟨X, hX⟩ : ∃ X, x / g = X := ⟨_, rfl⟩
  obtain ⟨Y, hY⟩ : ∃ Y, y / g = Y := ⟨_, rfl⟩
  rw [hX] at hwX X1 X2
  rw [hY] at hwY Y1 Y2
  go_wp2_with fail
  refine (pick_any L a n cp w0 b (T + 12) 16 (by omega) hO (by omega) _ (Cur.far HC6.out ((show Below w.heap.size w6 _ from by (repeat' (first | (with_reducible exact Below.refl _ _) | (with_reducible assumption) | (with_reducible refine Below.alloc ?_ ?_ _) | (with_reducible refine Below.drew ?_) | (with_reducible refine below_drewN ?_ _) | (with_reducible refine Below.setCell ?_ ?_ _) | (with_reducible refine below_call ?_ ?_ (by assumption)) | go_size))).mono (by omega)))).mono ?_
  rintro e7 w7 ⟨m, rfl, hm, hC7, hg7⟩
  have HC7 := Lib.hid hC7
  have hz7 := hg7.size
  try simp only [World.size_alloc, World.size_setCell, World.size_drew] at hz7
  have r7_A_0 : w7.cell? ⟨w.heap.size, 0, none⟩ = some (.int .i64 0) := (World.grownBy.cell_far hg7 ⟨w.heap.size, 0, none⟩ (by show w.heap.size < _; first | omega | (simp; omega) | go_size) (fun e => by simp only [Option.some.injEq] at e; omega)).trans (by go_simp)
  have z7_A_0 : w7.frozen? ⟨w.heap.size, 0, none⟩ = false := (World.grownBy.frozen_far hg7 ⟨w.heap.size, 0, none⟩ (by show w.heap.size < _; first | omega | (simp; omega) | go_size) (fun e => by simp only [Option.some.injEq] at e; omega)).trans (by go_simp)
  have r7_A_1 : w7.cell? ⟨w.heap.size, 1, none⟩ = some (.int .i64 0) := (World.grownBy.cell_far hg7 ⟨w.heap.size, 1, none⟩ (by show w.heap.size < _; first | omega | (simp; omega) | go_size) (fun e => by simp only [Option.some.injEq] at e; omega)).trans (by go_simp)
  have z7_A_1 : w7.frozen? ⟨w.heap.size, 1, none⟩ = false := (World.grownBy.frozen_far hg7 ⟨w.heap.size, 1, none⟩ (by show w.heap.size < _; first | omega | (simp; omega) | go_size) (fun e => by simp only [Option.some.injEq] at e; omega)).trans (by go_simp)
  have r7_A_2 : w7.cell? ⟨w.heap.size, 2, none⟩ = some (.int .i64 0) := (World.grownBy.cell_far hg7 ⟨w.heap.size, 2, none⟩ (by show w.heap.size < _; first | omega | (simp; omega) | go_size) (fun e => by simp only [Option.some.injEq] at e; omega)).trans (by go_simp)
  have z7_A_2 : w7.frozen? ⟨w.heap.size, 2, none⟩ = false := (World.grownBy.frozen_far hg7 ⟨w.heap.size, 2, none⟩ (by show w.heap.size < _; first | omega | (simp; omega) | go_size) (fun e => by simp only [Option.some.injEq] at e; omega)).trans (by go_simp)
  have r7_A_3 : w7.cell? ⟨w.heap.size, 3, none⟩ = some (.int .i64 0) := (World.grownBy.cell_far hg7 ⟨w.heap.size, 3, none⟩ (by show w.heap.size < _; first | omega | (simp; omega) | go_size) (fun e => by simp only [Option.some.injEq] at e; omega)).trans (by go_simp)
  have z7_A_3 : w7.frozen? ⟨w.heap.size, 3, none⟩ = false := (World.grownBy.frozen_far hg7 ⟨w.heap.size, 3, none⟩ (by show w.heap.size < _; first | omega | (simp; omega) | go_size) (fun e => by simp only [Option.some.injEq] at e; omega)).trans (by go_simp)
  have r7_C_0 : w7.cell? ⟨w1.heap.size, 0, none⟩ = some (.int .i64 p) := (World.grownBy.cell_far hg7 ⟨w1.heap.size, 0, none⟩ (by show w1.heap.size < _; first | omega | (simp; omega) | go_size) (fun e => by simp only [Option.some.injEq] at e; omega)).trans (by go_simp)
  have z7_C_0 : w7.frozen? ⟨w1.heap.size, 0, none⟩ = false := (World.grownBy.frozen_far hg7 ⟨w1.heap.size, 0, none⟩ (by show w1.heap.size < _; first | omega | (simp; omega) | go_size) (fun e => by simp only [Option.some.injEq] at e; omega)).trans (by go_simp)
  have r7_C_1 : w7.cell? ⟨w1.heap.size, 1, none⟩ = some (.int .i64 q) := (World.grownBy.cell_far hg7 ⟨w1.heap.size, 1, none⟩ (by show w1.heap.size < _; first | omega | (simp; omega) | go_size) (fun e => by simp only [Option.some.injEq] at e; omega)).trans (by go_simp)
  have z7_C_1 : w7.frozen? ⟨w1.heap.size, 1, none⟩ = false := (World.grownBy.frozen_far hg7 ⟨w1.heap.size, 1, none⟩ (by show w1.heap.size < _; first | omega | (simp; omega) | go_size) (fun e => by simp only [Option.some.injEq] at e; omega)).trans (by go_simp)
  have r7_C_2 : w7.cell? ⟨w1.heap.size, 2, none⟩ = some (.int .i64 X) := (World.grownBy.cell_far hg7 ⟨w1.heap.size, 2, none⟩ (by show w1.heap.size < _; first | omega | (simp; omega) | go_size) (fun e => by simp only [Option.some.injEq] at e; omega)).trans (by go_simp)
  have z7_C_2 : w7.frozen? ⟨w1.heap.size, 2, none⟩ = false := (World.grownBy.frozen_far hg7 ⟨w1.heap.size, 2, none⟩ (by show w1.heap.size < _; first | omega | (simp; omega) | go_size) (fun e => by simp only [Option.some.injEq] at e; omega)).trans (by go_simp)
  have r7_C_3 : w7.cell? ⟨w1.heap.size, 3, none⟩ = some (.int .i64 Y) := (World.grownBy.cell_far hg7 ⟨w1.heap.size, 3, none⟩ (by show w1.heap.size < _; first | omega | (simp; omega) | go_size) (fun e => by simp only [Option.some.injEq] at e; omega)).trans (by go_simp)
  have z7_C_3 : w7.frozen? ⟨w1.heap.size, 3, none⟩ = false := (World.grownBy.frozen_far hg7 ⟨w1.heap.size, 3, none⟩ (by show w1.heap.size < _; first | omega | (simp; omega) | go_size) (fun e => by simp only [Option.some.injEq] at e; omega)).trans (by go_simp)
  have HG7 := Lib.hid (grown_trans (grown_far HG6.out (by (repeat' (first | (with_reducible exact Below.refl _ _) | (with_reducible assumption) | (with_reducible refine Below.alloc ?_ ?_ _) | (with_reducible refine Below.drew ?_) | (with_reducible refine below_drewN ?_ _) | (with_reducible refine Below.setCell ?_ ?_ _) | (with_reducible refine below_call ?_ ?_ (by assumption)) | go_size)))) hg7)
  have ma : (0 : Int) ≤ (m : Int) := Int.natCast_nonneg _
  have mb : (m : Int) < 16 := by omega
  clear hC7 hg7 r6_A_0 z6_A_0 r6_A_1 z6_A_1 r6_A_2 z6_A_2 r6_A_3 z6_A_3 r6_C_0 z6_C_0 r6_C_1 z6_C_1 r6_C_2 z6_C_2 r6_C_3 z6_C_3
  by_cases h0 : m = 0
  · subst h0
    have hI8 := Lib.hid (iin_new w7 [(0 : Int), (-1 : Int), (1000 : Int), (1001 : Int), (4611686018427387904 : Int)] 3)
    have hl8 := Cur.lt HC7.out
    go_wp2_with fail
    refine (among_any L a n cp w0 b (T + 14) [(0 : Int), (-1 : Int), (1000 : Int), (1001 : Int), (4611686018427387904 : Int)] 5 rfl (by omega) w7.heap.size 0 5 hO (by omega) _ (Cur.alloc HC7.out _) hI8.out (by omega)).mono ?_
    rintro e8 w8 ⟨v, rfl, hm8, hC8, hg8⟩
    have HC8 := Lib.hid hC8
    have hz8 := hg8.size
    try simp only [World.size_alloc, World.size_setCell, World.size_drew] at hz8
    have r8_A_0 : w8.cell? ⟨w.heap.size, 0, none⟩ = some (.int .i64 0) := (World.grownBy.cell_far hg8 ⟨w.heap.size, 0, none⟩ (by show w.heap.size < _; first | omega | (simp; omega) | go_size) (fun e => by simp only [Option.some.injEq] at e; omega)).trans ((World.cell?_alloc_past _ _ _ (by show w.heap.size < _; omega)).trans r7_A_0)
    have z8_A_0 : w8.frozen? ⟨w.heap.size, 0, none⟩ = false := (World.grownBy.frozen_far hg8 ⟨w.heap.size, 0, none⟩ (by show w.heap.size < _; first | omega | (simp; omega) | go_size) (fun e => by simp only [Option.some.injEq] at e; omega)).trans ((World.frozen?_alloc_past _ _ _ (by show w.heap.size < _; omega)).trans z7_A_0)
    have r8_A_1 : w8.cell? ⟨w.heap.size, 1, none⟩ = some (.int .i64 0) := (World.grownBy.cell_far hg8 ⟨w.heap.size, 1, none⟩ (by show w.heap.size < _; first | omega | (simp; omega) | go_size) (fun e => by simp only [Option.some.injEq] at e; omega)).trans ((World.cell?_alloc_past _ _ _ (by show w.heap.size < _; omega)).trans r7_A_1)
    have z8_A_1 : w8.frozen? ⟨w.heap.size, 1, none⟩ = false := (World.grownBy.frozen_far hg8 ⟨w.heap.size, 1, none⟩ (by show w.heap.size < _; first | omega | (simp; omega) | go_size) (fun e => by simp only [Option.some.injEq] at e; omega)).trans ((World.frozen?_alloc_past _ _ _ (by show w.heap.size < _; omega)).trans z7_A_1)
    have r8_A_2 : w8.cell? ⟨w.heap.size, 2, none⟩ = some (.int .i64 0) := (World.grownBy.cell_far hg8 ⟨w.heap.size, 2, none⟩ (by show w.heap.size < _; first | omega | (simp; omega) | go_size) (fun e => by simp only [Option.some.injEq] at e; omega)).trans ((World.cell?_alloc_past _ _ _ (by show w.heap.size < _; omega)).trans r7_A_2)
    have z8_A_2 : w8.frozen? ⟨w.heap.size, 2, none⟩ = false := (World.grownBy.frozen_far hg8 ⟨w.heap.size, 2, none⟩ (by show w.heap.size < _; first | omega | (simp; omega) | go_size) (fun e => by simp only [Option.some.injEq] at e; omega)).trans ((World.frozen?_alloc_past _ _ _ (by show w.heap.size < _; omega)).trans z7_A_2)
    have r8_A_3 : w8.cell? ⟨w.heap.size, 3, none⟩ = some (.int .i64 0) := (World.grownBy.cell_far hg8 ⟨w.heap.size, 3, none⟩ (by show w.heap.size < _; first | omega | (simp; omega) | go_size) (fun e => by simp only [Option.some.injEq] at e; omega)).trans ((World.cell?_alloc_past _ _ _ (by show w.heap.size < _; omega)).trans r7_A_3)
    have z8_A_3 : w8.frozen? ⟨w.heap.size, 3, none⟩ = false := (World.grownBy.frozen_far hg8 ⟨w.heap.size, 3, none⟩ (by show w.heap.size < _; first | omega | (simp; omega) | go_size) (fun e => by simp only [Option.some.injEq] at e; omega)).trans ((World.frozen?_alloc_past _ _ _ (by show w.heap.size < _; omega)).trans z7_A_3)
    have r8_C_0 : w8.cell? ⟨w1.heap.size, 0, none⟩ = some (.int .i64 p) := (World.grownBy.cell_far hg8 ⟨w1.heap.size, 0, none⟩ (by show w1.heap.size < _; first | omega | (simp; omega) | go_size) (fun e => by simp only [Option.some.injEq] at e; omega)).trans ((World.cell?_alloc_past _ _ _ (by show w1.heap.size < _; omega)).trans r7_C_0)
    have z8_C_0 : w8.frozen? ⟨w1.heap.size, 0, none⟩ = false := (World.grownBy.frozen_far hg8 ⟨w1.heap.size, 0, none⟩ (by show w1.heap.size < _; first | omega | (simp; omega) | go_size) (fun e => by simp only [Option.some.injEq] at e; omega)).trans ((World.frozen?_alloc_past _ _ _ (by show w1.heap.size < _; omega)).trans z7_C_0)
    have r8_C_1 : w8.cell? ⟨w1.heap.size, 1, none⟩ = some (.int .i64 q) := (World.grownBy.cell_far hg8 ⟨w1.heap.size, 1, none⟩ (by show w1.heap.size < _; first | omega | (simp; omega) | go_size) (fun e => by simp only [Option.some.injEq] at e; omega)).trans ((World.cell?_alloc_past _ _ _ (by show w1.heap.size < _; omega)).trans r7_C_1)
    have z8_C_1 : w8.frozen? ⟨w1.heap.size, 1, none⟩ = false := (World.grownBy.frozen_far hg8 ⟨w1.heap.size, 1, none⟩ (by show w1.heap.size < _; first | omega | (simp; omega) | go_size) (fun e => by simp only [Option.some.injEq] at e; omega)).trans ((World.frozen?_alloc_past _ _ _ (by show w1.heap.size < _; omega)).trans z7_C_1)
    have r8_C_2 : w8.cell? ⟨w1.heap.size, 2, none⟩ = some (.int .i64 X) := (World.grownBy.cell_far hg8 ⟨w1.heap.size, 2, none⟩ (by show w1.heap.size < _; first | omega | (simp; omega) | go_size) (fun e => by simp only [Option.some.injEq] at e; omega)).trans ((World.cell?_alloc_past _ _ _ (by show w1.heap.size < _; omega)).trans r7_C_2)
    have z8_C_2 : w8.frozen? ⟨w1.heap.size, 2, none⟩ = false := (World.grownBy.frozen_far hg8 ⟨w1.heap.size, 2, none⟩ (by show w1.heap.size < _; first | omega | (simp; omega) | go_size) (fun e => by simp only [Option.some.injEq] at e; omega)).trans ((World.frozen?_alloc_past _ _ _ (by show w1.heap.size < _; omega)).trans z7_C_2)
    have r8_C_3 : w8.cell? ⟨w1.heap.size, 3, none⟩ = some (.int .i64 Y) := (World.grownBy.cell_far hg8 ⟨w1.heap.size, 3, none⟩ (by show w1.heap.size < _; first | omega | (simp; omega) | go_size) (fun e => by simp only [Option.some.injEq] at e; omega)).trans ((World.cell?_alloc_past _ _ _ (by show w1.heap.size < _; omega)).trans r7_C_3)
    have z8_C_3 : w8.frozen? ⟨w1.heap.size, 3, none⟩ = false := (World.grownBy.frozen_far hg8 ⟨w1.heap.size, 3, none⟩ (by show w1.heap.size < _; first | omega | (simp; omega) | go_size) (fun e => by simp only [Option.some.injEq] at e; omega)).trans ((World.frozen?_alloc_past _ _ _ (by show w1.heap.size < _; omega)).trans z7_C_3)
    have HG8 := Lib.hid (grown_trans HG7.out (grown_trans (World.grownBy_alloc w7 _ (some b)) hg8))
    have vm : -4611686018427387904 ≤ v ∧ v ≤ 4611686018427387904 := by simp only [List.mem_cons, List.not_mem_nil, or_false] at hm8; omega
    clear hm8
    clear hC8 hg8 r7_A_0 z7_A_0 r7_A_1 z7_A_1 r7_A_2 z7_A_2 r7_A_3 z7_A_3 r7_C_0 z7_C_0 r7_C_1 z7_C_1 r7_C_2 z7_C_2 r7_C_3 z7_C_3
    have s8_A : w.heap.size < w8.heap.size := by omega
    have s8_C : w1.heap.size < w8.heap.size := by omega
    go_wp2
    (refine bodyPost_ret (by simp [results, Try.results26, go_sem, *]; try rfl) rfl ?_)
    refine ⟨_, _, _, _, rfl, ⟨ip, iq, i64_small vm, i64_small (by omega)⟩, Cur.far (Cur.mono HC8.out (by omega)) ((show Below w.heap.size w8 _ from by (repeat' (first | (with_reducible exact Below.refl _ _) | (with_reducible assumption) | (with_reducible refine Below.alloc ?_ ?_ _) | (with_reducible refine Below.drew ?_) | (with_reducible refine below_drewN ?_ _) | (with_reducible refine Below.setCell ?_ ?_ _) | (with_reducible refine below_call ?_ ?_ (by assumption)) | go_size))).mono (by omega)), grown_far HG8.out (by (repeat' (first | (with_reducible exact Below.refl _ _) | (with_reducible assumption) | (with_reducible refine Below.alloc ?_ ?_ _) | (with_reducible refine Below.drew ?_) | (with_reducible refine below_drewN ?_ _) | (with_reducible refine Below.setCell ?_ ?_ _) | (with_reducible refine below_call ?_ ?_ (by assumption)) | go_size)))⟩
  by_cases h1 : m = 1
  · subst h1
    go_wp2_with fail
    refine (turn_any L a n cp w0 b (T + 14)  hO (by omega) _ HC7.out).mono ?_
    rintro e8 w8 ⟨p2, q2, rfl, ⟨ip2, iq2⟩, hC8, hg8⟩
    have HC8 := Lib.hid hC8
    have hz8 := hg8.size
    try simp only [World.size_alloc, World.size_setCell, World.size_drew] at hz8
    have r8_A_0 : w8.cell? ⟨w.heap.size, 0, none⟩ = some (.int .i64 0) := (World.grownBy.cell_far hg8 ⟨w.heap.size, 0, none⟩ (by show w.heap.size < _; first | omega | (simp; omega) | go_size) (fun e => by simp only [Option.some.injEq] at e; omega)).trans (r7_A_0)
    have z8_A_0 : w8.frozen? ⟨w.heap.size, 0, none⟩ = false := (World.grownBy.frozen_far hg8 ⟨w.heap.size, 0, none⟩ (by show w.heap.size < _; first | omega | (simp; omega) | go_size) (fun e => by simp only [Option.some.injEq] at e; omega)).trans (z7_A_0)
    have r8_A_1 : w8.cell? ⟨w.heap.size, 1, none⟩ = some (.int .i64 0) := (World.grownBy.cell_far hg8 ⟨w.heap.size, 1, none⟩ (by show w.heap.size < _; first | omega | (simp; omega) | go_size) (fun e => by simp only [Option.some.injEq] at e; omega)).trans (r7_A_1)
    have z8_A_1 : w8.frozen? ⟨w.heap.size, 1, none⟩ = false := (World.grownBy.frozen_far hg8 ⟨w.heap.size, 1, none⟩ (by show w.heap.size < _; first | omega | (simp; omega) | go_size) (fun e => by simp only [Option.some.injEq] at e; omega)).trans (z7_A_1)
    have r8_A_2 : w8.cell? ⟨w.heap.size, 2, none⟩ = some (.int .i64 0) := (World.grownBy.cell_far hg8 ⟨w.heap.size, 2, none⟩ (by show w.heap.size < _; first | omega | (simp; omega) | go_size) (fun e => by simp only [Option.some.injEq] at e; omega)).trans (r7_A_2)
    have z8_A_2 : w8.frozen? ⟨w.heap.size, 2, none⟩ = false := (World.grownBy.frozen_far hg8 ⟨w.heap.size, 2, none⟩ (by show w.heap.size < _; first | omega | (simp; omega) | go_size) (fun e => by simp only [Option.some.injEq] at e; omega)).trans (z7_A_2)
    have r8_A_3 : w8.cell? ⟨w.heap.size, 3, none⟩ = some (.int .i64 0) := (World.grownBy.cell_far hg8 ⟨w.heap.size, 3, none⟩ (by show w.heap.size < _; first | omega | (simp; omega) | go_size) (fun e => by simp only [Option.some.injEq] at e; omega)).trans (r7_A_3)
    have z8_A_3 : w8.frozen? ⟨w.heap.size, 3, none⟩ = false := (World.grownBy.frozen_far hg8 ⟨w.heap.size, 3, none⟩ (by show w.heap.size < _; first | omega | (simp; omega) | go_size) (fun e => by simp only [Option.some.injEq] at e; omega)).trans (z7_A_3)
    have r8_C_0 : w8.cell? ⟨w1.heap.size, 0, none⟩ = some (.int .i64 p) := (World.grownBy.cell_far hg8 ⟨w1.heap.size, 0, none⟩ (by show w1.heap.size < _; first | omega | (simp; omega) | go_size) (fun e => by simp only [Option.some.injEq] at e; omega)).trans (r7_C_0)
    have z8_C_0 : w8.frozen? ⟨w1.heap.size, 0, none⟩ = false := (World.grownBy.frozen_far hg8 ⟨w1.heap.size, 0, none⟩ (by show w1.heap.size < _; first | omega | (simp; omega) | go_size) (fun e => by simp only [Option.some.injEq] at e; omega)).trans (z7_C_0)
    have r8_C_1 : w8.cell? ⟨w1.heap.size, 1, none⟩ = some (.int .i64 q) := (World.grownBy.cell_far hg8 ⟨w1.heap.size, 1, none⟩ (by show w1.heap.size < _; first | omega | (simp; omega) | go_size) (fun e => by simp only [Option.some.injEq] at e; omega)).trans (r7_C_1)
    have z8_C_1 : w8.frozen? ⟨w1.heap.size, 1, none⟩ = false := (World.grownBy.frozen_far hg8 ⟨w1.heap.size, 1, none⟩ (by show w1.heap.size < _; first | omega | (simp; omega) | go_size) (fun e => by simp only [Option.some.injEq] at e; omega)).trans (z7_C_1)
    have r8_C_2 : w8.cell? ⟨w1.heap.size, 2, none⟩ = some (.int .i64 X) := (World.grownBy.cell_far hg8 ⟨w1.heap.size, 2, none⟩ (by show w1.heap.size < _; first | omega | (simp; omega) | go_size) (fun e => by simp only [Option.some.injEq] at e; omega)).trans (r7_C_2)
    have z8_C_2 : w8.frozen? ⟨w1.heap.size, 2, none⟩ = false := (World.grownBy.frozen_far hg8 ⟨w1.heap.size, 2, none⟩ (by show w1.heap.size < _; first | omega | (simp; omega) | go_size) (fun e => by simp only [Option.some.injEq] at e; omega)).trans (z7_C_2)
    have r8_C_3 : w8.cell? ⟨w1.heap.size, 3, none⟩ = some (.int .i64 Y) := (World.grownBy.cell_far hg8 ⟨w1.heap.size, 3, none⟩ (by show w1.heap.size < _; first | omega | (simp; omega) | go_size) (fun e => by simp only [Option.some.injEq] at e; omega)).trans (r7_C_3)
    have z8_C_3 : w8.frozen? ⟨w1.heap.size, 3, none⟩ = false := (World.grownBy.frozen_far hg8 ⟨w1.heap.size, 3, none⟩ (by show w1.heap.size < _; first | omega | (simp; omega) | go_size) (fun e => by simp only [Option.some.injEq] at e; omega)).trans (z7_C_3)
    have HG8 := Lib.hid (grown_trans HG7.out hg8)
    clear hC8 hg8 r7_A_0 z7_A_0 r7_A_1 z7_A_1 r7_A_2 z7_A_2 r7_A_3 z7_A_3 r7_C_0 z7_C_0 r7_C_1 z7_C_1 r7_C_2 z7_C_2 r7_C_3 z7_C_3
    have s8_A : w.heap.size < w8.heap.size := by omega
    have s8_C : w1.heap.size < w8.heap.size := by omega
    go_wp2
    (refine bodyPost_ret (by simp [results, Try.results26, go_sem, *]; try rfl) rfl ?_)
    refine ⟨_, _, _, _, rfl, ⟨ip2, iq2, i64_small (by omega), i64_small (by omega)⟩, Cur.far (Cur.mono HC8.out (by omega)) ((show Below w.heap.size w8 _ from by (repeat' (first | (with_reducible exact Below.refl _ _) | (with_reducible assumption) | (with_reducible refine Below.alloc ?_ ?_ _) | (with_reducible refine Below.drew ?_) | (with_reducible refine below_drewN ?_ _) | (with_reducible refine Below.setCell ?_ ?_ _) | (with_reducible refine below_call ?_ ?_ (by assumption)) | go_size))).mono (by omega)), grown_far HG8.out (by (repeat' (first | (with_reducible exact Below.refl _ _) | (with_reducible assumption) | (with_reducible refine Below.alloc ?_ ?_ _) | (with_reducible refine Below.drew ?_) | (with_reducible refine below_drewN ?_ _) | (with_reducible refine Below.setCell ?_ ?_ _) | (with_reducible refine below_call ?_ ?_ (by assumption)) | go_size)))⟩
  have m0 : ((m : Int) == 0) = false := by simp; omega
  have m1 : ((m : Int) == 1) = false := by simp; omega
  have s7_A : w.heap.size < w7.heap.size := by omega
  have s7_C : w1.heap.size < w7.heap.size := by omega
  go_wp2
  (refine bodyPost_ret (by simp [results, Try.results26, go_sem, *]; try rfl) rfl ?_)
  refine ⟨_, _, _, _, rfl, ⟨ip, iq, i64_small (by omega), i64_small (by omega)⟩, Cur.far (Cur.mono HC7.out (by omega)) ((show Below w.heap.size w7 _ from by (repeat' (first | (with_reducible exact Below.refl _ _) | (with_reducible assumption) | (with_reducible refine Below.alloc ?_ ?_ _) | (with_reducible refine Below.drew ?_) | (with_reducible refine below_drewN ?_ _) | (with_reducible refine Below.setCell ?_ ?_ _) | (with_reducible refine below_call ?_ ?_ (by assumption)) | go_size))).mono (by omega)), grown_far HG7.out (by (repeat' (first | (with_reducible exact Below.refl _ _) | (with_reducible assumption) | (with_reducible refine Below.alloc ?_ ?_ _) | (with_reducible refine Below.drew ?_) | (with_reducible refine below_drewN ?_ _) | (with_reducible refine Below.setCell ?_ ?_ _) | (with_reducible refine below_call ?_ ?_ (by assumption)) | go_size)))⟩
set_option maxHeartbeats 1600000 in
theorem DrawShownAfter_any (L : List Int) (a : Option Addr) (n cp : Nat) (hn : L.length = n) (hm : n ≤ 1048576) (w : World) (hB : BIn w a L) :
    Calls Try.prog 6 #[.slice a n cp] w fun e w' => ∃ p q x y r s, e = .returned (.tuple #[cv p q x y, tv r s]) ∧ ((I64 p ∧ I64 q ∧ I64 x ∧ I64 y) ∧ I64 r ∧ I64 s) ∧ Below w.heap.size w w' := by
  have hs : ((w.alloc (Obj.cells #[.int .i64 0, .int .i64 0, .int .i64 0, .int .i64 0] 27)).alloc (Obj.cells #[.int .i64 0, .int .i64 0] 28)).heap.size = w.heap.size + 1 + 1 := by simp
  have hO : CurOK L a n ((w.alloc (Obj.cells #[.int .i64 0, .int .i64 0, .int .i64 0, .int .i64 0] 27)).alloc (Obj.cells #[.int .i64 0, .int .i64 0] 28)) (w.heap.size + 1 + 1) := ⟨hn, by rw [hs]; exact Nat.le_refl _, hm, hB.below (by (repeat' (first | (with_reducible exact Below.refl _ _) | (with_reducible assumption) | (with_reducible refine Below.alloc ?_ ?_ _) | (with_reducible refine Below.drew ?_) | (with_reducible refine below_drewN ?_ _) | (with_reducible refine Below.setCell ?_ ?_ _) | (with_reducible refine below_call ?_ ?_ (by assumption)) | go_size)))⟩
  have h0 := Cur.start ((w.alloc (Obj.cells #[.int .i64 0, .int .i64 0, .int .i64 0, .int .i64 0] 27)).alloc (Obj.cells #[.int .i64 0, .int .i64 0] 28)) a n cp
  rw [hs] at h0
  have HC0 := Lib.hid h0
  clear hn hm hB h0 hs
  (go_enter Try.func6, Try.ntmps6)
  go_wp2_with fail
  refine (clock_any L a n cp ((w.alloc (Obj.cells #[.int .i64 0, .int .i64 0, .int .i64 0, .int .i64 0] 27)).alloc (Obj.cells #[.int .i64 0, .int .i64 0] 28)) (w.heap.size + 1 + 1) 0 hO (by omega) _ HC0.out).mono ?_
  rintro e1 w1 ⟨p, q, x, y, rfl, ⟨ip, iq, ix, iy⟩, hC1, hg1⟩
  have hz1 := hg1.size
  try simp only [World.size_alloc] at hz1
  have HC1 := Lib.hid hC1
  have r1_0_0 : w1.cell? ⟨w.heap.size, 0, none⟩ = some (.int .i64 0) := (World.grownBy.cell_far hg1 ⟨w.heap.size, 0, none⟩ (by first | (simp; done) | (simp; omega) | (show _ < _; simp only; omega)) (fun e => by simp only [Option.some.injEq] at e; omega)).trans (by go_simp)
  have z1_0_0 : w1.frozen? ⟨w.heap.size, 0, none⟩ = false := (World.grownBy.frozen_far hg1 ⟨w.heap.size, 0, none⟩ (by first | (simp; done) | (simp; omega) | (show _ < _; simp only; omega)) (fun e => by simp only [Option.some.injEq] at e; omega)).trans (by go_simp)
  have r1_0_1 : w1.cell? ⟨w.heap.size, 1, none⟩ = some (.int .i64 0) := (World.grownBy.cell_far hg1 ⟨w.heap.size, 1, none⟩ (by first | (simp; done) | (simp; omega) | (show _ < _; simp only; omega)) (fun e => by simp only [Option.some.injEq] at e; omega)).trans (by go_simp)
  have z1_0_1 : w1.frozen? ⟨w.heap.size, 1, none⟩ = false := (World.grownBy.frozen_far hg1 ⟨w.heap.size, 1, none⟩ (by first | (simp; done) | (simp; omega) | (show _ < _; simp only; omega)) (fun e => by simp only [Option.some.injEq] at e; omega)).trans (by go_simp)
  have r1_0_2 : w1.cell? ⟨w.heap.size, 2, none⟩ = some (.int .i64 0) := (World.grownBy.cell_far hg1 ⟨w.heap.size, 2, none⟩ (by first | (simp; done) | (simp; omega) | (show _ < _; simp only; omega)) (fun e => by simp only [Option.some.injEq] at e; omega)).trans (by go_simp)
  have z1_0_2 : w1.frozen? ⟨w.heap.size, 2, none⟩ = false := (World.grownBy.frozen_far hg1 ⟨w.heap.size, 2, none⟩ (by first | (simp; done) | (simp; omega) | (show _ < _; simp only; omega)) (fun e => by simp only [Option.some.injEq] at e; omega)).trans (by go_simp)
  have r1_0_3 : w1.cell? ⟨w.heap.size, 3, none⟩ = some (.int .i64 0) := (World.grownBy.cell_far hg1 ⟨w.heap.size, 3, none⟩ (by first | (simp; done) | (simp; omega) | (show _ < _; simp only; omega)) (fun e => by simp only [Option.some.injEq] at e; omega)).trans (by go_simp)
  have z1_0_3 : w1.frozen? ⟨w.heap.size, 3, none⟩ = false := (World.grownBy.frozen_far hg1 ⟨w.heap.size, 3, none⟩ (by first | (simp; done) | (simp; omega) | (show _ < _; simp only; omega)) (fun e => by simp only [Option.some.injEq] at e; omega)).trans (by go_simp)
  have r1_1_0 : w1.cell? ⟨w.heap.size + 1, 0, none⟩ = some (.int .i64 0) := (World.grownBy.cell_far hg1 ⟨w.heap.size + 1, 0, none⟩ (by first | (simp; done) | (simp; omega) | (show _ < _; simp only; omega)) (fun e => by simp only [Option.some.injEq] at e; omega)).trans (by go_simp)
  have z1_1_0 : w1.frozen? ⟨w.heap.size + 1, 0, none⟩ = false := (World.grownBy.frozen_far hg1 ⟨w.heap.size + 1, 0, none⟩ (by first | (simp; done) | (simp; omega) | (show _ < _; simp only; omega)) (fun e => by simp only [Option.some.injEq] at e; omega)).trans (by go_simp)
  have r1_1_1 : w1.cell? ⟨w.heap.size + 1, 1, none⟩ = some (.int .i64 0) := (World.grownBy.cell_far hg1 ⟨w.heap.size + 1, 1, none⟩ (by first | (simp; done) | (simp; omega) | (show _ < _; simp only; omega)) (fun e => by simp only [Option.some.injEq] at e; omega)).trans (by go_simp)
  have z1_1_1 : w1.frozen? ⟨w.heap.size + 1, 1, none⟩ = false := (World.grownBy.frozen_far hg1 ⟨w.heap.size + 1, 1, none⟩ (by first | (simp; done) | (simp; omega) | (show _ < _; simp only; omega)) (fun e => by simp only [Option.some.injEq] at e; omega)).trans (by go_simp)
  have hb1 := Cur.same hC1
  clear hC1 hg1
  go_wp2_with fail
  refine (span_any L a n cp ((w.alloc (Obj.cells #[.int .i64 0, .int .i64 0, .int .i64 0, .int .i64 0] 27)).alloc (Obj.cells #[.int .i64 0, .int .i64 0] 28)) (w.heap.size + 1 + 1) 22 hO (by omega) _ HC1.out).mono ?_
  rintro e2 w2 ⟨r, s, rfl, ⟨ir, is⟩, hC2, hg2⟩
  have hz2 := hg2.size
  try simp only [World.size_alloc] at hz2
  have HC2 := Lib.hid hC2
  have r2_0_0 : w2.cell? ⟨w.heap.size, 0, none⟩ = some (.int .i64 0) := (World.grownBy.cell_far hg2 ⟨w.heap.size, 0, none⟩ (by first | (simp; done) | (simp; omega) | (show _ < _; simp only; omega)) (fun e => by simp only [Option.some.injEq] at e; omega)).trans (r1_0_0)
  have z2_0_0 : w2.frozen? ⟨w.heap.size, 0, none⟩ = false := (World.grownBy.frozen_far hg2 ⟨w.heap.size, 0, none⟩ (by first | (simp; done) | (simp; omega) | (show _ < _; simp only; omega)) (fun e => by simp only [Option.some.injEq] at e; omega)).trans (z1_0_0)
  have r2_0_1 : w2.cell? ⟨w.heap.size, 1, none⟩ = some (.int .i64 0) := (World.grownBy.cell_far hg2 ⟨w.heap.size, 1, none⟩ (by first | (simp; done) | (simp; omega) | (show _ < _; simp only; omega)) (fun e => by simp only [Option.some.injEq] at e; omega)).trans (r1_0_1)
  have z2_0_1 : w2.frozen? ⟨w.heap.size, 1, none⟩ = false := (World.grownBy.frozen_far hg2 ⟨w.heap.size, 1, none⟩ (by first | (simp; done) | (simp; omega) | (show _ < _; simp only; omega)) (fun e => by simp only [Option.some.injEq] at e; omega)).trans (z1_0_1)
  have r2_0_2 : w2.cell? ⟨w.heap.size, 2, none⟩ = some (.int .i64 0) := (World.grownBy.cell_far hg2 ⟨w.heap.size, 2, none⟩ (by first | (simp; done) | (simp; omega) | (show _ < _; simp only; omega)) (fun e => by simp only [Option.some.injEq] at e; omega)).trans (r1_0_2)
  have z2_0_2 : w2.frozen? ⟨w.heap.size, 2, none⟩ = false := (World.grownBy.frozen_far hg2 ⟨w.heap.size, 2, none⟩ (by first | (simp; done) | (simp; omega) | (show _ < _; simp only; omega)) (fun e => by simp only [Option.some.injEq] at e; omega)).trans (z1_0_2)
  have r2_0_3 : w2.cell? ⟨w.heap.size, 3, none⟩ = some (.int .i64 0) := (World.grownBy.cell_far hg2 ⟨w.heap.size, 3, none⟩ (by first | (simp; done) | (simp; omega) | (show _ < _; simp only; omega)) (fun e => by simp only [Option.some.injEq] at e; omega)).trans (r1_0_3)
  have z2_0_3 : w2.frozen? ⟨w.heap.size, 3, none⟩ = false := (World.grownBy.frozen_far hg2 ⟨w.heap.size, 3, none⟩ (by first | (simp; done) | (simp; omega) | (show _ < _; simp only; omega)) (fun e => by simp only [Option.some.injEq] at e; omega)).trans (z1_0_3)
  have r2_1_0 : w2.cell? ⟨w.heap.size + 1, 0, none⟩ = some (.int .i64 0) := (World.grownBy.cell_far hg2 ⟨w.heap.size + 1, 0, none⟩ (by first | (simp; done) | (simp; omega) | (show _ < _; simp only; omega)) (fun e => by simp only [Option.some.injEq] at e; omega)).trans (r1_1_0)
  have z2_1_0 : w2.frozen? ⟨w.heap.size + 1, 0, none⟩ = false := (World.grownBy.frozen_far hg2 ⟨w.heap.size + 1, 0, none⟩ (by first | (simp; done) | (simp; omega) | (show _ < _; simp only; omega)) (fun e => by simp only [Option.some.injEq] at e; omega)).trans (z1_1_0)
  have r2_1_1 : w2.cell? ⟨w.heap.size + 1, 1, none⟩ = some (.int .i64 0) := (World.grownBy.cell_far hg2 ⟨w.heap.size + 1, 1, none⟩ (by first | (simp; done) | (simp; omega) | (show _ < _; simp only; omega)) (fun e => by simp only [Option.some.injEq] at e; omega)).trans (r1_1_1)
  have z2_1_1 : w2.frozen? ⟨w.heap.size + 1, 1, none⟩ = false := (World.grownBy.frozen_far hg2 ⟨w.heap.size + 1, 1, none⟩ (by first | (simp; done) | (simp; omega) | (show _ < _; simp only; omega)) (fun e => by simp only [Option.some.injEq] at e; omega)).trans (z1_1_1)
  clear r1_0_0 z1_0_0 r1_0_1 z1_0_1 r1_0_2 z1_0_2 r1_0_3 z1_0_3 r1_1_0 z1_1_0 r1_1_1 z1_1_1
  have hb2 := Cur.same hC2
  clear hC2 hg2
  have hbw : Below w.heap.size w w2 := (show Below w.heap.size w ((w.alloc (Obj.cells #[.int .i64 0, .int .i64 0, .int .i64 0, .int .i64 0] 27)).alloc (Obj.cells #[.int .i64 0, .int .i64 0] 28)) from by (repeat' (first | (with_reducible exact Below.refl _ _) | (with_reducible assumption) | (with_reducible refine Below.alloc ?_ ?_ _) | (with_reducible refine Below.drew ?_) | (with_reducible refine below_drewN ?_ _) | (with_reducible refine Below.setCell ?_ ?_ _) | (with_reducible refine below_call ?_ ?_ (by assumption)) | go_size))).trans (hb2.mono (by omega))
  clear hb1 hb2
  have s0 : w.heap.size < w2.heap.size := by omega
  have s1 : w.heap.size + 1 < w2.heap.size := by omega
  go_wp2
  (refine bodyPost_ret (by simp [results, Try.results6, go_sem, *]; try rfl) rfl ?_)
  exact ⟨p, q, x, y, r, s, rfl, ⟨⟨ip, iq, ix, iy⟩, ir, is⟩, by (repeat' (first | (with_reducible exact Below.refl _ _) | (with_reducible assumption) | (with_reducible refine Below.alloc ?_ ?_ _) | (with_reducible refine Below.drew ?_) | (with_reducible refine below_drewN ?_ _) | (with_reducible refine Below.setCell ?_ ?_ _) | (with_reducible refine below_call ?_ ?_ (by assumption)) | go_size))⟩

set_option maxHeartbeats 1600000 in
theorem DrawIsClock_any (L : List Int) (a : Option Addr) (n cp : Nat) (hn : L.length = n) (hm : n ≤ 1048576) (w : World) (hB : BIn w a L) :
    Calls Try.prog 41 #[.slice a n cp] w fun e w' => ∃ p q x y, e = .returned (cv p q x y) ∧ (I64 p ∧ I64 q ∧ I64 x ∧ I64 y) ∧ Below w.heap.size w w' := by
  have hs : (w.alloc (Obj.cells #[.int .i64 0, .int .i64 0, .int .i64 0, .int .i64 0] 27)).heap.size = w.heap.size + 1 := by simp
  have hO : CurOK L a n (w.alloc (Obj.cells #[.int .i64 0, .int .i64 0, .int .i64 0, .int .i64 0] 27)) (w.heap.size + 1) := ⟨hn, by rw [hs]; exact Nat.le_refl _, hm, hB.below (by (repeat' (first | (with_reducible exact Below.refl _ _) | (with_reducible assumption) | (with_reducible refine Below.alloc ?_ ?_ _) | (with_reducible refine Below.drew ?_) | (with_reducible refine below_drewN ?_ _) | (with_reducible refine Below.setCell ?_ ?_ _) | (with_reducible refine below_call ?_ ?_ (by assumption)) | go_size)))⟩
  have h0 := Cur.start (w.alloc (Obj.cells #[.int .i64 0, .int .i64 0, .int .i64 0, .int .i64 0] 27)) a n cp
  rw [hs] at h0
  have HC0 := Lib.hid h0
  clear hn hm hB h0 hs
  (go_enter Try.func41, Try.ntmps41)
  go_wp2_with fail
  refine (clock_any L a n cp (w.alloc (Obj.cells #[.int .i64 0, .int .i64 0, .int .i64 0, .int .i64 0] 27)) (w.heap.size + 1) 0 hO (by omega) _ HC0.out).mono ?_
  rintro e1 w1 ⟨p, q, x, y, rfl, ⟨ip, iq, ix, iy⟩, hC1, hg1⟩
  have hz1 := hg1.size
  try simp only [World.size_alloc] at hz1
  have HC1 := Lib.hid hC1
  have r1_0_0 : w1.cell? ⟨w.heap.size, 0, none⟩ = some (.int .i64 0) := (World.grownBy.cell_far hg1 ⟨w.heap.size, 0, none⟩ (by first | (simp; done) | (simp; omega) | (show _ < _; simp only; omega)) (fun e => by simp only [Option.some.injEq] at e; omega)).trans (by go_simp)
  have z1_0_0 : w1.frozen? ⟨w.heap.size, 0, none⟩ = false := (World.grownBy.frozen_far hg1 ⟨w.heap.size, 0, none⟩ (by first | (simp; done) | (simp; omega) | (show _ < _; simp only; omega)) (fun e => by simp only [Option.some.injEq] at e; omega)).trans (by go_simp)
  have r1_0_1 : w1.cell? ⟨w.heap.size, 1, none⟩ = some (.int .i64 0) := (World.grownBy.cell_far hg1 ⟨w.heap.size, 1, none⟩ (by first | (simp; done) | (simp; omega) | (show _ < _; simp only; omega)) (fun e => by simp only [Option.some.injEq] at e; omega)).trans (by go_simp)
  have z1_0_1 : w1.frozen? ⟨w.heap.size, 1, none⟩ = false := (World.grownBy.frozen_far hg1 ⟨w.heap.size, 1, none⟩ (by first | (simp; done) | (simp; omega) | (show _ < _; simp only; omega)) (fun e => by simp only [Option.some.injEq] at e; omega)).trans (by go_simp)
  have r1_0_2 : w1.cell? ⟨w.heap.size, 2, none⟩ = some (.int .i64 0) := (World.grownBy.cell_far hg1 ⟨w.heap.size, 2, none⟩ (by first | (simp; done) | (simp; omega) | (show _ < _; simp only; omega)) (fun e => by simp only [Option.some.injEq] at e; omega)).trans (by go_simp)
  have z1_0_2 : w1.frozen? ⟨w.heap.size, 2, none⟩ = false := (World.grownBy.frozen_far hg1 ⟨w.heap.size, 2, none⟩ (by first | (simp; done) | (simp; omega) | (show _ < _; simp only; omega)) (fun e => by simp only [Option.some.injEq] at e; omega)).trans (by go_simp)
  have r1_0_3 : w1.cell? ⟨w.heap.size, 3, none⟩ = some (.int .i64 0) := (World.grownBy.cell_far hg1 ⟨w.heap.size, 3, none⟩ (by first | (simp; done) | (simp; omega) | (show _ < _; simp only; omega)) (fun e => by simp only [Option.some.injEq] at e; omega)).trans (by go_simp)
  have z1_0_3 : w1.frozen? ⟨w.heap.size, 3, none⟩ = false := (World.grownBy.frozen_far hg1 ⟨w.heap.size, 3, none⟩ (by first | (simp; done) | (simp; omega) | (show _ < _; simp only; omega)) (fun e => by simp only [Option.some.injEq] at e; omega)).trans (by go_simp)
  have hb1 := Cur.same hC1
  clear hC1 hg1
  have hbw : Below w.heap.size w w1 := (show Below w.heap.size w (w.alloc (Obj.cells #[.int .i64 0, .int .i64 0, .int .i64 0, .int .i64 0] 27)) from by (repeat' (first | (with_reducible exact Below.refl _ _) | (with_reducible assumption) | (with_reducible refine Below.alloc ?_ ?_ _) | (with_reducible refine Below.drew ?_) | (with_reducible refine below_drewN ?_ _) | (with_reducible refine Below.setCell ?_ ?_ _) | (with_reducible refine below_call ?_ ?_ (by assumption)) | go_size))).trans (hb1.mono (by omega))
  clear hb1
  have s0 : w.heap.size < w1.heap.size := by omega
  go_wp2
  (refine bodyPost_ret (by simp [results, Try.results41, go_sem, *]; try rfl) rfl ?_)
  exact ⟨p, q, x, y, rfl, ⟨ip, iq, ix, iy⟩, by (repeat' (first | (with_reducible exact Below.refl _ _) | (with_reducible assumption) | (with_reducible refine Below.alloc ?_ ?_ _) | (with_reducible refine Below.drew ?_) | (with_reducible refine below_drewN ?_ _) | (with_reducible refine Below.setCell ?_ ?_ _) | (with_reducible refine below_call ?_ ?_ (by assumption)) | go_size))⟩

set_option maxHeartbeats 1600000 in
theorem DrawFirstRight_any (L : List Int) (a : Option Addr) (n cp : Nat) (hn : L.length = n) (hm : n ≤ 1048576) (w : World) (hB : BIn w a L) :
    Calls Try.prog 15 #[.slice a n cp] w fun e w' => ∃ p q x y, e = .returned (cv p q x y) ∧ (I64 p ∧ I64 q ∧ I64 x ∧ I64 y) ∧ Below w.heap.size w w' := by
  have HB := Lib.hid hB
  clear hB
  (go_enter Try.func15, Try.ntmps15)
  go_wp2_with fail
  refine (DrawIsClock_any L a n cp hn hm _ (HB.out.below (by (repeat' (first | (with_reducible exact Below.refl _ _) | (with_reducible assumption) | (with_reducible refine Below.alloc ?_ ?_ _) | (with_reducible refine Below.drew ?_) | (with_reducible refine below_drewN ?_ _) | (with_reducible refine Below.setCell ?_ ?_ _) | (with_reducible refine below_call ?_ ?_ (by assumption)) | go_size))))).mono ?_
  rintro e1 w1 ⟨p, q, x, y, rfl, ⟨ip, iq, ix, iy⟩, hb1⟩
  obtain ⟨hc1, hf1⟩ := bcell hb1
  have hz1 := hb1.size
  simp only [World.size_alloc] at hz1
  have r0 : w1.cell? ⟨w.heap.size, 0, none⟩ = some (.int .i64 0) := (hc1 _ _ (by first | (simp; done) | (simp; omega) | go_size)).trans (by go_simp)
  have z0 : w1.frozen? ⟨w.heap.size, 0, none⟩ = false := (hf1 _ _ (by first | (simp; done) | (simp; omega) | go_size)).trans (by go_simp)
  have r1 : w1.cell? ⟨w.heap.size, 1, none⟩ = some (.int .i64 0) := (hc1 _ _ (by first | (simp; done) | (simp; omega) | go_size)).trans (by go_simp)
  have z1 : w1.frozen? ⟨w.heap.size, 1, none⟩ = false := (hf1 _ _ (by first | (simp; done) | (simp; omega) | go_size)).trans (by go_simp)
  have r2 : w1.cell? ⟨w.heap.size, 2, none⟩ = some (.int .i64 0) := (hc1 _ _ (by first | (simp; done) | (simp; omega) | go_size)).trans (by go_simp)
  have z2 : w1.frozen? ⟨w.heap.size, 2, none⟩ = false := (hf1 _ _ (by first | (simp; done) | (simp; omega) | go_size)).trans (by go_simp)
  have r3 : w1.cell? ⟨w.heap.size, 3, none⟩ = some (.int .i64 0) := (hc1 _ _ (by first | (simp; done) | (simp; omega) | go_size)).trans (by go_simp)
  have z3 : w1.frozen? ⟨w.heap.size, 3, none⟩ = false := (hf1 _ _ (by first | (simp; done) | (simp; omega) | go_size)).trans (by go_simp)
  have hbw : Below w.heap.size w w1 := (show Below w.heap.size w (w.alloc (Obj.cells #[.int .i64 0, .int .i64 0, .int .i64 0, .int .i64 0] 27)) from by (repeat' (first | (with_reducible exact Below.refl _ _) | (with_reducible assumption) | (with_reducible refine Below.alloc ?_ ?_ _) | (with_reducible refine Below.drew ?_) | (with_reducible refine below_drewN ?_ _) | (with_reducible refine Below.setCell ?_ ?_ _) | (with_reducible refine below_call ?_ ?_ (by assumption)) | go_size))).trans (hb1.mono (by simp))
  clear hb1 hc1 hf1
  have s0 : w.heap.size < w1.heap.size := by omega
  go_wp2
  (refine bodyPost_ret (by simp [results, Try.results15, go_sem, *]; try rfl) rfl ?_)
  exact ⟨p, q, x, y, rfl, ⟨ip, iq, ix, iy⟩, by (repeat' (first | (with_reducible exact Below.refl _ _) | (with_reducible assumption) | (with_reducible refine Below.alloc ?_ ?_ _) | (with_reducible refine Below.drew ?_) | (with_reducible refine below_drewN ?_ _) | (with_reducible refine Below.setCell ?_ ?_ _) | (with_reducible refine below_call ?_ ?_ (by assumption)) | go_size))⟩

set_option maxHeartbeats 1600000 in
theorem DrawFirstShown_any (L : List Int) (a : Option Addr) (n cp : Nat) (hn : L.length = n) (hm : n ≤ 1048576) (w : World) (hB : BIn w a L) :
    Calls Try.prog 23 #[.slice a n cp] w fun e w' => ∃ p q x y r s, e = .returned (.tuple #[cv p q x y, tv r s]) ∧ ((I64 p ∧ I64 q ∧ I64 x ∧ I64 y) ∧ I64 r ∧ I64 s) ∧ Below w.heap.size w w' := by
  have hs : ((w.alloc (Obj.cells #[.int .i64 0, .int .i64 0, .int .i64 0, .int .i64 0] 27)).alloc (Obj.cells #[.int .i64 0, .int .i64 0] 25)).heap.size = w.heap.size + 1 + 1 := by simp
  have hO : CurOK L a n ((w.alloc (Obj.cells #[.int .i64 0, .int .i64 0, .int .i64 0, .int .i64 0] 27)).alloc (Obj.cells #[.int .i64 0, .int .i64 0] 25)) (w.heap.size + 1 + 1) := ⟨hn, by rw [hs]; exact Nat.le_refl _, hm, hB.below (by (repeat' (first | (with_reducible exact Below.refl _ _) | (with_reducible assumption) | (with_reducible refine Below.alloc ?_ ?_ _) | (with_reducible refine Below.drew ?_) | (with_reducible refine below_drewN ?_ _) | (with_reducible refine Below.setCell ?_ ?_ _) | (with_reducible refine below_call ?_ ?_ (by assumption)) | go_size)))⟩
  have h0 := Cur.start ((w.alloc (Obj.cells #[.int .i64 0, .int .i64 0, .int .i64 0, .int .i64 0] 27)).alloc (Obj.cells #[.int .i64 0, .int .i64 0] 25)) a n cp
  rw [hs] at h0
  have HC0 := Lib.hid h0
  clear hn hm hB h0 hs
  (go_enter Try.func23, Try.ntmps23)
  go_wp2_with fail
  refine (clock_any L a n cp ((w.alloc (Obj.cells #[.int .i64 0, .int .i64 0, .int .i64 0, .int .i64 0] 27)).alloc (Obj.cells #[.int .i64 0, .int .i64 0] 25)) (w.heap.size + 1 + 1) 0 hO (by omega) _ HC0.out).mono ?_
  rintro e1 w1 ⟨p, q, x, y, rfl, ⟨ip, iq, ix, iy⟩, hC1, hg1⟩
  have hz1 := hg1.size
  try simp only [World.size_alloc] at hz1
  have HC1 := Lib.hid hC1
  have r1_0_0 : w1.cell? ⟨w.heap.size, 0, none⟩ = some (.int .i64 0) := (World.grownBy.cell_far hg1 ⟨w.heap.size, 0, none⟩ (by first | (simp; done) | (simp; omega) | (show _ < _; simp only; omega)) (fun e => by simp only [Option.some.injEq] at e; omega)).trans (by go_simp)
  have z1_0_0 : w1.frozen? ⟨w.heap.size, 0, none⟩ = false := (World.grownBy.frozen_far hg1 ⟨w.heap.size, 0, none⟩ (by first | (simp; done) | (simp; omega) | (show _ < _; simp only; omega)) (fun e => by simp only [Option.some.injEq] at e; omega)).trans (by go_simp)
  have r1_0_1 : w1.cell? ⟨w.heap.size, 1, none⟩ = some (.int .i64 0) := (World.grownBy.cell_far hg1 ⟨w.heap.size, 1, none⟩ (by first | (simp; done) | (simp; omega) | (show _ < _; simp only; omega)) (fun e => by simp only [Option.some.injEq] at e; omega)).trans (by go_simp)
  have z1_0_1 : w1.frozen? ⟨w.heap.size, 1, none⟩ = false := (World.grownBy.frozen_far hg1 ⟨w.heap.size, 1, none⟩ (by first | (simp; done) | (simp; omega) | (show _ < _; simp only; omega)) (fun e => by simp only [Option.some.injEq] at e; omega)).trans (by go_simp)
  have r1_0_2 : w1.cell? ⟨w.heap.size, 2, none⟩ = some (.int .i64 0) := (World.grownBy.cell_far hg1 ⟨w.heap.size, 2, none⟩ (by first | (simp; done) | (simp; omega) | (show _ < _; simp only; omega)) (fun e => by simp only [Option.some.injEq] at e; omega)).trans (by go_simp)
  have z1_0_2 : w1.frozen? ⟨w.heap.size, 2, none⟩ = false := (World.grownBy.frozen_far hg1 ⟨w.heap.size, 2, none⟩ (by first | (simp; done) | (simp; omega) | (show _ < _; simp only; omega)) (fun e => by simp only [Option.some.injEq] at e; omega)).trans (by go_simp)
  have r1_0_3 : w1.cell? ⟨w.heap.size, 3, none⟩ = some (.int .i64 0) := (World.grownBy.cell_far hg1 ⟨w.heap.size, 3, none⟩ (by first | (simp; done) | (simp; omega) | (show _ < _; simp only; omega)) (fun e => by simp only [Option.some.injEq] at e; omega)).trans (by go_simp)
  have z1_0_3 : w1.frozen? ⟨w.heap.size, 3, none⟩ = false := (World.grownBy.frozen_far hg1 ⟨w.heap.size, 3, none⟩ (by first | (simp; done) | (simp; omega) | (show _ < _; simp only; omega)) (fun e => by simp only [Option.some.injEq] at e; omega)).trans (by go_simp)
  have r1_1_0 : w1.cell? ⟨w.heap.size + 1, 0, none⟩ = some (.int .i64 0) := (World.grownBy.cell_far hg1 ⟨w.heap.size + 1, 0, none⟩ (by first | (simp; done) | (simp; omega) | (show _ < _; simp only; omega)) (fun e => by simp only [Option.some.injEq] at e; omega)).trans (by go_simp)
  have z1_1_0 : w1.frozen? ⟨w.heap.size + 1, 0, none⟩ = false := (World.grownBy.frozen_far hg1 ⟨w.heap.size + 1, 0, none⟩ (by first | (simp; done) | (simp; omega) | (show _ < _; simp only; omega)) (fun e => by simp only [Option.some.injEq] at e; omega)).trans (by go_simp)
  have r1_1_1 : w1.cell? ⟨w.heap.size + 1, 1, none⟩ = some (.int .i64 0) := (World.grownBy.cell_far hg1 ⟨w.heap.size + 1, 1, none⟩ (by first | (simp; done) | (simp; omega) | (show _ < _; simp only; omega)) (fun e => by simp only [Option.some.injEq] at e; omega)).trans (by go_simp)
  have z1_1_1 : w1.frozen? ⟨w.heap.size + 1, 1, none⟩ = false := (World.grownBy.frozen_far hg1 ⟨w.heap.size + 1, 1, none⟩ (by first | (simp; done) | (simp; omega) | (show _ < _; simp only; omega)) (fun e => by simp only [Option.some.injEq] at e; omega)).trans (by go_simp)
  have hb1 := Cur.same hC1
  clear hC1 hg1
  go_wp2_with fail
  refine (turn_any L a n cp ((w.alloc (Obj.cells #[.int .i64 0, .int .i64 0, .int .i64 0, .int .i64 0] 27)).alloc (Obj.cells #[.int .i64 0, .int .i64 0] 25)) (w.heap.size + 1 + 1) 22 hO (by omega) _ HC1.out).mono ?_
  rintro e2 w2 ⟨r, s, rfl, ⟨ir, is⟩, hC2, hg2⟩
  have hz2 := hg2.size
  try simp only [World.size_alloc] at hz2
  have HC2 := Lib.hid hC2
  have r2_0_0 : w2.cell? ⟨w.heap.size, 0, none⟩ = some (.int .i64 0) := (World.grownBy.cell_far hg2 ⟨w.heap.size, 0, none⟩ (by first | (simp; done) | (simp; omega) | (show _ < _; simp only; omega)) (fun e => by simp only [Option.some.injEq] at e; omega)).trans (r1_0_0)
  have z2_0_0 : w2.frozen? ⟨w.heap.size, 0, none⟩ = false := (World.grownBy.frozen_far hg2 ⟨w.heap.size, 0, none⟩ (by first | (simp; done) | (simp; omega) | (show _ < _; simp only; omega)) (fun e => by simp only [Option.some.injEq] at e; omega)).trans (z1_0_0)
  have r2_0_1 : w2.cell? ⟨w.heap.size, 1, none⟩ = some (.int .i64 0) := (World.grownBy.cell_far hg2 ⟨w.heap.size, 1, none⟩ (by first | (simp; done) | (simp; omega) | (show _ < _; simp only; omega)) (fun e => by simp only [Option.some.injEq] at e; omega)).trans (r1_0_1)
  have z2_0_1 : w2.frozen? ⟨w.heap.size, 1, none⟩ = false := (World.grownBy.frozen_far hg2 ⟨w.heap.size, 1, none⟩ (by first | (simp; done) | (simp; omega) | (show _ < _; simp only; omega)) (fun e => by simp only [Option.some.injEq] at e; omega)).trans (z1_0_1)
  have r2_0_2 : w2.cell? ⟨w.heap.size, 2, none⟩ = some (.int .i64 0) := (World.grownBy.cell_far hg2 ⟨w.heap.size, 2, none⟩ (by first | (simp; done) | (simp; omega) | (show _ < _; simp only; omega)) (fun e => by simp only [Option.some.injEq] at e; omega)).trans (r1_0_2)
  have z2_0_2 : w2.frozen? ⟨w.heap.size, 2, none⟩ = false := (World.grownBy.frozen_far hg2 ⟨w.heap.size, 2, none⟩ (by first | (simp; done) | (simp; omega) | (show _ < _; simp only; omega)) (fun e => by simp only [Option.some.injEq] at e; omega)).trans (z1_0_2)
  have r2_0_3 : w2.cell? ⟨w.heap.size, 3, none⟩ = some (.int .i64 0) := (World.grownBy.cell_far hg2 ⟨w.heap.size, 3, none⟩ (by first | (simp; done) | (simp; omega) | (show _ < _; simp only; omega)) (fun e => by simp only [Option.some.injEq] at e; omega)).trans (r1_0_3)
  have z2_0_3 : w2.frozen? ⟨w.heap.size, 3, none⟩ = false := (World.grownBy.frozen_far hg2 ⟨w.heap.size, 3, none⟩ (by first | (simp; done) | (simp; omega) | (show _ < _; simp only; omega)) (fun e => by simp only [Option.some.injEq] at e; omega)).trans (z1_0_3)
  have r2_1_0 : w2.cell? ⟨w.heap.size + 1, 0, none⟩ = some (.int .i64 0) := (World.grownBy.cell_far hg2 ⟨w.heap.size + 1, 0, none⟩ (by first | (simp; done) | (simp; omega) | (show _ < _; simp only; omega)) (fun e => by simp only [Option.some.injEq] at e; omega)).trans (r1_1_0)
  have z2_1_0 : w2.frozen? ⟨w.heap.size + 1, 0, none⟩ = false := (World.grownBy.frozen_far hg2 ⟨w.heap.size + 1, 0, none⟩ (by first | (simp; done) | (simp; omega) | (show _ < _; simp only; omega)) (fun e => by simp only [Option.some.injEq] at e; omega)).trans (z1_1_0)
  have r2_1_1 : w2.cell? ⟨w.heap.size + 1, 1, none⟩ = some (.int .i64 0) := (World.grownBy.cell_far hg2 ⟨w.heap.size + 1, 1, none⟩ (by first | (simp; done) | (simp; omega) | (show _ < _; simp only; omega)) (fun e => by simp only [Option.some.injEq] at e; omega)).trans (r1_1_1)
  have z2_1_1 : w2.frozen? ⟨w.heap.size + 1, 1, none⟩ = false := (World.grownBy.frozen_far hg2 ⟨w.heap.size + 1, 1, none⟩ (by first | (simp; done) | (simp; omega) | (show _ < _; simp only; omega)) (fun e => by simp only [Option.some.injEq] at e; omega)).trans (z1_1_1)
  clear r1_0_0 z1_0_0 r1_0_1 z1_0_1 r1_0_2 z1_0_2 r1_0_3 z1_0_3 r1_1_0 z1_1_0 r1_1_1 z1_1_1
  have hb2 := Cur.same hC2
  clear hC2 hg2
  have hbw : Below w.heap.size w w2 := (show Below w.heap.size w ((w.alloc (Obj.cells #[.int .i64 0, .int .i64 0, .int .i64 0, .int .i64 0] 27)).alloc (Obj.cells #[.int .i64 0, .int .i64 0] 25)) from by (repeat' (first | (with_reducible exact Below.refl _ _) | (with_reducible assumption) | (with_reducible refine Below.alloc ?_ ?_ _) | (with_reducible refine Below.drew ?_) | (with_reducible refine below_drewN ?_ _) | (with_reducible refine Below.setCell ?_ ?_ _) | (with_reducible refine below_call ?_ ?_ (by assumption)) | go_size))).trans (hb2.mono (by omega))
  clear hb1 hb2
  have s0 : w.heap.size < w2.heap.size := by omega
  have s1 : w.heap.size + 1 < w2.heap.size := by omega
  go_wp2
  (refine bodyPost_ret (by simp [results, Try.results23, go_sem, *]; try rfl) rfl ?_)
  exact ⟨p, q, x, y, r, s, rfl, ⟨⟨ip, iq, ix, iy⟩, ir, is⟩, by (repeat' (first | (with_reducible exact Below.refl _ _) | (with_reducible assumption) | (with_reducible refine Below.alloc ?_ ?_ _) | (with_reducible refine Below.drew ?_) | (with_reducible refine below_drewN ?_ _) | (with_reducible refine Below.setCell ?_ ?_ _) | (with_reducible refine below_call ?_ ?_ (by assumption)) | go_size))⟩

end Go.Proofs.Ythgghbehcammmaa
