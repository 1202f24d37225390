/- What the laws of chapter 1 draw: turns. -/
import Derived.Test.YtcfiaacpofpioaaSCur2
import Derived.Test.YtcfiaacpofpioaaRowI
import Derived.Test.YtcfiaacpofpioaaDial2
import Derived.Test.YtcfiaacpofpioaaTaE
set_option linter.unusedSimpArgs false
set_option linter.unusedVariables false
set_option maxRecDepth 100000
namespace Go.Proofs.Ytcfiaacpofpioaa
open Go.RowKit
attribute [local go_sem ↓] Go.wp_at_zero Go.wp_at_succ

theorem grown_far {w w' w2 : World} {row : Option Nat} (hg : w.grownBy w' row) (hb : Below w.heap.size w' w2) : w.grownBy w2 row :=
  ⟨hb.os.trans hg.os, hb.tape.trans hg.tape, hb.output.trans hg.output, Nat.le_trans hg.size hb.size, fun i hi hne => (hb.block i hi).trans (hg.block i hi hne)⟩
theorem Cur.far {w0 w w' : World} {b : Nat} {a : Option Addr} {n cp T : Nat} (h : Cur w0 w b a n cp T) (hb : Below (b + 1) w w') : Cur w0 w' b a n cp T := by
  obtain ⟨t, s, t1, s1, c0, c1, c2, ⟨f0, f1, f2⟩, hbel, hlt⟩ := h
  have hc := fun o => hb.cell (p := ⟨b, o, none⟩) (show b < b + 1 by omega)
  have hf := fun o => hb.frozen (p := ⟨b, o, none⟩) (show b < b + 1 by omega)
  have := hb.size
  exact ⟨t, s, t1, s1, (hc _).trans c0, (hc _).trans c1, (hc _).trans c2, ⟨(hf _).trans f0, (hf _).trans f1, (hf _).trans f2⟩, hbel.trans (hb.mono (by omega)), by omega⟩
theorem i64_small {p : Int} (h : -4611686018427387904 ≤ p ∧ p ≤ 4611686018427387904) : I64 p := ⟨by omega, by omega⟩
set_option maxHeartbeats 1600000 in
theorem sureTurn_any (L : List Int) (a : Option Addr) (n cp : Nat) (w0 : World) (b T : Nat) (hO : CurOK L a n w0 b) (hT : T ≤ 700000) (w : World) (hC : Cur w0 w b a n cp T) :
    Calls Try.prog 82 #[.pointer (some ⟨b, 0, none⟩)] w fun e w' => ∃ p q, e = .returned (tv p q) ∧ (I64 p ∧ I64 q) ∧ Cur w0 w' b a n cp (T + 4) ∧ w.grownBy w' (some b) := by
  have HC := Lib.hid hC
  clear hC
  have hlt := Cur.lt HC.out
  have hI0 := iin_new (w.alloc (Obj.cells #[.int .i64 0, .int .i64 0] 25)) [(1 : Int), (2 : Int), (3 : Int), (4 : Int), (6 : Int), (8 : Int), (11 : Int), (12 : Int), (13 : Int), (24 : Int), (60 : Int), (143 : Int), (720 : Int), (719 : Int), (7 : Int), (5 : Int)] 3
  have HI := Lib.hid hI0
  clear hI0
  (go_enter Try.func82, Try.ntmps82)
  go_wp2_with fail
  refine (pick_any L a n cp w0 b T 16 (by omega) hO (by omega) _ (Cur.alloc (Cur.alloc HC.out _) _)).mono ?_
  rintro e1 w1 ⟨j, rfl, hj, hC1, hg1⟩
  have HC1 := Lib.hid hC1
  have hz1 := hg1.size
  simp only [World.size_alloc] at hz1
  have r1_0 : w1.cell? ⟨w.heap.size, 0, none⟩ = some (.int .i64 0) := (World.grownBy.cell_far hg1 ⟨w.heap.size, 0, none⟩ (by show w.heap.size < _; first | omega | (simp; omega) | go_size) (fun e => by simp only [Option.some.injEq] at e; omega)).trans (by go_simp)
  have z1_0 : w1.frozen? ⟨w.heap.size, 0, none⟩ = false := (World.grownBy.frozen_far hg1 ⟨w.heap.size, 0, none⟩ (by show w.heap.size < _; first | omega | (simp; omega) | go_size) (fun e => by simp only [Option.some.injEq] at e; omega)).trans (by go_simp)
  have r1_1 : w1.cell? ⟨w.heap.size, 1, none⟩ = some (.int .i64 0) := (World.grownBy.cell_far hg1 ⟨w.heap.size, 1, none⟩ (by show w.heap.size < _; first | omega | (simp; omega) | go_size) (fun e => by simp only [Option.some.injEq] at e; omega)).trans (by go_simp)
  have z1_1 : w1.frozen? ⟨w.heap.size, 1, none⟩ = false := (World.grownBy.frozen_far hg1 ⟨w.heap.size, 1, none⟩ (by show w.heap.size < _; first | omega | (simp; omega) | go_size) (fun e => by simp only [Option.some.injEq] at e; omega)).trans (by go_simp)
  have HG1 := Lib.hid (grown_trans (World.grownBy_alloc w _ (some b)) (grown_trans (World.grownBy_alloc _ _ (some b)) hg1))
  obtain ⟨g', o', e0, e1, e2⟩ := (IIn.grown HI.out hg1 (fun g' o' e => by simp only [Option.some.injEq, Addr.mk.injEq, World.size_alloc] at e; omega)) j (by simp; omega)
  simp only [Option.some.injEq, Addr.mk.injEq, World.size_alloc] at e0
  obtain ⟨rfl, rfl, -⟩ := e0
  have hx : 1 ≤ ([(1 : Int), (2 : Int), (3 : Int), (4 : Int), (6 : Int), (8 : Int), (11 : Int), (12 : Int), (13 : Int), (24 : Int), (60 : Int), (143 : Int), (720 : Int), (719 : Int), (7 : Int), (5 : Int)] : List Int).getD j 0 ∧ ([(1 : Int), (2 : Int), (3 : Int), (4 : Int), (6 : Int), (8 : Int), (11 : Int), (12 : Int), (13 : Int), (24 : Int), (60 : Int), (143 : Int), (720 : Int), (719 : Int), (7 : Int), (5 : Int)] : List Int).getD j 0 ≤ 720 := by
    have hj2 : j < 16 := by omega
    have hd : ∀ i : Fin 16, 1 ≤ ([(1 : Int), (2 : Int), (3 : Int), (4 : Int), (6 : Int), (8 : Int), (11 : Int), (12 : Int), (13 : Int), (24 : Int), (60 : Int), (143 : Int), (720 : Int), (719 : Int), (7 : Int), (5 : Int)] : List Int).getD i.val 0 ∧ ([(1 : Int), (2 : Int), (3 : Int), (4 : Int), (6 : Int), (8 : Int), (11 : Int), (12 : Int), (13 : Int), (24 : Int), (60 : Int), (143 : Int), (720 : Int), (719 : Int), (7 : Int), (5 : Int)] : List Int).getD i.val 0 ≤ 720 := by decide
    exact hd ⟨j, hj2⟩
  have i0 : (0 : Int) ≤ (j : Int) := Int.natCast_nonneg _
  have i1 : (j : Int) < 16 := by omega
  clear hC1 hg1 hj
  generalize ([(1 : Int), (2 : Int), (3 : Int), (4 : Int), (6 : Int), (8 : Int), (11 : Int), (12 : Int), (13 : Int), (24 : Int), (60 : Int), (143 : Int), (720 : Int), (719 : Int), (7 : Int), (5 : Int)] : List Int).getD j 0 = x at *
  obtain ⟨x1, x2⟩ := hx
  have e5 : w1.cell? ⟨w.heap.size + 1, j, none⟩ = some (.int .i64 x) := by simpa using e2
  go_wp2_with fail
  refine (pick_any L a n cp w0 b (T + 2) x (by omega) hO (by omega) _ HC1.out).mono ?_
  rintro e3 w2 ⟨k, rfl, hk, hC2, hg2⟩
  have HC2 := Lib.hid hC2
  have hz2 := hg2.size
  have r2_0 : w2.cell? ⟨w.heap.size, 0, none⟩ = some (.int .i64 0) := (World.grownBy.cell_far hg2 ⟨w.heap.size, 0, none⟩ (by show w.heap.size < _; first | omega | (simp; omega) | go_size) (fun e => by simp only [Option.some.injEq] at e; omega)).trans (r1_0)
  have z2_0 : w2.frozen? ⟨w.heap.size, 0, none⟩ = false := (World.grownBy.frozen_far hg2 ⟨w.heap.size, 0, none⟩ (by show w.heap.size < _; first | omega | (simp; omega) | go_size) (fun e => by simp only [Option.some.injEq] at e; omega)).trans (z1_0)
  have r2_1 : w2.cell? ⟨w.heap.size, 1, none⟩ = some (.int .i64 0) := (World.grownBy.cell_far hg2 ⟨w.heap.size, 1, none⟩ (by show w.heap.size < _; first | omega | (simp; omega) | go_size) (fun e => by simp only [Option.some.injEq] at e; omega)).trans (r1_1)
  have z2_1 : w2.frozen? ⟨w.heap.size, 1, none⟩ = false := (World.grownBy.frozen_far hg2 ⟨w.heap.size, 1, none⟩ (by show w.heap.size < _; first | omega | (simp; omega) | go_size) (fun e => by simp only [Option.some.injEq] at e; omega)).trans (z1_1)
  have HG2 := Lib.hid (grown_trans HG1.out hg2)
  have k0 : (0 : Int) ≤ (k : Int) := Int.natCast_nonneg _
  have HK := Lib.hid (low_fits k x x1 (by omega))
  have hb := low_bd k x x1
  have hl := low_lt k x x1
  clear hC2 hg2 r1_0 r1_1 z1_0 z1_1 e2
  go_wp2_with fail
  refine (diMake_any k x x1 (by omega) _).mono ?_
  rw [HK.out]
  rintro e4 w3 ⟨rfl, hb3⟩
  obtain ⟨hc3, hf3⟩ := bcell hb3
  have hz3 := hb3.size
  have r3_0 : w3.cell? ⟨w.heap.size, 0, none⟩ = some (.int .i64 0) := (hc3 _ _ (by first | omega | go_size)).trans (r2_0)
  have z3_0 : w3.frozen? ⟨w.heap.size, 0, none⟩ = false := (hf3 _ _ (by first | omega | go_size)).trans (z2_0)
  have r3_1 : w3.cell? ⟨w.heap.size, 1, none⟩ = some (.int .i64 0) := (hc3 _ _ (by first | omega | go_size)).trans (r2_1)
  have z3_1 : w3.frozen? ⟨w.heap.size, 1, none⟩ = false := (hf3 _ _ (by first | omega | go_size)).trans (z2_1)
  have hC3 := Cur.below HC2.out hb3
  have HC3 := Lib.hid hC3
  clear hC3
  have HG3 := Lib.hid (grown_trans HG2.out (⟨hb3.os, hb3.tape, hb3.output, hb3.size, fun i hi _ => hb3.block i hi⟩ : w2.grownBy w3 (some b)))
  clear hc3 hf3 hb3 r2_0 r2_1 z2_0 z2_1
  generalize lowNum k x = p at *
  generalize lowDen k x = q at *
  have s3 : w.heap.size < w3.heap.size := by omega
  go_wp2
  (refine bodyPost_ret (by simp [results, Try.results82, go_sem, *]; try rfl) rfl ?_)
  refine ⟨_, _, rfl, ⟨i64_small (by omega), i64_small (by omega)⟩, Cur.far HC3.out ((show Below w.heap.size w3 _ from by (repeat' (first | (with_reducible exact Below.refl _ _) | (with_reducible assumption) | (with_reducible refine Below.alloc ?_ ?_ _) | (with_reducible refine Below.drew ?_) | (with_reducible refine below_drewN ?_ _) | (with_reducible refine Below.setCell ?_ ?_ _) | (with_reducible refine below_call ?_ ?_ (by assumption)) | go_size))).mono (by omega)), grown_far HG3.out (by (repeat' (first | (with_reducible exact Below.refl _ _) | (with_reducible assumption) | (with_reducible refine Below.alloc ?_ ?_ _) | (with_reducible refine Below.drew ?_) | (with_reducible refine below_drewN ?_ _) | (with_reducible refine Below.setCell ?_ ?_ _) | (with_reducible refine below_call ?_ ?_ (by assumption)) | go_size)))⟩
set_option maxHeartbeats 1600000 in
theorem turn_any (L : List Int) (a : Option Addr) (n cp : Nat) (w0 : World) (b T : Nat) (hO : CurOK L a n w0 b) (hT : T ≤ 600000) (w : World) (hC : Cur w0 w b a n cp T) :
    Calls Try.prog 62 #[.pointer (some ⟨b, 0, none⟩)] w fun e w' => ∃ p q, e = .returned (tv p q) ∧ (I64 p ∧ I64 q) ∧ Cur w0 w' b a n cp (T + 8) ∧ w.grownBy w' (some b) := by
  have HC := Lib.hid hC
  clear hC
  have hlt := Cur.lt HC.out
  (go_enter Try.func62, Try.ntmps62)
  go_wp2_with fail
  refine (pick_any L a n cp w0 b T 16 (by omega) hO (by omega) _ (Cur.alloc HC.out _)).mono ?_
  rintro e1 w1 ⟨j, rfl, hj, hC1, hg1⟩
  have HC1 := Lib.hid hC1
  have hz1 := hg1.size
  simp only [World.size_alloc] at hz1
  have r1_0 : w1.cell? ⟨w.heap.size, 0, none⟩ = some (.int .i64 0) := (World.grownBy.cell_far hg1 ⟨w.heap.size, 0, none⟩ (by show w.heap.size < _; first | omega | (simp; omega) | go_size) (fun e => by simp only [Option.some.injEq] at e; omega)).trans (by go_simp)
  have z1_0 : w1.frozen? ⟨w.heap.size, 0, none⟩ = false := (World.grownBy.frozen_far hg1 ⟨w.heap.size, 0, none⟩ (by show w.heap.size < _; first | omega | (simp; omega) | go_size) (fun e => by simp only [Option.some.injEq] at e; omega)).trans (by go_simp)
  have r1_1 : w1.cell? ⟨w.heap.size, 1, none⟩ = some (.int .i64 0) := (World.grownBy.cell_far hg1 ⟨w.heap.size, 1, none⟩ (by show w.heap.size < _; first | omega | (simp; omega) | go_size) (fun e => by simp only [Option.some.injEq] at e; omega)).trans (by go_simp)
  have z1_1 : w1.frozen? ⟨w.heap.size, 1, none⟩ = false := (World.grownBy.frozen_far hg1 ⟨w.heap.size, 1, none⟩ (by show w.heap.size < _; first | omega | (simp; omega) | go_size) (fun e => by simp only [Option.some.injEq] at e; omega)).trans (by go_simp)
  have HG1 := Lib.hid (grown_trans (World.grownBy_alloc w _ (some b)) hg1)
  clear hC1 hg1
  by_cases h0 : j = 0
  · subst h0
    have hI2 := Lib.hid (iin_new w1 [(-1 : Int), (0 : Int), (2 : Int), (5 : Int), (4611686018427387904 : Int)] 3)
    have hl2 := Cur.lt HC1.out
    go_wp2_with fail
    refine (among_any L a n cp w0 b (T + 2) [(-1 : Int), (0 : Int), (2 : Int), (5 : Int), (4611686018427387904 : Int)] 5 rfl (by omega) w1.heap.size 0 5 hO (by omega) _ (Cur.alloc HC1.out _) hI2.out (by omega)).mono ?_
    rintro e2 w2 ⟨x2, rfl, hm2, hC2, hg2⟩
    have HC2 := Lib.hid hC2
    have hz2 := hg2.size
    simp only [World.size_alloc] at hz2
    have r2_0 : w2.cell? ⟨w.heap.size, 0, none⟩ = some (.int .i64 0) := (World.grownBy.cell_far hg2 ⟨w.heap.size, 0, none⟩ (by show w.heap.size < _; first | omega | (simp; omega) | go_size) (fun e => by simp only [Option.some.injEq] at e; omega)).trans ((World.cell?_alloc_past _ _ _ (by show w.heap.size < _; omega)).trans r1_0)
    have z2_0 : w2.frozen? ⟨w.heap.size, 0, none⟩ = false := (World.grownBy.frozen_far hg2 ⟨w.heap.size, 0, none⟩ (by show w.heap.size < _; first | omega | (simp; omega) | go_size) (fun e => by simp only [Option.some.injEq] at e; omega)).trans ((World.frozen?_alloc_past _ _ _ (by show w.heap.size < _; omega)).trans z1_0)
    have r2_1 : w2.cell? ⟨w.heap.size, 1, none⟩ = some (.int .i64 0) := (World.grownBy.cell_far hg2 ⟨w.heap.size, 1, none⟩ (by show w.heap.size < _; first | omega | (simp; omega) | go_size) (fun e => by simp only [Option.some.injEq] at e; omega)).trans ((World.cell?_alloc_past _ _ _ (by show w.heap.size < _; omega)).trans r1_1)
    have z2_1 : w2.frozen? ⟨w.heap.size, 1, none⟩ = false := (World.grownBy.frozen_far hg2 ⟨w.heap.size, 1, none⟩ (by show w.heap.size < _; first | omega | (simp; omega) | go_size) (fun e => by simp only [Option.some.injEq] at e; omega)).trans ((World.frozen?_alloc_past _ _ _ (by show w.heap.size < _; omega)).trans z1_1)
    have HG2 := Lib.hid (grown_trans HG1.out (grown_trans (World.grownBy_alloc w1 _ (some b)) hg2))
    have HM2 : Hid (-4611686018427387904 ≤ x2 ∧ x2 ≤ 4611686018427387904) := Lib.hid (by simp only [List.mem_cons, List.not_mem_nil, or_false] at hm2; omega)
    clear hC2 hg2 hm2 r1_0 r1_1 z1_0 z1_1
    have hI3 := Lib.hid (iin_new w2 [(0 : Int), (1 : Int), (2 : Int), (4 : Int), (1000000 : Int), (1000001 : Int), (-3 : Int)] 3)
    have hl3 := Cur.lt HC2.out
    go_wp2_with fail
    refine (among_any L a n cp w0 b (T + 4) [(0 : Int), (1 : Int), (2 : Int), (4 : Int), (1000000 : Int), (1000001 : Int), (-3 : Int)] 7 rfl (by omega) w2.heap.size 0 7 hO (by omega) _ (Cur.alloc HC2.out _) hI3.out (by omega)).mono ?_
    rintro e3 w3 ⟨x3, rfl, hm3, hC3, hg3⟩
    have HC3 := Lib.hid hC3
    have hz3 := hg3.size
    simp only [World.size_alloc] at hz3
    have r3_0 : w3.cell? ⟨w.heap.size, 0, none⟩ = some (.int .i64 0) := (World.grownBy.cell_far hg3 ⟨w.heap.size, 0, none⟩ (by show w.heap.size < _; first | omega | (simp; omega) | go_size) (fun e => by simp only [Option.some.injEq] at e; omega)).trans ((World.cell?_alloc_past _ _ _ (by show w.heap.size < _; omega)).trans r2_0)
    have z3_0 : w3.frozen? ⟨w.heap.size, 0, none⟩ = false := (World.grownBy.frozen_far hg3 ⟨w.heap.size, 0, none⟩ (by show w.heap.size < _; first | omega | (simp; omega) | go_size) (fun e => by simp only [Option.some.injEq] at e; omega)).trans ((World.frozen?_alloc_past _ _ _ (by show w.heap.size < _; omega)).trans z2_0)
    have r3_1 : w3.cell? ⟨w.heap.size, 1, none⟩ = some (.int .i64 0) := (World.grownBy.cell_far hg3 ⟨w.heap.size, 1, none⟩ (by show w.heap.size < _; first | omega | (simp; omega) | go_size) (fun e => by simp only [Option.some.injEq] at e; omega)).trans ((World.cell?_alloc_past _ _ _ (by show w.heap.size < _; omega)).trans r2_1)
    have z3_1 : w3.frozen? ⟨w.heap.size, 1, none⟩ = false := (World.grownBy.frozen_far hg3 ⟨w.heap.size, 1, none⟩ (by show w.heap.size < _; first | omega | (simp; omega) | go_size) (fun e => by simp only [Option.some.injEq] at e; omega)).trans ((World.frozen?_alloc_past _ _ _ (by show w.heap.size < _; omega)).trans z2_1)
    have HG3 := Lib.hid (grown_trans HG2.out (grown_trans (World.grownBy_alloc w2 _ (some b)) hg3))
    have HM3 : Hid (-4611686018427387904 ≤ x3 ∧ x3 ≤ 4611686018427387904) := Lib.hid (by simp only [List.mem_cons, List.not_mem_nil, or_false] at hm3; omega)
    clear hC3 hg3 hm3 r2_0 r2_1 z2_0 z2_1
    have s3 : w.heap.size < w3.heap.size := by omega
    go_wp2
    (refine bodyPost_ret (by simp [results, Try.results62, go_sem, *]; try rfl) rfl ?_)
    refine ⟨_, _, rfl, ⟨i64_small HM2.out, i64_small HM3.out⟩, Cur.far (Cur.mono HC3.out (by omega)) ((show Below w.heap.size w3 _ from by (repeat' (first | (with_reducible exact Below.refl _ _) | (with_reducible assumption) | (with_reducible refine Below.alloc ?_ ?_ _) | (with_reducible refine Below.drew ?_) | (with_reducible refine below_drewN ?_ _) | (with_reducible refine Below.setCell ?_ ?_ _) | (with_reducible refine below_call ?_ ?_ (by assumption)) | go_size))).mono (by omega)), grown_far HG3.out (by (repeat' (first | (with_reducible exact Below.refl _ _) | (with_reducible assumption) | (with_reducible refine Below.alloc ?_ ?_ _) | (with_reducible refine Below.drew ?_) | (with_reducible refine below_drewN ?_ _) | (with_reducible refine Below.setCell ?_ ?_ _) | (with_reducible refine below_call ?_ ?_ (by assumption)) | go_size)))⟩

  by_cases h1 : j = 1
  · subst h1
    have hI2 := Lib.hid (iin_new w1 [(1 : Int), (999999 : Int), (7 : Int)] 3)
    have hl2 := Cur.lt HC1.out
    go_wp2_with fail
    refine (among_any L a n cp w0 b (T + 2) [(1 : Int), (999999 : Int), (7 : Int)] 3 rfl (by omega) w1.heap.size 0 3 hO (by omega) _ (Cur.alloc HC1.out _) hI2.out (by omega)).mono ?_
    rintro e2 w2 ⟨x2, rfl, hm2, hC2, hg2⟩
    have HC2 := Lib.hid hC2
    have hz2 := hg2.size
    simp only [World.size_alloc] at hz2
    have r2_0 : w2.cell? ⟨w.heap.size, 0, none⟩ = some (.int .i64 0) := (World.grownBy.cell_far hg2 ⟨w.heap.size, 0, none⟩ (by show w.heap.size < _; first | omega | (simp; omega) | go_size) (fun e => by simp only [Option.some.injEq] at e; omega)).trans ((World.cell?_alloc_past _ _ _ (by show w.heap.size < _; omega)).trans r1_0)
    have z2_0 : w2.frozen? ⟨w.heap.size, 0, none⟩ = false := (World.grownBy.frozen_far hg2 ⟨w.heap.size, 0, none⟩ (by show w.heap.size < _; first | omega | (simp; omega) | go_size) (fun e => by simp only [Option.some.injEq] at e; omega)).trans ((World.frozen?_alloc_past _ _ _ (by show w.heap.size < _; omega)).trans z1_0)
    have r2_1 : w2.cell? ⟨w.heap.size, 1, none⟩ = some (.int .i64 0) := (World.grownBy.cell_far hg2 ⟨w.heap.size, 1, none⟩ (by show w.heap.size < _; first | omega | (simp; omega) | go_size) (fun e => by simp only [Option.some.injEq] at e; omega)).trans ((World.cell?_alloc_past _ _ _ (by show w.heap.size < _; omega)).trans r1_1)
    have z2_1 : w2.frozen? ⟨w.heap.size, 1, none⟩ = false := (World.grownBy.frozen_far hg2 ⟨w.heap.size, 1, none⟩ (by show w.heap.size < _; first | omega | (simp; omega) | go_size) (fun e => by simp only [Option.some.injEq] at e; omega)).trans ((World.frozen?_alloc_past _ _ _ (by show w.heap.size < _; omega)).trans z1_1)
    have HG2 := Lib.hid (grown_trans HG1.out (grown_trans (World.grownBy_alloc w1 _ (some b)) hg2))
    have HM2 : Hid (-4611686018427387904 ≤ x2 ∧ x2 ≤ 4611686018427387904) := Lib.hid (by simp only [List.mem_cons, List.not_mem_nil, or_false] at hm2; omega)
    clear hC2 hg2 hm2 r1_0 r1_1 z1_0 z1_1
    have s2 : w.heap.size < w2.heap.size := by omega
    go_wp2
    (refine bodyPost_ret (by simp [results, Try.results62, go_sem, *]; try rfl) rfl ?_)
    refine ⟨_, _, rfl, ⟨i64_small HM2.out, i64_small (by omega)⟩, Cur.far (Cur.mono HC2.out (by omega)) ((show Below w.heap.size w2 _ from by (repeat' (first | (with_reducible exact Below.refl _ _) | (with_reducible assumption) | (with_reducible refine Below.alloc ?_ ?_ _) | (with_reducible refine Below.drew ?_) | (with_reducible refine below_drewN ?_ _) | (with_reducible refine Below.setCell ?_ ?_ _) | (with_reducible refine below_call ?_ ?_ (by assumption)) | go_size))).mono (by omega)), grown_far HG2.out (by (repeat' (first | (with_reducible exact Below.refl _ _) | (with_reducible assumption) | (with_reducible refine Below.alloc ?_ ?_ _) | (with_reducible refine Below.drew ?_) | (with_reducible refine below_drewN ?_ _) | (with_reducible refine Below.setCell ?_ ?_ _) | (with_reducible refine below_call ?_ ?_ (by assumption)) | go_size)))⟩

  by_cases h2 : j = 2
  · subst h2
    go_wp2_with fail
    refine (pick_any L a n cp w0 b (T + 2) 900000 (by omega) hO (by omega) _ HC1.out).mono ?_
    rintro e2 w2 ⟨k, rfl, hk, hC2, hg2⟩
    have HC2 := Lib.hid hC2
    have hz2 := hg2.size
    have r2_0 : w2.cell? ⟨w.heap.size, 0, none⟩ = some (.int .i64 0) := (World.grownBy.cell_far hg2 ⟨w.heap.size, 0, none⟩ (by show w.heap.size < _; first | omega | (simp; omega) | go_size) (fun e => by simp only [Option.some.injEq] at e; omega)).trans (r1_0)
    have z2_0 : w2.frozen? ⟨w.heap.size, 0, none⟩ = false := (World.grownBy.frozen_far hg2 ⟨w.heap.size, 0, none⟩ (by show w.heap.size < _; first | omega | (simp; omega) | go_size) (fun e => by simp only [Option.some.injEq] at e; omega)).trans (z1_0)
    have r2_1 : w2.cell? ⟨w.heap.size, 1, none⟩ = some (.int .i64 0) := (World.grownBy.cell_far hg2 ⟨w.heap.size, 1, none⟩ (by show w.heap.size < _; first | omega | (simp; omega) | go_size) (fun e => by simp only [Option.some.injEq] at e; omega)).trans (r1_1)
    have z2_1 : w2.frozen? ⟨w.heap.size, 1, none⟩ = false := (World.grownBy.frozen_far hg2 ⟨w.heap.size, 1, none⟩ (by show w.heap.size < _; first | omega | (simp; omega) | go_size) (fun e => by simp only [Option.some.injEq] at e; omega)).trans (z1_1)
    have HG2 := Lib.hid (grown_trans HG1.out hg2)
    clear hC2 hg2 r1_0 r1_1 z1_0 z1_1
    have k0 : (0 : Int) ≤ (k : Int) := Int.natCast_nonneg _
    have k1 : (k : Int) < 900000 := by omega
    have s2 : w.heap.size < w2.heap.size := by omega
    go_wp2
    (refine bodyPost_ret (by simp [results, Try.results62, go_sem, *]; try rfl) rfl ?_)
    refine ⟨_, _, rfl, ⟨i64_small (by omega), i64_small (by omega)⟩, Cur.far (Cur.mono HC2.out (by omega)) ((show Below w.heap.size w2 _ from by (repeat' (first | (with_reducible exact Below.refl _ _) | (with_reducible assumption) | (with_reducible refine Below.alloc ?_ ?_ _) | (with_reducible refine Below.drew ?_) | (with_reducible refine below_drewN ?_ _) | (with_reducible refine Below.setCell ?_ ?_ _) | (with_reducible refine below_call ?_ ?_ (by assumption)) | go_size))).mono (by omega)), grown_far HG2.out (by (repeat' (first | (with_reducible exact Below.refl _ _) | (with_reducible assumption) | (with_reducible refine Below.alloc ?_ ?_ _) | (with_reducible refine Below.drew ?_) | (with_reducible refine below_drewN ?_ _) | (with_reducible refine Below.setCell ?_ ?_ _) | (with_reducible refine below_call ?_ ?_ (by assumption)) | go_size)))⟩

  have j0 : ((j : Int) == 0) = false := by simp; omega
  have j1 : ((j : Int) == 1) = false := by simp; omega
  have j2 : ((j : Int) == 2) = false := by simp; omega
  go_wp2_with fail
  refine (sureTurn_any L a n cp w0 b (T + 2) hO (by omega) _ HC1.out).mono ?_
  rintro e2 w2 ⟨p, q, rfl, ⟨ip, iq⟩, hC2, hg2⟩
  have HC2 := Lib.hid hC2
  have hz2 := hg2.size
  have r2_0 : w2.cell? ⟨w.heap.size, 0, none⟩ = some (.int .i64 0) := (World.grownBy.cell_far hg2 ⟨w.heap.size, 0, none⟩ (by show w.heap.size < _; first | omega | (simp; omega) | go_size) (fun e => by simp only [Option.some.injEq] at e; omega)).trans (r1_0)
  have z2_0 : w2.frozen? ⟨w.heap.size, 0, none⟩ = false := (World.grownBy.frozen_far hg2 ⟨w.heap.size, 0, none⟩ (by show w.heap.size < _; first | omega | (simp; omega) | go_size) (fun e => by simp only [Option.some.injEq] at e; omega)).trans (z1_0)
  have r2_1 : w2.cell? ⟨w.heap.size, 1, none⟩ = some (.int .i64 0) := (World.grownBy.cell_far hg2 ⟨w.heap.size, 1, none⟩ (by show w.heap.size < _; first | omega | (simp; omega) | go_size) (fun e => by simp only [Option.some.injEq] at e; omega)).trans (r1_1)
  have z2_1 : w2.frozen? ⟨w.heap.size, 1, none⟩ = false := (World.grownBy.frozen_far hg2 ⟨w.heap.size, 1, none⟩ (by show w.heap.size < _; first | omega | (simp; omega) | go_size) (fun e => by simp only [Option.some.injEq] at e; omega)).trans (z1_1)
  have HG2 := Lib.hid (grown_trans HG1.out hg2)
  clear hC2 hg2 r1_0 r1_1 z1_0 z1_1
  have s2 : w.heap.size < w2.heap.size := by omega
  go_wp2
  (refine bodyPost_ret (by simp [results, Try.results62, go_sem, *]; try rfl) rfl ?_)
  refine ⟨_, _, rfl, ⟨ip, iq⟩, Cur.far (Cur.mono HC2.out (by omega)) ((show Below w.heap.size w2 _ from by (repeat' (first | (with_reducible exact Below.refl _ _) | (with_reducible assumption) | (with_reducible refine Below.alloc ?_ ?_ _) | (with_reducible refine Below.drew ?_) | (with_reducible refine below_drewN ?_ _) | (with_reducible refine Below.setCell ?_ ?_ _) | (with_reducible refine below_call ?_ ?_ (by assumption)) | go_size))).mono (by omega)), grown_far HG2.out (by (repeat' (first | (with_reducible exact Below.refl _ _) | (with_reducible assumption) | (with_reducible refine Below.alloc ?_ ?_ _) | (with_reducible refine Below.drew ?_) | (with_reducible refine below_drewN ?_ _) | (with_reducible refine Below.setCell ?_ ?_ _) | (with_reducible refine below_call ?_ ?_ (by assumption)) | go_size)))⟩
end Go.Proofs.Ytcfiaacpofpioaa
