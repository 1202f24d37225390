/- FnTurnsAddedOfAll: called with any arguments, the law returns true, and its arguments read behind the call as before. Conditions: none but the row's own. -/
import Derived.Test.YtjdjomoeeecdkaaFacts
import Derived.Test.YtjdjomoeeecdkaaRowI
import Derived.Test.YtjdjomoeeecdkaaTa0
import Derived.Test.YtjdjomoeeecdkaaTaE
import Derived.Test.YtjdjomoeeecdkaaLate
import Derived.Deep.DeepCutAuto
set_option linter.unusedSimpArgs false
set_option linter.unusedVariables false
set_option maxRecDepth 100000
namespace Go.Proofs.Ytjdjomoeeecdkaa.fnTurnsAddedOfAll
open Go.ChangeShapes Go.WideShapes Go.ChangeAt Go.RowKit
attribute [local go_sem ↓] Go.wp_at_zero Go.wp_at_succ run_neq_same run_neq_turn run_eql_turn

set_option maxHeartbeats 16000000 in
theorem walk (n0 d0 : Int) (n1 d1 : Int) (n2 d2 : Int) (a3 : Int) (a4 : Int) (a5 : Int) (kn0 : I64 n0) (kd0 : I64 d0) (kn1 : I64 n1) (kd1 : I64 d1) (kn2 : I64 n2) (kd2 : I64 d2) (k3 : I64 a3) (k4 : I64 a4) (k5 : I64 a5) (w : World) :
    Calls Try.prog 4 #[tv n0 d0, tv n1 d1, tv n2 d2, .int .i64 a3, .int .i64 a4, .int .i64 a5] w fun e w' => e = .returned (.bool true) ∧ Below w.heap.size w w' := by
  obtain ⟨sn, sd, so, hS⟩ : ∃ x y z, addT n0 d0 n1 d1 = (x, y, z) := ⟨_, _, _, rfl⟩
  obtain ⟨ln, ld, lo, hL⟩ : ∃ x y z, lessT n0 d0 n1 d1 = (x, y, z) := ⟨_, _, _, rfl⟩
  obtain ⟨mn, md, mo, hM⟩ : ∃ x y z, mirrorT n0 d0 = (x, y, z) := ⟨_, _, _, rfl⟩
  obtain ⟨un, ud, uo, hU⟩ : ∃ x y z, timesT n2 d2 a3 = (x, y, z) := ⟨_, _, _, rfl⟩
  obtain ⟨pn, pd, po, hP⟩ : ∃ x y z, partT n2 d2 a3 = (x, y, z) := ⟨_, _, _, rfl⟩
  obtain ⟨kn, kd, ko, hK⟩ : ∃ x y z, makeT a4 a5 = (x, y, z) := ⟨_, _, _, rfl⟩
  obtain ⟨cv, co, hC⟩ : ∃ x y, cmpT n0 d0 n1 d1 = (x, y) := ⟨_, _, rfl⟩
  have C1 := Lib.hid (fun W => (show Calls Try.prog 7 #[tv n0 d0, tv n1 d1] W fun e w' => e = .returned (rv (sn, sd, so)) ∧ Below W.heap.size W w' from by have := implAddTurns_any n0 d0 n1 d1 W; rw [hS] at this; exact this))
  have C2 := Lib.hid (fun W => (show Calls Try.prog 8 #[tv n0 d0, tv n1 d1] W fun e w' => e = .returned (rv (sn, sd, so)) ∧ Below W.heap.size W w' from by have := specAddTurns_any n0 d0 n1 d1 kd0 kd1 W; rw [hS] at this; exact this))
  have C3 := Lib.hid (fun W => (show Calls Try.prog 9 #[tv n0 d0, tv n1 d1] W fun e w' => e = .returned (rv (ln, ld, lo)) ∧ Below W.heap.size W w' from by have := implLessTurn_any n0 d0 n1 d1 W; rw [hL] at this; exact this))
  have C4 := Lib.hid (fun W => (show Calls Try.prog 10 #[tv n0 d0, tv n1 d1] W fun e w' => e = .returned (rv (ln, ld, lo)) ∧ Below W.heap.size W w' from by have := specLessTurn_any n0 d0 n1 d1 kd0 kd1 W; rw [hL] at this; exact this))
  have C5 := Lib.hid (fun W => (show Calls Try.prog 11 #[tv n0 d0, tv n1 d1] W fun e w' => e = .returned (iv (cv, co)) ∧ Below W.heap.size W w' from by have := implCompareTurns_any n0 d0 n1 d1 W; rw [hC] at this; exact this))
  have C6 := Lib.hid (fun W => (show Calls Try.prog 12 #[tv n0 d0, tv n1 d1] W fun e w' => e = .returned (iv (cv, co)) ∧ Below W.heap.size W w' from by have := specCompareTurns_any n0 d0 n1 d1 kd0 kd1 W; rw [hC] at this; exact this))
  have C7 := Lib.hid (fun W => (show Calls Try.prog 13 #[tv n0 d0] W fun e w' => e = .returned (rv (mn, md, mo)) ∧ Below W.heap.size W w' from by have := implMirrorTurn_any n0 d0 W; rw [hM] at this; exact this))
  have C8 := Lib.hid (fun W => (show Calls Try.prog 14 #[tv n0 d0] W fun e w' => e = .returned (rv (mn, md, mo)) ∧ Below W.heap.size W w' from by have := specMirrorTurn_any n0 d0 kd0 W; rw [hM] at this; exact this))
  have C9 := Lib.hid (fun W => (show Calls Try.prog 18 #[tv n2 d2, .int .i64 a3] W fun e w' => e = .returned (rv (un, ud, uo)) ∧ Below W.heap.size W w' from by have := implTimesTurn_any n2 d2 a3 W; rw [hU] at this; exact this))
  have C10 := Lib.hid (fun W => (show Calls Try.prog 19 #[tv n2 d2, .int .i64 a3] W fun e w' => e = .returned (rv (un, ud, uo)) ∧ Below W.heap.size W w' from by have := specTimesTurn_any n2 d2 a3 kd2 W; rw [hU] at this; exact this))
  have C11 := Lib.hid (fun W => (show Calls Try.prog 20 #[tv n2 d2, .int .i64 a3] W fun e w' => e = .returned (rv (pn, pd, po)) ∧ Below W.heap.size W w' from by have := implPartOfTurn_any n2 d2 a3 W; rw [hP] at this; exact this))
  have C12 := Lib.hid (fun W => (show Calls Try.prog 21 #[tv n2 d2, .int .i64 a3] W fun e w' => e = .returned (rv (pn, pd, po)) ∧ Below W.heap.size W w' from by have := specPartOfTurn_any n2 d2 a3 kd2 W; rw [hP] at this; exact this))
  have C13 := Lib.hid (fun W => (show Calls Try.prog 23 #[.int .i64 a4, .int .i64 a5] W fun e w' => e = .returned (rv (kn, kd, ko)) ∧ Below W.heap.size W w' from by have := implMakeTurn_any a4 a5 W; rw [hK] at this; exact this))
  have C14 := Lib.hid (fun W => (show Calls Try.prog 24 #[.int .i64 a4, .int .i64 a5] W fun e w' => e = .returned (rv (kn, kd, ko)) ∧ Below W.heap.size W w' from by have := specMakeTurn_any a4 a5 W; rw [hK] at this; exact this))
  have FC : co = (goodB n0 d0 && goodB n1 d1) := by have := cmpT_ok n0 d0 n1 d1; rw [hC] at this; exact this
  have FM : mo = goodB n0 d0 := by have := mirrorT_snd n0 d0; rw [hM] at this; exact this
  have FSG := Lib.hid (fun (e : so = true) => addT_ok (by rw [hS, e] : addT n0 d0 n1 d1 = (sn, sd, true)))
  have FLG : lo = true → (goodB n0 d0 && goodB n1 d1) = true := fun e => by
    have := hL
    unfold lessT at this
    split at this
    · rename_i g; exact g
    · simp only [fail3, Prod.mk.injEq] at this; rw [← this.2.2] at e; cases e
  have HLG := Lib.hid FLG
  have HC := Lib.hid FC
  have HM := Lib.hid FM
  clear FC FM FLG
  have Z2 := Lib.hid (fun W => (show Calls Try.prog 7 #[tv n1 d1, tv n0 d0] W fun e w' => e = .returned (rv (sn, sd, so)) ∧ Below W.heap.size W w' from by have := implAddTurns_any n1 d1 n0 d0 W; rw [addT_comm n0 d0 n1 d1, hS] at this; exact this))
  have FCV := Lib.hid (fun (e : co = true) => (show (-1 ≤ cv ∧ cv ≤ 1) ∧ cmpT n1 d1 n0 d0 = (-cv, true) ∧ (cv == 0) = eqT n0 d0 n1 d1 from by
    have hco := HC.out
    rw [e] at hco
    have hg := hco.symm
    rw [Bool.and_eq_true] at hg
    have h1 := cmpT_good hg.1 hg.2
    rw [hC] at h1
    obtain ⟨rfl, -⟩ := Prod.mk.inj h1
    refine ⟨by unfold sg; split <;> (try split) <;> omega, ?_, cmp_zero hg.1 hg.2⟩
    rw [cmpT_good hg.2 hg.1, ← sgn_neg, show n1 * d0 - n0 * d1 = -(n0 * d1 - n1 * d0) by omega]))
  have FS2 := Lib.hid (fun (e : so = true) => (show goodB sn sd = true ∧ lessT sn sd n1 d1 = (n0, d0, true) from by
    have h : addT n0 d0 n1 d1 = (sn, sd, true) := by rw [hS, e]
    exact ⟨(addT_ok h).2.2.1, add_back h rfl⟩))
  have FM2 := Lib.hid (fun (e : mo = true) => (show addT n0 d0 mn md = (0, 1, true) ∧ mirrorT mn md = (n0, d0, true) from by
    have h : mirrorT n0 d0 = (mn, md, true) := by rw [hM, e]
    exact ⟨mirror_sum h rfl, mirror_twice h rfl⟩))
  have FP2 := Lib.hid (fun (e : po = true) => (show timesT pn pd a3 = (n2, d2, true) ∧ (0 ≤ pn * a3 ∧ pn * a3 < pd ∧ pd ≤ 1000000) ∧ (pn * a3 < pd * a3 ∧ pd * a3 ≤ 10000000000) from by
    have h : partT n2 d2 a3 = (pn, pd, true) := by rw [hP, e]
    exact ⟨part_times h rfl, part_less h⟩))
  have FK2 := Lib.hid (fun (e : ko = true) => make_fits (show makeT a4 a5 = (kn, kd, true) from by rw [hK, e]))
  clear hS hL hM hU hP hK hC
  (go_enter Try.func4, Try.ntmps4)
  go_wp2_with fail
  refine (C1.out _).mono ?_
  rintro e1 w1 ⟨rfl, hb1⟩
  obtain ⟨hc1, hf1⟩ := bcell hb1
  have hz1 := hb1.size
  (try simp only [World.size_alloc, World.size_setCell, World.size_drew] at hz1)
  have B1 : Below w.heap.size w w1 := Below.trans (b := _) (by (repeat' (first | (with_reducible exact Below.refl _ _) | (with_reducible assumption) | (with_reducible refine Below.alloc ?_ ?_ _) | (with_reducible refine Below.drew ?_) | (with_reducible refine below_drewN ?_ _) | (with_reducible refine Below.setCell ?_ ?_ _) | (with_reducible refine below_call ?_ ?_ (by assumption)) | go_size))) (hb1.mono (by first | omega | (simp only [World.size_alloc, World.size_setCell, World.size_drew]; omega)))
  obtain ⟨hd1, -⟩ := bcell B1
  have c1_a_0 : w1.cell? ⟨w.heap.size, 0, none⟩ = some (.int .i64 n0) := (hc1 _ _ (by go_size)).trans (by go_simp)
  have c1_a_1 : w1.cell? ⟨w.heap.size, 1, none⟩ = some (.int .i64 d0) := (hc1 _ _ (by go_size)).trans (by go_simp)
  have q_a : w.heap.size < w1.heap.size := by omega
  have c1_b_0 : w1.cell? ⟨w.heap.size + 1, 0, none⟩ = some (.int .i64 n1) := (hc1 _ _ (by go_size)).trans (by go_simp)
  have c1_b_1 : w1.cell? ⟨w.heap.size + 1, 1, none⟩ = some (.int .i64 d1) := (hc1 _ _ (by go_size)).trans (by go_simp)
  have q_b : w.heap.size + 1 < w1.heap.size := by omega
  have c1_t_0 : w1.cell? ⟨w.heap.size + 1 + 1, 0, none⟩ = some (.int .i64 n2) := (hc1 _ _ (by go_size)).trans (by go_simp)
  have c1_t_1 : w1.cell? ⟨w.heap.size + 1 + 1, 1, none⟩ = some (.int .i64 d2) := (hc1 _ _ (by go_size)).trans (by go_simp)
  have q_t : w.heap.size + 1 + 1 < w1.heap.size := by omega
  have BW1 : Below w.heap.size w w1 := B1
  clear hc1 hf1 hb1 hd1 B1 
  go_wp2_with fail
  refine (C2.out _).mono ?_
  rintro e2 w2 ⟨rfl, hb2⟩
  obtain ⟨hc2, hf2⟩ := bcell hb2
  have hz2 := hb2.size
  (try simp only [World.size_alloc, World.size_setCell, World.size_drew] at hz2)
  have B2 : Below w1.heap.size w1 w2 := Below.trans (b := _) (by (repeat' (first | (with_reducible exact Below.refl _ _) | (with_reducible assumption) | (with_reducible refine Below.alloc ?_ ?_ _) | (with_reducible refine Below.drew ?_) | (with_reducible refine below_drewN ?_ _) | (with_reducible refine Below.setCell ?_ ?_ _) | (with_reducible refine below_call ?_ ?_ (by assumption)) | go_size))) (hb2.mono (by first | omega | (simp only [World.size_alloc, World.size_setCell, World.size_drew]; omega)))
  obtain ⟨hd2, -⟩ := bcell B2
  have c2_a_0 : w2.cell? ⟨w.heap.size, 0, none⟩ = some (.int .i64 n0) := (hd2 _ _ q_a).trans c1_a_0
  have c2_a_1 : w2.cell? ⟨w.heap.size, 1, none⟩ = some (.int .i64 d0) := (hd2 _ _ q_a).trans c1_a_1
  have c2_b_0 : w2.cell? ⟨w.heap.size + 1, 0, none⟩ = some (.int .i64 n1) := (hd2 _ _ q_b).trans c1_b_0
  have c2_b_1 : w2.cell? ⟨w.heap.size + 1, 1, none⟩ = some (.int .i64 d1) := (hd2 _ _ q_b).trans c1_b_1
  have c2_t_0 : w2.cell? ⟨w.heap.size + 1 + 1, 0, none⟩ = some (.int .i64 n2) := (hd2 _ _ q_t).trans c1_t_0
  have c2_t_1 : w2.cell? ⟨w.heap.size + 1 + 1, 1, none⟩ = some (.int .i64 d2) := (hd2 _ _ q_t).trans c1_t_1
  replace q_a : w.heap.size < w2.heap.size := by omega
  replace q_b : w.heap.size + 1 < w2.heap.size := by omega
  replace q_t : w.heap.size + 1 + 1 < w2.heap.size := by omega
  have c2_sum_0 : w2.cell? ⟨w1.heap.size, 0, none⟩ = some (.int .i64 sn) := (hc2 _ _ (by go_size)).trans (by go_simp)
  have c2_sum_1 : w2.cell? ⟨w1.heap.size, 1, none⟩ = some (.int .i64 sd) := (hc2 _ _ (by go_size)).trans (by go_simp)
  have q_sum : w1.heap.size < w2.heap.size := by omega
  have BW2 : Below w.heap.size w w2 := BW1.trans (B2.mono BW1.size)
  clear hc2 hf2 hb2 hd2 B2 c1_a_0 c1_a_1 c1_b_0 c1_b_1 c1_t_0 c1_t_1 BW1
  go_wp2_with fail
  refine (C3.out _).mono ?_
  rintro e3 w3 ⟨rfl, hb3⟩
  obtain ⟨hc3, hf3⟩ := bcell hb3
  have hz3 := hb3.size
  (try simp only [World.size_alloc, World.size_setCell, World.size_drew] at hz3)
  have B3 : Below w2.heap.size w2 w3 := Below.trans (b := _) (by (repeat' (first | (with_reducible exact Below.refl _ _) | (with_reducible assumption) | (with_reducible refine Below.alloc ?_ ?_ _) | (with_reducible refine Below.drew ?_) | (with_reducible refine below_drewN ?_ _) | (with_reducible refine Below.setCell ?_ ?_ _) | (with_reducible refine below_call ?_ ?_ (by assumption)) | go_size))) (hb3.mono (by first | omega | (simp only [World.size_alloc, World.size_setCell, World.size_drew]; omega)))
  obtain ⟨hd3, -⟩ := bcell B3
  have c3_a_0 : w3.cell? ⟨w.heap.size, 0, none⟩ = some (.int .i64 n0) := (hd3 _ _ q_a).trans c2_a_0
  have c3_a_1 : w3.cell? ⟨w.heap.size, 1, none⟩ = some (.int .i64 d0) := (hd3 _ _ q_a).trans c2_a_1
  have c3_b_0 : w3.cell? ⟨w.heap.size + 1, 0, none⟩ = some (.int .i64 n1) := (hd3 _ _ q_b).trans c2_b_0
  have c3_b_1 : w3.cell? ⟨w.heap.size + 1, 1, none⟩ = some (.int .i64 d1) := (hd3 _ _ q_b).trans c2_b_1
  have c3_t_0 : w3.cell? ⟨w.heap.size + 1 + 1, 0, none⟩ = some (.int .i64 n2) := (hd3 _ _ q_t).trans c2_t_0
  have c3_t_1 : w3.cell? ⟨w.heap.size + 1 + 1, 1, none⟩ = some (.int .i64 d2) := (hd3 _ _ q_t).trans c2_t_1
  have c3_sum_0 : w3.cell? ⟨w1.heap.size, 0, none⟩ = some (.int .i64 sn) := (hd3 _ _ q_sum).trans c2_sum_0
  have c3_sum_1 : w3.cell? ⟨w1.heap.size, 1, none⟩ = some (.int .i64 sd) := (hd3 _ _ q_sum).trans c2_sum_1
  replace q_a : w.heap.size < w3.heap.size := by omega
  replace q_b : w.heap.size + 1 < w3.heap.size := by omega
  replace q_t : w.heap.size + 1 + 1 < w3.heap.size := by omega
  replace q_sum : w1.heap.size < w3.heap.size := by omega
  have c3_right_0 : w3.cell? ⟨w2.heap.size, 0, none⟩ = some (.int .i64 sn) := (hc3 _ _ (by go_size)).trans (by go_simp)
  have c3_right_1 : w3.cell? ⟨w2.heap.size, 1, none⟩ = some (.int .i64 sd) := (hc3 _ _ (by go_size)).trans (by go_simp)
  have q_right : w2.heap.size < w3.heap.size := by omega
  have BW3 : Below w.heap.size w w3 := BW2.trans (B3.mono BW2.size)
  clear hc3 hf3 hb3 hd3 B3 c2_a_0 c2_a_1 c2_b_0 c2_b_1 c2_t_0 c2_t_1 c2_sum_0 c2_sum_1 BW2
  go_wp2_with fail
  refine (C4.out _).mono ?_
  rintro e4 w4 ⟨rfl, hb4⟩
  obtain ⟨hc4, hf4⟩ := bcell hb4
  have hz4 := hb4.size
  (try simp only [World.size_alloc, World.size_setCell, World.size_drew] at hz4)
  have B4 : Below w3.heap.size w3 w4 := Below.trans (b := _) (by (repeat' (first | (with_reducible exact Below.refl _ _) | (with_reducible assumption) | (with_reducible refine Below.alloc ?_ ?_ _) | (with_reducible refine Below.drew ?_) | (with_reducible refine below_drewN ?_ _) | (with_reducible refine Below.setCell ?_ ?_ _) | (with_reducible refine below_call ?_ ?_ (by assumption)) | go_size))) (hb4.mono (by first | omega | (simp only [World.size_alloc, World.size_setCell, World.size_drew]; omega)))
  obtain ⟨hd4, -⟩ := bcell B4
  have c4_a_0 : w4.cell? ⟨w.heap.size, 0, none⟩ = some (.int .i64 n0) := (hd4 _ _ q_a).trans c3_a_0
  have c4_a_1 : w4.cell? ⟨w.heap.size, 1, none⟩ = some (.int .i64 d0) := (hd4 _ _ q_a).trans c3_a_1
  have c4_b_0 : w4.cell? ⟨w.heap.size + 1, 0, none⟩ = some (.int .i64 n1) := (hd4 _ _ q_b).trans c3_b_0
  have c4_b_1 : w4.cell? ⟨w.heap.size + 1, 1, none⟩ = some (.int .i64 d1) := (hd4 _ _ q_b).trans c3_b_1
  have c4_t_0 : w4.cell? ⟨w.heap.size + 1 + 1, 0, none⟩ = some (.int .i64 n2) := (hd4 _ _ q_t).trans c3_t_0
  have c4_t_1 : w4.cell? ⟨w.heap.size + 1 + 1, 1, none⟩ = some (.int .i64 d2) := (hd4 _ _ q_t).trans c3_t_1
  have c4_sum_0 : w4.cell? ⟨w1.heap.size, 0, none⟩ = some (.int .i64 sn) := (hd4 _ _ q_sum).trans c3_sum_0
  have c4_sum_1 : w4.cell? ⟨w1.heap.size, 1, none⟩ = some (.int .i64 sd) := (hd4 _ _ q_sum).trans c3_sum_1
  have c4_right_0 : w4.cell? ⟨w2.heap.size, 0, none⟩ = some (.int .i64 sn) := (hd4 _ _ q_right).trans c3_right_0
  have c4_right_1 : w4.cell? ⟨w2.heap.size, 1, none⟩ = some (.int .i64 sd) := (hd4 _ _ q_right).trans c3_right_1
  replace q_a : w.heap.size < w4.heap.size := by omega
  replace q_b : w.heap.size + 1 < w4.heap.size := by omega
  replace q_t : w.heap.size + 1 + 1 < w4.heap.size := by omega
  replace q_sum : w1.heap.size < w4.heap.size := by omega
  replace q_right : w2.heap.size < w4.heap.size := by omega
  have c4_less_0 : w4.cell? ⟨w3.heap.size, 0, none⟩ = some (.int .i64 ln) := (hc4 _ _ (by go_size)).trans (by go_simp)
  have c4_less_1 : w4.cell? ⟨w3.heap.size, 1, none⟩ = some (.int .i64 ld) := (hc4 _ _ (by go_size)).trans (by go_simp)
  have q_less : w3.heap.size < w4.heap.size := by omega
  have BW4 : Below w.heap.size w w4 := BW3.trans (B4.mono BW3.size)
  clear hc4 hf4 hb4 hd4 B4 c3_a_0 c3_a_1 c3_b_0 c3_b_1 c3_t_0 c3_t_1 c3_sum_0 c3_sum_1 c3_right_0 c3_right_1 BW3
  go_wp2_with fail
  refine (C5.out _).mono ?_
  rintro e5 w5 ⟨rfl, hb5⟩
  obtain ⟨hc5, hf5⟩ := bcell hb5
  have hz5 := hb5.size
  (try simp only [World.size_alloc, World.size_setCell, World.size_drew] at hz5)
  have B5 : Below w4.heap.size w4 w5 := Below.trans (b := _) (by (repeat' (first | (with_reducible exact Below.refl _ _) | (with_reducible assumption) | (with_reducible refine Below.alloc ?_ ?_ _) | (with_reducible refine Below.drew ?_) | (with_reducible refine below_drewN ?_ _) | (with_reducible refine Below.setCell ?_ ?_ _) | (with_reducible refine below_call ?_ ?_ (by assumption)) | go_size))) (hb5.mono (by first | omega | (simp only [World.size_alloc, World.size_setCell, World.size_drew]; omega)))
  obtain ⟨hd5, -⟩ := bcell B5
  have c5_a_0 : w5.cell? ⟨w.heap.size, 0, none⟩ = some (.int .i64 n0) := (hd5 _ _ q_a).trans c4_a_0
  have c5_a_1 : w5.cell? ⟨w.heap.size, 1, none⟩ = some (.int .i64 d0) := (hd5 _ _ q_a).trans c4_a_1
  have c5_b_0 : w5.cell? ⟨w.heap.size + 1, 0, none⟩ = some (.int .i64 n1) := (hd5 _ _ q_b).trans c4_b_0
  have c5_b_1 : w5.cell? ⟨w.heap.size + 1, 1, none⟩ = some (.int .i64 d1) := (hd5 _ _ q_b).trans c4_b_1
  have c5_t_0 : w5.cell? ⟨w.heap.size + 1 + 1, 0, none⟩ = some (.int .i64 n2) := (hd5 _ _ q_t).trans c4_t_0
  have c5_t_1 : w5.cell? ⟨w.heap.size + 1 + 1, 1, none⟩ = some (.int .i64 d2) := (hd5 _ _ q_t).trans c4_t_1
  have c5_sum_0 : w5.cell? ⟨w1.heap.size, 0, none⟩ = some (.int .i64 sn) := (hd5 _ _ q_sum).trans c4_sum_0
  have c5_sum_1 : w5.cell? ⟨w1.heap.size, 1, none⟩ = some (.int .i64 sd) := (hd5 _ _ q_sum).trans c4_sum_1
  have c5_right_0 : w5.cell? ⟨w2.heap.size, 0, none⟩ = some (.int .i64 sn) := (hd5 _ _ q_right).trans c4_right_0
  have c5_right_1 : w5.cell? ⟨w2.heap.size, 1, none⟩ = some (.int .i64 sd) := (hd5 _ _ q_right).trans c4_right_1
  have c5_less_0 : w5.cell? ⟨w3.heap.size, 0, none⟩ = some (.int .i64 ln) := (hd5 _ _ q_less).trans c4_less_0
  have c5_less_1 : w5.cell? ⟨w3.heap.size, 1, none⟩ = some (.int .i64 ld) := (hd5 _ _ q_less).trans c4_less_1
  replace q_a : w.heap.size < w5.heap.size := by omega
  replace q_b : w.heap.size + 1 < w5.heap.size := by omega
  replace q_t : w.heap.size + 1 + 1 < w5.heap.size := by omega
  replace q_sum : w1.heap.size < w5.heap.size := by omega
  replace q_right : w2.heap.size < w5.heap.size := by omega
  replace q_less : w3.heap.size < w5.heap.size := by omega
  have c5_want_0 : w5.cell? ⟨w4.heap.size, 0, none⟩ = some (.int .i64 ln) := (hc5 _ _ (by go_size)).trans (by go_simp)
  have c5_want_1 : w5.cell? ⟨w4.heap.size, 1, none⟩ = some (.int .i64 ld) := (hc5 _ _ (by go_size)).trans (by go_simp)
  have q_want : w4.heap.size < w5.heap.size := by omega
  have BW5 : Below w.heap.size w w5 := BW4.trans (B5.mono BW4.size)
  clear hc5 hf5 hb5 hd5 B5 c4_a_0 c4_a_1 c4_b_0 c4_b_1 c4_t_0 c4_t_1 c4_sum_0 c4_sum_1 c4_right_0 c4_right_1 c4_less_0 c4_less_1 BW4
  go_wp2_with fail
  refine (C6.out _).mono ?_
  rintro e6 w6 ⟨rfl, hb6⟩
  obtain ⟨hc6, hf6⟩ := bcell hb6
  have hz6 := hb6.size
  (try simp only [World.size_alloc, World.size_setCell, World.size_drew] at hz6)
  have B6 : Below w5.heap.size w5 w6 := Below.trans (b := _) (by (repeat' (first | (with_reducible exact Below.refl _ _) | (with_reducible assumption) | (with_reducible refine Below.alloc ?_ ?_ _) | (with_reducible refine Below.drew ?_) | (with_reducible refine below_drewN ?_ _) | (with_reducible refine Below.setCell ?_ ?_ _) | (with_reducible refine below_call ?_ ?_ (by assumption)) | go_size))) (hb6.mono (by first | omega | (simp only [World.size_alloc, World.size_setCell, World.size_drew]; omega)))
  obtain ⟨hd6, -⟩ := bcell B6
  have c6_a_0 : w6.cell? ⟨w.heap.size, 0, none⟩ = some (.int .i64 n0) := (hd6 _ _ q_a).trans c5_a_0
  have c6_a_1 : w6.cell? ⟨w.heap.size, 1, none⟩ = some (.int .i64 d0) := (hd6 _ _ q_a).trans c5_a_1
  have c6_b_0 : w6.cell? ⟨w.heap.size + 1, 0, none⟩ = some (.int .i64 n1) := (hd6 _ _ q_b).trans c5_b_0
  have c6_b_1 : w6.cell? ⟨w.heap.size + 1, 1, none⟩ = some (.int .i64 d1) := (hd6 _ _ q_b).trans c5_b_1
  have c6_t_0 : w6.cell? ⟨w.heap.size + 1 + 1, 0, none⟩ = some (.int .i64 n2) := (hd6 _ _ q_t).trans c5_t_0
  have c6_t_1 : w6.cell? ⟨w.heap.size + 1 + 1, 1, none⟩ = some (.int .i64 d2) := (hd6 _ _ q_t).trans c5_t_1
  have c6_sum_0 : w6.cell? ⟨w1.heap.size, 0, none⟩ = some (.int .i64 sn) := (hd6 _ _ q_sum).trans c5_sum_0
  have c6_sum_1 : w6.cell? ⟨w1.heap.size, 1, none⟩ = some (.int .i64 sd) := (hd6 _ _ q_sum).trans c5_sum_1
  have c6_right_0 : w6.cell? ⟨w2.heap.size, 0, none⟩ = some (.int .i64 sn) := (hd6 _ _ q_right).trans c5_right_0
  have c6_right_1 : w6.cell? ⟨w2.heap.size, 1, none⟩ = some (.int .i64 sd) := (hd6 _ _ q_right).trans c5_right_1
  have c6_less_0 : w6.cell? ⟨w3.heap.size, 0, none⟩ = some (.int .i64 ln) := (hd6 _ _ q_less).trans c5_less_0
  have c6_less_1 : w6.cell? ⟨w3.heap.size, 1, none⟩ = some (.int .i64 ld) := (hd6 _ _ q_less).trans c5_less_1
  have c6_want_0 : w6.cell? ⟨w4.heap.size, 0, none⟩ = some (.int .i64 ln) := (hd6 _ _ q_want).trans c5_want_0
  have c6_want_1 : w6.cell? ⟨w4.heap.size, 1, none⟩ = some (.int .i64 ld) := (hd6 _ _ q_want).trans c5_want_1
  replace q_a : w.heap.size < w6.heap.size := by omega
  replace q_b : w.heap.size + 1 < w6.heap.size := by omega
  replace q_t : w.heap.size + 1 + 1 < w6.heap.size := by omega
  replace q_sum : w1.heap.size < w6.heap.size := by omega
  replace q_right : w2.heap.size < w6.heap.size := by omega
  replace q_less : w3.heap.size < w6.heap.size := by omega
  replace q_want : w4.heap.size < w6.heap.size := by omega
  have BW6 : Below w.heap.size w w6 := BW5.trans (B6.mono BW5.size)
  clear hc6 hf6 hb6 hd6 B6 c5_a_0 c5_a_1 c5_b_0 c5_b_1 c5_t_0 c5_t_1 c5_sum_0 c5_sum_1 c5_right_0 c5_right_1 c5_less_0 c5_less_1 c5_want_0 c5_want_1 BW5
  go_wp2_with fail
  refine (C7.out _).mono ?_
  rintro e7 w7 ⟨rfl, hb7⟩
  obtain ⟨hc7, hf7⟩ := bcell hb7
  have hz7 := hb7.size
  (try simp only [World.size_alloc, World.size_setCell, World.size_drew] at hz7)
  have B7 : Below w6.heap.size w6 w7 := Below.trans (b := _) (by (repeat' (first | (with_reducible exact Below.refl _ _) | (with_reducible assumption) | (with_reducible refine Below.alloc ?_ ?_ _) | (with_reducible refine Below.drew ?_) | (with_reducible refine below_drewN ?_ _) | (with_reducible refine Below.setCell ?_ ?_ _) | (with_reducible refine below_call ?_ ?_ (by assumption)) | go_size))) (hb7.mono (by first | omega | (simp only [World.size_alloc, World.size_setCell, World.size_drew]; omega)))
  obtain ⟨hd7, -⟩ := bcell B7
  have c7_a_0 : w7.cell? ⟨w.heap.size, 0, none⟩ = some (.int .i64 n0) := (hd7 _ _ q_a).trans c6_a_0
  have c7_a_1 : w7.cell? ⟨w.heap.size, 1, none⟩ = some (.int .i64 d0) := (hd7 _ _ q_a).trans c6_a_1
  have c7_b_0 : w7.cell? ⟨w.heap.size + 1, 0, none⟩ = some (.int .i64 n1) := (hd7 _ _ q_b).trans c6_b_0
  have c7_b_1 : w7.cell? ⟨w.heap.size + 1, 1, none⟩ = some (.int .i64 d1) := (hd7 _ _ q_b).trans c6_b_1
  have c7_t_0 : w7.cell? ⟨w.heap.size + 1 + 1, 0, none⟩ = some (.int .i64 n2) := (hd7 _ _ q_t).trans c6_t_0
  have c7_t_1 : w7.cell? ⟨w.heap.size + 1 + 1, 1, none⟩ = some (.int .i64 d2) := (hd7 _ _ q_t).trans c6_t_1
  have c7_sum_0 : w7.cell? ⟨w1.heap.size, 0, none⟩ = some (.int .i64 sn) := (hd7 _ _ q_sum).trans c6_sum_0
  have c7_sum_1 : w7.cell? ⟨w1.heap.size, 1, none⟩ = some (.int .i64 sd) := (hd7 _ _ q_sum).trans c6_sum_1
  have c7_right_0 : w7.cell? ⟨w2.heap.size, 0, none⟩ = some (.int .i64 sn) := (hd7 _ _ q_right).trans c6_right_0
  have c7_right_1 : w7.cell? ⟨w2.heap.size, 1, none⟩ = some (.int .i64 sd) := (hd7 _ _ q_right).trans c6_right_1
  have c7_less_0 : w7.cell? ⟨w3.heap.size, 0, none⟩ = some (.int .i64 ln) := (hd7 _ _ q_less).trans c6_less_0
  have c7_less_1 : w7.cell? ⟨w3.heap.size, 1, none⟩ = some (.int .i64 ld) := (hd7 _ _ q_less).trans c6_less_1
  have c7_want_0 : w7.cell? ⟨w4.heap.size, 0, none⟩ = some (.int .i64 ln) := (hd7 _ _ q_want).trans c6_want_0
  have c7_want_1 : w7.cell? ⟨w4.heap.size, 1, none⟩ = some (.int .i64 ld) := (hd7 _ _ q_want).trans c6_want_1
  replace q_a : w.heap.size < w7.heap.size := by omega
  replace q_b : w.heap.size + 1 < w7.heap.size := by omega
  replace q_t : w.heap.size + 1 + 1 < w7.heap.size := by omega
  replace q_sum : w1.heap.size < w7.heap.size := by omega
  replace q_right : w2.heap.size < w7.heap.size := by omega
  replace q_less : w3.heap.size < w7.heap.size := by omega
  replace q_want : w4.heap.size < w7.heap.size := by omega
  have BW7 : Below w.heap.size w w7 := BW6.trans (B7.mono BW6.size)
  clear hc7 hf7 hb7 hd7 B7 c6_a_0 c6_a_1 c6_b_0 c6_b_1 c6_t_0 c6_t_1 c6_sum_0 c6_sum_1 c6_right_0 c6_right_1 c6_less_0 c6_less_1 c6_want_0 c6_want_1 BW6
  go_wp2_with fail
  refine (C8.out _).mono ?_
  rintro e8 w8 ⟨rfl, hb8⟩
  obtain ⟨hc8, hf8⟩ := bcell hb8
  have hz8 := hb8.size
  (try simp only [World.size_alloc, World.size_setCell, World.size_drew] at hz8)
  have B8 : Below w7.heap.size w7 w8 := Below.trans (b := _) (by (repeat' (first | (with_reducible exact Below.refl _ _) | (with_reducible assumption) | (with_reducible refine Below.alloc ?_ ?_ _) | (with_reducible refine Below.drew ?_) | (with_reducible refine below_drewN ?_ _) | (with_reducible refine Below.setCell ?_ ?_ _) | (with_reducible refine below_call ?_ ?_ (by assumption)) | go_size))) (hb8.mono (by first | omega | (simp only [World.size_alloc, World.size_setCell, World.size_drew]; omega)))
  obtain ⟨hd8, -⟩ := bcell B8
  have c8_a_0 : w8.cell? ⟨w.heap.size, 0, none⟩ = some (.int .i64 n0) := (hd8 _ _ q_a).trans c7_a_0
  have c8_a_1 : w8.cell? ⟨w.heap.size, 1, none⟩ = some (.int .i64 d0) := (hd8 _ _ q_a).trans c7_a_1
  have c8_b_0 : w8.cell? ⟨w.heap.size + 1, 0, none⟩ = some (.int .i64 n1) := (hd8 _ _ q_b).trans c7_b_0
  have c8_b_1 : w8.cell? ⟨w.heap.size + 1, 1, none⟩ = some (.int .i64 d1) := (hd8 _ _ q_b).trans c7_b_1
  have c8_t_0 : w8.cell? ⟨w.heap.size + 1 + 1, 0, none⟩ = some (.int .i64 n2) := (hd8 _ _ q_t).trans c7_t_0
  have c8_t_1 : w8.cell? ⟨w.heap.size + 1 + 1, 1, none⟩ = some (.int .i64 d2) := (hd8 _ _ q_t).trans c7_t_1
  have c8_sum_0 : w8.cell? ⟨w1.heap.size, 0, none⟩ = some (.int .i64 sn) := (hd8 _ _ q_sum).trans c7_sum_0
  have c8_sum_1 : w8.cell? ⟨w1.heap.size, 1, none⟩ = some (.int .i64 sd) := (hd8 _ _ q_sum).trans c7_sum_1
  have c8_right_0 : w8.cell? ⟨w2.heap.size, 0, none⟩ = some (.int .i64 sn) := (hd8 _ _ q_right).trans c7_right_0
  have c8_right_1 : w8.cell? ⟨w2.heap.size, 1, none⟩ = some (.int .i64 sd) := (hd8 _ _ q_right).trans c7_right_1
  have c8_less_0 : w8.cell? ⟨w3.heap.size, 0, none⟩ = some (.int .i64 ln) := (hd8 _ _ q_less).trans c7_less_0
  have c8_less_1 : w8.cell? ⟨w3.heap.size, 1, none⟩ = some (.int .i64 ld) := (hd8 _ _ q_less).trans c7_less_1
  have c8_want_0 : w8.cell? ⟨w4.heap.size, 0, none⟩ = some (.int .i64 ln) := (hd8 _ _ q_want).trans c7_want_0
  have c8_want_1 : w8.cell? ⟨w4.heap.size, 1, none⟩ = some (.int .i64 ld) := (hd8 _ _ q_want).trans c7_want_1
  replace q_a : w.heap.size < w8.heap.size := by omega
  replace q_b : w.heap.size + 1 < w8.heap.size := by omega
  replace q_t : w.heap.size + 1 + 1 < w8.heap.size := by omega
  replace q_sum : w1.heap.size < w8.heap.size := by omega
  replace q_right : w2.heap.size < w8.heap.size := by omega
  replace q_less : w3.heap.size < w8.heap.size := by omega
  replace q_want : w4.heap.size < w8.heap.size := by omega
  have c8_mirror_0 : w8.cell? ⟨w7.heap.size, 0, none⟩ = some (.int .i64 mn) := (hc8 _ _ (by go_size)).trans (by go_simp)
  have c8_mirror_1 : w8.cell? ⟨w7.heap.size, 1, none⟩ = some (.int .i64 md) := (hc8 _ _ (by go_size)).trans (by go_simp)
  have q_mirror : w7.heap.size < w8.heap.size := by omega
  have BW8 : Below w.heap.size w w8 := BW7.trans (B8.mono BW7.size)
  clear hc8 hf8 hb8 hd8 B8 c7_a_0 c7_a_1 c7_b_0 c7_b_1 c7_t_0 c7_t_1 c7_sum_0 c7_sum_1 c7_right_0 c7_right_1 c7_less_0 c7_less_1 c7_want_0 c7_want_1 BW7
  go_upto_region 9 with fail
  have hb9 : Below w8.heap.size w8 (w8.alloc (Obj.cells #[.int .i64 mn, .int .i64 md] 25)) := by (repeat' (first | (with_reducible exact Below.refl _ _) | (with_reducible assumption) | (with_reducible refine Below.alloc ?_ ?_ _) | (with_reducible refine Below.drew ?_) | (with_reducible refine below_drewN ?_ _) | (with_reducible refine Below.setCell ?_ ?_ _) | (with_reducible refine below_call ?_ ?_ (by assumption)) | go_size))
  have c9_value_0 : (w8.alloc (Obj.cells #[.int .i64 mn, .int .i64 md] 25)).cell? ⟨w8.heap.size, 0, none⟩ = some (.int .i64 mn) := by go_simp
  have c9_value_1 : (w8.alloc (Obj.cells #[.int .i64 mn, .int .i64 md] 25)).cell? ⟨w8.heap.size, 1, none⟩ = some (.int .i64 md) := by go_simp
  have q_value : w8.heap.size < (w8.alloc (Obj.cells #[.int .i64 mn, .int .i64 md] 25)).heap.size := by go_size
  generalize (w8.alloc (Obj.cells #[.int .i64 mn, .int .i64 md] 25)) = w9 at *
  obtain ⟨hd9, -⟩ := bcell hb9
  have hz9 := hb9.size
  have c9_a_0 : w9.cell? ⟨w.heap.size, 0, none⟩ = some (.int .i64 n0) := (hd9 _ _ q_a).trans c8_a_0
  have c9_a_1 : w9.cell? ⟨w.heap.size, 1, none⟩ = some (.int .i64 d0) := (hd9 _ _ q_a).trans c8_a_1
  have c9_b_0 : w9.cell? ⟨w.heap.size + 1, 0, none⟩ = some (.int .i64 n1) := (hd9 _ _ q_b).trans c8_b_0
  have c9_b_1 : w9.cell? ⟨w.heap.size + 1, 1, none⟩ = some (.int .i64 d1) := (hd9 _ _ q_b).trans c8_b_1
  have c9_t_0 : w9.cell? ⟨w.heap.size + 1 + 1, 0, none⟩ = some (.int .i64 n2) := (hd9 _ _ q_t).trans c8_t_0
  have c9_t_1 : w9.cell? ⟨w.heap.size + 1 + 1, 1, none⟩ = some (.int .i64 d2) := (hd9 _ _ q_t).trans c8_t_1
  have c9_sum_0 : w9.cell? ⟨w1.heap.size, 0, none⟩ = some (.int .i64 sn) := (hd9 _ _ q_sum).trans c8_sum_0
  have c9_sum_1 : w9.cell? ⟨w1.heap.size, 1, none⟩ = some (.int .i64 sd) := (hd9 _ _ q_sum).trans c8_sum_1
  have c9_right_0 : w9.cell? ⟨w2.heap.size, 0, none⟩ = some (.int .i64 sn) := (hd9 _ _ q_right).trans c8_right_0
  have c9_right_1 : w9.cell? ⟨w2.heap.size, 1, none⟩ = some (.int .i64 sd) := (hd9 _ _ q_right).trans c8_right_1
  have c9_less_0 : w9.cell? ⟨w3.heap.size, 0, none⟩ = some (.int .i64 ln) := (hd9 _ _ q_less).trans c8_less_0
  have c9_less_1 : w9.cell? ⟨w3.heap.size, 1, none⟩ = some (.int .i64 ld) := (hd9 _ _ q_less).trans c8_less_1
  have c9_want_0 : w9.cell? ⟨w4.heap.size, 0, none⟩ = some (.int .i64 ln) := (hd9 _ _ q_want).trans c8_want_0
  have c9_want_1 : w9.cell? ⟨w4.heap.size, 1, none⟩ = some (.int .i64 ld) := (hd9 _ _ q_want).trans c8_want_1
  have c9_mirror_0 : w9.cell? ⟨w7.heap.size, 0, none⟩ = some (.int .i64 mn) := (hd9 _ _ q_mirror).trans c8_mirror_0
  have c9_mirror_1 : w9.cell? ⟨w7.heap.size, 1, none⟩ = some (.int .i64 md) := (hd9 _ _ q_mirror).trans c8_mirror_1
  replace q_a : w.heap.size < w9.heap.size := by omega
  replace q_b : w.heap.size + 1 < w9.heap.size := by omega
  replace q_t : w.heap.size + 1 + 1 < w9.heap.size := by omega
  replace q_sum : w1.heap.size < w9.heap.size := by omega
  replace q_right : w2.heap.size < w9.heap.size := by omega
  replace q_less : w3.heap.size < w9.heap.size := by omega
  replace q_want : w4.heap.size < w9.heap.size := by omega
  replace q_mirror : w7.heap.size < w9.heap.size := by omega
  have BW9 : Below w.heap.size w w9 := BW8.trans (hb9.mono BW8.size)
  clear hb9 hd9 c8_a_0 c8_a_1 c8_b_0 c8_b_1 c8_t_0 c8_t_1 c8_sum_0 c8_sum_1 c8_right_0 c8_right_1 c8_less_0 c8_less_1 c8_want_0 c8_want_1 c8_mirror_0 c8_mirror_1 BW8
  go_cut [173] from 999 to 999 (fun x wx => x = .bool false ∧ Below w9.heap.size w9 wx)
  case first =>
    as_aux_lemma =>
      have hmo : mo = goodB n0 d0 := HM.out
      refine wp_region_below (by kernel_rfl) (by kernel_rfl) ?_
      (apply wpB_take (hw := rfl); (intro wq hq; obtain ⟨hcq, hfq⟩ := bcell hq; unfold atB; go_simp; exact ⟨rfl, rfl⟩); (rw [put_lit]; dsimp only [List.set]))
      (apply wpB_take (hw := rfl); (intro wq hq; obtain ⟨hcq, hfq⟩ := bcell hq; unfold atB; go_simp; exact ⟨rfl, rfl⟩); (rw [put_lit]; dsimp only [List.set]))
      (apply wpB_take (hw := rfl); (intro wq hq; obtain ⟨hcq, hfq⟩ := bcell hq; unfold atB; go_simp; exact ⟨rfl, rfl⟩); (rw [put_lit]; dsimp only [List.set]))
      (apply wpB_take (hw := rfl); (intro wq hq; obtain ⟨hcq, hfq⟩ := bcell hq; unfold atB; go_simp; exact ⟨rfl, rfl⟩); (rw [put_lit]; dsimp only [List.set]))
      (apply wpB_take (hw := rfl); (intro wq hq; obtain ⟨hcq, hfq⟩ := bcell hq; unfold atB; go_simp; exact ⟨rfl, rfl⟩); (rw [put_lit]; dsimp only [List.set]))
      (apply wpB_take (hw := rfl); (intro wq hq; obtain ⟨hcq, hfq⟩ := bcell hq; unfold atB; go_simp; exact ⟨rfl, rfl⟩); (rw [put_lit]; dsimp only [List.set]))
      (apply wpB_take (hw := rfl); (intro wq hq; obtain ⟨hcq, hfq⟩ := bcell hq; unfold atB; go_simp; exact ⟨rfl, rfl⟩); (rw [put_lit]; dsimp only [List.set]))
      (apply wpB_take (hw := rfl); (intro wq hq; obtain ⟨hcq, hfq⟩ := bcell hq; unfold atB; go_simp; exact ⟨rfl, rfl⟩); (rw [put_lit]; dsimp only [List.set]))
      (apply wpB_take (hw := rfl); (intro wq hq; obtain ⟨hcq, hfq⟩ := bcell hq; unfold atB; go_simp; exact ⟨rfl, rfl⟩); (rw [put_lit]; dsimp only [List.set]))
      (apply wpB_take (hw := rfl); (intro wq hq; obtain ⟨hcq, hfq⟩ := bcell hq; unfold atB; go_simp; exact ⟨rfl, rfl⟩); (rw [put_lit]; dsimp only [List.set]))
      (apply wpB_take (hw := rfl); (intro wq hq; obtain ⟨hcq, hfq⟩ := bcell hq; unfold atB; go_simp; exact ⟨rfl, rfl⟩); (rw [put_lit]; dsimp only [List.set]))
      (apply wpB_take (hw := rfl); (intro wq hq; obtain ⟨hcq, hfq⟩ := bcell hq; unfold atB; go_simp; exact ⟨rfl, rfl⟩); (rw [put_lit]; dsimp only [List.set]))
      (apply wpB_take (hw := rfl); (intro wq hq; obtain ⟨hcq, hfq⟩ := bcell hq; unfold atB; go_simp; exact ⟨rfl, rfl⟩); (rw [put_lit]; dsimp only [List.set]))
      (apply wpB_take (hw := rfl); (intro wq hq; obtain ⟨hcq, hfq⟩ := bcell hq; unfold atB; go_simp; exact ⟨rfl, rfl⟩); (rw [put_lit]; dsimp only [List.set]))
      (apply wpB_take (hw := rfl); (intro wq hq; obtain ⟨hcq, hfq⟩ := bcell hq; unfold atB; go_simp; exact ⟨rfl, rfl⟩); (rw [put_lit]; dsimp only [List.set]))
      (apply wpB_take (hw := rfl); (intro wq hq; obtain ⟨hcq, hfq⟩ := bcell hq; unfold atB; go_simp; exact ⟨rfl, rfl⟩); (rw [put_lit]; dsimp only [List.set]))
      (apply wpB_take (hw := rfl); (intro wq hq; obtain ⟨hcq, hfq⟩ := bcell hq; unfold atB; go_simp; exact ⟨rfl, rfl⟩); (rw [put_lit]; dsimp only [List.set]))
      (apply wpB_take (hw := rfl); (intro wq hq; obtain ⟨hcq, hfq⟩ := bcell hq; unfold atB; go_simp; exact ⟨rfl, rfl⟩); (rw [put_lit]; dsimp only [List.set]))
      (apply wpB_take (hw := rfl); (intro wq hq; obtain ⟨hcq, hfq⟩ := bcell hq; unfold atB; go_simp; exact ⟨rfl, rfl⟩); (rw [put_lit]; dsimp only [List.set]))
      (apply wpB_take (hw := rfl); (intro wq hq; obtain ⟨hcq, hfq⟩ := bcell hq; unfold atB; go_simp; exact ⟨rfl, rfl⟩); (rw [put_lit]; dsimp only [List.set]))
      (apply wpB_take (hw := rfl); (intro wq hq; obtain ⟨hcq, hfq⟩ := bcell hq; unfold atB; go_simp; exact ⟨rfl, rfl⟩); (rw [put_lit]; dsimp only [List.set]))
      (apply wpB_take (hw := rfl); (intro wq hq; obtain ⟨hcq, hfq⟩ := bcell hq; unfold atB; go_simp; exact ⟨rfl, rfl⟩); (rw [put_lit]; dsimp only [List.set]))
      (apply wpB_take (hw := rfl); (intro wq hq; obtain ⟨hcq, hfq⟩ := bcell hq; unfold atB; go_simp; exact ⟨rfl, rfl⟩); (rw [put_lit]; dsimp only [List.set]))
      (apply wpB_take (hw := rfl); (intro wq hq; obtain ⟨hcq, hfq⟩ := bcell hq; unfold atB; go_simp; exact ⟨rfl, rfl⟩); (rw [put_lit]; dsimp only [List.set]))
      (apply wpB_take (hw := rfl); (intro wq hq; obtain ⟨hcq, hfq⟩ := bcell hq; unfold atB; go_simp; exact ⟨rfl, rfl⟩); (rw [put_lit]; dsimp only [List.set]))
      (apply wpB_take (hw := rfl); (intro wq hq; obtain ⟨hcq, hfq⟩ := bcell hq; unfold atB; go_simp; exact ⟨rfl, rfl⟩); (rw [put_lit]; dsimp only [List.set]))
      (apply wpB_take (hw := rfl); (intro wq hq; obtain ⟨hcq, hfq⟩ := bcell hq; unfold atB; go_simp; exact ⟨rfl, rfl⟩); (rw [put_lit]; dsimp only [List.set]))
      (apply wpB_take (hw := rfl); (intro wq hq; obtain ⟨hcq, hfq⟩ := bcell hq; unfold atB; go_simp; exact ⟨rfl, rfl⟩); (rw [put_lit]; dsimp only [List.set]))
      (apply wpB_take (hw := rfl); (intro wq hq; obtain ⟨hcq, hfq⟩ := bcell hq; unfold atB; go_simp; exact ⟨rfl, rfl⟩); (rw [put_lit]; dsimp only [List.set]))
      (apply wpB_take (hw := rfl); (intro wq hq; obtain ⟨hcq, hfq⟩ := bcell hq; unfold atB; go_simp; exact ⟨rfl, rfl⟩); (rw [put_lit]; dsimp only [List.set]))
      (apply wpB_take (hw := rfl); (intro wq hq; obtain ⟨hcq, hfq⟩ := bcell hq; unfold atB; go_simp; exact ⟨rfl, rfl⟩); (rw [put_lit]; dsimp only [List.set]))
      (apply wpB_take (hw := rfl); (intro wq hq; obtain ⟨hcq, hfq⟩ := bcell hq; unfold atB; go_simp; exact ⟨rfl, rfl⟩); (rw [put_lit]; dsimp only [List.set]))
      (apply wpB_take (hw := rfl); (intro wq hq; obtain ⟨hcq, hfq⟩ := bcell hq; unfold atB; go_simp; exact ⟨rfl, rfl⟩); (rw [put_lit]; dsimp only [List.set]))
      (apply wpB_take (hw := rfl); (intro wq hq; obtain ⟨hcq, hfq⟩ := bcell hq; unfold atB; go_simp; exact ⟨rfl, rfl⟩); (rw [put_lit]; dsimp only [List.set]))
      (apply wpB_take (hw := rfl); (intro wq hq; obtain ⟨hcq, hfq⟩ := bcell hq; unfold atB; go_simp; exact ⟨rfl, rfl⟩); (rw [put_lit]; dsimp only [List.set]))
      (apply wpB_take (hw := rfl); (intro wq hq; obtain ⟨hcq, hfq⟩ := bcell hq; unfold atB; go_simp; exact ⟨rfl, rfl⟩); (rw [put_lit]; dsimp only [List.set]))
      (apply wpB_take (hw := rfl); (intro wq hq; obtain ⟨hcq, hfq⟩ := bcell hq; unfold atB; go_simp; exact ⟨rfl, rfl⟩); (rw [put_lit]; dsimp only [List.set]))
      (apply wpB_take (hw := rfl); (intro wq hq; obtain ⟨hcq, hfq⟩ := bcell hq; unfold atB; go_simp; exact ⟨rfl, rfl⟩); (rw [put_lit]; dsimp only [List.set]))
      (apply wpB_take (hw := rfl); (intro wq hq; obtain ⟨hcq, hfq⟩ := bcell hq; unfold atB; go_simp; exact ⟨rfl, rfl⟩); (rw [put_lit]; dsimp only [List.set]))
      (apply wpB_take (hw := rfl); (intro wq hq; obtain ⟨hcq, hfq⟩ := bcell hq; unfold atB; go_simp; exact ⟨rfl, rfl⟩); (rw [put_lit]; dsimp only [List.set]))
      (apply wpB_take (hw := rfl); (intro wq hq; obtain ⟨hcq, hfq⟩ := bcell hq; unfold atB; go_simp; exact ⟨rfl, rfl⟩); (rw [put_lit]; dsimp only [List.set]))
      (apply wpB_take (hw := rfl); (intro wq hq; unfold atB; go_simp; exact ⟨rfl, isTurn_any n0 d0 _⟩); (rw [put_lit]; dsimp only [List.set]))
      (apply wpB_take (hw := rfl); (intro wq hq; obtain ⟨hcq, hfq⟩ := bcell hq; unfold atB; go_simp; exact ⟨rfl, rfl⟩); (rw [put_lit]; dsimp only [List.set]))
      (apply wpB_take (hw := rfl); (intro wq hq; obtain ⟨hcq, hfq⟩ := bcell hq; unfold atB; go_simp; exact ⟨rfl, rfl⟩); (rw [put_lit]; dsimp only [List.set]))
      (apply wpB_take (hw := rfl); (intro wq hq; obtain ⟨hcq, hfq⟩ := bcell hq; unfold atB; go_simp; exact ⟨rfl, rfl⟩); (rw [put_lit]; dsimp only [List.set]))
      (apply wpB_take (hw := rfl); (intro wq hq; obtain ⟨hcq, hfq⟩ := bcell hq; unfold atB; go_simp; exact ⟨rfl, rfl⟩); (rw [put_lit]; dsimp only [List.set]))
      (apply wpB_take (hw := rfl); (intro wq hq; unfold atB; go_simp; exact ⟨rfl, isTurn_any n0 d0 _⟩); (rw [put_lit]; dsimp only [List.set]))
      (apply wpB_take (hw := rfl); (intro wq hq; obtain ⟨hcq, hfq⟩ := bcell hq; unfold atB; go_simp; exact ⟨rfl, rfl⟩); (rw [put_lit]; dsimp only [List.set]))
      (apply wpB_take (hw := rfl); (intro wq hq; unfold atB; go_simp; exact ⟨rfl, specIsTurn_is n0 d0 rfl kd0 _⟩); (rw [put_lit]; dsimp only [List.set]))
      (apply wpB_take (hw := rfl); (intro wq hq; obtain ⟨hcq, hfq⟩ := bcell hq; unfold atB; go_simp; exact ⟨rfl, rfl⟩); (rw [put_lit]; dsimp only [List.set]))
      (apply wpB_take (hw := rfl); (intro wq hq; obtain ⟨hcq, hfq⟩ := bcell hq; unfold atB; go_simp; exact ⟨rfl, rfl⟩); (rw [put_lit]; dsimp only [List.set]))
      (apply wpB_take (hw := rfl); (intro wq hq; obtain ⟨hcq, hfq⟩ := bcell hq; unfold atB; go_simp; exact ⟨rfl, rfl⟩); (rw [put_lit]; dsimp only [List.set]))
      (apply wpB_take (hw := rfl); (intro wq hq; obtain ⟨hcq, hfq⟩ := bcell hq; unfold atB; go_simp; exact ⟨rfl, rfl⟩); (rw [put_lit]; dsimp only [List.set]))
      (apply wpB_take (hw := rfl); (intro wq hq; obtain ⟨hcq, hfq⟩ := bcell hq; unfold atB; go_simp; exact ⟨rfl, rfl⟩); (rw [put_lit]; dsimp only [List.set]))
      (apply wpB_take (hw := rfl); (intro wq hq; unfold atB; go_simp; exact ⟨rfl, isTurn_any n0 d0 _⟩); (rw [put_lit]; dsimp only [List.set]))
      (apply wpB_take (hw := rfl); (intro wq hq; obtain ⟨hcq, hfq⟩ := bcell hq; unfold atB; go_simp; exact ⟨rfl, rfl⟩); (rw [put_lit]; dsimp only [List.set]))
      cases ga : goodB n0 d0
      · clear hmo
        have e1 : co = false := by rw [HC.out, ga]; rfl
        have e3 : so = false := by
          cases so
          · rfl
          · have := (FSG.out rfl).1; rw [ga] at this; cases this
        have e4 : lo = false := by
          cases lo
          · rfl
          · have := HLG.out rfl; rw [ga] at this; cases this
        subst e1 e3 e4
        (apply wpB_skip (hw := rfl); try (rw [put_lit]; dsimp only [List.set]))
        (apply wpB_skip (hw := rfl); try (rw [put_lit]; dsimp only [List.set]))
        (apply wpB_take (hw := rfl); (intro wq hq; obtain ⟨hcq, hfq⟩ := bcell hq; unfold atB; go_simp; exact ⟨rfl, rfl⟩); (rw [put_lit]; dsimp only [List.set]))
        (apply wpB_take (hw := rfl); (intro wq hq; obtain ⟨hcq, hfq⟩ := bcell hq; unfold atB; go_simp; exact ⟨rfl, rfl⟩); (rw [put_lit]; dsimp only [List.set]))
        (apply wpB_take (hw := rfl); (intro wq hq; obtain ⟨hcq, hfq⟩ := bcell hq; unfold atB; go_simp; exact ⟨rfl, rfl⟩); (rw [put_lit]; dsimp only [List.set]))
        (apply wpB_take (hw := rfl); (intro wq hq; obtain ⟨hcq, hfq⟩ := bcell hq; unfold atB; go_simp; exact ⟨rfl, rfl⟩); (rw [put_lit]; dsimp only [List.set]))
        (apply wpB_take (hw := rfl); (intro wq hq; obtain ⟨hcq, hfq⟩ := bcell hq; unfold atB; go_simp; exact ⟨rfl, rfl⟩); (rw [put_lit]; dsimp only [List.set]))
        (apply wpB_take (hw := rfl); (intro wq hq; obtain ⟨hcq, hfq⟩ := bcell hq; unfold atB; go_simp; exact ⟨rfl, rfl⟩); (rw [put_lit]; dsimp only [List.set]))
        (apply wpB_skip (hw := rfl); try (rw [put_lit]; dsimp only [List.set]))
        (apply wpB_skip (hw := rfl); try (rw [put_lit]; dsimp only [List.set]))
        (apply wpB_take (hw := rfl); (intro wq hq; obtain ⟨hcq, hfq⟩ := bcell hq; unfold atB; go_simp; exact ⟨rfl, rfl⟩); (rw [put_lit]; dsimp only [List.set]))
        (apply wpB_take (hw := rfl); (intro wq hq; obtain ⟨hcq, hfq⟩ := bcell hq; unfold atB; go_simp; exact ⟨rfl, rfl⟩); (rw [put_lit]; dsimp only [List.set]))
        (apply wpB_take (hw := rfl); (intro wq hq; obtain ⟨hcq, hfq⟩ := bcell hq; unfold atB; go_simp; exact ⟨rfl, rfl⟩); (rw [put_lit]; dsimp only [List.set]))
        (apply wpB_take (hw := rfl); (intro wq hq; obtain ⟨hcq, hfq⟩ := bcell hq; unfold atB; go_simp; exact ⟨rfl, rfl⟩); (rw [put_lit]; dsimp only [List.set]))
        (apply wpB_take (hw := rfl); (intro wq hq; obtain ⟨hcq, hfq⟩ := bcell hq; unfold atB; go_simp; exact ⟨rfl, rfl⟩); (rw [put_lit]; dsimp only [List.set]))
        (apply wpB_skip (hw := rfl); try (rw [put_lit]; dsimp only [List.set]))
        (apply wpB_skip (hw := rfl); try (rw [put_lit]; dsimp only [List.set]))
        (apply wpB_take (hw := rfl); (intro wq hq; obtain ⟨hcq, hfq⟩ := bcell hq; unfold atB; go_simp; exact ⟨rfl, rfl⟩); (rw [put_lit]; dsimp only [List.set]))
        (apply wpB_take (hw := rfl); (intro wq hq; obtain ⟨hcq, hfq⟩ := bcell hq; unfold atB; go_simp; exact ⟨rfl, rfl⟩); (rw [put_lit]; dsimp only [List.set]))
        refine fun wx hbx => ?_
        simp only [Exit.then]
        refine (by assumption : ∀ (a' : Act) (w' : World), Met _ a' w' → _) _ _ ?_
        go_meet
        case rel => exact ⟨rfl, hbx⟩
      · have hco : co = goodB n1 d1 := by rw [HC.out, ga]; simp
        clear hmo
        (apply wpB_take (hw := rfl); (intro wq hq; obtain ⟨hcq, hfq⟩ := bcell hq; unfold atB; go_simp; exact ⟨rfl, rfl⟩); (rw [put_lit]; dsimp only [List.set]))
        (apply wpB_take (hw := rfl); (intro wq hq; unfold atB; go_simp; exact ⟨rfl, isTurn_any n1 d1 _⟩); (rw [put_lit]; dsimp only [List.set]))
        (apply wpB_take (hw := rfl); (intro wq hq; obtain ⟨hcq, hfq⟩ := bcell hq; unfold atB; go_simp; exact ⟨rfl, rfl⟩); (rw [put_lit]; dsimp only [List.set]))
        (apply wpB_take (hw := rfl); (intro wq hq; obtain ⟨hcq, hfq⟩ := bcell hq; unfold atB; go_simp; exact ⟨rfl, rfl⟩); (rw [put_lit]; dsimp only [List.set]))
        (apply wpB_take (hw := rfl); (intro wq hq; obtain ⟨hcq, hfq⟩ := bcell hq; unfold atB; go_simp; exact ⟨rfl, rfl⟩); (rw [put_lit]; dsimp only [List.set]))
        (apply wpB_take (hw := rfl); (intro wq hq; obtain ⟨hcq, hfq⟩ := bcell hq; unfold atB; go_simp; exact ⟨rfl, rfl⟩); (rw [put_lit]; dsimp only [List.set]))
        (apply wpB_take (hw := rfl); (intro wq hq; obtain ⟨hcq, hfq⟩ := bcell hq; unfold atB; go_simp; exact ⟨rfl, rfl⟩); (rw [put_lit]; dsimp only [List.set]))
        (apply wpB_take (hw := rfl); (intro wq hq; obtain ⟨hcq, hfq⟩ := bcell hq; unfold atB; go_simp; exact ⟨rfl, rfl⟩); (rw [put_lit]; dsimp only [List.set]))
        clear hco
        cases so
        · (apply wpB_skip (hw := rfl); try (rw [put_lit]; dsimp only [List.set]))
          (apply wpB_skip (hw := rfl); try (rw [put_lit]; dsimp only [List.set]))
          (apply wpB_take (hw := rfl); (intro wq hq; obtain ⟨hcq, hfq⟩ := bcell hq; unfold atB; go_simp; exact ⟨rfl, rfl⟩); (rw [put_lit]; dsimp only [List.set]))
          (apply wpB_take (hw := rfl); (intro wq hq; obtain ⟨hcq, hfq⟩ := bcell hq; unfold atB; go_simp; exact ⟨rfl, rfl⟩); (rw [put_lit]; dsimp only [List.set]))
          (apply wpB_take (hw := rfl); (intro wq hq; obtain ⟨hcq, hfq⟩ := bcell hq; unfold atB; go_simp; exact ⟨rfl, rfl⟩); (rw [put_lit]; dsimp only [List.set]))
          (apply wpB_take (hw := rfl); (intro wq hq; obtain ⟨hcq, hfq⟩ := bcell hq; unfold atB; go_simp; exact ⟨rfl, rfl⟩); (rw [put_lit]; dsimp only [List.set]))
          (apply wpB_take (hw := rfl); (intro wq hq; obtain ⟨hcq, hfq⟩ := bcell hq; unfold atB; go_simp; exact ⟨rfl, rfl⟩); (rw [put_lit]; dsimp only [List.set]))
          cases lo
          · (apply wpB_skip (hw := rfl); try (rw [put_lit]; dsimp only [List.set]))
            (apply wpB_skip (hw := rfl); try (rw [put_lit]; dsimp only [List.set]))
            (apply wpB_take (hw := rfl); (intro wq hq; obtain ⟨hcq, hfq⟩ := bcell hq; unfold atB; go_simp; exact ⟨rfl, rfl⟩); (rw [put_lit]; dsimp only [List.set]))
            (apply wpB_take (hw := rfl); (intro wq hq; obtain ⟨hcq, hfq⟩ := bcell hq; unfold atB; go_simp; exact ⟨rfl, rfl⟩); (rw [put_lit]; dsimp only [List.set]))
            refine fun wx hbx => ?_
            simp only [Exit.then]
            refine (by assumption : ∀ (a' : Act) (w' : World), Met _ a' w' → _) _ _ ?_
            go_meet
            case rel => exact ⟨rfl, hbx⟩
          · have e1 : co = true := HC.out.trans (HLG.out rfl)
            subst e1
            (apply wpB_take (hw := rfl); (intro wq hq; obtain ⟨hcq, hfq⟩ := bcell hq; unfold atB; go_simp; exact ⟨rfl, rfl⟩); (rw [put_lit]; dsimp only [List.set]))
            (apply wpB_take (hw := rfl); (intro wq hq; obtain ⟨hcq, hfq⟩ := bcell hq; unfold atB; go_simp; exact ⟨rfl, rfl⟩); (rw [put_lit]; dsimp only [List.set]))
            (apply wpB_take (hw := rfl); (intro wq hq; obtain ⟨hcq, hfq⟩ := bcell hq; unfold atB; go_simp; exact ⟨rfl, rfl⟩); (rw [put_lit]; dsimp only [List.set]))
            (apply wpB_take (hw := rfl); (intro wq hq; obtain ⟨hcq, hfq⟩ := bcell hq; unfold atB; go_simp; exact ⟨rfl, rfl⟩); (rw [put_lit]; dsimp only [List.set]))
            refine fun wx hbx => ?_
            simp only [Exit.then]
            refine (by assumption : ∀ (a' : Act) (w' : World), Met _ a' w' → _) _ _ ?_
            go_meet
            case rel => exact ⟨rfl, hbx⟩
        · have e1 : co = true := by rw [HC.out, (FSG.out rfl).1, (FSG.out rfl).2.1]; rfl
          subst e1
          (apply wpB_take (hw := rfl); (intro wq hq; obtain ⟨hcq, hfq⟩ := bcell hq; unfold atB; go_simp; exact ⟨rfl, rfl⟩); (rw [put_lit]; dsimp only [List.set]))
          (apply wpB_take (hw := rfl); (intro wq hq; obtain ⟨hcq, hfq⟩ := bcell hq; unfold atB; go_simp; exact ⟨rfl, rfl⟩); (rw [put_lit]; dsimp only [List.set]))
          (apply wpB_take (hw := rfl); (intro wq hq; obtain ⟨hcq, hfq⟩ := bcell hq; unfold atB; go_simp; exact ⟨rfl, rfl⟩); (rw [put_lit]; dsimp only [List.set]))
          (apply wpB_take (hw := rfl); (intro wq hq; obtain ⟨hcq, hfq⟩ := bcell hq; unfold atB; go_simp; exact ⟨rfl, rfl⟩); (rw [put_lit]; dsimp only [List.set]))
          (apply wpB_take (hw := rfl); (intro wq hq; obtain ⟨hcq, hfq⟩ := bcell hq; unfold atB; go_simp; exact ⟨rfl, rfl⟩); (rw [put_lit]; dsimp only [List.set]))
          (apply wpB_take (hw := rfl); (intro wq hq; obtain ⟨hcq, hfq⟩ := bcell hq; unfold atB; go_simp; exact ⟨rfl, rfl⟩); (rw [put_lit]; dsimp only [List.set]))
          (apply wpB_take (hw := rfl); (intro wq hq; obtain ⟨hcq, hfq⟩ := bcell hq; unfold atB; go_simp; exact ⟨rfl, rfl⟩); (rw [put_lit]; dsimp only [List.set]))
          cases lo
          · (apply wpB_skip (hw := rfl); try (rw [put_lit]; dsimp only [List.set]))
            (apply wpB_skip (hw := rfl); try (rw [put_lit]; dsimp only [List.set]))
            (apply wpB_take (hw := rfl); (intro wq hq; obtain ⟨hcq, hfq⟩ := bcell hq; unfold atB; go_simp; exact ⟨rfl, rfl⟩); (rw [put_lit]; dsimp only [List.set]))
            (apply wpB_take (hw := rfl); (intro wq hq; obtain ⟨hcq, hfq⟩ := bcell hq; unfold atB; go_simp; exact ⟨rfl, rfl⟩); (rw [put_lit]; dsimp only [List.set]))
            refine fun wx hbx => ?_
            simp only [Exit.then]
            refine (by assumption : ∀ (a' : Act) (w' : World), Met _ a' w' → _) _ _ ?_
            go_meet
            case rel => exact ⟨rfl, hbx⟩
          · (apply wpB_take (hw := rfl); (intro wq hq; obtain ⟨hcq, hfq⟩ := bcell hq; unfold atB; go_simp; exact ⟨rfl, rfl⟩); (rw [put_lit]; dsimp only [List.set]))
            (apply wpB_take (hw := rfl); (intro wq hq; obtain ⟨hcq, hfq⟩ := bcell hq; unfold atB; go_simp; exact ⟨rfl, rfl⟩); (rw [put_lit]; dsimp only [List.set]))
            (apply wpB_take (hw := rfl); (intro wq hq; obtain ⟨hcq, hfq⟩ := bcell hq; unfold atB; go_simp; exact ⟨rfl, rfl⟩); (rw [put_lit]; dsimp only [List.set]))
            (apply wpB_take (hw := rfl); (intro wq hq; obtain ⟨hcq, hfq⟩ := bcell hq; unfold atB; go_simp; exact ⟨rfl, rfl⟩); (rw [put_lit]; dsimp only [List.set]))
            refine fun wx hbx => ?_
            simp only [Exit.then]
            refine (by assumption : ∀ (a' : Act) (w' : World), Met _ a' w' → _) _ _ ?_
            go_meet
            case rel => exact ⟨rfl, hbx⟩
  case rest =>
    obtain ⟨rfl, hb10⟩ := hcut
    obtain ⟨w10, hw10⟩ : ∃ x : World, x = wc := ⟨_, rfl⟩
    subst hw10
    obtain ⟨hc10, hf10⟩ := bcell hb10
    have hz10 := hb10.size
    (try simp only [World.size_alloc, World.size_setCell, World.size_drew] at hz10)
    have B10 : Below w9.heap.size w9 w10 := Below.trans (b := _) (by (repeat' (first | (with_reducible exact Below.refl _ _) | (with_reducible assumption) | (with_reducible refine Below.alloc ?_ ?_ _) | (with_reducible refine Below.drew ?_) | (with_reducible refine below_drewN ?_ _) | (with_reducible refine Below.setCell ?_ ?_ _) | (with_reducible refine below_call ?_ ?_ (by assumption)) | go_size))) (hb10.mono (by first | omega | (simp only [World.size_alloc, World.size_setCell, World.size_drew]; omega)))
    obtain ⟨hd10, -⟩ := bcell B10
    have c10_a_0 : w10.cell? ⟨w.heap.size, 0, none⟩ = some (.int .i64 n0) := (hd10 _ _ q_a).trans c9_a_0
    have c10_a_1 : w10.cell? ⟨w.heap.size, 1, none⟩ = some (.int .i64 d0) := (hd10 _ _ q_a).trans c9_a_1
    have c10_b_0 : w10.cell? ⟨w.heap.size + 1, 0, none⟩ = some (.int .i64 n1) := (hd10 _ _ q_b).trans c9_b_0
    have c10_b_1 : w10.cell? ⟨w.heap.size + 1, 1, none⟩ = some (.int .i64 d1) := (hd10 _ _ q_b).trans c9_b_1
    have c10_t_0 : w10.cell? ⟨w.heap.size + 1 + 1, 0, none⟩ = some (.int .i64 n2) := (hd10 _ _ q_t).trans c9_t_0
    have c10_t_1 : w10.cell? ⟨w.heap.size + 1 + 1, 1, none⟩ = some (.int .i64 d2) := (hd10 _ _ q_t).trans c9_t_1
    have c10_sum_0 : w10.cell? ⟨w1.heap.size, 0, none⟩ = some (.int .i64 sn) := (hd10 _ _ q_sum).trans c9_sum_0
    have c10_sum_1 : w10.cell? ⟨w1.heap.size, 1, none⟩ = some (.int .i64 sd) := (hd10 _ _ q_sum).trans c9_sum_1
    have c10_right_0 : w10.cell? ⟨w2.heap.size, 0, none⟩ = some (.int .i64 sn) := (hd10 _ _ q_right).trans c9_right_0
    have c10_right_1 : w10.cell? ⟨w2.heap.size, 1, none⟩ = some (.int .i64 sd) := (hd10 _ _ q_right).trans c9_right_1
    have c10_less_0 : w10.cell? ⟨w3.heap.size, 0, none⟩ = some (.int .i64 ln) := (hd10 _ _ q_less).trans c9_less_0
    have c10_less_1 : w10.cell? ⟨w3.heap.size, 1, none⟩ = some (.int .i64 ld) := (hd10 _ _ q_less).trans c9_less_1
    have c10_want_0 : w10.cell? ⟨w4.heap.size, 0, none⟩ = some (.int .i64 ln) := (hd10 _ _ q_want).trans c9_want_0
    have c10_want_1 : w10.cell? ⟨w4.heap.size, 1, none⟩ = some (.int .i64 ld) := (hd10 _ _ q_want).trans c9_want_1
    have c10_mirror_0 : w10.cell? ⟨w7.heap.size, 0, none⟩ = some (.int .i64 mn) := (hd10 _ _ q_mirror).trans c9_mirror_0
    have c10_mirror_1 : w10.cell? ⟨w7.heap.size, 1, none⟩ = some (.int .i64 md) := (hd10 _ _ q_mirror).trans c9_mirror_1
    have c10_value_0 : w10.cell? ⟨w8.heap.size, 0, none⟩ = some (.int .i64 mn) := (hd10 _ _ q_value).trans c9_value_0
    have c10_value_1 : w10.cell? ⟨w8.heap.size, 1, none⟩ = some (.int .i64 md) := (hd10 _ _ q_value).trans c9_value_1
    replace q_a : w.heap.size < w10.heap.size := by omega
    replace q_b : w.heap.size + 1 < w10.heap.size := by omega
    replace q_t : w.heap.size + 1 + 1 < w10.heap.size := by omega
    replace q_sum : w1.heap.size < w10.heap.size := by omega
    replace q_right : w2.heap.size < w10.heap.size := by omega
    replace q_less : w3.heap.size < w10.heap.size := by omega
    replace q_want : w4.heap.size < w10.heap.size := by omega
    replace q_mirror : w7.heap.size < w10.heap.size := by omega
    replace q_value : w8.heap.size < w10.heap.size := by omega
    have BW10 : Below w.heap.size w w10 := BW9.trans (B10.mono BW9.size)
    clear hc10 hf10 hb10 hd10 B10 c9_a_0 c9_a_1 c9_b_0 c9_b_1 c9_t_0 c9_t_1 c9_sum_0 c9_sum_1 c9_right_0 c9_right_1 c9_less_0 c9_less_1 c9_want_0 c9_want_1 c9_mirror_0 c9_mirror_1 c9_value_0 c9_value_1 BW9
    go_upto_if 174 with fail
    go_cut [] from 999 to 999 (fun wx => Below w10.heap.size w10 wx)
    case first =>
      as_aux_lemma =>
        cases co
        · go_wp2_with fail
          go_meet
          case rel => exact Below.refl _ _
        · obtain ⟨⟨v1, v2⟩, h2, h3⟩ := FCV.out rfl
          have Z1 := Lib.hid (fun W => (show Calls Try.prog 11 #[tv n1 d1, tv n0 d0] W fun e w' => e = .returned (iv (-cv, true)) ∧ Below W.heap.size W w' from by have := implCompareTurns_any n1 d1 n0 d0 W; rw [h2] at this; exact this))
          clear h2
          go_wp2_with fail
          refine (Z1.out _).mono ?_
          rintro e11 w11 ⟨rfl, hb11⟩
          obtain ⟨hc11, hf11⟩ := bcell hb11
          have hz11 := hb11.size
          (try simp only [World.size_alloc, World.size_setCell, World.size_drew] at hz11)
          have B11 : Below w10.heap.size w10 w11 := Below.trans (b := _) (by (repeat' (first | (with_reducible exact Below.refl _ _) | (with_reducible assumption) | (with_reducible refine Below.alloc ?_ ?_ _) | (with_reducible refine Below.drew ?_) | (with_reducible refine below_drewN ?_ _) | (with_reducible refine Below.setCell ?_ ?_ _) | (with_reducible refine below_call ?_ ?_ (by assumption)) | go_size))) (hb11.mono (by first | omega | (simp only [World.size_alloc, World.size_setCell, World.size_drew]; omega)))
          obtain ⟨hd11, -⟩ := bcell B11
          have c11_a_0 : w11.cell? ⟨w.heap.size, 0, none⟩ = some (.int .i64 n0) := (hd11 _ _ q_a).trans c10_a_0
          have c11_a_1 : w11.cell? ⟨w.heap.size, 1, none⟩ = some (.int .i64 d0) := (hd11 _ _ q_a).trans c10_a_1
          have c11_b_0 : w11.cell? ⟨w.heap.size + 1, 0, none⟩ = some (.int .i64 n1) := (hd11 _ _ q_b).trans c10_b_0
          have c11_b_1 : w11.cell? ⟨w.heap.size + 1, 1, none⟩ = some (.int .i64 d1) := (hd11 _ _ q_b).trans c10_b_1
          have c11_t_0 : w11.cell? ⟨w.heap.size + 1 + 1, 0, none⟩ = some (.int .i64 n2) := (hd11 _ _ q_t).trans c10_t_0
          have c11_t_1 : w11.cell? ⟨w.heap.size + 1 + 1, 1, none⟩ = some (.int .i64 d2) := (hd11 _ _ q_t).trans c10_t_1
          have c11_sum_0 : w11.cell? ⟨w1.heap.size, 0, none⟩ = some (.int .i64 sn) := (hd11 _ _ q_sum).trans c10_sum_0
          have c11_sum_1 : w11.cell? ⟨w1.heap.size, 1, none⟩ = some (.int .i64 sd) := (hd11 _ _ q_sum).trans c10_sum_1
          have c11_right_0 : w11.cell? ⟨w2.heap.size, 0, none⟩ = some (.int .i64 sn) := (hd11 _ _ q_right).trans c10_right_0
          have c11_right_1 : w11.cell? ⟨w2.heap.size, 1, none⟩ = some (.int .i64 sd) := (hd11 _ _ q_right).trans c10_right_1
          have c11_less_0 : w11.cell? ⟨w3.heap.size, 0, none⟩ = some (.int .i64 ln) := (hd11 _ _ q_less).trans c10_less_0
          have c11_less_1 : w11.cell? ⟨w3.heap.size, 1, none⟩ = some (.int .i64 ld) := (hd11 _ _ q_less).trans c10_less_1
          have c11_want_0 : w11.cell? ⟨w4.heap.size, 0, none⟩ = some (.int .i64 ln) := (hd11 _ _ q_want).trans c10_want_0
          have c11_want_1 : w11.cell? ⟨w4.heap.size, 1, none⟩ = some (.int .i64 ld) := (hd11 _ _ q_want).trans c10_want_1
          have c11_mirror_0 : w11.cell? ⟨w7.heap.size, 0, none⟩ = some (.int .i64 mn) := (hd11 _ _ q_mirror).trans c10_mirror_0
          have c11_mirror_1 : w11.cell? ⟨w7.heap.size, 1, none⟩ = some (.int .i64 md) := (hd11 _ _ q_mirror).trans c10_mirror_1
          have c11_value_0 : w11.cell? ⟨w8.heap.size, 0, none⟩ = some (.int .i64 mn) := (hd11 _ _ q_value).trans c10_value_0
          have c11_value_1 : w11.cell? ⟨w8.heap.size, 1, none⟩ = some (.int .i64 md) := (hd11 _ _ q_value).trans c10_value_1
          replace q_a : w.heap.size < w11.heap.size := by omega
          replace q_b : w.heap.size + 1 < w11.heap.size := by omega
          replace q_t : w.heap.size + 1 + 1 < w11.heap.size := by omega
          replace q_sum : w1.heap.size < w11.heap.size := by omega
          replace q_right : w2.heap.size < w11.heap.size := by omega
          replace q_less : w3.heap.size < w11.heap.size := by omega
          replace q_want : w4.heap.size < w11.heap.size := by omega
          replace q_mirror : w7.heap.size < w11.heap.size := by omega
          replace q_value : w8.heap.size < w11.heap.size := by omega
          have BW11 : Below w.heap.size w w11 := BW10.trans (B11.mono BW10.size)
          have BX11 : Below w10.heap.size w10 w11 := B11
          clear hc11 hf11 hb11 hd11 B11 c10_a_0 c10_a_1 c10_b_0 c10_b_1 c10_t_0 c10_t_1 c10_sum_0 c10_sum_1 c10_right_0 c10_right_1 c10_less_0 c10_less_1 c10_want_0 c10_want_1 c10_mirror_0 c10_mirror_1 c10_value_0 c10_value_1 BW10
          go_wp2_with fail
          refine (Z2.out _).mono ?_
          rintro e12 w12 ⟨rfl, hb12⟩
          obtain ⟨hc12, hf12⟩ := bcell hb12
          have hz12 := hb12.size
          (try simp only [World.size_alloc, World.size_setCell, World.size_drew] at hz12)
          have B12 : Below w11.heap.size w11 w12 := Below.trans (b := _) (by (repeat' (first | (with_reducible exact Below.refl _ _) | (with_reducible assumption) | (with_reducible refine Below.alloc ?_ ?_ _) | (with_reducible refine Below.drew ?_) | (with_reducible refine below_drewN ?_ _) | (with_reducible refine Below.setCell ?_ ?_ _) | (with_reducible refine below_call ?_ ?_ (by assumption)) | go_size))) (hb12.mono (by first | omega | (simp only [World.size_alloc, World.size_setCell, World.size_drew]; omega)))
          obtain ⟨hd12, -⟩ := bcell B12
          have c12_a_0 : w12.cell? ⟨w.heap.size, 0, none⟩ = some (.int .i64 n0) := (hd12 _ _ q_a).trans c11_a_0
          have c12_a_1 : w12.cell? ⟨w.heap.size, 1, none⟩ = some (.int .i64 d0) := (hd12 _ _ q_a).trans c11_a_1
          have c12_b_0 : w12.cell? ⟨w.heap.size + 1, 0, none⟩ = some (.int .i64 n1) := (hd12 _ _ q_b).trans c11_b_0
          have c12_b_1 : w12.cell? ⟨w.heap.size + 1, 1, none⟩ = some (.int .i64 d1) := (hd12 _ _ q_b).trans c11_b_1
          have c12_t_0 : w12.cell? ⟨w.heap.size + 1 + 1, 0, none⟩ = some (.int .i64 n2) := (hd12 _ _ q_t).trans c11_t_0
          have c12_t_1 : w12.cell? ⟨w.heap.size + 1 + 1, 1, none⟩ = some (.int .i64 d2) := (hd12 _ _ q_t).trans c11_t_1
          have c12_sum_0 : w12.cell? ⟨w1.heap.size, 0, none⟩ = some (.int .i64 sn) := (hd12 _ _ q_sum).trans c11_sum_0
          have c12_sum_1 : w12.cell? ⟨w1.heap.size, 1, none⟩ = some (.int .i64 sd) := (hd12 _ _ q_sum).trans c11_sum_1
          have c12_right_0 : w12.cell? ⟨w2.heap.size, 0, none⟩ = some (.int .i64 sn) := (hd12 _ _ q_right).trans c11_right_0
          have c12_right_1 : w12.cell? ⟨w2.heap.size, 1, none⟩ = some (.int .i64 sd) := (hd12 _ _ q_right).trans c11_right_1
          have c12_less_0 : w12.cell? ⟨w3.heap.size, 0, none⟩ = some (.int .i64 ln) := (hd12 _ _ q_less).trans c11_less_0
          have c12_less_1 : w12.cell? ⟨w3.heap.size, 1, none⟩ = some (.int .i64 ld) := (hd12 _ _ q_less).trans c11_less_1
          have c12_want_0 : w12.cell? ⟨w4.heap.size, 0, none⟩ = some (.int .i64 ln) := (hd12 _ _ q_want).trans c11_want_0
          have c12_want_1 : w12.cell? ⟨w4.heap.size, 1, none⟩ = some (.int .i64 ld) := (hd12 _ _ q_want).trans c11_want_1
          have c12_mirror_0 : w12.cell? ⟨w7.heap.size, 0, none⟩ = some (.int .i64 mn) := (hd12 _ _ q_mirror).trans c11_mirror_0
          have c12_mirror_1 : w12.cell? ⟨w7.heap.size, 1, none⟩ = some (.int .i64 md) := (hd12 _ _ q_mirror).trans c11_mirror_1
          have c12_value_0 : w12.cell? ⟨w8.heap.size, 0, none⟩ = some (.int .i64 mn) := (hd12 _ _ q_value).trans c11_value_0
          have c12_value_1 : w12.cell? ⟨w8.heap.size, 1, none⟩ = some (.int .i64 md) := (hd12 _ _ q_value).trans c11_value_1
          replace q_a : w.heap.size < w12.heap.size := by omega
          replace q_b : w.heap.size + 1 < w12.heap.size := by omega
          replace q_t : w.heap.size + 1 + 1 < w12.heap.size := by omega
          replace q_sum : w1.heap.size < w12.heap.size := by omega
          replace q_right : w2.heap.size < w12.heap.size := by omega
          replace q_less : w3.heap.size < w12.heap.size := by omega
          replace q_want : w4.heap.size < w12.heap.size := by omega
          replace q_mirror : w7.heap.size < w12.heap.size := by omega
          replace q_value : w8.heap.size < w12.heap.size := by omega
          have BW12 : Below w.heap.size w w12 := BW11.trans (B12.mono BW11.size)
          have BX12 : Below w10.heap.size w10 w12 := BX11.trans (B12.mono BX11.size)
          clear BX11
          clear hc12 hf12 hb12 hd12 B12 c11_a_0 c11_a_1 c11_b_0 c11_b_1 c11_t_0 c11_t_1 c11_sum_0 c11_sum_1 c11_right_0 c11_right_1 c11_less_0 c11_less_1 c11_want_0 c11_want_1 c11_mirror_0 c11_mirror_1 c11_value_0 c11_value_1 BW11
          go_upto_region 14 with fail
          have hb13 : Below w12.heap.size w12 (w12.alloc (Obj.cells #[.int .i64 sn, .int .i64 sd] 25)) := by (repeat' (first | (with_reducible exact Below.refl _ _) | (with_reducible assumption) | (with_reducible refine Below.alloc ?_ ?_ _) | (with_reducible refine Below.drew ?_) | (with_reducible refine below_drewN ?_ _) | (with_reducible refine Below.setCell ?_ ?_ _) | (with_reducible refine below_call ?_ ?_ (by assumption)) | go_size))
          have c13_other_0 : (w12.alloc (Obj.cells #[.int .i64 sn, .int .i64 sd] 25)).cell? ⟨w12.heap.size, 0, none⟩ = some (.int .i64 sn) := by go_simp
          have c13_other_1 : (w12.alloc (Obj.cells #[.int .i64 sn, .int .i64 sd] 25)).cell? ⟨w12.heap.size, 1, none⟩ = some (.int .i64 sd) := by go_simp
          have q_other : w12.heap.size < (w12.alloc (Obj.cells #[.int .i64 sn, .int .i64 sd] 25)).heap.size := by go_size
          generalize (w12.alloc (Obj.cells #[.int .i64 sn, .int .i64 sd] 25)) = w13 at *
          obtain ⟨hd13, -⟩ := bcell hb13
          have hz13 := hb13.size
          have c13_a_0 : w13.cell? ⟨w.heap.size, 0, none⟩ = some (.int .i64 n0) := (hd13 _ _ q_a).trans c12_a_0
          have c13_a_1 : w13.cell? ⟨w.heap.size, 1, none⟩ = some (.int .i64 d0) := (hd13 _ _ q_a).trans c12_a_1
          have c13_b_0 : w13.cell? ⟨w.heap.size + 1, 0, none⟩ = some (.int .i64 n1) := (hd13 _ _ q_b).trans c12_b_0
          have c13_b_1 : w13.cell? ⟨w.heap.size + 1, 1, none⟩ = some (.int .i64 d1) := (hd13 _ _ q_b).trans c12_b_1
          have c13_t_0 : w13.cell? ⟨w.heap.size + 1 + 1, 0, none⟩ = some (.int .i64 n2) := (hd13 _ _ q_t).trans c12_t_0
          have c13_t_1 : w13.cell? ⟨w.heap.size + 1 + 1, 1, none⟩ = some (.int .i64 d2) := (hd13 _ _ q_t).trans c12_t_1
          have c13_sum_0 : w13.cell? ⟨w1.heap.size, 0, none⟩ = some (.int .i64 sn) := (hd13 _ _ q_sum).trans c12_sum_0
          have c13_sum_1 : w13.cell? ⟨w1.heap.size, 1, none⟩ = some (.int .i64 sd) := (hd13 _ _ q_sum).trans c12_sum_1
          have c13_right_0 : w13.cell? ⟨w2.heap.size, 0, none⟩ = some (.int .i64 sn) := (hd13 _ _ q_right).trans c12_right_0
          have c13_right_1 : w13.cell? ⟨w2.heap.size, 1, none⟩ = some (.int .i64 sd) := (hd13 _ _ q_right).trans c12_right_1
          have c13_less_0 : w13.cell? ⟨w3.heap.size, 0, none⟩ = some (.int .i64 ln) := (hd13 _ _ q_less).trans c12_less_0
          have c13_less_1 : w13.cell? ⟨w3.heap.size, 1, none⟩ = some (.int .i64 ld) := (hd13 _ _ q_less).trans c12_less_1
          have c13_want_0 : w13.cell? ⟨w4.heap.size, 0, none⟩ = some (.int .i64 ln) := (hd13 _ _ q_want).trans c12_want_0
          have c13_want_1 : w13.cell? ⟨w4.heap.size, 1, none⟩ = some (.int .i64 ld) := (hd13 _ _ q_want).trans c12_want_1
          have c13_mirror_0 : w13.cell? ⟨w7.heap.size, 0, none⟩ = some (.int .i64 mn) := (hd13 _ _ q_mirror).trans c12_mirror_0
          have c13_mirror_1 : w13.cell? ⟨w7.heap.size, 1, none⟩ = some (.int .i64 md) := (hd13 _ _ q_mirror).trans c12_mirror_1
          have c13_value_0 : w13.cell? ⟨w8.heap.size, 0, none⟩ = some (.int .i64 mn) := (hd13 _ _ q_value).trans c12_value_0
          have c13_value_1 : w13.cell? ⟨w8.heap.size, 1, none⟩ = some (.int .i64 md) := (hd13 _ _ q_value).trans c12_value_1
          replace q_a : w.heap.size < w13.heap.size := by omega
          replace q_b : w.heap.size + 1 < w13.heap.size := by omega
          replace q_t : w.heap.size + 1 + 1 < w13.heap.size := by omega
          replace q_sum : w1.heap.size < w13.heap.size := by omega
          replace q_right : w2.heap.size < w13.heap.size := by omega
          replace q_less : w3.heap.size < w13.heap.size := by omega
          replace q_want : w4.heap.size < w13.heap.size := by omega
          replace q_mirror : w7.heap.size < w13.heap.size := by omega
          replace q_value : w8.heap.size < w13.heap.size := by omega
          have BW13 : Below w.heap.size w w13 := BW12.trans (hb13.mono BW12.size)
          have BX13 : Below w10.heap.size w10 w13 := BX12.trans (hb13.mono BX12.size)
          clear BX12
          clear hb13 hd13 c12_a_0 c12_a_1 c12_b_0 c12_b_1 c12_t_0 c12_t_1 c12_sum_0 c12_sum_1 c12_right_0 c12_right_1 c12_less_0 c12_less_1 c12_want_0 c12_want_1 c12_mirror_0 c12_mirror_1 c12_value_0 c12_value_1 BW12
          have hrelB := BX13
          by_cases hz : cv = 0
          · subst hz
            have e : eqT n0 d0 n1 d1 = true := by rw [← h3]; rfl
            go_wp2_with fail
            go_meet
            case rel => exact hrelB
          have e : eqT n0 d0 n1 d1 = false := by rw [← h3]; simpa using hz
          have e2 : (cv == 0) = false := by simpa using hz
          go_wp2_with fail
          go_meet
          case rel => exact hrelB
    case rest =>
      obtain ⟨w11, hw11⟩ : ∃ x : World, x = wc := ⟨_, rfl⟩
      subst hw11
      have hb11 := hcut
      obtain ⟨hc11, hf11⟩ := bcell hb11
      have hz11 := hb11.size
      (try simp only [World.size_alloc, World.size_setCell, World.size_drew] at hz11)
      have B11 : Below w10.heap.size w10 w11 := Below.trans (b := _) (by (repeat' (first | (with_reducible exact Below.refl _ _) | (with_reducible assumption) | (with_reducible refine Below.alloc ?_ ?_ _) | (with_reducible refine Below.drew ?_) | (with_reducible refine below_drewN ?_ _) | (with_reducible refine Below.setCell ?_ ?_ _) | (with_reducible refine below_call ?_ ?_ (by assumption)) | go_size))) (hb11.mono (by first | omega | (simp only [World.size_alloc, World.size_setCell, World.size_drew]; omega)))
      obtain ⟨hd11, -⟩ := bcell B11
      have c11_a_0 : w11.cell? ⟨w.heap.size, 0, none⟩ = some (.int .i64 n0) := (hd11 _ _ q_a).trans c10_a_0
      have c11_a_1 : w11.cell? ⟨w.heap.size, 1, none⟩ = some (.int .i64 d0) := (hd11 _ _ q_a).trans c10_a_1
      have c11_b_0 : w11.cell? ⟨w.heap.size + 1, 0, none⟩ = some (.int .i64 n1) := (hd11 _ _ q_b).trans c10_b_0
      have c11_b_1 : w11.cell? ⟨w.heap.size + 1, 1, none⟩ = some (.int .i64 d1) := (hd11 _ _ q_b).trans c10_b_1
      have c11_t_0 : w11.cell? ⟨w.heap.size + 1 + 1, 0, none⟩ = some (.int .i64 n2) := (hd11 _ _ q_t).trans c10_t_0
      have c11_t_1 : w11.cell? ⟨w.heap.size + 1 + 1, 1, none⟩ = some (.int .i64 d2) := (hd11 _ _ q_t).trans c10_t_1
      have c11_sum_0 : w11.cell? ⟨w1.heap.size, 0, none⟩ = some (.int .i64 sn) := (hd11 _ _ q_sum).trans c10_sum_0
      have c11_sum_1 : w11.cell? ⟨w1.heap.size, 1, none⟩ = some (.int .i64 sd) := (hd11 _ _ q_sum).trans c10_sum_1
      have c11_right_0 : w11.cell? ⟨w2.heap.size, 0, none⟩ = some (.int .i64 sn) := (hd11 _ _ q_right).trans c10_right_0
      have c11_right_1 : w11.cell? ⟨w2.heap.size, 1, none⟩ = some (.int .i64 sd) := (hd11 _ _ q_right).trans c10_right_1
      have c11_less_0 : w11.cell? ⟨w3.heap.size, 0, none⟩ = some (.int .i64 ln) := (hd11 _ _ q_less).trans c10_less_0
      have c11_less_1 : w11.cell? ⟨w3.heap.size, 1, none⟩ = some (.int .i64 ld) := (hd11 _ _ q_less).trans c10_less_1
      have c11_want_0 : w11.cell? ⟨w4.heap.size, 0, none⟩ = some (.int .i64 ln) := (hd11 _ _ q_want).trans c10_want_0
      have c11_want_1 : w11.cell? ⟨w4.heap.size, 1, none⟩ = some (.int .i64 ld) := (hd11 _ _ q_want).trans c10_want_1
      have c11_mirror_0 : w11.cell? ⟨w7.heap.size, 0, none⟩ = some (.int .i64 mn) := (hd11 _ _ q_mirror).trans c10_mirror_0
      have c11_mirror_1 : w11.cell? ⟨w7.heap.size, 1, none⟩ = some (.int .i64 md) := (hd11 _ _ q_mirror).trans c10_mirror_1
      have c11_value_0 : w11.cell? ⟨w8.heap.size, 0, none⟩ = some (.int .i64 mn) := (hd11 _ _ q_value).trans c10_value_0
      have c11_value_1 : w11.cell? ⟨w8.heap.size, 1, none⟩ = some (.int .i64 md) := (hd11 _ _ q_value).trans c10_value_1
      replace q_a : w.heap.size < w11.heap.size := by omega
      replace q_b : w.heap.size + 1 < w11.heap.size := by omega
      replace q_t : w.heap.size + 1 + 1 < w11.heap.size := by omega
      replace q_sum : w1.heap.size < w11.heap.size := by omega
      replace q_right : w2.heap.size < w11.heap.size := by omega
      replace q_less : w3.heap.size < w11.heap.size := by omega
      replace q_want : w4.heap.size < w11.heap.size := by omega
      replace q_mirror : w7.heap.size < w11.heap.size := by omega
      replace q_value : w8.heap.size < w11.heap.size := by omega
      have BW11 : Below w.heap.size w w11 := BW10.trans (B11.mono BW10.size)
      clear hc11 hf11 hb11 hd11 B11 c10_a_0 c10_a_1 c10_b_0 c10_b_1 c10_t_0 c10_t_1 c10_sum_0 c10_sum_1 c10_right_0 c10_right_1 c10_less_0 c10_less_1 c10_want_0 c10_want_1 c10_mirror_0 c10_mirror_1 c10_value_0 c10_value_1 BW10
      go_upto_if 213 with fail
      go_cut [] from 999 to 999 (fun wx => Below w11.heap.size w11 wx)
      case first =>
        as_aux_lemma =>
          cases so
          · go_wp2_with fail
            go_meet
            case rel => exact Below.refl _ _
          · obtain ⟨g2, h2⟩ := FS2.out rfl
            have Z1 := Lib.hid (fun W => (show Calls Try.prog 9 #[tv sn sd, tv n1 d1] W fun e w' => e = .returned (rv (n0, d0, true)) ∧ Below W.heap.size W w' from by have := implLessTurn_any sn sd n1 d1 W; rw [h2] at this; exact this))
            clear h2
            go_wp2_with fail
            refine (Z1.out _).mono ?_
            rintro e12 w12 ⟨rfl, hb12⟩
            obtain ⟨hc12, hf12⟩ := bcell hb12
            have hz12 := hb12.size
            (try simp only [World.size_alloc, World.size_setCell, World.size_drew] at hz12)
            have B12 : Below w11.heap.size w11 w12 := Below.trans (b := _) (by (repeat' (first | (with_reducible exact Below.refl _ _) | (with_reducible assumption) | (with_reducible refine Below.alloc ?_ ?_ _) | (with_reducible refine Below.drew ?_) | (with_reducible refine below_drewN ?_ _) | (with_reducible refine Below.setCell ?_ ?_ _) | (with_reducible refine below_call ?_ ?_ (by assumption)) | go_size))) (hb12.mono (by first | omega | (simp only [World.size_alloc, World.size_setCell, World.size_drew]; omega)))
            obtain ⟨hd12, -⟩ := bcell B12
            have c12_a_0 : w12.cell? ⟨w.heap.size, 0, none⟩ = some (.int .i64 n0) := (hd12 _ _ q_a).trans c11_a_0
            have c12_a_1 : w12.cell? ⟨w.heap.size, 1, none⟩ = some (.int .i64 d0) := (hd12 _ _ q_a).trans c11_a_1
            have c12_b_0 : w12.cell? ⟨w.heap.size + 1, 0, none⟩ = some (.int .i64 n1) := (hd12 _ _ q_b).trans c11_b_0
            have c12_b_1 : w12.cell? ⟨w.heap.size + 1, 1, none⟩ = some (.int .i64 d1) := (hd12 _ _ q_b).trans c11_b_1
            have c12_t_0 : w12.cell? ⟨w.heap.size + 1 + 1, 0, none⟩ = some (.int .i64 n2) := (hd12 _ _ q_t).trans c11_t_0
            have c12_t_1 : w12.cell? ⟨w.heap.size + 1 + 1, 1, none⟩ = some (.int .i64 d2) := (hd12 _ _ q_t).trans c11_t_1
            have c12_sum_0 : w12.cell? ⟨w1.heap.size, 0, none⟩ = some (.int .i64 sn) := (hd12 _ _ q_sum).trans c11_sum_0
            have c12_sum_1 : w12.cell? ⟨w1.heap.size, 1, none⟩ = some (.int .i64 sd) := (hd12 _ _ q_sum).trans c11_sum_1
            have c12_right_0 : w12.cell? ⟨w2.heap.size, 0, none⟩ = some (.int .i64 sn) := (hd12 _ _ q_right).trans c11_right_0
            have c12_right_1 : w12.cell? ⟨w2.heap.size, 1, none⟩ = some (.int .i64 sd) := (hd12 _ _ q_right).trans c11_right_1
            have c12_less_0 : w12.cell? ⟨w3.heap.size, 0, none⟩ = some (.int .i64 ln) := (hd12 _ _ q_less).trans c11_less_0
            have c12_less_1 : w12.cell? ⟨w3.heap.size, 1, none⟩ = some (.int .i64 ld) := (hd12 _ _ q_less).trans c11_less_1
            have c12_want_0 : w12.cell? ⟨w4.heap.size, 0, none⟩ = some (.int .i64 ln) := (hd12 _ _ q_want).trans c11_want_0
            have c12_want_1 : w12.cell? ⟨w4.heap.size, 1, none⟩ = some (.int .i64 ld) := (hd12 _ _ q_want).trans c11_want_1
            have c12_mirror_0 : w12.cell? ⟨w7.heap.size, 0, none⟩ = some (.int .i64 mn) := (hd12 _ _ q_mirror).trans c11_mirror_0
            have c12_mirror_1 : w12.cell? ⟨w7.heap.size, 1, none⟩ = some (.int .i64 md) := (hd12 _ _ q_mirror).trans c11_mirror_1
            have c12_value_0 : w12.cell? ⟨w8.heap.size, 0, none⟩ = some (.int .i64 mn) := (hd12 _ _ q_value).trans c11_value_0
            have c12_value_1 : w12.cell? ⟨w8.heap.size, 1, none⟩ = some (.int .i64 md) := (hd12 _ _ q_value).trans c11_value_1
            replace q_a : w.heap.size < w12.heap.size := by omega
            replace q_b : w.heap.size + 1 < w12.heap.size := by omega
            replace q_t : w.heap.size + 1 + 1 < w12.heap.size := by omega
            replace q_sum : w1.heap.size < w12.heap.size := by omega
            replace q_right : w2.heap.size < w12.heap.size := by omega
            replace q_less : w3.heap.size < w12.heap.size := by omega
            replace q_want : w4.heap.size < w12.heap.size := by omega
            replace q_mirror : w7.heap.size < w12.heap.size := by omega
            replace q_value : w8.heap.size < w12.heap.size := by omega
            have BW12 : Below w.heap.size w w12 := BW11.trans (B12.mono BW11.size)
            have BX12 : Below w11.heap.size w11 w12 := B12
            clear hc12 hf12 hb12 hd12 B12 c11_a_0 c11_a_1 c11_b_0 c11_b_1 c11_t_0 c11_t_1 c11_sum_0 c11_sum_1 c11_right_0 c11_right_1 c11_less_0 c11_less_1 c11_want_0 c11_want_1 c11_mirror_0 c11_mirror_1 c11_value_0 c11_value_1 BW11
            go_wp2_with fail
            refine (isTurn_is sn sd g2 _).mono ?_
            rintro e13 w13 ⟨rfl, hb13⟩
            obtain ⟨hc13, hf13⟩ := bcell hb13
            have hz13 := hb13.size
            (try simp only [World.size_alloc, World.size_setCell, World.size_drew] at hz13)
            have B13 : Below w12.heap.size w12 w13 := Below.trans (b := _) (by (repeat' (first | (with_reducible exact Below.refl _ _) | (with_reducible assumption) | (with_reducible refine Below.alloc ?_ ?_ _) | (with_reducible refine Below.drew ?_) | (with_reducible refine below_drewN ?_ _) | (with_reducible refine Below.setCell ?_ ?_ _) | (with_reducible refine below_call ?_ ?_ (by assumption)) | go_size))) (hb13.mono (by first | omega | (simp only [World.size_alloc, World.size_setCell, World.size_drew]; omega)))
            obtain ⟨hd13, -⟩ := bcell B13
            have c13_a_0 : w13.cell? ⟨w.heap.size, 0, none⟩ = some (.int .i64 n0) := (hd13 _ _ q_a).trans c12_a_0
            have c13_a_1 : w13.cell? ⟨w.heap.size, 1, none⟩ = some (.int .i64 d0) := (hd13 _ _ q_a).trans c12_a_1
            have c13_b_0 : w13.cell? ⟨w.heap.size + 1, 0, none⟩ = some (.int .i64 n1) := (hd13 _ _ q_b).trans c12_b_0
            have c13_b_1 : w13.cell? ⟨w.heap.size + 1, 1, none⟩ = some (.int .i64 d1) := (hd13 _ _ q_b).trans c12_b_1
            have c13_t_0 : w13.cell? ⟨w.heap.size + 1 + 1, 0, none⟩ = some (.int .i64 n2) := (hd13 _ _ q_t).trans c12_t_0
            have c13_t_1 : w13.cell? ⟨w.heap.size + 1 + 1, 1, none⟩ = some (.int .i64 d2) := (hd13 _ _ q_t).trans c12_t_1
            have c13_sum_0 : w13.cell? ⟨w1.heap.size, 0, none⟩ = some (.int .i64 sn) := (hd13 _ _ q_sum).trans c12_sum_0
            have c13_sum_1 : w13.cell? ⟨w1.heap.size, 1, none⟩ = some (.int .i64 sd) := (hd13 _ _ q_sum).trans c12_sum_1
            have c13_right_0 : w13.cell? ⟨w2.heap.size, 0, none⟩ = some (.int .i64 sn) := (hd13 _ _ q_right).trans c12_right_0
            have c13_right_1 : w13.cell? ⟨w2.heap.size, 1, none⟩ = some (.int .i64 sd) := (hd13 _ _ q_right).trans c12_right_1
            have c13_less_0 : w13.cell? ⟨w3.heap.size, 0, none⟩ = some (.int .i64 ln) := (hd13 _ _ q_less).trans c12_less_0
            have c13_less_1 : w13.cell? ⟨w3.heap.size, 1, none⟩ = some (.int .i64 ld) := (hd13 _ _ q_less).trans c12_less_1
            have c13_want_0 : w13.cell? ⟨w4.heap.size, 0, none⟩ = some (.int .i64 ln) := (hd13 _ _ q_want).trans c12_want_0
            have c13_want_1 : w13.cell? ⟨w4.heap.size, 1, none⟩ = some (.int .i64 ld) := (hd13 _ _ q_want).trans c12_want_1
            have c13_mirror_0 : w13.cell? ⟨w7.heap.size, 0, none⟩ = some (.int .i64 mn) := (hd13 _ _ q_mirror).trans c12_mirror_0
            have c13_mirror_1 : w13.cell? ⟨w7.heap.size, 1, none⟩ = some (.int .i64 md) := (hd13 _ _ q_mirror).trans c12_mirror_1
            have c13_value_0 : w13.cell? ⟨w8.heap.size, 0, none⟩ = some (.int .i64 mn) := (hd13 _ _ q_value).trans c12_value_0
            have c13_value_1 : w13.cell? ⟨w8.heap.size, 1, none⟩ = some (.int .i64 md) := (hd13 _ _ q_value).trans c12_value_1
            replace q_a : w.heap.size < w13.heap.size := by omega
            replace q_b : w.heap.size + 1 < w13.heap.size := by omega
            replace q_t : w.heap.size + 1 + 1 < w13.heap.size := by omega
            replace q_sum : w1.heap.size < w13.heap.size := by omega
            replace q_right : w2.heap.size < w13.heap.size := by omega
            replace q_less : w3.heap.size < w13.heap.size := by omega
            replace q_want : w4.heap.size < w13.heap.size := by omega
            replace q_mirror : w7.heap.size < w13.heap.size := by omega
            replace q_value : w8.heap.size < w13.heap.size := by omega
            have c13_back_0 : w13.cell? ⟨w12.heap.size, 0, none⟩ = some (.int .i64 n0) := (hc13 _ _ (by go_size)).trans (by go_simp)
            have c13_back_1 : w13.cell? ⟨w12.heap.size, 1, none⟩ = some (.int .i64 d0) := (hc13 _ _ (by go_size)).trans (by go_simp)
            have q_back : w12.heap.size < w13.heap.size := by omega
            have BW13 : Below w.heap.size w w13 := BW12.trans (B13.mono BW12.size)
            have BX13 : Below w11.heap.size w11 w13 := BX12.trans (B13.mono BX12.size)
            clear BX12
            clear hc13 hf13 hb13 hd13 B13 c12_a_0 c12_a_1 c12_b_0 c12_b_1 c12_t_0 c12_t_1 c12_sum_0 c12_sum_1 c12_right_0 c12_right_1 c12_less_0 c12_less_1 c12_want_0 c12_want_1 c12_mirror_0 c12_mirror_1 c12_value_0 c12_value_1 BW12
            have hrelB := BX13
            go_wp2_with fail
            go_meet
            case rel => exact hrelB
      case rest =>
        obtain ⟨w12, hw12⟩ : ∃ x : World, x = wc := ⟨_, rfl⟩
        subst hw12
        have hb12 := hcut
        obtain ⟨hc12, hf12⟩ := bcell hb12
        have hz12 := hb12.size
        (try simp only [World.size_alloc, World.size_setCell, World.size_drew] at hz12)
        have B12 : Below w11.heap.size w11 w12 := Below.trans (b := _) (by (repeat' (first | (with_reducible exact Below.refl _ _) | (with_reducible assumption) | (with_reducible refine Below.alloc ?_ ?_ _) | (with_reducible refine Below.drew ?_) | (with_reducible refine below_drewN ?_ _) | (with_reducible refine Below.setCell ?_ ?_ _) | (with_reducible refine below_call ?_ ?_ (by assumption)) | go_size))) (hb12.mono (by first | omega | (simp only [World.size_alloc, World.size_setCell, World.size_drew]; omega)))
        obtain ⟨hd12, -⟩ := bcell B12
        have c12_a_0 : w12.cell? ⟨w.heap.size, 0, none⟩ = some (.int .i64 n0) := (hd12 _ _ q_a).trans c11_a_0
        have c12_a_1 : w12.cell? ⟨w.heap.size, 1, none⟩ = some (.int .i64 d0) := (hd12 _ _ q_a).trans c11_a_1
        have c12_b_0 : w12.cell? ⟨w.heap.size + 1, 0, none⟩ = some (.int .i64 n1) := (hd12 _ _ q_b).trans c11_b_0
        have c12_b_1 : w12.cell? ⟨w.heap.size + 1, 1, none⟩ = some (.int .i64 d1) := (hd12 _ _ q_b).trans c11_b_1
        have c12_t_0 : w12.cell? ⟨w.heap.size + 1 + 1, 0, none⟩ = some (.int .i64 n2) := (hd12 _ _ q_t).trans c11_t_0
        have c12_t_1 : w12.cell? ⟨w.heap.size + 1 + 1, 1, none⟩ = some (.int .i64 d2) := (hd12 _ _ q_t).trans c11_t_1
        have c12_sum_0 : w12.cell? ⟨w1.heap.size, 0, none⟩ = some (.int .i64 sn) := (hd12 _ _ q_sum).trans c11_sum_0
        have c12_sum_1 : w12.cell? ⟨w1.heap.size, 1, none⟩ = some (.int .i64 sd) := (hd12 _ _ q_sum).trans c11_sum_1
        have c12_right_0 : w12.cell? ⟨w2.heap.size, 0, none⟩ = some (.int .i64 sn) := (hd12 _ _ q_right).trans c11_right_0
        have c12_right_1 : w12.cell? ⟨w2.heap.size, 1, none⟩ = some (.int .i64 sd) := (hd12 _ _ q_right).trans c11_right_1
        have c12_less_0 : w12.cell? ⟨w3.heap.size, 0, none⟩ = some (.int .i64 ln) := (hd12 _ _ q_less).trans c11_less_0
        have c12_less_1 : w12.cell? ⟨w3.heap.size, 1, none⟩ = some (.int .i64 ld) := (hd12 _ _ q_less).trans c11_less_1
        have c12_want_0 : w12.cell? ⟨w4.heap.size, 0, none⟩ = some (.int .i64 ln) := (hd12 _ _ q_want).trans c11_want_0
        have c12_want_1 : w12.cell? ⟨w4.heap.size, 1, none⟩ = some (.int .i64 ld) := (hd12 _ _ q_want).trans c11_want_1
        have c12_mirror_0 : w12.cell? ⟨w7.heap.size, 0, none⟩ = some (.int .i64 mn) := (hd12 _ _ q_mirror).trans c11_mirror_0
        have c12_mirror_1 : w12.cell? ⟨w7.heap.size, 1, none⟩ = some (.int .i64 md) := (hd12 _ _ q_mirror).trans c11_mirror_1
        have c12_value_0 : w12.cell? ⟨w8.heap.size, 0, none⟩ = some (.int .i64 mn) := (hd12 _ _ q_value).trans c11_value_0
        have c12_value_1 : w12.cell? ⟨w8.heap.size, 1, none⟩ = some (.int .i64 md) := (hd12 _ _ q_value).trans c11_value_1
        replace q_a : w.heap.size < w12.heap.size := by omega
        replace q_b : w.heap.size + 1 < w12.heap.size := by omega
        replace q_t : w.heap.size + 1 + 1 < w12.heap.size := by omega
        replace q_sum : w1.heap.size < w12.heap.size := by omega
        replace q_right : w2.heap.size < w12.heap.size := by omega
        replace q_less : w3.heap.size < w12.heap.size := by omega
        replace q_want : w4.heap.size < w12.heap.size := by omega
        replace q_mirror : w7.heap.size < w12.heap.size := by omega
        replace q_value : w8.heap.size < w12.heap.size := by omega
        have BW12 : Below w.heap.size w w12 := BW11.trans (B12.mono BW11.size)
        clear hc12 hf12 hb12 hd12 B12 c11_a_0 c11_a_1 c11_b_0 c11_b_1 c11_t_0 c11_t_1 c11_sum_0 c11_sum_1 c11_right_0 c11_right_1 c11_less_0 c11_less_1 c11_want_0 c11_want_1 c11_mirror_0 c11_mirror_1 c11_value_0 c11_value_1 BW11
        go_upto_if 231 with fail
        go_cut [] from 999 to 999 (fun wx => Below w12.heap.size w12 wx)
        case first =>
          as_aux_lemma =>
            cases mo
            · go_wp2_with fail
              go_meet
              case rel => exact Below.refl _ _
            · obtain ⟨h1, h2⟩ := FM2.out rfl
              have Z1 := Lib.hid (fun W => (show Calls Try.prog 7 #[tv n0 d0, tv mn md] W fun e w' => e = .returned (rv (0, 1, true)) ∧ Below W.heap.size W w' from by have := implAddTurns_any n0 d0 mn md W; rw [h1] at this; exact this))
              have Z3 := Lib.hid (fun W => (show Calls Try.prog 13 #[tv mn md] W fun e w' => e = .returned (rv (n0, d0, true)) ∧ Below W.heap.size W w' from by have := implMirrorTurn_any mn md W; rw [h2] at this; exact this))
              clear h1 h2
              go_wp2_with fail
              refine (Z1.out _).mono ?_
              rintro e13 w13 ⟨rfl, hb13⟩
              obtain ⟨hc13, hf13⟩ := bcell hb13
              have hz13 := hb13.size
              (try simp only [World.size_alloc, World.size_setCell, World.size_drew] at hz13)
              have B13 : Below w12.heap.size w12 w13 := Below.trans (b := _) (by (repeat' (first | (with_reducible exact Below.refl _ _) | (with_reducible assumption) | (with_reducible refine Below.alloc ?_ ?_ _) | (with_reducible refine Below.drew ?_) | (with_reducible refine below_drewN ?_ _) | (with_reducible refine Below.setCell ?_ ?_ _) | (with_reducible refine below_call ?_ ?_ (by assumption)) | go_size))) (hb13.mono (by first | omega | (simp only [World.size_alloc, World.size_setCell, World.size_drew]; omega)))
              obtain ⟨hd13, -⟩ := bcell B13
              have c13_a_0 : w13.cell? ⟨w.heap.size, 0, none⟩ = some (.int .i64 n0) := (hd13 _ _ q_a).trans c12_a_0
              have c13_a_1 : w13.cell? ⟨w.heap.size, 1, none⟩ = some (.int .i64 d0) := (hd13 _ _ q_a).trans c12_a_1
              have c13_b_0 : w13.cell? ⟨w.heap.size + 1, 0, none⟩ = some (.int .i64 n1) := (hd13 _ _ q_b).trans c12_b_0
              have c13_b_1 : w13.cell? ⟨w.heap.size + 1, 1, none⟩ = some (.int .i64 d1) := (hd13 _ _ q_b).trans c12_b_1
              have c13_t_0 : w13.cell? ⟨w.heap.size + 1 + 1, 0, none⟩ = some (.int .i64 n2) := (hd13 _ _ q_t).trans c12_t_0
              have c13_t_1 : w13.cell? ⟨w.heap.size + 1 + 1, 1, none⟩ = some (.int .i64 d2) := (hd13 _ _ q_t).trans c12_t_1
              have c13_sum_0 : w13.cell? ⟨w1.heap.size, 0, none⟩ = some (.int .i64 sn) := (hd13 _ _ q_sum).trans c12_sum_0
              have c13_sum_1 : w13.cell? ⟨w1.heap.size, 1, none⟩ = some (.int .i64 sd) := (hd13 _ _ q_sum).trans c12_sum_1
              have c13_right_0 : w13.cell? ⟨w2.heap.size, 0, none⟩ = some (.int .i64 sn) := (hd13 _ _ q_right).trans c12_right_0
              have c13_right_1 : w13.cell? ⟨w2.heap.size, 1, none⟩ = some (.int .i64 sd) := (hd13 _ _ q_right).trans c12_right_1
              have c13_less_0 : w13.cell? ⟨w3.heap.size, 0, none⟩ = some (.int .i64 ln) := (hd13 _ _ q_less).trans c12_less_0
              have c13_less_1 : w13.cell? ⟨w3.heap.size, 1, none⟩ = some (.int .i64 ld) := (hd13 _ _ q_less).trans c12_less_1
              have c13_want_0 : w13.cell? ⟨w4.heap.size, 0, none⟩ = some (.int .i64 ln) := (hd13 _ _ q_want).trans c12_want_0
              have c13_want_1 : w13.cell? ⟨w4.heap.size, 1, none⟩ = some (.int .i64 ld) := (hd13 _ _ q_want).trans c12_want_1
              have c13_mirror_0 : w13.cell? ⟨w7.heap.size, 0, none⟩ = some (.int .i64 mn) := (hd13 _ _ q_mirror).trans c12_mirror_0
              have c13_mirror_1 : w13.cell? ⟨w7.heap.size, 1, none⟩ = some (.int .i64 md) := (hd13 _ _ q_mirror).trans c12_mirror_1
              have c13_value_0 : w13.cell? ⟨w8.heap.size, 0, none⟩ = some (.int .i64 mn) := (hd13 _ _ q_value).trans c12_value_0
              have c13_value_1 : w13.cell? ⟨w8.heap.size, 1, none⟩ = some (.int .i64 md) := (hd13 _ _ q_value).trans c12_value_1
              replace q_a : w.heap.size < w13.heap.size := by omega
              replace q_b : w.heap.size + 1 < w13.heap.size := by omega
              replace q_t : w.heap.size + 1 + 1 < w13.heap.size := by omega
              replace q_sum : w1.heap.size < w13.heap.size := by omega
              replace q_right : w2.heap.size < w13.heap.size := by omega
              replace q_less : w3.heap.size < w13.heap.size := by omega
              replace q_want : w4.heap.size < w13.heap.size := by omega
              replace q_mirror : w7.heap.size < w13.heap.size := by omega
              replace q_value : w8.heap.size < w13.heap.size := by omega
              have BW13 : Below w.heap.size w w13 := BW12.trans (B13.mono BW12.size)
              have BX13 : Below w12.heap.size w12 w13 := B13
              clear hc13 hf13 hb13 hd13 B13 c12_a_0 c12_a_1 c12_b_0 c12_b_1 c12_t_0 c12_t_1 c12_sum_0 c12_sum_1 c12_right_0 c12_right_1 c12_less_0 c12_less_1 c12_want_0 c12_want_1 c12_mirror_0 c12_mirror_1 c12_value_0 c12_value_1 BW12
              go_wp2_with fail
              refine (Z3.out _).mono ?_
              rintro e14 w14 ⟨rfl, hb14⟩
              obtain ⟨hc14, hf14⟩ := bcell hb14
              have hz14 := hb14.size
              (try simp only [World.size_alloc, World.size_setCell, World.size_drew] at hz14)
              have B14 : Below w13.heap.size w13 w14 := Below.trans (b := _) (by (repeat' (first | (with_reducible exact Below.refl _ _) | (with_reducible assumption) | (with_reducible refine Below.alloc ?_ ?_ _) | (with_reducible refine Below.drew ?_) | (with_reducible refine below_drewN ?_ _) | (with_reducible refine Below.setCell ?_ ?_ _) | (with_reducible refine below_call ?_ ?_ (by assumption)) | go_size))) (hb14.mono (by first | omega | (simp only [World.size_alloc, World.size_setCell, World.size_drew]; omega)))
              obtain ⟨hd14, -⟩ := bcell B14
              have c14_a_0 : w14.cell? ⟨w.heap.size, 0, none⟩ = some (.int .i64 n0) := (hd14 _ _ q_a).trans c13_a_0
              have c14_a_1 : w14.cell? ⟨w.heap.size, 1, none⟩ = some (.int .i64 d0) := (hd14 _ _ q_a).trans c13_a_1
              have c14_b_0 : w14.cell? ⟨w.heap.size + 1, 0, none⟩ = some (.int .i64 n1) := (hd14 _ _ q_b).trans c13_b_0
              have c14_b_1 : w14.cell? ⟨w.heap.size + 1, 1, none⟩ = some (.int .i64 d1) := (hd14 _ _ q_b).trans c13_b_1
              have c14_t_0 : w14.cell? ⟨w.heap.size + 1 + 1, 0, none⟩ = some (.int .i64 n2) := (hd14 _ _ q_t).trans c13_t_0
              have c14_t_1 : w14.cell? ⟨w.heap.size + 1 + 1, 1, none⟩ = some (.int .i64 d2) := (hd14 _ _ q_t).trans c13_t_1
              have c14_sum_0 : w14.cell? ⟨w1.heap.size, 0, none⟩ = some (.int .i64 sn) := (hd14 _ _ q_sum).trans c13_sum_0
              have c14_sum_1 : w14.cell? ⟨w1.heap.size, 1, none⟩ = some (.int .i64 sd) := (hd14 _ _ q_sum).trans c13_sum_1
              have c14_right_0 : w14.cell? ⟨w2.heap.size, 0, none⟩ = some (.int .i64 sn) := (hd14 _ _ q_right).trans c13_right_0
              have c14_right_1 : w14.cell? ⟨w2.heap.size, 1, none⟩ = some (.int .i64 sd) := (hd14 _ _ q_right).trans c13_right_1
              have c14_less_0 : w14.cell? ⟨w3.heap.size, 0, none⟩ = some (.int .i64 ln) := (hd14 _ _ q_less).trans c13_less_0
              have c14_less_1 : w14.cell? ⟨w3.heap.size, 1, none⟩ = some (.int .i64 ld) := (hd14 _ _ q_less).trans c13_less_1
              have c14_want_0 : w14.cell? ⟨w4.heap.size, 0, none⟩ = some (.int .i64 ln) := (hd14 _ _ q_want).trans c13_want_0
              have c14_want_1 : w14.cell? ⟨w4.heap.size, 1, none⟩ = some (.int .i64 ld) := (hd14 _ _ q_want).trans c13_want_1
              have c14_mirror_0 : w14.cell? ⟨w7.heap.size, 0, none⟩ = some (.int .i64 mn) := (hd14 _ _ q_mirror).trans c13_mirror_0
              have c14_mirror_1 : w14.cell? ⟨w7.heap.size, 1, none⟩ = some (.int .i64 md) := (hd14 _ _ q_mirror).trans c13_mirror_1
              have c14_value_0 : w14.cell? ⟨w8.heap.size, 0, none⟩ = some (.int .i64 mn) := (hd14 _ _ q_value).trans c13_value_0
              have c14_value_1 : w14.cell? ⟨w8.heap.size, 1, none⟩ = some (.int .i64 md) := (hd14 _ _ q_value).trans c13_value_1
              replace q_a : w.heap.size < w14.heap.size := by omega
              replace q_b : w.heap.size + 1 < w14.heap.size := by omega
              replace q_t : w.heap.size + 1 + 1 < w14.heap.size := by omega
              replace q_sum : w1.heap.size < w14.heap.size := by omega
              replace q_right : w2.heap.size < w14.heap.size := by omega
              replace q_less : w3.heap.size < w14.heap.size := by omega
              replace q_want : w4.heap.size < w14.heap.size := by omega
              replace q_mirror : w7.heap.size < w14.heap.size := by omega
              replace q_value : w8.heap.size < w14.heap.size := by omega
              have c14_none_0 : w14.cell? ⟨w13.heap.size, 0, none⟩ = some (.int .i64 0) := (hc14 _ _ (by go_size)).trans (by go_simp)
              have c14_none_1 : w14.cell? ⟨w13.heap.size, 1, none⟩ = some (.int .i64 1) := (hc14 _ _ (by go_size)).trans (by go_simp)
              have q_none : w13.heap.size < w14.heap.size := by omega
              have BW14 : Below w.heap.size w w14 := BW13.trans (B14.mono BW13.size)
              have BX14 : Below w12.heap.size w12 w14 := BX13.trans (B14.mono BX13.size)
              clear BX13
              clear hc14 hf14 hb14 hd14 B14 c13_a_0 c13_a_1 c13_b_0 c13_b_1 c13_t_0 c13_t_1 c13_sum_0 c13_sum_1 c13_right_0 c13_right_1 c13_less_0 c13_less_1 c13_want_0 c13_want_1 c13_mirror_0 c13_mirror_1 c13_value_0 c13_value_1 BW13
              go_upto_region 23 with fail
              have hb15 : Below w14.heap.size w14 (w14.alloc (Obj.cells #[.int .i64 n0, .int .i64 d0] 25)) := by (repeat' (first | (with_reducible exact Below.refl _ _) | (with_reducible assumption) | (with_reducible refine Below.alloc ?_ ?_ _) | (with_reducible refine Below.drew ?_) | (with_reducible refine below_drewN ?_ _) | (with_reducible refine Below.setCell ?_ ?_ _) | (with_reducible refine below_call ?_ ?_ (by assumption)) | go_size))
              have c15_again_0 : (w14.alloc (Obj.cells #[.int .i64 n0, .int .i64 d0] 25)).cell? ⟨w14.heap.size, 0, none⟩ = some (.int .i64 n0) := by go_simp
              have c15_again_1 : (w14.alloc (Obj.cells #[.int .i64 n0, .int .i64 d0] 25)).cell? ⟨w14.heap.size, 1, none⟩ = some (.int .i64 d0) := by go_simp
              have q_again : w14.heap.size < (w14.alloc (Obj.cells #[.int .i64 n0, .int .i64 d0] 25)).heap.size := by go_size
              generalize (w14.alloc (Obj.cells #[.int .i64 n0, .int .i64 d0] 25)) = w15 at *
              obtain ⟨hd15, -⟩ := bcell hb15
              have hz15 := hb15.size
              have c15_a_0 : w15.cell? ⟨w.heap.size, 0, none⟩ = some (.int .i64 n0) := (hd15 _ _ q_a).trans c14_a_0
              have c15_a_1 : w15.cell? ⟨w.heap.size, 1, none⟩ = some (.int .i64 d0) := (hd15 _ _ q_a).trans c14_a_1
              have c15_b_0 : w15.cell? ⟨w.heap.size + 1, 0, none⟩ = some (.int .i64 n1) := (hd15 _ _ q_b).trans c14_b_0
              have c15_b_1 : w15.cell? ⟨w.heap.size + 1, 1, none⟩ = some (.int .i64 d1) := (hd15 _ _ q_b).trans c14_b_1
              have c15_t_0 : w15.cell? ⟨w.heap.size + 1 + 1, 0, none⟩ = some (.int .i64 n2) := (hd15 _ _ q_t).trans c14_t_0
              have c15_t_1 : w15.cell? ⟨w.heap.size + 1 + 1, 1, none⟩ = some (.int .i64 d2) := (hd15 _ _ q_t).trans c14_t_1
              have c15_sum_0 : w15.cell? ⟨w1.heap.size, 0, none⟩ = some (.int .i64 sn) := (hd15 _ _ q_sum).trans c14_sum_0
              have c15_sum_1 : w15.cell? ⟨w1.heap.size, 1, none⟩ = some (.int .i64 sd) := (hd15 _ _ q_sum).trans c14_sum_1
              have c15_right_0 : w15.cell? ⟨w2.heap.size, 0, none⟩ = some (.int .i64 sn) := (hd15 _ _ q_right).trans c14_right_0
              have c15_right_1 : w15.cell? ⟨w2.heap.size, 1, none⟩ = some (.int .i64 sd) := (hd15 _ _ q_right).trans c14_right_1
              have c15_less_0 : w15.cell? ⟨w3.heap.size, 0, none⟩ = some (.int .i64 ln) := (hd15 _ _ q_less).trans c14_less_0
              have c15_less_1 : w15.cell? ⟨w3.heap.size, 1, none⟩ = some (.int .i64 ld) := (hd15 _ _ q_less).trans c14_less_1
              have c15_want_0 : w15.cell? ⟨w4.heap.size, 0, none⟩ = some (.int .i64 ln) := (hd15 _ _ q_want).trans c14_want_0
              have c15_want_1 : w15.cell? ⟨w4.heap.size, 1, none⟩ = some (.int .i64 ld) := (hd15 _ _ q_want).trans c14_want_1
              have c15_mirror_0 : w15.cell? ⟨w7.heap.size, 0, none⟩ = some (.int .i64 mn) := (hd15 _ _ q_mirror).trans c14_mirror_0
              have c15_mirror_1 : w15.cell? ⟨w7.heap.size, 1, none⟩ = some (.int .i64 md) := (hd15 _ _ q_mirror).trans c14_mirror_1
              have c15_value_0 : w15.cell? ⟨w8.heap.size, 0, none⟩ = some (.int .i64 mn) := (hd15 _ _ q_value).trans c14_value_0
              have c15_value_1 : w15.cell? ⟨w8.heap.size, 1, none⟩ = some (.int .i64 md) := (hd15 _ _ q_value).trans c14_value_1
              have c15_none_0 : w15.cell? ⟨w13.heap.size, 0, none⟩ = some (.int .i64 0) := (hd15 _ _ q_none).trans c14_none_0
              have c15_none_1 : w15.cell? ⟨w13.heap.size, 1, none⟩ = some (.int .i64 1) := (hd15 _ _ q_none).trans c14_none_1
              replace q_a : w.heap.size < w15.heap.size := by omega
              replace q_b : w.heap.size + 1 < w15.heap.size := by omega
              replace q_t : w.heap.size + 1 + 1 < w15.heap.size := by omega
              replace q_sum : w1.heap.size < w15.heap.size := by omega
              replace q_right : w2.heap.size < w15.heap.size := by omega
              replace q_less : w3.heap.size < w15.heap.size := by omega
              replace q_want : w4.heap.size < w15.heap.size := by omega
              replace q_mirror : w7.heap.size < w15.heap.size := by omega
              replace q_value : w8.heap.size < w15.heap.size := by omega
              replace q_none : w13.heap.size < w15.heap.size := by omega
              have BW15 : Below w.heap.size w w15 := BW14.trans (hb15.mono BW14.size)
              have BX15 : Below w12.heap.size w12 w15 := BX14.trans (hb15.mono BX14.size)
              clear BX14
              clear hb15 hd15 c14_a_0 c14_a_1 c14_b_0 c14_b_1 c14_t_0 c14_t_1 c14_sum_0 c14_sum_1 c14_right_0 c14_right_1 c14_less_0 c14_less_1 c14_want_0 c14_want_1 c14_mirror_0 c14_mirror_1 c14_value_0 c14_value_1 c14_none_0 c14_none_1 BW14
              have hrelB := BX15
              go_wp2_with fail
              go_meet
              case rel => exact hrelB
        case rest =>
          obtain ⟨w13, hw13⟩ : ∃ x : World, x = wc := ⟨_, rfl⟩
          subst hw13
          have hb13 := hcut
          obtain ⟨hc13, hf13⟩ := bcell hb13
          have hz13 := hb13.size
          (try simp only [World.size_alloc, World.size_setCell, World.size_drew] at hz13)
          have B13 : Below w12.heap.size w12 w13 := Below.trans (b := _) (by (repeat' (first | (with_reducible exact Below.refl _ _) | (with_reducible assumption) | (with_reducible refine Below.alloc ?_ ?_ _) | (with_reducible refine Below.drew ?_) | (with_reducible refine below_drewN ?_ _) | (with_reducible refine Below.setCell ?_ ?_ _) | (with_reducible refine below_call ?_ ?_ (by assumption)) | go_size))) (hb13.mono (by first | omega | (simp only [World.size_alloc, World.size_setCell, World.size_drew]; omega)))
          obtain ⟨hd13, -⟩ := bcell B13
          have c13_a_0 : w13.cell? ⟨w.heap.size, 0, none⟩ = some (.int .i64 n0) := (hd13 _ _ q_a).trans c12_a_0
          have c13_a_1 : w13.cell? ⟨w.heap.size, 1, none⟩ = some (.int .i64 d0) := (hd13 _ _ q_a).trans c12_a_1
          have c13_b_0 : w13.cell? ⟨w.heap.size + 1, 0, none⟩ = some (.int .i64 n1) := (hd13 _ _ q_b).trans c12_b_0
          have c13_b_1 : w13.cell? ⟨w.heap.size + 1, 1, none⟩ = some (.int .i64 d1) := (hd13 _ _ q_b).trans c12_b_1
          have c13_t_0 : w13.cell? ⟨w.heap.size + 1 + 1, 0, none⟩ = some (.int .i64 n2) := (hd13 _ _ q_t).trans c12_t_0
          have c13_t_1 : w13.cell? ⟨w.heap.size + 1 + 1, 1, none⟩ = some (.int .i64 d2) := (hd13 _ _ q_t).trans c12_t_1
          have c13_sum_0 : w13.cell? ⟨w1.heap.size, 0, none⟩ = some (.int .i64 sn) := (hd13 _ _ q_sum).trans c12_sum_0
          have c13_sum_1 : w13.cell? ⟨w1.heap.size, 1, none⟩ = some (.int .i64 sd) := (hd13 _ _ q_sum).trans c12_sum_1
          have c13_right_0 : w13.cell? ⟨w2.heap.size, 0, none⟩ = some (.int .i64 sn) := (hd13 _ _ q_right).trans c12_right_0
          have c13_right_1 : w13.cell? ⟨w2.heap.size, 1, none⟩ = some (.int .i64 sd) := (hd13 _ _ q_right).trans c12_right_1
          have c13_less_0 : w13.cell? ⟨w3.heap.size, 0, none⟩ = some (.int .i64 ln) := (hd13 _ _ q_less).trans c12_less_0
          have c13_less_1 : w13.cell? ⟨w3.heap.size, 1, none⟩ = some (.int .i64 ld) := (hd13 _ _ q_less).trans c12_less_1
          have c13_want_0 : w13.cell? ⟨w4.heap.size, 0, none⟩ = some (.int .i64 ln) := (hd13 _ _ q_want).trans c12_want_0
          have c13_want_1 : w13.cell? ⟨w4.heap.size, 1, none⟩ = some (.int .i64 ld) := (hd13 _ _ q_want).trans c12_want_1
          have c13_mirror_0 : w13.cell? ⟨w7.heap.size, 0, none⟩ = some (.int .i64 mn) := (hd13 _ _ q_mirror).trans c12_mirror_0
          have c13_mirror_1 : w13.cell? ⟨w7.heap.size, 1, none⟩ = some (.int .i64 md) := (hd13 _ _ q_mirror).trans c12_mirror_1
          have c13_value_0 : w13.cell? ⟨w8.heap.size, 0, none⟩ = some (.int .i64 mn) := (hd13 _ _ q_value).trans c12_value_0
          have c13_value_1 : w13.cell? ⟨w8.heap.size, 1, none⟩ = some (.int .i64 md) := (hd13 _ _ q_value).trans c12_value_1
          replace q_a : w.heap.size < w13.heap.size := by omega
          replace q_b : w.heap.size + 1 < w13.heap.size := by omega
          replace q_t : w.heap.size + 1 + 1 < w13.heap.size := by omega
          replace q_sum : w1.heap.size < w13.heap.size := by omega
          replace q_right : w2.heap.size < w13.heap.size := by omega
          replace q_less : w3.heap.size < w13.heap.size := by omega
          replace q_want : w4.heap.size < w13.heap.size := by omega
          replace q_mirror : w7.heap.size < w13.heap.size := by omega
          replace q_value : w8.heap.size < w13.heap.size := by omega
          have BW13 : Below w.heap.size w w13 := BW12.trans (B13.mono BW12.size)
          clear hc13 hf13 hb13 hd13 B13 c12_a_0 c12_a_1 c12_b_0 c12_b_1 c12_t_0 c12_t_1 c12_sum_0 c12_sum_1 c12_right_0 c12_right_1 c12_less_0 c12_less_1 c12_want_0 c12_want_1 c12_mirror_0 c12_mirror_1 c12_value_0 c12_value_1 BW12
          go_wp2_with fail
          refine (C9.out _).mono ?_
          rintro e14 w14 ⟨rfl, hb14⟩
          obtain ⟨hc14, hf14⟩ := bcell hb14
          have hz14 := hb14.size
          (try simp only [World.size_alloc, World.size_setCell, World.size_drew] at hz14)
          have B14 : Below w13.heap.size w13 w14 := Below.trans (b := _) (by (repeat' (first | (with_reducible exact Below.refl _ _) | (with_reducible assumption) | (with_reducible refine Below.alloc ?_ ?_ _) | (with_reducible refine Below.drew ?_) | (with_reducible refine below_drewN ?_ _) | (with_reducible refine Below.setCell ?_ ?_ _) | (with_reducible refine below_call ?_ ?_ (by assumption)) | go_size))) (hb14.mono (by first | omega | (simp only [World.size_alloc, World.size_setCell, World.size_drew]; omega)))
          obtain ⟨hd14, -⟩ := bcell B14
          have c14_a_0 : w14.cell? ⟨w.heap.size, 0, none⟩ = some (.int .i64 n0) := (hd14 _ _ q_a).trans c13_a_0
          have c14_a_1 : w14.cell? ⟨w.heap.size, 1, none⟩ = some (.int .i64 d0) := (hd14 _ _ q_a).trans c13_a_1
          have c14_b_0 : w14.cell? ⟨w.heap.size + 1, 0, none⟩ = some (.int .i64 n1) := (hd14 _ _ q_b).trans c13_b_0
          have c14_b_1 : w14.cell? ⟨w.heap.size + 1, 1, none⟩ = some (.int .i64 d1) := (hd14 _ _ q_b).trans c13_b_1
          have c14_t_0 : w14.cell? ⟨w.heap.size + 1 + 1, 0, none⟩ = some (.int .i64 n2) := (hd14 _ _ q_t).trans c13_t_0
          have c14_t_1 : w14.cell? ⟨w.heap.size + 1 + 1, 1, none⟩ = some (.int .i64 d2) := (hd14 _ _ q_t).trans c13_t_1
          have c14_sum_0 : w14.cell? ⟨w1.heap.size, 0, none⟩ = some (.int .i64 sn) := (hd14 _ _ q_sum).trans c13_sum_0
          have c14_sum_1 : w14.cell? ⟨w1.heap.size, 1, none⟩ = some (.int .i64 sd) := (hd14 _ _ q_sum).trans c13_sum_1
          have c14_right_0 : w14.cell? ⟨w2.heap.size, 0, none⟩ = some (.int .i64 sn) := (hd14 _ _ q_right).trans c13_right_0
          have c14_right_1 : w14.cell? ⟨w2.heap.size, 1, none⟩ = some (.int .i64 sd) := (hd14 _ _ q_right).trans c13_right_1
          have c14_less_0 : w14.cell? ⟨w3.heap.size, 0, none⟩ = some (.int .i64 ln) := (hd14 _ _ q_less).trans c13_less_0
          have c14_less_1 : w14.cell? ⟨w3.heap.size, 1, none⟩ = some (.int .i64 ld) := (hd14 _ _ q_less).trans c13_less_1
          have c14_want_0 : w14.cell? ⟨w4.heap.size, 0, none⟩ = some (.int .i64 ln) := (hd14 _ _ q_want).trans c13_want_0
          have c14_want_1 : w14.cell? ⟨w4.heap.size, 1, none⟩ = some (.int .i64 ld) := (hd14 _ _ q_want).trans c13_want_1
          have c14_mirror_0 : w14.cell? ⟨w7.heap.size, 0, none⟩ = some (.int .i64 mn) := (hd14 _ _ q_mirror).trans c13_mirror_0
          have c14_mirror_1 : w14.cell? ⟨w7.heap.size, 1, none⟩ = some (.int .i64 md) := (hd14 _ _ q_mirror).trans c13_mirror_1
          have c14_value_0 : w14.cell? ⟨w8.heap.size, 0, none⟩ = some (.int .i64 mn) := (hd14 _ _ q_value).trans c13_value_0
          have c14_value_1 : w14.cell? ⟨w8.heap.size, 1, none⟩ = some (.int .i64 md) := (hd14 _ _ q_value).trans c13_value_1
          replace q_a : w.heap.size < w14.heap.size := by omega
          replace q_b : w.heap.size + 1 < w14.heap.size := by omega
          replace q_t : w.heap.size + 1 + 1 < w14.heap.size := by omega
          replace q_sum : w1.heap.size < w14.heap.size := by omega
          replace q_right : w2.heap.size < w14.heap.size := by omega
          replace q_less : w3.heap.size < w14.heap.size := by omega
          replace q_want : w4.heap.size < w14.heap.size := by omega
          replace q_mirror : w7.heap.size < w14.heap.size := by omega
          replace q_value : w8.heap.size < w14.heap.size := by omega
          have BW14 : Below w.heap.size w w14 := BW13.trans (B14.mono BW13.size)
          clear hc14 hf14 hb14 hd14 B14 c13_a_0 c13_a_1 c13_b_0 c13_b_1 c13_t_0 c13_t_1 c13_sum_0 c13_sum_1 c13_right_0 c13_right_1 c13_less_0 c13_less_1 c13_want_0 c13_want_1 c13_mirror_0 c13_mirror_1 c13_value_0 c13_value_1 BW13
          go_wp2_with fail
          refine (C10.out _).mono ?_
          rintro e15 w15 ⟨rfl, hb15⟩
          obtain ⟨hc15, hf15⟩ := bcell hb15
          have hz15 := hb15.size
          (try simp only [World.size_alloc, World.size_setCell, World.size_drew] at hz15)
          have B15 : Below w14.heap.size w14 w15 := Below.trans (b := _) (by (repeat' (first | (with_reducible exact Below.refl _ _) | (with_reducible assumption) | (with_reducible refine Below.alloc ?_ ?_ _) | (with_reducible refine Below.drew ?_) | (with_reducible refine below_drewN ?_ _) | (with_reducible refine Below.setCell ?_ ?_ _) | (with_reducible refine below_call ?_ ?_ (by assumption)) | go_size))) (hb15.mono (by first | omega | (simp only [World.size_alloc, World.size_setCell, World.size_drew]; omega)))
          obtain ⟨hd15, -⟩ := bcell B15
          have c15_a_0 : w15.cell? ⟨w.heap.size, 0, none⟩ = some (.int .i64 n0) := (hd15 _ _ q_a).trans c14_a_0
          have c15_a_1 : w15.cell? ⟨w.heap.size, 1, none⟩ = some (.int .i64 d0) := (hd15 _ _ q_a).trans c14_a_1
          have c15_b_0 : w15.cell? ⟨w.heap.size + 1, 0, none⟩ = some (.int .i64 n1) := (hd15 _ _ q_b).trans c14_b_0
          have c15_b_1 : w15.cell? ⟨w.heap.size + 1, 1, none⟩ = some (.int .i64 d1) := (hd15 _ _ q_b).trans c14_b_1
          have c15_t_0 : w15.cell? ⟨w.heap.size + 1 + 1, 0, none⟩ = some (.int .i64 n2) := (hd15 _ _ q_t).trans c14_t_0
          have c15_t_1 : w15.cell? ⟨w.heap.size + 1 + 1, 1, none⟩ = some (.int .i64 d2) := (hd15 _ _ q_t).trans c14_t_1
          have c15_sum_0 : w15.cell? ⟨w1.heap.size, 0, none⟩ = some (.int .i64 sn) := (hd15 _ _ q_sum).trans c14_sum_0
          have c15_sum_1 : w15.cell? ⟨w1.heap.size, 1, none⟩ = some (.int .i64 sd) := (hd15 _ _ q_sum).trans c14_sum_1
          have c15_right_0 : w15.cell? ⟨w2.heap.size, 0, none⟩ = some (.int .i64 sn) := (hd15 _ _ q_right).trans c14_right_0
          have c15_right_1 : w15.cell? ⟨w2.heap.size, 1, none⟩ = some (.int .i64 sd) := (hd15 _ _ q_right).trans c14_right_1
          have c15_less_0 : w15.cell? ⟨w3.heap.size, 0, none⟩ = some (.int .i64 ln) := (hd15 _ _ q_less).trans c14_less_0
          have c15_less_1 : w15.cell? ⟨w3.heap.size, 1, none⟩ = some (.int .i64 ld) := (hd15 _ _ q_less).trans c14_less_1
          have c15_want_0 : w15.cell? ⟨w4.heap.size, 0, none⟩ = some (.int .i64 ln) := (hd15 _ _ q_want).trans c14_want_0
          have c15_want_1 : w15.cell? ⟨w4.heap.size, 1, none⟩ = some (.int .i64 ld) := (hd15 _ _ q_want).trans c14_want_1
          have c15_mirror_0 : w15.cell? ⟨w7.heap.size, 0, none⟩ = some (.int .i64 mn) := (hd15 _ _ q_mirror).trans c14_mirror_0
          have c15_mirror_1 : w15.cell? ⟨w7.heap.size, 1, none⟩ = some (.int .i64 md) := (hd15 _ _ q_mirror).trans c14_mirror_1
          have c15_value_0 : w15.cell? ⟨w8.heap.size, 0, none⟩ = some (.int .i64 mn) := (hd15 _ _ q_value).trans c14_value_0
          have c15_value_1 : w15.cell? ⟨w8.heap.size, 1, none⟩ = some (.int .i64 md) := (hd15 _ _ q_value).trans c14_value_1
          replace q_a : w.heap.size < w15.heap.size := by omega
          replace q_b : w.heap.size + 1 < w15.heap.size := by omega
          replace q_t : w.heap.size + 1 + 1 < w15.heap.size := by omega
          replace q_sum : w1.heap.size < w15.heap.size := by omega
          replace q_right : w2.heap.size < w15.heap.size := by omega
          replace q_less : w3.heap.size < w15.heap.size := by omega
          replace q_want : w4.heap.size < w15.heap.size := by omega
          replace q_mirror : w7.heap.size < w15.heap.size := by omega
          replace q_value : w8.heap.size < w15.heap.size := by omega
          have c15_times_0 : w15.cell? ⟨w14.heap.size, 0, none⟩ = some (.int .i64 un) := (hc15 _ _ (by go_size)).trans (by go_simp)
          have c15_times_1 : w15.cell? ⟨w14.heap.size, 1, none⟩ = some (.int .i64 ud) := (hc15 _ _ (by go_size)).trans (by go_simp)
          have q_times : w14.heap.size < w15.heap.size := by omega
          have BW15 : Below w.heap.size w w15 := BW14.trans (B15.mono BW14.size)
          clear hc15 hf15 hb15 hd15 B15 c14_a_0 c14_a_1 c14_b_0 c14_b_1 c14_t_0 c14_t_1 c14_sum_0 c14_sum_1 c14_right_0 c14_right_1 c14_less_0 c14_less_1 c14_want_0 c14_want_1 c14_mirror_0 c14_mirror_1 c14_value_0 c14_value_1 BW14
          go_wp2_with fail
          refine (C11.out _).mono ?_
          rintro e16 w16 ⟨rfl, hb16⟩
          obtain ⟨hc16, hf16⟩ := bcell hb16
          have hz16 := hb16.size
          (try simp only [World.size_alloc, World.size_setCell, World.size_drew] at hz16)
          have B16 : Below w15.heap.size w15 w16 := Below.trans (b := _) (by (repeat' (first | (with_reducible exact Below.refl _ _) | (with_reducible assumption) | (with_reducible refine Below.alloc ?_ ?_ _) | (with_reducible refine Below.drew ?_) | (with_reducible refine below_drewN ?_ _) | (with_reducible refine Below.setCell ?_ ?_ _) | (with_reducible refine below_call ?_ ?_ (by assumption)) | go_size))) (hb16.mono (by first | omega | (simp only [World.size_alloc, World.size_setCell, World.size_drew]; omega)))
          obtain ⟨hd16, -⟩ := bcell B16
          have c16_a_0 : w16.cell? ⟨w.heap.size, 0, none⟩ = some (.int .i64 n0) := (hd16 _ _ q_a).trans c15_a_0
          have c16_a_1 : w16.cell? ⟨w.heap.size, 1, none⟩ = some (.int .i64 d0) := (hd16 _ _ q_a).trans c15_a_1
          have c16_b_0 : w16.cell? ⟨w.heap.size + 1, 0, none⟩ = some (.int .i64 n1) := (hd16 _ _ q_b).trans c15_b_0
          have c16_b_1 : w16.cell? ⟨w.heap.size + 1, 1, none⟩ = some (.int .i64 d1) := (hd16 _ _ q_b).trans c15_b_1
          have c16_t_0 : w16.cell? ⟨w.heap.size + 1 + 1, 0, none⟩ = some (.int .i64 n2) := (hd16 _ _ q_t).trans c15_t_0
          have c16_t_1 : w16.cell? ⟨w.heap.size + 1 + 1, 1, none⟩ = some (.int .i64 d2) := (hd16 _ _ q_t).trans c15_t_1
          have c16_sum_0 : w16.cell? ⟨w1.heap.size, 0, none⟩ = some (.int .i64 sn) := (hd16 _ _ q_sum).trans c15_sum_0
          have c16_sum_1 : w16.cell? ⟨w1.heap.size, 1, none⟩ = some (.int .i64 sd) := (hd16 _ _ q_sum).trans c15_sum_1
          have c16_right_0 : w16.cell? ⟨w2.heap.size, 0, none⟩ = some (.int .i64 sn) := (hd16 _ _ q_right).trans c15_right_0
          have c16_right_1 : w16.cell? ⟨w2.heap.size, 1, none⟩ = some (.int .i64 sd) := (hd16 _ _ q_right).trans c15_right_1
          have c16_less_0 : w16.cell? ⟨w3.heap.size, 0, none⟩ = some (.int .i64 ln) := (hd16 _ _ q_less).trans c15_less_0
          have c16_less_1 : w16.cell? ⟨w3.heap.size, 1, none⟩ = some (.int .i64 ld) := (hd16 _ _ q_less).trans c15_less_1
          have c16_want_0 : w16.cell? ⟨w4.heap.size, 0, none⟩ = some (.int .i64 ln) := (hd16 _ _ q_want).trans c15_want_0
          have c16_want_1 : w16.cell? ⟨w4.heap.size, 1, none⟩ = some (.int .i64 ld) := (hd16 _ _ q_want).trans c15_want_1
          have c16_mirror_0 : w16.cell? ⟨w7.heap.size, 0, none⟩ = some (.int .i64 mn) := (hd16 _ _ q_mirror).trans c15_mirror_0
          have c16_mirror_1 : w16.cell? ⟨w7.heap.size, 1, none⟩ = some (.int .i64 md) := (hd16 _ _ q_mirror).trans c15_mirror_1
          have c16_value_0 : w16.cell? ⟨w8.heap.size, 0, none⟩ = some (.int .i64 mn) := (hd16 _ _ q_value).trans c15_value_0
          have c16_value_1 : w16.cell? ⟨w8.heap.size, 1, none⟩ = some (.int .i64 md) := (hd16 _ _ q_value).trans c15_value_1
          have c16_times_0 : w16.cell? ⟨w14.heap.size, 0, none⟩ = some (.int .i64 un) := (hd16 _ _ q_times).trans c15_times_0
          have c16_times_1 : w16.cell? ⟨w14.heap.size, 1, none⟩ = some (.int .i64 ud) := (hd16 _ _ q_times).trans c15_times_1
          replace q_a : w.heap.size < w16.heap.size := by omega
          replace q_b : w.heap.size + 1 < w16.heap.size := by omega
          replace q_t : w.heap.size + 1 + 1 < w16.heap.size := by omega
          replace q_sum : w1.heap.size < w16.heap.size := by omega
          replace q_right : w2.heap.size < w16.heap.size := by omega
          replace q_less : w3.heap.size < w16.heap.size := by omega
          replace q_want : w4.heap.size < w16.heap.size := by omega
          replace q_mirror : w7.heap.size < w16.heap.size := by omega
          replace q_value : w8.heap.size < w16.heap.size := by omega
          replace q_times : w14.heap.size < w16.heap.size := by omega
          have c16_due_0 : w16.cell? ⟨w15.heap.size, 0, none⟩ = some (.int .i64 un) := (hc16 _ _ (by go_size)).trans (by go_simp)
          have c16_due_1 : w16.cell? ⟨w15.heap.size, 1, none⟩ = some (.int .i64 ud) := (hc16 _ _ (by go_size)).trans (by go_simp)
          have q_due : w15.heap.size < w16.heap.size := by omega
          have BW16 : Below w.heap.size w w16 := BW15.trans (B16.mono BW15.size)
          clear hc16 hf16 hb16 hd16 B16 c15_a_0 c15_a_1 c15_b_0 c15_b_1 c15_t_0 c15_t_1 c15_sum_0 c15_sum_1 c15_right_0 c15_right_1 c15_less_0 c15_less_1 c15_want_0 c15_want_1 c15_mirror_0 c15_mirror_1 c15_value_0 c15_value_1 c15_times_0 c15_times_1 BW15
          go_wp2_with fail
          refine (C12.out _).mono ?_
          rintro e17 w17 ⟨rfl, hb17⟩
          obtain ⟨hc17, hf17⟩ := bcell hb17
          have hz17 := hb17.size
          (try simp only [World.size_alloc, World.size_setCell, World.size_drew] at hz17)
          have B17 : Below w16.heap.size w16 w17 := Below.trans (b := _) (by (repeat' (first | (with_reducible exact Below.refl _ _) | (with_reducible assumption) | (with_reducible refine Below.alloc ?_ ?_ _) | (with_reducible refine Below.drew ?_) | (with_reducible refine below_drewN ?_ _) | (with_reducible refine Below.setCell ?_ ?_ _) | (with_reducible refine below_call ?_ ?_ (by assumption)) | go_size))) (hb17.mono (by first | omega | (simp only [World.size_alloc, World.size_setCell, World.size_drew]; omega)))
          obtain ⟨hd17, -⟩ := bcell B17
          have c17_a_0 : w17.cell? ⟨w.heap.size, 0, none⟩ = some (.int .i64 n0) := (hd17 _ _ q_a).trans c16_a_0
          have c17_a_1 : w17.cell? ⟨w.heap.size, 1, none⟩ = some (.int .i64 d0) := (hd17 _ _ q_a).trans c16_a_1
          have c17_b_0 : w17.cell? ⟨w.heap.size + 1, 0, none⟩ = some (.int .i64 n1) := (hd17 _ _ q_b).trans c16_b_0
          have c17_b_1 : w17.cell? ⟨w.heap.size + 1, 1, none⟩ = some (.int .i64 d1) := (hd17 _ _ q_b).trans c16_b_1
          have c17_t_0 : w17.cell? ⟨w.heap.size + 1 + 1, 0, none⟩ = some (.int .i64 n2) := (hd17 _ _ q_t).trans c16_t_0
          have c17_t_1 : w17.cell? ⟨w.heap.size + 1 + 1, 1, none⟩ = some (.int .i64 d2) := (hd17 _ _ q_t).trans c16_t_1
          have c17_sum_0 : w17.cell? ⟨w1.heap.size, 0, none⟩ = some (.int .i64 sn) := (hd17 _ _ q_sum).trans c16_sum_0
          have c17_sum_1 : w17.cell? ⟨w1.heap.size, 1, none⟩ = some (.int .i64 sd) := (hd17 _ _ q_sum).trans c16_sum_1
          have c17_right_0 : w17.cell? ⟨w2.heap.size, 0, none⟩ = some (.int .i64 sn) := (hd17 _ _ q_right).trans c16_right_0
          have c17_right_1 : w17.cell? ⟨w2.heap.size, 1, none⟩ = some (.int .i64 sd) := (hd17 _ _ q_right).trans c16_right_1
          have c17_less_0 : w17.cell? ⟨w3.heap.size, 0, none⟩ = some (.int .i64 ln) := (hd17 _ _ q_less).trans c16_less_0
          have c17_less_1 : w17.cell? ⟨w3.heap.size, 1, none⟩ = some (.int .i64 ld) := (hd17 _ _ q_less).trans c16_less_1
          have c17_want_0 : w17.cell? ⟨w4.heap.size, 0, none⟩ = some (.int .i64 ln) := (hd17 _ _ q_want).trans c16_want_0
          have c17_want_1 : w17.cell? ⟨w4.heap.size, 1, none⟩ = some (.int .i64 ld) := (hd17 _ _ q_want).trans c16_want_1
          have c17_mirror_0 : w17.cell? ⟨w7.heap.size, 0, none⟩ = some (.int .i64 mn) := (hd17 _ _ q_mirror).trans c16_mirror_0
          have c17_mirror_1 : w17.cell? ⟨w7.heap.size, 1, none⟩ = some (.int .i64 md) := (hd17 _ _ q_mirror).trans c16_mirror_1
          have c17_value_0 : w17.cell? ⟨w8.heap.size, 0, none⟩ = some (.int .i64 mn) := (hd17 _ _ q_value).trans c16_value_0
          have c17_value_1 : w17.cell? ⟨w8.heap.size, 1, none⟩ = some (.int .i64 md) := (hd17 _ _ q_value).trans c16_value_1
          have c17_times_0 : w17.cell? ⟨w14.heap.size, 0, none⟩ = some (.int .i64 un) := (hd17 _ _ q_times).trans c16_times_0
          have c17_times_1 : w17.cell? ⟨w14.heap.size, 1, none⟩ = some (.int .i64 ud) := (hd17 _ _ q_times).trans c16_times_1
          have c17_due_0 : w17.cell? ⟨w15.heap.size, 0, none⟩ = some (.int .i64 un) := (hd17 _ _ q_due).trans c16_due_0
          have c17_due_1 : w17.cell? ⟨w15.heap.size, 1, none⟩ = some (.int .i64 ud) := (hd17 _ _ q_due).trans c16_due_1
          replace q_a : w.heap.size < w17.heap.size := by omega
          replace q_b : w.heap.size + 1 < w17.heap.size := by omega
          replace q_t : w.heap.size + 1 + 1 < w17.heap.size := by omega
          replace q_sum : w1.heap.size < w17.heap.size := by omega
          replace q_right : w2.heap.size < w17.heap.size := by omega
          replace q_less : w3.heap.size < w17.heap.size := by omega
          replace q_want : w4.heap.size < w17.heap.size := by omega
          replace q_mirror : w7.heap.size < w17.heap.size := by omega
          replace q_value : w8.heap.size < w17.heap.size := by omega
          replace q_times : w14.heap.size < w17.heap.size := by omega
          replace q_due : w15.heap.size < w17.heap.size := by omega
          have c17_part_0 : w17.cell? ⟨w16.heap.size, 0, none⟩ = some (.int .i64 pn) := (hc17 _ _ (by go_size)).trans (by go_simp)
          have c17_part_1 : w17.cell? ⟨w16.heap.size, 1, none⟩ = some (.int .i64 pd) := (hc17 _ _ (by go_size)).trans (by go_simp)
          have q_part : w16.heap.size < w17.heap.size := by omega
          have BW17 : Below w.heap.size w w17 := BW16.trans (B17.mono BW16.size)
          clear hc17 hf17 hb17 hd17 B17 c16_a_0 c16_a_1 c16_b_0 c16_b_1 c16_t_0 c16_t_1 c16_sum_0 c16_sum_1 c16_right_0 c16_right_1 c16_less_0 c16_less_1 c16_want_0 c16_want_1 c16_mirror_0 c16_mirror_1 c16_value_0 c16_value_1 c16_times_0 c16_times_1 c16_due_0 c16_due_1 BW16
          go_wp2_with fail
          refine (C13.out _).mono ?_
          rintro e18 w18 ⟨rfl, hb18⟩
          obtain ⟨hc18, hf18⟩ := bcell hb18
          have hz18 := hb18.size
          (try simp only [World.size_alloc, World.size_setCell, World.size_drew] at hz18)
          have B18 : Below w17.heap.size w17 w18 := Below.trans (b := _) (by (repeat' (first | (with_reducible exact Below.refl _ _) | (with_reducible assumption) | (with_reducible refine Below.alloc ?_ ?_ _) | (with_reducible refine Below.drew ?_) | (with_reducible refine below_drewN ?_ _) | (with_reducible refine Below.setCell ?_ ?_ _) | (with_reducible refine below_call ?_ ?_ (by assumption)) | go_size))) (hb18.mono (by first | omega | (simp only [World.size_alloc, World.size_setCell, World.size_drew]; omega)))
          obtain ⟨hd18, -⟩ := bcell B18
          have c18_a_0 : w18.cell? ⟨w.heap.size, 0, none⟩ = some (.int .i64 n0) := (hd18 _ _ q_a).trans c17_a_0
          have c18_a_1 : w18.cell? ⟨w.heap.size, 1, none⟩ = some (.int .i64 d0) := (hd18 _ _ q_a).trans c17_a_1
          have c18_b_0 : w18.cell? ⟨w.heap.size + 1, 0, none⟩ = some (.int .i64 n1) := (hd18 _ _ q_b).trans c17_b_0
          have c18_b_1 : w18.cell? ⟨w.heap.size + 1, 1, none⟩ = some (.int .i64 d1) := (hd18 _ _ q_b).trans c17_b_1
          have c18_t_0 : w18.cell? ⟨w.heap.size + 1 + 1, 0, none⟩ = some (.int .i64 n2) := (hd18 _ _ q_t).trans c17_t_0
          have c18_t_1 : w18.cell? ⟨w.heap.size + 1 + 1, 1, none⟩ = some (.int .i64 d2) := (hd18 _ _ q_t).trans c17_t_1
          have c18_sum_0 : w18.cell? ⟨w1.heap.size, 0, none⟩ = some (.int .i64 sn) := (hd18 _ _ q_sum).trans c17_sum_0
          have c18_sum_1 : w18.cell? ⟨w1.heap.size, 1, none⟩ = some (.int .i64 sd) := (hd18 _ _ q_sum).trans c17_sum_1
          have c18_right_0 : w18.cell? ⟨w2.heap.size, 0, none⟩ = some (.int .i64 sn) := (hd18 _ _ q_right).trans c17_right_0
          have c18_right_1 : w18.cell? ⟨w2.heap.size, 1, none⟩ = some (.int .i64 sd) := (hd18 _ _ q_right).trans c17_right_1
          have c18_less_0 : w18.cell? ⟨w3.heap.size, 0, none⟩ = some (.int .i64 ln) := (hd18 _ _ q_less).trans c17_less_0
          have c18_less_1 : w18.cell? ⟨w3.heap.size, 1, none⟩ = some (.int .i64 ld) := (hd18 _ _ q_less).trans c17_less_1
          have c18_want_0 : w18.cell? ⟨w4.heap.size, 0, none⟩ = some (.int .i64 ln) := (hd18 _ _ q_want).trans c17_want_0
          have c18_want_1 : w18.cell? ⟨w4.heap.size, 1, none⟩ = some (.int .i64 ld) := (hd18 _ _ q_want).trans c17_want_1
          have c18_mirror_0 : w18.cell? ⟨w7.heap.size, 0, none⟩ = some (.int .i64 mn) := (hd18 _ _ q_mirror).trans c17_mirror_0
          have c18_mirror_1 : w18.cell? ⟨w7.heap.size, 1, none⟩ = some (.int .i64 md) := (hd18 _ _ q_mirror).trans c17_mirror_1
          have c18_value_0 : w18.cell? ⟨w8.heap.size, 0, none⟩ = some (.int .i64 mn) := (hd18 _ _ q_value).trans c17_value_0
          have c18_value_1 : w18.cell? ⟨w8.heap.size, 1, none⟩ = some (.int .i64 md) := (hd18 _ _ q_value).trans c17_value_1
          have c18_times_0 : w18.cell? ⟨w14.heap.size, 0, none⟩ = some (.int .i64 un) := (hd18 _ _ q_times).trans c17_times_0
          have c18_times_1 : w18.cell? ⟨w14.heap.size, 1, none⟩ = some (.int .i64 ud) := (hd18 _ _ q_times).trans c17_times_1
          have c18_due_0 : w18.cell? ⟨w15.heap.size, 0, none⟩ = some (.int .i64 un) := (hd18 _ _ q_due).trans c17_due_0
          have c18_due_1 : w18.cell? ⟨w15.heap.size, 1, none⟩ = some (.int .i64 ud) := (hd18 _ _ q_due).trans c17_due_1
          have c18_part_0 : w18.cell? ⟨w16.heap.size, 0, none⟩ = some (.int .i64 pn) := (hd18 _ _ q_part).trans c17_part_0
          have c18_part_1 : w18.cell? ⟨w16.heap.size, 1, none⟩ = some (.int .i64 pd) := (hd18 _ _ q_part).trans c17_part_1
          replace q_a : w.heap.size < w18.heap.size := by omega
          replace q_b : w.heap.size + 1 < w18.heap.size := by omega
          replace q_t : w.heap.size + 1 + 1 < w18.heap.size := by omega
          replace q_sum : w1.heap.size < w18.heap.size := by omega
          replace q_right : w2.heap.size < w18.heap.size := by omega
          replace q_less : w3.heap.size < w18.heap.size := by omega
          replace q_want : w4.heap.size < w18.heap.size := by omega
          replace q_mirror : w7.heap.size < w18.heap.size := by omega
          replace q_value : w8.heap.size < w18.heap.size := by omega
          replace q_times : w14.heap.size < w18.heap.size := by omega
          replace q_due : w15.heap.size < w18.heap.size := by omega
          replace q_part : w16.heap.size < w18.heap.size := by omega
          have c18_list_0 : w18.cell? ⟨w17.heap.size, 0, none⟩ = some (.int .i64 pn) := (hc18 _ _ (by go_size)).trans (by go_simp)
          have c18_list_1 : w18.cell? ⟨w17.heap.size, 1, none⟩ = some (.int .i64 pd) := (hc18 _ _ (by go_size)).trans (by go_simp)
          have q_list : w17.heap.size < w18.heap.size := by omega
          have BW18 : Below w.heap.size w w18 := BW17.trans (B18.mono BW17.size)
          clear hc18 hf18 hb18 hd18 B18 c17_a_0 c17_a_1 c17_b_0 c17_b_1 c17_t_0 c17_t_1 c17_sum_0 c17_sum_1 c17_right_0 c17_right_1 c17_less_0 c17_less_1 c17_want_0 c17_want_1 c17_mirror_0 c17_mirror_1 c17_value_0 c17_value_1 c17_times_0 c17_times_1 c17_due_0 c17_due_1 c17_part_0 c17_part_1 BW17
          go_wp2_with fail
          refine (C14.out _).mono ?_
          rintro e19 w19 ⟨rfl, hb19⟩
          obtain ⟨hc19, hf19⟩ := bcell hb19
          have hz19 := hb19.size
          (try simp only [World.size_alloc, World.size_setCell, World.size_drew] at hz19)
          have B19 : Below w18.heap.size w18 w19 := Below.trans (b := _) (by (repeat' (first | (with_reducible exact Below.refl _ _) | (with_reducible assumption) | (with_reducible refine Below.alloc ?_ ?_ _) | (with_reducible refine Below.drew ?_) | (with_reducible refine below_drewN ?_ _) | (with_reducible refine Below.setCell ?_ ?_ _) | (with_reducible refine below_call ?_ ?_ (by assumption)) | go_size))) (hb19.mono (by first | omega | (simp only [World.size_alloc, World.size_setCell, World.size_drew]; omega)))
          obtain ⟨hd19, -⟩ := bcell B19
          have c19_a_0 : w19.cell? ⟨w.heap.size, 0, none⟩ = some (.int .i64 n0) := (hd19 _ _ q_a).trans c18_a_0
          have c19_a_1 : w19.cell? ⟨w.heap.size, 1, none⟩ = some (.int .i64 d0) := (hd19 _ _ q_a).trans c18_a_1
          have c19_b_0 : w19.cell? ⟨w.heap.size + 1, 0, none⟩ = some (.int .i64 n1) := (hd19 _ _ q_b).trans c18_b_0
          have c19_b_1 : w19.cell? ⟨w.heap.size + 1, 1, none⟩ = some (.int .i64 d1) := (hd19 _ _ q_b).trans c18_b_1
          have c19_t_0 : w19.cell? ⟨w.heap.size + 1 + 1, 0, none⟩ = some (.int .i64 n2) := (hd19 _ _ q_t).trans c18_t_0
          have c19_t_1 : w19.cell? ⟨w.heap.size + 1 + 1, 1, none⟩ = some (.int .i64 d2) := (hd19 _ _ q_t).trans c18_t_1
          have c19_sum_0 : w19.cell? ⟨w1.heap.size, 0, none⟩ = some (.int .i64 sn) := (hd19 _ _ q_sum).trans c18_sum_0
          have c19_sum_1 : w19.cell? ⟨w1.heap.size, 1, none⟩ = some (.int .i64 sd) := (hd19 _ _ q_sum).trans c18_sum_1
          have c19_right_0 : w19.cell? ⟨w2.heap.size, 0, none⟩ = some (.int .i64 sn) := (hd19 _ _ q_right).trans c18_right_0
          have c19_right_1 : w19.cell? ⟨w2.heap.size, 1, none⟩ = some (.int .i64 sd) := (hd19 _ _ q_right).trans c18_right_1
          have c19_less_0 : w19.cell? ⟨w3.heap.size, 0, none⟩ = some (.int .i64 ln) := (hd19 _ _ q_less).trans c18_less_0
          have c19_less_1 : w19.cell? ⟨w3.heap.size, 1, none⟩ = some (.int .i64 ld) := (hd19 _ _ q_less).trans c18_less_1
          have c19_want_0 : w19.cell? ⟨w4.heap.size, 0, none⟩ = some (.int .i64 ln) := (hd19 _ _ q_want).trans c18_want_0
          have c19_want_1 : w19.cell? ⟨w4.heap.size, 1, none⟩ = some (.int .i64 ld) := (hd19 _ _ q_want).trans c18_want_1
          have c19_mirror_0 : w19.cell? ⟨w7.heap.size, 0, none⟩ = some (.int .i64 mn) := (hd19 _ _ q_mirror).trans c18_mirror_0
          have c19_mirror_1 : w19.cell? ⟨w7.heap.size, 1, none⟩ = some (.int .i64 md) := (hd19 _ _ q_mirror).trans c18_mirror_1
          have c19_value_0 : w19.cell? ⟨w8.heap.size, 0, none⟩ = some (.int .i64 mn) := (hd19 _ _ q_value).trans c18_value_0
          have c19_value_1 : w19.cell? ⟨w8.heap.size, 1, none⟩ = some (.int .i64 md) := (hd19 _ _ q_value).trans c18_value_1
          have c19_times_0 : w19.cell? ⟨w14.heap.size, 0, none⟩ = some (.int .i64 un) := (hd19 _ _ q_times).trans c18_times_0
          have c19_times_1 : w19.cell? ⟨w14.heap.size, 1, none⟩ = some (.int .i64 ud) := (hd19 _ _ q_times).trans c18_times_1
          have c19_due_0 : w19.cell? ⟨w15.heap.size, 0, none⟩ = some (.int .i64 un) := (hd19 _ _ q_due).trans c18_due_0
          have c19_due_1 : w19.cell? ⟨w15.heap.size, 1, none⟩ = some (.int .i64 ud) := (hd19 _ _ q_due).trans c18_due_1
          have c19_part_0 : w19.cell? ⟨w16.heap.size, 0, none⟩ = some (.int .i64 pn) := (hd19 _ _ q_part).trans c18_part_0
          have c19_part_1 : w19.cell? ⟨w16.heap.size, 1, none⟩ = some (.int .i64 pd) := (hd19 _ _ q_part).trans c18_part_1
          have c19_list_0 : w19.cell? ⟨w17.heap.size, 0, none⟩ = some (.int .i64 pn) := (hd19 _ _ q_list).trans c18_list_0
          have c19_list_1 : w19.cell? ⟨w17.heap.size, 1, none⟩ = some (.int .i64 pd) := (hd19 _ _ q_list).trans c18_list_1
          replace q_a : w.heap.size < w19.heap.size := by omega
          replace q_b : w.heap.size + 1 < w19.heap.size := by omega
          replace q_t : w.heap.size + 1 + 1 < w19.heap.size := by omega
          replace q_sum : w1.heap.size < w19.heap.size := by omega
          replace q_right : w2.heap.size < w19.heap.size := by omega
          replace q_less : w3.heap.size < w19.heap.size := by omega
          replace q_want : w4.heap.size < w19.heap.size := by omega
          replace q_mirror : w7.heap.size < w19.heap.size := by omega
          replace q_value : w8.heap.size < w19.heap.size := by omega
          replace q_times : w14.heap.size < w19.heap.size := by omega
          replace q_due : w15.heap.size < w19.heap.size := by omega
          replace q_part : w16.heap.size < w19.heap.size := by omega
          replace q_list : w17.heap.size < w19.heap.size := by omega
          have c19_made_0 : w19.cell? ⟨w18.heap.size, 0, none⟩ = some (.int .i64 kn) := (hc19 _ _ (by go_size)).trans (by go_simp)
          have c19_made_1 : w19.cell? ⟨w18.heap.size, 1, none⟩ = some (.int .i64 kd) := (hc19 _ _ (by go_size)).trans (by go_simp)
          have q_made : w18.heap.size < w19.heap.size := by omega
          have BW19 : Below w.heap.size w w19 := BW18.trans (B19.mono BW18.size)
          clear hc19 hf19 hb19 hd19 B19 c18_a_0 c18_a_1 c18_b_0 c18_b_1 c18_t_0 c18_t_1 c18_sum_0 c18_sum_1 c18_right_0 c18_right_1 c18_less_0 c18_less_1 c18_want_0 c18_want_1 c18_mirror_0 c18_mirror_1 c18_value_0 c18_value_1 c18_times_0 c18_times_1 c18_due_0 c18_due_1 c18_part_0 c18_part_1 c18_list_0 c18_list_1 BW18
          go_upto_region 31 with fail
          have hb20 : Below w19.heap.size w19 (w19.alloc (Obj.cells #[.int .i64 kn, .int .i64 kd] 25)) := by (repeat' (first | (with_reducible exact Below.refl _ _) | (with_reducible assumption) | (with_reducible refine Below.alloc ?_ ?_ _) | (with_reducible refine Below.drew ?_) | (with_reducible refine below_drewN ?_ _) | (with_reducible refine Below.setCell ?_ ?_ _) | (with_reducible refine below_call ?_ ?_ (by assumption)) | go_size))
          have c20_number_0 : (w19.alloc (Obj.cells #[.int .i64 kn, .int .i64 kd] 25)).cell? ⟨w19.heap.size, 0, none⟩ = some (.int .i64 kn) := by go_simp
          have c20_number_1 : (w19.alloc (Obj.cells #[.int .i64 kn, .int .i64 kd] 25)).cell? ⟨w19.heap.size, 1, none⟩ = some (.int .i64 kd) := by go_simp
          have q_number : w19.heap.size < (w19.alloc (Obj.cells #[.int .i64 kn, .int .i64 kd] 25)).heap.size := by go_size
          generalize (w19.alloc (Obj.cells #[.int .i64 kn, .int .i64 kd] 25)) = w20 at *
          obtain ⟨hd20, -⟩ := bcell hb20
          have hz20 := hb20.size
          have c20_a_0 : w20.cell? ⟨w.heap.size, 0, none⟩ = some (.int .i64 n0) := (hd20 _ _ q_a).trans c19_a_0
          have c20_a_1 : w20.cell? ⟨w.heap.size, 1, none⟩ = some (.int .i64 d0) := (hd20 _ _ q_a).trans c19_a_1
          have c20_b_0 : w20.cell? ⟨w.heap.size + 1, 0, none⟩ = some (.int .i64 n1) := (hd20 _ _ q_b).trans c19_b_0
          have c20_b_1 : w20.cell? ⟨w.heap.size + 1, 1, none⟩ = some (.int .i64 d1) := (hd20 _ _ q_b).trans c19_b_1
          have c20_t_0 : w20.cell? ⟨w.heap.size + 1 + 1, 0, none⟩ = some (.int .i64 n2) := (hd20 _ _ q_t).trans c19_t_0
          have c20_t_1 : w20.cell? ⟨w.heap.size + 1 + 1, 1, none⟩ = some (.int .i64 d2) := (hd20 _ _ q_t).trans c19_t_1
          have c20_sum_0 : w20.cell? ⟨w1.heap.size, 0, none⟩ = some (.int .i64 sn) := (hd20 _ _ q_sum).trans c19_sum_0
          have c20_sum_1 : w20.cell? ⟨w1.heap.size, 1, none⟩ = some (.int .i64 sd) := (hd20 _ _ q_sum).trans c19_sum_1
          have c20_right_0 : w20.cell? ⟨w2.heap.size, 0, none⟩ = some (.int .i64 sn) := (hd20 _ _ q_right).trans c19_right_0
          have c20_right_1 : w20.cell? ⟨w2.heap.size, 1, none⟩ = some (.int .i64 sd) := (hd20 _ _ q_right).trans c19_right_1
          have c20_less_0 : w20.cell? ⟨w3.heap.size, 0, none⟩ = some (.int .i64 ln) := (hd20 _ _ q_less).trans c19_less_0
          have c20_less_1 : w20.cell? ⟨w3.heap.size, 1, none⟩ = some (.int .i64 ld) := (hd20 _ _ q_less).trans c19_less_1
          have c20_want_0 : w20.cell? ⟨w4.heap.size, 0, none⟩ = some (.int .i64 ln) := (hd20 _ _ q_want).trans c19_want_0
          have c20_want_1 : w20.cell? ⟨w4.heap.size, 1, none⟩ = some (.int .i64 ld) := (hd20 _ _ q_want).trans c19_want_1
          have c20_mirror_0 : w20.cell? ⟨w7.heap.size, 0, none⟩ = some (.int .i64 mn) := (hd20 _ _ q_mirror).trans c19_mirror_0
          have c20_mirror_1 : w20.cell? ⟨w7.heap.size, 1, none⟩ = some (.int .i64 md) := (hd20 _ _ q_mirror).trans c19_mirror_1
          have c20_value_0 : w20.cell? ⟨w8.heap.size, 0, none⟩ = some (.int .i64 mn) := (hd20 _ _ q_value).trans c19_value_0
          have c20_value_1 : w20.cell? ⟨w8.heap.size, 1, none⟩ = some (.int .i64 md) := (hd20 _ _ q_value).trans c19_value_1
          have c20_times_0 : w20.cell? ⟨w14.heap.size, 0, none⟩ = some (.int .i64 un) := (hd20 _ _ q_times).trans c19_times_0
          have c20_times_1 : w20.cell? ⟨w14.heap.size, 1, none⟩ = some (.int .i64 ud) := (hd20 _ _ q_times).trans c19_times_1
          have c20_due_0 : w20.cell? ⟨w15.heap.size, 0, none⟩ = some (.int .i64 un) := (hd20 _ _ q_due).trans c19_due_0
          have c20_due_1 : w20.cell? ⟨w15.heap.size, 1, none⟩ = some (.int .i64 ud) := (hd20 _ _ q_due).trans c19_due_1
          have c20_part_0 : w20.cell? ⟨w16.heap.size, 0, none⟩ = some (.int .i64 pn) := (hd20 _ _ q_part).trans c19_part_0
          have c20_part_1 : w20.cell? ⟨w16.heap.size, 1, none⟩ = some (.int .i64 pd) := (hd20 _ _ q_part).trans c19_part_1
          have c20_list_0 : w20.cell? ⟨w17.heap.size, 0, none⟩ = some (.int .i64 pn) := (hd20 _ _ q_list).trans c19_list_0
          have c20_list_1 : w20.cell? ⟨w17.heap.size, 1, none⟩ = some (.int .i64 pd) := (hd20 _ _ q_list).trans c19_list_1
          have c20_made_0 : w20.cell? ⟨w18.heap.size, 0, none⟩ = some (.int .i64 kn) := (hd20 _ _ q_made).trans c19_made_0
          have c20_made_1 : w20.cell? ⟨w18.heap.size, 1, none⟩ = some (.int .i64 kd) := (hd20 _ _ q_made).trans c19_made_1
          replace q_a : w.heap.size < w20.heap.size := by omega
          replace q_b : w.heap.size + 1 < w20.heap.size := by omega
          replace q_t : w.heap.size + 1 + 1 < w20.heap.size := by omega
          replace q_sum : w1.heap.size < w20.heap.size := by omega
          replace q_right : w2.heap.size < w20.heap.size := by omega
          replace q_less : w3.heap.size < w20.heap.size := by omega
          replace q_want : w4.heap.size < w20.heap.size := by omega
          replace q_mirror : w7.heap.size < w20.heap.size := by omega
          replace q_value : w8.heap.size < w20.heap.size := by omega
          replace q_times : w14.heap.size < w20.heap.size := by omega
          replace q_due : w15.heap.size < w20.heap.size := by omega
          replace q_part : w16.heap.size < w20.heap.size := by omega
          replace q_list : w17.heap.size < w20.heap.size := by omega
          replace q_made : w18.heap.size < w20.heap.size := by omega
          have BW20 : Below w.heap.size w w20 := BW19.trans (hb20.mono BW19.size)
          clear hb20 hd20 c19_a_0 c19_a_1 c19_b_0 c19_b_1 c19_t_0 c19_t_1 c19_sum_0 c19_sum_1 c19_right_0 c19_right_1 c19_less_0 c19_less_1 c19_want_0 c19_want_1 c19_mirror_0 c19_mirror_1 c19_value_0 c19_value_1 c19_times_0 c19_times_1 c19_due_0 c19_due_1 c19_part_0 c19_part_1 c19_list_0 c19_list_1 c19_made_0 c19_made_1 BW19
          go_upto_if 323 with fail
          go_cut [] from 999 to 999 (fun wx => Below w20.heap.size w20 wx)
          case first =>
            as_aux_lemma =>
              cases po
              · go_wp2_with fail
                go_meet
                case rel => exact Below.refl _ _
              · obtain ⟨h1, ⟨v1, v2, v3⟩, v4, v5⟩ := FP2.out rfl
                have Z1 := Lib.hid (fun W => (show Calls Try.prog 18 #[tv pn pd, .int .i64 a3] W fun e w' => e = .returned (rv (n2, d2, true)) ∧ Below W.heap.size W w' from by have := implTimesTurn_any pn pd a3 W; rw [h1] at this; exact this))
                clear h1
                go_wp2_with fail
                refine (Z1.out _).mono ?_
                rintro e21 w21 ⟨rfl, hb21⟩
                obtain ⟨hc21, hf21⟩ := bcell hb21
                have hz21 := hb21.size
                (try simp only [World.size_alloc, World.size_setCell, World.size_drew] at hz21)
                have B21 : Below w20.heap.size w20 w21 := Below.trans (b := _) (by (repeat' (first | (with_reducible exact Below.refl _ _) | (with_reducible assumption) | (with_reducible refine Below.alloc ?_ ?_ _) | (with_reducible refine Below.drew ?_) | (with_reducible refine below_drewN ?_ _) | (with_reducible refine Below.setCell ?_ ?_ _) | (with_reducible refine below_call ?_ ?_ (by assumption)) | go_size))) (hb21.mono (by first | omega | (simp only [World.size_alloc, World.size_setCell, World.size_drew]; omega)))
                obtain ⟨hd21, -⟩ := bcell B21
                have c21_a_0 : w21.cell? ⟨w.heap.size, 0, none⟩ = some (.int .i64 n0) := (hd21 _ _ q_a).trans c20_a_0
                have c21_a_1 : w21.cell? ⟨w.heap.size, 1, none⟩ = some (.int .i64 d0) := (hd21 _ _ q_a).trans c20_a_1
                have c21_b_0 : w21.cell? ⟨w.heap.size + 1, 0, none⟩ = some (.int .i64 n1) := (hd21 _ _ q_b).trans c20_b_0
                have c21_b_1 : w21.cell? ⟨w.heap.size + 1, 1, none⟩ = some (.int .i64 d1) := (hd21 _ _ q_b).trans c20_b_1
                have c21_t_0 : w21.cell? ⟨w.heap.size + 1 + 1, 0, none⟩ = some (.int .i64 n2) := (hd21 _ _ q_t).trans c20_t_0
                have c21_t_1 : w21.cell? ⟨w.heap.size + 1 + 1, 1, none⟩ = some (.int .i64 d2) := (hd21 _ _ q_t).trans c20_t_1
                have c21_sum_0 : w21.cell? ⟨w1.heap.size, 0, none⟩ = some (.int .i64 sn) := (hd21 _ _ q_sum).trans c20_sum_0
                have c21_sum_1 : w21.cell? ⟨w1.heap.size, 1, none⟩ = some (.int .i64 sd) := (hd21 _ _ q_sum).trans c20_sum_1
                have c21_right_0 : w21.cell? ⟨w2.heap.size, 0, none⟩ = some (.int .i64 sn) := (hd21 _ _ q_right).trans c20_right_0
                have c21_right_1 : w21.cell? ⟨w2.heap.size, 1, none⟩ = some (.int .i64 sd) := (hd21 _ _ q_right).trans c20_right_1
                have c21_less_0 : w21.cell? ⟨w3.heap.size, 0, none⟩ = some (.int .i64 ln) := (hd21 _ _ q_less).trans c20_less_0
                have c21_less_1 : w21.cell? ⟨w3.heap.size, 1, none⟩ = some (.int .i64 ld) := (hd21 _ _ q_less).trans c20_less_1
                have c21_want_0 : w21.cell? ⟨w4.heap.size, 0, none⟩ = some (.int .i64 ln) := (hd21 _ _ q_want).trans c20_want_0
                have c21_want_1 : w21.cell? ⟨w4.heap.size, 1, none⟩ = some (.int .i64 ld) := (hd21 _ _ q_want).trans c20_want_1
                have c21_mirror_0 : w21.cell? ⟨w7.heap.size, 0, none⟩ = some (.int .i64 mn) := (hd21 _ _ q_mirror).trans c20_mirror_0
                have c21_mirror_1 : w21.cell? ⟨w7.heap.size, 1, none⟩ = some (.int .i64 md) := (hd21 _ _ q_mirror).trans c20_mirror_1
                have c21_value_0 : w21.cell? ⟨w8.heap.size, 0, none⟩ = some (.int .i64 mn) := (hd21 _ _ q_value).trans c20_value_0
                have c21_value_1 : w21.cell? ⟨w8.heap.size, 1, none⟩ = some (.int .i64 md) := (hd21 _ _ q_value).trans c20_value_1
                have c21_times_0 : w21.cell? ⟨w14.heap.size, 0, none⟩ = some (.int .i64 un) := (hd21 _ _ q_times).trans c20_times_0
                have c21_times_1 : w21.cell? ⟨w14.heap.size, 1, none⟩ = some (.int .i64 ud) := (hd21 _ _ q_times).trans c20_times_1
                have c21_due_0 : w21.cell? ⟨w15.heap.size, 0, none⟩ = some (.int .i64 un) := (hd21 _ _ q_due).trans c20_due_0
                have c21_due_1 : w21.cell? ⟨w15.heap.size, 1, none⟩ = some (.int .i64 ud) := (hd21 _ _ q_due).trans c20_due_1
                have c21_part_0 : w21.cell? ⟨w16.heap.size, 0, none⟩ = some (.int .i64 pn) := (hd21 _ _ q_part).trans c20_part_0
                have c21_part_1 : w21.cell? ⟨w16.heap.size, 1, none⟩ = some (.int .i64 pd) := (hd21 _ _ q_part).trans c20_part_1
                have c21_list_0 : w21.cell? ⟨w17.heap.size, 0, none⟩ = some (.int .i64 pn) := (hd21 _ _ q_list).trans c20_list_0
                have c21_list_1 : w21.cell? ⟨w17.heap.size, 1, none⟩ = some (.int .i64 pd) := (hd21 _ _ q_list).trans c20_list_1
                have c21_made_0 : w21.cell? ⟨w18.heap.size, 0, none⟩ = some (.int .i64 kn) := (hd21 _ _ q_made).trans c20_made_0
                have c21_made_1 : w21.cell? ⟨w18.heap.size, 1, none⟩ = some (.int .i64 kd) := (hd21 _ _ q_made).trans c20_made_1
                have c21_number_0 : w21.cell? ⟨w19.heap.size, 0, none⟩ = some (.int .i64 kn) := (hd21 _ _ q_number).trans c20_number_0
                have c21_number_1 : w21.cell? ⟨w19.heap.size, 1, none⟩ = some (.int .i64 kd) := (hd21 _ _ q_number).trans c20_number_1
                replace q_a : w.heap.size < w21.heap.size := by omega
                replace q_b : w.heap.size + 1 < w21.heap.size := by omega
                replace q_t : w.heap.size + 1 + 1 < w21.heap.size := by omega
                replace q_sum : w1.heap.size < w21.heap.size := by omega
                replace q_right : w2.heap.size < w21.heap.size := by omega
                replace q_less : w3.heap.size < w21.heap.size := by omega
                replace q_want : w4.heap.size < w21.heap.size := by omega
                replace q_mirror : w7.heap.size < w21.heap.size := by omega
                replace q_value : w8.heap.size < w21.heap.size := by omega
                replace q_times : w14.heap.size < w21.heap.size := by omega
                replace q_due : w15.heap.size < w21.heap.size := by omega
                replace q_part : w16.heap.size < w21.heap.size := by omega
                replace q_list : w17.heap.size < w21.heap.size := by omega
                replace q_made : w18.heap.size < w21.heap.size := by omega
                replace q_number : w19.heap.size < w21.heap.size := by omega
                have BW21 : Below w.heap.size w w21 := BW20.trans (B21.mono BW20.size)
                have BX21 : Below w20.heap.size w20 w21 := B21
                clear hc21 hf21 hb21 hd21 B21 c20_a_0 c20_a_1 c20_b_0 c20_b_1 c20_t_0 c20_t_1 c20_sum_0 c20_sum_1 c20_right_0 c20_right_1 c20_less_0 c20_less_1 c20_want_0 c20_want_1 c20_mirror_0 c20_mirror_1 c20_value_0 c20_value_1 c20_times_0 c20_times_1 c20_due_0 c20_due_1 c20_part_0 c20_part_1 c20_list_0 c20_list_1 c20_made_0 c20_made_1 c20_number_0 c20_number_1 BW20
                go_upto_region 35 with fail
                have hb22 : Below w21.heap.size w21 (w21.alloc (Obj.cells #[.int .i64 n2, .int .i64 d2] 25)) := by (repeat' (first | (with_reducible exact Below.refl _ _) | (with_reducible assumption) | (with_reducible refine Below.alloc ?_ ?_ _) | (with_reducible refine Below.drew ?_) | (with_reducible refine below_drewN ?_ _) | (with_reducible refine Below.setCell ?_ ?_ _) | (with_reducible refine below_call ?_ ?_ (by assumption)) | go_size))
                have c22_whole_0 : (w21.alloc (Obj.cells #[.int .i64 n2, .int .i64 d2] 25)).cell? ⟨w21.heap.size, 0, none⟩ = some (.int .i64 n2) := by go_simp
                have c22_whole_1 : (w21.alloc (Obj.cells #[.int .i64 n2, .int .i64 d2] 25)).cell? ⟨w21.heap.size, 1, none⟩ = some (.int .i64 d2) := by go_simp
                have q_whole : w21.heap.size < (w21.alloc (Obj.cells #[.int .i64 n2, .int .i64 d2] 25)).heap.size := by go_size
                generalize (w21.alloc (Obj.cells #[.int .i64 n2, .int .i64 d2] 25)) = w22 at *
                obtain ⟨hd22, -⟩ := bcell hb22
                have hz22 := hb22.size
                have c22_a_0 : w22.cell? ⟨w.heap.size, 0, none⟩ = some (.int .i64 n0) := (hd22 _ _ q_a).trans c21_a_0
                have c22_a_1 : w22.cell? ⟨w.heap.size, 1, none⟩ = some (.int .i64 d0) := (hd22 _ _ q_a).trans c21_a_1
                have c22_b_0 : w22.cell? ⟨w.heap.size + 1, 0, none⟩ = some (.int .i64 n1) := (hd22 _ _ q_b).trans c21_b_0
                have c22_b_1 : w22.cell? ⟨w.heap.size + 1, 1, none⟩ = some (.int .i64 d1) := (hd22 _ _ q_b).trans c21_b_1
                have c22_t_0 : w22.cell? ⟨w.heap.size + 1 + 1, 0, none⟩ = some (.int .i64 n2) := (hd22 _ _ q_t).trans c21_t_0
                have c22_t_1 : w22.cell? ⟨w.heap.size + 1 + 1, 1, none⟩ = some (.int .i64 d2) := (hd22 _ _ q_t).trans c21_t_1
                have c22_sum_0 : w22.cell? ⟨w1.heap.size, 0, none⟩ = some (.int .i64 sn) := (hd22 _ _ q_sum).trans c21_sum_0
                have c22_sum_1 : w22.cell? ⟨w1.heap.size, 1, none⟩ = some (.int .i64 sd) := (hd22 _ _ q_sum).trans c21_sum_1
                have c22_right_0 : w22.cell? ⟨w2.heap.size, 0, none⟩ = some (.int .i64 sn) := (hd22 _ _ q_right).trans c21_right_0
                have c22_right_1 : w22.cell? ⟨w2.heap.size, 1, none⟩ = some (.int .i64 sd) := (hd22 _ _ q_right).trans c21_right_1
                have c22_less_0 : w22.cell? ⟨w3.heap.size, 0, none⟩ = some (.int .i64 ln) := (hd22 _ _ q_less).trans c21_less_0
                have c22_less_1 : w22.cell? ⟨w3.heap.size, 1, none⟩ = some (.int .i64 ld) := (hd22 _ _ q_less).trans c21_less_1
                have c22_want_0 : w22.cell? ⟨w4.heap.size, 0, none⟩ = some (.int .i64 ln) := (hd22 _ _ q_want).trans c21_want_0
                have c22_want_1 : w22.cell? ⟨w4.heap.size, 1, none⟩ = some (.int .i64 ld) := (hd22 _ _ q_want).trans c21_want_1
                have c22_mirror_0 : w22.cell? ⟨w7.heap.size, 0, none⟩ = some (.int .i64 mn) := (hd22 _ _ q_mirror).trans c21_mirror_0
                have c22_mirror_1 : w22.cell? ⟨w7.heap.size, 1, none⟩ = some (.int .i64 md) := (hd22 _ _ q_mirror).trans c21_mirror_1
                have c22_value_0 : w22.cell? ⟨w8.heap.size, 0, none⟩ = some (.int .i64 mn) := (hd22 _ _ q_value).trans c21_value_0
                have c22_value_1 : w22.cell? ⟨w8.heap.size, 1, none⟩ = some (.int .i64 md) := (hd22 _ _ q_value).trans c21_value_1
                have c22_times_0 : w22.cell? ⟨w14.heap.size, 0, none⟩ = some (.int .i64 un) := (hd22 _ _ q_times).trans c21_times_0
                have c22_times_1 : w22.cell? ⟨w14.heap.size, 1, none⟩ = some (.int .i64 ud) := (hd22 _ _ q_times).trans c21_times_1
                have c22_due_0 : w22.cell? ⟨w15.heap.size, 0, none⟩ = some (.int .i64 un) := (hd22 _ _ q_due).trans c21_due_0
                have c22_due_1 : w22.cell? ⟨w15.heap.size, 1, none⟩ = some (.int .i64 ud) := (hd22 _ _ q_due).trans c21_due_1
                have c22_part_0 : w22.cell? ⟨w16.heap.size, 0, none⟩ = some (.int .i64 pn) := (hd22 _ _ q_part).trans c21_part_0
                have c22_part_1 : w22.cell? ⟨w16.heap.size, 1, none⟩ = some (.int .i64 pd) := (hd22 _ _ q_part).trans c21_part_1
                have c22_list_0 : w22.cell? ⟨w17.heap.size, 0, none⟩ = some (.int .i64 pn) := (hd22 _ _ q_list).trans c21_list_0
                have c22_list_1 : w22.cell? ⟨w17.heap.size, 1, none⟩ = some (.int .i64 pd) := (hd22 _ _ q_list).trans c21_list_1
                have c22_made_0 : w22.cell? ⟨w18.heap.size, 0, none⟩ = some (.int .i64 kn) := (hd22 _ _ q_made).trans c21_made_0
                have c22_made_1 : w22.cell? ⟨w18.heap.size, 1, none⟩ = some (.int .i64 kd) := (hd22 _ _ q_made).trans c21_made_1
                have c22_number_0 : w22.cell? ⟨w19.heap.size, 0, none⟩ = some (.int .i64 kn) := (hd22 _ _ q_number).trans c21_number_0
                have c22_number_1 : w22.cell? ⟨w19.heap.size, 1, none⟩ = some (.int .i64 kd) := (hd22 _ _ q_number).trans c21_number_1
                replace q_a : w.heap.size < w22.heap.size := by omega
                replace q_b : w.heap.size + 1 < w22.heap.size := by omega
                replace q_t : w.heap.size + 1 + 1 < w22.heap.size := by omega
                replace q_sum : w1.heap.size < w22.heap.size := by omega
                replace q_right : w2.heap.size < w22.heap.size := by omega
                replace q_less : w3.heap.size < w22.heap.size := by omega
                replace q_want : w4.heap.size < w22.heap.size := by omega
                replace q_mirror : w7.heap.size < w22.heap.size := by omega
                replace q_value : w8.heap.size < w22.heap.size := by omega
                replace q_times : w14.heap.size < w22.heap.size := by omega
                replace q_due : w15.heap.size < w22.heap.size := by omega
                replace q_part : w16.heap.size < w22.heap.size := by omega
                replace q_list : w17.heap.size < w22.heap.size := by omega
                replace q_made : w18.heap.size < w22.heap.size := by omega
                replace q_number : w19.heap.size < w22.heap.size := by omega
                have BW22 : Below w.heap.size w w22 := BW21.trans (hb22.mono BW21.size)
                have BX22 : Below w20.heap.size w20 w22 := BX21.trans (hb22.mono BX21.size)
                clear BX21
                clear hb22 hd22 c21_a_0 c21_a_1 c21_b_0 c21_b_1 c21_t_0 c21_t_1 c21_sum_0 c21_sum_1 c21_right_0 c21_right_1 c21_less_0 c21_less_1 c21_want_0 c21_want_1 c21_mirror_0 c21_mirror_1 c21_value_0 c21_value_1 c21_times_0 c21_times_1 c21_due_0 c21_due_1 c21_part_0 c21_part_1 c21_list_0 c21_list_1 c21_made_0 c21_made_1 c21_number_0 c21_number_1 BW21
                have hz0 : ¬ pd = 0 := by omega
                have hq : (pn * a3).tdiv pd = 0 := Int.tdiv_eq_zero_of_lt v1 v2
                have hge : ¬ pd * a3 ≤ pn * a3 := by omega
                have hrelB := BX22
                go_wp2_with fail
                go_meet
                case rel => exact hrelB
          case rest =>
            obtain ⟨w21, hw21⟩ : ∃ x : World, x = wc := ⟨_, rfl⟩
            subst hw21
            have hb21 := hcut
            obtain ⟨hc21, hf21⟩ := bcell hb21
            have hz21 := hb21.size
            (try simp only [World.size_alloc, World.size_setCell, World.size_drew] at hz21)
            have B21 : Below w20.heap.size w20 w21 := Below.trans (b := _) (by (repeat' (first | (with_reducible exact Below.refl _ _) | (with_reducible assumption) | (with_reducible refine Below.alloc ?_ ?_ _) | (with_reducible refine Below.drew ?_) | (with_reducible refine below_drewN ?_ _) | (with_reducible refine Below.setCell ?_ ?_ _) | (with_reducible refine below_call ?_ ?_ (by assumption)) | go_size))) (hb21.mono (by first | omega | (simp only [World.size_alloc, World.size_setCell, World.size_drew]; omega)))
            obtain ⟨hd21, -⟩ := bcell B21
            have c21_a_0 : w21.cell? ⟨w.heap.size, 0, none⟩ = some (.int .i64 n0) := (hd21 _ _ q_a).trans c20_a_0
            have c21_a_1 : w21.cell? ⟨w.heap.size, 1, none⟩ = some (.int .i64 d0) := (hd21 _ _ q_a).trans c20_a_1
            have c21_b_0 : w21.cell? ⟨w.heap.size + 1, 0, none⟩ = some (.int .i64 n1) := (hd21 _ _ q_b).trans c20_b_0
            have c21_b_1 : w21.cell? ⟨w.heap.size + 1, 1, none⟩ = some (.int .i64 d1) := (hd21 _ _ q_b).trans c20_b_1
            have c21_t_0 : w21.cell? ⟨w.heap.size + 1 + 1, 0, none⟩ = some (.int .i64 n2) := (hd21 _ _ q_t).trans c20_t_0
            have c21_t_1 : w21.cell? ⟨w.heap.size + 1 + 1, 1, none⟩ = some (.int .i64 d2) := (hd21 _ _ q_t).trans c20_t_1
            have c21_sum_0 : w21.cell? ⟨w1.heap.size, 0, none⟩ = some (.int .i64 sn) := (hd21 _ _ q_sum).trans c20_sum_0
            have c21_sum_1 : w21.cell? ⟨w1.heap.size, 1, none⟩ = some (.int .i64 sd) := (hd21 _ _ q_sum).trans c20_sum_1
            have c21_right_0 : w21.cell? ⟨w2.heap.size, 0, none⟩ = some (.int .i64 sn) := (hd21 _ _ q_right).trans c20_right_0
            have c21_right_1 : w21.cell? ⟨w2.heap.size, 1, none⟩ = some (.int .i64 sd) := (hd21 _ _ q_right).trans c20_right_1
            have c21_less_0 : w21.cell? ⟨w3.heap.size, 0, none⟩ = some (.int .i64 ln) := (hd21 _ _ q_less).trans c20_less_0
            have c21_less_1 : w21.cell? ⟨w3.heap.size, 1, none⟩ = some (.int .i64 ld) := (hd21 _ _ q_less).trans c20_less_1
            have c21_want_0 : w21.cell? ⟨w4.heap.size, 0, none⟩ = some (.int .i64 ln) := (hd21 _ _ q_want).trans c20_want_0
            have c21_want_1 : w21.cell? ⟨w4.heap.size, 1, none⟩ = some (.int .i64 ld) := (hd21 _ _ q_want).trans c20_want_1
            have c21_mirror_0 : w21.cell? ⟨w7.heap.size, 0, none⟩ = some (.int .i64 mn) := (hd21 _ _ q_mirror).trans c20_mirror_0
            have c21_mirror_1 : w21.cell? ⟨w7.heap.size, 1, none⟩ = some (.int .i64 md) := (hd21 _ _ q_mirror).trans c20_mirror_1
            have c21_value_0 : w21.cell? ⟨w8.heap.size, 0, none⟩ = some (.int .i64 mn) := (hd21 _ _ q_value).trans c20_value_0
            have c21_value_1 : w21.cell? ⟨w8.heap.size, 1, none⟩ = some (.int .i64 md) := (hd21 _ _ q_value).trans c20_value_1
            have c21_times_0 : w21.cell? ⟨w14.heap.size, 0, none⟩ = some (.int .i64 un) := (hd21 _ _ q_times).trans c20_times_0
            have c21_times_1 : w21.cell? ⟨w14.heap.size, 1, none⟩ = some (.int .i64 ud) := (hd21 _ _ q_times).trans c20_times_1
            have c21_due_0 : w21.cell? ⟨w15.heap.size, 0, none⟩ = some (.int .i64 un) := (hd21 _ _ q_due).trans c20_due_0
            have c21_due_1 : w21.cell? ⟨w15.heap.size, 1, none⟩ = some (.int .i64 ud) := (hd21 _ _ q_due).trans c20_due_1
            have c21_part_0 : w21.cell? ⟨w16.heap.size, 0, none⟩ = some (.int .i64 pn) := (hd21 _ _ q_part).trans c20_part_0
            have c21_part_1 : w21.cell? ⟨w16.heap.size, 1, none⟩ = some (.int .i64 pd) := (hd21 _ _ q_part).trans c20_part_1
            have c21_list_0 : w21.cell? ⟨w17.heap.size, 0, none⟩ = some (.int .i64 pn) := (hd21 _ _ q_list).trans c20_list_0
            have c21_list_1 : w21.cell? ⟨w17.heap.size, 1, none⟩ = some (.int .i64 pd) := (hd21 _ _ q_list).trans c20_list_1
            have c21_made_0 : w21.cell? ⟨w18.heap.size, 0, none⟩ = some (.int .i64 kn) := (hd21 _ _ q_made).trans c20_made_0
            have c21_made_1 : w21.cell? ⟨w18.heap.size, 1, none⟩ = some (.int .i64 kd) := (hd21 _ _ q_made).trans c20_made_1
            have c21_number_0 : w21.cell? ⟨w19.heap.size, 0, none⟩ = some (.int .i64 kn) := (hd21 _ _ q_number).trans c20_number_0
            have c21_number_1 : w21.cell? ⟨w19.heap.size, 1, none⟩ = some (.int .i64 kd) := (hd21 _ _ q_number).trans c20_number_1
            replace q_a : w.heap.size < w21.heap.size := by omega
            replace q_b : w.heap.size + 1 < w21.heap.size := by omega
            replace q_t : w.heap.size + 1 + 1 < w21.heap.size := by omega
            replace q_sum : w1.heap.size < w21.heap.size := by omega
            replace q_right : w2.heap.size < w21.heap.size := by omega
            replace q_less : w3.heap.size < w21.heap.size := by omega
            replace q_want : w4.heap.size < w21.heap.size := by omega
            replace q_mirror : w7.heap.size < w21.heap.size := by omega
            replace q_value : w8.heap.size < w21.heap.size := by omega
            replace q_times : w14.heap.size < w21.heap.size := by omega
            replace q_due : w15.heap.size < w21.heap.size := by omega
            replace q_part : w16.heap.size < w21.heap.size := by omega
            replace q_list : w17.heap.size < w21.heap.size := by omega
            replace q_made : w18.heap.size < w21.heap.size := by omega
            replace q_number : w19.heap.size < w21.heap.size := by omega
            have BW21 : Below w.heap.size w w21 := BW20.trans (B21.mono BW20.size)
            clear hc21 hf21 hb21 hd21 B21 c20_a_0 c20_a_1 c20_b_0 c20_b_1 c20_t_0 c20_t_1 c20_sum_0 c20_sum_1 c20_right_0 c20_right_1 c20_less_0 c20_less_1 c20_want_0 c20_want_1 c20_mirror_0 c20_mirror_1 c20_value_0 c20_value_1 c20_times_0 c20_times_1 c20_due_0 c20_due_1 c20_part_0 c20_part_1 c20_list_0 c20_list_1 c20_made_0 c20_made_1 c20_number_0 c20_number_1 BW20
            go_upto_if 358 with fail
            go_cut [] from 999 to 999 (fun wx => Below w21.heap.size w21 wx)
            case first =>
              as_aux_lemma =>
                cases ko
                · go_wp2_with fail
                  go_meet
                  case rel => exact Below.refl _ _
                · obtain ⟨g1, ⟨v1, v2⟩, ⟨v3, v4⟩, h1, ⟨v5, v6⟩, ⟨v7, v8⟩, ⟨v9, v10⟩, h2⟩ := FK2.out rfl
                  have hz0 : ¬ kd = 0 := by omega
                  have hz1 : ¬ a5 = 0 := by omega
                  obtain ⟨G, hG⟩ : ∃ G, a5.tdiv kd = G := ⟨_, rfl⟩
                  rw [hG] at v5 v6 v7 v8 h2
                  have w64' : ∀ n : Int, -9223372036854775808 ≤ n ∧ n ≤ 9223372036854775807 → IntKind.i64.wrap n = n := fun n h => by rw [IntKind.wrap_i64]; omega
                  have hw2 : IntKind.i64.wrap G = G := w64' G (by omega)
                  have hw3 : IntKind.i64.wrap (kn * G) = kn * G := w64' _ (by omega)
                  have hw4 : IntKind.i64.wrap (a4 - kn * G) = a4 - kn * G := w64' _ (by omega)
                  have hw0 : IntKind.i64.wrap 0 = 0 := w64' 0 (by omega)
                  clear w64'
                  go_wp2_with fail
                  refine wp_region_below (by kernel_rfl) (by kernel_rfl) ?_
                  (apply wpB_take (hw := rfl); (intro wq hq; obtain ⟨hcq, hfq⟩ := bcell hq; unfold atB; go_simp; exact ⟨rfl, rfl⟩); (rw [put_lit]; dsimp only [List.set]))
                  (apply wpB_take (hw := rfl); (intro wq hq; unfold atB; go_simp; exact ⟨rfl, isTurn_is kn kd g1 _⟩); (rw [put_lit]; dsimp only [List.set]))
                  (apply wpB_take (hw := rfl); (intro wq hq; obtain ⟨hcq, hfq⟩ := bcell hq; unfold atB; go_simp; exact ⟨rfl, rfl⟩); (rw [put_lit]; dsimp only [List.set]))
                  (apply wpB_take (hw := rfl); (intro wq hq; obtain ⟨hcq, hfq⟩ := bcell hq; unfold atB; go_simp; exact ⟨rfl, rfl⟩); (rw [put_lit]; dsimp only [List.set]))
                  (apply wpB_take (hw := rfl); (intro wq hq; obtain ⟨hcq, hfq⟩ := bcell hq; unfold atB; go_simp; exact ⟨rfl, rfl⟩); (rw [put_lit]; dsimp only [List.set]))
                  (apply wpB_take (hw := rfl); (intro wq hq; obtain ⟨hcq, hfq⟩ := bcell hq; unfold atB; go_simp; exact ⟨rfl, rfl⟩); (rw [put_lit]; dsimp only [List.set]))
                  (apply wpB_take (hw := rfl); (intro wq hq; obtain ⟨hcq, hfq⟩ := bcell hq; unfold atB; go_simp; exact ⟨rfl, rfl⟩); (rw [put_lit]; dsimp only [List.set]))
                  (apply wpB_take (hw := rfl); (intro wq hq; obtain ⟨hcq, hfq⟩ := bcell hq; unfold atB; go_simp; exact ⟨rfl, rfl⟩); (rw [put_lit]; dsimp only [List.set]))
                  (apply wpB_take (hw := rfl); (intro wq hq; obtain ⟨hcq, hfq⟩ := bcell hq; unfold atB; go_simp; exact ⟨rfl, rfl⟩); (rw [put_lit]; dsimp only [List.set]))
                  (apply wpB_take (hw := rfl); (intro wq hq; obtain ⟨hcq, hfq⟩ := bcell hq; unfold atB; go_simp; exact ⟨rfl, rfl⟩); (rw [put_lit]; dsimp only [List.set]))
                  (apply wpB_take (hw := rfl); (intro wq hq; obtain ⟨hcq, hfq⟩ := bcell hq; unfold atB; go_simp; exact ⟨rfl, rfl⟩); (rw [put_lit]; dsimp only [List.set]))
                  (apply wpB_take (hw := rfl); (intro wq hq; obtain ⟨hcq, hfq⟩ := bcell hq; unfold atB; go_simp; exact ⟨rfl, rfl⟩); (rw [put_lit]; dsimp only [List.set]))
                  (apply wpB_take (hw := rfl); (intro wq hq; obtain ⟨hcq, hfq⟩ := bcell hq; unfold atB; go_simp; exact ⟨rfl, rfl⟩); (rw [put_lit]; dsimp only [List.set]))
                  (apply wpB_take (hw := rfl); (intro wq hq; obtain ⟨hcq, hfq⟩ := bcell hq; unfold atB; go_simp; exact ⟨rfl, rfl⟩); (rw [put_lit]; dsimp only [List.set]))
                  (apply wpB_take (hw := rfl); (intro wq hq; obtain ⟨hcq, hfq⟩ := bcell hq; unfold atB; go_simp; exact ⟨rfl, rfl⟩); (rw [put_lit]; dsimp only [List.set]))
                  (apply wpB_take (hw := rfl); (intro wq hq; obtain ⟨hcq, hfq⟩ := bcell hq; unfold atB; go_simp; exact ⟨rfl, rfl⟩); (rw [put_lit]; dsimp only [List.set]))
                  (apply wpB_take (hw := rfl); (intro wq hq; obtain ⟨hcq, hfq⟩ := bcell hq; unfold atB; go_simp; exact ⟨rfl, rfl⟩); (rw [put_lit]; dsimp only [List.set]))
                  (apply wpB_take (hw := rfl); (intro wq hq; obtain ⟨hcq, hfq⟩ := bcell hq; unfold atB; go_simp; exact ⟨rfl, rfl⟩); (rw [put_lit]; dsimp only [List.set]))
                  (apply wpB_take (hw := rfl); (intro wq hq; obtain ⟨hcq, hfq⟩ := bcell hq; unfold atB; go_simp; exact ⟨rfl, rfl⟩); (rw [put_lit]; dsimp only [List.set]))
                  (apply wpB_take (hw := rfl); (intro wq hq; obtain ⟨hcq, hfq⟩ := bcell hq; unfold atB; go_simp; exact ⟨rfl, rfl⟩); (rw [put_lit]; dsimp only [List.set]))
                  (apply wpB_take (hw := rfl); (intro wq hq; obtain ⟨hcq, hfq⟩ := bcell hq; unfold atB; go_simp; exact ⟨rfl, rfl⟩); (rw [put_lit]; dsimp only [List.set]))
                  (apply wpB_take (hw := rfl); (intro wq hq; obtain ⟨hcq, hfq⟩ := bcell hq; unfold atB; go_simp; exact ⟨rfl, rfl⟩); (rw [put_lit]; dsimp only [List.set]))
                  (apply wpB_take (hw := rfl); (intro wq hq; obtain ⟨hcq, hfq⟩ := bcell hq; unfold atB; go_simp; exact ⟨rfl, rfl⟩); (rw [put_lit]; dsimp only [List.set]))
                  (apply wpB_take (hw := rfl); (intro wq hq; obtain ⟨hcq, hfq⟩ := bcell hq; unfold atB; go_simp; exact ⟨rfl, rfl⟩); (rw [put_lit]; dsimp only [List.set]))
                  refine fun wx hbx => ?_
                  have hrelB := hbx
                  go_wp2_with fail
                  go_meet
                  case rel => exact hrelB
            case rest =>
              obtain ⟨w22, hw22⟩ : ∃ x : World, x = wc := ⟨_, rfl⟩
              subst hw22
              have hb22 := hcut
              obtain ⟨hc22, hf22⟩ := bcell hb22
              have hz22 := hb22.size
              (try simp only [World.size_alloc, World.size_setCell, World.size_drew] at hz22)
              have B22 : Below w21.heap.size w21 w22 := Below.trans (b := _) (by (repeat' (first | (with_reducible exact Below.refl _ _) | (with_reducible assumption) | (with_reducible refine Below.alloc ?_ ?_ _) | (with_reducible refine Below.drew ?_) | (with_reducible refine below_drewN ?_ _) | (with_reducible refine Below.setCell ?_ ?_ _) | (with_reducible refine below_call ?_ ?_ (by assumption)) | go_size))) (hb22.mono (by first | omega | (simp only [World.size_alloc, World.size_setCell, World.size_drew]; omega)))
              obtain ⟨hd22, -⟩ := bcell B22
              have c22_a_0 : w22.cell? ⟨w.heap.size, 0, none⟩ = some (.int .i64 n0) := (hd22 _ _ q_a).trans c21_a_0
              have c22_a_1 : w22.cell? ⟨w.heap.size, 1, none⟩ = some (.int .i64 d0) := (hd22 _ _ q_a).trans c21_a_1
              have c22_b_0 : w22.cell? ⟨w.heap.size + 1, 0, none⟩ = some (.int .i64 n1) := (hd22 _ _ q_b).trans c21_b_0
              have c22_b_1 : w22.cell? ⟨w.heap.size + 1, 1, none⟩ = some (.int .i64 d1) := (hd22 _ _ q_b).trans c21_b_1
              have c22_t_0 : w22.cell? ⟨w.heap.size + 1 + 1, 0, none⟩ = some (.int .i64 n2) := (hd22 _ _ q_t).trans c21_t_0
              have c22_t_1 : w22.cell? ⟨w.heap.size + 1 + 1, 1, none⟩ = some (.int .i64 d2) := (hd22 _ _ q_t).trans c21_t_1
              have c22_sum_0 : w22.cell? ⟨w1.heap.size, 0, none⟩ = some (.int .i64 sn) := (hd22 _ _ q_sum).trans c21_sum_0
              have c22_sum_1 : w22.cell? ⟨w1.heap.size, 1, none⟩ = some (.int .i64 sd) := (hd22 _ _ q_sum).trans c21_sum_1
              have c22_right_0 : w22.cell? ⟨w2.heap.size, 0, none⟩ = some (.int .i64 sn) := (hd22 _ _ q_right).trans c21_right_0
              have c22_right_1 : w22.cell? ⟨w2.heap.size, 1, none⟩ = some (.int .i64 sd) := (hd22 _ _ q_right).trans c21_right_1
              have c22_less_0 : w22.cell? ⟨w3.heap.size, 0, none⟩ = some (.int .i64 ln) := (hd22 _ _ q_less).trans c21_less_0
              have c22_less_1 : w22.cell? ⟨w3.heap.size, 1, none⟩ = some (.int .i64 ld) := (hd22 _ _ q_less).trans c21_less_1
              have c22_want_0 : w22.cell? ⟨w4.heap.size, 0, none⟩ = some (.int .i64 ln) := (hd22 _ _ q_want).trans c21_want_0
              have c22_want_1 : w22.cell? ⟨w4.heap.size, 1, none⟩ = some (.int .i64 ld) := (hd22 _ _ q_want).trans c21_want_1
              have c22_mirror_0 : w22.cell? ⟨w7.heap.size, 0, none⟩ = some (.int .i64 mn) := (hd22 _ _ q_mirror).trans c21_mirror_0
              have c22_mirror_1 : w22.cell? ⟨w7.heap.size, 1, none⟩ = some (.int .i64 md) := (hd22 _ _ q_mirror).trans c21_mirror_1
              have c22_value_0 : w22.cell? ⟨w8.heap.size, 0, none⟩ = some (.int .i64 mn) := (hd22 _ _ q_value).trans c21_value_0
              have c22_value_1 : w22.cell? ⟨w8.heap.size, 1, none⟩ = some (.int .i64 md) := (hd22 _ _ q_value).trans c21_value_1
              have c22_times_0 : w22.cell? ⟨w14.heap.size, 0, none⟩ = some (.int .i64 un) := (hd22 _ _ q_times).trans c21_times_0
              have c22_times_1 : w22.cell? ⟨w14.heap.size, 1, none⟩ = some (.int .i64 ud) := (hd22 _ _ q_times).trans c21_times_1
              have c22_due_0 : w22.cell? ⟨w15.heap.size, 0, none⟩ = some (.int .i64 un) := (hd22 _ _ q_due).trans c21_due_0
              have c22_due_1 : w22.cell? ⟨w15.heap.size, 1, none⟩ = some (.int .i64 ud) := (hd22 _ _ q_due).trans c21_due_1
              have c22_part_0 : w22.cell? ⟨w16.heap.size, 0, none⟩ = some (.int .i64 pn) := (hd22 _ _ q_part).trans c21_part_0
              have c22_part_1 : w22.cell? ⟨w16.heap.size, 1, none⟩ = some (.int .i64 pd) := (hd22 _ _ q_part).trans c21_part_1
              have c22_list_0 : w22.cell? ⟨w17.heap.size, 0, none⟩ = some (.int .i64 pn) := (hd22 _ _ q_list).trans c21_list_0
              have c22_list_1 : w22.cell? ⟨w17.heap.size, 1, none⟩ = some (.int .i64 pd) := (hd22 _ _ q_list).trans c21_list_1
              have c22_made_0 : w22.cell? ⟨w18.heap.size, 0, none⟩ = some (.int .i64 kn) := (hd22 _ _ q_made).trans c21_made_0
              have c22_made_1 : w22.cell? ⟨w18.heap.size, 1, none⟩ = some (.int .i64 kd) := (hd22 _ _ q_made).trans c21_made_1
              have c22_number_0 : w22.cell? ⟨w19.heap.size, 0, none⟩ = some (.int .i64 kn) := (hd22 _ _ q_number).trans c21_number_0
              have c22_number_1 : w22.cell? ⟨w19.heap.size, 1, none⟩ = some (.int .i64 kd) := (hd22 _ _ q_number).trans c21_number_1
              replace q_a : w.heap.size < w22.heap.size := by omega
              replace q_b : w.heap.size + 1 < w22.heap.size := by omega
              replace q_t : w.heap.size + 1 + 1 < w22.heap.size := by omega
              replace q_sum : w1.heap.size < w22.heap.size := by omega
              replace q_right : w2.heap.size < w22.heap.size := by omega
              replace q_less : w3.heap.size < w22.heap.size := by omega
              replace q_want : w4.heap.size < w22.heap.size := by omega
              replace q_mirror : w7.heap.size < w22.heap.size := by omega
              replace q_value : w8.heap.size < w22.heap.size := by omega
              replace q_times : w14.heap.size < w22.heap.size := by omega
              replace q_due : w15.heap.size < w22.heap.size := by omega
              replace q_part : w16.heap.size < w22.heap.size := by omega
              replace q_list : w17.heap.size < w22.heap.size := by omega
              replace q_made : w18.heap.size < w22.heap.size := by omega
              replace q_number : w19.heap.size < w22.heap.size := by omega
              have BW22 : Below w.heap.size w w22 := BW21.trans (B22.mono BW21.size)
              clear hc22 hf22 hb22 hd22 B22 c21_a_0 c21_a_1 c21_b_0 c21_b_1 c21_t_0 c21_t_1 c21_sum_0 c21_sum_1 c21_right_0 c21_right_1 c21_less_0 c21_less_1 c21_want_0 c21_want_1 c21_mirror_0 c21_mirror_1 c21_value_0 c21_value_1 c21_times_0 c21_times_1 c21_due_0 c21_due_1 c21_part_0 c21_part_1 c21_list_0 c21_list_1 c21_made_0 c21_made_1 c21_number_0 c21_number_1 BW21
              go_wp2
              go_ret
              exact ⟨rfl, BW22⟩

set_option maxRecDepth 100000 in
theorem lifted (os : Os) (started : os.Started) (H : Type) (enc : TypeId × Value → H) :
    ReturnsInHanded {} Try.checked os 4 .any (Rows.fnTurnsAddedOfAllSpec.pre6 enc Try.prog Try.f4 Rows.fnTurnsAddedOfAllRow.domain false) (Rows.fnTurnsAddedOfAllSpec.post enc Try.prog Try.f4 false true false false) := by
  refine returnsInHanded_of_change (C := Try.checked) Try.own started (by kernel_rfl) Try.func4
    (ChangeSpec.witness6 (enc := enc) (C := Try.checked) false ⟨#[], #[.agg #[.int .i64 0, .int .i64 0], .agg #[.int .i64 0, .int .i64 0], .agg #[.int .i64 0, .int .i64 0], .int .i64 0, .int .i64 0, .int .i64 0], []⟩ 8 (by kernel_rfl) (by kernel_rfl) (by kernel_rfl) (by kernel_rfl)) ?_
  intro W base args ds gs before hval0 hW hcnd _
  have hval : ∀ (j : Nat) t v, Try.f4.params[j]? = some t → args[j]? = some v → Value.okWide Try.prog W .any base t v := hval0
  have hW' := hW
  obtain ⟨p, q, hA0, hV, rfl, hfz, hnd⟩ := hW
  have hA : DataW.TrodAll enc Try.prog W 0 (fun _ => true) true Try.f4.params.toList args.toList ds p := hA0
  rw [Try.params4] at hA hval
  obtain ⟨v0, vs0, d_0, ds0, p0, q0, hargs, rfl, rfl, h0, r0⟩ := trodAll_cons hA
  obtain ⟨v1, vs1, d_1, ds1, p1, q1, rfl, rfl, rfl, h1, r1⟩ := trodAll_cons r0
  obtain ⟨v2, vs2, d_2, ds2, p2, q2, rfl, rfl, rfl, h2, r2⟩ := trodAll_cons r1
  obtain ⟨v3, vs3, d_3, ds3, p3, q3, rfl, rfl, rfl, h3, r3⟩ := trodAll_cons r2
  obtain ⟨v4, vs4, d_4, ds4, p4, q4, rfl, rfl, rfl, h4, r4⟩ := trodAll_cons r3
  obtain ⟨v5, vs5, d_5, ds5, p5, q5, rfl, rfl, rfl, h5, r5⟩ := trodAll_cons r4
  obtain ⟨rfl, rfl, rfl⟩ := trodAll_nil r5
  obtain rfl : args = #[v0, v1, v2, v3, v4, v5] := by cases args; simp_all
  obtain ⟨rfl, rfl⟩ := trodVars_none hV
  obtain ⟨n0, d0, rfl, rfl, rfl, wn0, wd0⟩ := open_iturn (hval 0 25 v0 rfl rfl) h0
  obtain ⟨n1, d1, rfl, rfl, rfl, wn1, wd1⟩ := open_iturn (hval 1 25 v1 rfl rfl) h1
  obtain ⟨n2, d2, rfl, rfl, rfl, wn2, wd2⟩ := open_iturn (hval 2 25 v2 rfl rfl) h2
  obtain ⟨a3, rfl, rfl, rfl, w3⟩ := open_int Try.underlying3 (hval 3 3 v3 rfl rfl) h3
  obtain ⟨a4, rfl, rfl, rfl, w4⟩ := open_int Try.underlying3 (hval 4 3 v4 rfl rfl) h4
  obtain ⟨a5, rfl, rfl, rfl, w5⟩ := open_int Try.underlying3 (hval 5 3 v5 rfl rfl) h5
  clear hA0 hval0
  refine (walk n0 d0 n1 d1 n2 d2 a3 a4 a5 (i64_of_wf wn0) (i64_of_wf wd0) (i64_of_wf wn1) (i64_of_wf wd1) (i64_of_wf wn2) (i64_of_wf wd2) (i64_of_wf w3) (i64_of_wf w4) (i64_of_wf w5) W).mono fun e W' ⟨he, bel⟩ => ?_
  subst he
  exact ⟨_, rfl, _, _, _, [], _, [], hW', trodAll_mk1 (shut_bool Try.underlying4 _), (trodAll_cons_mk (shut_iturn wn0 wd0) (trodAll_cons_mk (shut_iturn wn1 wd1) (trodAll_cons_mk (shut_iturn wn2 wd2) (trodAll_cons_mk (shut_int Try.underlying3 w3) (trodAll_cons_mk (shut_int Try.underlying3 w4) (trodAll_cons_mk (shut_int Try.underlying3 w5) trodAll_mk0)))))), rfl, bel.frame _, fun h => by cases h⟩

theorem closed : joinedFacts Try.prog 4 Try.f4 Rows.fnTurnsAddedOfAllSpec Rows.fnTurnsAddedOfAllRow = true := by
  unfold joinedFacts
  rw [Try.fMake, Try.fEnter, Try.fLifts, Try.fMaps, Try.fLaid, Try.fHeard, Try.fKeys]
  kernel_rfl
theorem over : Rows.fnTurnsAddedOfAllRow.holds Try.pinned (OpenSpec.ofChange Rows.fnTurnsAddedOfAllSpec) :=
  OpenClaim.holds_of_wide 4 Try.f4 rfl rfl rfl rfl rfl rfl rfl ⟨rfl, rfl, rfl, rfl, rfl⟩ rfl rfl rfl rfl rfl (by kernel_rfl) Try.func4
    closed (of_decide_eq_true (by kernel_rfl)) (by unfold Func.isWrapper; first | (rw [if_pos (by decide +kernel)]; kernel_rfl) | (rw [if_neg (by decide +kernel)]; exact ⟨rfl, rfl⟩))
    (fun os started H enc _ => lifted os started H enc)

end Go.Proofs.Ytjdjomoeeecdkaa.fnTurnsAddedOfAll
namespace Go.Proofs.Ytjdjomoeeecdkaa
/-- The statement. -/
theorem fnTurnsAddedOfAll_proved : Rows.FnTurnsAddedOfAllSaid := fnTurnsAddedOfAll.over
#print axioms fnTurnsAddedOfAll_proved
end Go.Proofs.Ytjdjomoeeecdkaa
