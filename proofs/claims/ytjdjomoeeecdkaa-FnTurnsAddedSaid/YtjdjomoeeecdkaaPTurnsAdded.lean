/- FnTurnsAdded: called with any arguments, the law returns true, and its arguments read behind the call as before. Conditions: none but the row's own. -/
import Derived.Test.YtjdjomoeeecdkaaFacts
import Derived.Test.YtjdjomoeeecdkaaRowI
import Derived.Test.YtjdjomoeeecdkaaTa0
import Derived.Test.YtjdjomoeeecdkaaTaE
import Derived.Test.YtjdjomoeeecdkaaTCur
import Derived.Test.YtjdjomoeeecdkaaSBArg
import Derived.Test.YtjdjomoeeecdkaaLate
import Derived.Deep.DeepCutAuto
set_option linter.unusedSimpArgs false
set_option linter.unusedVariables false
set_option maxRecDepth 100000
namespace Go.Proofs.Ytjdjomoeeecdkaa.fnTurnsAdded
open Go.ChangeShapes Go.WideShapes Go.ChangeAt Go.RowKit
attribute [local go_sem ↓] Go.wp_at_zero Go.wp_at_succ run_neq_same run_neq_turn run_eql_turn

set_option maxHeartbeats 16000000 in
theorem walk (w : World) (p1 p2 : Option Addr) (q1 q2 : Nat) (L1 L2 : List Int) (hi1 : BIn w p1 L1) (hi2 : BIn w p2 L2) (hm1 : L1.length ≤ maxLen) (hm2 : L2.length ≤ maxLen) :
    Calls Try.prog 3 #[.slice p1 L1.length q1, .slice p2 L2.length q2] w fun e w' => e = .returned (.bool true) ∧ Below w.heap.size w w' := by
  have HB1 := Lib.hid hi1
  have HB2 := Lib.hid hi2
  clear hi1 hi2
  cases hbg : bigB L1.length L2.length
  · obtain ⟨hlen1, hlen2⟩ := bigB_no hbg
    have HBG := Lib.hid hbg
    clear hbg
    (go_enter Try.func3, Try.ntmps3)
    go_wp2_with fail
    refine (big_is p1 p2 L1.length L2.length q1 q2 hm1 HBG.out _).mono ?_
    rintro e0 w0 ⟨rfl, rfl⟩
    go_wp2_with fail
    refine (DrawAddTurns_any L1 p1 L1.length q1 rfl hlen1 _ HB1.out).mono ?_
    rintro e1 w1 ⟨n0, d0, n1, d1, rfl, ⟨kn0, kd0, kn1, kd1⟩, hb1⟩
    obtain ⟨hc1, hf1⟩ := bcell hb1
    have hz1 := hb1.size
    (try simp only [World.size_alloc, World.size_setCell, World.size_drew] at hz1)
    have B1 : Below w.heap.size w w1 := Below.trans (b := _) (by (repeat' (first | (with_reducible exact Below.refl _ _) | (with_reducible assumption) | (with_reducible refine Below.alloc ?_ ?_ _) | (with_reducible refine Below.drew ?_) | (with_reducible refine below_drewN ?_ _) | (with_reducible refine Below.setCell ?_ ?_ _) | (with_reducible refine below_call ?_ ?_ (by assumption)) | go_size))) (hb1.mono (by first | omega | (simp only [World.size_alloc, World.size_setCell, World.size_drew]; omega)))
    obtain ⟨hd1, -⟩ := bcell B1
    have BW1 : Below w.heap.size w w1 := B1
    clear hc1 hf1 hb1 hd1 B1 
    obtain ⟨sn, sd, so, hS⟩ : ∃ x y z, addT n0 d0 n1 d1 = (x, y, z) := ⟨_, _, _, rfl⟩
    obtain ⟨ln, ld, lo, hL⟩ : ∃ x y z, lessT n0 d0 n1 d1 = (x, y, z) := ⟨_, _, _, rfl⟩
    obtain ⟨mn, md, mo, hM⟩ : ∃ x y z, mirrorT n0 d0 = (x, y, z) := ⟨_, _, _, rfl⟩
    obtain ⟨cv, co, hC⟩ : ∃ x y, cmpT n0 d0 n1 d1 = (x, y) := ⟨_, _, rfl⟩
    have C1 := Lib.hid (fun W => (show Calls Try.prog 7 #[tv n0 d0, tv n1 d1] W fun e w' => e = .returned (rv (sn, sd, so)) ∧ Below W.heap.size W w' from by have := implAddTurns_any n0 d0 n1 d1 W; rw [hS] at this; exact this))
    have C2 := Lib.hid (fun W => (show Calls Try.prog 8 #[tv n0 d0, tv n1 d1] W fun e w' => e = .returned (rv (sn, sd, so)) ∧ Below W.heap.size W w' from by have := specAddTurns_any n0 d0 n1 d1 kd0 kd1 W; rw [hS] at this; exact this))
    have C3 := Lib.hid (fun W => (show Calls Try.prog 9 #[tv n0 d0, tv n1 d1] W fun e w' => e = .returned (rv (ln, ld, lo)) ∧ Below W.heap.size W w' from by have := implLessTurn_any n0 d0 n1 d1 W; rw [hL] at this; exact this))
    have C4 := Lib.hid (fun W => (show Calls Try.prog 10 #[tv n0 d0, tv n1 d1] W fun e w' => e = .returned (rv (ln, ld, lo)) ∧ Below W.heap.size W w' from by have := specLessTurn_any n0 d0 n1 d1 kd0 kd1 W; rw [hL] at this; exact this))
    have C5 := Lib.hid (fun W => (show Calls Try.prog 11 #[tv n0 d0, tv n1 d1] W fun e w' => e = .returned (iv (cv, co)) ∧ Below W.heap.size W w' from by have := implCompareTurns_any n0 d0 n1 d1 W; rw [hC] at this; exact this))
    have C6 := Lib.hid (fun W => (show Calls Try.prog 12 #[tv n0 d0, tv n1 d1] W fun e w' => e = .returned (iv (cv, co)) ∧ Below W.heap.size W w' from by have := specCompareTurns_any n0 d0 n1 d1 kd0 kd1 W; rw [hC] at this; exact this))
    have C7 := Lib.hid (fun W => (show Calls Try.prog 13 #[tv n0 d0] W fun e w' => e = .returned (rv (mn, md, mo)) ∧ Below W.heap.size W w' from by have := implMirrorTurn_any n0 d0 W; rw [hM] at this; exact this))
    have C8 := Lib.hid (fun W => (show Calls Try.prog 14 #[tv n0 d0] W fun e w' => e = .returned (rv (mn, md, mo)) ∧ Below W.heap.size W w' from by have := specMirrorTurn_any n0 d0 kd0 W; rw [hM] at this; exact this))
    have FC : co = (goodB n0 d0 && goodB n1 d1) := by have := cmpT_ok n0 d0 n1 d1; rw [hC] at this; exact this
    have FM : mo = goodB n0 d0 := by have := mirrorT_snd n0 d0; rw [hM] at this; exact this
    have FSG := Lib.hid (fun (e : so = true) => addT_ok (by rw [hS, e] : addT n0 d0 n1 d1 = (sn, sd, true)))
    have FLG : lo = true → (goodB n0 d0 && goodB n1 d1) = true := fun e => by
      have := hL
      unfold lessT at this
      split at this
      · rename_i g; exact g
      · simp only [fail3, Prod.mk.injEq] at this; rw [← this.2.2] at e; cases e
    have HLG := Lib.hid FLG
    have HC := Lib.hid FC
    have HM := Lib.hid FM
    clear FC FM FLG
    have Z2 := Lib.hid (fun W => (show Calls Try.prog 7 #[tv n1 d1, tv n0 d0] W fun e w' => e = .returned (rv (sn, sd, so)) ∧ Below W.heap.size W w' from by have := implAddTurns_any n1 d1 n0 d0 W; rw [addT_comm n0 d0 n1 d1, hS] at this; exact this))
    have FCV := Lib.hid (fun (e : co = true) => (show (-1 ≤ cv ∧ cv ≤ 1) ∧ cmpT n1 d1 n0 d0 = (-cv, true) ∧ (cv == 0) = eqT n0 d0 n1 d1 from by
      have hco := HC.out
      rw [e] at hco
      have hg := hco.symm
      rw [Bool.and_eq_true] at hg
      have h1 := cmpT_good hg.1 hg.2
      rw [hC] at h1
      obtain ⟨rfl, -⟩ := Prod.mk.inj h1
      refine ⟨by unfold sg; split <;> (try split) <;> omega, ?_, cmp_zero hg.1 hg.2⟩
      rw [cmpT_good hg.2 hg.1, ← sgn_neg, show n1 * d0 - n0 * d1 = -(n0 * d1 - n1 * d0) by omega]))
    have FS2 := Lib.hid (fun (e : so = true) => (show goodB sn sd = true ∧ lessT sn sd n1 d1 = (n0, d0, true) from by
      have h : addT n0 d0 n1 d1 = (sn, sd, true) := by rw [hS, e]
      exact ⟨(addT_ok h).2.2.1, add_back h rfl⟩))
    have FM2 := Lib.hid (fun (e : mo = true) => (show addT n0 d0 mn md = (0, 1, true) ∧ mirrorT mn md = (n0, d0, true) from by
      have h : mirrorT n0 d0 = (mn, md, true) := by rw [hM, e]
      exact ⟨mirror_sum h rfl, mirror_twice h rfl⟩))
    clear hS hL hM hC
    go_wp2_with fail
    refine (C1.out _).mono ?_
    rintro e2 w2 ⟨rfl, hb2⟩
    obtain ⟨hc2, hf2⟩ := bcell hb2
    have hz2 := hb2.size
    (try simp only [World.size_alloc, World.size_setCell, World.size_drew] at hz2)
    have B2 : Below w1.heap.size w1 w2 := Below.trans (b := _) (by (repeat' (first | (with_reducible exact Below.refl _ _) | (with_reducible assumption) | (with_reducible refine Below.alloc ?_ ?_ _) | (with_reducible refine Below.drew ?_) | (with_reducible refine below_drewN ?_ _) | (with_reducible refine Below.setCell ?_ ?_ _) | (with_reducible refine below_call ?_ ?_ (by assumption)) | go_size))) (hb2.mono (by first | omega | (simp only [World.size_alloc, World.size_setCell, World.size_drew]; omega)))
    obtain ⟨hd2, -⟩ := bcell B2
    have c2_a_0 : w2.cell? ⟨w1.heap.size, 0, none⟩ = some (.int .i64 n0) := (hc2 _ _ (by go_size)).trans (by go_simp)
    have c2_a_1 : w2.cell? ⟨w1.heap.size, 1, none⟩ = some (.int .i64 d0) := (hc2 _ _ (by go_size)).trans (by go_simp)
    have q_a : w1.heap.size < w2.heap.size := by omega
    have c2_b_0 : w2.cell? ⟨w1.heap.size + 1, 0, none⟩ = some (.int .i64 n1) := (hc2 _ _ (by go_size)).trans (by go_simp)
    have c2_b_1 : w2.cell? ⟨w1.heap.size + 1, 1, none⟩ = some (.int .i64 d1) := (hc2 _ _ (by go_size)).trans (by go_simp)
    have q_b : w1.heap.size + 1 < w2.heap.size := by omega
    have BW2 : Below w.heap.size w w2 := BW1.trans (B2.mono BW1.size)
    clear hc2 hf2 hb2 hd2 B2  BW1
    go_wp2_with fail
    refine (C2.out _).mono ?_
    rintro e3 w3 ⟨rfl, hb3⟩
    obtain ⟨hc3, hf3⟩ := bcell hb3
    have hz3 := hb3.size
    (try simp only [World.size_alloc, World.size_setCell, World.size_drew] at hz3)
    have B3 : Below w2.heap.size w2 w3 := Below.trans (b := _) (by (repeat' (first | (with_reducible exact Below.refl _ _) | (with_reducible assumption) | (with_reducible refine Below.alloc ?_ ?_ _) | (with_reducible refine Below.drew ?_) | (with_reducible refine below_drewN ?_ _) | (with_reducible refine Below.setCell ?_ ?_ _) | (with_reducible refine below_call ?_ ?_ (by assumption)) | go_size))) (hb3.mono (by first | omega | (simp only [World.size_alloc, World.size_setCell, World.size_drew]; omega)))
    obtain ⟨hd3, -⟩ := bcell B3
    have c3_a_0 : w3.cell? ⟨w1.heap.size, 0, none⟩ = some (.int .i64 n0) := (hd3 _ _ q_a).trans c2_a_0
    have c3_a_1 : w3.cell? ⟨w1.heap.size, 1, none⟩ = some (.int .i64 d0) := (hd3 _ _ q_a).trans c2_a_1
    have c3_b_0 : w3.cell? ⟨w1.heap.size + 1, 0, none⟩ = some (.int .i64 n1) := (hd3 _ _ q_b).trans c2_b_0
    have c3_b_1 : w3.cell? ⟨w1.heap.size + 1, 1, none⟩ = some (.int .i64 d1) := (hd3 _ _ q_b).trans c2_b_1
    replace q_a : w1.heap.size < w3.heap.size := by omega
    replace q_b : w1.heap.size + 1 < w3.heap.size := by omega
    have c3_sum_0 : w3.cell? ⟨w2.heap.size, 0, none⟩ = some (.int .i64 sn) := (hc3 _ _ (by go_size)).trans (by go_simp)
    have c3_sum_1 : w3.cell? ⟨w2.heap.size, 1, none⟩ = some (.int .i64 sd) := (hc3 _ _ (by go_size)).trans (by go_simp)
    have q_sum : w2.heap.size < w3.heap.size := by omega
    have BW3 : Below w.heap.size w w3 := BW2.trans (B3.mono BW2.size)
    clear hc3 hf3 hb3 hd3 B3 c2_a_0 c2_a_1 c2_b_0 c2_b_1 BW2
    go_wp2_with fail
    refine (C3.out _).mono ?_
    rintro e4 w4 ⟨rfl, hb4⟩
    obtain ⟨hc4, hf4⟩ := bcell hb4
    have hz4 := hb4.size
    (try simp only [World.size_alloc, World.size_setCell, World.size_drew] at hz4)
    have B4 : Below w3.heap.size w3 w4 := Below.trans (b := _) (by (repeat' (first | (with_reducible exact Below.refl _ _) | (with_reducible assumption) | (with_reducible refine Below.alloc ?_ ?_ _) | (with_reducible refine Below.drew ?_) | (with_reducible refine below_drewN ?_ _) | (with_reducible refine Below.setCell ?_ ?_ _) | (with_reducible refine below_call ?_ ?_ (by assumption)) | go_size))) (hb4.mono (by first | omega | (simp only [World.size_alloc, World.size_setCell, World.size_drew]; omega)))
    obtain ⟨hd4, -⟩ := bcell B4
    have c4_a_0 : w4.cell? ⟨w1.heap.size, 0, none⟩ = some (.int .i64 n0) := (hd4 _ _ q_a).trans c3_a_0
    have c4_a_1 : w4.cell? ⟨w1.heap.size, 1, none⟩ = some (.int .i64 d0) := (hd4 _ _ q_a).trans c3_a_1
    have c4_b_0 : w4.cell? ⟨w1.heap.size + 1, 0, none⟩ = some (.int .i64 n1) := (hd4 _ _ q_b).trans c3_b_0
    have c4_b_1 : w4.cell? ⟨w1.heap.size + 1, 1, none⟩ = some (.int .i64 d1) := (hd4 _ _ q_b).trans c3_b_1
    have c4_sum_0 : w4.cell? ⟨w2.heap.size, 0, none⟩ = some (.int .i64 sn) := (hd4 _ _ q_sum).trans c3_sum_0
    have c4_sum_1 : w4.cell? ⟨w2.heap.size, 1, none⟩ = some (.int .i64 sd) := (hd4 _ _ q_sum).trans c3_sum_1
    replace q_a : w1.heap.size < w4.heap.size := by omega
    replace q_b : w1.heap.size + 1 < w4.heap.size := by omega
    replace q_sum : w2.heap.size < w4.heap.size := by omega
    have c4_right_0 : w4.cell? ⟨w3.heap.size, 0, none⟩ = some (.int .i64 sn) := (hc4 _ _ (by go_size)).trans (by go_simp)
    have c4_right_1 : w4.cell? ⟨w3.heap.size, 1, none⟩ = some (.int .i64 sd) := (hc4 _ _ (by go_size)).trans (by go_simp)
    have q_right : w3.heap.size < w4.heap.size := by omega
    have BW4 : Below w.heap.size w w4 := BW3.trans (B4.mono BW3.size)
    clear hc4 hf4 hb4 hd4 B4 c3_a_0 c3_a_1 c3_b_0 c3_b_1 c3_sum_0 c3_sum_1 BW3
    go_wp2_with fail
    refine (C4.out _).mono ?_
    rintro e5 w5 ⟨rfl, hb5⟩
    obtain ⟨hc5, hf5⟩ := bcell hb5
    have hz5 := hb5.size
    (try simp only [World.size_alloc, World.size_setCell, World.size_drew] at hz5)
    have B5 : Below w4.heap.size w4 w5 := Below.trans (b := _) (by (repeat' (first | (with_reducible exact Below.refl _ _) | (with_reducible assumption) | (with_reducible refine Below.alloc ?_ ?_ _) | (with_reducible refine Below.drew ?_) | (with_reducible refine below_drewN ?_ _) | (with_reducible refine Below.setCell ?_ ?_ _) | (with_reducible refine below_call ?_ ?_ (by assumption)) | go_size))) (hb5.mono (by first | omega | (simp only [World.size_alloc, World.size_setCell, World.size_drew]; omega)))
    obtain ⟨hd5, -⟩ := bcell B5
    have c5_a_0 : w5.cell? ⟨w1.heap.size, 0, none⟩ = some (.int .i64 n0) := (hd5 _ _ q_a).trans c4_a_0
    have c5_a_1 : w5.cell? ⟨w1.heap.size, 1, none⟩ = some (.int .i64 d0) := (hd5 _ _ q_a).trans c4_a_1
    have c5_b_0 : w5.cell? ⟨w1.heap.size + 1, 0, none⟩ = some (.int .i64 n1) := (hd5 _ _ q_b).trans c4_b_0
    have c5_b_1 : w5.cell? ⟨w1.heap.size + 1, 1, none⟩ = some (.int .i64 d1) := (hd5 _ _ q_b).trans c4_b_1
    have c5_sum_0 : w5.cell? ⟨w2.heap.size, 0, none⟩ = some (.int .i64 sn) := (hd5 _ _ q_sum).trans c4_sum_0
    have c5_sum_1 : w5.cell? ⟨w2.heap.size, 1, none⟩ = some (.int .i64 sd) := (hd5 _ _ q_sum).trans c4_sum_1
    have c5_right_0 : w5.cell? ⟨w3.heap.size, 0, none⟩ = some (.int .i64 sn) := (hd5 _ _ q_right).trans c4_right_0
    have c5_right_1 : w5.cell? ⟨w3.heap.size, 1, none⟩ = some (.int .i64 sd) := (hd5 _ _ q_right).trans c4_right_1
    replace q_a : w1.heap.size < w5.heap.size := by omega
    replace q_b : w1.heap.size + 1 < w5.heap.size := by omega
    replace q_sum : w2.heap.size < w5.heap.size := by omega
    replace q_right : w3.heap.size < w5.heap.size := by omega
    have c5_less_0 : w5.cell? ⟨w4.heap.size, 0, none⟩ = some (.int .i64 ln) := (hc5 _ _ (by go_size)).trans (by go_simp)
    have c5_less_1 : w5.cell? ⟨w4.heap.size, 1, none⟩ = some (.int .i64 ld) := (hc5 _ _ (by go_size)).trans (by go_simp)
    have q_less : w4.heap.size < w5.heap.size := by omega
    have BW5 : Below w.heap.size w w5 := BW4.trans (B5.mono BW4.size)
    clear hc5 hf5 hb5 hd5 B5 c4_a_0 c4_a_1 c4_b_0 c4_b_1 c4_sum_0 c4_sum_1 c4_right_0 c4_right_1 BW4
    go_wp2_with fail
    refine (C5.out _).mono ?_
    rintro e6 w6 ⟨rfl, hb6⟩
    obtain ⟨hc6, hf6⟩ := bcell hb6
    have hz6 := hb6.size
    (try simp only [World.size_alloc, World.size_setCell, World.size_drew] at hz6)
    have B6 : Below w5.heap.size w5 w6 := Below.trans (b := _) (by (repeat' (first | (with_reducible exact Below.refl _ _) | (with_reducible assumption) | (with_reducible refine Below.alloc ?_ ?_ _) | (with_reducible refine Below.drew ?_) | (with_reducible refine below_drewN ?_ _) | (with_reducible refine Below.setCell ?_ ?_ _) | (with_reducible refine below_call ?_ ?_ (by assumption)) | go_size))) (hb6.mono (by first | omega | (simp only [World.size_alloc, World.size_setCell, World.size_drew]; omega)))
    obtain ⟨hd6, -⟩ := bcell B6
    have c6_a_0 : w6.cell? ⟨w1.heap.size, 0, none⟩ = some (.int .i64 n0) := (hd6 _ _ q_a).trans c5_a_0
    have c6_a_1 : w6.cell? ⟨w1.heap.size, 1, none⟩ = some (.int .i64 d0) := (hd6 _ _ q_a).trans c5_a_1
    have c6_b_0 : w6.cell? ⟨w1.heap.size + 1, 0, none⟩ = some (.int .i64 n1) := (hd6 _ _ q_b).trans c5_b_0
    have c6_b_1 : w6.cell? ⟨w1.heap.size + 1, 1, none⟩ = some (.int .i64 d1) := (hd6 _ _ q_b).trans c5_b_1
    have c6_sum_0 : w6.cell? ⟨w2.heap.size, 0, none⟩ = some (.int .i64 sn) := (hd6 _ _ q_sum).trans c5_sum_0
    have c6_sum_1 : w6.cell? ⟨w2.heap.size, 1, none⟩ = some (.int .i64 sd) := (hd6 _ _ q_sum).trans c5_sum_1
    have c6_right_0 : w6.cell? ⟨w3.heap.size, 0, none⟩ = some (.int .i64 sn) := (hd6 _ _ q_right).trans c5_right_0
    have c6_right_1 : w6.cell? ⟨w3.heap.size, 1, none⟩ = some (.int .i64 sd) := (hd6 _ _ q_right).trans c5_right_1
    have c6_less_0 : w6.cell? ⟨w4.heap.size, 0, none⟩ = some (.int .i64 ln) := (hd6 _ _ q_less).trans c5_less_0
    have c6_less_1 : w6.cell? ⟨w4.heap.size, 1, none⟩ = some (.int .i64 ld) := (hd6 _ _ q_less).trans c5_less_1
    replace q_a : w1.heap.size < w6.heap.size := by omega
    replace q_b : w1.heap.size + 1 < w6.heap.size := by omega
    replace q_sum : w2.heap.size < w6.heap.size := by omega
    replace q_right : w3.heap.size < w6.heap.size := by omega
    replace q_less : w4.heap.size < w6.heap.size := by omega
    have c6_want_0 : w6.cell? ⟨w5.heap.size, 0, none⟩ = some (.int .i64 ln) := (hc6 _ _ (by go_size)).trans (by go_simp)
    have c6_want_1 : w6.cell? ⟨w5.heap.size, 1, none⟩ = some (.int .i64 ld) := (hc6 _ _ (by go_size)).trans (by go_simp)
    have q_want : w5.heap.size < w6.heap.size := by omega
    have BW6 : Below w.heap.size w w6 := BW5.trans (B6.mono BW5.size)
    clear hc6 hf6 hb6 hd6 B6 c5_a_0 c5_a_1 c5_b_0 c5_b_1 c5_sum_0 c5_sum_1 c5_right_0 c5_right_1 c5_less_0 c5_less_1 BW5
    go_wp2_with fail
    refine (C6.out _).mono ?_
    rintro e7 w7 ⟨rfl, hb7⟩
    obtain ⟨hc7, hf7⟩ := bcell hb7
    have hz7 := hb7.size
    (try simp only [World.size_alloc, World.size_setCell, World.size_drew] at hz7)
    have B7 : Below w6.heap.size w6 w7 := Below.trans (b := _) (by (repeat' (first | (with_reducible exact Below.refl _ _) | (with_reducible assumption) | (with_reducible refine Below.alloc ?_ ?_ _) | (with_reducible refine Below.drew ?_) | (with_reducible refine below_drewN ?_ _) | (with_reducible refine Below.setCell ?_ ?_ _) | (with_reducible refine below_call ?_ ?_ (by assumption)) | go_size))) (hb7.mono (by first | omega | (simp only [World.size_alloc, World.size_setCell, World.size_drew]; omega)))
    obtain ⟨hd7, -⟩ := bcell B7
    have c7_a_0 : w7.cell? ⟨w1.heap.size, 0, none⟩ = some (.int .i64 n0) := (hd7 _ _ q_a).trans c6_a_0
    have c7_a_1 : w7.cell? ⟨w1.heap.size, 1, none⟩ = some (.int .i64 d0) := (hd7 _ _ q_a).trans c6_a_1
    have c7_b_0 : w7.cell? ⟨w1.heap.size + 1, 0, none⟩ = some (.int .i64 n1) := (hd7 _ _ q_b).trans c6_b_0
    have c7_b_1 : w7.cell? ⟨w1.heap.size + 1, 1, none⟩ = some (.int .i64 d1) := (hd7 _ _ q_b).trans c6_b_1
    have c7_sum_0 : w7.cell? ⟨w2.heap.size, 0, none⟩ = some (.int .i64 sn) := (hd7 _ _ q_sum).trans c6_sum_0
    have c7_sum_1 : w7.cell? ⟨w2.heap.size, 1, none⟩ = some (.int .i64 sd) := (hd7 _ _ q_sum).trans c6_sum_1
    have c7_right_0 : w7.cell? ⟨w3.heap.size, 0, none⟩ = some (.int .i64 sn) := (hd7 _ _ q_right).trans c6_right_0
    have c7_right_1 : w7.cell? ⟨w3.heap.size, 1, none⟩ = some (.int .i64 sd) := (hd7 _ _ q_right).trans c6_right_1
    have c7_less_0 : w7.cell? ⟨w4.heap.size, 0, none⟩ = some (.int .i64 ln) := (hd7 _ _ q_less).trans c6_less_0
    have c7_less_1 : w7.cell? ⟨w4.heap.size, 1, none⟩ = some (.int .i64 ld) := (hd7 _ _ q_less).trans c6_less_1
    have c7_want_0 : w7.cell? ⟨w5.heap.size, 0, none⟩ = some (.int .i64 ln) := (hd7 _ _ q_want).trans c6_want_0
    have c7_want_1 : w7.cell? ⟨w5.heap.size, 1, none⟩ = some (.int .i64 ld) := (hd7 _ _ q_want).trans c6_want_1
    replace q_a : w1.heap.size < w7.heap.size := by omega
    replace q_b : w1.heap.size + 1 < w7.heap.size := by omega
    replace q_sum : w2.heap.size < w7.heap.size := by omega
    replace q_right : w3.heap.size < w7.heap.size := by omega
    replace q_less : w4.heap.size < w7.heap.size := by omega
    replace q_want : w5.heap.size < w7.heap.size := by omega
    have BW7 : Below w.heap.size w w7 := BW6.trans (B7.mono BW6.size)
    clear hc7 hf7 hb7 hd7 B7 c6_a_0 c6_a_1 c6_b_0 c6_b_1 c6_sum_0 c6_sum_1 c6_right_0 c6_right_1 c6_less_0 c6_less_1 c6_want_0 c6_want_1 BW6
    go_wp2_with fail
    refine (C7.out _).mono ?_
    rintro e8 w8 ⟨rfl, hb8⟩
    obtain ⟨hc8, hf8⟩ := bcell hb8
    have hz8 := hb8.size
    (try simp only [World.size_alloc, World.size_setCell, World.size_drew] at hz8)
    have B8 : Below w7.heap.size w7 w8 := Below.trans (b := _) (by (repeat' (first | (with_reducible exact Below.refl _ _) | (with_reducible assumption) | (with_reducible refine Below.alloc ?_ ?_ _) | (with_reducible refine Below.drew ?_) | (with_reducible refine below_drewN ?_ _) | (with_reducible refine Below.setCell ?_ ?_ _) | (with_reducible refine below_call ?_ ?_ (by assumption)) | go_size))) (hb8.mono (by first | omega | (simp only [World.size_alloc, World.size_setCell, World.size_drew]; omega)))
    obtain ⟨hd8, -⟩ := bcell B8
    have c8_a_0 : w8.cell? ⟨w1.heap.size, 0, none⟩ = some (.int .i64 n0) := (hd8 _ _ q_a).trans c7_a_0
    have c8_a_1 : w8.cell? ⟨w1.heap.size, 1, none⟩ = some (.int .i64 d0) := (hd8 _ _ q_a).trans c7_a_1
    have c8_b_0 : w8.cell? ⟨w1.heap.size + 1, 0, none⟩ = some (.int .i64 n1) := (hd8 _ _ q_b).trans c7_b_0
    have c8_b_1 : w8.cell? ⟨w1.heap.size + 1, 1, none⟩ = some (.int .i64 d1) := (hd8 _ _ q_b).trans c7_b_1
    have c8_sum_0 : w8.cell? ⟨w2.heap.size, 0, none⟩ = some (.int .i64 sn) := (hd8 _ _ q_sum).trans c7_sum_0
    have c8_sum_1 : w8.cell? ⟨w2.heap.size, 1, none⟩ = some (.int .i64 sd) := (hd8 _ _ q_sum).trans c7_sum_1
    have c8_right_0 : w8.cell? ⟨w3.heap.size, 0, none⟩ = some (.int .i64 sn) := (hd8 _ _ q_right).trans c7_right_0
    have c8_right_1 : w8.cell? ⟨w3.heap.size, 1, none⟩ = some (.int .i64 sd) := (hd8 _ _ q_right).trans c7_right_1
    have c8_less_0 : w8.cell? ⟨w4.heap.size, 0, none⟩ = some (.int .i64 ln) := (hd8 _ _ q_less).trans c7_less_0
    have c8_less_1 : w8.cell? ⟨w4.heap.size, 1, none⟩ = some (.int .i64 ld) := (hd8 _ _ q_less).trans c7_less_1
    have c8_want_0 : w8.cell? ⟨w5.heap.size, 0, none⟩ = some (.int .i64 ln) := (hd8 _ _ q_want).trans c7_want_0
    have c8_want_1 : w8.cell? ⟨w5.heap.size, 1, none⟩ = some (.int .i64 ld) := (hd8 _ _ q_want).trans c7_want_1
    replace q_a : w1.heap.size < w8.heap.size := by omega
    replace q_b : w1.heap.size + 1 < w8.heap.size := by omega
    replace q_sum : w2.heap.size < w8.heap.size := by omega
    replace q_right : w3.heap.size < w8.heap.size := by omega
    replace q_less : w4.heap.size < w8.heap.size := by omega
    replace q_want : w5.heap.size < w8.heap.size := by omega
    have BW8 : Below w.heap.size w w8 := BW7.trans (B8.mono BW7.size)
    clear hc8 hf8 hb8 hd8 B8 c7_a_0 c7_a_1 c7_b_0 c7_b_1 c7_sum_0 c7_sum_1 c7_right_0 c7_right_1 c7_less_0 c7_less_1 c7_want_0 c7_want_1 BW7
    go_wp2_with fail
    refine (C8.out _).mono ?_
    rintro e9 w9 ⟨rfl, hb9⟩
    obtain ⟨hc9, hf9⟩ := bcell hb9
    have hz9 := hb9.size
    (try simp only [World.size_alloc, World.size_setCell, World.size_drew] at hz9)
    have B9 : Below w8.heap.size w8 w9 := Below.trans (b := _) (by (repeat' (first | (with_reducible exact Below.refl _ _) | (with_reducible assumption) | (with_reducible refine Below.alloc ?_ ?_ _) | (with_reducible refine Below.drew ?_) | (with_reducible refine below_drewN ?_ _) | (with_reducible refine Below.setCell ?_ ?_ _) | (with_reducible refine below_call ?_ ?_ (by assumption)) | go_size))) (hb9.mono (by first | omega | (simp only [World.size_alloc, World.size_setCell, World.size_drew]; omega)))
    obtain ⟨hd9, -⟩ := bcell B9
    have c9_a_0 : w9.cell? ⟨w1.heap.size, 0, none⟩ = some (.int .i64 n0) := (hd9 _ _ q_a).trans c8_a_0
    have c9_a_1 : w9.cell? ⟨w1.heap.size, 1, none⟩ = some (.int .i64 d0) := (hd9 _ _ q_a).trans c8_a_1
    have c9_b_0 : w9.cell? ⟨w1.heap.size + 1, 0, none⟩ = some (.int .i64 n1) := (hd9 _ _ q_b).trans c8_b_0
    have c9_b_1 : w9.cell? ⟨w1.heap.size + 1, 1, none⟩ = some (.int .i64 d1) := (hd9 _ _ q_b).trans c8_b_1
    have c9_sum_0 : w9.cell? ⟨w2.heap.size, 0, none⟩ = some (.int .i64 sn) := (hd9 _ _ q_sum).trans c8_sum_0
    have c9_sum_1 : w9.cell? ⟨w2.heap.size, 1, none⟩ = some (.int .i64 sd) := (hd9 _ _ q_sum).trans c8_sum_1
    have c9_right_0 : w9.cell? ⟨w3.heap.size, 0, none⟩ = some (.int .i64 sn) := (hd9 _ _ q_right).trans c8_right_0
    have c9_right_1 : w9.cell? ⟨w3.heap.size, 1, none⟩ = some (.int .i64 sd) := (hd9 _ _ q_right).trans c8_right_1
    have c9_less_0 : w9.cell? ⟨w4.heap.size, 0, none⟩ = some (.int .i64 ln) := (hd9 _ _ q_less).trans c8_less_0
    have c9_less_1 : w9.cell? ⟨w4.heap.size, 1, none⟩ = some (.int .i64 ld) := (hd9 _ _ q_less).trans c8_less_1
    have c9_want_0 : w9.cell? ⟨w5.heap.size, 0, none⟩ = some (.int .i64 ln) := (hd9 _ _ q_want).trans c8_want_0
    have c9_want_1 : w9.cell? ⟨w5.heap.size, 1, none⟩ = some (.int .i64 ld) := (hd9 _ _ q_want).trans c8_want_1
    replace q_a : w1.heap.size < w9.heap.size := by omega
    replace q_b : w1.heap.size + 1 < w9.heap.size := by omega
    replace q_sum : w2.heap.size < w9.heap.size := by omega
    replace q_right : w3.heap.size < w9.heap.size := by omega
    replace q_less : w4.heap.size < w9.heap.size := by omega
    replace q_want : w5.heap.size < w9.heap.size := by omega
    have c9_mirror_0 : w9.cell? ⟨w8.heap.size, 0, none⟩ = some (.int .i64 mn) := (hc9 _ _ (by go_size)).trans (by go_simp)
    have c9_mirror_1 : w9.cell? ⟨w8.heap.size, 1, none⟩ = some (.int .i64 md) := (hc9 _ _ (by go_size)).trans (by go_simp)
    have q_mirror : w8.heap.size < w9.heap.size := by omega
    have BW9 : Below w.heap.size w w9 := BW8.trans (B9.mono BW8.size)
    clear hc9 hf9 hb9 hd9 B9 c8_a_0 c8_a_1 c8_b_0 c8_b_1 c8_sum_0 c8_sum_1 c8_right_0 c8_right_1 c8_less_0 c8_less_1 c8_want_0 c8_want_1 BW8
    go_upto_region 12 with fail
    have hb10 : Below w9.heap.size w9 (w9.alloc (Obj.cells #[.int .i64 mn, .int .i64 md] 25)) := by (repeat' (first | (with_reducible exact Below.refl _ _) | (with_reducible assumption) | (with_reducible refine Below.alloc ?_ ?_ _) | (with_reducible refine Below.drew ?_) | (with_reducible refine below_drewN ?_ _) | (with_reducible refine Below.setCell ?_ ?_ _) | (with_reducible refine below_call ?_ ?_ (by assumption)) | go_size))
    have c10_value_0 : (w9.alloc (Obj.cells #[.int .i64 mn, .int .i64 md] 25)).cell? ⟨w9.heap.size, 0, none⟩ = some (.int .i64 mn) := by go_simp
    have c10_value_1 : (w9.alloc (Obj.cells #[.int .i64 mn, .int .i64 md] 25)).cell? ⟨w9.heap.size, 1, none⟩ = some (.int .i64 md) := by go_simp
    have q_value : w9.heap.size < (w9.alloc (Obj.cells #[.int .i64 mn, .int .i64 md] 25)).heap.size := by go_size
    generalize (w9.alloc (Obj.cells #[.int .i64 mn, .int .i64 md] 25)) = w10 at *
    obtain ⟨hd10, -⟩ := bcell hb10
    have hz10 := hb10.size
    have c10_a_0 : w10.cell? ⟨w1.heap.size, 0, none⟩ = some (.int .i64 n0) := (hd10 _ _ q_a).trans c9_a_0
    have c10_a_1 : w10.cell? ⟨w1.heap.size, 1, none⟩ = some (.int .i64 d0) := (hd10 _ _ q_a).trans c9_a_1
    have c10_b_0 : w10.cell? ⟨w1.heap.size + 1, 0, none⟩ = some (.int .i64 n1) := (hd10 _ _ q_b).trans c9_b_0
    have c10_b_1 : w10.cell? ⟨w1.heap.size + 1, 1, none⟩ = some (.int .i64 d1) := (hd10 _ _ q_b).trans c9_b_1
    have c10_sum_0 : w10.cell? ⟨w2.heap.size, 0, none⟩ = some (.int .i64 sn) := (hd10 _ _ q_sum).trans c9_sum_0
    have c10_sum_1 : w10.cell? ⟨w2.heap.size, 1, none⟩ = some (.int .i64 sd) := (hd10 _ _ q_sum).trans c9_sum_1
    have c10_right_0 : w10.cell? ⟨w3.heap.size, 0, none⟩ = some (.int .i64 sn) := (hd10 _ _ q_right).trans c9_right_0
    have c10_right_1 : w10.cell? ⟨w3.heap.size, 1, none⟩ = some (.int .i64 sd) := (hd10 _ _ q_right).trans c9_right_1
    have c10_less_0 : w10.cell? ⟨w4.heap.size, 0, none⟩ = some (.int .i64 ln) := (hd10 _ _ q_less).trans c9_less_0
    have c10_less_1 : w10.cell? ⟨w4.heap.size, 1, none⟩ = some (.int .i64 ld) := (hd10 _ _ q_less).trans c9_less_1
    have c10_want_0 : w10.cell? ⟨w5.heap.size, 0, none⟩ = some (.int .i64 ln) := (hd10 _ _ q_want).trans c9_want_0
    have c10_want_1 : w10.cell? ⟨w5.heap.size, 1, none⟩ = some (.int .i64 ld) := (hd10 _ _ q_want).trans c9_want_1
    have c10_mirror_0 : w10.cell? ⟨w8.heap.size, 0, none⟩ = some (.int .i64 mn) := (hd10 _ _ q_mirror).trans c9_mirror_0
    have c10_mirror_1 : w10.cell? ⟨w8.heap.size, 1, none⟩ = some (.int .i64 md) := (hd10 _ _ q_mirror).trans c9_mirror_1
    replace q_a : w1.heap.size < w10.heap.size := by omega
    replace q_b : w1.heap.size + 1 < w10.heap.size := by omega
    replace q_sum : w2.heap.size < w10.heap.size := by omega
    replace q_right : w3.heap.size < w10.heap.size := by omega
    replace q_less : w4.heap.size < w10.heap.size := by omega
    replace q_want : w5.heap.size < w10.heap.size := by omega
    replace q_mirror : w8.heap.size < w10.heap.size := by omega
    have BW10 : Below w.heap.size w w10 := BW9.trans (hb10.mono BW9.size)
    clear hb10 hd10 c9_a_0 c9_a_1 c9_b_0 c9_b_1 c9_sum_0 c9_sum_1 c9_right_0 c9_right_1 c9_less_0 c9_less_1 c9_want_0 c9_want_1 c9_mirror_0 c9_mirror_1 BW9
    go_cut [179] from 999 to 999 (fun x wx => x = .bool false ∧ Below w10.heap.size w10 wx)
    case first =>
      as_aux_lemma =>
        have hmo : mo = goodB n0 d0 := HM.out
        refine wp_region_below (by kernel_rfl) (by kernel_rfl) ?_
        (apply wpB_take (hw := rfl); (intro wq hq; obtain ⟨hcq, hfq⟩ := bcell hq; unfold atB; go_simp; exact ⟨rfl, rfl⟩); (rw [put_lit]; dsimp only [List.set]))
        (apply wpB_take (hw := rfl); (intro wq hq; obtain ⟨hcq, hfq⟩ := bcell hq; unfold atB; go_simp; exact ⟨rfl, rfl⟩); (rw [put_lit]; dsimp only [List.set]))
        (apply wpB_take (hw := rfl); (intro wq hq; obtain ⟨hcq, hfq⟩ := bcell hq; unfold atB; go_simp; exact ⟨rfl, rfl⟩); (rw [put_lit]; dsimp only [List.set]))
        (apply wpB_take (hw := rfl); (intro wq hq; obtain ⟨hcq, hfq⟩ := bcell hq; unfold atB; go_simp; exact ⟨rfl, rfl⟩); (rw [put_lit]; dsimp only [List.set]))
        (apply wpB_take (hw := rfl); (intro wq hq; obtain ⟨hcq, hfq⟩ := bcell hq; unfold atB; go_simp; exact ⟨rfl, rfl⟩); (rw [put_lit]; dsimp only [List.set]))
        (apply wpB_take (hw := rfl); (intro wq hq; obtain ⟨hcq, hfq⟩ := bcell hq; unfold atB; go_simp; exact ⟨rfl, rfl⟩); (rw [put_lit]; dsimp only [List.set]))
        (apply wpB_take (hw := rfl); (intro wq hq; obtain ⟨hcq, hfq⟩ := bcell hq; unfold atB; go_simp; exact ⟨rfl, rfl⟩); (rw [put_lit]; dsimp only [List.set]))
        (apply wpB_take (hw := rfl); (intro wq hq; obtain ⟨hcq, hfq⟩ := bcell hq; unfold atB; go_simp; exact ⟨rfl, rfl⟩); (rw [put_lit]; dsimp only [List.set]))
        (apply wpB_take (hw := rfl); (intro wq hq; obtain ⟨hcq, hfq⟩ := bcell hq; unfold atB; go_simp; exact ⟨rfl, rfl⟩); (rw [put_lit]; dsimp only [List.set]))
        (apply wpB_take (hw := rfl); (intro wq hq; obtain ⟨hcq, hfq⟩ := bcell hq; unfold atB; go_simp; exact ⟨rfl, rfl⟩); (rw [put_lit]; dsimp only [List.set]))
        (apply wpB_take (hw := rfl); (intro wq hq; obtain ⟨hcq, hfq⟩ := bcell hq; unfold atB; go_simp; exact ⟨rfl, rfl⟩); (rw [put_lit]; dsimp only [List.set]))
        (apply wpB_take (hw := rfl); (intro wq hq; obtain ⟨hcq, hfq⟩ := bcell hq; unfold atB; go_simp; exact ⟨rfl, rfl⟩); (rw [put_lit]; dsimp only [List.set]))
        (apply wpB_take (hw := rfl); (intro wq hq; obtain ⟨hcq, hfq⟩ := bcell hq; unfold atB; go_simp; exact ⟨rfl, rfl⟩); (rw [put_lit]; dsimp only [List.set]))
        (apply wpB_take (hw := rfl); (intro wq hq; obtain ⟨hcq, hfq⟩ := bcell hq; unfold atB; go_simp; exact ⟨rfl, rfl⟩); (rw [put_lit]; dsimp only [List.set]))
        (apply wpB_take (hw := rfl); (intro wq hq; obtain ⟨hcq, hfq⟩ := bcell hq; unfold atB; go_simp; exact ⟨rfl, rfl⟩); (rw [put_lit]; dsimp only [List.set]))
        (apply wpB_take (hw := rfl); (intro wq hq; obtain ⟨hcq, hfq⟩ := bcell hq; unfold atB; go_simp; exact ⟨rfl, rfl⟩); (rw [put_lit]; dsimp only [List.set]))
        (apply wpB_take (hw := rfl); (intro wq hq; obtain ⟨hcq, hfq⟩ := bcell hq; unfold atB; go_simp; exact ⟨rfl, rfl⟩); (rw [put_lit]; dsimp only [List.set]))
        (apply wpB_take (hw := rfl); (intro wq hq; obtain ⟨hcq, hfq⟩ := bcell hq; unfold atB; go_simp; exact ⟨rfl, rfl⟩); (rw [put_lit]; dsimp only [List.set]))
        (apply wpB_take (hw := rfl); (intro wq hq; obtain ⟨hcq, hfq⟩ := bcell hq; unfold atB; go_simp; exact ⟨rfl, rfl⟩); (rw [put_lit]; dsimp only [List.set]))
        (apply wpB_take (hw := rfl); (intro wq hq; obtain ⟨hcq, hfq⟩ := bcell hq; unfold atB; go_simp; exact ⟨rfl, rfl⟩); (rw [put_lit]; dsimp only [List.set]))
        (apply wpB_take (hw := rfl); (intro wq hq; obtain ⟨hcq, hfq⟩ := bcell hq; unfold atB; go_simp; exact ⟨rfl, rfl⟩); (rw [put_lit]; dsimp only [List.set]))
        (apply wpB_take (hw := rfl); (intro wq hq; obtain ⟨hcq, hfq⟩ := bcell hq; unfold atB; go_simp; exact ⟨rfl, rfl⟩); (rw [put_lit]; dsimp only [List.set]))
        (apply wpB_take (hw := rfl); (intro wq hq; obtain ⟨hcq, hfq⟩ := bcell hq; unfold atB; go_simp; exact ⟨rfl, rfl⟩); (rw [put_lit]; dsimp only [List.set]))
        (apply wpB_take (hw := rfl); (intro wq hq; obtain ⟨hcq, hfq⟩ := bcell hq; unfold atB; go_simp; exact ⟨rfl, rfl⟩); (rw [put_lit]; dsimp only [List.set]))
        (apply wpB_take (hw := rfl); (intro wq hq; obtain ⟨hcq, hfq⟩ := bcell hq; unfold atB; go_simp; exact ⟨rfl, rfl⟩); (rw [put_lit]; dsimp only [List.set]))
        (apply wpB_take (hw := rfl); (intro wq hq; obtain ⟨hcq, hfq⟩ := bcell hq; unfold atB; go_simp; exact ⟨rfl, rfl⟩); (rw [put_lit]; dsimp only [List.set]))
        (apply wpB_take (hw := rfl); (intro wq hq; obtain ⟨hcq, hfq⟩ := bcell hq; unfold atB; go_simp; exact ⟨rfl, rfl⟩); (rw [put_lit]; dsimp only [List.set]))
        (apply wpB_take (hw := rfl); (intro wq hq; obtain ⟨hcq, hfq⟩ := bcell hq; unfold atB; go_simp; exact ⟨rfl, rfl⟩); (rw [put_lit]; dsimp only [List.set]))
        (apply wpB_take (hw := rfl); (intro wq hq; obtain ⟨hcq, hfq⟩ := bcell hq; unfold atB; go_simp; exact ⟨rfl, rfl⟩); (rw [put_lit]; dsimp only [List.set]))
        (apply wpB_take (hw := rfl); (intro wq hq; obtain ⟨hcq, hfq⟩ := bcell hq; unfold atB; go_simp; exact ⟨rfl, rfl⟩); (rw [put_lit]; dsimp only [List.set]))
        (apply wpB_take (hw := rfl); (intro wq hq; obtain ⟨hcq, hfq⟩ := bcell hq; unfold atB; go_simp; exact ⟨rfl, rfl⟩); (rw [put_lit]; dsimp only [List.set]))
        (apply wpB_take (hw := rfl); (intro wq hq; obtain ⟨hcq, hfq⟩ := bcell hq; unfold atB; go_simp; exact ⟨rfl, rfl⟩); (rw [put_lit]; dsimp only [List.set]))
        (apply wpB_take (hw := rfl); (intro wq hq; obtain ⟨hcq, hfq⟩ := bcell hq; unfold atB; go_simp; exact ⟨rfl, rfl⟩); (rw [put_lit]; dsimp only [List.set]))
        (apply wpB_take (hw := rfl); (intro wq hq; obtain ⟨hcq, hfq⟩ := bcell hq; unfold atB; go_simp; exact ⟨rfl, rfl⟩); (rw [put_lit]; dsimp only [List.set]))
        (apply wpB_take (hw := rfl); (intro wq hq; obtain ⟨hcq, hfq⟩ := bcell hq; unfold atB; go_simp; exact ⟨rfl, rfl⟩); (rw [put_lit]; dsimp only [List.set]))
        (apply wpB_take (hw := rfl); (intro wq hq; obtain ⟨hcq, hfq⟩ := bcell hq; unfold atB; go_simp; exact ⟨rfl, rfl⟩); (rw [put_lit]; dsimp only [List.set]))
        (apply wpB_take (hw := rfl); (intro wq hq; obtain ⟨hcq, hfq⟩ := bcell hq; unfold atB; go_simp; exact ⟨rfl, rfl⟩); (rw [put_lit]; dsimp only [List.set]))
        (apply wpB_take (hw := rfl); (intro wq hq; obtain ⟨hcq, hfq⟩ := bcell hq; unfold atB; go_simp; exact ⟨rfl, rfl⟩); (rw [put_lit]; dsimp only [List.set]))
        (apply wpB_take (hw := rfl); (intro wq hq; obtain ⟨hcq, hfq⟩ := bcell hq; unfold atB; go_simp; exact ⟨rfl, rfl⟩); (rw [put_lit]; dsimp only [List.set]))
        (apply wpB_take (hw := rfl); (intro wq hq; obtain ⟨hcq, hfq⟩ := bcell hq; unfold atB; go_simp; exact ⟨rfl, rfl⟩); (rw [put_lit]; dsimp only [List.set]))
        (apply wpB_take (hw := rfl); (intro wq hq; obtain ⟨hcq, hfq⟩ := bcell hq; unfold atB; go_simp; exact ⟨rfl, rfl⟩); (rw [put_lit]; dsimp only [List.set]))
        (apply wpB_take (hw := rfl); (intro wq hq; unfold atB; go_simp; exact ⟨rfl, isTurn_any n0 d0 _⟩); (rw [put_lit]; dsimp only [List.set]))
        (apply wpB_take (hw := rfl); (intro wq hq; obtain ⟨hcq, hfq⟩ := bcell hq; unfold atB; go_simp; exact ⟨rfl, rfl⟩); (rw [put_lit]; dsimp only [List.set]))
        (apply wpB_take (hw := rfl); (intro wq hq; obtain ⟨hcq, hfq⟩ := bcell hq; unfold atB; go_simp; exact ⟨rfl, rfl⟩); (rw [put_lit]; dsimp only [List.set]))
        (apply wpB_take (hw := rfl); (intro wq hq; obtain ⟨hcq, hfq⟩ := bcell hq; unfold atB; go_simp; exact ⟨rfl, rfl⟩); (rw [put_lit]; dsimp only [List.set]))
        (apply wpB_take (hw := rfl); (intro wq hq; obtain ⟨hcq, hfq⟩ := bcell hq; unfold atB; go_simp; exact ⟨rfl, rfl⟩); (rw [put_lit]; dsimp only [List.set]))
        (apply wpB_take (hw := rfl); (intro wq hq; unfold atB; go_simp; exact ⟨rfl, isTurn_any n0 d0 _⟩); (rw [put_lit]; dsimp only [List.set]))
        (apply wpB_take (hw := rfl); (intro wq hq; obtain ⟨hcq, hfq⟩ := bcell hq; unfold atB; go_simp; exact ⟨rfl, rfl⟩); (rw [put_lit]; dsimp only [List.set]))
        (apply wpB_take (hw := rfl); (intro wq hq; unfold atB; go_simp; exact ⟨rfl, specIsTurn_is n0 d0 rfl kd0 _⟩); (rw [put_lit]; dsimp only [List.set]))
        (apply wpB_take (hw := rfl); (intro wq hq; obtain ⟨hcq, hfq⟩ := bcell hq; unfold atB; go_simp; exact ⟨rfl, rfl⟩); (rw [put_lit]; dsimp only [List.set]))
        (apply wpB_take (hw := rfl); (intro wq hq; obtain ⟨hcq, hfq⟩ := bcell hq; unfold atB; go_simp; exact ⟨rfl, rfl⟩); (rw [put_lit]; dsimp only [List.set]))
        (apply wpB_take (hw := rfl); (intro wq hq; obtain ⟨hcq, hfq⟩ := bcell hq; unfold atB; go_simp; exact ⟨rfl, rfl⟩); (rw [put_lit]; dsimp only [List.set]))
        (apply wpB_take (hw := rfl); (intro wq hq; obtain ⟨hcq, hfq⟩ := bcell hq; unfold atB; go_simp; exact ⟨rfl, rfl⟩); (rw [put_lit]; dsimp only [List.set]))
        (apply wpB_take (hw := rfl); (intro wq hq; obtain ⟨hcq, hfq⟩ := bcell hq; unfold atB; go_simp; exact ⟨rfl, rfl⟩); (rw [put_lit]; dsimp only [List.set]))
        (apply wpB_take (hw := rfl); (intro wq hq; unfold atB; go_simp; exact ⟨rfl, isTurn_any n0 d0 _⟩); (rw [put_lit]; dsimp only [List.set]))
        (apply wpB_take (hw := rfl); (intro wq hq; obtain ⟨hcq, hfq⟩ := bcell hq; unfold atB; go_simp; exact ⟨rfl, rfl⟩); (rw [put_lit]; dsimp only [List.set]))
        cases ga : goodB n0 d0
        · clear hmo
          have e1 : co = false := by rw [HC.out, ga]; rfl
          have e3 : so = false := by
            cases so
            · rfl
            · have := (FSG.out rfl).1; rw [ga] at this; cases this
          have e4 : lo = false := by
            cases lo
            · rfl
            · have := HLG.out rfl; rw [ga] at this; cases this
          subst e1 e3 e4
          (apply wpB_skip (hw := rfl); try (rw [put_lit]; dsimp only [List.set]))
          (apply wpB_skip (hw := rfl); try (rw [put_lit]; dsimp only [List.set]))
          (apply wpB_take (hw := rfl); (intro wq hq; obtain ⟨hcq, hfq⟩ := bcell hq; unfold atB; go_simp; exact ⟨rfl, rfl⟩); (rw [put_lit]; dsimp only [List.set]))
          (apply wpB_take (hw := rfl); (intro wq hq; obtain ⟨hcq, hfq⟩ := bcell hq; unfold atB; go_simp; exact ⟨rfl, rfl⟩); (rw [put_lit]; dsimp only [List.set]))
          (apply wpB_take (hw := rfl); (intro wq hq; obtain ⟨hcq, hfq⟩ := bcell hq; unfold atB; go_simp; exact ⟨rfl, rfl⟩); (rw [put_lit]; dsimp only [List.set]))
          (apply wpB_take (hw := rfl); (intro wq hq; obtain ⟨hcq, hfq⟩ := bcell hq; unfold atB; go_simp; exact ⟨rfl, rfl⟩); (rw [put_lit]; dsimp only [List.set]))
          (apply wpB_take (hw := rfl); (intro wq hq; obtain ⟨hcq, hfq⟩ := bcell hq; unfold atB; go_simp; exact ⟨rfl, rfl⟩); (rw [put_lit]; dsimp only [List.set]))
          (apply wpB_take (hw := rfl); (intro wq hq; obtain ⟨hcq, hfq⟩ := bcell hq; unfold atB; go_simp; exact ⟨rfl, rfl⟩); (rw [put_lit]; dsimp only [List.set]))
          (apply wpB_skip (hw := rfl); try (rw [put_lit]; dsimp only [List.set]))
          (apply wpB_skip (hw := rfl); try (rw [put_lit]; dsimp only [List.set]))
          (apply wpB_take (hw := rfl); (intro wq hq; obtain ⟨hcq, hfq⟩ := bcell hq; unfold atB; go_simp; exact ⟨rfl, rfl⟩); (rw [put_lit]; dsimp only [List.set]))
          (apply wpB_take (hw := rfl); (intro wq hq; obtain ⟨hcq, hfq⟩ := bcell hq; unfold atB; go_simp; exact ⟨rfl, rfl⟩); (rw [put_lit]; dsimp only [List.set]))
          (apply wpB_take (hw := rfl); (intro wq hq; obtain ⟨hcq, hfq⟩ := bcell hq; unfold atB; go_simp; exact ⟨rfl, rfl⟩); (rw [put_lit]; dsimp only [List.set]))
          (apply wpB_take (hw := rfl); (intro wq hq; obtain ⟨hcq, hfq⟩ := bcell hq; unfold atB; go_simp; exact ⟨rfl, rfl⟩); (rw [put_lit]; dsimp only [List.set]))
          (apply wpB_take (hw := rfl); (intro wq hq; obtain ⟨hcq, hfq⟩ := bcell hq; unfold atB; go_simp; exact ⟨rfl, rfl⟩); (rw [put_lit]; dsimp only [List.set]))
          (apply wpB_skip (hw := rfl); try (rw [put_lit]; dsimp only [List.set]))
          (apply wpB_skip (hw := rfl); try (rw [put_lit]; dsimp only [List.set]))
          (apply wpB_take (hw := rfl); (intro wq hq; obtain ⟨hcq, hfq⟩ := bcell hq; unfold atB; go_simp; exact ⟨rfl, rfl⟩); (rw [put_lit]; dsimp only [List.set]))
          (apply wpB_take (hw := rfl); (intro wq hq; obtain ⟨hcq, hfq⟩ := bcell hq; unfold atB; go_simp; exact ⟨rfl, rfl⟩); (rw [put_lit]; dsimp only [List.set]))
          refine fun wx hbx => ?_
          simp only [Exit.then]
          refine (by assumption : ∀ (a' : Act) (w' : World), Met _ a' w' → _) _ _ ?_
          go_meet
          case rel => exact ⟨rfl, hbx⟩
        · have hco : co = goodB n1 d1 := by rw [HC.out, ga]; simp
          clear hmo
          (apply wpB_take (hw := rfl); (intro wq hq; obtain ⟨hcq, hfq⟩ := bcell hq; unfold atB; go_simp; exact ⟨rfl, rfl⟩); (rw [put_lit]; dsimp only [List.set]))
          (apply wpB_take (hw := rfl); (intro wq hq; unfold atB; go_simp; exact ⟨rfl, isTurn_any n1 d1 _⟩); (rw [put_lit]; dsimp only [List.set]))
          (apply wpB_take (hw := rfl); (intro wq hq; obtain ⟨hcq, hfq⟩ := bcell hq; unfold atB; go_simp; exact ⟨rfl, rfl⟩); (rw [put_lit]; dsimp only [List.set]))
          (apply wpB_take (hw := rfl); (intro wq hq; obtain ⟨hcq, hfq⟩ := bcell hq; unfold atB; go_simp; exact ⟨rfl, rfl⟩); (rw [put_lit]; dsimp only [List.set]))
          (apply wpB_take (hw := rfl); (intro wq hq; obtain ⟨hcq, hfq⟩ := bcell hq; unfold atB; go_simp; exact ⟨rfl, rfl⟩); (rw [put_lit]; dsimp only [List.set]))
          (apply wpB_take (hw := rfl); (intro wq hq; obtain ⟨hcq, hfq⟩ := bcell hq; unfold atB; go_simp; exact ⟨rfl, rfl⟩); (rw [put_lit]; dsimp only [List.set]))
          (apply wpB_take (hw := rfl); (intro wq hq; obtain ⟨hcq, hfq⟩ := bcell hq; unfold atB; go_simp; exact ⟨rfl, rfl⟩); (rw [put_lit]; dsimp only [List.set]))
          (apply wpB_take (hw := rfl); (intro wq hq; obtain ⟨hcq, hfq⟩ := bcell hq; unfold atB; go_simp; exact ⟨rfl, rfl⟩); (rw [put_lit]; dsimp only [List.set]))
          clear hco
          cases so
          · (apply wpB_skip (hw := rfl); try (rw [put_lit]; dsimp only [List.set]))
            (apply wpB_skip (hw := rfl); try (rw [put_lit]; dsimp only [List.set]))
            (apply wpB_take (hw := rfl); (intro wq hq; obtain ⟨hcq, hfq⟩ := bcell hq; unfold atB; go_simp; exact ⟨rfl, rfl⟩); (rw [put_lit]; dsimp only [List.set]))
            (apply wpB_take (hw := rfl); (intro wq hq; obtain ⟨hcq, hfq⟩ := bcell hq; unfold atB; go_simp; exact ⟨rfl, rfl⟩); (rw [put_lit]; dsimp only [List.set]))
            (apply wpB_take (hw := rfl); (intro wq hq; obtain ⟨hcq, hfq⟩ := bcell hq; unfold atB; go_simp; exact ⟨rfl, rfl⟩); (rw [put_lit]; dsimp only [List.set]))
            (apply wpB_take (hw := rfl); (intro wq hq; obtain ⟨hcq, hfq⟩ := bcell hq; unfold atB; go_simp; exact ⟨rfl, rfl⟩); (rw [put_lit]; dsimp only [List.set]))
            (apply wpB_take (hw := rfl); (intro wq hq; obtain ⟨hcq, hfq⟩ := bcell hq; unfold atB; go_simp; exact ⟨rfl, rfl⟩); (rw [put_lit]; dsimp only [List.set]))
            cases lo
            · (apply wpB_skip (hw := rfl); try (rw [put_lit]; dsimp only [List.set]))
              (apply wpB_skip (hw := rfl); try (rw [put_lit]; dsimp only [List.set]))
              (apply wpB_take (hw := rfl); (intro wq hq; obtain ⟨hcq, hfq⟩ := bcell hq; unfold atB; go_simp; exact ⟨rfl, rfl⟩); (rw [put_lit]; dsimp only [List.set]))
              (apply wpB_take (hw := rfl); (intro wq hq; obtain ⟨hcq, hfq⟩ := bcell hq; unfold atB; go_simp; exact ⟨rfl, rfl⟩); (rw [put_lit]; dsimp only [List.set]))
              refine fun wx hbx => ?_
              simp only [Exit.then]
              refine (by assumption : ∀ (a' : Act) (w' : World), Met _ a' w' → _) _ _ ?_
              go_meet
              case rel => exact ⟨rfl, hbx⟩
            · have e1 : co = true := HC.out.trans (HLG.out rfl)
              subst e1
              (apply wpB_take (hw := rfl); (intro wq hq; obtain ⟨hcq, hfq⟩ := bcell hq; unfold atB; go_simp; exact ⟨rfl, rfl⟩); (rw [put_lit]; dsimp only [List.set]))
              (apply wpB_take (hw := rfl); (intro wq hq; obtain ⟨hcq, hfq⟩ := bcell hq; unfold atB; go_simp; exact ⟨rfl, rfl⟩); (rw [put_lit]; dsimp only [List.set]))
              (apply wpB_take (hw := rfl); (intro wq hq; obtain ⟨hcq, hfq⟩ := bcell hq; unfold atB; go_simp; exact ⟨rfl, rfl⟩); (rw [put_lit]; dsimp only [List.set]))
              (apply wpB_take (hw := rfl); (intro wq hq; obtain ⟨hcq, hfq⟩ := bcell hq; unfold atB; go_simp; exact ⟨rfl, rfl⟩); (rw [put_lit]; dsimp only [List.set]))
              refine fun wx hbx => ?_
              simp only [Exit.then]
              refine (by assumption : ∀ (a' : Act) (w' : World), Met _ a' w' → _) _ _ ?_
              go_meet
              case rel => exact ⟨rfl, hbx⟩
          · have e1 : co = true := by rw [HC.out, (FSG.out rfl).1, (FSG.out rfl).2.1]; rfl
            subst e1
            (apply wpB_take (hw := rfl); (intro wq hq; obtain ⟨hcq, hfq⟩ := bcell hq; unfold atB; go_simp; exact ⟨rfl, rfl⟩); (rw [put_lit]; dsimp only [List.set]))
            (apply wpB_take (hw := rfl); (intro wq hq; obtain ⟨hcq, hfq⟩ := bcell hq; unfold atB; go_simp; exact ⟨rfl, rfl⟩); (rw [put_lit]; dsimp only [List.set]))
            (apply wpB_take (hw := rfl); (intro wq hq; obtain ⟨hcq, hfq⟩ := bcell hq; unfold atB; go_simp; exact ⟨rfl, rfl⟩); (rw [put_lit]; dsimp only [List.set]))
            (apply wpB_take (hw := rfl); (intro wq hq; obtain ⟨hcq, hfq⟩ := bcell hq; unfold atB; go_simp; exact ⟨rfl, rfl⟩); (rw [put_lit]; dsimp only [List.set]))
            (apply wpB_take (hw := rfl); (intro wq hq; obtain ⟨hcq, hfq⟩ := bcell hq; unfold atB; go_simp; exact ⟨rfl, rfl⟩); (rw [put_lit]; dsimp only [List.set]))
            (apply wpB_take (hw := rfl); (intro wq hq; obtain ⟨hcq, hfq⟩ := bcell hq; unfold atB; go_simp; exact ⟨rfl, rfl⟩); (rw [put_lit]; dsimp only [List.set]))
            (apply wpB_take (hw := rfl); (intro wq hq; obtain ⟨hcq, hfq⟩ := bcell hq; unfold atB; go_simp; exact ⟨rfl, rfl⟩); (rw [put_lit]; dsimp only [List.set]))
            cases lo
            · (apply wpB_skip (hw := rfl); try (rw [put_lit]; dsimp only [List.set]))
              (apply wpB_skip (hw := rfl); try (rw [put_lit]; dsimp only [List.set]))
              (apply wpB_take (hw := rfl); (intro wq hq; obtain ⟨hcq, hfq⟩ := bcell hq; unfold atB; go_simp; exact ⟨rfl, rfl⟩); (rw [put_lit]; dsimp only [List.set]))
              (apply wpB_take (hw := rfl); (intro wq hq; obtain ⟨hcq, hfq⟩ := bcell hq; unfold atB; go_simp; exact ⟨rfl, rfl⟩); (rw [put_lit]; dsimp only [List.set]))
              refine fun wx hbx => ?_
              simp only [Exit.then]
              refine (by assumption : ∀ (a' : Act) (w' : World), Met _ a' w' → _) _ _ ?_
              go_meet
              case rel => exact ⟨rfl, hbx⟩
            · (apply wpB_take (hw := rfl); (intro wq hq; obtain ⟨hcq, hfq⟩ := bcell hq; unfold atB; go_simp; exact ⟨rfl, rfl⟩); (rw [put_lit]; dsimp only [List.set]))
              (apply wpB_take (hw := rfl); (intro wq hq; obtain ⟨hcq, hfq⟩ := bcell hq; unfold atB; go_simp; exact ⟨rfl, rfl⟩); (rw [put_lit]; dsimp only [List.set]))
              (apply wpB_take (hw := rfl); (intro wq hq; obtain ⟨hcq, hfq⟩ := bcell hq; unfold atB; go_simp; exact ⟨rfl, rfl⟩); (rw [put_lit]; dsimp only [List.set]))
              (apply wpB_take (hw := rfl); (intro wq hq; obtain ⟨hcq, hfq⟩ := bcell hq; unfold atB; go_simp; exact ⟨rfl, rfl⟩); (rw [put_lit]; dsimp only [List.set]))
              refine fun wx hbx => ?_
              simp only [Exit.then]
              refine (by assumption : ∀ (a' : Act) (w' : World), Met _ a' w' → _) _ _ ?_
              go_meet
              case rel => exact ⟨rfl, hbx⟩
    case rest =>
      obtain ⟨rfl, hb11⟩ := hcut
      obtain ⟨w11, hw11⟩ : ∃ x : World, x = wc := ⟨_, rfl⟩
      subst hw11
      obtain ⟨hc11, hf11⟩ := bcell hb11
      have hz11 := hb11.size
      (try simp only [World.size_alloc, World.size_setCell, World.size_drew] at hz11)
      have B11 : Below w10.heap.size w10 w11 := Below.trans (b := _) (by (repeat' (first | (with_reducible exact Below.refl _ _) | (with_reducible assumption) | (with_reducible refine Below.alloc ?_ ?_ _) | (with_reducible refine Below.drew ?_) | (with_reducible refine below_drewN ?_ _) | (with_reducible refine Below.setCell ?_ ?_ _) | (with_reducible refine below_call ?_ ?_ (by assumption)) | go_size))) (hb11.mono (by first | omega | (simp only [World.size_alloc, World.size_setCell, World.size_drew]; omega)))
      obtain ⟨hd11, -⟩ := bcell B11
      have c11_a_0 : w11.cell? ⟨w1.heap.size, 0, none⟩ = some (.int .i64 n0) := (hd11 _ _ q_a).trans c10_a_0
      have c11_a_1 : w11.cell? ⟨w1.heap.size, 1, none⟩ = some (.int .i64 d0) := (hd11 _ _ q_a).trans c10_a_1
      have c11_b_0 : w11.cell? ⟨w1.heap.size + 1, 0, none⟩ = some (.int .i64 n1) := (hd11 _ _ q_b).trans c10_b_0
      have c11_b_1 : w11.cell? ⟨w1.heap.size + 1, 1, none⟩ = some (.int .i64 d1) := (hd11 _ _ q_b).trans c10_b_1
      have c11_sum_0 : w11.cell? ⟨w2.heap.size, 0, none⟩ = some (.int .i64 sn) := (hd11 _ _ q_sum).trans c10_sum_0
      have c11_sum_1 : w11.cell? ⟨w2.heap.size, 1, none⟩ = some (.int .i64 sd) := (hd11 _ _ q_sum).trans c10_sum_1
      have c11_right_0 : w11.cell? ⟨w3.heap.size, 0, none⟩ = some (.int .i64 sn) := (hd11 _ _ q_right).trans c10_right_0
      have c11_right_1 : w11.cell? ⟨w3.heap.size, 1, none⟩ = some (.int .i64 sd) := (hd11 _ _ q_right).trans c10_right_1
      have c11_less_0 : w11.cell? ⟨w4.heap.size, 0, none⟩ = some (.int .i64 ln) := (hd11 _ _ q_less).trans c10_less_0
      have c11_less_1 : w11.cell? ⟨w4.heap.size, 1, none⟩ = some (.int .i64 ld) := (hd11 _ _ q_less).trans c10_less_1
      have c11_want_0 : w11.cell? ⟨w5.heap.size, 0, none⟩ = some (.int .i64 ln) := (hd11 _ _ q_want).trans c10_want_0
      have c11_want_1 : w11.cell? ⟨w5.heap.size, 1, none⟩ = some (.int .i64 ld) := (hd11 _ _ q_want).trans c10_want_1
      have c11_mirror_0 : w11.cell? ⟨w8.heap.size, 0, none⟩ = some (.int .i64 mn) := (hd11 _ _ q_mirror).trans c10_mirror_0
      have c11_mirror_1 : w11.cell? ⟨w8.heap.size, 1, none⟩ = some (.int .i64 md) := (hd11 _ _ q_mirror).trans c10_mirror_1
      have c11_value_0 : w11.cell? ⟨w9.heap.size, 0, none⟩ = some (.int .i64 mn) := (hd11 _ _ q_value).trans c10_value_0
      have c11_value_1 : w11.cell? ⟨w9.heap.size, 1, none⟩ = some (.int .i64 md) := (hd11 _ _ q_value).trans c10_value_1
      replace q_a : w1.heap.size < w11.heap.size := by omega
      replace q_b : w1.heap.size + 1 < w11.heap.size := by omega
      replace q_sum : w2.heap.size < w11.heap.size := by omega
      replace q_right : w3.heap.size < w11.heap.size := by omega
      replace q_less : w4.heap.size < w11.heap.size := by omega
      replace q_want : w5.heap.size < w11.heap.size := by omega
      replace q_mirror : w8.heap.size < w11.heap.size := by omega
      replace q_value : w9.heap.size < w11.heap.size := by omega
      have BW11 : Below w.heap.size w w11 := BW10.trans (B11.mono BW10.size)
      clear hc11 hf11 hb11 hd11 B11 c10_a_0 c10_a_1 c10_b_0 c10_b_1 c10_sum_0 c10_sum_1 c10_right_0 c10_right_1 c10_less_0 c10_less_1 c10_want_0 c10_want_1 c10_mirror_0 c10_mirror_1 c10_value_0 c10_value_1 BW10
      go_upto_if 180 with fail
      go_cut [] from 999 to 999 (fun wx => Below w11.heap.size w11 wx)
      case first =>
        as_aux_lemma =>
          cases co
          · go_wp2_with fail
            go_meet
            case rel => exact Below.refl _ _
          · obtain ⟨⟨v1, v2⟩, h2, h3⟩ := FCV.out rfl
            have Z1 := Lib.hid (fun W => (show Calls Try.prog 11 #[tv n1 d1, tv n0 d0] W fun e w' => e = .returned (iv (-cv, true)) ∧ Below W.heap.size W w' from by have := implCompareTurns_any n1 d1 n0 d0 W; rw [h2] at this; exact this))
            clear h2
            go_wp2_with fail
            refine (Z1.out _).mono ?_
            rintro e12 w12 ⟨rfl, hb12⟩
            obtain ⟨hc12, hf12⟩ := bcell hb12
            have hz12 := hb12.size
            (try simp only [World.size_alloc, World.size_setCell, World.size_drew] at hz12)
            have B12 : Below w11.heap.size w11 w12 := Below.trans (b := _) (by (repeat' (first | (with_reducible exact Below.refl _ _) | (with_reducible assumption) | (with_reducible refine Below.alloc ?_ ?_ _) | (with_reducible refine Below.drew ?_) | (with_reducible refine below_drewN ?_ _) | (with_reducible refine Below.setCell ?_ ?_ _) | (with_reducible refine below_call ?_ ?_ (by assumption)) | go_size))) (hb12.mono (by first | omega | (simp only [World.size_alloc, World.size_setCell, World.size_drew]; omega)))
            obtain ⟨hd12, -⟩ := bcell B12
            have c12_a_0 : w12.cell? ⟨w1.heap.size, 0, none⟩ = some (.int .i64 n0) := (hd12 _ _ q_a).trans c11_a_0
            have c12_a_1 : w12.cell? ⟨w1.heap.size, 1, none⟩ = some (.int .i64 d0) := (hd12 _ _ q_a).trans c11_a_1
            have c12_b_0 : w12.cell? ⟨w1.heap.size + 1, 0, none⟩ = some (.int .i64 n1) := (hd12 _ _ q_b).trans c11_b_0
            have c12_b_1 : w12.cell? ⟨w1.heap.size + 1, 1, none⟩ = some (.int .i64 d1) := (hd12 _ _ q_b).trans c11_b_1
            have c12_sum_0 : w12.cell? ⟨w2.heap.size, 0, none⟩ = some (.int .i64 sn) := (hd12 _ _ q_sum).trans c11_sum_0
            have c12_sum_1 : w12.cell? ⟨w2.heap.size, 1, none⟩ = some (.int .i64 sd) := (hd12 _ _ q_sum).trans c11_sum_1
            have c12_right_0 : w12.cell? ⟨w3.heap.size, 0, none⟩ = some (.int .i64 sn) := (hd12 _ _ q_right).trans c11_right_0
            have c12_right_1 : w12.cell? ⟨w3.heap.size, 1, none⟩ = some (.int .i64 sd) := (hd12 _ _ q_right).trans c11_right_1
            have c12_less_0 : w12.cell? ⟨w4.heap.size, 0, none⟩ = some (.int .i64 ln) := (hd12 _ _ q_less).trans c11_less_0
            have c12_less_1 : w12.cell? ⟨w4.heap.size, 1, none⟩ = some (.int .i64 ld) := (hd12 _ _ q_less).trans c11_less_1
            have c12_want_0 : w12.cell? ⟨w5.heap.size, 0, none⟩ = some (.int .i64 ln) := (hd12 _ _ q_want).trans c11_want_0
            have c12_want_1 : w12.cell? ⟨w5.heap.size, 1, none⟩ = some (.int .i64 ld) := (hd12 _ _ q_want).trans c11_want_1
            have c12_mirror_0 : w12.cell? ⟨w8.heap.size, 0, none⟩ = some (.int .i64 mn) := (hd12 _ _ q_mirror).trans c11_mirror_0
            have c12_mirror_1 : w12.cell? ⟨w8.heap.size, 1, none⟩ = some (.int .i64 md) := (hd12 _ _ q_mirror).trans c11_mirror_1
            have c12_value_0 : w12.cell? ⟨w9.heap.size, 0, none⟩ = some (.int .i64 mn) := (hd12 _ _ q_value).trans c11_value_0
            have c12_value_1 : w12.cell? ⟨w9.heap.size, 1, none⟩ = some (.int .i64 md) := (hd12 _ _ q_value).trans c11_value_1
            replace q_a : w1.heap.size < w12.heap.size := by omega
            replace q_b : w1.heap.size + 1 < w12.heap.size := by omega
            replace q_sum : w2.heap.size < w12.heap.size := by omega
            replace q_right : w3.heap.size < w12.heap.size := by omega
            replace q_less : w4.heap.size < w12.heap.size := by omega
            replace q_want : w5.heap.size < w12.heap.size := by omega
            replace q_mirror : w8.heap.size < w12.heap.size := by omega
            replace q_value : w9.heap.size < w12.heap.size := by omega
            have BW12 : Below w.heap.size w w12 := BW11.trans (B12.mono BW11.size)
            have BX12 : Below w11.heap.size w11 w12 := B12
            clear hc12 hf12 hb12 hd12 B12 c11_a_0 c11_a_1 c11_b_0 c11_b_1 c11_sum_0 c11_sum_1 c11_right_0 c11_right_1 c11_less_0 c11_less_1 c11_want_0 c11_want_1 c11_mirror_0 c11_mirror_1 c11_value_0 c11_value_1 BW11
            go_wp2_with fail
            refine (Z2.out _).mono ?_
            rintro e13 w13 ⟨rfl, hb13⟩
            obtain ⟨hc13, hf13⟩ := bcell hb13
            have hz13 := hb13.size
            (try simp only [World.size_alloc, World.size_setCell, World.size_drew] at hz13)
            have B13 : Below w12.heap.size w12 w13 := Below.trans (b := _) (by (repeat' (first | (with_reducible exact Below.refl _ _) | (with_reducible assumption) | (with_reducible refine Below.alloc ?_ ?_ _) | (with_reducible refine Below.drew ?_) | (with_reducible refine below_drewN ?_ _) | (with_reducible refine Below.setCell ?_ ?_ _) | (with_reducible refine below_call ?_ ?_ (by assumption)) | go_size))) (hb13.mono (by first | omega | (simp only [World.size_alloc, World.size_setCell, World.size_drew]; omega)))
            obtain ⟨hd13, -⟩ := bcell B13
            have c13_a_0 : w13.cell? ⟨w1.heap.size, 0, none⟩ = some (.int .i64 n0) := (hd13 _ _ q_a).trans c12_a_0
            have c13_a_1 : w13.cell? ⟨w1.heap.size, 1, none⟩ = some (.int .i64 d0) := (hd13 _ _ q_a).trans c12_a_1
            have c13_b_0 : w13.cell? ⟨w1.heap.size + 1, 0, none⟩ = some (.int .i64 n1) := (hd13 _ _ q_b).trans c12_b_0
            have c13_b_1 : w13.cell? ⟨w1.heap.size + 1, 1, none⟩ = some (.int .i64 d1) := (hd13 _ _ q_b).trans c12_b_1
            have c13_sum_0 : w13.cell? ⟨w2.heap.size, 0, none⟩ = some (.int .i64 sn) := (hd13 _ _ q_sum).trans c12_sum_0
            have c13_sum_1 : w13.cell? ⟨w2.heap.size, 1, none⟩ = some (.int .i64 sd) := (hd13 _ _ q_sum).trans c12_sum_1
            have c13_right_0 : w13.cell? ⟨w3.heap.size, 0, none⟩ = some (.int .i64 sn) := (hd13 _ _ q_right).trans c12_right_0
            have c13_right_1 : w13.cell? ⟨w3.heap.size, 1, none⟩ = some (.int .i64 sd) := (hd13 _ _ q_right).trans c12_right_1
            have c13_less_0 : w13.cell? ⟨w4.heap.size, 0, none⟩ = some (.int .i64 ln) := (hd13 _ _ q_less).trans c12_less_0
            have c13_less_1 : w13.cell? ⟨w4.heap.size, 1, none⟩ = some (.int .i64 ld) := (hd13 _ _ q_less).trans c12_less_1
            have c13_want_0 : w13.cell? ⟨w5.heap.size, 0, none⟩ = some (.int .i64 ln) := (hd13 _ _ q_want).trans c12_want_0
            have c13_want_1 : w13.cell? ⟨w5.heap.size, 1, none⟩ = some (.int .i64 ld) := (hd13 _ _ q_want).trans c12_want_1
            have c13_mirror_0 : w13.cell? ⟨w8.heap.size, 0, none⟩ = some (.int .i64 mn) := (hd13 _ _ q_mirror).trans c12_mirror_0
            have c13_mirror_1 : w13.cell? ⟨w8.heap.size, 1, none⟩ = some (.int .i64 md) := (hd13 _ _ q_mirror).trans c12_mirror_1
            have c13_value_0 : w13.cell? ⟨w9.heap.size, 0, none⟩ = some (.int .i64 mn) := (hd13 _ _ q_value).trans c12_value_0
            have c13_value_1 : w13.cell? ⟨w9.heap.size, 1, none⟩ = some (.int .i64 md) := (hd13 _ _ q_value).trans c12_value_1
            replace q_a : w1.heap.size < w13.heap.size := by omega
            replace q_b : w1.heap.size + 1 < w13.heap.size := by omega
            replace q_sum : w2.heap.size < w13.heap.size := by omega
            replace q_right : w3.heap.size < w13.heap.size := by omega
            replace q_less : w4.heap.size < w13.heap.size := by omega
            replace q_want : w5.heap.size < w13.heap.size := by omega
            replace q_mirror : w8.heap.size < w13.heap.size := by omega
            replace q_value : w9.heap.size < w13.heap.size := by omega
            have BW13 : Below w.heap.size w w13 := BW12.trans (B13.mono BW12.size)
            have BX13 : Below w11.heap.size w11 w13 := BX12.trans (B13.mono BX12.size)
            clear BX12
            clear hc13 hf13 hb13 hd13 B13 c12_a_0 c12_a_1 c12_b_0 c12_b_1 c12_sum_0 c12_sum_1 c12_right_0 c12_right_1 c12_less_0 c12_less_1 c12_want_0 c12_want_1 c12_mirror_0 c12_mirror_1 c12_value_0 c12_value_1 BW12
            go_upto_region 17 with fail
            have hb14 : Below w13.heap.size w13 (w13.alloc (Obj.cells #[.int .i64 sn, .int .i64 sd] 25)) := by (repeat' (first | (with_reducible exact Below.refl _ _) | (with_reducible assumption) | (with_reducible refine Below.alloc ?_ ?_ _) | (with_reducible refine Below.drew ?_) | (with_reducible refine below_drewN ?_ _) | (with_reducible refine Below.setCell ?_ ?_ _) | (with_reducible refine below_call ?_ ?_ (by assumption)) | go_size))
            have c14_other_0 : (w13.alloc (Obj.cells #[.int .i64 sn, .int .i64 sd] 25)).cell? ⟨w13.heap.size, 0, none⟩ = some (.int .i64 sn) := by go_simp
            have c14_other_1 : (w13.alloc (Obj.cells #[.int .i64 sn, .int .i64 sd] 25)).cell? ⟨w13.heap.size, 1, none⟩ = some (.int .i64 sd) := by go_simp
            have q_other : w13.heap.size < (w13.alloc (Obj.cells #[.int .i64 sn, .int .i64 sd] 25)).heap.size := by go_size
            generalize (w13.alloc (Obj.cells #[.int .i64 sn, .int .i64 sd] 25)) = w14 at *
            obtain ⟨hd14, -⟩ := bcell hb14
            have hz14 := hb14.size
            have c14_a_0 : w14.cell? ⟨w1.heap.size, 0, none⟩ = some (.int .i64 n0) := (hd14 _ _ q_a).trans c13_a_0
            have c14_a_1 : w14.cell? ⟨w1.heap.size, 1, none⟩ = some (.int .i64 d0) := (hd14 _ _ q_a).trans c13_a_1
            have c14_b_0 : w14.cell? ⟨w1.heap.size + 1, 0, none⟩ = some (.int .i64 n1) := (hd14 _ _ q_b).trans c13_b_0
            have c14_b_1 : w14.cell? ⟨w1.heap.size + 1, 1, none⟩ = some (.int .i64 d1) := (hd14 _ _ q_b).trans c13_b_1
            have c14_sum_0 : w14.cell? ⟨w2.heap.size, 0, none⟩ = some (.int .i64 sn) := (hd14 _ _ q_sum).trans c13_sum_0
            have c14_sum_1 : w14.cell? ⟨w2.heap.size, 1, none⟩ = some (.int .i64 sd) := (hd14 _ _ q_sum).trans c13_sum_1
            have c14_right_0 : w14.cell? ⟨w3.heap.size, 0, none⟩ = some (.int .i64 sn) := (hd14 _ _ q_right).trans c13_right_0
            have c14_right_1 : w14.cell? ⟨w3.heap.size, 1, none⟩ = some (.int .i64 sd) := (hd14 _ _ q_right).trans c13_right_1
            have c14_less_0 : w14.cell? ⟨w4.heap.size, 0, none⟩ = some (.int .i64 ln) := (hd14 _ _ q_less).trans c13_less_0
            have c14_less_1 : w14.cell? ⟨w4.heap.size, 1, none⟩ = some (.int .i64 ld) := (hd14 _ _ q_less).trans c13_less_1
            have c14_want_0 : w14.cell? ⟨w5.heap.size, 0, none⟩ = some (.int .i64 ln) := (hd14 _ _ q_want).trans c13_want_0
            have c14_want_1 : w14.cell? ⟨w5.heap.size, 1, none⟩ = some (.int .i64 ld) := (hd14 _ _ q_want).trans c13_want_1
            have c14_mirror_0 : w14.cell? ⟨w8.heap.size, 0, none⟩ = some (.int .i64 mn) := (hd14 _ _ q_mirror).trans c13_mirror_0
            have c14_mirror_1 : w14.cell? ⟨w8.heap.size, 1, none⟩ = some (.int .i64 md) := (hd14 _ _ q_mirror).trans c13_mirror_1
            have c14_value_0 : w14.cell? ⟨w9.heap.size, 0, none⟩ = some (.int .i64 mn) := (hd14 _ _ q_value).trans c13_value_0
            have c14_value_1 : w14.cell? ⟨w9.heap.size, 1, none⟩ = some (.int .i64 md) := (hd14 _ _ q_value).trans c13_value_1
            replace q_a : w1.heap.size < w14.heap.size := by omega
            replace q_b : w1.heap.size + 1 < w14.heap.size := by omega
            replace q_sum : w2.heap.size < w14.heap.size := by omega
            replace q_right : w3.heap.size < w14.heap.size := by omega
            replace q_less : w4.heap.size < w14.heap.size := by omega
            replace q_want : w5.heap.size < w14.heap.size := by omega
            replace q_mirror : w8.heap.size < w14.heap.size := by omega
            replace q_value : w9.heap.size < w14.heap.size := by omega
            have BW14 : Below w.heap.size w w14 := BW13.trans (hb14.mono BW13.size)
            have BX14 : Below w11.heap.size w11 w14 := BX13.trans (hb14.mono BX13.size)
            clear BX13
            clear hb14 hd14 c13_a_0 c13_a_1 c13_b_0 c13_b_1 c13_sum_0 c13_sum_1 c13_right_0 c13_right_1 c13_less_0 c13_less_1 c13_want_0 c13_want_1 c13_mirror_0 c13_mirror_1 c13_value_0 c13_value_1 BW13
            have hrelB := BX14
            by_cases hz : cv = 0
            · subst hz
              have e : eqT n0 d0 n1 d1 = true := by rw [← h3]; rfl
              go_wp2_with fail
              go_meet
              case rel => exact hrelB
            have e : eqT n0 d0 n1 d1 = false := by rw [← h3]; simpa using hz
            have e2 : (cv == 0) = false := by simpa using hz
            go_wp2_with fail
            go_meet
            case rel => exact hrelB
      case rest =>
        obtain ⟨w12, hw12⟩ : ∃ x : World, x = wc := ⟨_, rfl⟩
        subst hw12
        have hb12 := hcut
        obtain ⟨hc12, hf12⟩ := bcell hb12
        have hz12 := hb12.size
        (try simp only [World.size_alloc, World.size_setCell, World.size_drew] at hz12)
        have B12 : Below w11.heap.size w11 w12 := Below.trans (b := _) (by (repeat' (first | (with_reducible exact Below.refl _ _) | (with_reducible assumption) | (with_reducible refine Below.alloc ?_ ?_ _) | (with_reducible refine Below.drew ?_) | (with_reducible refine below_drewN ?_ _) | (with_reducible refine Below.setCell ?_ ?_ _) | (with_reducible refine below_call ?_ ?_ (by assumption)) | go_size))) (hb12.mono (by first | omega | (simp only [World.size_alloc, World.size_setCell, World.size_drew]; omega)))
        obtain ⟨hd12, -⟩ := bcell B12
        have c12_a_0 : w12.cell? ⟨w1.heap.size, 0, none⟩ = some (.int .i64 n0) := (hd12 _ _ q_a).trans c11_a_0
        have c12_a_1 : w12.cell? ⟨w1.heap.size, 1, none⟩ = some (.int .i64 d0) := (hd12 _ _ q_a).trans c11_a_1
        have c12_b_0 : w12.cell? ⟨w1.heap.size + 1, 0, none⟩ = some (.int .i64 n1) := (hd12 _ _ q_b).trans c11_b_0
        have c12_b_1 : w12.cell? ⟨w1.heap.size + 1, 1, none⟩ = some (.int .i64 d1) := (hd12 _ _ q_b).trans c11_b_1
        have c12_sum_0 : w12.cell? ⟨w2.heap.size, 0, none⟩ = some (.int .i64 sn) := (hd12 _ _ q_sum).trans c11_sum_0
        have c12_sum_1 : w12.cell? ⟨w2.heap.size, 1, none⟩ = some (.int .i64 sd) := (hd12 _ _ q_sum).trans c11_sum_1
        have c12_right_0 : w12.cell? ⟨w3.heap.size, 0, none⟩ = some (.int .i64 sn) := (hd12 _ _ q_right).trans c11_right_0
        have c12_right_1 : w12.cell? ⟨w3.heap.size, 1, none⟩ = some (.int .i64 sd) := (hd12 _ _ q_right).trans c11_right_1
        have c12_less_0 : w12.cell? ⟨w4.heap.size, 0, none⟩ = some (.int .i64 ln) := (hd12 _ _ q_less).trans c11_less_0
        have c12_less_1 : w12.cell? ⟨w4.heap.size, 1, none⟩ = some (.int .i64 ld) := (hd12 _ _ q_less).trans c11_less_1
        have c12_want_0 : w12.cell? ⟨w5.heap.size, 0, none⟩ = some (.int .i64 ln) := (hd12 _ _ q_want).trans c11_want_0
        have c12_want_1 : w12.cell? ⟨w5.heap.size, 1, none⟩ = some (.int .i64 ld) := (hd12 _ _ q_want).trans c11_want_1
        have c12_mirror_0 : w12.cell? ⟨w8.heap.size, 0, none⟩ = some (.int .i64 mn) := (hd12 _ _ q_mirror).trans c11_mirror_0
        have c12_mirror_1 : w12.cell? ⟨w8.heap.size, 1, none⟩ = some (.int .i64 md) := (hd12 _ _ q_mirror).trans c11_mirror_1
        have c12_value_0 : w12.cell? ⟨w9.heap.size, 0, none⟩ = some (.int .i64 mn) := (hd12 _ _ q_value).trans c11_value_0
        have c12_value_1 : w12.cell? ⟨w9.heap.size, 1, none⟩ = some (.int .i64 md) := (hd12 _ _ q_value).trans c11_value_1
        replace q_a : w1.heap.size < w12.heap.size := by omega
        replace q_b : w1.heap.size + 1 < w12.heap.size := by omega
        replace q_sum : w2.heap.size < w12.heap.size := by omega
        replace q_right : w3.heap.size < w12.heap.size := by omega
        replace q_less : w4.heap.size < w12.heap.size := by omega
        replace q_want : w5.heap.size < w12.heap.size := by omega
        replace q_mirror : w8.heap.size < w12.heap.size := by omega
        replace q_value : w9.heap.size < w12.heap.size := by omega
        have BW12 : Below w.heap.size w w12 := BW11.trans (B12.mono BW11.size)
        clear hc12 hf12 hb12 hd12 B12 c11_a_0 c11_a_1 c11_b_0 c11_b_1 c11_sum_0 c11_sum_1 c11_right_0 c11_right_1 c11_less_0 c11_less_1 c11_want_0 c11_want_1 c11_mirror_0 c11_mirror_1 c11_value_0 c11_value_1 BW11
        go_upto_if 219 with fail
        go_cut [] from 999 to 999 (fun wx => Below w12.heap.size w12 wx)
        case first =>
          as_aux_lemma =>
            cases so
            · go_wp2_with fail
              go_meet
              case rel => exact Below.refl _ _
            · obtain ⟨g2, h2⟩ := FS2.out rfl
              have Z1 := Lib.hid (fun W => (show Calls Try.prog 9 #[tv sn sd, tv n1 d1] W fun e w' => e = .returned (rv (n0, d0, true)) ∧ Below W.heap.size W w' from by have := implLessTurn_any sn sd n1 d1 W; rw [h2] at this; exact this))
              clear h2
              go_wp2_with fail
              refine (Z1.out _).mono ?_
              rintro e13 w13 ⟨rfl, hb13⟩
              obtain ⟨hc13, hf13⟩ := bcell hb13
              have hz13 := hb13.size
              (try simp only [World.size_alloc, World.size_setCell, World.size_drew] at hz13)
              have B13 : Below w12.heap.size w12 w13 := Below.trans (b := _) (by (repeat' (first | (with_reducible exact Below.refl _ _) | (with_reducible assumption) | (with_reducible refine Below.alloc ?_ ?_ _) | (with_reducible refine Below.drew ?_) | (with_reducible refine below_drewN ?_ _) | (with_reducible refine Below.setCell ?_ ?_ _) | (with_reducible refine below_call ?_ ?_ (by assumption)) | go_size))) (hb13.mono (by first | omega | (simp only [World.size_alloc, World.size_setCell, World.size_drew]; omega)))
              obtain ⟨hd13, -⟩ := bcell B13
              have c13_a_0 : w13.cell? ⟨w1.heap.size, 0, none⟩ = some (.int .i64 n0) := (hd13 _ _ q_a).trans c12_a_0
              have c13_a_1 : w13.cell? ⟨w1.heap.size, 1, none⟩ = some (.int .i64 d0) := (hd13 _ _ q_a).trans c12_a_1
              have c13_b_0 : w13.cell? ⟨w1.heap.size + 1, 0, none⟩ = some (.int .i64 n1) := (hd13 _ _ q_b).trans c12_b_0
              have c13_b_1 : w13.cell? ⟨w1.heap.size + 1, 1, none⟩ = some (.int .i64 d1) := (hd13 _ _ q_b).trans c12_b_1
              have c13_sum_0 : w13.cell? ⟨w2.heap.size, 0, none⟩ = some (.int .i64 sn) := (hd13 _ _ q_sum).trans c12_sum_0
              have c13_sum_1 : w13.cell? ⟨w2.heap.size, 1, none⟩ = some (.int .i64 sd) := (hd13 _ _ q_sum).trans c12_sum_1
              have c13_right_0 : w13.cell? ⟨w3.heap.size, 0, none⟩ = some (.int .i64 sn) := (hd13 _ _ q_right).trans c12_right_0
              have c13_right_1 : w13.cell? ⟨w3.heap.size, 1, none⟩ = some (.int .i64 sd) := (hd13 _ _ q_right).trans c12_right_1
              have c13_less_0 : w13.cell? ⟨w4.heap.size, 0, none⟩ = some (.int .i64 ln) := (hd13 _ _ q_less).trans c12_less_0
              have c13_less_1 : w13.cell? ⟨w4.heap.size, 1, none⟩ = some (.int .i64 ld) := (hd13 _ _ q_less).trans c12_less_1
              have c13_want_0 : w13.cell? ⟨w5.heap.size, 0, none⟩ = some (.int .i64 ln) := (hd13 _ _ q_want).trans c12_want_0
              have c13_want_1 : w13.cell? ⟨w5.heap.size, 1, none⟩ = some (.int .i64 ld) := (hd13 _ _ q_want).trans c12_want_1
              have c13_mirror_0 : w13.cell? ⟨w8.heap.size, 0, none⟩ = some (.int .i64 mn) := (hd13 _ _ q_mirror).trans c12_mirror_0
              have c13_mirror_1 : w13.cell? ⟨w8.heap.size, 1, none⟩ = some (.int .i64 md) := (hd13 _ _ q_mirror).trans c12_mirror_1
              have c13_value_0 : w13.cell? ⟨w9.heap.size, 0, none⟩ = some (.int .i64 mn) := (hd13 _ _ q_value).trans c12_value_0
              have c13_value_1 : w13.cell? ⟨w9.heap.size, 1, none⟩ = some (.int .i64 md) := (hd13 _ _ q_value).trans c12_value_1
              replace q_a : w1.heap.size < w13.heap.size := by omega
              replace q_b : w1.heap.size + 1 < w13.heap.size := by omega
              replace q_sum : w2.heap.size < w13.heap.size := by omega
              replace q_right : w3.heap.size < w13.heap.size := by omega
              replace q_less : w4.heap.size < w13.heap.size := by omega
              replace q_want : w5.heap.size < w13.heap.size := by omega
              replace q_mirror : w8.heap.size < w13.heap.size := by omega
              replace q_value : w9.heap.size < w13.heap.size := by omega
              have BW13 : Below w.heap.size w w13 := BW12.trans (B13.mono BW12.size)
              have BX13 : Below w12.heap.size w12 w13 := B13
              clear hc13 hf13 hb13 hd13 B13 c12_a_0 c12_a_1 c12_b_0 c12_b_1 c12_sum_0 c12_sum_1 c12_right_0 c12_right_1 c12_less_0 c12_less_1 c12_want_0 c12_want_1 c12_mirror_0 c12_mirror_1 c12_value_0 c12_value_1 BW12
              go_wp2_with fail
              refine (isTurn_is sn sd g2 _).mono ?_
              rintro e14 w14 ⟨rfl, hb14⟩
              obtain ⟨hc14, hf14⟩ := bcell hb14
              have hz14 := hb14.size
              (try simp only [World.size_alloc, World.size_setCell, World.size_drew] at hz14)
              have B14 : Below w13.heap.size w13 w14 := Below.trans (b := _) (by (repeat' (first | (with_reducible exact Below.refl _ _) | (with_reducible assumption) | (with_reducible refine Below.alloc ?_ ?_ _) | (with_reducible refine Below.drew ?_) | (with_reducible refine below_drewN ?_ _) | (with_reducible refine Below.setCell ?_ ?_ _) | (with_reducible refine below_call ?_ ?_ (by assumption)) | go_size))) (hb14.mono (by first | omega | (simp only [World.size_alloc, World.size_setCell, World.size_drew]; omega)))
              obtain ⟨hd14, -⟩ := bcell B14
              have c14_a_0 : w14.cell? ⟨w1.heap.size, 0, none⟩ = some (.int .i64 n0) := (hd14 _ _ q_a).trans c13_a_0
              have c14_a_1 : w14.cell? ⟨w1.heap.size, 1, none⟩ = some (.int .i64 d0) := (hd14 _ _ q_a).trans c13_a_1
              have c14_b_0 : w14.cell? ⟨w1.heap.size + 1, 0, none⟩ = some (.int .i64 n1) := (hd14 _ _ q_b).trans c13_b_0
              have c14_b_1 : w14.cell? ⟨w1.heap.size + 1, 1, none⟩ = some (.int .i64 d1) := (hd14 _ _ q_b).trans c13_b_1
              have c14_sum_0 : w14.cell? ⟨w2.heap.size, 0, none⟩ = some (.int .i64 sn) := (hd14 _ _ q_sum).trans c13_sum_0
              have c14_sum_1 : w14.cell? ⟨w2.heap.size, 1, none⟩ = some (.int .i64 sd) := (hd14 _ _ q_sum).trans c13_sum_1
              have c14_right_0 : w14.cell? ⟨w3.heap.size, 0, none⟩ = some (.int .i64 sn) := (hd14 _ _ q_right).trans c13_right_0
              have c14_right_1 : w14.cell? ⟨w3.heap.size, 1, none⟩ = some (.int .i64 sd) := (hd14 _ _ q_right).trans c13_right_1
              have c14_less_0 : w14.cell? ⟨w4.heap.size, 0, none⟩ = some (.int .i64 ln) := (hd14 _ _ q_less).trans c13_less_0
              have c14_less_1 : w14.cell? ⟨w4.heap.size, 1, none⟩ = some (.int .i64 ld) := (hd14 _ _ q_less).trans c13_less_1
              have c14_want_0 : w14.cell? ⟨w5.heap.size, 0, none⟩ = some (.int .i64 ln) := (hd14 _ _ q_want).trans c13_want_0
              have c14_want_1 : w14.cell? ⟨w5.heap.size, 1, none⟩ = some (.int .i64 ld) := (hd14 _ _ q_want).trans c13_want_1
              have c14_mirror_0 : w14.cell? ⟨w8.heap.size, 0, none⟩ = some (.int .i64 mn) := (hd14 _ _ q_mirror).trans c13_mirror_0
              have c14_mirror_1 : w14.cell? ⟨w8.heap.size, 1, none⟩ = some (.int .i64 md) := (hd14 _ _ q_mirror).trans c13_mirror_1
              have c14_value_0 : w14.cell? ⟨w9.heap.size, 0, none⟩ = some (.int .i64 mn) := (hd14 _ _ q_value).trans c13_value_0
              have c14_value_1 : w14.cell? ⟨w9.heap.size, 1, none⟩ = some (.int .i64 md) := (hd14 _ _ q_value).trans c13_value_1
              replace q_a : w1.heap.size < w14.heap.size := by omega
              replace q_b : w1.heap.size + 1 < w14.heap.size := by omega
              replace q_sum : w2.heap.size < w14.heap.size := by omega
              replace q_right : w3.heap.size < w14.heap.size := by omega
              replace q_less : w4.heap.size < w14.heap.size := by omega
              replace q_want : w5.heap.size < w14.heap.size := by omega
              replace q_mirror : w8.heap.size < w14.heap.size := by omega
              replace q_value : w9.heap.size < w14.heap.size := by omega
              have c14_back_0 : w14.cell? ⟨w13.heap.size, 0, none⟩ = some (.int .i64 n0) := (hc14 _ _ (by go_size)).trans (by go_simp)
              have c14_back_1 : w14.cell? ⟨w13.heap.size, 1, none⟩ = some (.int .i64 d0) := (hc14 _ _ (by go_size)).trans (by go_simp)
              have q_back : w13.heap.size < w14.heap.size := by omega
              have BW14 : Below w.heap.size w w14 := BW13.trans (B14.mono BW13.size)
              have BX14 : Below w12.heap.size w12 w14 := BX13.trans (B14.mono BX13.size)
              clear BX13
              clear hc14 hf14 hb14 hd14 B14 c13_a_0 c13_a_1 c13_b_0 c13_b_1 c13_sum_0 c13_sum_1 c13_right_0 c13_right_1 c13_less_0 c13_less_1 c13_want_0 c13_want_1 c13_mirror_0 c13_mirror_1 c13_value_0 c13_value_1 BW13
              have hrelB := BX14
              go_wp2_with fail
              go_meet
              case rel => exact hrelB
        case rest =>
          obtain ⟨w13, hw13⟩ : ∃ x : World, x = wc := ⟨_, rfl⟩
          subst hw13
          have hb13 := hcut
          obtain ⟨hc13, hf13⟩ := bcell hb13
          have hz13 := hb13.size
          (try simp only [World.size_alloc, World.size_setCell, World.size_drew] at hz13)
          have B13 : Below w12.heap.size w12 w13 := Below.trans (b := _) (by (repeat' (first | (with_reducible exact Below.refl _ _) | (with_reducible assumption) | (with_reducible refine Below.alloc ?_ ?_ _) | (with_reducible refine Below.drew ?_) | (with_reducible refine below_drewN ?_ _) | (with_reducible refine Below.setCell ?_ ?_ _) | (with_reducible refine below_call ?_ ?_ (by assumption)) | go_size))) (hb13.mono (by first | omega | (simp only [World.size_alloc, World.size_setCell, World.size_drew]; omega)))
          obtain ⟨hd13, -⟩ := bcell B13
          have c13_a_0 : w13.cell? ⟨w1.heap.size, 0, none⟩ = some (.int .i64 n0) := (hd13 _ _ q_a).trans c12_a_0
          have c13_a_1 : w13.cell? ⟨w1.heap.size, 1, none⟩ = some (.int .i64 d0) := (hd13 _ _ q_a).trans c12_a_1
          have c13_b_0 : w13.cell? ⟨w1.heap.size + 1, 0, none⟩ = some (.int .i64 n1) := (hd13 _ _ q_b).trans c12_b_0
          have c13_b_1 : w13.cell? ⟨w1.heap.size + 1, 1, none⟩ = some (.int .i64 d1) := (hd13 _ _ q_b).trans c12_b_1
          have c13_sum_0 : w13.cell? ⟨w2.heap.size, 0, none⟩ = some (.int .i64 sn) := (hd13 _ _ q_sum).trans c12_sum_0
          have c13_sum_1 : w13.cell? ⟨w2.heap.size, 1, none⟩ = some (.int .i64 sd) := (hd13 _ _ q_sum).trans c12_sum_1
          have c13_right_0 : w13.cell? ⟨w3.heap.size, 0, none⟩ = some (.int .i64 sn) := (hd13 _ _ q_right).trans c12_right_0
          have c13_right_1 : w13.cell? ⟨w3.heap.size, 1, none⟩ = some (.int .i64 sd) := (hd13 _ _ q_right).trans c12_right_1
          have c13_less_0 : w13.cell? ⟨w4.heap.size, 0, none⟩ = some (.int .i64 ln) := (hd13 _ _ q_less).trans c12_less_0
          have c13_less_1 : w13.cell? ⟨w4.heap.size, 1, none⟩ = some (.int .i64 ld) := (hd13 _ _ q_less).trans c12_less_1
          have c13_want_0 : w13.cell? ⟨w5.heap.size, 0, none⟩ = some (.int .i64 ln) := (hd13 _ _ q_want).trans c12_want_0
          have c13_want_1 : w13.cell? ⟨w5.heap.size, 1, none⟩ = some (.int .i64 ld) := (hd13 _ _ q_want).trans c12_want_1
          have c13_mirror_0 : w13.cell? ⟨w8.heap.size, 0, none⟩ = some (.int .i64 mn) := (hd13 _ _ q_mirror).trans c12_mirror_0
          have c13_mirror_1 : w13.cell? ⟨w8.heap.size, 1, none⟩ = some (.int .i64 md) := (hd13 _ _ q_mirror).trans c12_mirror_1
          have c13_value_0 : w13.cell? ⟨w9.heap.size, 0, none⟩ = some (.int .i64 mn) := (hd13 _ _ q_value).trans c12_value_0
          have c13_value_1 : w13.cell? ⟨w9.heap.size, 1, none⟩ = some (.int .i64 md) := (hd13 _ _ q_value).trans c12_value_1
          replace q_a : w1.heap.size < w13.heap.size := by omega
          replace q_b : w1.heap.size + 1 < w13.heap.size := by omega
          replace q_sum : w2.heap.size < w13.heap.size := by omega
          replace q_right : w3.heap.size < w13.heap.size := by omega
          replace q_less : w4.heap.size < w13.heap.size := by omega
          replace q_want : w5.heap.size < w13.heap.size := by omega
          replace q_mirror : w8.heap.size < w13.heap.size := by omega
          replace q_value : w9.heap.size < w13.heap.size := by omega
          have BW13 : Below w.heap.size w w13 := BW12.trans (B13.mono BW12.size)
          clear hc13 hf13 hb13 hd13 B13 c12_a_0 c12_a_1 c12_b_0 c12_b_1 c12_sum_0 c12_sum_1 c12_right_0 c12_right_1 c12_less_0 c12_less_1 c12_want_0 c12_want_1 c12_mirror_0 c12_mirror_1 c12_value_0 c12_value_1 BW12
          go_upto_if 237 with fail
          go_cut [] from 999 to 999 (fun wx => Below w13.heap.size w13 wx)
          case first =>
            as_aux_lemma =>
              cases mo
              · go_wp2_with fail
                go_meet
                case rel => exact Below.refl _ _
              · obtain ⟨h1, h2⟩ := FM2.out rfl
                have Z1 := Lib.hid (fun W => (show Calls Try.prog 7 #[tv n0 d0, tv mn md] W fun e w' => e = .returned (rv (0, 1, true)) ∧ Below W.heap.size W w' from by have := implAddTurns_any n0 d0 mn md W; rw [h1] at this; exact this))
                have Z3 := Lib.hid (fun W => (show Calls Try.prog 13 #[tv mn md] W fun e w' => e = .returned (rv (n0, d0, true)) ∧ Below W.heap.size W w' from by have := implMirrorTurn_any mn md W; rw [h2] at this; exact this))
                clear h1 h2
                go_wp2_with fail
                refine (Z1.out _).mono ?_
                rintro e14 w14 ⟨rfl, hb14⟩
                obtain ⟨hc14, hf14⟩ := bcell hb14
                have hz14 := hb14.size
                (try simp only [World.size_alloc, World.size_setCell, World.size_drew] at hz14)
                have B14 : Below w13.heap.size w13 w14 := Below.trans (b := _) (by (repeat' (first | (with_reducible exact Below.refl _ _) | (with_reducible assumption) | (with_reducible refine Below.alloc ?_ ?_ _) | (with_reducible refine Below.drew ?_) | (with_reducible refine below_drewN ?_ _) | (with_reducible refine Below.setCell ?_ ?_ _) | (with_reducible refine below_call ?_ ?_ (by assumption)) | go_size))) (hb14.mono (by first | omega | (simp only [World.size_alloc, World.size_setCell, World.size_drew]; omega)))
                obtain ⟨hd14, -⟩ := bcell B14
                have c14_a_0 : w14.cell? ⟨w1.heap.size, 0, none⟩ = some (.int .i64 n0) := (hd14 _ _ q_a).trans c13_a_0
                have c14_a_1 : w14.cell? ⟨w1.heap.size, 1, none⟩ = some (.int .i64 d0) := (hd14 _ _ q_a).trans c13_a_1
                have c14_b_0 : w14.cell? ⟨w1.heap.size + 1, 0, none⟩ = some (.int .i64 n1) := (hd14 _ _ q_b).trans c13_b_0
                have c14_b_1 : w14.cell? ⟨w1.heap.size + 1, 1, none⟩ = some (.int .i64 d1) := (hd14 _ _ q_b).trans c13_b_1
                have c14_sum_0 : w14.cell? ⟨w2.heap.size, 0, none⟩ = some (.int .i64 sn) := (hd14 _ _ q_sum).trans c13_sum_0
                have c14_sum_1 : w14.cell? ⟨w2.heap.size, 1, none⟩ = some (.int .i64 sd) := (hd14 _ _ q_sum).trans c13_sum_1
                have c14_right_0 : w14.cell? ⟨w3.heap.size, 0, none⟩ = some (.int .i64 sn) := (hd14 _ _ q_right).trans c13_right_0
                have c14_right_1 : w14.cell? ⟨w3.heap.size, 1, none⟩ = some (.int .i64 sd) := (hd14 _ _ q_right).trans c13_right_1
                have c14_less_0 : w14.cell? ⟨w4.heap.size, 0, none⟩ = some (.int .i64 ln) := (hd14 _ _ q_less).trans c13_less_0
                have c14_less_1 : w14.cell? ⟨w4.heap.size, 1, none⟩ = some (.int .i64 ld) := (hd14 _ _ q_less).trans c13_less_1
                have c14_want_0 : w14.cell? ⟨w5.heap.size, 0, none⟩ = some (.int .i64 ln) := (hd14 _ _ q_want).trans c13_want_0
                have c14_want_1 : w14.cell? ⟨w5.heap.size, 1, none⟩ = some (.int .i64 ld) := (hd14 _ _ q_want).trans c13_want_1
                have c14_mirror_0 : w14.cell? ⟨w8.heap.size, 0, none⟩ = some (.int .i64 mn) := (hd14 _ _ q_mirror).trans c13_mirror_0
                have c14_mirror_1 : w14.cell? ⟨w8.heap.size, 1, none⟩ = some (.int .i64 md) := (hd14 _ _ q_mirror).trans c13_mirror_1
                have c14_value_0 : w14.cell? ⟨w9.heap.size, 0, none⟩ = some (.int .i64 mn) := (hd14 _ _ q_value).trans c13_value_0
                have c14_value_1 : w14.cell? ⟨w9.heap.size, 1, none⟩ = some (.int .i64 md) := (hd14 _ _ q_value).trans c13_value_1
                replace q_a : w1.heap.size < w14.heap.size := by omega
                replace q_b : w1.heap.size + 1 < w14.heap.size := by omega
                replace q_sum : w2.heap.size < w14.heap.size := by omega
                replace q_right : w3.heap.size < w14.heap.size := by omega
                replace q_less : w4.heap.size < w14.heap.size := by omega
                replace q_want : w5.heap.size < w14.heap.size := by omega
                replace q_mirror : w8.heap.size < w14.heap.size := by omega
                replace q_value : w9.heap.size < w14.heap.size := by omega
                have BW14 : Below w.heap.size w w14 := BW13.trans (B14.mono BW13.size)
                have BX14 : Below w13.heap.size w13 w14 := B14
                clear hc14 hf14 hb14 hd14 B14 c13_a_0 c13_a_1 c13_b_0 c13_b_1 c13_sum_0 c13_sum_1 c13_right_0 c13_right_1 c13_less_0 c13_less_1 c13_want_0 c13_want_1 c13_mirror_0 c13_mirror_1 c13_value_0 c13_value_1 BW13
                go_wp2_with fail
                refine (Z3.out _).mono ?_
                rintro e15 w15 ⟨rfl, hb15⟩
                obtain ⟨hc15, hf15⟩ := bcell hb15
                have hz15 := hb15.size
                (try simp only [World.size_alloc, World.size_setCell, World.size_drew] at hz15)
                have B15 : Below w14.heap.size w14 w15 := Below.trans (b := _) (by (repeat' (first | (with_reducible exact Below.refl _ _) | (with_reducible assumption) | (with_reducible refine Below.alloc ?_ ?_ _) | (with_reducible refine Below.drew ?_) | (with_reducible refine below_drewN ?_ _) | (with_reducible refine Below.setCell ?_ ?_ _) | (with_reducible refine below_call ?_ ?_ (by assumption)) | go_size))) (hb15.mono (by first | omega | (simp only [World.size_alloc, World.size_setCell, World.size_drew]; omega)))
                obtain ⟨hd15, -⟩ := bcell B15
                have c15_a_0 : w15.cell? ⟨w1.heap.size, 0, none⟩ = some (.int .i64 n0) := (hd15 _ _ q_a).trans c14_a_0
                have c15_a_1 : w15.cell? ⟨w1.heap.size, 1, none⟩ = some (.int .i64 d0) := (hd15 _ _ q_a).trans c14_a_1
                have c15_b_0 : w15.cell? ⟨w1.heap.size + 1, 0, none⟩ = some (.int .i64 n1) := (hd15 _ _ q_b).trans c14_b_0
                have c15_b_1 : w15.cell? ⟨w1.heap.size + 1, 1, none⟩ = some (.int .i64 d1) := (hd15 _ _ q_b).trans c14_b_1
                have c15_sum_0 : w15.cell? ⟨w2.heap.size, 0, none⟩ = some (.int .i64 sn) := (hd15 _ _ q_sum).trans c14_sum_0
                have c15_sum_1 : w15.cell? ⟨w2.heap.size, 1, none⟩ = some (.int .i64 sd) := (hd15 _ _ q_sum).trans c14_sum_1
                have c15_right_0 : w15.cell? ⟨w3.heap.size, 0, none⟩ = some (.int .i64 sn) := (hd15 _ _ q_right).trans c14_right_0
                have c15_right_1 : w15.cell? ⟨w3.heap.size, 1, none⟩ = some (.int .i64 sd) := (hd15 _ _ q_right).trans c14_right_1
                have c15_less_0 : w15.cell? ⟨w4.heap.size, 0, none⟩ = some (.int .i64 ln) := (hd15 _ _ q_less).trans c14_less_0
                have c15_less_1 : w15.cell? ⟨w4.heap.size, 1, none⟩ = some (.int .i64 ld) := (hd15 _ _ q_less).trans c14_less_1
                have c15_want_0 : w15.cell? ⟨w5.heap.size, 0, none⟩ = some (.int .i64 ln) := (hd15 _ _ q_want).trans c14_want_0
                have c15_want_1 : w15.cell? ⟨w5.heap.size, 1, none⟩ = some (.int .i64 ld) := (hd15 _ _ q_want).trans c14_want_1
                have c15_mirror_0 : w15.cell? ⟨w8.heap.size, 0, none⟩ = some (.int .i64 mn) := (hd15 _ _ q_mirror).trans c14_mirror_0
                have c15_mirror_1 : w15.cell? ⟨w8.heap.size, 1, none⟩ = some (.int .i64 md) := (hd15 _ _ q_mirror).trans c14_mirror_1
                have c15_value_0 : w15.cell? ⟨w9.heap.size, 0, none⟩ = some (.int .i64 mn) := (hd15 _ _ q_value).trans c14_value_0
                have c15_value_1 : w15.cell? ⟨w9.heap.size, 1, none⟩ = some (.int .i64 md) := (hd15 _ _ q_value).trans c14_value_1
                replace q_a : w1.heap.size < w15.heap.size := by omega
                replace q_b : w1.heap.size + 1 < w15.heap.size := by omega
                replace q_sum : w2.heap.size < w15.heap.size := by omega
                replace q_right : w3.heap.size < w15.heap.size := by omega
                replace q_less : w4.heap.size < w15.heap.size := by omega
                replace q_want : w5.heap.size < w15.heap.size := by omega
                replace q_mirror : w8.heap.size < w15.heap.size := by omega
                replace q_value : w9.heap.size < w15.heap.size := by omega
                have c15_none_0 : w15.cell? ⟨w14.heap.size, 0, none⟩ = some (.int .i64 0) := (hc15 _ _ (by go_size)).trans (by go_simp)
                have c15_none_1 : w15.cell? ⟨w14.heap.size, 1, none⟩ = some (.int .i64 1) := (hc15 _ _ (by go_size)).trans (by go_simp)
                have q_none : w14.heap.size < w15.heap.size := by omega
                have BW15 : Below w.heap.size w w15 := BW14.trans (B15.mono BW14.size)
                have BX15 : Below w13.heap.size w13 w15 := BX14.trans (B15.mono BX14.size)
                clear BX14
                clear hc15 hf15 hb15 hd15 B15 c14_a_0 c14_a_1 c14_b_0 c14_b_1 c14_sum_0 c14_sum_1 c14_right_0 c14_right_1 c14_less_0 c14_less_1 c14_want_0 c14_want_1 c14_mirror_0 c14_mirror_1 c14_value_0 c14_value_1 BW14
                go_upto_region 26 with fail
                have hb16 : Below w15.heap.size w15 (w15.alloc (Obj.cells #[.int .i64 n0, .int .i64 d0] 25)) := by (repeat' (first | (with_reducible exact Below.refl _ _) | (with_reducible assumption) | (with_reducible refine Below.alloc ?_ ?_ _) | (with_reducible refine Below.drew ?_) | (with_reducible refine below_drewN ?_ _) | (with_reducible refine Below.setCell ?_ ?_ _) | (with_reducible refine below_call ?_ ?_ (by assumption)) | go_size))
                have c16_again_0 : (w15.alloc (Obj.cells #[.int .i64 n0, .int .i64 d0] 25)).cell? ⟨w15.heap.size, 0, none⟩ = some (.int .i64 n0) := by go_simp
                have c16_again_1 : (w15.alloc (Obj.cells #[.int .i64 n0, .int .i64 d0] 25)).cell? ⟨w15.heap.size, 1, none⟩ = some (.int .i64 d0) := by go_simp
                have q_again : w15.heap.size < (w15.alloc (Obj.cells #[.int .i64 n0, .int .i64 d0] 25)).heap.size := by go_size
                generalize (w15.alloc (Obj.cells #[.int .i64 n0, .int .i64 d0] 25)) = w16 at *
                obtain ⟨hd16, -⟩ := bcell hb16
                have hz16 := hb16.size
                have c16_a_0 : w16.cell? ⟨w1.heap.size, 0, none⟩ = some (.int .i64 n0) := (hd16 _ _ q_a).trans c15_a_0
                have c16_a_1 : w16.cell? ⟨w1.heap.size, 1, none⟩ = some (.int .i64 d0) := (hd16 _ _ q_a).trans c15_a_1
                have c16_b_0 : w16.cell? ⟨w1.heap.size + 1, 0, none⟩ = some (.int .i64 n1) := (hd16 _ _ q_b).trans c15_b_0
                have c16_b_1 : w16.cell? ⟨w1.heap.size + 1, 1, none⟩ = some (.int .i64 d1) := (hd16 _ _ q_b).trans c15_b_1
                have c16_sum_0 : w16.cell? ⟨w2.heap.size, 0, none⟩ = some (.int .i64 sn) := (hd16 _ _ q_sum).trans c15_sum_0
                have c16_sum_1 : w16.cell? ⟨w2.heap.size, 1, none⟩ = some (.int .i64 sd) := (hd16 _ _ q_sum).trans c15_sum_1
                have c16_right_0 : w16.cell? ⟨w3.heap.size, 0, none⟩ = some (.int .i64 sn) := (hd16 _ _ q_right).trans c15_right_0
                have c16_right_1 : w16.cell? ⟨w3.heap.size, 1, none⟩ = some (.int .i64 sd) := (hd16 _ _ q_right).trans c15_right_1
                have c16_less_0 : w16.cell? ⟨w4.heap.size, 0, none⟩ = some (.int .i64 ln) := (hd16 _ _ q_less).trans c15_less_0
                have c16_less_1 : w16.cell? ⟨w4.heap.size, 1, none⟩ = some (.int .i64 ld) := (hd16 _ _ q_less).trans c15_less_1
                have c16_want_0 : w16.cell? ⟨w5.heap.size, 0, none⟩ = some (.int .i64 ln) := (hd16 _ _ q_want).trans c15_want_0
                have c16_want_1 : w16.cell? ⟨w5.heap.size, 1, none⟩ = some (.int .i64 ld) := (hd16 _ _ q_want).trans c15_want_1
                have c16_mirror_0 : w16.cell? ⟨w8.heap.size, 0, none⟩ = some (.int .i64 mn) := (hd16 _ _ q_mirror).trans c15_mirror_0
                have c16_mirror_1 : w16.cell? ⟨w8.heap.size, 1, none⟩ = some (.int .i64 md) := (hd16 _ _ q_mirror).trans c15_mirror_1
                have c16_value_0 : w16.cell? ⟨w9.heap.size, 0, none⟩ = some (.int .i64 mn) := (hd16 _ _ q_value).trans c15_value_0
                have c16_value_1 : w16.cell? ⟨w9.heap.size, 1, none⟩ = some (.int .i64 md) := (hd16 _ _ q_value).trans c15_value_1
                have c16_none_0 : w16.cell? ⟨w14.heap.size, 0, none⟩ = some (.int .i64 0) := (hd16 _ _ q_none).trans c15_none_0
                have c16_none_1 : w16.cell? ⟨w14.heap.size, 1, none⟩ = some (.int .i64 1) := (hd16 _ _ q_none).trans c15_none_1
                replace q_a : w1.heap.size < w16.heap.size := by omega
                replace q_b : w1.heap.size + 1 < w16.heap.size := by omega
                replace q_sum : w2.heap.size < w16.heap.size := by omega
                replace q_right : w3.heap.size < w16.heap.size := by omega
                replace q_less : w4.heap.size < w16.heap.size := by omega
                replace q_want : w5.heap.size < w16.heap.size := by omega
                replace q_mirror : w8.heap.size < w16.heap.size := by omega
                replace q_value : w9.heap.size < w16.heap.size := by omega
                replace q_none : w14.heap.size < w16.heap.size := by omega
                have BW16 : Below w.heap.size w w16 := BW15.trans (hb16.mono BW15.size)
                have BX16 : Below w13.heap.size w13 w16 := BX15.trans (hb16.mono BX15.size)
                clear BX15
                clear hb16 hd16 c15_a_0 c15_a_1 c15_b_0 c15_b_1 c15_sum_0 c15_sum_1 c15_right_0 c15_right_1 c15_less_0 c15_less_1 c15_want_0 c15_want_1 c15_mirror_0 c15_mirror_1 c15_value_0 c15_value_1 c15_none_0 c15_none_1 BW15
                have hrelB := BX16
                go_wp2_with fail
                go_meet
                case rel => exact hrelB
          case rest =>
            obtain ⟨w14, hw14⟩ : ∃ x : World, x = wc := ⟨_, rfl⟩
            subst hw14
            have hb14 := hcut
            obtain ⟨hc14, hf14⟩ := bcell hb14
            have hz14 := hb14.size
            (try simp only [World.size_alloc, World.size_setCell, World.size_drew] at hz14)
            have B14 : Below w13.heap.size w13 w14 := Below.trans (b := _) (by (repeat' (first | (with_reducible exact Below.refl _ _) | (with_reducible assumption) | (with_reducible refine Below.alloc ?_ ?_ _) | (with_reducible refine Below.drew ?_) | (with_reducible refine below_drewN ?_ _) | (with_reducible refine Below.setCell ?_ ?_ _) | (with_reducible refine below_call ?_ ?_ (by assumption)) | go_size))) (hb14.mono (by first | omega | (simp only [World.size_alloc, World.size_setCell, World.size_drew]; omega)))
            obtain ⟨hd14, -⟩ := bcell B14
            have c14_a_0 : w14.cell? ⟨w1.heap.size, 0, none⟩ = some (.int .i64 n0) := (hd14 _ _ q_a).trans c13_a_0
            have c14_a_1 : w14.cell? ⟨w1.heap.size, 1, none⟩ = some (.int .i64 d0) := (hd14 _ _ q_a).trans c13_a_1
            have c14_b_0 : w14.cell? ⟨w1.heap.size + 1, 0, none⟩ = some (.int .i64 n1) := (hd14 _ _ q_b).trans c13_b_0
            have c14_b_1 : w14.cell? ⟨w1.heap.size + 1, 1, none⟩ = some (.int .i64 d1) := (hd14 _ _ q_b).trans c13_b_1
            have c14_sum_0 : w14.cell? ⟨w2.heap.size, 0, none⟩ = some (.int .i64 sn) := (hd14 _ _ q_sum).trans c13_sum_0
            have c14_sum_1 : w14.cell? ⟨w2.heap.size, 1, none⟩ = some (.int .i64 sd) := (hd14 _ _ q_sum).trans c13_sum_1
            have c14_right_0 : w14.cell? ⟨w3.heap.size, 0, none⟩ = some (.int .i64 sn) := (hd14 _ _ q_right).trans c13_right_0
            have c14_right_1 : w14.cell? ⟨w3.heap.size, 1, none⟩ = some (.int .i64 sd) := (hd14 _ _ q_right).trans c13_right_1
            have c14_less_0 : w14.cell? ⟨w4.heap.size, 0, none⟩ = some (.int .i64 ln) := (hd14 _ _ q_less).trans c13_less_0
            have c14_less_1 : w14.cell? ⟨w4.heap.size, 1, none⟩ = some (.int .i64 ld) := (hd14 _ _ q_less).trans c13_less_1
            have c14_want_0 : w14.cell? ⟨w5.heap.size, 0, none⟩ = some (.int .i64 ln) := (hd14 _ _ q_want).trans c13_want_0
            have c14_want_1 : w14.cell? ⟨w5.heap.size, 1, none⟩ = some (.int .i64 ld) := (hd14 _ _ q_want).trans c13_want_1
            have c14_mirror_0 : w14.cell? ⟨w8.heap.size, 0, none⟩ = some (.int .i64 mn) := (hd14 _ _ q_mirror).trans c13_mirror_0
            have c14_mirror_1 : w14.cell? ⟨w8.heap.size, 1, none⟩ = some (.int .i64 md) := (hd14 _ _ q_mirror).trans c13_mirror_1
            have c14_value_0 : w14.cell? ⟨w9.heap.size, 0, none⟩ = some (.int .i64 mn) := (hd14 _ _ q_value).trans c13_value_0
            have c14_value_1 : w14.cell? ⟨w9.heap.size, 1, none⟩ = some (.int .i64 md) := (hd14 _ _ q_value).trans c13_value_1
            replace q_a : w1.heap.size < w14.heap.size := by omega
            replace q_b : w1.heap.size + 1 < w14.heap.size := by omega
            replace q_sum : w2.heap.size < w14.heap.size := by omega
            replace q_right : w3.heap.size < w14.heap.size := by omega
            replace q_less : w4.heap.size < w14.heap.size := by omega
            replace q_want : w5.heap.size < w14.heap.size := by omega
            replace q_mirror : w8.heap.size < w14.heap.size := by omega
            replace q_value : w9.heap.size < w14.heap.size := by omega
            have BW14 : Below w.heap.size w w14 := BW13.trans (B14.mono BW13.size)
            clear hc14 hf14 hb14 hd14 B14 c13_a_0 c13_a_1 c13_b_0 c13_b_1 c13_sum_0 c13_sum_1 c13_right_0 c13_right_1 c13_less_0 c13_less_1 c13_want_0 c13_want_1 c13_mirror_0 c13_mirror_1 c13_value_0 c13_value_1 BW13
            go_wp2_with fail
            refine (DrawTimesTurn_any L2 p2 L2.length q2 rfl hlen2 _ (BIn.below HB2.out (by (repeat' (first | (with_reducible exact Below.refl _ _) | (with_reducible assumption) | (with_reducible refine Below.alloc ?_ ?_ _) | (with_reducible refine Below.drew ?_) | (with_reducible refine below_drewN ?_ _) | (with_reducible refine Below.setCell ?_ ?_ _) | (with_reducible refine below_call ?_ ?_ (by assumption)) | go_size))))).mono ?_
            rintro e15 w15 ⟨n2, d2, a3, rfl, ⟨kn2, kd2, k3⟩, hb15⟩
            obtain ⟨hc15, hf15⟩ := bcell hb15
            have hz15 := hb15.size
            (try simp only [World.size_alloc, World.size_setCell, World.size_drew] at hz15)
            have B15 : Below w14.heap.size w14 w15 := Below.trans (b := _) (by (repeat' (first | (with_reducible exact Below.refl _ _) | (with_reducible assumption) | (with_reducible refine Below.alloc ?_ ?_ _) | (with_reducible refine Below.drew ?_) | (with_reducible refine below_drewN ?_ _) | (with_reducible refine Below.setCell ?_ ?_ _) | (with_reducible refine below_call ?_ ?_ (by assumption)) | go_size))) (hb15.mono (by first | omega | (simp only [World.size_alloc, World.size_setCell, World.size_drew]; omega)))
            obtain ⟨hd15, -⟩ := bcell B15
            have c15_a_0 : w15.cell? ⟨w1.heap.size, 0, none⟩ = some (.int .i64 n0) := (hd15 _ _ q_a).trans c14_a_0
            have c15_a_1 : w15.cell? ⟨w1.heap.size, 1, none⟩ = some (.int .i64 d0) := (hd15 _ _ q_a).trans c14_a_1
            have c15_b_0 : w15.cell? ⟨w1.heap.size + 1, 0, none⟩ = some (.int .i64 n1) := (hd15 _ _ q_b).trans c14_b_0
            have c15_b_1 : w15.cell? ⟨w1.heap.size + 1, 1, none⟩ = some (.int .i64 d1) := (hd15 _ _ q_b).trans c14_b_1
            have c15_sum_0 : w15.cell? ⟨w2.heap.size, 0, none⟩ = some (.int .i64 sn) := (hd15 _ _ q_sum).trans c14_sum_0
            have c15_sum_1 : w15.cell? ⟨w2.heap.size, 1, none⟩ = some (.int .i64 sd) := (hd15 _ _ q_sum).trans c14_sum_1
            have c15_right_0 : w15.cell? ⟨w3.heap.size, 0, none⟩ = some (.int .i64 sn) := (hd15 _ _ q_right).trans c14_right_0
            have c15_right_1 : w15.cell? ⟨w3.heap.size, 1, none⟩ = some (.int .i64 sd) := (hd15 _ _ q_right).trans c14_right_1
            have c15_less_0 : w15.cell? ⟨w4.heap.size, 0, none⟩ = some (.int .i64 ln) := (hd15 _ _ q_less).trans c14_less_0
            have c15_less_1 : w15.cell? ⟨w4.heap.size, 1, none⟩ = some (.int .i64 ld) := (hd15 _ _ q_less).trans c14_less_1
            have c15_want_0 : w15.cell? ⟨w5.heap.size, 0, none⟩ = some (.int .i64 ln) := (hd15 _ _ q_want).trans c14_want_0
            have c15_want_1 : w15.cell? ⟨w5.heap.size, 1, none⟩ = some (.int .i64 ld) := (hd15 _ _ q_want).trans c14_want_1
            have c15_mirror_0 : w15.cell? ⟨w8.heap.size, 0, none⟩ = some (.int .i64 mn) := (hd15 _ _ q_mirror).trans c14_mirror_0
            have c15_mirror_1 : w15.cell? ⟨w8.heap.size, 1, none⟩ = some (.int .i64 md) := (hd15 _ _ q_mirror).trans c14_mirror_1
            have c15_value_0 : w15.cell? ⟨w9.heap.size, 0, none⟩ = some (.int .i64 mn) := (hd15 _ _ q_value).trans c14_value_0
            have c15_value_1 : w15.cell? ⟨w9.heap.size, 1, none⟩ = some (.int .i64 md) := (hd15 _ _ q_value).trans c14_value_1
            replace q_a : w1.heap.size < w15.heap.size := by omega
            replace q_b : w1.heap.size + 1 < w15.heap.size := by omega
            replace q_sum : w2.heap.size < w15.heap.size := by omega
            replace q_right : w3.heap.size < w15.heap.size := by omega
            replace q_less : w4.heap.size < w15.heap.size := by omega
            replace q_want : w5.heap.size < w15.heap.size := by omega
            replace q_mirror : w8.heap.size < w15.heap.size := by omega
            replace q_value : w9.heap.size < w15.heap.size := by omega
            have BW15 : Below w.heap.size w w15 := BW14.trans (B15.mono BW14.size)
            clear hc15 hf15 hb15 hd15 B15 c14_a_0 c14_a_1 c14_b_0 c14_b_1 c14_sum_0 c14_sum_1 c14_right_0 c14_right_1 c14_less_0 c14_less_1 c14_want_0 c14_want_1 c14_mirror_0 c14_mirror_1 c14_value_0 c14_value_1 BW14
            obtain ⟨un, ud, uo, hU⟩ : ∃ x y z, timesT n2 d2 a3 = (x, y, z) := ⟨_, _, _, rfl⟩
            obtain ⟨pn, pd, po, hP⟩ : ∃ x y z, partT n2 d2 a3 = (x, y, z) := ⟨_, _, _, rfl⟩
            have C9 := Lib.hid (fun W => (show Calls Try.prog 18 #[tv n2 d2, .int .i64 a3] W fun e w' => e = .returned (rv (un, ud, uo)) ∧ Below W.heap.size W w' from by have := implTimesTurn_any n2 d2 a3 W; rw [hU] at this; exact this))
            have C10 := Lib.hid (fun W => (show Calls Try.prog 19 #[tv n2 d2, .int .i64 a3] W fun e w' => e = .returned (rv (un, ud, uo)) ∧ Below W.heap.size W w' from by have := specTimesTurn_any n2 d2 a3 kd2 W; rw [hU] at this; exact this))
            have C11 := Lib.hid (fun W => (show Calls Try.prog 20 #[tv n2 d2, .int .i64 a3] W fun e w' => e = .returned (rv (pn, pd, po)) ∧ Below W.heap.size W w' from by have := implPartOfTurn_any n2 d2 a3 W; rw [hP] at this; exact this))
            have C12 := Lib.hid (fun W => (show Calls Try.prog 21 #[tv n2 d2, .int .i64 a3] W fun e w' => e = .returned (rv (pn, pd, po)) ∧ Below W.heap.size W w' from by have := specPartOfTurn_any n2 d2 a3 kd2 W; rw [hP] at this; exact this))
            have FP2 := Lib.hid (fun (e : po = true) => (show timesT pn pd a3 = (n2, d2, true) ∧ (0 ≤ pn * a3 ∧ pn * a3 < pd ∧ pd ≤ 1000000) ∧ (pn * a3 < pd * a3 ∧ pd * a3 ≤ 10000000000) from by
              have h : partT n2 d2 a3 = (pn, pd, true) := by rw [hP, e]
              exact ⟨part_times h rfl, part_less h⟩))
            clear hU hP
            go_wp2_with fail
            refine (C9.out _).mono ?_
            rintro e16 w16 ⟨rfl, hb16⟩
            obtain ⟨hc16, hf16⟩ := bcell hb16
            have hz16 := hb16.size
            (try simp only [World.size_alloc, World.size_setCell, World.size_drew] at hz16)
            have B16 : Below w15.heap.size w15 w16 := Below.trans (b := _) (by (repeat' (first | (with_reducible exact Below.refl _ _) | (with_reducible assumption) | (with_reducible refine Below.alloc ?_ ?_ _) | (with_reducible refine Below.drew ?_) | (with_reducible refine below_drewN ?_ _) | (with_reducible refine Below.setCell ?_ ?_ _) | (with_reducible refine below_call ?_ ?_ (by assumption)) | go_size))) (hb16.mono (by first | omega | (simp only [World.size_alloc, World.size_setCell, World.size_drew]; omega)))
            obtain ⟨hd16, -⟩ := bcell B16
            have c16_a_0 : w16.cell? ⟨w1.heap.size, 0, none⟩ = some (.int .i64 n0) := (hd16 _ _ q_a).trans c15_a_0
            have c16_a_1 : w16.cell? ⟨w1.heap.size, 1, none⟩ = some (.int .i64 d0) := (hd16 _ _ q_a).trans c15_a_1
            have c16_b_0 : w16.cell? ⟨w1.heap.size + 1, 0, none⟩ = some (.int .i64 n1) := (hd16 _ _ q_b).trans c15_b_0
            have c16_b_1 : w16.cell? ⟨w1.heap.size + 1, 1, none⟩ = some (.int .i64 d1) := (hd16 _ _ q_b).trans c15_b_1
            have c16_sum_0 : w16.cell? ⟨w2.heap.size, 0, none⟩ = some (.int .i64 sn) := (hd16 _ _ q_sum).trans c15_sum_0
            have c16_sum_1 : w16.cell? ⟨w2.heap.size, 1, none⟩ = some (.int .i64 sd) := (hd16 _ _ q_sum).trans c15_sum_1
            have c16_right_0 : w16.cell? ⟨w3.heap.size, 0, none⟩ = some (.int .i64 sn) := (hd16 _ _ q_right).trans c15_right_0
            have c16_right_1 : w16.cell? ⟨w3.heap.size, 1, none⟩ = some (.int .i64 sd) := (hd16 _ _ q_right).trans c15_right_1
            have c16_less_0 : w16.cell? ⟨w4.heap.size, 0, none⟩ = some (.int .i64 ln) := (hd16 _ _ q_less).trans c15_less_0
            have c16_less_1 : w16.cell? ⟨w4.heap.size, 1, none⟩ = some (.int .i64 ld) := (hd16 _ _ q_less).trans c15_less_1
            have c16_want_0 : w16.cell? ⟨w5.heap.size, 0, none⟩ = some (.int .i64 ln) := (hd16 _ _ q_want).trans c15_want_0
            have c16_want_1 : w16.cell? ⟨w5.heap.size, 1, none⟩ = some (.int .i64 ld) := (hd16 _ _ q_want).trans c15_want_1
            have c16_mirror_0 : w16.cell? ⟨w8.heap.size, 0, none⟩ = some (.int .i64 mn) := (hd16 _ _ q_mirror).trans c15_mirror_0
            have c16_mirror_1 : w16.cell? ⟨w8.heap.size, 1, none⟩ = some (.int .i64 md) := (hd16 _ _ q_mirror).trans c15_mirror_1
            have c16_value_0 : w16.cell? ⟨w9.heap.size, 0, none⟩ = some (.int .i64 mn) := (hd16 _ _ q_value).trans c15_value_0
            have c16_value_1 : w16.cell? ⟨w9.heap.size, 1, none⟩ = some (.int .i64 md) := (hd16 _ _ q_value).trans c15_value_1
            replace q_a : w1.heap.size < w16.heap.size := by omega
            replace q_b : w1.heap.size + 1 < w16.heap.size := by omega
            replace q_sum : w2.heap.size < w16.heap.size := by omega
            replace q_right : w3.heap.size < w16.heap.size := by omega
            replace q_less : w4.heap.size < w16.heap.size := by omega
            replace q_want : w5.heap.size < w16.heap.size := by omega
            replace q_mirror : w8.heap.size < w16.heap.size := by omega
            replace q_value : w9.heap.size < w16.heap.size := by omega
            have c16_t_0 : w16.cell? ⟨w15.heap.size, 0, none⟩ = some (.int .i64 n2) := (hc16 _ _ (by go_size)).trans (by go_simp)
            have c16_t_1 : w16.cell? ⟨w15.heap.size, 1, none⟩ = some (.int .i64 d2) := (hc16 _ _ (by go_size)).trans (by go_simp)
            have q_t : w15.heap.size < w16.heap.size := by omega
            have BW16 : Below w.heap.size w w16 := BW15.trans (B16.mono BW15.size)
            clear hc16 hf16 hb16 hd16 B16 c15_a_0 c15_a_1 c15_b_0 c15_b_1 c15_sum_0 c15_sum_1 c15_right_0 c15_right_1 c15_less_0 c15_less_1 c15_want_0 c15_want_1 c15_mirror_0 c15_mirror_1 c15_value_0 c15_value_1 BW15
            go_wp2_with fail
            refine (C10.out _).mono ?_
            rintro e17 w17 ⟨rfl, hb17⟩
            obtain ⟨hc17, hf17⟩ := bcell hb17
            have hz17 := hb17.size
            (try simp only [World.size_alloc, World.size_setCell, World.size_drew] at hz17)
            have B17 : Below w16.heap.size w16 w17 := Below.trans (b := _) (by (repeat' (first | (with_reducible exact Below.refl _ _) | (with_reducible assumption) | (with_reducible refine Below.alloc ?_ ?_ _) | (with_reducible refine Below.drew ?_) | (with_reducible refine below_drewN ?_ _) | (with_reducible refine Below.setCell ?_ ?_ _) | (with_reducible refine below_call ?_ ?_ (by assumption)) | go_size))) (hb17.mono (by first | omega | (simp only [World.size_alloc, World.size_setCell, World.size_drew]; omega)))
            obtain ⟨hd17, -⟩ := bcell B17
            have c17_a_0 : w17.cell? ⟨w1.heap.size, 0, none⟩ = some (.int .i64 n0) := (hd17 _ _ q_a).trans c16_a_0
            have c17_a_1 : w17.cell? ⟨w1.heap.size, 1, none⟩ = some (.int .i64 d0) := (hd17 _ _ q_a).trans c16_a_1
            have c17_b_0 : w17.cell? ⟨w1.heap.size + 1, 0, none⟩ = some (.int .i64 n1) := (hd17 _ _ q_b).trans c16_b_0
            have c17_b_1 : w17.cell? ⟨w1.heap.size + 1, 1, none⟩ = some (.int .i64 d1) := (hd17 _ _ q_b).trans c16_b_1
            have c17_sum_0 : w17.cell? ⟨w2.heap.size, 0, none⟩ = some (.int .i64 sn) := (hd17 _ _ q_sum).trans c16_sum_0
            have c17_sum_1 : w17.cell? ⟨w2.heap.size, 1, none⟩ = some (.int .i64 sd) := (hd17 _ _ q_sum).trans c16_sum_1
            have c17_right_0 : w17.cell? ⟨w3.heap.size, 0, none⟩ = some (.int .i64 sn) := (hd17 _ _ q_right).trans c16_right_0
            have c17_right_1 : w17.cell? ⟨w3.heap.size, 1, none⟩ = some (.int .i64 sd) := (hd17 _ _ q_right).trans c16_right_1
            have c17_less_0 : w17.cell? ⟨w4.heap.size, 0, none⟩ = some (.int .i64 ln) := (hd17 _ _ q_less).trans c16_less_0
            have c17_less_1 : w17.cell? ⟨w4.heap.size, 1, none⟩ = some (.int .i64 ld) := (hd17 _ _ q_less).trans c16_less_1
            have c17_want_0 : w17.cell? ⟨w5.heap.size, 0, none⟩ = some (.int .i64 ln) := (hd17 _ _ q_want).trans c16_want_0
            have c17_want_1 : w17.cell? ⟨w5.heap.size, 1, none⟩ = some (.int .i64 ld) := (hd17 _ _ q_want).trans c16_want_1
            have c17_mirror_0 : w17.cell? ⟨w8.heap.size, 0, none⟩ = some (.int .i64 mn) := (hd17 _ _ q_mirror).trans c16_mirror_0
            have c17_mirror_1 : w17.cell? ⟨w8.heap.size, 1, none⟩ = some (.int .i64 md) := (hd17 _ _ q_mirror).trans c16_mirror_1
            have c17_value_0 : w17.cell? ⟨w9.heap.size, 0, none⟩ = some (.int .i64 mn) := (hd17 _ _ q_value).trans c16_value_0
            have c17_value_1 : w17.cell? ⟨w9.heap.size, 1, none⟩ = some (.int .i64 md) := (hd17 _ _ q_value).trans c16_value_1
            have c17_t_0 : w17.cell? ⟨w15.heap.size, 0, none⟩ = some (.int .i64 n2) := (hd17 _ _ q_t).trans c16_t_0
            have c17_t_1 : w17.cell? ⟨w15.heap.size, 1, none⟩ = some (.int .i64 d2) := (hd17 _ _ q_t).trans c16_t_1
            replace q_a : w1.heap.size < w17.heap.size := by omega
            replace q_b : w1.heap.size + 1 < w17.heap.size := by omega
            replace q_sum : w2.heap.size < w17.heap.size := by omega
            replace q_right : w3.heap.size < w17.heap.size := by omega
            replace q_less : w4.heap.size < w17.heap.size := by omega
            replace q_want : w5.heap.size < w17.heap.size := by omega
            replace q_mirror : w8.heap.size < w17.heap.size := by omega
            replace q_value : w9.heap.size < w17.heap.size := by omega
            replace q_t : w15.heap.size < w17.heap.size := by omega
            have c17_times_0 : w17.cell? ⟨w16.heap.size, 0, none⟩ = some (.int .i64 un) := (hc17 _ _ (by go_size)).trans (by go_simp)
            have c17_times_1 : w17.cell? ⟨w16.heap.size, 1, none⟩ = some (.int .i64 ud) := (hc17 _ _ (by go_size)).trans (by go_simp)
            have q_times : w16.heap.size < w17.heap.size := by omega
            have BW17 : Below w.heap.size w w17 := BW16.trans (B17.mono BW16.size)
            clear hc17 hf17 hb17 hd17 B17 c16_a_0 c16_a_1 c16_b_0 c16_b_1 c16_sum_0 c16_sum_1 c16_right_0 c16_right_1 c16_less_0 c16_less_1 c16_want_0 c16_want_1 c16_mirror_0 c16_mirror_1 c16_value_0 c16_value_1 c16_t_0 c16_t_1 BW16
            go_wp2_with fail
            refine (C11.out _).mono ?_
            rintro e18 w18 ⟨rfl, hb18⟩
            obtain ⟨hc18, hf18⟩ := bcell hb18
            have hz18 := hb18.size
            (try simp only [World.size_alloc, World.size_setCell, World.size_drew] at hz18)
            have B18 : Below w17.heap.size w17 w18 := Below.trans (b := _) (by (repeat' (first | (with_reducible exact Below.refl _ _) | (with_reducible assumption) | (with_reducible refine Below.alloc ?_ ?_ _) | (with_reducible refine Below.drew ?_) | (with_reducible refine below_drewN ?_ _) | (with_reducible refine Below.setCell ?_ ?_ _) | (with_reducible refine below_call ?_ ?_ (by assumption)) | go_size))) (hb18.mono (by first | omega | (simp only [World.size_alloc, World.size_setCell, World.size_drew]; omega)))
            obtain ⟨hd18, -⟩ := bcell B18
            have c18_a_0 : w18.cell? ⟨w1.heap.size, 0, none⟩ = some (.int .i64 n0) := (hd18 _ _ q_a).trans c17_a_0
            have c18_a_1 : w18.cell? ⟨w1.heap.size, 1, none⟩ = some (.int .i64 d0) := (hd18 _ _ q_a).trans c17_a_1
            have c18_b_0 : w18.cell? ⟨w1.heap.size + 1, 0, none⟩ = some (.int .i64 n1) := (hd18 _ _ q_b).trans c17_b_0
            have c18_b_1 : w18.cell? ⟨w1.heap.size + 1, 1, none⟩ = some (.int .i64 d1) := (hd18 _ _ q_b).trans c17_b_1
            have c18_sum_0 : w18.cell? ⟨w2.heap.size, 0, none⟩ = some (.int .i64 sn) := (hd18 _ _ q_sum).trans c17_sum_0
            have c18_sum_1 : w18.cell? ⟨w2.heap.size, 1, none⟩ = some (.int .i64 sd) := (hd18 _ _ q_sum).trans c17_sum_1
            have c18_right_0 : w18.cell? ⟨w3.heap.size, 0, none⟩ = some (.int .i64 sn) := (hd18 _ _ q_right).trans c17_right_0
            have c18_right_1 : w18.cell? ⟨w3.heap.size, 1, none⟩ = some (.int .i64 sd) := (hd18 _ _ q_right).trans c17_right_1
            have c18_less_0 : w18.cell? ⟨w4.heap.size, 0, none⟩ = some (.int .i64 ln) := (hd18 _ _ q_less).trans c17_less_0
            have c18_less_1 : w18.cell? ⟨w4.heap.size, 1, none⟩ = some (.int .i64 ld) := (hd18 _ _ q_less).trans c17_less_1
            have c18_want_0 : w18.cell? ⟨w5.heap.size, 0, none⟩ = some (.int .i64 ln) := (hd18 _ _ q_want).trans c17_want_0
            have c18_want_1 : w18.cell? ⟨w5.heap.size, 1, none⟩ = some (.int .i64 ld) := (hd18 _ _ q_want).trans c17_want_1
            have c18_mirror_0 : w18.cell? ⟨w8.heap.size, 0, none⟩ = some (.int .i64 mn) := (hd18 _ _ q_mirror).trans c17_mirror_0
            have c18_mirror_1 : w18.cell? ⟨w8.heap.size, 1, none⟩ = some (.int .i64 md) := (hd18 _ _ q_mirror).trans c17_mirror_1
            have c18_value_0 : w18.cell? ⟨w9.heap.size, 0, none⟩ = some (.int .i64 mn) := (hd18 _ _ q_value).trans c17_value_0
            have c18_value_1 : w18.cell? ⟨w9.heap.size, 1, none⟩ = some (.int .i64 md) := (hd18 _ _ q_value).trans c17_value_1
            have c18_t_0 : w18.cell? ⟨w15.heap.size, 0, none⟩ = some (.int .i64 n2) := (hd18 _ _ q_t).trans c17_t_0
            have c18_t_1 : w18.cell? ⟨w15.heap.size, 1, none⟩ = some (.int .i64 d2) := (hd18 _ _ q_t).trans c17_t_1
            have c18_times_0 : w18.cell? ⟨w16.heap.size, 0, none⟩ = some (.int .i64 un) := (hd18 _ _ q_times).trans c17_times_0
            have c18_times_1 : w18.cell? ⟨w16.heap.size, 1, none⟩ = some (.int .i64 ud) := (hd18 _ _ q_times).trans c17_times_1
            replace q_a : w1.heap.size < w18.heap.size := by omega
            replace q_b : w1.heap.size + 1 < w18.heap.size := by omega
            replace q_sum : w2.heap.size < w18.heap.size := by omega
            replace q_right : w3.heap.size < w18.heap.size := by omega
            replace q_less : w4.heap.size < w18.heap.size := by omega
            replace q_want : w5.heap.size < w18.heap.size := by omega
            replace q_mirror : w8.heap.size < w18.heap.size := by omega
            replace q_value : w9.heap.size < w18.heap.size := by omega
            replace q_t : w15.heap.size < w18.heap.size := by omega
            replace q_times : w16.heap.size < w18.heap.size := by omega
            have c18_due_0 : w18.cell? ⟨w17.heap.size, 0, none⟩ = some (.int .i64 un) := (hc18 _ _ (by go_size)).trans (by go_simp)
            have c18_due_1 : w18.cell? ⟨w17.heap.size, 1, none⟩ = some (.int .i64 ud) := (hc18 _ _ (by go_size)).trans (by go_simp)
            have q_due : w17.heap.size < w18.heap.size := by omega
            have BW18 : Below w.heap.size w w18 := BW17.trans (B18.mono BW17.size)
            clear hc18 hf18 hb18 hd18 B18 c17_a_0 c17_a_1 c17_b_0 c17_b_1 c17_sum_0 c17_sum_1 c17_right_0 c17_right_1 c17_less_0 c17_less_1 c17_want_0 c17_want_1 c17_mirror_0 c17_mirror_1 c17_value_0 c17_value_1 c17_t_0 c17_t_1 c17_times_0 c17_times_1 BW17
            go_wp2_with fail
            refine (C12.out _).mono ?_
            rintro e19 w19 ⟨rfl, hb19⟩
            obtain ⟨hc19, hf19⟩ := bcell hb19
            have hz19 := hb19.size
            (try simp only [World.size_alloc, World.size_setCell, World.size_drew] at hz19)
            have B19 : Below w18.heap.size w18 w19 := Below.trans (b := _) (by (repeat' (first | (with_reducible exact Below.refl _ _) | (with_reducible assumption) | (with_reducible refine Below.alloc ?_ ?_ _) | (with_reducible refine Below.drew ?_) | (with_reducible refine below_drewN ?_ _) | (with_reducible refine Below.setCell ?_ ?_ _) | (with_reducible refine below_call ?_ ?_ (by assumption)) | go_size))) (hb19.mono (by first | omega | (simp only [World.size_alloc, World.size_setCell, World.size_drew]; omega)))
            obtain ⟨hd19, -⟩ := bcell B19
            have c19_a_0 : w19.cell? ⟨w1.heap.size, 0, none⟩ = some (.int .i64 n0) := (hd19 _ _ q_a).trans c18_a_0
            have c19_a_1 : w19.cell? ⟨w1.heap.size, 1, none⟩ = some (.int .i64 d0) := (hd19 _ _ q_a).trans c18_a_1
            have c19_b_0 : w19.cell? ⟨w1.heap.size + 1, 0, none⟩ = some (.int .i64 n1) := (hd19 _ _ q_b).trans c18_b_0
            have c19_b_1 : w19.cell? ⟨w1.heap.size + 1, 1, none⟩ = some (.int .i64 d1) := (hd19 _ _ q_b).trans c18_b_1
            have c19_sum_0 : w19.cell? ⟨w2.heap.size, 0, none⟩ = some (.int .i64 sn) := (hd19 _ _ q_sum).trans c18_sum_0
            have c19_sum_1 : w19.cell? ⟨w2.heap.size, 1, none⟩ = some (.int .i64 sd) := (hd19 _ _ q_sum).trans c18_sum_1
            have c19_right_0 : w19.cell? ⟨w3.heap.size, 0, none⟩ = some (.int .i64 sn) := (hd19 _ _ q_right).trans c18_right_0
            have c19_right_1 : w19.cell? ⟨w3.heap.size, 1, none⟩ = some (.int .i64 sd) := (hd19 _ _ q_right).trans c18_right_1
            have c19_less_0 : w19.cell? ⟨w4.heap.size, 0, none⟩ = some (.int .i64 ln) := (hd19 _ _ q_less).trans c18_less_0
            have c19_less_1 : w19.cell? ⟨w4.heap.size, 1, none⟩ = some (.int .i64 ld) := (hd19 _ _ q_less).trans c18_less_1
            have c19_want_0 : w19.cell? ⟨w5.heap.size, 0, none⟩ = some (.int .i64 ln) := (hd19 _ _ q_want).trans c18_want_0
            have c19_want_1 : w19.cell? ⟨w5.heap.size, 1, none⟩ = some (.int .i64 ld) := (hd19 _ _ q_want).trans c18_want_1
            have c19_mirror_0 : w19.cell? ⟨w8.heap.size, 0, none⟩ = some (.int .i64 mn) := (hd19 _ _ q_mirror).trans c18_mirror_0
            have c19_mirror_1 : w19.cell? ⟨w8.heap.size, 1, none⟩ = some (.int .i64 md) := (hd19 _ _ q_mirror).trans c18_mirror_1
            have c19_value_0 : w19.cell? ⟨w9.heap.size, 0, none⟩ = some (.int .i64 mn) := (hd19 _ _ q_value).trans c18_value_0
            have c19_value_1 : w19.cell? ⟨w9.heap.size, 1, none⟩ = some (.int .i64 md) := (hd19 _ _ q_value).trans c18_value_1
            have c19_t_0 : w19.cell? ⟨w15.heap.size, 0, none⟩ = some (.int .i64 n2) := (hd19 _ _ q_t).trans c18_t_0
            have c19_t_1 : w19.cell? ⟨w15.heap.size, 1, none⟩ = some (.int .i64 d2) := (hd19 _ _ q_t).trans c18_t_1
            have c19_times_0 : w19.cell? ⟨w16.heap.size, 0, none⟩ = some (.int .i64 un) := (hd19 _ _ q_times).trans c18_times_0
            have c19_times_1 : w19.cell? ⟨w16.heap.size, 1, none⟩ = some (.int .i64 ud) := (hd19 _ _ q_times).trans c18_times_1
            have c19_due_0 : w19.cell? ⟨w17.heap.size, 0, none⟩ = some (.int .i64 un) := (hd19 _ _ q_due).trans c18_due_0
            have c19_due_1 : w19.cell? ⟨w17.heap.size, 1, none⟩ = some (.int .i64 ud) := (hd19 _ _ q_due).trans c18_due_1
            replace q_a : w1.heap.size < w19.heap.size := by omega
            replace q_b : w1.heap.size + 1 < w19.heap.size := by omega
            replace q_sum : w2.heap.size < w19.heap.size := by omega
            replace q_right : w3.heap.size < w19.heap.size := by omega
            replace q_less : w4.heap.size < w19.heap.size := by omega
            replace q_want : w5.heap.size < w19.heap.size := by omega
            replace q_mirror : w8.heap.size < w19.heap.size := by omega
            replace q_value : w9.heap.size < w19.heap.size := by omega
            replace q_t : w15.heap.size < w19.heap.size := by omega
            replace q_times : w16.heap.size < w19.heap.size := by omega
            replace q_due : w17.heap.size < w19.heap.size := by omega
            have c19_part_0 : w19.cell? ⟨w18.heap.size, 0, none⟩ = some (.int .i64 pn) := (hc19 _ _ (by go_size)).trans (by go_simp)
            have c19_part_1 : w19.cell? ⟨w18.heap.size, 1, none⟩ = some (.int .i64 pd) := (hc19 _ _ (by go_size)).trans (by go_simp)
            have q_part : w18.heap.size < w19.heap.size := by omega
            have BW19 : Below w.heap.size w w19 := BW18.trans (B19.mono BW18.size)
            clear hc19 hf19 hb19 hd19 B19 c18_a_0 c18_a_1 c18_b_0 c18_b_1 c18_sum_0 c18_sum_1 c18_right_0 c18_right_1 c18_less_0 c18_less_1 c18_want_0 c18_want_1 c18_mirror_0 c18_mirror_1 c18_value_0 c18_value_1 c18_t_0 c18_t_1 c18_times_0 c18_times_1 c18_due_0 c18_due_1 BW18
            go_wp2_with fail
            refine (DrawMakeTurn_any L2 p2 L2.length q2 rfl hlen2 _ (BIn.below HB2.out (by (repeat' (first | (with_reducible exact Below.refl _ _) | (with_reducible assumption) | (with_reducible refine Below.alloc ?_ ?_ _) | (with_reducible refine Below.drew ?_) | (with_reducible refine below_drewN ?_ _) | (with_reducible refine Below.setCell ?_ ?_ _) | (with_reducible refine below_call ?_ ?_ (by assumption)) | go_size))))).mono ?_
            rintro e20 w20 ⟨a4, a5, rfl, ⟨k4, k5⟩, hb20⟩
            obtain ⟨hc20, hf20⟩ := bcell hb20
            have hz20 := hb20.size
            (try simp only [World.size_alloc, World.size_setCell, World.size_drew] at hz20)
            have B20 : Below w19.heap.size w19 w20 := Below.trans (b := _) (by (repeat' (first | (with_reducible exact Below.refl _ _) | (with_reducible assumption) | (with_reducible refine Below.alloc ?_ ?_ _) | (with_reducible refine Below.drew ?_) | (with_reducible refine below_drewN ?_ _) | (with_reducible refine Below.setCell ?_ ?_ _) | (with_reducible refine below_call ?_ ?_ (by assumption)) | go_size))) (hb20.mono (by first | omega | (simp only [World.size_alloc, World.size_setCell, World.size_drew]; omega)))
            obtain ⟨hd20, -⟩ := bcell B20
            have c20_a_0 : w20.cell? ⟨w1.heap.size, 0, none⟩ = some (.int .i64 n0) := (hd20 _ _ q_a).trans c19_a_0
            have c20_a_1 : w20.cell? ⟨w1.heap.size, 1, none⟩ = some (.int .i64 d0) := (hd20 _ _ q_a).trans c19_a_1
            have c20_b_0 : w20.cell? ⟨w1.heap.size + 1, 0, none⟩ = some (.int .i64 n1) := (hd20 _ _ q_b).trans c19_b_0
            have c20_b_1 : w20.cell? ⟨w1.heap.size + 1, 1, none⟩ = some (.int .i64 d1) := (hd20 _ _ q_b).trans c19_b_1
            have c20_sum_0 : w20.cell? ⟨w2.heap.size, 0, none⟩ = some (.int .i64 sn) := (hd20 _ _ q_sum).trans c19_sum_0
            have c20_sum_1 : w20.cell? ⟨w2.heap.size, 1, none⟩ = some (.int .i64 sd) := (hd20 _ _ q_sum).trans c19_sum_1
            have c20_right_0 : w20.cell? ⟨w3.heap.size, 0, none⟩ = some (.int .i64 sn) := (hd20 _ _ q_right).trans c19_right_0
            have c20_right_1 : w20.cell? ⟨w3.heap.size, 1, none⟩ = some (.int .i64 sd) := (hd20 _ _ q_right).trans c19_right_1
            have c20_less_0 : w20.cell? ⟨w4.heap.size, 0, none⟩ = some (.int .i64 ln) := (hd20 _ _ q_less).trans c19_less_0
            have c20_less_1 : w20.cell? ⟨w4.heap.size, 1, none⟩ = some (.int .i64 ld) := (hd20 _ _ q_less).trans c19_less_1
            have c20_want_0 : w20.cell? ⟨w5.heap.size, 0, none⟩ = some (.int .i64 ln) := (hd20 _ _ q_want).trans c19_want_0
            have c20_want_1 : w20.cell? ⟨w5.heap.size, 1, none⟩ = some (.int .i64 ld) := (hd20 _ _ q_want).trans c19_want_1
            have c20_mirror_0 : w20.cell? ⟨w8.heap.size, 0, none⟩ = some (.int .i64 mn) := (hd20 _ _ q_mirror).trans c19_mirror_0
            have c20_mirror_1 : w20.cell? ⟨w8.heap.size, 1, none⟩ = some (.int .i64 md) := (hd20 _ _ q_mirror).trans c19_mirror_1
            have c20_value_0 : w20.cell? ⟨w9.heap.size, 0, none⟩ = some (.int .i64 mn) := (hd20 _ _ q_value).trans c19_value_0
            have c20_value_1 : w20.cell? ⟨w9.heap.size, 1, none⟩ = some (.int .i64 md) := (hd20 _ _ q_value).trans c19_value_1
            have c20_t_0 : w20.cell? ⟨w15.heap.size, 0, none⟩ = some (.int .i64 n2) := (hd20 _ _ q_t).trans c19_t_0
            have c20_t_1 : w20.cell? ⟨w15.heap.size, 1, none⟩ = some (.int .i64 d2) := (hd20 _ _ q_t).trans c19_t_1
            have c20_times_0 : w20.cell? ⟨w16.heap.size, 0, none⟩ = some (.int .i64 un) := (hd20 _ _ q_times).trans c19_times_0
            have c20_times_1 : w20.cell? ⟨w16.heap.size, 1, none⟩ = some (.int .i64 ud) := (hd20 _ _ q_times).trans c19_times_1
            have c20_due_0 : w20.cell? ⟨w17.heap.size, 0, none⟩ = some (.int .i64 un) := (hd20 _ _ q_due).trans c19_due_0
            have c20_due_1 : w20.cell? ⟨w17.heap.size, 1, none⟩ = some (.int .i64 ud) := (hd20 _ _ q_due).trans c19_due_1
            have c20_part_0 : w20.cell? ⟨w18.heap.size, 0, none⟩ = some (.int .i64 pn) := (hd20 _ _ q_part).trans c19_part_0
            have c20_part_1 : w20.cell? ⟨w18.heap.size, 1, none⟩ = some (.int .i64 pd) := (hd20 _ _ q_part).trans c19_part_1
            replace q_a : w1.heap.size < w20.heap.size := by omega
            replace q_b : w1.heap.size + 1 < w20.heap.size := by omega
            replace q_sum : w2.heap.size < w20.heap.size := by omega
            replace q_right : w3.heap.size < w20.heap.size := by omega
            replace q_less : w4.heap.size < w20.heap.size := by omega
            replace q_want : w5.heap.size < w20.heap.size := by omega
            replace q_mirror : w8.heap.size < w20.heap.size := by omega
            replace q_value : w9.heap.size < w20.heap.size := by omega
            replace q_t : w15.heap.size < w20.heap.size := by omega
            replace q_times : w16.heap.size < w20.heap.size := by omega
            replace q_due : w17.heap.size < w20.heap.size := by omega
            replace q_part : w18.heap.size < w20.heap.size := by omega
            have c20_list_0 : w20.cell? ⟨w19.heap.size, 0, none⟩ = some (.int .i64 pn) := (hc20 _ _ (by go_size)).trans (by go_simp)
            have c20_list_1 : w20.cell? ⟨w19.heap.size, 1, none⟩ = some (.int .i64 pd) := (hc20 _ _ (by go_size)).trans (by go_simp)
            have q_list : w19.heap.size < w20.heap.size := by omega
            have BW20 : Below w.heap.size w w20 := BW19.trans (B20.mono BW19.size)
            clear hc20 hf20 hb20 hd20 B20 c19_a_0 c19_a_1 c19_b_0 c19_b_1 c19_sum_0 c19_sum_1 c19_right_0 c19_right_1 c19_less_0 c19_less_1 c19_want_0 c19_want_1 c19_mirror_0 c19_mirror_1 c19_value_0 c19_value_1 c19_t_0 c19_t_1 c19_times_0 c19_times_1 c19_due_0 c19_due_1 c19_part_0 c19_part_1 BW19
            obtain ⟨kn, kd, ko, hK⟩ : ∃ x y z, makeT a4 a5 = (x, y, z) := ⟨_, _, _, rfl⟩
            have C13 := Lib.hid (fun W => (show Calls Try.prog 23 #[.int .i64 a4, .int .i64 a5] W fun e w' => e = .returned (rv (kn, kd, ko)) ∧ Below W.heap.size W w' from by have := implMakeTurn_any a4 a5 W; rw [hK] at this; exact this))
            have C14 := Lib.hid (fun W => (show Calls Try.prog 24 #[.int .i64 a4, .int .i64 a5] W fun e w' => e = .returned (rv (kn, kd, ko)) ∧ Below W.heap.size W w' from by have := specMakeTurn_any a4 a5 W; rw [hK] at this; exact this))
            have FK2 := Lib.hid (fun (e : ko = true) => make_fits (show makeT a4 a5 = (kn, kd, true) from by rw [hK, e]))
            clear hK
            go_wp2_with fail
            refine (C13.out _).mono ?_
            rintro e21 w21 ⟨rfl, hb21⟩
            obtain ⟨hc21, hf21⟩ := bcell hb21
            have hz21 := hb21.size
            (try simp only [World.size_alloc, World.size_setCell, World.size_drew] at hz21)
            have B21 : Below w20.heap.size w20 w21 := Below.trans (b := _) (by (repeat' (first | (with_reducible exact Below.refl _ _) | (with_reducible assumption) | (with_reducible refine Below.alloc ?_ ?_ _) | (with_reducible refine Below.drew ?_) | (with_reducible refine below_drewN ?_ _) | (with_reducible refine Below.setCell ?_ ?_ _) | (with_reducible refine below_call ?_ ?_ (by assumption)) | go_size))) (hb21.mono (by first | omega | (simp only [World.size_alloc, World.size_setCell, World.size_drew]; omega)))
            obtain ⟨hd21, -⟩ := bcell B21
            have c21_a_0 : w21.cell? ⟨w1.heap.size, 0, none⟩ = some (.int .i64 n0) := (hd21 _ _ q_a).trans c20_a_0
            have c21_a_1 : w21.cell? ⟨w1.heap.size, 1, none⟩ = some (.int .i64 d0) := (hd21 _ _ q_a).trans c20_a_1
            have c21_b_0 : w21.cell? ⟨w1.heap.size + 1, 0, none⟩ = some (.int .i64 n1) := (hd21 _ _ q_b).trans c20_b_0
            have c21_b_1 : w21.cell? ⟨w1.heap.size + 1, 1, none⟩ = some (.int .i64 d1) := (hd21 _ _ q_b).trans c20_b_1
            have c21_sum_0 : w21.cell? ⟨w2.heap.size, 0, none⟩ = some (.int .i64 sn) := (hd21 _ _ q_sum).trans c20_sum_0
            have c21_sum_1 : w21.cell? ⟨w2.heap.size, 1, none⟩ = some (.int .i64 sd) := (hd21 _ _ q_sum).trans c20_sum_1
            have c21_right_0 : w21.cell? ⟨w3.heap.size, 0, none⟩ = some (.int .i64 sn) := (hd21 _ _ q_right).trans c20_right_0
            have c21_right_1 : w21.cell? ⟨w3.heap.size, 1, none⟩ = some (.int .i64 sd) := (hd21 _ _ q_right).trans c20_right_1
            have c21_less_0 : w21.cell? ⟨w4.heap.size, 0, none⟩ = some (.int .i64 ln) := (hd21 _ _ q_less).trans c20_less_0
            have c21_less_1 : w21.cell? ⟨w4.heap.size, 1, none⟩ = some (.int .i64 ld) := (hd21 _ _ q_less).trans c20_less_1
            have c21_want_0 : w21.cell? ⟨w5.heap.size, 0, none⟩ = some (.int .i64 ln) := (hd21 _ _ q_want).trans c20_want_0
            have c21_want_1 : w21.cell? ⟨w5.heap.size, 1, none⟩ = some (.int .i64 ld) := (hd21 _ _ q_want).trans c20_want_1
            have c21_mirror_0 : w21.cell? ⟨w8.heap.size, 0, none⟩ = some (.int .i64 mn) := (hd21 _ _ q_mirror).trans c20_mirror_0
            have c21_mirror_1 : w21.cell? ⟨w8.heap.size, 1, none⟩ = some (.int .i64 md) := (hd21 _ _ q_mirror).trans c20_mirror_1
            have c21_value_0 : w21.cell? ⟨w9.heap.size, 0, none⟩ = some (.int .i64 mn) := (hd21 _ _ q_value).trans c20_value_0
            have c21_value_1 : w21.cell? ⟨w9.heap.size, 1, none⟩ = some (.int .i64 md) := (hd21 _ _ q_value).trans c20_value_1
            have c21_t_0 : w21.cell? ⟨w15.heap.size, 0, none⟩ = some (.int .i64 n2) := (hd21 _ _ q_t).trans c20_t_0
            have c21_t_1 : w21.cell? ⟨w15.heap.size, 1, none⟩ = some (.int .i64 d2) := (hd21 _ _ q_t).trans c20_t_1
            have c21_times_0 : w21.cell? ⟨w16.heap.size, 0, none⟩ = some (.int .i64 un) := (hd21 _ _ q_times).trans c20_times_0
            have c21_times_1 : w21.cell? ⟨w16.heap.size, 1, none⟩ = some (.int .i64 ud) := (hd21 _ _ q_times).trans c20_times_1
            have c21_due_0 : w21.cell? ⟨w17.heap.size, 0, none⟩ = some (.int .i64 un) := (hd21 _ _ q_due).trans c20_due_0
            have c21_due_1 : w21.cell? ⟨w17.heap.size, 1, none⟩ = some (.int .i64 ud) := (hd21 _ _ q_due).trans c20_due_1
            have c21_part_0 : w21.cell? ⟨w18.heap.size, 0, none⟩ = some (.int .i64 pn) := (hd21 _ _ q_part).trans c20_part_0
            have c21_part_1 : w21.cell? ⟨w18.heap.size, 1, none⟩ = some (.int .i64 pd) := (hd21 _ _ q_part).trans c20_part_1
            have c21_list_0 : w21.cell? ⟨w19.heap.size, 0, none⟩ = some (.int .i64 pn) := (hd21 _ _ q_list).trans c20_list_0
            have c21_list_1 : w21.cell? ⟨w19.heap.size, 1, none⟩ = some (.int .i64 pd) := (hd21 _ _ q_list).trans c20_list_1
            replace q_a : w1.heap.size < w21.heap.size := by omega
            replace q_b : w1.heap.size + 1 < w21.heap.size := by omega
            replace q_sum : w2.heap.size < w21.heap.size := by omega
            replace q_right : w3.heap.size < w21.heap.size := by omega
            replace q_less : w4.heap.size < w21.heap.size := by omega
            replace q_want : w5.heap.size < w21.heap.size := by omega
            replace q_mirror : w8.heap.size < w21.heap.size := by omega
            replace q_value : w9.heap.size < w21.heap.size := by omega
            replace q_t : w15.heap.size < w21.heap.size := by omega
            replace q_times : w16.heap.size < w21.heap.size := by omega
            replace q_due : w17.heap.size < w21.heap.size := by omega
            replace q_part : w18.heap.size < w21.heap.size := by omega
            replace q_list : w19.heap.size < w21.heap.size := by omega
            have BW21 : Below w.heap.size w w21 := BW20.trans (B21.mono BW20.size)
            clear hc21 hf21 hb21 hd21 B21 c20_a_0 c20_a_1 c20_b_0 c20_b_1 c20_sum_0 c20_sum_1 c20_right_0 c20_right_1 c20_less_0 c20_less_1 c20_want_0 c20_want_1 c20_mirror_0 c20_mirror_1 c20_value_0 c20_value_1 c20_t_0 c20_t_1 c20_times_0 c20_times_1 c20_due_0 c20_due_1 c20_part_0 c20_part_1 c20_list_0 c20_list_1 BW20
            go_wp2_with fail
            refine (C14.out _).mono ?_
            rintro e22 w22 ⟨rfl, hb22⟩
            obtain ⟨hc22, hf22⟩ := bcell hb22
            have hz22 := hb22.size
            (try simp only [World.size_alloc, World.size_setCell, World.size_drew] at hz22)
            have B22 : Below w21.heap.size w21 w22 := Below.trans (b := _) (by (repeat' (first | (with_reducible exact Below.refl _ _) | (with_reducible assumption) | (with_reducible refine Below.alloc ?_ ?_ _) | (with_reducible refine Below.drew ?_) | (with_reducible refine below_drewN ?_ _) | (with_reducible refine Below.setCell ?_ ?_ _) | (with_reducible refine below_call ?_ ?_ (by assumption)) | go_size))) (hb22.mono (by first | omega | (simp only [World.size_alloc, World.size_setCell, World.size_drew]; omega)))
            obtain ⟨hd22, -⟩ := bcell B22
            have c22_a_0 : w22.cell? ⟨w1.heap.size, 0, none⟩ = some (.int .i64 n0) := (hd22 _ _ q_a).trans c21_a_0
            have c22_a_1 : w22.cell? ⟨w1.heap.size, 1, none⟩ = some (.int .i64 d0) := (hd22 _ _ q_a).trans c21_a_1
            have c22_b_0 : w22.cell? ⟨w1.heap.size + 1, 0, none⟩ = some (.int .i64 n1) := (hd22 _ _ q_b).trans c21_b_0
            have c22_b_1 : w22.cell? ⟨w1.heap.size + 1, 1, none⟩ = some (.int .i64 d1) := (hd22 _ _ q_b).trans c21_b_1
            have c22_sum_0 : w22.cell? ⟨w2.heap.size, 0, none⟩ = some (.int .i64 sn) := (hd22 _ _ q_sum).trans c21_sum_0
            have c22_sum_1 : w22.cell? ⟨w2.heap.size, 1, none⟩ = some (.int .i64 sd) := (hd22 _ _ q_sum).trans c21_sum_1
            have c22_right_0 : w22.cell? ⟨w3.heap.size, 0, none⟩ = some (.int .i64 sn) := (hd22 _ _ q_right).trans c21_right_0
            have c22_right_1 : w22.cell? ⟨w3.heap.size, 1, none⟩ = some (.int .i64 sd) := (hd22 _ _ q_right).trans c21_right_1
            have c22_less_0 : w22.cell? ⟨w4.heap.size, 0, none⟩ = some (.int .i64 ln) := (hd22 _ _ q_less).trans c21_less_0
            have c22_less_1 : w22.cell? ⟨w4.heap.size, 1, none⟩ = some (.int .i64 ld) := (hd22 _ _ q_less).trans c21_less_1
            have c22_want_0 : w22.cell? ⟨w5.heap.size, 0, none⟩ = some (.int .i64 ln) := (hd22 _ _ q_want).trans c21_want_0
            have c22_want_1 : w22.cell? ⟨w5.heap.size, 1, none⟩ = some (.int .i64 ld) := (hd22 _ _ q_want).trans c21_want_1
            have c22_mirror_0 : w22.cell? ⟨w8.heap.size, 0, none⟩ = some (.int .i64 mn) := (hd22 _ _ q_mirror).trans c21_mirror_0
            have c22_mirror_1 : w22.cell? ⟨w8.heap.size, 1, none⟩ = some (.int .i64 md) := (hd22 _ _ q_mirror).trans c21_mirror_1
            have c22_value_0 : w22.cell? ⟨w9.heap.size, 0, none⟩ = some (.int .i64 mn) := (hd22 _ _ q_value).trans c21_value_0
            have c22_value_1 : w22.cell? ⟨w9.heap.size, 1, none⟩ = some (.int .i64 md) := (hd22 _ _ q_value).trans c21_value_1
            have c22_t_0 : w22.cell? ⟨w15.heap.size, 0, none⟩ = some (.int .i64 n2) := (hd22 _ _ q_t).trans c21_t_0
            have c22_t_1 : w22.cell? ⟨w15.heap.size, 1, none⟩ = some (.int .i64 d2) := (hd22 _ _ q_t).trans c21_t_1
            have c22_times_0 : w22.cell? ⟨w16.heap.size, 0, none⟩ = some (.int .i64 un) := (hd22 _ _ q_times).trans c21_times_0
            have c22_times_1 : w22.cell? ⟨w16.heap.size, 1, none⟩ = some (.int .i64 ud) := (hd22 _ _ q_times).trans c21_times_1
            have c22_due_0 : w22.cell? ⟨w17.heap.size, 0, none⟩ = some (.int .i64 un) := (hd22 _ _ q_due).trans c21_due_0
            have c22_due_1 : w22.cell? ⟨w17.heap.size, 1, none⟩ = some (.int .i64 ud) := (hd22 _ _ q_due).trans c21_due_1
            have c22_part_0 : w22.cell? ⟨w18.heap.size, 0, none⟩ = some (.int .i64 pn) := (hd22 _ _ q_part).trans c21_part_0
            have c22_part_1 : w22.cell? ⟨w18.heap.size, 1, none⟩ = some (.int .i64 pd) := (hd22 _ _ q_part).trans c21_part_1
            have c22_list_0 : w22.cell? ⟨w19.heap.size, 0, none⟩ = some (.int .i64 pn) := (hd22 _ _ q_list).trans c21_list_0
            have c22_list_1 : w22.cell? ⟨w19.heap.size, 1, none⟩ = some (.int .i64 pd) := (hd22 _ _ q_list).trans c21_list_1
            replace q_a : w1.heap.size < w22.heap.size := by omega
            replace q_b : w1.heap.size + 1 < w22.heap.size := by omega
            replace q_sum : w2.heap.size < w22.heap.size := by omega
            replace q_right : w3.heap.size < w22.heap.size := by omega
            replace q_less : w4.heap.size < w22.heap.size := by omega
            replace q_want : w5.heap.size < w22.heap.size := by omega
            replace q_mirror : w8.heap.size < w22.heap.size := by omega
            replace q_value : w9.heap.size < w22.heap.size := by omega
            replace q_t : w15.heap.size < w22.heap.size := by omega
            replace q_times : w16.heap.size < w22.heap.size := by omega
            replace q_due : w17.heap.size < w22.heap.size := by omega
            replace q_part : w18.heap.size < w22.heap.size := by omega
            replace q_list : w19.heap.size < w22.heap.size := by omega
            have c22_made_0 : w22.cell? ⟨w21.heap.size, 0, none⟩ = some (.int .i64 kn) := (hc22 _ _ (by go_size)).trans (by go_simp)
            have c22_made_1 : w22.cell? ⟨w21.heap.size, 1, none⟩ = some (.int .i64 kd) := (hc22 _ _ (by go_size)).trans (by go_simp)
            have q_made : w21.heap.size < w22.heap.size := by omega
            have BW22 : Below w.heap.size w w22 := BW21.trans (B22.mono BW21.size)
            clear hc22 hf22 hb22 hd22 B22 c21_a_0 c21_a_1 c21_b_0 c21_b_1 c21_sum_0 c21_sum_1 c21_right_0 c21_right_1 c21_less_0 c21_less_1 c21_want_0 c21_want_1 c21_mirror_0 c21_mirror_1 c21_value_0 c21_value_1 c21_t_0 c21_t_1 c21_times_0 c21_times_1 c21_due_0 c21_due_1 c21_part_0 c21_part_1 c21_list_0 c21_list_1 BW21
            go_upto_region 36 with fail
            have hb23 : Below w22.heap.size w22 (w22.alloc (Obj.cells #[.int .i64 kn, .int .i64 kd] 25)) := by (repeat' (first | (with_reducible exact Below.refl _ _) | (with_reducible assumption) | (with_reducible refine Below.alloc ?_ ?_ _) | (with_reducible refine Below.drew ?_) | (with_reducible refine below_drewN ?_ _) | (with_reducible refine Below.setCell ?_ ?_ _) | (with_reducible refine below_call ?_ ?_ (by assumption)) | go_size))
            have c23_number_0 : (w22.alloc (Obj.cells #[.int .i64 kn, .int .i64 kd] 25)).cell? ⟨w22.heap.size, 0, none⟩ = some (.int .i64 kn) := by go_simp
            have c23_number_1 : (w22.alloc (Obj.cells #[.int .i64 kn, .int .i64 kd] 25)).cell? ⟨w22.heap.size, 1, none⟩ = some (.int .i64 kd) := by go_simp
            have q_number : w22.heap.size < (w22.alloc (Obj.cells #[.int .i64 kn, .int .i64 kd] 25)).heap.size := by go_size
            generalize (w22.alloc (Obj.cells #[.int .i64 kn, .int .i64 kd] 25)) = w23 at *
            obtain ⟨hd23, -⟩ := bcell hb23
            have hz23 := hb23.size
            have c23_a_0 : w23.cell? ⟨w1.heap.size, 0, none⟩ = some (.int .i64 n0) := (hd23 _ _ q_a).trans c22_a_0
            have c23_a_1 : w23.cell? ⟨w1.heap.size, 1, none⟩ = some (.int .i64 d0) := (hd23 _ _ q_a).trans c22_a_1
            have c23_b_0 : w23.cell? ⟨w1.heap.size + 1, 0, none⟩ = some (.int .i64 n1) := (hd23 _ _ q_b).trans c22_b_0
            have c23_b_1 : w23.cell? ⟨w1.heap.size + 1, 1, none⟩ = some (.int .i64 d1) := (hd23 _ _ q_b).trans c22_b_1
            have c23_sum_0 : w23.cell? ⟨w2.heap.size, 0, none⟩ = some (.int .i64 sn) := (hd23 _ _ q_sum).trans c22_sum_0
            have c23_sum_1 : w23.cell? ⟨w2.heap.size, 1, none⟩ = some (.int .i64 sd) := (hd23 _ _ q_sum).trans c22_sum_1
            have c23_right_0 : w23.cell? ⟨w3.heap.size, 0, none⟩ = some (.int .i64 sn) := (hd23 _ _ q_right).trans c22_right_0
            have c23_right_1 : w23.cell? ⟨w3.heap.size, 1, none⟩ = some (.int .i64 sd) := (hd23 _ _ q_right).trans c22_right_1
            have c23_less_0 : w23.cell? ⟨w4.heap.size, 0, none⟩ = some (.int .i64 ln) := (hd23 _ _ q_less).trans c22_less_0
            have c23_less_1 : w23.cell? ⟨w4.heap.size, 1, none⟩ = some (.int .i64 ld) := (hd23 _ _ q_less).trans c22_less_1
            have c23_want_0 : w23.cell? ⟨w5.heap.size, 0, none⟩ = some (.int .i64 ln) := (hd23 _ _ q_want).trans c22_want_0
            have c23_want_1 : w23.cell? ⟨w5.heap.size, 1, none⟩ = some (.int .i64 ld) := (hd23 _ _ q_want).trans c22_want_1
            have c23_mirror_0 : w23.cell? ⟨w8.heap.size, 0, none⟩ = some (.int .i64 mn) := (hd23 _ _ q_mirror).trans c22_mirror_0
            have c23_mirror_1 : w23.cell? ⟨w8.heap.size, 1, none⟩ = some (.int .i64 md) := (hd23 _ _ q_mirror).trans c22_mirror_1
            have c23_value_0 : w23.cell? ⟨w9.heap.size, 0, none⟩ = some (.int .i64 mn) := (hd23 _ _ q_value).trans c22_value_0
            have c23_value_1 : w23.cell? ⟨w9.heap.size, 1, none⟩ = some (.int .i64 md) := (hd23 _ _ q_value).trans c22_value_1
            have c23_t_0 : w23.cell? ⟨w15.heap.size, 0, none⟩ = some (.int .i64 n2) := (hd23 _ _ q_t).trans c22_t_0
            have c23_t_1 : w23.cell? ⟨w15.heap.size, 1, none⟩ = some (.int .i64 d2) := (hd23 _ _ q_t).trans c22_t_1
            have c23_times_0 : w23.cell? ⟨w16.heap.size, 0, none⟩ = some (.int .i64 un) := (hd23 _ _ q_times).trans c22_times_0
            have c23_times_1 : w23.cell? ⟨w16.heap.size, 1, none⟩ = some (.int .i64 ud) := (hd23 _ _ q_times).trans c22_times_1
            have c23_due_0 : w23.cell? ⟨w17.heap.size, 0, none⟩ = some (.int .i64 un) := (hd23 _ _ q_due).trans c22_due_0
            have c23_due_1 : w23.cell? ⟨w17.heap.size, 1, none⟩ = some (.int .i64 ud) := (hd23 _ _ q_due).trans c22_due_1
            have c23_part_0 : w23.cell? ⟨w18.heap.size, 0, none⟩ = some (.int .i64 pn) := (hd23 _ _ q_part).trans c22_part_0
            have c23_part_1 : w23.cell? ⟨w18.heap.size, 1, none⟩ = some (.int .i64 pd) := (hd23 _ _ q_part).trans c22_part_1
            have c23_list_0 : w23.cell? ⟨w19.heap.size, 0, none⟩ = some (.int .i64 pn) := (hd23 _ _ q_list).trans c22_list_0
            have c23_list_1 : w23.cell? ⟨w19.heap.size, 1, none⟩ = some (.int .i64 pd) := (hd23 _ _ q_list).trans c22_list_1
            have c23_made_0 : w23.cell? ⟨w21.heap.size, 0, none⟩ = some (.int .i64 kn) := (hd23 _ _ q_made).trans c22_made_0
            have c23_made_1 : w23.cell? ⟨w21.heap.size, 1, none⟩ = some (.int .i64 kd) := (hd23 _ _ q_made).trans c22_made_1
            replace q_a : w1.heap.size < w23.heap.size := by omega
            replace q_b : w1.heap.size + 1 < w23.heap.size := by omega
            replace q_sum : w2.heap.size < w23.heap.size := by omega
            replace q_right : w3.heap.size < w23.heap.size := by omega
            replace q_less : w4.heap.size < w23.heap.size := by omega
            replace q_want : w5.heap.size < w23.heap.size := by omega
            replace q_mirror : w8.heap.size < w23.heap.size := by omega
            replace q_value : w9.heap.size < w23.heap.size := by omega
            replace q_t : w15.heap.size < w23.heap.size := by omega
            replace q_times : w16.heap.size < w23.heap.size := by omega
            replace q_due : w17.heap.size < w23.heap.size := by omega
            replace q_part : w18.heap.size < w23.heap.size := by omega
            replace q_list : w19.heap.size < w23.heap.size := by omega
            replace q_made : w21.heap.size < w23.heap.size := by omega
            have BW23 : Below w.heap.size w w23 := BW22.trans (hb23.mono BW22.size)
            clear hb23 hd23 c22_a_0 c22_a_1 c22_b_0 c22_b_1 c22_sum_0 c22_sum_1 c22_right_0 c22_right_1 c22_less_0 c22_less_1 c22_want_0 c22_want_1 c22_mirror_0 c22_mirror_1 c22_value_0 c22_value_1 c22_t_0 c22_t_1 c22_times_0 c22_times_1 c22_due_0 c22_due_1 c22_part_0 c22_part_1 c22_list_0 c22_list_1 c22_made_0 c22_made_1 BW22
            go_upto_if 339 with fail
            go_cut [] from 999 to 999 (fun wx => Below w23.heap.size w23 wx)
            case first =>
              as_aux_lemma =>
                cases po
                · go_wp2_with fail
                  go_meet
                  case rel => exact Below.refl _ _
                · obtain ⟨h1, ⟨v1, v2, v3⟩, v4, v5⟩ := FP2.out rfl
                  have Z1 := Lib.hid (fun W => (show Calls Try.prog 18 #[tv pn pd, .int .i64 a3] W fun e w' => e = .returned (rv (n2, d2, true)) ∧ Below W.heap.size W w' from by have := implTimesTurn_any pn pd a3 W; rw [h1] at this; exact this))
                  clear h1
                  go_wp2_with fail
                  refine (Z1.out _).mono ?_
                  rintro e24 w24 ⟨rfl, hb24⟩
                  obtain ⟨hc24, hf24⟩ := bcell hb24
                  have hz24 := hb24.size
                  (try simp only [World.size_alloc, World.size_setCell, World.size_drew] at hz24)
                  have B24 : Below w23.heap.size w23 w24 := Below.trans (b := _) (by (repeat' (first | (with_reducible exact Below.refl _ _) | (with_reducible assumption) | (with_reducible refine Below.alloc ?_ ?_ _) | (with_reducible refine Below.drew ?_) | (with_reducible refine below_drewN ?_ _) | (with_reducible refine Below.setCell ?_ ?_ _) | (with_reducible refine below_call ?_ ?_ (by assumption)) | go_size))) (hb24.mono (by first | omega | (simp only [World.size_alloc, World.size_setCell, World.size_drew]; omega)))
                  obtain ⟨hd24, -⟩ := bcell B24
                  have c24_a_0 : w24.cell? ⟨w1.heap.size, 0, none⟩ = some (.int .i64 n0) := (hd24 _ _ q_a).trans c23_a_0
                  have c24_a_1 : w24.cell? ⟨w1.heap.size, 1, none⟩ = some (.int .i64 d0) := (hd24 _ _ q_a).trans c23_a_1
                  have c24_b_0 : w24.cell? ⟨w1.heap.size + 1, 0, none⟩ = some (.int .i64 n1) := (hd24 _ _ q_b).trans c23_b_0
                  have c24_b_1 : w24.cell? ⟨w1.heap.size + 1, 1, none⟩ = some (.int .i64 d1) := (hd24 _ _ q_b).trans c23_b_1
                  have c24_sum_0 : w24.cell? ⟨w2.heap.size, 0, none⟩ = some (.int .i64 sn) := (hd24 _ _ q_sum).trans c23_sum_0
                  have c24_sum_1 : w24.cell? ⟨w2.heap.size, 1, none⟩ = some (.int .i64 sd) := (hd24 _ _ q_sum).trans c23_sum_1
                  have c24_right_0 : w24.cell? ⟨w3.heap.size, 0, none⟩ = some (.int .i64 sn) := (hd24 _ _ q_right).trans c23_right_0
                  have c24_right_1 : w24.cell? ⟨w3.heap.size, 1, none⟩ = some (.int .i64 sd) := (hd24 _ _ q_right).trans c23_right_1
                  have c24_less_0 : w24.cell? ⟨w4.heap.size, 0, none⟩ = some (.int .i64 ln) := (hd24 _ _ q_less).trans c23_less_0
                  have c24_less_1 : w24.cell? ⟨w4.heap.size, 1, none⟩ = some (.int .i64 ld) := (hd24 _ _ q_less).trans c23_less_1
                  have c24_want_0 : w24.cell? ⟨w5.heap.size, 0, none⟩ = some (.int .i64 ln) := (hd24 _ _ q_want).trans c23_want_0
                  have c24_want_1 : w24.cell? ⟨w5.heap.size, 1, none⟩ = some (.int .i64 ld) := (hd24 _ _ q_want).trans c23_want_1
                  have c24_mirror_0 : w24.cell? ⟨w8.heap.size, 0, none⟩ = some (.int .i64 mn) := (hd24 _ _ q_mirror).trans c23_mirror_0
                  have c24_mirror_1 : w24.cell? ⟨w8.heap.size, 1, none⟩ = some (.int .i64 md) := (hd24 _ _ q_mirror).trans c23_mirror_1
                  have c24_value_0 : w24.cell? ⟨w9.heap.size, 0, none⟩ = some (.int .i64 mn) := (hd24 _ _ q_value).trans c23_value_0
                  have c24_value_1 : w24.cell? ⟨w9.heap.size, 1, none⟩ = some (.int .i64 md) := (hd24 _ _ q_value).trans c23_value_1
                  have c24_t_0 : w24.cell? ⟨w15.heap.size, 0, none⟩ = some (.int .i64 n2) := (hd24 _ _ q_t).trans c23_t_0
                  have c24_t_1 : w24.cell? ⟨w15.heap.size, 1, none⟩ = some (.int .i64 d2) := (hd24 _ _ q_t).trans c23_t_1
                  have c24_times_0 : w24.cell? ⟨w16.heap.size, 0, none⟩ = some (.int .i64 un) := (hd24 _ _ q_times).trans c23_times_0
                  have c24_times_1 : w24.cell? ⟨w16.heap.size, 1, none⟩ = some (.int .i64 ud) := (hd24 _ _ q_times).trans c23_times_1
                  have c24_due_0 : w24.cell? ⟨w17.heap.size, 0, none⟩ = some (.int .i64 un) := (hd24 _ _ q_due).trans c23_due_0
                  have c24_due_1 : w24.cell? ⟨w17.heap.size, 1, none⟩ = some (.int .i64 ud) := (hd24 _ _ q_due).trans c23_due_1
                  have c24_part_0 : w24.cell? ⟨w18.heap.size, 0, none⟩ = some (.int .i64 pn) := (hd24 _ _ q_part).trans c23_part_0
                  have c24_part_1 : w24.cell? ⟨w18.heap.size, 1, none⟩ = some (.int .i64 pd) := (hd24 _ _ q_part).trans c23_part_1
                  have c24_list_0 : w24.cell? ⟨w19.heap.size, 0, none⟩ = some (.int .i64 pn) := (hd24 _ _ q_list).trans c23_list_0
                  have c24_list_1 : w24.cell? ⟨w19.heap.size, 1, none⟩ = some (.int .i64 pd) := (hd24 _ _ q_list).trans c23_list_1
                  have c24_made_0 : w24.cell? ⟨w21.heap.size, 0, none⟩ = some (.int .i64 kn) := (hd24 _ _ q_made).trans c23_made_0
                  have c24_made_1 : w24.cell? ⟨w21.heap.size, 1, none⟩ = some (.int .i64 kd) := (hd24 _ _ q_made).trans c23_made_1
                  have c24_number_0 : w24.cell? ⟨w22.heap.size, 0, none⟩ = some (.int .i64 kn) := (hd24 _ _ q_number).trans c23_number_0
                  have c24_number_1 : w24.cell? ⟨w22.heap.size, 1, none⟩ = some (.int .i64 kd) := (hd24 _ _ q_number).trans c23_number_1
                  replace q_a : w1.heap.size < w24.heap.size := by omega
                  replace q_b : w1.heap.size + 1 < w24.heap.size := by omega
                  replace q_sum : w2.heap.size < w24.heap.size := by omega
                  replace q_right : w3.heap.size < w24.heap.size := by omega
                  replace q_less : w4.heap.size < w24.heap.size := by omega
                  replace q_want : w5.heap.size < w24.heap.size := by omega
                  replace q_mirror : w8.heap.size < w24.heap.size := by omega
                  replace q_value : w9.heap.size < w24.heap.size := by omega
                  replace q_t : w15.heap.size < w24.heap.size := by omega
                  replace q_times : w16.heap.size < w24.heap.size := by omega
                  replace q_due : w17.heap.size < w24.heap.size := by omega
                  replace q_part : w18.heap.size < w24.heap.size := by omega
                  replace q_list : w19.heap.size < w24.heap.size := by omega
                  replace q_made : w21.heap.size < w24.heap.size := by omega
                  replace q_number : w22.heap.size < w24.heap.size := by omega
                  have BW24 : Below w.heap.size w w24 := BW23.trans (B24.mono BW23.size)
                  have BX24 : Below w23.heap.size w23 w24 := B24
                  clear hc24 hf24 hb24 hd24 B24 c23_a_0 c23_a_1 c23_b_0 c23_b_1 c23_sum_0 c23_sum_1 c23_right_0 c23_right_1 c23_less_0 c23_less_1 c23_want_0 c23_want_1 c23_mirror_0 c23_mirror_1 c23_value_0 c23_value_1 c23_t_0 c23_t_1 c23_times_0 c23_times_1 c23_due_0 c23_due_1 c23_part_0 c23_part_1 c23_list_0 c23_list_1 c23_made_0 c23_made_1 c23_number_0 c23_number_1 BW23
                  go_upto_region 40 with fail
                  have hb25 : Below w24.heap.size w24 (w24.alloc (Obj.cells #[.int .i64 n2, .int .i64 d2] 25)) := by (repeat' (first | (with_reducible exact Below.refl _ _) | (with_reducible assumption) | (with_reducible refine Below.alloc ?_ ?_ _) | (with_reducible refine Below.drew ?_) | (with_reducible refine below_drewN ?_ _) | (with_reducible refine Below.setCell ?_ ?_ _) | (with_reducible refine below_call ?_ ?_ (by assumption)) | go_size))
                  have c25_whole_0 : (w24.alloc (Obj.cells #[.int .i64 n2, .int .i64 d2] 25)).cell? ⟨w24.heap.size, 0, none⟩ = some (.int .i64 n2) := by go_simp
                  have c25_whole_1 : (w24.alloc (Obj.cells #[.int .i64 n2, .int .i64 d2] 25)).cell? ⟨w24.heap.size, 1, none⟩ = some (.int .i64 d2) := by go_simp
                  have q_whole : w24.heap.size < (w24.alloc (Obj.cells #[.int .i64 n2, .int .i64 d2] 25)).heap.size := by go_size
                  generalize (w24.alloc (Obj.cells #[.int .i64 n2, .int .i64 d2] 25)) = w25 at *
                  obtain ⟨hd25, -⟩ := bcell hb25
                  have hz25 := hb25.size
                  have c25_a_0 : w25.cell? ⟨w1.heap.size, 0, none⟩ = some (.int .i64 n0) := (hd25 _ _ q_a).trans c24_a_0
                  have c25_a_1 : w25.cell? ⟨w1.heap.size, 1, none⟩ = some (.int .i64 d0) := (hd25 _ _ q_a).trans c24_a_1
                  have c25_b_0 : w25.cell? ⟨w1.heap.size + 1, 0, none⟩ = some (.int .i64 n1) := (hd25 _ _ q_b).trans c24_b_0
                  have c25_b_1 : w25.cell? ⟨w1.heap.size + 1, 1, none⟩ = some (.int .i64 d1) := (hd25 _ _ q_b).trans c24_b_1
                  have c25_sum_0 : w25.cell? ⟨w2.heap.size, 0, none⟩ = some (.int .i64 sn) := (hd25 _ _ q_sum).trans c24_sum_0
                  have c25_sum_1 : w25.cell? ⟨w2.heap.size, 1, none⟩ = some (.int .i64 sd) := (hd25 _ _ q_sum).trans c24_sum_1
                  have c25_right_0 : w25.cell? ⟨w3.heap.size, 0, none⟩ = some (.int .i64 sn) := (hd25 _ _ q_right).trans c24_right_0
                  have c25_right_1 : w25.cell? ⟨w3.heap.size, 1, none⟩ = some (.int .i64 sd) := (hd25 _ _ q_right).trans c24_right_1
                  have c25_less_0 : w25.cell? ⟨w4.heap.size, 0, none⟩ = some (.int .i64 ln) := (hd25 _ _ q_less).trans c24_less_0
                  have c25_less_1 : w25.cell? ⟨w4.heap.size, 1, none⟩ = some (.int .i64 ld) := (hd25 _ _ q_less).trans c24_less_1
                  have c25_want_0 : w25.cell? ⟨w5.heap.size, 0, none⟩ = some (.int .i64 ln) := (hd25 _ _ q_want).trans c24_want_0
                  have c25_want_1 : w25.cell? ⟨w5.heap.size, 1, none⟩ = some (.int .i64 ld) := (hd25 _ _ q_want).trans c24_want_1
                  have c25_mirror_0 : w25.cell? ⟨w8.heap.size, 0, none⟩ = some (.int .i64 mn) := (hd25 _ _ q_mirror).trans c24_mirror_0
                  have c25_mirror_1 : w25.cell? ⟨w8.heap.size, 1, none⟩ = some (.int .i64 md) := (hd25 _ _ q_mirror).trans c24_mirror_1
                  have c25_value_0 : w25.cell? ⟨w9.heap.size, 0, none⟩ = some (.int .i64 mn) := (hd25 _ _ q_value).trans c24_value_0
                  have c25_value_1 : w25.cell? ⟨w9.heap.size, 1, none⟩ = some (.int .i64 md) := (hd25 _ _ q_value).trans c24_value_1
                  have c25_t_0 : w25.cell? ⟨w15.heap.size, 0, none⟩ = some (.int .i64 n2) := (hd25 _ _ q_t).trans c24_t_0
                  have c25_t_1 : w25.cell? ⟨w15.heap.size, 1, none⟩ = some (.int .i64 d2) := (hd25 _ _ q_t).trans c24_t_1
                  have c25_times_0 : w25.cell? ⟨w16.heap.size, 0, none⟩ = some (.int .i64 un) := (hd25 _ _ q_times).trans c24_times_0
                  have c25_times_1 : w25.cell? ⟨w16.heap.size, 1, none⟩ = some (.int .i64 ud) := (hd25 _ _ q_times).trans c24_times_1
                  have c25_due_0 : w25.cell? ⟨w17.heap.size, 0, none⟩ = some (.int .i64 un) := (hd25 _ _ q_due).trans c24_due_0
                  have c25_due_1 : w25.cell? ⟨w17.heap.size, 1, none⟩ = some (.int .i64 ud) := (hd25 _ _ q_due).trans c24_due_1
                  have c25_part_0 : w25.cell? ⟨w18.heap.size, 0, none⟩ = some (.int .i64 pn) := (hd25 _ _ q_part).trans c24_part_0
                  have c25_part_1 : w25.cell? ⟨w18.heap.size, 1, none⟩ = some (.int .i64 pd) := (hd25 _ _ q_part).trans c24_part_1
                  have c25_list_0 : w25.cell? ⟨w19.heap.size, 0, none⟩ = some (.int .i64 pn) := (hd25 _ _ q_list).trans c24_list_0
                  have c25_list_1 : w25.cell? ⟨w19.heap.size, 1, none⟩ = some (.int .i64 pd) := (hd25 _ _ q_list).trans c24_list_1
                  have c25_made_0 : w25.cell? ⟨w21.heap.size, 0, none⟩ = some (.int .i64 kn) := (hd25 _ _ q_made).trans c24_made_0
                  have c25_made_1 : w25.cell? ⟨w21.heap.size, 1, none⟩ = some (.int .i64 kd) := (hd25 _ _ q_made).trans c24_made_1
                  have c25_number_0 : w25.cell? ⟨w22.heap.size, 0, none⟩ = some (.int .i64 kn) := (hd25 _ _ q_number).trans c24_number_0
                  have c25_number_1 : w25.cell? ⟨w22.heap.size, 1, none⟩ = some (.int .i64 kd) := (hd25 _ _ q_number).trans c24_number_1
                  replace q_a : w1.heap.size < w25.heap.size := by omega
                  replace q_b : w1.heap.size + 1 < w25.heap.size := by omega
                  replace q_sum : w2.heap.size < w25.heap.size := by omega
                  replace q_right : w3.heap.size < w25.heap.size := by omega
                  replace q_less : w4.heap.size < w25.heap.size := by omega
                  replace q_want : w5.heap.size < w25.heap.size := by omega
                  replace q_mirror : w8.heap.size < w25.heap.size := by omega
                  replace q_value : w9.heap.size < w25.heap.size := by omega
                  replace q_t : w15.heap.size < w25.heap.size := by omega
                  replace q_times : w16.heap.size < w25.heap.size := by omega
                  replace q_due : w17.heap.size < w25.heap.size := by omega
                  replace q_part : w18.heap.size < w25.heap.size := by omega
                  replace q_list : w19.heap.size < w25.heap.size := by omega
                  replace q_made : w21.heap.size < w25.heap.size := by omega
                  replace q_number : w22.heap.size < w25.heap.size := by omega
                  have BW25 : Below w.heap.size w w25 := BW24.trans (hb25.mono BW24.size)
                  have BX25 : Below w23.heap.size w23 w25 := BX24.trans (hb25.mono BX24.size)
                  clear BX24
                  clear hb25 hd25 c24_a_0 c24_a_1 c24_b_0 c24_b_1 c24_sum_0 c24_sum_1 c24_right_0 c24_right_1 c24_less_0 c24_less_1 c24_want_0 c24_want_1 c24_mirror_0 c24_mirror_1 c24_value_0 c24_value_1 c24_t_0 c24_t_1 c24_times_0 c24_times_1 c24_due_0 c24_due_1 c24_part_0 c24_part_1 c24_list_0 c24_list_1 c24_made_0 c24_made_1 c24_number_0 c24_number_1 BW24
                  have hz0 : ¬ pd = 0 := by omega
                  have hq : (pn * a3).tdiv pd = 0 := Int.tdiv_eq_zero_of_lt v1 v2
                  have hge : ¬ pd * a3 ≤ pn * a3 := by omega
                  have hrelB := BX25
                  go_wp2_with fail
                  go_meet
                  case rel => exact hrelB
            case rest =>
              obtain ⟨w24, hw24⟩ : ∃ x : World, x = wc := ⟨_, rfl⟩
              subst hw24
              have hb24 := hcut
              obtain ⟨hc24, hf24⟩ := bcell hb24
              have hz24 := hb24.size
              (try simp only [World.size_alloc, World.size_setCell, World.size_drew] at hz24)
              have B24 : Below w23.heap.size w23 w24 := Below.trans (b := _) (by (repeat' (first | (with_reducible exact Below.refl _ _) | (with_reducible assumption) | (with_reducible refine Below.alloc ?_ ?_ _) | (with_reducible refine Below.drew ?_) | (with_reducible refine below_drewN ?_ _) | (with_reducible refine Below.setCell ?_ ?_ _) | (with_reducible refine below_call ?_ ?_ (by assumption)) | go_size))) (hb24.mono (by first | omega | (simp only [World.size_alloc, World.size_setCell, World.size_drew]; omega)))
              obtain ⟨hd24, -⟩ := bcell B24
              have c24_a_0 : w24.cell? ⟨w1.heap.size, 0, none⟩ = some (.int .i64 n0) := (hd24 _ _ q_a).trans c23_a_0
              have c24_a_1 : w24.cell? ⟨w1.heap.size, 1, none⟩ = some (.int .i64 d0) := (hd24 _ _ q_a).trans c23_a_1
              have c24_b_0 : w24.cell? ⟨w1.heap.size + 1, 0, none⟩ = some (.int .i64 n1) := (hd24 _ _ q_b).trans c23_b_0
              have c24_b_1 : w24.cell? ⟨w1.heap.size + 1, 1, none⟩ = some (.int .i64 d1) := (hd24 _ _ q_b).trans c23_b_1
              have c24_sum_0 : w24.cell? ⟨w2.heap.size, 0, none⟩ = some (.int .i64 sn) := (hd24 _ _ q_sum).trans c23_sum_0
              have c24_sum_1 : w24.cell? ⟨w2.heap.size, 1, none⟩ = some (.int .i64 sd) := (hd24 _ _ q_sum).trans c23_sum_1
              have c24_right_0 : w24.cell? ⟨w3.heap.size, 0, none⟩ = some (.int .i64 sn) := (hd24 _ _ q_right).trans c23_right_0
              have c24_right_1 : w24.cell? ⟨w3.heap.size, 1, none⟩ = some (.int .i64 sd) := (hd24 _ _ q_right).trans c23_right_1
              have c24_less_0 : w24.cell? ⟨w4.heap.size, 0, none⟩ = some (.int .i64 ln) := (hd24 _ _ q_less).trans c23_less_0
              have c24_less_1 : w24.cell? ⟨w4.heap.size, 1, none⟩ = some (.int .i64 ld) := (hd24 _ _ q_less).trans c23_less_1
              have c24_want_0 : w24.cell? ⟨w5.heap.size, 0, none⟩ = some (.int .i64 ln) := (hd24 _ _ q_want).trans c23_want_0
              have c24_want_1 : w24.cell? ⟨w5.heap.size, 1, none⟩ = some (.int .i64 ld) := (hd24 _ _ q_want).trans c23_want_1
              have c24_mirror_0 : w24.cell? ⟨w8.heap.size, 0, none⟩ = some (.int .i64 mn) := (hd24 _ _ q_mirror).trans c23_mirror_0
              have c24_mirror_1 : w24.cell? ⟨w8.heap.size, 1, none⟩ = some (.int .i64 md) := (hd24 _ _ q_mirror).trans c23_mirror_1
              have c24_value_0 : w24.cell? ⟨w9.heap.size, 0, none⟩ = some (.int .i64 mn) := (hd24 _ _ q_value).trans c23_value_0
              have c24_value_1 : w24.cell? ⟨w9.heap.size, 1, none⟩ = some (.int .i64 md) := (hd24 _ _ q_value).trans c23_value_1
              have c24_t_0 : w24.cell? ⟨w15.heap.size, 0, none⟩ = some (.int .i64 n2) := (hd24 _ _ q_t).trans c23_t_0
              have c24_t_1 : w24.cell? ⟨w15.heap.size, 1, none⟩ = some (.int .i64 d2) := (hd24 _ _ q_t).trans c23_t_1
              have c24_times_0 : w24.cell? ⟨w16.heap.size, 0, none⟩ = some (.int .i64 un) := (hd24 _ _ q_times).trans c23_times_0
              have c24_times_1 : w24.cell? ⟨w16.heap.size, 1, none⟩ = some (.int .i64 ud) := (hd24 _ _ q_times).trans c23_times_1
              have c24_due_0 : w24.cell? ⟨w17.heap.size, 0, none⟩ = some (.int .i64 un) := (hd24 _ _ q_due).trans c23_due_0
              have c24_due_1 : w24.cell? ⟨w17.heap.size, 1, none⟩ = some (.int .i64 ud) := (hd24 _ _ q_due).trans c23_due_1
              have c24_part_0 : w24.cell? ⟨w18.heap.size, 0, none⟩ = some (.int .i64 pn) := (hd24 _ _ q_part).trans c23_part_0
              have c24_part_1 : w24.cell? ⟨w18.heap.size, 1, none⟩ = some (.int .i64 pd) := (hd24 _ _ q_part).trans c23_part_1
              have c24_list_0 : w24.cell? ⟨w19.heap.size, 0, none⟩ = some (.int .i64 pn) := (hd24 _ _ q_list).trans c23_list_0
              have c24_list_1 : w24.cell? ⟨w19.heap.size, 1, none⟩ = some (.int .i64 pd) := (hd24 _ _ q_list).trans c23_list_1
              have c24_made_0 : w24.cell? ⟨w21.heap.size, 0, none⟩ = some (.int .i64 kn) := (hd24 _ _ q_made).trans c23_made_0
              have c24_made_1 : w24.cell? ⟨w21.heap.size, 1, none⟩ = some (.int .i64 kd) := (hd24 _ _ q_made).trans c23_made_1
              have c24_number_0 : w24.cell? ⟨w22.heap.size, 0, none⟩ = some (.int .i64 kn) := (hd24 _ _ q_number).trans c23_number_0
              have c24_number_1 : w24.cell? ⟨w22.heap.size, 1, none⟩ = some (.int .i64 kd) := (hd24 _ _ q_number).trans c23_number_1
              replace q_a : w1.heap.size < w24.heap.size := by omega
              replace q_b : w1.heap.size + 1 < w24.heap.size := by omega
              replace q_sum : w2.heap.size < w24.heap.size := by omega
              replace q_right : w3.heap.size < w24.heap.size := by omega
              replace q_less : w4.heap.size < w24.heap.size := by omega
              replace q_want : w5.heap.size < w24.heap.size := by omega
              replace q_mirror : w8.heap.size < w24.heap.size := by omega
              replace q_value : w9.heap.size < w24.heap.size := by omega
              replace q_t : w15.heap.size < w24.heap.size := by omega
              replace q_times : w16.heap.size < w24.heap.size := by omega
              replace q_due : w17.heap.size < w24.heap.size := by omega
              replace q_part : w18.heap.size < w24.heap.size := by omega
              replace q_list : w19.heap.size < w24.heap.size := by omega
              replace q_made : w21.heap.size < w24.heap.size := by omega
              replace q_number : w22.heap.size < w24.heap.size := by omega
              have BW24 : Below w.heap.size w w24 := BW23.trans (B24.mono BW23.size)
              clear hc24 hf24 hb24 hd24 B24 c23_a_0 c23_a_1 c23_b_0 c23_b_1 c23_sum_0 c23_sum_1 c23_right_0 c23_right_1 c23_less_0 c23_less_1 c23_want_0 c23_want_1 c23_mirror_0 c23_mirror_1 c23_value_0 c23_value_1 c23_t_0 c23_t_1 c23_times_0 c23_times_1 c23_due_0 c23_due_1 c23_part_0 c23_part_1 c23_list_0 c23_list_1 c23_made_0 c23_made_1 c23_number_0 c23_number_1 BW23
              go_upto_if 374 with fail
              go_cut [] from 999 to 999 (fun wx => Below w24.heap.size w24 wx)
              case first =>
                as_aux_lemma =>
                  cases ko
                  · go_wp2_with fail
                    go_meet
                    case rel => exact Below.refl _ _
                  · obtain ⟨g1, ⟨v1, v2⟩, ⟨v3, v4⟩, h1, ⟨v5, v6⟩, ⟨v7, v8⟩, ⟨v9, v10⟩, h2⟩ := FK2.out rfl
                    have hz0 : ¬ kd = 0 := by omega
                    have hz1 : ¬ a5 = 0 := by omega
                    obtain ⟨G, hG⟩ : ∃ G, a5.tdiv kd = G := ⟨_, rfl⟩
                    rw [hG] at v5 v6 v7 v8 h2
                    have w64' : ∀ n : Int, -9223372036854775808 ≤ n ∧ n ≤ 9223372036854775807 → IntKind.i64.wrap n = n := fun n h => by rw [IntKind.wrap_i64]; omega
                    have hw2 : IntKind.i64.wrap G = G := w64' G (by omega)
                    have hw3 : IntKind.i64.wrap (kn * G) = kn * G := w64' _ (by omega)
                    have hw4 : IntKind.i64.wrap (a4 - kn * G) = a4 - kn * G := w64' _ (by omega)
                    have hw0 : IntKind.i64.wrap 0 = 0 := w64' 0 (by omega)
                    clear w64'
                    go_wp2_with fail
                    refine wp_region_below (by kernel_rfl) (by kernel_rfl) ?_
                    (apply wpB_take (hw := rfl); (intro wq hq; obtain ⟨hcq, hfq⟩ := bcell hq; unfold atB; go_simp; exact ⟨rfl, rfl⟩); (rw [put_lit]; dsimp only [List.set]))
                    (apply wpB_take (hw := rfl); (intro wq hq; unfold atB; go_simp; exact ⟨rfl, isTurn_is kn kd g1 _⟩); (rw [put_lit]; dsimp only [List.set]))
                    (apply wpB_take (hw := rfl); (intro wq hq; obtain ⟨hcq, hfq⟩ := bcell hq; unfold atB; go_simp; exact ⟨rfl, rfl⟩); (rw [put_lit]; dsimp only [List.set]))
                    (apply wpB_take (hw := rfl); (intro wq hq; obtain ⟨hcq, hfq⟩ := bcell hq; unfold atB; go_simp; exact ⟨rfl, rfl⟩); (rw [put_lit]; dsimp only [List.set]))
                    (apply wpB_take (hw := rfl); (intro wq hq; obtain ⟨hcq, hfq⟩ := bcell hq; unfold atB; go_simp; exact ⟨rfl, rfl⟩); (rw [put_lit]; dsimp only [List.set]))
                    (apply wpB_take (hw := rfl); (intro wq hq; obtain ⟨hcq, hfq⟩ := bcell hq; unfold atB; go_simp; exact ⟨rfl, rfl⟩); (rw [put_lit]; dsimp only [List.set]))
                    (apply wpB_take (hw := rfl); (intro wq hq; obtain ⟨hcq, hfq⟩ := bcell hq; unfold atB; go_simp; exact ⟨rfl, rfl⟩); (rw [put_lit]; dsimp only [List.set]))
                    (apply wpB_take (hw := rfl); (intro wq hq; obtain ⟨hcq, hfq⟩ := bcell hq; unfold atB; go_simp; exact ⟨rfl, rfl⟩); (rw [put_lit]; dsimp only [List.set]))
                    (apply wpB_take (hw := rfl); (intro wq hq; obtain ⟨hcq, hfq⟩ := bcell hq; unfold atB; go_simp; exact ⟨rfl, rfl⟩); (rw [put_lit]; dsimp only [List.set]))
                    (apply wpB_take (hw := rfl); (intro wq hq; obtain ⟨hcq, hfq⟩ := bcell hq; unfold atB; go_simp; exact ⟨rfl, rfl⟩); (rw [put_lit]; dsimp only [List.set]))
                    (apply wpB_take (hw := rfl); (intro wq hq; obtain ⟨hcq, hfq⟩ := bcell hq; unfold atB; go_simp; exact ⟨rfl, rfl⟩); (rw [put_lit]; dsimp only [List.set]))
                    (apply wpB_take (hw := rfl); (intro wq hq; obtain ⟨hcq, hfq⟩ := bcell hq; unfold atB; go_simp; exact ⟨rfl, rfl⟩); (rw [put_lit]; dsimp only [List.set]))
                    (apply wpB_take (hw := rfl); (intro wq hq; obtain ⟨hcq, hfq⟩ := bcell hq; unfold atB; go_simp; exact ⟨rfl, rfl⟩); (rw [put_lit]; dsimp only [List.set]))
                    (apply wpB_take (hw := rfl); (intro wq hq; obtain ⟨hcq, hfq⟩ := bcell hq; unfold atB; go_simp; exact ⟨rfl, rfl⟩); (rw [put_lit]; dsimp only [List.set]))
                    (apply wpB_take (hw := rfl); (intro wq hq; obtain ⟨hcq, hfq⟩ := bcell hq; unfold atB; go_simp; exact ⟨rfl, rfl⟩); (rw [put_lit]; dsimp only [List.set]))
                    (apply wpB_take (hw := rfl); (intro wq hq; obtain ⟨hcq, hfq⟩ := bcell hq; unfold atB; go_simp; exact ⟨rfl, rfl⟩); (rw [put_lit]; dsimp only [List.set]))
                    (apply wpB_take (hw := rfl); (intro wq hq; obtain ⟨hcq, hfq⟩ := bcell hq; unfold atB; go_simp; exact ⟨rfl, rfl⟩); (rw [put_lit]; dsimp only [List.set]))
                    (apply wpB_take (hw := rfl); (intro wq hq; obtain ⟨hcq, hfq⟩ := bcell hq; unfold atB; go_simp; exact ⟨rfl, rfl⟩); (rw [put_lit]; dsimp only [List.set]))
                    (apply wpB_take (hw := rfl); (intro wq hq; obtain ⟨hcq, hfq⟩ := bcell hq; unfold atB; go_simp; exact ⟨rfl, rfl⟩); (rw [put_lit]; dsimp only [List.set]))
                    (apply wpB_take (hw := rfl); (intro wq hq; obtain ⟨hcq, hfq⟩ := bcell hq; unfold atB; go_simp; exact ⟨rfl, rfl⟩); (rw [put_lit]; dsimp only [List.set]))
                    (apply wpB_take (hw := rfl); (intro wq hq; obtain ⟨hcq, hfq⟩ := bcell hq; unfold atB; go_simp; exact ⟨rfl, rfl⟩); (rw [put_lit]; dsimp only [List.set]))
                    (apply wpB_take (hw := rfl); (intro wq hq; obtain ⟨hcq, hfq⟩ := bcell hq; unfold atB; go_simp; exact ⟨rfl, rfl⟩); (rw [put_lit]; dsimp only [List.set]))
                    (apply wpB_take (hw := rfl); (intro wq hq; obtain ⟨hcq, hfq⟩ := bcell hq; unfold atB; go_simp; exact ⟨rfl, rfl⟩); (rw [put_lit]; dsimp only [List.set]))
                    (apply wpB_take (hw := rfl); (intro wq hq; obtain ⟨hcq, hfq⟩ := bcell hq; unfold atB; go_simp; exact ⟨rfl, rfl⟩); (rw [put_lit]; dsimp only [List.set]))
                    refine fun wx hbx => ?_
                    have hrelB := hbx
                    go_wp2_with fail
                    go_meet
                    case rel => exact hrelB
              case rest =>
                obtain ⟨w25, hw25⟩ : ∃ x : World, x = wc := ⟨_, rfl⟩
                subst hw25
                have hb25 := hcut
                obtain ⟨hc25, hf25⟩ := bcell hb25
                have hz25 := hb25.size
                (try simp only [World.size_alloc, World.size_setCell, World.size_drew] at hz25)
                have B25 : Below w24.heap.size w24 w25 := Below.trans (b := _) (by (repeat' (first | (with_reducible exact Below.refl _ _) | (with_reducible assumption) | (with_reducible refine Below.alloc ?_ ?_ _) | (with_reducible refine Below.drew ?_) | (with_reducible refine below_drewN ?_ _) | (with_reducible refine Below.setCell ?_ ?_ _) | (with_reducible refine below_call ?_ ?_ (by assumption)) | go_size))) (hb25.mono (by first | omega | (simp only [World.size_alloc, World.size_setCell, World.size_drew]; omega)))
                obtain ⟨hd25, -⟩ := bcell B25
                have c25_a_0 : w25.cell? ⟨w1.heap.size, 0, none⟩ = some (.int .i64 n0) := (hd25 _ _ q_a).trans c24_a_0
                have c25_a_1 : w25.cell? ⟨w1.heap.size, 1, none⟩ = some (.int .i64 d0) := (hd25 _ _ q_a).trans c24_a_1
                have c25_b_0 : w25.cell? ⟨w1.heap.size + 1, 0, none⟩ = some (.int .i64 n1) := (hd25 _ _ q_b).trans c24_b_0
                have c25_b_1 : w25.cell? ⟨w1.heap.size + 1, 1, none⟩ = some (.int .i64 d1) := (hd25 _ _ q_b).trans c24_b_1
                have c25_sum_0 : w25.cell? ⟨w2.heap.size, 0, none⟩ = some (.int .i64 sn) := (hd25 _ _ q_sum).trans c24_sum_0
                have c25_sum_1 : w25.cell? ⟨w2.heap.size, 1, none⟩ = some (.int .i64 sd) := (hd25 _ _ q_sum).trans c24_sum_1
                have c25_right_0 : w25.cell? ⟨w3.heap.size, 0, none⟩ = some (.int .i64 sn) := (hd25 _ _ q_right).trans c24_right_0
                have c25_right_1 : w25.cell? ⟨w3.heap.size, 1, none⟩ = some (.int .i64 sd) := (hd25 _ _ q_right).trans c24_right_1
                have c25_less_0 : w25.cell? ⟨w4.heap.size, 0, none⟩ = some (.int .i64 ln) := (hd25 _ _ q_less).trans c24_less_0
                have c25_less_1 : w25.cell? ⟨w4.heap.size, 1, none⟩ = some (.int .i64 ld) := (hd25 _ _ q_less).trans c24_less_1
                have c25_want_0 : w25.cell? ⟨w5.heap.size, 0, none⟩ = some (.int .i64 ln) := (hd25 _ _ q_want).trans c24_want_0
                have c25_want_1 : w25.cell? ⟨w5.heap.size, 1, none⟩ = some (.int .i64 ld) := (hd25 _ _ q_want).trans c24_want_1
                have c25_mirror_0 : w25.cell? ⟨w8.heap.size, 0, none⟩ = some (.int .i64 mn) := (hd25 _ _ q_mirror).trans c24_mirror_0
                have c25_mirror_1 : w25.cell? ⟨w8.heap.size, 1, none⟩ = some (.int .i64 md) := (hd25 _ _ q_mirror).trans c24_mirror_1
                have c25_value_0 : w25.cell? ⟨w9.heap.size, 0, none⟩ = some (.int .i64 mn) := (hd25 _ _ q_value).trans c24_value_0
                have c25_value_1 : w25.cell? ⟨w9.heap.size, 1, none⟩ = some (.int .i64 md) := (hd25 _ _ q_value).trans c24_value_1
                have c25_t_0 : w25.cell? ⟨w15.heap.size, 0, none⟩ = some (.int .i64 n2) := (hd25 _ _ q_t).trans c24_t_0
                have c25_t_1 : w25.cell? ⟨w15.heap.size, 1, none⟩ = some (.int .i64 d2) := (hd25 _ _ q_t).trans c24_t_1
                have c25_times_0 : w25.cell? ⟨w16.heap.size, 0, none⟩ = some (.int .i64 un) := (hd25 _ _ q_times).trans c24_times_0
                have c25_times_1 : w25.cell? ⟨w16.heap.size, 1, none⟩ = some (.int .i64 ud) := (hd25 _ _ q_times).trans c24_times_1
                have c25_due_0 : w25.cell? ⟨w17.heap.size, 0, none⟩ = some (.int .i64 un) := (hd25 _ _ q_due).trans c24_due_0
                have c25_due_1 : w25.cell? ⟨w17.heap.size, 1, none⟩ = some (.int .i64 ud) := (hd25 _ _ q_due).trans c24_due_1
                have c25_part_0 : w25.cell? ⟨w18.heap.size, 0, none⟩ = some (.int .i64 pn) := (hd25 _ _ q_part).trans c24_part_0
                have c25_part_1 : w25.cell? ⟨w18.heap.size, 1, none⟩ = some (.int .i64 pd) := (hd25 _ _ q_part).trans c24_part_1
                have c25_list_0 : w25.cell? ⟨w19.heap.size, 0, none⟩ = some (.int .i64 pn) := (hd25 _ _ q_list).trans c24_list_0
                have c25_list_1 : w25.cell? ⟨w19.heap.size, 1, none⟩ = some (.int .i64 pd) := (hd25 _ _ q_list).trans c24_list_1
                have c25_made_0 : w25.cell? ⟨w21.heap.size, 0, none⟩ = some (.int .i64 kn) := (hd25 _ _ q_made).trans c24_made_0
                have c25_made_1 : w25.cell? ⟨w21.heap.size, 1, none⟩ = some (.int .i64 kd) := (hd25 _ _ q_made).trans c24_made_1
                have c25_number_0 : w25.cell? ⟨w22.heap.size, 0, none⟩ = some (.int .i64 kn) := (hd25 _ _ q_number).trans c24_number_0
                have c25_number_1 : w25.cell? ⟨w22.heap.size, 1, none⟩ = some (.int .i64 kd) := (hd25 _ _ q_number).trans c24_number_1
                replace q_a : w1.heap.size < w25.heap.size := by omega
                replace q_b : w1.heap.size + 1 < w25.heap.size := by omega
                replace q_sum : w2.heap.size < w25.heap.size := by omega
                replace q_right : w3.heap.size < w25.heap.size := by omega
                replace q_less : w4.heap.size < w25.heap.size := by omega
                replace q_want : w5.heap.size < w25.heap.size := by omega
                replace q_mirror : w8.heap.size < w25.heap.size := by omega
                replace q_value : w9.heap.size < w25.heap.size := by omega
                replace q_t : w15.heap.size < w25.heap.size := by omega
                replace q_times : w16.heap.size < w25.heap.size := by omega
                replace q_due : w17.heap.size < w25.heap.size := by omega
                replace q_part : w18.heap.size < w25.heap.size := by omega
                replace q_list : w19.heap.size < w25.heap.size := by omega
                replace q_made : w21.heap.size < w25.heap.size := by omega
                replace q_number : w22.heap.size < w25.heap.size := by omega
                have BW25 : Below w.heap.size w w25 := BW24.trans (B25.mono BW24.size)
                clear hc25 hf25 hb25 hd25 B25 c24_a_0 c24_a_1 c24_b_0 c24_b_1 c24_sum_0 c24_sum_1 c24_right_0 c24_right_1 c24_less_0 c24_less_1 c24_want_0 c24_want_1 c24_mirror_0 c24_mirror_1 c24_value_0 c24_value_1 c24_t_0 c24_t_1 c24_times_0 c24_times_1 c24_due_0 c24_due_1 c24_part_0 c24_part_1 c24_list_0 c24_list_1 c24_made_0 c24_made_1 c24_number_0 c24_number_1 BW24
                go_wp2
                go_ret
                exact ⟨rfl, BW25⟩
  · have HBG := Lib.hid hbg
    clear hbg
    (go_enter Try.func3, Try.ntmps3)
    go_wp2_with fail
    refine (big_is p1 p2 L1.length L2.length q1 q2 hm1 HBG.out _).mono ?_
    rintro e0 w0 ⟨rfl, rfl⟩
    go_wp2
    go_ret
    exact ⟨rfl, Below.refl _ _⟩

set_option maxRecDepth 100000 in
theorem lifted (os : Os) (started : os.Started) (H : Type) (enc : TypeId × Value → H) :
    ReturnsInHanded {} Try.checked os 3 .any (Rows.fnTurnsAddedSpec.pre6 enc Try.prog Try.f3 Rows.fnTurnsAddedRow.domain false) (Rows.fnTurnsAddedSpec.post enc Try.prog Try.f3 false true false false) := by
  refine returnsInHanded_of_change (C := Try.checked) Try.own started (by kernel_rfl) Try.func3
    (ChangeSpec.witness6 (enc := enc) (C := Try.checked) false ⟨#[], #[.slice none 0 0, .slice none 0 0], []⟩ 8 (by kernel_rfl) (by kernel_rfl) (by kernel_rfl) (by kernel_rfl)) ?_
  intro W base args ds gs before hval0 hW hcnd _
  have hval : ∀ (j : Nat) t v, Try.f3.params[j]? = some t → args[j]? = some v → Value.okWide Try.prog W .any base t v := hval0
  have hW' := hW
  obtain ⟨p, q, hA0, hV, rfl, hfz, hnd⟩ := hW
  have hA : DataW.TrodAll enc Try.prog W 0 (fun _ => true) true Try.f3.params.toList args.toList ds p := hA0
  rw [Try.params3] at hA hval
  obtain ⟨v0, vs0, d_0, ds0, p0, q0, hargs, rfl, rfl, h0, r0⟩ := trodAll_cons hA
  obtain ⟨v1, vs1, d_1, ds1, p1, q1, rfl, rfl, rfl, h1, r1⟩ := trodAll_cons r0
  obtain ⟨rfl, rfl, rfl⟩ := trodAll_nil r1
  obtain rfl : args = #[v0, v1] := by cases args; simp_all
  obtain ⟨rfl, rfl⟩ := trodVars_none hV
  have h0k := h0
  have h1k := h1
  obtain ⟨p1', q1', L1, rfl, hi1, hm1⟩ := open_bytes' (hval 0 22 v0 rfl rfl) h0
  obtain ⟨p2', q2', L2, rfl, hi2, hm2⟩ := open_bytes' (hval 1 22 v1 rfl rfl) h1
  clear hA0 hval0
  simp only [List.append_nil, List.nil_append] at hW'
  have hlt0 : ∀ y ∈ p0, y.block < W.heap.size := fun y hy => by simpa using hW'.lt y (by simp [hy])
  have hlt1 : ∀ y ∈ p1, y.block < W.heap.size := fun y hy => by simpa using hW'.lt y (by simp [hy])
  refine (walk W p1' p2' q1' q2' L1 L2 hi1 hi2 hm1 hm2).mono fun e W' ⟨he, bel⟩ => ?_
  subst he
  have harg0 : DataW.Trod enc Try.prog W' 0 (fun b => decide (b < W.heap.size)) true 22 (.slice p1' L1.length q1') d_0 p0 :=
    Below.trod Try.laidOut (by kernel_rfl) (of_decide_eq_true (by kernel_rfl)) h0k bel hlt0
  have harg1 : DataW.Trod enc Try.prog W' 0 (fun b => decide (b < W.heap.size)) true 22 (.slice p2' L2.length q2') d_1 p1 :=
    Below.trod Try.laidOut (by kernel_rfl) (of_decide_eq_true (by kernel_rfl)) h1k bel hlt1
  exact ⟨_, rfl, _, _, _, [], _, [], hW', trodAll_mk1 (shut_bool Try.underlying4 _), (trodAll_cons_mk harg0 (trodAll_cons_mk harg1 trodAll_mk0)), rfl, bel.frame _, fun h => by cases h⟩

theorem closed : joinedFacts Try.prog 3 Try.f3 Rows.fnTurnsAddedSpec Rows.fnTurnsAddedRow = true := by
  unfold joinedFacts
  rw [Try.fMake, Try.fEnter, Try.fLifts, Try.fMaps, Try.fLaid, Try.fHeard, Try.fKeys]
  kernel_rfl
theorem over : Rows.fnTurnsAddedRow.holds Try.pinned (OpenSpec.ofChange Rows.fnTurnsAddedSpec) :=
  OpenClaim.holds_of_wide 3 Try.f3 rfl rfl rfl rfl rfl rfl rfl ⟨rfl, rfl, rfl, rfl, rfl⟩ rfl rfl rfl rfl rfl (by kernel_rfl) Try.func3
    closed (of_decide_eq_true (by kernel_rfl)) (by unfold Func.isWrapper; first | (rw [if_pos (by decide +kernel)]; kernel_rfl) | (rw [if_neg (by decide +kernel)]; exact ⟨rfl, rfl⟩))
    (fun os started H enc _ => lifted os started H enc)

end Go.Proofs.Ytjdjomoeeecdkaa.fnTurnsAdded
namespace Go.Proofs.Ytjdjomoeeecdkaa
/-- The statement. -/
theorem fnTurnsAdded_proved : Rows.FnTurnsAddedSaid := fnTurnsAdded.over
#print axioms fnTurnsAdded_proved
end Go.Proofs.Ytjdjomoeeecdkaa