/- FnClocksDrift: called with any arguments, the law returns true, and its arguments read behind the call as before. Conditions: none but the row's own. -/
import Derived.Test.YthgghbehcammmaaFacts
import Derived.Test.YthgghbehcammmaaRowI
import Derived.Test.YthgghbehcammmaaRowD
import Derived.Test.YthgghbehcammmaaTa0
import Derived.Test.YthgghbehcammmaaTaE
import Derived.Test.YthgghbehcammmaaDrE
import Derived.Test.YthgghbehcammmaaDrL
import Derived.Test.YthgghbehcammmaaDrift7
import Derived.Test.YthgghbehcammmaaDrift9
import Derived.Test.YthgghbehcammmaaDrift11
import Derived.Test.YthgghbehcammmaaDrift11b
import Derived.Test.YthgghbehcammmaaDrift12
import Derived.Test.YthgghbehcammmaaDrift12b
import Derived.Test.YthgghbehcammmaaDrift13
import Derived.Test.YthgghbehcammmaaLate
import Derived.Test.YthgghbehcammmaaTCur
import Derived.Test.YthgghbehcammmaaDCur
import Derived.Test.YthgghbehcammmaaSBArg
import Derived.Deep.DeepCutAuto
set_option linter.unusedSimpArgs false
set_option linter.unusedVariables false
set_option maxRecDepth 100000
namespace Go.Proofs.Ythgghbehcammmaa.fnClocksDrift
open Go.ChangeShapes Go.WideShapes Go.ChangeAt Go.RowKit
attribute [local go_sem ↓] Go.wp_at_zero Go.wp_at_succ run_neq_same run_neq_turn run_eql_turn run_neq_sameSpan run_neq_span run_neq_sameClock

set_option maxHeartbeats 16000000 in
theorem walk (w : World) (p1 p2 : Option Addr) (q1 q2 : Nat) (L1 L2 : List Int) (hi1 : BIn w p1 L1) (hi2 : BIn w p2 L2) (hm1 : L1.length ≤ maxLen) (hm2 : L2.length ≤ maxLen) :
    Calls Try.prog 3 #[.slice p1 L1.length q1, .slice p2 L2.length q2] w fun e w' => e = .returned (.bool true) ∧ Below w.heap.size w w' := by
  have HB1 := Lib.hid hi1
  have HB2 := Lib.hid hi2
  clear hi1 hi2
  cases hbg : bigB L1.length L2.length
  · obtain ⟨hlen1, hlen2⟩ := bigB_no hbg
    have HBG := Lib.hid hbg
    clear hbg
    (go_enter Try.func3, Try.ntmps3)
    go_wp2_with fail
    refine (big_is p1 p2 L1.length L2.length q1 q2 hm1 HBG.out _).mono ?_
    rintro e0 w0 ⟨rfl, rfl⟩
    go_wp2_with fail
    refine (DrawShownAfter_any L1 p1 L1.length q1 rfl hlen1 _ HB1.out).mono ?_
    rintro e1 w1 ⟨n0, d0, x0, y0, n1, d1, rfl, ⟨⟨kn0, kd0, kx0, ky0⟩, kn1, kd1⟩, hb1⟩
    obtain ⟨hc1, hf1⟩ := bcell hb1
    have hz1 := hb1.size
    (try simp only [World.size_alloc, World.size_setCell, World.size_drew] at hz1)
    have B1 : Below w.heap.size w w1 := Below.trans (b := _) (by (repeat' (first | (with_reducible exact Below.refl _ _) | (with_reducible assumption) | (with_reducible refine Below.alloc ?_ ?_ _) | (with_reducible refine Below.drew ?_) | (with_reducible refine below_drewN ?_ _) | (with_reducible refine Below.setCell ?_ ?_ _) | (with_reducible refine below_call ?_ ?_ (by assumption)) | go_size))) (hb1.mono (by first | omega | (simp only [World.size_alloc, World.size_setCell, World.size_drew]; omega)))
    obtain ⟨hd1, -⟩ := bcell B1
    have BW1 : Below w.heap.size w w1 := B1
    clear hc1 hf1 hb1 hd1 B1 
    obtain ⟨un, ud, uo, hU⟩ : ∃ x y z, shownT n0 d0 x0 y0 n1 d1 0 = (x, y, z) := ⟨_, _, _, rfl⟩
    obtain ⟨gn, gd, go, hG⟩ : ∃ x y z, shownT n0 d0 x0 y0 n1 d1 1 = (x, y, z) := ⟨_, _, _, rfl⟩
    obtain ⟨zn, zd, zp, zq, zo, hZ⟩ : ∃ x y u v z, setS n0 d0 x0 y0 n1 d1 = (x, y, u, v, z) := ⟨_, _, _, _, _, rfl⟩
    obtain ⟨b1, hb1'⟩ : ∃ b, b = (uo && go) := ⟨_, rfl⟩
    have Hb1 := Lib.hid hb1'
    clear hb1'
    have C1 := Lib.hid (fun W => (show Calls Try.prog 7 #[cv n0 d0 x0 y0, tv n1 d1] W fun e w' => e = .returned (rv (un, ud, uo)) ∧ Below W.heap.size W w' from by have := implShownAfter_any n0 d0 x0 y0 n1 d1 W; rw [hU] at this; exact this))
    have C2 := Lib.hid (fun W => (show Calls Try.prog 8 #[cv n0 d0 x0 y0, tv n1 d1] W fun e w' => e = .returned (rv (un, ud, uo)) ∧ Below W.heap.size W w' from by have := specShownAfter_any n0 d0 x0 y0 n1 d1 kd0 W; rw [hU] at this; exact this))
    have C3 := Lib.hid (fun W => (show Calls Try.prog 9 #[cv n0 d0 x0 y0, tv n1 d1] W fun e w' => e = .returned (rv (gn, gd, go)) ∧ Below W.heap.size W w' from by have := implAheadAfter_any n0 d0 x0 y0 n1 d1 W; rw [hG] at this; exact this))
    have C4 := Lib.hid (fun W => (show Calls Try.prog 10 #[cv n0 d0 x0 y0, tv n1 d1] W fun e w' => e = .returned (rv (gn, gd, go)) ∧ Below W.heap.size W w' from by have := specAheadAfter_any n0 d0 x0 y0 n1 d1 kd0 W; rw [hG] at this; exact this))
    have C5 := Lib.hid (fun W => (show Calls Try.prog 11 #[cv n0 d0 x0 y0, tv n1 d1] W fun e w' => e = .returned (rc (zn, zd, zp, zq, zo)) ∧ Below W.heap.size W w' from by have := implSetRight_any n0 d0 x0 y0 n1 d1 W; rw [hZ] at this; exact this))
    have C6 := Lib.hid (fun W => (show Calls Try.prog 12 #[cv n0 d0 x0 y0, tv n1 d1] W fun e w' => e = .returned (rc (zn, zd, zp, zq, zo)) ∧ Below W.heap.size W w' from by have := specSetRight_any n0 d0 x0 y0 n1 d1 kd0 W; rw [hZ] at this; exact this))
    have G1 := Lib.hid (fun (e : uo = true) (e' : go = true) => drift_sum (by rw [hU, e] : shownT n0 d0 x0 y0 n1 d1 0 = (un, ud, true)) (by rw [hG, e'] : shownT n0 d0 x0 y0 n1 d1 1 = (gn, gd, true)))
    have G2 := Lib.hid (fun (e : zo = true) => set_none (by rw [hZ, e] : setS n0 d0 x0 y0 n1 d1 = (zn, zd, zp, zq, true)))
    clear hU hG hZ
    go_wp2_with fail
    refine (C1.out _).mono ?_
    rintro e2 w2 ⟨rfl, hb2⟩
    obtain ⟨hc2, hf2⟩ := bcell hb2
    have hz2 := hb2.size
    (try simp only [World.size_alloc, World.size_setCell, World.size_drew] at hz2)
    have B2 : Below w1.heap.size w1 w2 := Below.trans (b := _) (by (repeat' (first | (with_reducible exact Below.refl _ _) | (with_reducible assumption) | (with_reducible refine Below.alloc ?_ ?_ _) | (with_reducible refine Below.drew ?_) | (with_reducible refine below_drewN ?_ _) | (with_reducible refine Below.setCell ?_ ?_ _) | (with_reducible refine below_call ?_ ?_ (by assumption)) | go_size))) (hb2.mono (by first | omega | (simp only [World.size_alloc, World.size_setCell, World.size_drew]; omega)))
    obtain ⟨hd2, -⟩ := bcell B2
    have c2_c_0 : w2.cell? ⟨w1.heap.size, 0, none⟩ = some (.int .i64 n0) := (hc2 _ _ (by go_size)).trans (by go_simp)
    have c2_c_1 : w2.cell? ⟨w1.heap.size, 1, none⟩ = some (.int .i64 d0) := (hc2 _ _ (by go_size)).trans (by go_simp)
    have c2_c_2 : w2.cell? ⟨w1.heap.size, 2, none⟩ = some (.int .i64 x0) := (hc2 _ _ (by go_size)).trans (by go_simp)
    have c2_c_3 : w2.cell? ⟨w1.heap.size, 3, none⟩ = some (.int .i64 y0) := (hc2 _ _ (by go_size)).trans (by go_simp)
    have q_c : w1.heap.size < w2.heap.size := by omega
    have c2_s_0 : w2.cell? ⟨w1.heap.size + 1, 0, none⟩ = some (.int .i64 n1) := (hc2 _ _ (by go_size)).trans (by go_simp)
    have c2_s_1 : w2.cell? ⟨w1.heap.size + 1, 1, none⟩ = some (.int .i64 d1) := (hc2 _ _ (by go_size)).trans (by go_simp)
    have q_s : w1.heap.size + 1 < w2.heap.size := by omega
    have BW2 : Below w.heap.size w w2 := BW1.trans (B2.mono BW1.size)
    clear hc2 hf2 hb2 hd2 B2  BW1
    go_wp2_with fail
    refine (C2.out _).mono ?_
    rintro e3 w3 ⟨rfl, hb3⟩
    obtain ⟨hc3, hf3⟩ := bcell hb3
    have hz3 := hb3.size
    (try simp only [World.size_alloc, World.size_setCell, World.size_drew] at hz3)
    have B3 : Below w2.heap.size w2 w3 := Below.trans (b := _) (by (repeat' (first | (with_reducible exact Below.refl _ _) | (with_reducible assumption) | (with_reducible refine Below.alloc ?_ ?_ _) | (with_reducible refine Below.drew ?_) | (with_reducible refine below_drewN ?_ _) | (with_reducible refine Below.setCell ?_ ?_ _) | (with_reducible refine below_call ?_ ?_ (by assumption)) | go_size))) (hb3.mono (by first | omega | (simp only [World.size_alloc, World.size_setCell, World.size_drew]; omega)))
    obtain ⟨hd3, -⟩ := bcell B3
    have c3_c_0 : w3.cell? ⟨w1.heap.size, 0, none⟩ = some (.int .i64 n0) := (hd3 _ _ q_c).trans c2_c_0
    have c3_c_1 : w3.cell? ⟨w1.heap.size, 1, none⟩ = some (.int .i64 d0) := (hd3 _ _ q_c).trans c2_c_1
    have c3_c_2 : w3.cell? ⟨w1.heap.size, 2, none⟩ = some (.int .i64 x0) := (hd3 _ _ q_c).trans c2_c_2
    have c3_c_3 : w3.cell? ⟨w1.heap.size, 3, none⟩ = some (.int .i64 y0) := (hd3 _ _ q_c).trans c2_c_3
    have c3_s_0 : w3.cell? ⟨w1.heap.size + 1, 0, none⟩ = some (.int .i64 n1) := (hd3 _ _ q_s).trans c2_s_0
    have c3_s_1 : w3.cell? ⟨w1.heap.size + 1, 1, none⟩ = some (.int .i64 d1) := (hd3 _ _ q_s).trans c2_s_1
    replace q_c : w1.heap.size < w3.heap.size := by omega
    replace q_s : w1.heap.size + 1 < w3.heap.size := by omega
    have c3_shown_0 : w3.cell? ⟨w2.heap.size, 0, none⟩ = some (.int .i64 un) := (hc3 _ _ (by go_size)).trans (by go_simp)
    have c3_shown_1 : w3.cell? ⟨w2.heap.size, 1, none⟩ = some (.int .i64 ud) := (hc3 _ _ (by go_size)).trans (by go_simp)
    have q_shown : w2.heap.size < w3.heap.size := by omega
    have BW3 : Below w.heap.size w w3 := BW2.trans (B3.mono BW2.size)
    clear hc3 hf3 hb3 hd3 B3 c2_c_0 c2_c_1 c2_c_2 c2_c_3 c2_s_0 c2_s_1 BW2
    go_wp2_with fail
    refine (C3.out _).mono ?_
    rintro e4 w4 ⟨rfl, hb4⟩
    obtain ⟨hc4, hf4⟩ := bcell hb4
    have hz4 := hb4.size
    (try simp only [World.size_alloc, World.size_setCell, World.size_drew] at hz4)
    have B4 : Below w3.heap.size w3 w4 := Below.trans (b := _) (by (repeat' (first | (with_reducible exact Below.refl _ _) | (with_reducible assumption) | (with_reducible refine Below.alloc ?_ ?_ _) | (with_reducible refine Below.drew ?_) | (with_reducible refine below_drewN ?_ _) | (with_reducible refine Below.setCell ?_ ?_ _) | (with_reducible refine below_call ?_ ?_ (by assumption)) | go_size))) (hb4.mono (by first | omega | (simp only [World.size_alloc, World.size_setCell, World.size_drew]; omega)))
    obtain ⟨hd4, -⟩ := bcell B4
    have c4_c_0 : w4.cell? ⟨w1.heap.size, 0, none⟩ = some (.int .i64 n0) := (hd4 _ _ q_c).trans c3_c_0
    have c4_c_1 : w4.cell? ⟨w1.heap.size, 1, none⟩ = some (.int .i64 d0) := (hd4 _ _ q_c).trans c3_c_1
    have c4_c_2 : w4.cell? ⟨w1.heap.size, 2, none⟩ = some (.int .i64 x0) := (hd4 _ _ q_c).trans c3_c_2
    have c4_c_3 : w4.cell? ⟨w1.heap.size, 3, none⟩ = some (.int .i64 y0) := (hd4 _ _ q_c).trans c3_c_3
    have c4_s_0 : w4.cell? ⟨w1.heap.size + 1, 0, none⟩ = some (.int .i64 n1) := (hd4 _ _ q_s).trans c3_s_0
    have c4_s_1 : w4.cell? ⟨w1.heap.size + 1, 1, none⟩ = some (.int .i64 d1) := (hd4 _ _ q_s).trans c3_s_1
    have c4_shown_0 : w4.cell? ⟨w2.heap.size, 0, none⟩ = some (.int .i64 un) := (hd4 _ _ q_shown).trans c3_shown_0
    have c4_shown_1 : w4.cell? ⟨w2.heap.size, 1, none⟩ = some (.int .i64 ud) := (hd4 _ _ q_shown).trans c3_shown_1
    replace q_c : w1.heap.size < w4.heap.size := by omega
    replace q_s : w1.heap.size + 1 < w4.heap.size := by omega
    replace q_shown : w2.heap.size < w4.heap.size := by omega
    have c4_right_0 : w4.cell? ⟨w3.heap.size, 0, none⟩ = some (.int .i64 un) := (hc4 _ _ (by go_size)).trans (by go_simp)
    have c4_right_1 : w4.cell? ⟨w3.heap.size, 1, none⟩ = some (.int .i64 ud) := (hc4 _ _ (by go_size)).trans (by go_simp)
    have q_right : w3.heap.size < w4.heap.size := by omega
    have BW4 : Below w.heap.size w w4 := BW3.trans (B4.mono BW3.size)
    clear hc4 hf4 hb4 hd4 B4 c3_c_0 c3_c_1 c3_c_2 c3_c_3 c3_s_0 c3_s_1 c3_shown_0 c3_shown_1 BW3
    go_wp2_with fail
    refine (C4.out _).mono ?_
    rintro e5 w5 ⟨rfl, hb5⟩
    obtain ⟨hc5, hf5⟩ := bcell hb5
    have hz5 := hb5.size
    (try simp only [World.size_alloc, World.size_setCell, World.size_drew] at hz5)
    have B5 : Below w4.heap.size w4 w5 := Below.trans (b := _) (by (repeat' (first | (with_reducible exact Below.refl _ _) | (with_reducible assumption) | (with_reducible refine Below.alloc ?_ ?_ _) | (with_reducible refine Below.drew ?_) | (with_reducible refine below_drewN ?_ _) | (with_reducible refine Below.setCell ?_ ?_ _) | (with_reducible refine below_call ?_ ?_ (by assumption)) | go_size))) (hb5.mono (by first | omega | (simp only [World.size_alloc, World.size_setCell, World.size_drew]; omega)))
    obtain ⟨hd5, -⟩ := bcell B5
    have c5_c_0 : w5.cell? ⟨w1.heap.size, 0, none⟩ = some (.int .i64 n0) := (hd5 _ _ q_c).trans c4_c_0
    have c5_c_1 : w5.cell? ⟨w1.heap.size, 1, none⟩ = some (.int .i64 d0) := (hd5 _ _ q_c).trans c4_c_1
    have c5_c_2 : w5.cell? ⟨w1.heap.size, 2, none⟩ = some (.int .i64 x0) := (hd5 _ _ q_c).trans c4_c_2
    have c5_c_3 : w5.cell? ⟨w1.heap.size, 3, none⟩ = some (.int .i64 y0) := (hd5 _ _ q_c).trans c4_c_3
    have c5_s_0 : w5.cell? ⟨w1.heap.size + 1, 0, none⟩ = some (.int .i64 n1) := (hd5 _ _ q_s).trans c4_s_0
    have c5_s_1 : w5.cell? ⟨w1.heap.size + 1, 1, none⟩ = some (.int .i64 d1) := (hd5 _ _ q_s).trans c4_s_1
    have c5_shown_0 : w5.cell? ⟨w2.heap.size, 0, none⟩ = some (.int .i64 un) := (hd5 _ _ q_shown).trans c4_shown_0
    have c5_shown_1 : w5.cell? ⟨w2.heap.size, 1, none⟩ = some (.int .i64 ud) := (hd5 _ _ q_shown).trans c4_shown_1
    have c5_right_0 : w5.cell? ⟨w3.heap.size, 0, none⟩ = some (.int .i64 un) := (hd5 _ _ q_right).trans c4_right_0
    have c5_right_1 : w5.cell? ⟨w3.heap.size, 1, none⟩ = some (.int .i64 ud) := (hd5 _ _ q_right).trans c4_right_1
    replace q_c : w1.heap.size < w5.heap.size := by omega
    replace q_s : w1.heap.size + 1 < w5.heap.size := by omega
    replace q_shown : w2.heap.size < w5.heap.size := by omega
    replace q_right : w3.heap.size < w5.heap.size := by omega
    have c5_ahead_0 : w5.cell? ⟨w4.heap.size, 0, none⟩ = some (.int .i64 gn) := (hc5 _ _ (by go_size)).trans (by go_simp)
    have c5_ahead_1 : w5.cell? ⟨w4.heap.size, 1, none⟩ = some (.int .i64 gd) := (hc5 _ _ (by go_size)).trans (by go_simp)
    have q_ahead : w4.heap.size < w5.heap.size := by omega
    have BW5 : Below w.heap.size w w5 := BW4.trans (B5.mono BW4.size)
    clear hc5 hf5 hb5 hd5 B5 c4_c_0 c4_c_1 c4_c_2 c4_c_3 c4_s_0 c4_s_1 c4_shown_0 c4_shown_1 c4_right_0 c4_right_1 BW4
    go_wp2_with fail
    refine (C5.out _).mono ?_
    rintro e6 w6 ⟨rfl, hb6⟩
    obtain ⟨hc6, hf6⟩ := bcell hb6
    have hz6 := hb6.size
    (try simp only [World.size_alloc, World.size_setCell, World.size_drew] at hz6)
    have B6 : Below w5.heap.size w5 w6 := Below.trans (b := _) (by (repeat' (first | (with_reducible exact Below.refl _ _) | (with_reducible assumption) | (with_reducible refine Below.alloc ?_ ?_ _) | (with_reducible refine Below.drew ?_) | (with_reducible refine below_drewN ?_ _) | (with_reducible refine Below.setCell ?_ ?_ _) | (with_reducible refine below_call ?_ ?_ (by assumption)) | go_size))) (hb6.mono (by first | omega | (simp only [World.size_alloc, World.size_setCell, World.size_drew]; omega)))
    obtain ⟨hd6, -⟩ := bcell B6
    have c6_c_0 : w6.cell? ⟨w1.heap.size, 0, none⟩ = some (.int .i64 n0) := (hd6 _ _ q_c).trans c5_c_0
    have c6_c_1 : w6.cell? ⟨w1.heap.size, 1, none⟩ = some (.int .i64 d0) := (hd6 _ _ q_c).trans c5_c_1
    have c6_c_2 : w6.cell? ⟨w1.heap.size, 2, none⟩ = some (.int .i64 x0) := (hd6 _ _ q_c).trans c5_c_2
    have c6_c_3 : w6.cell? ⟨w1.heap.size, 3, none⟩ = some (.int .i64 y0) := (hd6 _ _ q_c).trans c5_c_3
    have c6_s_0 : w6.cell? ⟨w1.heap.size + 1, 0, none⟩ = some (.int .i64 n1) := (hd6 _ _ q_s).trans c5_s_0
    have c6_s_1 : w6.cell? ⟨w1.heap.size + 1, 1, none⟩ = some (.int .i64 d1) := (hd6 _ _ q_s).trans c5_s_1
    have c6_shown_0 : w6.cell? ⟨w2.heap.size, 0, none⟩ = some (.int .i64 un) := (hd6 _ _ q_shown).trans c5_shown_0
    have c6_shown_1 : w6.cell? ⟨w2.heap.size, 1, none⟩ = some (.int .i64 ud) := (hd6 _ _ q_shown).trans c5_shown_1
    have c6_right_0 : w6.cell? ⟨w3.heap.size, 0, none⟩ = some (.int .i64 un) := (hd6 _ _ q_right).trans c5_right_0
    have c6_right_1 : w6.cell? ⟨w3.heap.size, 1, none⟩ = some (.int .i64 ud) := (hd6 _ _ q_right).trans c5_right_1
    have c6_ahead_0 : w6.cell? ⟨w4.heap.size, 0, none⟩ = some (.int .i64 gn) := (hd6 _ _ q_ahead).trans c5_ahead_0
    have c6_ahead_1 : w6.cell? ⟨w4.heap.size, 1, none⟩ = some (.int .i64 gd) := (hd6 _ _ q_ahead).trans c5_ahead_1
    replace q_c : w1.heap.size < w6.heap.size := by omega
    replace q_s : w1.heap.size + 1 < w6.heap.size := by omega
    replace q_shown : w2.heap.size < w6.heap.size := by omega
    replace q_right : w3.heap.size < w6.heap.size := by omega
    replace q_ahead : w4.heap.size < w6.heap.size := by omega
    have c6_want_0 : w6.cell? ⟨w5.heap.size, 0, none⟩ = some (.int .i64 gn) := (hc6 _ _ (by go_size)).trans (by go_simp)
    have c6_want_1 : w6.cell? ⟨w5.heap.size, 1, none⟩ = some (.int .i64 gd) := (hc6 _ _ (by go_size)).trans (by go_simp)
    have q_want : w5.heap.size < w6.heap.size := by omega
    have BW6 : Below w.heap.size w w6 := BW5.trans (B6.mono BW5.size)
    clear hc6 hf6 hb6 hd6 B6 c5_c_0 c5_c_1 c5_c_2 c5_c_3 c5_s_0 c5_s_1 c5_shown_0 c5_shown_1 c5_right_0 c5_right_1 c5_ahead_0 c5_ahead_1 BW5
    go_wp2_with fail
    refine (C6.out _).mono ?_
    rintro e7 w7 ⟨rfl, hb7⟩
    obtain ⟨hc7, hf7⟩ := bcell hb7
    have hz7 := hb7.size
    (try simp only [World.size_alloc, World.size_setCell, World.size_drew] at hz7)
    have B7 : Below w6.heap.size w6 w7 := Below.trans (b := _) (by (repeat' (first | (with_reducible exact Below.refl _ _) | (with_reducible assumption) | (with_reducible refine Below.alloc ?_ ?_ _) | (with_reducible refine Below.drew ?_) | (with_reducible refine below_drewN ?_ _) | (with_reducible refine Below.setCell ?_ ?_ _) | (with_reducible refine below_call ?_ ?_ (by assumption)) | go_size))) (hb7.mono (by first | omega | (simp only [World.size_alloc, World.size_setCell, World.size_drew]; omega)))
    obtain ⟨hd7, -⟩ := bcell B7
    have c7_c_0 : w7.cell? ⟨w1.heap.size, 0, none⟩ = some (.int .i64 n0) := (hd7 _ _ q_c).trans c6_c_0
    have c7_c_1 : w7.cell? ⟨w1.heap.size, 1, none⟩ = some (.int .i64 d0) := (hd7 _ _ q_c).trans c6_c_1
    have c7_c_2 : w7.cell? ⟨w1.heap.size, 2, none⟩ = some (.int .i64 x0) := (hd7 _ _ q_c).trans c6_c_2
    have c7_c_3 : w7.cell? ⟨w1.heap.size, 3, none⟩ = some (.int .i64 y0) := (hd7 _ _ q_c).trans c6_c_3
    have c7_s_0 : w7.cell? ⟨w1.heap.size + 1, 0, none⟩ = some (.int .i64 n1) := (hd7 _ _ q_s).trans c6_s_0
    have c7_s_1 : w7.cell? ⟨w1.heap.size + 1, 1, none⟩ = some (.int .i64 d1) := (hd7 _ _ q_s).trans c6_s_1
    have c7_shown_0 : w7.cell? ⟨w2.heap.size, 0, none⟩ = some (.int .i64 un) := (hd7 _ _ q_shown).trans c6_shown_0
    have c7_shown_1 : w7.cell? ⟨w2.heap.size, 1, none⟩ = some (.int .i64 ud) := (hd7 _ _ q_shown).trans c6_shown_1
    have c7_right_0 : w7.cell? ⟨w3.heap.size, 0, none⟩ = some (.int .i64 un) := (hd7 _ _ q_right).trans c6_right_0
    have c7_right_1 : w7.cell? ⟨w3.heap.size, 1, none⟩ = some (.int .i64 ud) := (hd7 _ _ q_right).trans c6_right_1
    have c7_ahead_0 : w7.cell? ⟨w4.heap.size, 0, none⟩ = some (.int .i64 gn) := (hd7 _ _ q_ahead).trans c6_ahead_0
    have c7_ahead_1 : w7.cell? ⟨w4.heap.size, 1, none⟩ = some (.int .i64 gd) := (hd7 _ _ q_ahead).trans c6_ahead_1
    have c7_want_0 : w7.cell? ⟨w5.heap.size, 0, none⟩ = some (.int .i64 gn) := (hd7 _ _ q_want).trans c6_want_0
    have c7_want_1 : w7.cell? ⟨w5.heap.size, 1, none⟩ = some (.int .i64 gd) := (hd7 _ _ q_want).trans c6_want_1
    replace q_c : w1.heap.size < w7.heap.size := by omega
    replace q_s : w1.heap.size + 1 < w7.heap.size := by omega
    replace q_shown : w2.heap.size < w7.heap.size := by omega
    replace q_right : w3.heap.size < w7.heap.size := by omega
    replace q_ahead : w4.heap.size < w7.heap.size := by omega
    replace q_want : w5.heap.size < w7.heap.size := by omega
    have c7_set_0 : w7.cell? ⟨w6.heap.size, 0, none⟩ = some (.int .i64 zn) := (hc7 _ _ (by go_size)).trans (by go_simp)
    have c7_set_1 : w7.cell? ⟨w6.heap.size, 1, none⟩ = some (.int .i64 zd) := (hc7 _ _ (by go_size)).trans (by go_simp)
    have c7_set_2 : w7.cell? ⟨w6.heap.size, 2, none⟩ = some (.int .i64 zp) := (hc7 _ _ (by go_size)).trans (by go_simp)
    have c7_set_3 : w7.cell? ⟨w6.heap.size, 3, none⟩ = some (.int .i64 zq) := (hc7 _ _ (by go_size)).trans (by go_simp)
    have q_set : w6.heap.size < w7.heap.size := by omega
    have BW7 : Below w.heap.size w w7 := BW6.trans (B7.mono BW6.size)
    clear hc7 hf7 hb7 hd7 B7 c6_c_0 c6_c_1 c6_c_2 c6_c_3 c6_s_0 c6_s_1 c6_shown_0 c6_shown_1 c6_right_0 c6_right_1 c6_ahead_0 c6_ahead_1 c6_want_0 c6_want_1 BW6
    go_upto_region 12 with fail
    have hb8 : Below w7.heap.size w7 (w7.alloc (Obj.cells #[.int .i64 zn, .int .i64 zd, .int .i64 zp, .int .i64 zq] 27)) := by (repeat' (first | (with_reducible exact Below.refl _ _) | (with_reducible assumption) | (with_reducible refine Below.alloc ?_ ?_ _) | (with_reducible refine Below.drew ?_) | (with_reducible refine below_drewN ?_ _) | (with_reducible refine Below.setCell ?_ ?_ _) | (with_reducible refine below_call ?_ ?_ (by assumption)) | go_size))
    have c8_model_0 : (w7.alloc (Obj.cells #[.int .i64 zn, .int .i64 zd, .int .i64 zp, .int .i64 zq] 27)).cell? ⟨w7.heap.size, 0, none⟩ = some (.int .i64 zn) := by go_simp
    have c8_model_1 : (w7.alloc (Obj.cells #[.int .i64 zn, .int .i64 zd, .int .i64 zp, .int .i64 zq] 27)).cell? ⟨w7.heap.size, 1, none⟩ = some (.int .i64 zd) := by go_simp
    have c8_model_2 : (w7.alloc (Obj.cells #[.int .i64 zn, .int .i64 zd, .int .i64 zp, .int .i64 zq] 27)).cell? ⟨w7.heap.size, 2, none⟩ = some (.int .i64 zp) := by go_simp
    have c8_model_3 : (w7.alloc (Obj.cells #[.int .i64 zn, .int .i64 zd, .int .i64 zp, .int .i64 zq] 27)).cell? ⟨w7.heap.size, 3, none⟩ = some (.int .i64 zq) := by go_simp
    have q_model : w7.heap.size < (w7.alloc (Obj.cells #[.int .i64 zn, .int .i64 zd, .int .i64 zp, .int .i64 zq] 27)).heap.size := by go_size
    generalize (w7.alloc (Obj.cells #[.int .i64 zn, .int .i64 zd, .int .i64 zp, .int .i64 zq] 27)) = w8 at *
    obtain ⟨hd8, -⟩ := bcell hb8
    have hz8 := hb8.size
    have c8_c_0 : w8.cell? ⟨w1.heap.size, 0, none⟩ = some (.int .i64 n0) := (hd8 _ _ q_c).trans c7_c_0
    have c8_c_1 : w8.cell? ⟨w1.heap.size, 1, none⟩ = some (.int .i64 d0) := (hd8 _ _ q_c).trans c7_c_1
    have c8_c_2 : w8.cell? ⟨w1.heap.size, 2, none⟩ = some (.int .i64 x0) := (hd8 _ _ q_c).trans c7_c_2
    have c8_c_3 : w8.cell? ⟨w1.heap.size, 3, none⟩ = some (.int .i64 y0) := (hd8 _ _ q_c).trans c7_c_3
    have c8_s_0 : w8.cell? ⟨w1.heap.size + 1, 0, none⟩ = some (.int .i64 n1) := (hd8 _ _ q_s).trans c7_s_0
    have c8_s_1 : w8.cell? ⟨w1.heap.size + 1, 1, none⟩ = some (.int .i64 d1) := (hd8 _ _ q_s).trans c7_s_1
    have c8_shown_0 : w8.cell? ⟨w2.heap.size, 0, none⟩ = some (.int .i64 un) := (hd8 _ _ q_shown).trans c7_shown_0
    have c8_shown_1 : w8.cell? ⟨w2.heap.size, 1, none⟩ = some (.int .i64 ud) := (hd8 _ _ q_shown).trans c7_shown_1
    have c8_right_0 : w8.cell? ⟨w3.heap.size, 0, none⟩ = some (.int .i64 un) := (hd8 _ _ q_right).trans c7_right_0
    have c8_right_1 : w8.cell? ⟨w3.heap.size, 1, none⟩ = some (.int .i64 ud) := (hd8 _ _ q_right).trans c7_right_1
    have c8_ahead_0 : w8.cell? ⟨w4.heap.size, 0, none⟩ = some (.int .i64 gn) := (hd8 _ _ q_ahead).trans c7_ahead_0
    have c8_ahead_1 : w8.cell? ⟨w4.heap.size, 1, none⟩ = some (.int .i64 gd) := (hd8 _ _ q_ahead).trans c7_ahead_1
    have c8_want_0 : w8.cell? ⟨w5.heap.size, 0, none⟩ = some (.int .i64 gn) := (hd8 _ _ q_want).trans c7_want_0
    have c8_want_1 : w8.cell? ⟨w5.heap.size, 1, none⟩ = some (.int .i64 gd) := (hd8 _ _ q_want).trans c7_want_1
    have c8_set_0 : w8.cell? ⟨w6.heap.size, 0, none⟩ = some (.int .i64 zn) := (hd8 _ _ q_set).trans c7_set_0
    have c8_set_1 : w8.cell? ⟨w6.heap.size, 1, none⟩ = some (.int .i64 zd) := (hd8 _ _ q_set).trans c7_set_1
    have c8_set_2 : w8.cell? ⟨w6.heap.size, 2, none⟩ = some (.int .i64 zp) := (hd8 _ _ q_set).trans c7_set_2
    have c8_set_3 : w8.cell? ⟨w6.heap.size, 3, none⟩ = some (.int .i64 zq) := (hd8 _ _ q_set).trans c7_set_3
    replace q_c : w1.heap.size < w8.heap.size := by omega
    replace q_s : w1.heap.size + 1 < w8.heap.size := by omega
    replace q_shown : w2.heap.size < w8.heap.size := by omega
    replace q_right : w3.heap.size < w8.heap.size := by omega
    replace q_ahead : w4.heap.size < w8.heap.size := by omega
    replace q_want : w5.heap.size < w8.heap.size := by omega
    replace q_set : w6.heap.size < w8.heap.size := by omega
    have BW8 : Below w.heap.size w w8 := BW7.trans (hb8.mono BW7.size)
    clear hb8 hd8 c7_c_0 c7_c_1 c7_c_2 c7_c_3 c7_s_0 c7_s_1 c7_shown_0 c7_shown_1 c7_right_0 c7_right_1 c7_ahead_0 c7_ahead_1 c7_want_0 c7_want_1 c7_set_0 c7_set_1 c7_set_2 c7_set_3 BW7
    go_cut [123] from 999 to 999 (fun x wx => x = .bool b1 ∧ Below w8.heap.size w8 wx)
    case first =>
      as_aux_lemma =>
        have e := Hb1.out
        cases uo
        · simp only [Bool.false_and] at e
          subst e
          go_wp2_with fail
          go_meet
          case rel => exact ⟨rfl, Below.refl _ _⟩
        · simp only [Bool.true_and] at e
          subst e
          go_wp2_with fail
          go_meet
          case rel => exact ⟨rfl, Below.refl _ _⟩
    case rest =>
      obtain ⟨rfl, hb9⟩ := hcut
      obtain ⟨w9, hw9⟩ : ∃ x : World, x = wc := ⟨_, rfl⟩
      subst hw9
      obtain ⟨hc9, hf9⟩ := bcell hb9
      have hz9 := hb9.size
      (try simp only [World.size_alloc, World.size_setCell, World.size_drew] at hz9)
      have B9 : Below w8.heap.size w8 w9 := Below.trans (b := _) (by (repeat' (first | (with_reducible exact Below.refl _ _) | (with_reducible assumption) | (with_reducible refine Below.alloc ?_ ?_ _) | (with_reducible refine Below.drew ?_) | (with_reducible refine below_drewN ?_ _) | (with_reducible refine Below.setCell ?_ ?_ _) | (with_reducible refine below_call ?_ ?_ (by assumption)) | go_size))) (hb9.mono (by first | omega | (simp only [World.size_alloc, World.size_setCell, World.size_drew]; omega)))
      obtain ⟨hd9, -⟩ := bcell B9
      have c9_c_0 : w9.cell? ⟨w1.heap.size, 0, none⟩ = some (.int .i64 n0) := (hd9 _ _ q_c).trans c8_c_0
      have c9_c_1 : w9.cell? ⟨w1.heap.size, 1, none⟩ = some (.int .i64 d0) := (hd9 _ _ q_c).trans c8_c_1
      have c9_c_2 : w9.cell? ⟨w1.heap.size, 2, none⟩ = some (.int .i64 x0) := (hd9 _ _ q_c).trans c8_c_2
      have c9_c_3 : w9.cell? ⟨w1.heap.size, 3, none⟩ = some (.int .i64 y0) := (hd9 _ _ q_c).trans c8_c_3
      have c9_s_0 : w9.cell? ⟨w1.heap.size + 1, 0, none⟩ = some (.int .i64 n1) := (hd9 _ _ q_s).trans c8_s_0
      have c9_s_1 : w9.cell? ⟨w1.heap.size + 1, 1, none⟩ = some (.int .i64 d1) := (hd9 _ _ q_s).trans c8_s_1
      have c9_shown_0 : w9.cell? ⟨w2.heap.size, 0, none⟩ = some (.int .i64 un) := (hd9 _ _ q_shown).trans c8_shown_0
      have c9_shown_1 : w9.cell? ⟨w2.heap.size, 1, none⟩ = some (.int .i64 ud) := (hd9 _ _ q_shown).trans c8_shown_1
      have c9_right_0 : w9.cell? ⟨w3.heap.size, 0, none⟩ = some (.int .i64 un) := (hd9 _ _ q_right).trans c8_right_0
      have c9_right_1 : w9.cell? ⟨w3.heap.size, 1, none⟩ = some (.int .i64 ud) := (hd9 _ _ q_right).trans c8_right_1
      have c9_ahead_0 : w9.cell? ⟨w4.heap.size, 0, none⟩ = some (.int .i64 gn) := (hd9 _ _ q_ahead).trans c8_ahead_0
      have c9_ahead_1 : w9.cell? ⟨w4.heap.size, 1, none⟩ = some (.int .i64 gd) := (hd9 _ _ q_ahead).trans c8_ahead_1
      have c9_want_0 : w9.cell? ⟨w5.heap.size, 0, none⟩ = some (.int .i64 gn) := (hd9 _ _ q_want).trans c8_want_0
      have c9_want_1 : w9.cell? ⟨w5.heap.size, 1, none⟩ = some (.int .i64 gd) := (hd9 _ _ q_want).trans c8_want_1
      have c9_set_0 : w9.cell? ⟨w6.heap.size, 0, none⟩ = some (.int .i64 zn) := (hd9 _ _ q_set).trans c8_set_0
      have c9_set_1 : w9.cell? ⟨w6.heap.size, 1, none⟩ = some (.int .i64 zd) := (hd9 _ _ q_set).trans c8_set_1
      have c9_set_2 : w9.cell? ⟨w6.heap.size, 2, none⟩ = some (.int .i64 zp) := (hd9 _ _ q_set).trans c8_set_2
      have c9_set_3 : w9.cell? ⟨w6.heap.size, 3, none⟩ = some (.int .i64 zq) := (hd9 _ _ q_set).trans c8_set_3
      have c9_model_0 : w9.cell? ⟨w7.heap.size, 0, none⟩ = some (.int .i64 zn) := (hd9 _ _ q_model).trans c8_model_0
      have c9_model_1 : w9.cell? ⟨w7.heap.size, 1, none⟩ = some (.int .i64 zd) := (hd9 _ _ q_model).trans c8_model_1
      have c9_model_2 : w9.cell? ⟨w7.heap.size, 2, none⟩ = some (.int .i64 zp) := (hd9 _ _ q_model).trans c8_model_2
      have c9_model_3 : w9.cell? ⟨w7.heap.size, 3, none⟩ = some (.int .i64 zq) := (hd9 _ _ q_model).trans c8_model_3
      replace q_c : w1.heap.size < w9.heap.size := by omega
      replace q_s : w1.heap.size + 1 < w9.heap.size := by omega
      replace q_shown : w2.heap.size < w9.heap.size := by omega
      replace q_right : w3.heap.size < w9.heap.size := by omega
      replace q_ahead : w4.heap.size < w9.heap.size := by omega
      replace q_want : w5.heap.size < w9.heap.size := by omega
      replace q_set : w6.heap.size < w9.heap.size := by omega
      replace q_model : w7.heap.size < w9.heap.size := by omega
      have BW9 : Below w.heap.size w w9 := BW8.trans (B9.mono BW8.size)
      clear hc9 hf9 hb9 hd9 B9 c8_c_0 c8_c_1 c8_c_2 c8_c_3 c8_s_0 c8_s_1 c8_shown_0 c8_shown_1 c8_right_0 c8_right_1 c8_ahead_0 c8_ahead_1 c8_want_0 c8_want_1 c8_set_0 c8_set_1 c8_set_2 c8_set_3 c8_model_0 c8_model_1 c8_model_2 c8_model_3 BW8
      go_upto_if 123 with fail
      go_cut [] from 999 to 999 (fun wx => Below w9.heap.size w9 wx)
      case first =>
        as_aux_lemma =>
          cases b1
          · go_wp2_with fail
            go_meet
            case rel => exact Below.refl _ _
          · have e := Hb1.out.symm
            rw [Bool.and_eq_true] at e
            obtain ⟨rfl, rfl⟩ := e
            obtain ⟨h1, h2⟩ := G1.out rfl rfl
            have Z1 := Lib.hid (fun W => (show Calls Try.prog 13 #[.int .i64 n1, .int .i64 d1] W fun e w' => e = .returned (rv (lowNum n1 d1, lowDen n1 d1, true)) ∧ Below W.heap.size W w' from by have := implMakeTurn_any n1 d1 W; rw [h1] at this; exact this))
            have Z2 := Lib.hid (fun W => (show Calls Try.prog 14 #[tv (lowNum n1 d1) (lowDen n1 d1), tv gn gd] W fun e w' => e = .returned (rv (un, ud, true)) ∧ Below W.heap.size W w' from by have := implAddTurns_any (lowNum n1 d1) (lowDen n1 d1) gn gd W; rw [h2] at this; exact this))
            clear h1 h2
            generalize lowNum n1 d1 = ln at *
            generalize lowDen n1 d1 = ld at *
            go_wp2_with fail
            refine (Z1.out _).mono ?_
            rintro e10 w10 ⟨rfl, hb10⟩
            obtain ⟨hc10, hf10⟩ := bcell hb10
            have hz10 := hb10.size
            (try simp only [World.size_alloc, World.size_setCell, World.size_drew] at hz10)
            have B10 : Below w9.heap.size w9 w10 := Below.trans (b := _) (by (repeat' (first | (with_reducible exact Below.refl _ _) | (with_reducible assumption) | (with_reducible refine Below.alloc ?_ ?_ _) | (with_reducible refine Below.drew ?_) | (with_reducible refine below_drewN ?_ _) | (with_reducible refine Below.setCell ?_ ?_ _) | (with_reducible refine below_call ?_ ?_ (by assumption)) | go_size))) (hb10.mono (by first | omega | (simp only [World.size_alloc, World.size_setCell, World.size_drew]; omega)))
            obtain ⟨hd10, -⟩ := bcell B10
            have c10_c_0 : w10.cell? ⟨w1.heap.size, 0, none⟩ = some (.int .i64 n0) := (hd10 _ _ q_c).trans c9_c_0
            have c10_c_1 : w10.cell? ⟨w1.heap.size, 1, none⟩ = some (.int .i64 d0) := (hd10 _ _ q_c).trans c9_c_1
            have c10_c_2 : w10.cell? ⟨w1.heap.size, 2, none⟩ = some (.int .i64 x0) := (hd10 _ _ q_c).trans c9_c_2
            have c10_c_3 : w10.cell? ⟨w1.heap.size, 3, none⟩ = some (.int .i64 y0) := (hd10 _ _ q_c).trans c9_c_3
            have c10_s_0 : w10.cell? ⟨w1.heap.size + 1, 0, none⟩ = some (.int .i64 n1) := (hd10 _ _ q_s).trans c9_s_0
            have c10_s_1 : w10.cell? ⟨w1.heap.size + 1, 1, none⟩ = some (.int .i64 d1) := (hd10 _ _ q_s).trans c9_s_1
            have c10_shown_0 : w10.cell? ⟨w2.heap.size, 0, none⟩ = some (.int .i64 un) := (hd10 _ _ q_shown).trans c9_shown_0
            have c10_shown_1 : w10.cell? ⟨w2.heap.size, 1, none⟩ = some (.int .i64 ud) := (hd10 _ _ q_shown).trans c9_shown_1
            have c10_right_0 : w10.cell? ⟨w3.heap.size, 0, none⟩ = some (.int .i64 un) := (hd10 _ _ q_right).trans c9_right_0
            have c10_right_1 : w10.cell? ⟨w3.heap.size, 1, none⟩ = some (.int .i64 ud) := (hd10 _ _ q_right).trans c9_right_1
            have c10_ahead_0 : w10.cell? ⟨w4.heap.size, 0, none⟩ = some (.int .i64 gn) := (hd10 _ _ q_ahead).trans c9_ahead_0
            have c10_ahead_1 : w10.cell? ⟨w4.heap.size, 1, none⟩ = some (.int .i64 gd) := (hd10 _ _ q_ahead).trans c9_ahead_1
            have c10_want_0 : w10.cell? ⟨w5.heap.size, 0, none⟩ = some (.int .i64 gn) := (hd10 _ _ q_want).trans c9_want_0
            have c10_want_1 : w10.cell? ⟨w5.heap.size, 1, none⟩ = some (.int .i64 gd) := (hd10 _ _ q_want).trans c9_want_1
            have c10_set_0 : w10.cell? ⟨w6.heap.size, 0, none⟩ = some (.int .i64 zn) := (hd10 _ _ q_set).trans c9_set_0
            have c10_set_1 : w10.cell? ⟨w6.heap.size, 1, none⟩ = some (.int .i64 zd) := (hd10 _ _ q_set).trans c9_set_1
            have c10_set_2 : w10.cell? ⟨w6.heap.size, 2, none⟩ = some (.int .i64 zp) := (hd10 _ _ q_set).trans c9_set_2
            have c10_set_3 : w10.cell? ⟨w6.heap.size, 3, none⟩ = some (.int .i64 zq) := (hd10 _ _ q_set).trans c9_set_3
            have c10_model_0 : w10.cell? ⟨w7.heap.size, 0, none⟩ = some (.int .i64 zn) := (hd10 _ _ q_model).trans c9_model_0
            have c10_model_1 : w10.cell? ⟨w7.heap.size, 1, none⟩ = some (.int .i64 zd) := (hd10 _ _ q_model).trans c9_model_1
            have c10_model_2 : w10.cell? ⟨w7.heap.size, 2, none⟩ = some (.int .i64 zp) := (hd10 _ _ q_model).trans c9_model_2
            have c10_model_3 : w10.cell? ⟨w7.heap.size, 3, none⟩ = some (.int .i64 zq) := (hd10 _ _ q_model).trans c9_model_3
            replace q_c : w1.heap.size < w10.heap.size := by omega
            replace q_s : w1.heap.size + 1 < w10.heap.size := by omega
            replace q_shown : w2.heap.size < w10.heap.size := by omega
            replace q_right : w3.heap.size < w10.heap.size := by omega
            replace q_ahead : w4.heap.size < w10.heap.size := by omega
            replace q_want : w5.heap.size < w10.heap.size := by omega
            replace q_set : w6.heap.size < w10.heap.size := by omega
            replace q_model : w7.heap.size < w10.heap.size := by omega
            have BW10 : Below w.heap.size w w10 := BW9.trans (B10.mono BW9.size)
            have BX10 : Below w9.heap.size w9 w10 := B10
            clear hc10 hf10 hb10 hd10 B10 c9_c_0 c9_c_1 c9_c_2 c9_c_3 c9_s_0 c9_s_1 c9_shown_0 c9_shown_1 c9_right_0 c9_right_1 c9_ahead_0 c9_ahead_1 c9_want_0 c9_want_1 c9_set_0 c9_set_1 c9_set_2 c9_set_3 c9_model_0 c9_model_1 c9_model_2 c9_model_3 BW9
            go_wp2_with fail
            refine (Z2.out _).mono ?_
            rintro e11 w11 ⟨rfl, hb11⟩
            obtain ⟨hc11, hf11⟩ := bcell hb11
            have hz11 := hb11.size
            (try simp only [World.size_alloc, World.size_setCell, World.size_drew] at hz11)
            have B11 : Below w10.heap.size w10 w11 := Below.trans (b := _) (by (repeat' (first | (with_reducible exact Below.refl _ _) | (with_reducible assumption) | (with_reducible refine Below.alloc ?_ ?_ _) | (with_reducible refine Below.drew ?_) | (with_reducible refine below_drewN ?_ _) | (with_reducible refine Below.setCell ?_ ?_ _) | (with_reducible refine below_call ?_ ?_ (by assumption)) | go_size))) (hb11.mono (by first | omega | (simp only [World.size_alloc, World.size_setCell, World.size_drew]; omega)))
            obtain ⟨hd11, -⟩ := bcell B11
            have c11_c_0 : w11.cell? ⟨w1.heap.size, 0, none⟩ = some (.int .i64 n0) := (hd11 _ _ q_c).trans c10_c_0
            have c11_c_1 : w11.cell? ⟨w1.heap.size, 1, none⟩ = some (.int .i64 d0) := (hd11 _ _ q_c).trans c10_c_1
            have c11_c_2 : w11.cell? ⟨w1.heap.size, 2, none⟩ = some (.int .i64 x0) := (hd11 _ _ q_c).trans c10_c_2
            have c11_c_3 : w11.cell? ⟨w1.heap.size, 3, none⟩ = some (.int .i64 y0) := (hd11 _ _ q_c).trans c10_c_3
            have c11_s_0 : w11.cell? ⟨w1.heap.size + 1, 0, none⟩ = some (.int .i64 n1) := (hd11 _ _ q_s).trans c10_s_0
            have c11_s_1 : w11.cell? ⟨w1.heap.size + 1, 1, none⟩ = some (.int .i64 d1) := (hd11 _ _ q_s).trans c10_s_1
            have c11_shown_0 : w11.cell? ⟨w2.heap.size, 0, none⟩ = some (.int .i64 un) := (hd11 _ _ q_shown).trans c10_shown_0
            have c11_shown_1 : w11.cell? ⟨w2.heap.size, 1, none⟩ = some (.int .i64 ud) := (hd11 _ _ q_shown).trans c10_shown_1
            have c11_right_0 : w11.cell? ⟨w3.heap.size, 0, none⟩ = some (.int .i64 un) := (hd11 _ _ q_right).trans c10_right_0
            have c11_right_1 : w11.cell? ⟨w3.heap.size, 1, none⟩ = some (.int .i64 ud) := (hd11 _ _ q_right).trans c10_right_1
            have c11_ahead_0 : w11.cell? ⟨w4.heap.size, 0, none⟩ = some (.int .i64 gn) := (hd11 _ _ q_ahead).trans c10_ahead_0
            have c11_ahead_1 : w11.cell? ⟨w4.heap.size, 1, none⟩ = some (.int .i64 gd) := (hd11 _ _ q_ahead).trans c10_ahead_1
            have c11_want_0 : w11.cell? ⟨w5.heap.size, 0, none⟩ = some (.int .i64 gn) := (hd11 _ _ q_want).trans c10_want_0
            have c11_want_1 : w11.cell? ⟨w5.heap.size, 1, none⟩ = some (.int .i64 gd) := (hd11 _ _ q_want).trans c10_want_1
            have c11_set_0 : w11.cell? ⟨w6.heap.size, 0, none⟩ = some (.int .i64 zn) := (hd11 _ _ q_set).trans c10_set_0
            have c11_set_1 : w11.cell? ⟨w6.heap.size, 1, none⟩ = some (.int .i64 zd) := (hd11 _ _ q_set).trans c10_set_1
            have c11_set_2 : w11.cell? ⟨w6.heap.size, 2, none⟩ = some (.int .i64 zp) := (hd11 _ _ q_set).trans c10_set_2
            have c11_set_3 : w11.cell? ⟨w6.heap.size, 3, none⟩ = some (.int .i64 zq) := (hd11 _ _ q_set).trans c10_set_3
            have c11_model_0 : w11.cell? ⟨w7.heap.size, 0, none⟩ = some (.int .i64 zn) := (hd11 _ _ q_model).trans c10_model_0
            have c11_model_1 : w11.cell? ⟨w7.heap.size, 1, none⟩ = some (.int .i64 zd) := (hd11 _ _ q_model).trans c10_model_1
            have c11_model_2 : w11.cell? ⟨w7.heap.size, 2, none⟩ = some (.int .i64 zp) := (hd11 _ _ q_model).trans c10_model_2
            have c11_model_3 : w11.cell? ⟨w7.heap.size, 3, none⟩ = some (.int .i64 zq) := (hd11 _ _ q_model).trans c10_model_3
            replace q_c : w1.heap.size < w11.heap.size := by omega
            replace q_s : w1.heap.size + 1 < w11.heap.size := by omega
            replace q_shown : w2.heap.size < w11.heap.size := by omega
            replace q_right : w3.heap.size < w11.heap.size := by omega
            replace q_ahead : w4.heap.size < w11.heap.size := by omega
            replace q_want : w5.heap.size < w11.heap.size := by omega
            replace q_set : w6.heap.size < w11.heap.size := by omega
            replace q_model : w7.heap.size < w11.heap.size := by omega
            have c11_truly_0 : w11.cell? ⟨w10.heap.size, 0, none⟩ = some (.int .i64 ln) := (hc11 _ _ (by go_size)).trans (by go_simp)
            have c11_truly_1 : w11.cell? ⟨w10.heap.size, 1, none⟩ = some (.int .i64 ld) := (hc11 _ _ (by go_size)).trans (by go_simp)
            have q_truly : w10.heap.size < w11.heap.size := by omega
            have BW11 : Below w.heap.size w w11 := BW10.trans (B11.mono BW10.size)
            have BX11 : Below w9.heap.size w9 w11 := BX10.trans (B11.mono BX10.size)
            clear BX10
            clear hc11 hf11 hb11 hd11 B11 c10_c_0 c10_c_1 c10_c_2 c10_c_3 c10_s_0 c10_s_1 c10_shown_0 c10_shown_1 c10_right_0 c10_right_1 c10_ahead_0 c10_ahead_1 c10_want_0 c10_want_1 c10_set_0 c10_set_1 c10_set_2 c10_set_3 c10_model_0 c10_model_1 c10_model_2 c10_model_3 BW10
            go_upto_region 15 with fail
            have hb12 : Below w11.heap.size w11 (w11.alloc (Obj.cells #[.int .i64 un, .int .i64 ud] 25)) := by (repeat' (first | (with_reducible exact Below.refl _ _) | (with_reducible assumption) | (with_reducible refine Below.alloc ?_ ?_ _) | (with_reducible refine Below.drew ?_) | (with_reducible refine below_drewN ?_ _) | (with_reducible refine Below.setCell ?_ ?_ _) | (with_reducible refine below_call ?_ ?_ (by assumption)) | go_size))
            have c12_sum_0 : (w11.alloc (Obj.cells #[.int .i64 un, .int .i64 ud] 25)).cell? ⟨w11.heap.size, 0, none⟩ = some (.int .i64 un) := by go_simp
            have c12_sum_1 : (w11.alloc (Obj.cells #[.int .i64 un, .int .i64 ud] 25)).cell? ⟨w11.heap.size, 1, none⟩ = some (.int .i64 ud) := by go_simp
            have q_sum : w11.heap.size < (w11.alloc (Obj.cells #[.int .i64 un, .int .i64 ud] 25)).heap.size := by go_size
            generalize (w11.alloc (Obj.cells #[.int .i64 un, .int .i64 ud] 25)) = w12 at *
            obtain ⟨hd12, -⟩ := bcell hb12
            have hz12 := hb12.size
            have c12_c_0 : w12.cell? ⟨w1.heap.size, 0, none⟩ = some (.int .i64 n0) := (hd12 _ _ q_c).trans c11_c_0
            have c12_c_1 : w12.cell? ⟨w1.heap.size, 1, none⟩ = some (.int .i64 d0) := (hd12 _ _ q_c).trans c11_c_1
            have c12_c_2 : w12.cell? ⟨w1.heap.size, 2, none⟩ = some (.int .i64 x0) := (hd12 _ _ q_c).trans c11_c_2
            have c12_c_3 : w12.cell? ⟨w1.heap.size, 3, none⟩ = some (.int .i64 y0) := (hd12 _ _ q_c).trans c11_c_3
            have c12_s_0 : w12.cell? ⟨w1.heap.size + 1, 0, none⟩ = some (.int .i64 n1) := (hd12 _ _ q_s).trans c11_s_0
            have c12_s_1 : w12.cell? ⟨w1.heap.size + 1, 1, none⟩ = some (.int .i64 d1) := (hd12 _ _ q_s).trans c11_s_1
            have c12_shown_0 : w12.cell? ⟨w2.heap.size, 0, none⟩ = some (.int .i64 un) := (hd12 _ _ q_shown).trans c11_shown_0
            have c12_shown_1 : w12.cell? ⟨w2.heap.size, 1, none⟩ = some (.int .i64 ud) := (hd12 _ _ q_shown).trans c11_shown_1
            have c12_right_0 : w12.cell? ⟨w3.heap.size, 0, none⟩ = some (.int .i64 un) := (hd12 _ _ q_right).trans c11_right_0
            have c12_right_1 : w12.cell? ⟨w3.heap.size, 1, none⟩ = some (.int .i64 ud) := (hd12 _ _ q_right).trans c11_right_1
            have c12_ahead_0 : w12.cell? ⟨w4.heap.size, 0, none⟩ = some (.int .i64 gn) := (hd12 _ _ q_ahead).trans c11_ahead_0
            have c12_ahead_1 : w12.cell? ⟨w4.heap.size, 1, none⟩ = some (.int .i64 gd) := (hd12 _ _ q_ahead).trans c11_ahead_1
            have c12_want_0 : w12.cell? ⟨w5.heap.size, 0, none⟩ = some (.int .i64 gn) := (hd12 _ _ q_want).trans c11_want_0
            have c12_want_1 : w12.cell? ⟨w5.heap.size, 1, none⟩ = some (.int .i64 gd) := (hd12 _ _ q_want).trans c11_want_1
            have c12_set_0 : w12.cell? ⟨w6.heap.size, 0, none⟩ = some (.int .i64 zn) := (hd12 _ _ q_set).trans c11_set_0
            have c12_set_1 : w12.cell? ⟨w6.heap.size, 1, none⟩ = some (.int .i64 zd) := (hd12 _ _ q_set).trans c11_set_1
            have c12_set_2 : w12.cell? ⟨w6.heap.size, 2, none⟩ = some (.int .i64 zp) := (hd12 _ _ q_set).trans c11_set_2
            have c12_set_3 : w12.cell? ⟨w6.heap.size, 3, none⟩ = some (.int .i64 zq) := (hd12 _ _ q_set).trans c11_set_3
            have c12_model_0 : w12.cell? ⟨w7.heap.size, 0, none⟩ = some (.int .i64 zn) := (hd12 _ _ q_model).trans c11_model_0
            have c12_model_1 : w12.cell? ⟨w7.heap.size, 1, none⟩ = some (.int .i64 zd) := (hd12 _ _ q_model).trans c11_model_1
            have c12_model_2 : w12.cell? ⟨w7.heap.size, 2, none⟩ = some (.int .i64 zp) := (hd12 _ _ q_model).trans c11_model_2
            have c12_model_3 : w12.cell? ⟨w7.heap.size, 3, none⟩ = some (.int .i64 zq) := (hd12 _ _ q_model).trans c11_model_3
            have c12_truly_0 : w12.cell? ⟨w10.heap.size, 0, none⟩ = some (.int .i64 ln) := (hd12 _ _ q_truly).trans c11_truly_0
            have c12_truly_1 : w12.cell? ⟨w10.heap.size, 1, none⟩ = some (.int .i64 ld) := (hd12 _ _ q_truly).trans c11_truly_1
            replace q_c : w1.heap.size < w12.heap.size := by omega
            replace q_s : w1.heap.size + 1 < w12.heap.size := by omega
            replace q_shown : w2.heap.size < w12.heap.size := by omega
            replace q_right : w3.heap.size < w12.heap.size := by omega
            replace q_ahead : w4.heap.size < w12.heap.size := by omega
            replace q_want : w5.heap.size < w12.heap.size := by omega
            replace q_set : w6.heap.size < w12.heap.size := by omega
            replace q_model : w7.heap.size < w12.heap.size := by omega
            replace q_truly : w10.heap.size < w12.heap.size := by omega
            have BW12 : Below w.heap.size w w12 := BW11.trans (hb12.mono BW11.size)
            have BX12 : Below w9.heap.size w9 w12 := BX11.trans (hb12.mono BX11.size)
            clear BX11
            clear hb12 hd12 c11_c_0 c11_c_1 c11_c_2 c11_c_3 c11_s_0 c11_s_1 c11_shown_0 c11_shown_1 c11_right_0 c11_right_1 c11_ahead_0 c11_ahead_1 c11_want_0 c11_want_1 c11_set_0 c11_set_1 c11_set_2 c11_set_3 c11_model_0 c11_model_1 c11_model_2 c11_model_3 c11_truly_0 c11_truly_1 BW11
            have hrelB := BX12
            go_wp2_with fail
            go_meet
            case rel => exact hrelB
      case rest =>
        obtain ⟨w10, hw10⟩ : ∃ x : World, x = wc := ⟨_, rfl⟩
        subst hw10
        have hb10 := hcut
        obtain ⟨hc10, hf10⟩ := bcell hb10
        have hz10 := hb10.size
        (try simp only [World.size_alloc, World.size_setCell, World.size_drew] at hz10)
        have B10 : Below w9.heap.size w9 w10 := Below.trans (b := _) (by (repeat' (first | (with_reducible exact Below.refl _ _) | (with_reducible assumption) | (with_reducible refine Below.alloc ?_ ?_ _) | (with_reducible refine Below.drew ?_) | (with_reducible refine below_drewN ?_ _) | (with_reducible refine Below.setCell ?_ ?_ _) | (with_reducible refine below_call ?_ ?_ (by assumption)) | go_size))) (hb10.mono (by first | omega | (simp only [World.size_alloc, World.size_setCell, World.size_drew]; omega)))
        obtain ⟨hd10, -⟩ := bcell B10
        have c10_c_0 : w10.cell? ⟨w1.heap.size, 0, none⟩ = some (.int .i64 n0) := (hd10 _ _ q_c).trans c9_c_0
        have c10_c_1 : w10.cell? ⟨w1.heap.size, 1, none⟩ = some (.int .i64 d0) := (hd10 _ _ q_c).trans c9_c_1
        have c10_c_2 : w10.cell? ⟨w1.heap.size, 2, none⟩ = some (.int .i64 x0) := (hd10 _ _ q_c).trans c9_c_2
        have c10_c_3 : w10.cell? ⟨w1.heap.size, 3, none⟩ = some (.int .i64 y0) := (hd10 _ _ q_c).trans c9_c_3
        have c10_s_0 : w10.cell? ⟨w1.heap.size + 1, 0, none⟩ = some (.int .i64 n1) := (hd10 _ _ q_s).trans c9_s_0
        have c10_s_1 : w10.cell? ⟨w1.heap.size + 1, 1, none⟩ = some (.int .i64 d1) := (hd10 _ _ q_s).trans c9_s_1
        have c10_shown_0 : w10.cell? ⟨w2.heap.size, 0, none⟩ = some (.int .i64 un) := (hd10 _ _ q_shown).trans c9_shown_0
        have c10_shown_1 : w10.cell? ⟨w2.heap.size, 1, none⟩ = some (.int .i64 ud) := (hd10 _ _ q_shown).trans c9_shown_1
        have c10_right_0 : w10.cell? ⟨w3.heap.size, 0, none⟩ = some (.int .i64 un) := (hd10 _ _ q_right).trans c9_right_0
        have c10_right_1 : w10.cell? ⟨w3.heap.size, 1, none⟩ = some (.int .i64 ud) := (hd10 _ _ q_right).trans c9_right_1
        have c10_ahead_0 : w10.cell? ⟨w4.heap.size, 0, none⟩ = some (.int .i64 gn) := (hd10 _ _ q_ahead).trans c9_ahead_0
        have c10_ahead_1 : w10.cell? ⟨w4.heap.size, 1, none⟩ = some (.int .i64 gd) := (hd10 _ _ q_ahead).trans c9_ahead_1
        have c10_want_0 : w10.cell? ⟨w5.heap.size, 0, none⟩ = some (.int .i64 gn) := (hd10 _ _ q_want).trans c9_want_0
        have c10_want_1 : w10.cell? ⟨w5.heap.size, 1, none⟩ = some (.int .i64 gd) := (hd10 _ _ q_want).trans c9_want_1
        have c10_set_0 : w10.cell? ⟨w6.heap.size, 0, none⟩ = some (.int .i64 zn) := (hd10 _ _ q_set).trans c9_set_0
        have c10_set_1 : w10.cell? ⟨w6.heap.size, 1, none⟩ = some (.int .i64 zd) := (hd10 _ _ q_set).trans c9_set_1
        have c10_set_2 : w10.cell? ⟨w6.heap.size, 2, none⟩ = some (.int .i64 zp) := (hd10 _ _ q_set).trans c9_set_2
        have c10_set_3 : w10.cell? ⟨w6.heap.size, 3, none⟩ = some (.int .i64 zq) := (hd10 _ _ q_set).trans c9_set_3
        have c10_model_0 : w10.cell? ⟨w7.heap.size, 0, none⟩ = some (.int .i64 zn) := (hd10 _ _ q_model).trans c9_model_0
        have c10_model_1 : w10.cell? ⟨w7.heap.size, 1, none⟩ = some (.int .i64 zd) := (hd10 _ _ q_model).trans c9_model_1
        have c10_model_2 : w10.cell? ⟨w7.heap.size, 2, none⟩ = some (.int .i64 zp) := (hd10 _ _ q_model).trans c9_model_2
        have c10_model_3 : w10.cell? ⟨w7.heap.size, 3, none⟩ = some (.int .i64 zq) := (hd10 _ _ q_model).trans c9_model_3
        replace q_c : w1.heap.size < w10.heap.size := by omega
        replace q_s : w1.heap.size + 1 < w10.heap.size := by omega
        replace q_shown : w2.heap.size < w10.heap.size := by omega
        replace q_right : w3.heap.size < w10.heap.size := by omega
        replace q_ahead : w4.heap.size < w10.heap.size := by omega
        replace q_want : w5.heap.size < w10.heap.size := by omega
        replace q_set : w6.heap.size < w10.heap.size := by omega
        replace q_model : w7.heap.size < w10.heap.size := by omega
        have BW10 : Below w.heap.size w w10 := BW9.trans (B10.mono BW9.size)
        clear hc10 hf10 hb10 hd10 B10 c9_c_0 c9_c_1 c9_c_2 c9_c_3 c9_s_0 c9_s_1 c9_shown_0 c9_shown_1 c9_right_0 c9_right_1 c9_ahead_0 c9_ahead_1 c9_want_0 c9_want_1 c9_set_0 c9_set_1 c9_set_2 c9_set_3 c9_model_0 c9_model_1 c9_model_2 c9_model_3 BW9
        go_upto_if 148 with fail
        go_cut [] from 999 to 999 (fun wx => Below w10.heap.size w10 wx)
        case first =>
          as_aux_lemma =>
            cases zo
            · go_wp2_with fail
              go_meet
              case rel => exact Below.refl _ _
            · obtain ⟨⟨e1, e2⟩, h2⟩ := G2.out rfl
              replace e1 := e1.symm
              replace e2 := e2.symm
              subst e1
              subst e2
              have Z1 := Lib.hid (fun W => (show Calls Try.prog 9 #[cv zn zd x0 y0, tv n1 d1] W fun e w' => e = .returned (rv (0, 1, true)) ∧ Below W.heap.size W w' from by have := implAheadAfter_any zn zd x0 y0 n1 d1 W; rw [h2] at this; exact this))
              clear h2
              go_wp2_with fail
              refine (Z1.out _).mono ?_
              rintro e11 w11 ⟨rfl, hb11⟩
              obtain ⟨hc11, hf11⟩ := bcell hb11
              have hz11 := hb11.size
              (try simp only [World.size_alloc, World.size_setCell, World.size_drew] at hz11)
              have B11 : Below w10.heap.size w10 w11 := Below.trans (b := _) (by (repeat' (first | (with_reducible exact Below.refl _ _) | (with_reducible assumption) | (with_reducible refine Below.alloc ?_ ?_ _) | (with_reducible refine Below.drew ?_) | (with_reducible refine below_drewN ?_ _) | (with_reducible refine Below.setCell ?_ ?_ _) | (with_reducible refine below_call ?_ ?_ (by assumption)) | go_size))) (hb11.mono (by first | omega | (simp only [World.size_alloc, World.size_setCell, World.size_drew]; omega)))
              obtain ⟨hd11, -⟩ := bcell B11
              have c11_c_0 : w11.cell? ⟨w1.heap.size, 0, none⟩ = some (.int .i64 n0) := (hd11 _ _ q_c).trans c10_c_0
              have c11_c_1 : w11.cell? ⟨w1.heap.size, 1, none⟩ = some (.int .i64 d0) := (hd11 _ _ q_c).trans c10_c_1
              have c11_c_2 : w11.cell? ⟨w1.heap.size, 2, none⟩ = some (.int .i64 x0) := (hd11 _ _ q_c).trans c10_c_2
              have c11_c_3 : w11.cell? ⟨w1.heap.size, 3, none⟩ = some (.int .i64 y0) := (hd11 _ _ q_c).trans c10_c_3
              have c11_s_0 : w11.cell? ⟨w1.heap.size + 1, 0, none⟩ = some (.int .i64 n1) := (hd11 _ _ q_s).trans c10_s_0
              have c11_s_1 : w11.cell? ⟨w1.heap.size + 1, 1, none⟩ = some (.int .i64 d1) := (hd11 _ _ q_s).trans c10_s_1
              have c11_shown_0 : w11.cell? ⟨w2.heap.size, 0, none⟩ = some (.int .i64 un) := (hd11 _ _ q_shown).trans c10_shown_0
              have c11_shown_1 : w11.cell? ⟨w2.heap.size, 1, none⟩ = some (.int .i64 ud) := (hd11 _ _ q_shown).trans c10_shown_1
              have c11_right_0 : w11.cell? ⟨w3.heap.size, 0, none⟩ = some (.int .i64 un) := (hd11 _ _ q_right).trans c10_right_0
              have c11_right_1 : w11.cell? ⟨w3.heap.size, 1, none⟩ = some (.int .i64 ud) := (hd11 _ _ q_right).trans c10_right_1
              have c11_ahead_0 : w11.cell? ⟨w4.heap.size, 0, none⟩ = some (.int .i64 gn) := (hd11 _ _ q_ahead).trans c10_ahead_0
              have c11_ahead_1 : w11.cell? ⟨w4.heap.size, 1, none⟩ = some (.int .i64 gd) := (hd11 _ _ q_ahead).trans c10_ahead_1
              have c11_want_0 : w11.cell? ⟨w5.heap.size, 0, none⟩ = some (.int .i64 gn) := (hd11 _ _ q_want).trans c10_want_0
              have c11_want_1 : w11.cell? ⟨w5.heap.size, 1, none⟩ = some (.int .i64 gd) := (hd11 _ _ q_want).trans c10_want_1
              have c11_set_0 : w11.cell? ⟨w6.heap.size, 0, none⟩ = some (.int .i64 zn) := (hd11 _ _ q_set).trans c10_set_0
              have c11_set_1 : w11.cell? ⟨w6.heap.size, 1, none⟩ = some (.int .i64 zd) := (hd11 _ _ q_set).trans c10_set_1
              have c11_set_2 : w11.cell? ⟨w6.heap.size, 2, none⟩ = some (.int .i64 x0) := (hd11 _ _ q_set).trans c10_set_2
              have c11_set_3 : w11.cell? ⟨w6.heap.size, 3, none⟩ = some (.int .i64 y0) := (hd11 _ _ q_set).trans c10_set_3
              have c11_model_0 : w11.cell? ⟨w7.heap.size, 0, none⟩ = some (.int .i64 zn) := (hd11 _ _ q_model).trans c10_model_0
              have c11_model_1 : w11.cell? ⟨w7.heap.size, 1, none⟩ = some (.int .i64 zd) := (hd11 _ _ q_model).trans c10_model_1
              have c11_model_2 : w11.cell? ⟨w7.heap.size, 2, none⟩ = some (.int .i64 x0) := (hd11 _ _ q_model).trans c10_model_2
              have c11_model_3 : w11.cell? ⟨w7.heap.size, 3, none⟩ = some (.int .i64 y0) := (hd11 _ _ q_model).trans c10_model_3
              replace q_c : w1.heap.size < w11.heap.size := by omega
              replace q_s : w1.heap.size + 1 < w11.heap.size := by omega
              replace q_shown : w2.heap.size < w11.heap.size := by omega
              replace q_right : w3.heap.size < w11.heap.size := by omega
              replace q_ahead : w4.heap.size < w11.heap.size := by omega
              replace q_want : w5.heap.size < w11.heap.size := by omega
              replace q_set : w6.heap.size < w11.heap.size := by omega
              replace q_model : w7.heap.size < w11.heap.size := by omega
              have BW11 : Below w.heap.size w w11 := BW10.trans (B11.mono BW10.size)
              have BX11 : Below w10.heap.size w10 w11 := B11
              clear hc11 hf11 hb11 hd11 B11 c10_c_0 c10_c_1 c10_c_2 c10_c_3 c10_s_0 c10_s_1 c10_shown_0 c10_shown_1 c10_right_0 c10_right_1 c10_ahead_0 c10_ahead_1 c10_want_0 c10_want_1 c10_set_0 c10_set_1 c10_set_2 c10_set_3 c10_model_0 c10_model_1 c10_model_2 c10_model_3 BW10
              go_upto_region 19 with fail
              have hb12 : Below w11.heap.size w11 (w11.alloc (Obj.cells #[.int .i64 0, .int .i64 1] 25)) := by (repeat' (first | (with_reducible exact Below.refl _ _) | (with_reducible assumption) | (with_reducible refine Below.alloc ?_ ?_ _) | (with_reducible refine Below.drew ?_) | (with_reducible refine below_drewN ?_ _) | (with_reducible refine Below.setCell ?_ ?_ _) | (with_reducible refine below_call ?_ ?_ (by assumption)) | go_size))
              have c12_none1_0 : (w11.alloc (Obj.cells #[.int .i64 0, .int .i64 1] 25)).cell? ⟨w11.heap.size, 0, none⟩ = some (.int .i64 0) := by go_simp
              have c12_none1_1 : (w11.alloc (Obj.cells #[.int .i64 0, .int .i64 1] 25)).cell? ⟨w11.heap.size, 1, none⟩ = some (.int .i64 1) := by go_simp
              have q_none1 : w11.heap.size < (w11.alloc (Obj.cells #[.int .i64 0, .int .i64 1] 25)).heap.size := by go_size
              generalize (w11.alloc (Obj.cells #[.int .i64 0, .int .i64 1] 25)) = w12 at *
              obtain ⟨hd12, -⟩ := bcell hb12
              have hz12 := hb12.size
              have c12_c_0 : w12.cell? ⟨w1.heap.size, 0, none⟩ = some (.int .i64 n0) := (hd12 _ _ q_c).trans c11_c_0
              have c12_c_1 : w12.cell? ⟨w1.heap.size, 1, none⟩ = some (.int .i64 d0) := (hd12 _ _ q_c).trans c11_c_1
              have c12_c_2 : w12.cell? ⟨w1.heap.size, 2, none⟩ = some (.int .i64 x0) := (hd12 _ _ q_c).trans c11_c_2
              have c12_c_3 : w12.cell? ⟨w1.heap.size, 3, none⟩ = some (.int .i64 y0) := (hd12 _ _ q_c).trans c11_c_3
              have c12_s_0 : w12.cell? ⟨w1.heap.size + 1, 0, none⟩ = some (.int .i64 n1) := (hd12 _ _ q_s).trans c11_s_0
              have c12_s_1 : w12.cell? ⟨w1.heap.size + 1, 1, none⟩ = some (.int .i64 d1) := (hd12 _ _ q_s).trans c11_s_1
              have c12_shown_0 : w12.cell? ⟨w2.heap.size, 0, none⟩ = some (.int .i64 un) := (hd12 _ _ q_shown).trans c11_shown_0
              have c12_shown_1 : w12.cell? ⟨w2.heap.size, 1, none⟩ = some (.int .i64 ud) := (hd12 _ _ q_shown).trans c11_shown_1
              have c12_right_0 : w12.cell? ⟨w3.heap.size, 0, none⟩ = some (.int .i64 un) := (hd12 _ _ q_right).trans c11_right_0
              have c12_right_1 : w12.cell? ⟨w3.heap.size, 1, none⟩ = some (.int .i64 ud) := (hd12 _ _ q_right).trans c11_right_1
              have c12_ahead_0 : w12.cell? ⟨w4.heap.size, 0, none⟩ = some (.int .i64 gn) := (hd12 _ _ q_ahead).trans c11_ahead_0
              have c12_ahead_1 : w12.cell? ⟨w4.heap.size, 1, none⟩ = some (.int .i64 gd) := (hd12 _ _ q_ahead).trans c11_ahead_1
              have c12_want_0 : w12.cell? ⟨w5.heap.size, 0, none⟩ = some (.int .i64 gn) := (hd12 _ _ q_want).trans c11_want_0
              have c12_want_1 : w12.cell? ⟨w5.heap.size, 1, none⟩ = some (.int .i64 gd) := (hd12 _ _ q_want).trans c11_want_1
              have c12_set_0 : w12.cell? ⟨w6.heap.size, 0, none⟩ = some (.int .i64 zn) := (hd12 _ _ q_set).trans c11_set_0
              have c12_set_1 : w12.cell? ⟨w6.heap.size, 1, none⟩ = some (.int .i64 zd) := (hd12 _ _ q_set).trans c11_set_1
              have c12_set_2 : w12.cell? ⟨w6.heap.size, 2, none⟩ = some (.int .i64 x0) := (hd12 _ _ q_set).trans c11_set_2
              have c12_set_3 : w12.cell? ⟨w6.heap.size, 3, none⟩ = some (.int .i64 y0) := (hd12 _ _ q_set).trans c11_set_3
              have c12_model_0 : w12.cell? ⟨w7.heap.size, 0, none⟩ = some (.int .i64 zn) := (hd12 _ _ q_model).trans c11_model_0
              have c12_model_1 : w12.cell? ⟨w7.heap.size, 1, none⟩ = some (.int .i64 zd) := (hd12 _ _ q_model).trans c11_model_1
              have c12_model_2 : w12.cell? ⟨w7.heap.size, 2, none⟩ = some (.int .i64 x0) := (hd12 _ _ q_model).trans c11_model_2
              have c12_model_3 : w12.cell? ⟨w7.heap.size, 3, none⟩ = some (.int .i64 y0) := (hd12 _ _ q_model).trans c11_model_3
              replace q_c : w1.heap.size < w12.heap.size := by omega
              replace q_s : w1.heap.size + 1 < w12.heap.size := by omega
              replace q_shown : w2.heap.size < w12.heap.size := by omega
              replace q_right : w3.heap.size < w12.heap.size := by omega
              replace q_ahead : w4.heap.size < w12.heap.size := by omega
              replace q_want : w5.heap.size < w12.heap.size := by omega
              replace q_set : w6.heap.size < w12.heap.size := by omega
              replace q_model : w7.heap.size < w12.heap.size := by omega
              have BW12 : Below w.heap.size w w12 := BW11.trans (hb12.mono BW11.size)
              have BX12 : Below w10.heap.size w10 w12 := BX11.trans (hb12.mono BX11.size)
              clear BX11
              clear hb12 hd12 c11_c_0 c11_c_1 c11_c_2 c11_c_3 c11_s_0 c11_s_1 c11_shown_0 c11_shown_1 c11_right_0 c11_right_1 c11_ahead_0 c11_ahead_1 c11_want_0 c11_want_1 c11_set_0 c11_set_1 c11_set_2 c11_set_3 c11_model_0 c11_model_1 c11_model_2 c11_model_3 BW11
              have hrelB := BX12
              go_wp2_with fail
              go_meet
              case rel => exact hrelB
        case rest =>
          obtain ⟨w11, hw11⟩ : ∃ x : World, x = wc := ⟨_, rfl⟩
          subst hw11
          have hb11 := hcut
          obtain ⟨hc11, hf11⟩ := bcell hb11
          have hz11 := hb11.size
          (try simp only [World.size_alloc, World.size_setCell, World.size_drew] at hz11)
          have B11 : Below w10.heap.size w10 w11 := Below.trans (b := _) (by (repeat' (first | (with_reducible exact Below.refl _ _) | (with_reducible assumption) | (with_reducible refine Below.alloc ?_ ?_ _) | (with_reducible refine Below.drew ?_) | (with_reducible refine below_drewN ?_ _) | (with_reducible refine Below.setCell ?_ ?_ _) | (with_reducible refine below_call ?_ ?_ (by assumption)) | go_size))) (hb11.mono (by first | omega | (simp only [World.size_alloc, World.size_setCell, World.size_drew]; omega)))
          obtain ⟨hd11, -⟩ := bcell B11
          have c11_c_0 : w11.cell? ⟨w1.heap.size, 0, none⟩ = some (.int .i64 n0) := (hd11 _ _ q_c).trans c10_c_0
          have c11_c_1 : w11.cell? ⟨w1.heap.size, 1, none⟩ = some (.int .i64 d0) := (hd11 _ _ q_c).trans c10_c_1
          have c11_c_2 : w11.cell? ⟨w1.heap.size, 2, none⟩ = some (.int .i64 x0) := (hd11 _ _ q_c).trans c10_c_2
          have c11_c_3 : w11.cell? ⟨w1.heap.size, 3, none⟩ = some (.int .i64 y0) := (hd11 _ _ q_c).trans c10_c_3
          have c11_s_0 : w11.cell? ⟨w1.heap.size + 1, 0, none⟩ = some (.int .i64 n1) := (hd11 _ _ q_s).trans c10_s_0
          have c11_s_1 : w11.cell? ⟨w1.heap.size + 1, 1, none⟩ = some (.int .i64 d1) := (hd11 _ _ q_s).trans c10_s_1
          have c11_shown_0 : w11.cell? ⟨w2.heap.size, 0, none⟩ = some (.int .i64 un) := (hd11 _ _ q_shown).trans c10_shown_0
          have c11_shown_1 : w11.cell? ⟨w2.heap.size, 1, none⟩ = some (.int .i64 ud) := (hd11 _ _ q_shown).trans c10_shown_1
          have c11_right_0 : w11.cell? ⟨w3.heap.size, 0, none⟩ = some (.int .i64 un) := (hd11 _ _ q_right).trans c10_right_0
          have c11_right_1 : w11.cell? ⟨w3.heap.size, 1, none⟩ = some (.int .i64 ud) := (hd11 _ _ q_right).trans c10_right_1
          have c11_ahead_0 : w11.cell? ⟨w4.heap.size, 0, none⟩ = some (.int .i64 gn) := (hd11 _ _ q_ahead).trans c10_ahead_0
          have c11_ahead_1 : w11.cell? ⟨w4.heap.size, 1, none⟩ = some (.int .i64 gd) := (hd11 _ _ q_ahead).trans c10_ahead_1
          have c11_want_0 : w11.cell? ⟨w5.heap.size, 0, none⟩ = some (.int .i64 gn) := (hd11 _ _ q_want).trans c10_want_0
          have c11_want_1 : w11.cell? ⟨w5.heap.size, 1, none⟩ = some (.int .i64 gd) := (hd11 _ _ q_want).trans c10_want_1
          have c11_set_0 : w11.cell? ⟨w6.heap.size, 0, none⟩ = some (.int .i64 zn) := (hd11 _ _ q_set).trans c10_set_0
          have c11_set_1 : w11.cell? ⟨w6.heap.size, 1, none⟩ = some (.int .i64 zd) := (hd11 _ _ q_set).trans c10_set_1
          have c11_set_2 : w11.cell? ⟨w6.heap.size, 2, none⟩ = some (.int .i64 zp) := (hd11 _ _ q_set).trans c10_set_2
          have c11_set_3 : w11.cell? ⟨w6.heap.size, 3, none⟩ = some (.int .i64 zq) := (hd11 _ _ q_set).trans c10_set_3
          have c11_model_0 : w11.cell? ⟨w7.heap.size, 0, none⟩ = some (.int .i64 zn) := (hd11 _ _ q_model).trans c10_model_0
          have c11_model_1 : w11.cell? ⟨w7.heap.size, 1, none⟩ = some (.int .i64 zd) := (hd11 _ _ q_model).trans c10_model_1
          have c11_model_2 : w11.cell? ⟨w7.heap.size, 2, none⟩ = some (.int .i64 zp) := (hd11 _ _ q_model).trans c10_model_2
          have c11_model_3 : w11.cell? ⟨w7.heap.size, 3, none⟩ = some (.int .i64 zq) := (hd11 _ _ q_model).trans c10_model_3
          replace q_c : w1.heap.size < w11.heap.size := by omega
          replace q_s : w1.heap.size + 1 < w11.heap.size := by omega
          replace q_shown : w2.heap.size < w11.heap.size := by omega
          replace q_right : w3.heap.size < w11.heap.size := by omega
          replace q_ahead : w4.heap.size < w11.heap.size := by omega
          replace q_want : w5.heap.size < w11.heap.size := by omega
          replace q_set : w6.heap.size < w11.heap.size := by omega
          replace q_model : w7.heap.size < w11.heap.size := by omega
          have BW11 : Below w.heap.size w w11 := BW10.trans (B11.mono BW10.size)
          clear hc11 hf11 hb11 hd11 B11 c10_c_0 c10_c_1 c10_c_2 c10_c_3 c10_s_0 c10_s_1 c10_shown_0 c10_shown_1 c10_right_0 c10_right_1 c10_ahead_0 c10_ahead_1 c10_want_0 c10_want_1 c10_set_0 c10_set_1 c10_set_2 c10_set_3 c10_model_0 c10_model_1 c10_model_2 c10_model_3 BW10
          go_wp2_with fail
          refine (DrawFirstRight_any L2 p2 L2.length q2 rfl hlen2 _ (BIn.below HB2.out (by (repeat' (first | (with_reducible exact Below.refl _ _) | (with_reducible assumption) | (with_reducible refine Below.alloc ?_ ?_ _) | (with_reducible refine Below.drew ?_) | (with_reducible refine below_drewN ?_ _) | (with_reducible refine Below.setCell ?_ ?_ _) | (with_reducible refine below_call ?_ ?_ (by assumption)) | go_size))))).mono ?_
          rintro e12 w12 ⟨n2, d2, x2, y2, rfl, ⟨kn2, kd2, kx2, ky2⟩, hb12⟩
          obtain ⟨hc12, hf12⟩ := bcell hb12
          have hz12 := hb12.size
          (try simp only [World.size_alloc, World.size_setCell, World.size_drew] at hz12)
          have B12 : Below w11.heap.size w11 w12 := Below.trans (b := _) (by (repeat' (first | (with_reducible exact Below.refl _ _) | (with_reducible assumption) | (with_reducible refine Below.alloc ?_ ?_ _) | (with_reducible refine Below.drew ?_) | (with_reducible refine below_drewN ?_ _) | (with_reducible refine Below.setCell ?_ ?_ _) | (with_reducible refine below_call ?_ ?_ (by assumption)) | go_size))) (hb12.mono (by first | omega | (simp only [World.size_alloc, World.size_setCell, World.size_drew]; omega)))
          obtain ⟨hd12, -⟩ := bcell B12
          have c12_c_0 : w12.cell? ⟨w1.heap.size, 0, none⟩ = some (.int .i64 n0) := (hd12 _ _ q_c).trans c11_c_0
          have c12_c_1 : w12.cell? ⟨w1.heap.size, 1, none⟩ = some (.int .i64 d0) := (hd12 _ _ q_c).trans c11_c_1
          have c12_c_2 : w12.cell? ⟨w1.heap.size, 2, none⟩ = some (.int .i64 x0) := (hd12 _ _ q_c).trans c11_c_2
          have c12_c_3 : w12.cell? ⟨w1.heap.size, 3, none⟩ = some (.int .i64 y0) := (hd12 _ _ q_c).trans c11_c_3
          have c12_s_0 : w12.cell? ⟨w1.heap.size + 1, 0, none⟩ = some (.int .i64 n1) := (hd12 _ _ q_s).trans c11_s_0
          have c12_s_1 : w12.cell? ⟨w1.heap.size + 1, 1, none⟩ = some (.int .i64 d1) := (hd12 _ _ q_s).trans c11_s_1
          have c12_shown_0 : w12.cell? ⟨w2.heap.size, 0, none⟩ = some (.int .i64 un) := (hd12 _ _ q_shown).trans c11_shown_0
          have c12_shown_1 : w12.cell? ⟨w2.heap.size, 1, none⟩ = some (.int .i64 ud) := (hd12 _ _ q_shown).trans c11_shown_1
          have c12_right_0 : w12.cell? ⟨w3.heap.size, 0, none⟩ = some (.int .i64 un) := (hd12 _ _ q_right).trans c11_right_0
          have c12_right_1 : w12.cell? ⟨w3.heap.size, 1, none⟩ = some (.int .i64 ud) := (hd12 _ _ q_right).trans c11_right_1
          have c12_ahead_0 : w12.cell? ⟨w4.heap.size, 0, none⟩ = some (.int .i64 gn) := (hd12 _ _ q_ahead).trans c11_ahead_0
          have c12_ahead_1 : w12.cell? ⟨w4.heap.size, 1, none⟩ = some (.int .i64 gd) := (hd12 _ _ q_ahead).trans c11_ahead_1
          have c12_want_0 : w12.cell? ⟨w5.heap.size, 0, none⟩ = some (.int .i64 gn) := (hd12 _ _ q_want).trans c11_want_0
          have c12_want_1 : w12.cell? ⟨w5.heap.size, 1, none⟩ = some (.int .i64 gd) := (hd12 _ _ q_want).trans c11_want_1
          have c12_set_0 : w12.cell? ⟨w6.heap.size, 0, none⟩ = some (.int .i64 zn) := (hd12 _ _ q_set).trans c11_set_0
          have c12_set_1 : w12.cell? ⟨w6.heap.size, 1, none⟩ = some (.int .i64 zd) := (hd12 _ _ q_set).trans c11_set_1
          have c12_set_2 : w12.cell? ⟨w6.heap.size, 2, none⟩ = some (.int .i64 zp) := (hd12 _ _ q_set).trans c11_set_2
          have c12_set_3 : w12.cell? ⟨w6.heap.size, 3, none⟩ = some (.int .i64 zq) := (hd12 _ _ q_set).trans c11_set_3
          have c12_model_0 : w12.cell? ⟨w7.heap.size, 0, none⟩ = some (.int .i64 zn) := (hd12 _ _ q_model).trans c11_model_0
          have c12_model_1 : w12.cell? ⟨w7.heap.size, 1, none⟩ = some (.int .i64 zd) := (hd12 _ _ q_model).trans c11_model_1
          have c12_model_2 : w12.cell? ⟨w7.heap.size, 2, none⟩ = some (.int .i64 zp) := (hd12 _ _ q_model).trans c11_model_2
          have c12_model_3 : w12.cell? ⟨w7.heap.size, 3, none⟩ = some (.int .i64 zq) := (hd12 _ _ q_model).trans c11_model_3
          replace q_c : w1.heap.size < w12.heap.size := by omega
          replace q_s : w1.heap.size + 1 < w12.heap.size := by omega
          replace q_shown : w2.heap.size < w12.heap.size := by omega
          replace q_right : w3.heap.size < w12.heap.size := by omega
          replace q_ahead : w4.heap.size < w12.heap.size := by omega
          replace q_want : w5.heap.size < w12.heap.size := by omega
          replace q_set : w6.heap.size < w12.heap.size := by omega
          replace q_model : w7.heap.size < w12.heap.size := by omega
          have BW12 : Below w.heap.size w w12 := BW11.trans (B12.mono BW11.size)
          clear hc12 hf12 hb12 hd12 B12 c11_c_0 c11_c_1 c11_c_2 c11_c_3 c11_s_0 c11_s_1 c11_shown_0 c11_shown_1 c11_right_0 c11_right_1 c11_ahead_0 c11_ahead_1 c11_want_0 c11_want_1 c11_set_0 c11_set_1 c11_set_2 c11_set_3 c11_model_0 c11_model_1 c11_model_2 c11_model_3 BW11
          obtain ⟨fn, fd, fo, hF⟩ : ∃ x y z, firstRightS n2 d2 x2 y2 = (x, y, z) := ⟨_, _, _, rfl⟩
          obtain ⟨rn, rd, ro, hR⟩ : ∃ x y z, rightS n2 d2 x2 y2 = (x, y, z) := ⟨_, _, _, rfl⟩
          obtain ⟨en, ed, eo, hE⟩ : ∃ x y z, addS fn fd rn rd = (x, y, z) := ⟨_, _, _, rfl⟩
          obtain ⟨cb, hcb⟩ : ∃ b, clockB n2 d2 x2 y2 = b := ⟨_, rfl⟩
          obtain ⟨b2, hb2'⟩ : ∃ b, b = (fo && ro) := ⟨_, rfl⟩
          have Hb2 := Lib.hid hb2'
          clear hb2'
          have C7 := Lib.hid (fun W => (show Calls Try.prog 16 #[cv n2 d2 x2 y2] W fun e w' => e = .returned (rv (fn, fd, fo)) ∧ Below W.heap.size W w' from by have := implFirstRight_any n2 d2 x2 y2 W; rw [hF] at this; exact this))
          have C8 := Lib.hid (fun W => (show Calls Try.prog 17 #[cv n2 d2 x2 y2] W fun e w' => e = .returned (rv (fn, fd, fo)) ∧ Below W.heap.size W w' from by have := specFirstRight_any n2 d2 x2 y2 kd2 W; rw [hF] at this; exact this))
          have C9 := Lib.hid (fun W => (show Calls Try.prog 18 #[cv n2 d2 x2 y2] W fun e w' => e = .returned (rv (rn, rd, ro)) ∧ Below W.heap.size W w' from by have := implRightEvery_any n2 d2 x2 y2 W; rw [hR] at this; exact this))
          have C10 := Lib.hid (fun W => (show Calls Try.prog 19 #[cv n2 d2 x2 y2] W fun e w' => e = .returned (rv (rn, rd, ro)) ∧ Below W.heap.size W w' from by have := specRightEvery_any n2 d2 x2 y2 kd2 W; rw [hR] at this; exact this))
          have C13 := Lib.hid (fun W => (show Calls Try.prog 22 #[tv fn fd, tv rn rd] W fun e w' => e = .returned (rv (en, ed, eo)) ∧ Below W.heap.size W w' from by have := implAddSpans_any fn fd rn rd W; rw [hE] at this; exact this))
          have HCB := Lib.hid hcb
          have G3 := Lib.hid (fun (e : fo = true) => first_none (by rw [hF, e] : firstRightS n2 d2 x2 y2 = (fn, fd, true)))
          have G4 := Lib.hid (fun (e : fo = true) (e' : ro = true) => first_every (by rw [hF, e] : firstRightS n2 d2 x2 y2 = (fn, fd, true)) (by rw [hR, e'] : rightS n2 d2 x2 y2 = (rn, rd, true)))
          have G6 := Lib.hid (fun (e : fo = true) => (firstR_ok (by rw [hF, e] : firstRightS n2 d2 x2 y2 = (fn, fd, true))).1)
          have G7 := Lib.hid (fun (e : ro = true) => (right_ok (by rw [hR, e] : rightS n2 d2 x2 y2 = (rn, rd, true))).1)
          have G8 := Lib.hid (fun (e : fo = true) => (firstR_ok (by rw [hF, e] : firstRightS n2 d2 x2 y2 = (fn, fd, true))).2.2.1)
          have G9 := Lib.hid (fun (e : ro = true) => (right_ok (by rw [hR, e] : rightS n2 d2 x2 y2 = (rn, rd, true))).2.2.1)
          have HE := Lib.hid hE
          clear hF hR hE hcb
          go_wp2_with fail
          refine (C7.out _).mono ?_
          rintro e13 w13 ⟨rfl, hb13⟩
          obtain ⟨hc13, hf13⟩ := bcell hb13
          have hz13 := hb13.size
          (try simp only [World.size_alloc, World.size_setCell, World.size_drew] at hz13)
          have B13 : Below w12.heap.size w12 w13 := Below.trans (b := _) (by (repeat' (first | (with_reducible exact Below.refl _ _) | (with_reducible assumption) | (with_reducible refine Below.alloc ?_ ?_ _) | (with_reducible refine Below.drew ?_) | (with_reducible refine below_drewN ?_ _) | (with_reducible refine Below.setCell ?_ ?_ _) | (with_reducible refine below_call ?_ ?_ (by assumption)) | go_size))) (hb13.mono (by first | omega | (simp only [World.size_alloc, World.size_setCell, World.size_drew]; omega)))
          obtain ⟨hd13, -⟩ := bcell B13
          have c13_c_0 : w13.cell? ⟨w1.heap.size, 0, none⟩ = some (.int .i64 n0) := (hd13 _ _ q_c).trans c12_c_0
          have c13_c_1 : w13.cell? ⟨w1.heap.size, 1, none⟩ = some (.int .i64 d0) := (hd13 _ _ q_c).trans c12_c_1
          have c13_c_2 : w13.cell? ⟨w1.heap.size, 2, none⟩ = some (.int .i64 x0) := (hd13 _ _ q_c).trans c12_c_2
          have c13_c_3 : w13.cell? ⟨w1.heap.size, 3, none⟩ = some (.int .i64 y0) := (hd13 _ _ q_c).trans c12_c_3
          have c13_s_0 : w13.cell? ⟨w1.heap.size + 1, 0, none⟩ = some (.int .i64 n1) := (hd13 _ _ q_s).trans c12_s_0
          have c13_s_1 : w13.cell? ⟨w1.heap.size + 1, 1, none⟩ = some (.int .i64 d1) := (hd13 _ _ q_s).trans c12_s_1
          have c13_shown_0 : w13.cell? ⟨w2.heap.size, 0, none⟩ = some (.int .i64 un) := (hd13 _ _ q_shown).trans c12_shown_0
          have c13_shown_1 : w13.cell? ⟨w2.heap.size, 1, none⟩ = some (.int .i64 ud) := (hd13 _ _ q_shown).trans c12_shown_1
          have c13_right_0 : w13.cell? ⟨w3.heap.size, 0, none⟩ = some (.int .i64 un) := (hd13 _ _ q_right).trans c12_right_0
          have c13_right_1 : w13.cell? ⟨w3.heap.size, 1, none⟩ = some (.int .i64 ud) := (hd13 _ _ q_right).trans c12_right_1
          have c13_ahead_0 : w13.cell? ⟨w4.heap.size, 0, none⟩ = some (.int .i64 gn) := (hd13 _ _ q_ahead).trans c12_ahead_0
          have c13_ahead_1 : w13.cell? ⟨w4.heap.size, 1, none⟩ = some (.int .i64 gd) := (hd13 _ _ q_ahead).trans c12_ahead_1
          have c13_want_0 : w13.cell? ⟨w5.heap.size, 0, none⟩ = some (.int .i64 gn) := (hd13 _ _ q_want).trans c12_want_0
          have c13_want_1 : w13.cell? ⟨w5.heap.size, 1, none⟩ = some (.int .i64 gd) := (hd13 _ _ q_want).trans c12_want_1
          have c13_set_0 : w13.cell? ⟨w6.heap.size, 0, none⟩ = some (.int .i64 zn) := (hd13 _ _ q_set).trans c12_set_0
          have c13_set_1 : w13.cell? ⟨w6.heap.size, 1, none⟩ = some (.int .i64 zd) := (hd13 _ _ q_set).trans c12_set_1
          have c13_set_2 : w13.cell? ⟨w6.heap.size, 2, none⟩ = some (.int .i64 zp) := (hd13 _ _ q_set).trans c12_set_2
          have c13_set_3 : w13.cell? ⟨w6.heap.size, 3, none⟩ = some (.int .i64 zq) := (hd13 _ _ q_set).trans c12_set_3
          have c13_model_0 : w13.cell? ⟨w7.heap.size, 0, none⟩ = some (.int .i64 zn) := (hd13 _ _ q_model).trans c12_model_0
          have c13_model_1 : w13.cell? ⟨w7.heap.size, 1, none⟩ = some (.int .i64 zd) := (hd13 _ _ q_model).trans c12_model_1
          have c13_model_2 : w13.cell? ⟨w7.heap.size, 2, none⟩ = some (.int .i64 zp) := (hd13 _ _ q_model).trans c12_model_2
          have c13_model_3 : w13.cell? ⟨w7.heap.size, 3, none⟩ = some (.int .i64 zq) := (hd13 _ _ q_model).trans c12_model_3
          replace q_c : w1.heap.size < w13.heap.size := by omega
          replace q_s : w1.heap.size + 1 < w13.heap.size := by omega
          replace q_shown : w2.heap.size < w13.heap.size := by omega
          replace q_right : w3.heap.size < w13.heap.size := by omega
          replace q_ahead : w4.heap.size < w13.heap.size := by omega
          replace q_want : w5.heap.size < w13.heap.size := by omega
          replace q_set : w6.heap.size < w13.heap.size := by omega
          replace q_model : w7.heap.size < w13.heap.size := by omega
          have c13_d_0 : w13.cell? ⟨w12.heap.size, 0, none⟩ = some (.int .i64 n2) := (hc13 _ _ (by go_size)).trans (by go_simp)
          have c13_d_1 : w13.cell? ⟨w12.heap.size, 1, none⟩ = some (.int .i64 d2) := (hc13 _ _ (by go_size)).trans (by go_simp)
          have c13_d_2 : w13.cell? ⟨w12.heap.size, 2, none⟩ = some (.int .i64 x2) := (hc13 _ _ (by go_size)).trans (by go_simp)
          have c13_d_3 : w13.cell? ⟨w12.heap.size, 3, none⟩ = some (.int .i64 y2) := (hc13 _ _ (by go_size)).trans (by go_simp)
          have q_d : w12.heap.size < w13.heap.size := by omega
          have BW13 : Below w.heap.size w w13 := BW12.trans (B13.mono BW12.size)
          clear hc13 hf13 hb13 hd13 B13 c12_c_0 c12_c_1 c12_c_2 c12_c_3 c12_s_0 c12_s_1 c12_shown_0 c12_shown_1 c12_right_0 c12_right_1 c12_ahead_0 c12_ahead_1 c12_want_0 c12_want_1 c12_set_0 c12_set_1 c12_set_2 c12_set_3 c12_model_0 c12_model_1 c12_model_2 c12_model_3 BW12
          go_wp2_with fail
          refine (C8.out _).mono ?_
          rintro e14 w14 ⟨rfl, hb14⟩
          obtain ⟨hc14, hf14⟩ := bcell hb14
          have hz14 := hb14.size
          (try simp only [World.size_alloc, World.size_setCell, World.size_drew] at hz14)
          have B14 : Below w13.heap.size w13 w14 := Below.trans (b := _) (by (repeat' (first | (with_reducible exact Below.refl _ _) | (with_reducible assumption) | (with_reducible refine Below.alloc ?_ ?_ _) | (with_reducible refine Below.drew ?_) | (with_reducible refine below_drewN ?_ _) | (with_reducible refine Below.setCell ?_ ?_ _) | (with_reducible refine below_call ?_ ?_ (by assumption)) | go_size))) (hb14.mono (by first | omega | (simp only [World.size_alloc, World.size_setCell, World.size_drew]; omega)))
          obtain ⟨hd14, -⟩ := bcell B14
          have c14_c_0 : w14.cell? ⟨w1.heap.size, 0, none⟩ = some (.int .i64 n0) := (hd14 _ _ q_c).trans c13_c_0
          have c14_c_1 : w14.cell? ⟨w1.heap.size, 1, none⟩ = some (.int .i64 d0) := (hd14 _ _ q_c).trans c13_c_1
          have c14_c_2 : w14.cell? ⟨w1.heap.size, 2, none⟩ = some (.int .i64 x0) := (hd14 _ _ q_c).trans c13_c_2
          have c14_c_3 : w14.cell? ⟨w1.heap.size, 3, none⟩ = some (.int .i64 y0) := (hd14 _ _ q_c).trans c13_c_3
          have c14_s_0 : w14.cell? ⟨w1.heap.size + 1, 0, none⟩ = some (.int .i64 n1) := (hd14 _ _ q_s).trans c13_s_0
          have c14_s_1 : w14.cell? ⟨w1.heap.size + 1, 1, none⟩ = some (.int .i64 d1) := (hd14 _ _ q_s).trans c13_s_1
          have c14_shown_0 : w14.cell? ⟨w2.heap.size, 0, none⟩ = some (.int .i64 un) := (hd14 _ _ q_shown).trans c13_shown_0
          have c14_shown_1 : w14.cell? ⟨w2.heap.size, 1, none⟩ = some (.int .i64 ud) := (hd14 _ _ q_shown).trans c13_shown_1
          have c14_right_0 : w14.cell? ⟨w3.heap.size, 0, none⟩ = some (.int .i64 un) := (hd14 _ _ q_right).trans c13_right_0
          have c14_right_1 : w14.cell? ⟨w3.heap.size, 1, none⟩ = some (.int .i64 ud) := (hd14 _ _ q_right).trans c13_right_1
          have c14_ahead_0 : w14.cell? ⟨w4.heap.size, 0, none⟩ = some (.int .i64 gn) := (hd14 _ _ q_ahead).trans c13_ahead_0
          have c14_ahead_1 : w14.cell? ⟨w4.heap.size, 1, none⟩ = some (.int .i64 gd) := (hd14 _ _ q_ahead).trans c13_ahead_1
          have c14_want_0 : w14.cell? ⟨w5.heap.size, 0, none⟩ = some (.int .i64 gn) := (hd14 _ _ q_want).trans c13_want_0
          have c14_want_1 : w14.cell? ⟨w5.heap.size, 1, none⟩ = some (.int .i64 gd) := (hd14 _ _ q_want).trans c13_want_1
          have c14_set_0 : w14.cell? ⟨w6.heap.size, 0, none⟩ = some (.int .i64 zn) := (hd14 _ _ q_set).trans c13_set_0
          have c14_set_1 : w14.cell? ⟨w6.heap.size, 1, none⟩ = some (.int .i64 zd) := (hd14 _ _ q_set).trans c13_set_1
          have c14_set_2 : w14.cell? ⟨w6.heap.size, 2, none⟩ = some (.int .i64 zp) := (hd14 _ _ q_set).trans c13_set_2
          have c14_set_3 : w14.cell? ⟨w6.heap.size, 3, none⟩ = some (.int .i64 zq) := (hd14 _ _ q_set).trans c13_set_3
          have c14_model_0 : w14.cell? ⟨w7.heap.size, 0, none⟩ = some (.int .i64 zn) := (hd14 _ _ q_model).trans c13_model_0
          have c14_model_1 : w14.cell? ⟨w7.heap.size, 1, none⟩ = some (.int .i64 zd) := (hd14 _ _ q_model).trans c13_model_1
          have c14_model_2 : w14.cell? ⟨w7.heap.size, 2, none⟩ = some (.int .i64 zp) := (hd14 _ _ q_model).trans c13_model_2
          have c14_model_3 : w14.cell? ⟨w7.heap.size, 3, none⟩ = some (.int .i64 zq) := (hd14 _ _ q_model).trans c13_model_3
          have c14_d_0 : w14.cell? ⟨w12.heap.size, 0, none⟩ = some (.int .i64 n2) := (hd14 _ _ q_d).trans c13_d_0
          have c14_d_1 : w14.cell? ⟨w12.heap.size, 1, none⟩ = some (.int .i64 d2) := (hd14 _ _ q_d).trans c13_d_1
          have c14_d_2 : w14.cell? ⟨w12.heap.size, 2, none⟩ = some (.int .i64 x2) := (hd14 _ _ q_d).trans c13_d_2
          have c14_d_3 : w14.cell? ⟨w12.heap.size, 3, none⟩ = some (.int .i64 y2) := (hd14 _ _ q_d).trans c13_d_3
          replace q_c : w1.heap.size < w14.heap.size := by omega
          replace q_s : w1.heap.size + 1 < w14.heap.size := by omega
          replace q_shown : w2.heap.size < w14.heap.size := by omega
          replace q_right : w3.heap.size < w14.heap.size := by omega
          replace q_ahead : w4.heap.size < w14.heap.size := by omega
          replace q_want : w5.heap.size < w14.heap.size := by omega
          replace q_set : w6.heap.size < w14.heap.size := by omega
          replace q_model : w7.heap.size < w14.heap.size := by omega
          replace q_d : w12.heap.size < w14.heap.size := by omega
          have c14_first_0 : w14.cell? ⟨w13.heap.size, 0, none⟩ = some (.int .i64 fn) := (hc14 _ _ (by go_size)).trans (by go_simp)
          have c14_first_1 : w14.cell? ⟨w13.heap.size, 1, none⟩ = some (.int .i64 fd) := (hc14 _ _ (by go_size)).trans (by go_simp)
          have q_first : w13.heap.size < w14.heap.size := by omega
          have BW14 : Below w.heap.size w w14 := BW13.trans (B14.mono BW13.size)
          clear hc14 hf14 hb14 hd14 B14 c13_c_0 c13_c_1 c13_c_2 c13_c_3 c13_s_0 c13_s_1 c13_shown_0 c13_shown_1 c13_right_0 c13_right_1 c13_ahead_0 c13_ahead_1 c13_want_0 c13_want_1 c13_set_0 c13_set_1 c13_set_2 c13_set_3 c13_model_0 c13_model_1 c13_model_2 c13_model_3 c13_d_0 c13_d_1 c13_d_2 c13_d_3 BW13
          go_wp2_with fail
          refine (C9.out _).mono ?_
          rintro e15 w15 ⟨rfl, hb15⟩
          obtain ⟨hc15, hf15⟩ := bcell hb15
          have hz15 := hb15.size
          (try simp only [World.size_alloc, World.size_setCell, World.size_drew] at hz15)
          have B15 : Below w14.heap.size w14 w15 := Below.trans (b := _) (by (repeat' (first | (with_reducible exact Below.refl _ _) | (with_reducible assumption) | (with_reducible refine Below.alloc ?_ ?_ _) | (with_reducible refine Below.drew ?_) | (with_reducible refine below_drewN ?_ _) | (with_reducible refine Below.setCell ?_ ?_ _) | (with_reducible refine below_call ?_ ?_ (by assumption)) | go_size))) (hb15.mono (by first | omega | (simp only [World.size_alloc, World.size_setCell, World.size_drew]; omega)))
          obtain ⟨hd15, -⟩ := bcell B15
          have c15_c_0 : w15.cell? ⟨w1.heap.size, 0, none⟩ = some (.int .i64 n0) := (hd15 _ _ q_c).trans c14_c_0
          have c15_c_1 : w15.cell? ⟨w1.heap.size, 1, none⟩ = some (.int .i64 d0) := (hd15 _ _ q_c).trans c14_c_1
          have c15_c_2 : w15.cell? ⟨w1.heap.size, 2, none⟩ = some (.int .i64 x0) := (hd15 _ _ q_c).trans c14_c_2
          have c15_c_3 : w15.cell? ⟨w1.heap.size, 3, none⟩ = some (.int .i64 y0) := (hd15 _ _ q_c).trans c14_c_3
          have c15_s_0 : w15.cell? ⟨w1.heap.size + 1, 0, none⟩ = some (.int .i64 n1) := (hd15 _ _ q_s).trans c14_s_0
          have c15_s_1 : w15.cell? ⟨w1.heap.size + 1, 1, none⟩ = some (.int .i64 d1) := (hd15 _ _ q_s).trans c14_s_1
          have c15_shown_0 : w15.cell? ⟨w2.heap.size, 0, none⟩ = some (.int .i64 un) := (hd15 _ _ q_shown).trans c14_shown_0
          have c15_shown_1 : w15.cell? ⟨w2.heap.size, 1, none⟩ = some (.int .i64 ud) := (hd15 _ _ q_shown).trans c14_shown_1
          have c15_right_0 : w15.cell? ⟨w3.heap.size, 0, none⟩ = some (.int .i64 un) := (hd15 _ _ q_right).trans c14_right_0
          have c15_right_1 : w15.cell? ⟨w3.heap.size, 1, none⟩ = some (.int .i64 ud) := (hd15 _ _ q_right).trans c14_right_1
          have c15_ahead_0 : w15.cell? ⟨w4.heap.size, 0, none⟩ = some (.int .i64 gn) := (hd15 _ _ q_ahead).trans c14_ahead_0
          have c15_ahead_1 : w15.cell? ⟨w4.heap.size, 1, none⟩ = some (.int .i64 gd) := (hd15 _ _ q_ahead).trans c14_ahead_1
          have c15_want_0 : w15.cell? ⟨w5.heap.size, 0, none⟩ = some (.int .i64 gn) := (hd15 _ _ q_want).trans c14_want_0
          have c15_want_1 : w15.cell? ⟨w5.heap.size, 1, none⟩ = some (.int .i64 gd) := (hd15 _ _ q_want).trans c14_want_1
          have c15_set_0 : w15.cell? ⟨w6.heap.size, 0, none⟩ = some (.int .i64 zn) := (hd15 _ _ q_set).trans c14_set_0
          have c15_set_1 : w15.cell? ⟨w6.heap.size, 1, none⟩ = some (.int .i64 zd) := (hd15 _ _ q_set).trans c14_set_1
          have c15_set_2 : w15.cell? ⟨w6.heap.size, 2, none⟩ = some (.int .i64 zp) := (hd15 _ _ q_set).trans c14_set_2
          have c15_set_3 : w15.cell? ⟨w6.heap.size, 3, none⟩ = some (.int .i64 zq) := (hd15 _ _ q_set).trans c14_set_3
          have c15_model_0 : w15.cell? ⟨w7.heap.size, 0, none⟩ = some (.int .i64 zn) := (hd15 _ _ q_model).trans c14_model_0
          have c15_model_1 : w15.cell? ⟨w7.heap.size, 1, none⟩ = some (.int .i64 zd) := (hd15 _ _ q_model).trans c14_model_1
          have c15_model_2 : w15.cell? ⟨w7.heap.size, 2, none⟩ = some (.int .i64 zp) := (hd15 _ _ q_model).trans c14_model_2
          have c15_model_3 : w15.cell? ⟨w7.heap.size, 3, none⟩ = some (.int .i64 zq) := (hd15 _ _ q_model).trans c14_model_3
          have c15_d_0 : w15.cell? ⟨w12.heap.size, 0, none⟩ = some (.int .i64 n2) := (hd15 _ _ q_d).trans c14_d_0
          have c15_d_1 : w15.cell? ⟨w12.heap.size, 1, none⟩ = some (.int .i64 d2) := (hd15 _ _ q_d).trans c14_d_1
          have c15_d_2 : w15.cell? ⟨w12.heap.size, 2, none⟩ = some (.int .i64 x2) := (hd15 _ _ q_d).trans c14_d_2
          have c15_d_3 : w15.cell? ⟨w12.heap.size, 3, none⟩ = some (.int .i64 y2) := (hd15 _ _ q_d).trans c14_d_3
          have c15_first_0 : w15.cell? ⟨w13.heap.size, 0, none⟩ = some (.int .i64 fn) := (hd15 _ _ q_first).trans c14_first_0
          have c15_first_1 : w15.cell? ⟨w13.heap.size, 1, none⟩ = some (.int .i64 fd) := (hd15 _ _ q_first).trans c14_first_1
          replace q_c : w1.heap.size < w15.heap.size := by omega
          replace q_s : w1.heap.size + 1 < w15.heap.size := by omega
          replace q_shown : w2.heap.size < w15.heap.size := by omega
          replace q_right : w3.heap.size < w15.heap.size := by omega
          replace q_ahead : w4.heap.size < w15.heap.size := by omega
          replace q_want : w5.heap.size < w15.heap.size := by omega
          replace q_set : w6.heap.size < w15.heap.size := by omega
          replace q_model : w7.heap.size < w15.heap.size := by omega
          replace q_d : w12.heap.size < w15.heap.size := by omega
          replace q_first : w13.heap.size < w15.heap.size := by omega
          have c15_value_0 : w15.cell? ⟨w14.heap.size, 0, none⟩ = some (.int .i64 fn) := (hc15 _ _ (by go_size)).trans (by go_simp)
          have c15_value_1 : w15.cell? ⟨w14.heap.size, 1, none⟩ = some (.int .i64 fd) := (hc15 _ _ (by go_size)).trans (by go_simp)
          have q_value : w14.heap.size < w15.heap.size := by omega
          have BW15 : Below w.heap.size w w15 := BW14.trans (B15.mono BW14.size)
          clear hc15 hf15 hb15 hd15 B15 c14_c_0 c14_c_1 c14_c_2 c14_c_3 c14_s_0 c14_s_1 c14_shown_0 c14_shown_1 c14_right_0 c14_right_1 c14_ahead_0 c14_ahead_1 c14_want_0 c14_want_1 c14_set_0 c14_set_1 c14_set_2 c14_set_3 c14_model_0 c14_model_1 c14_model_2 c14_model_3 c14_d_0 c14_d_1 c14_d_2 c14_d_3 c14_first_0 c14_first_1 BW14
          go_wp2_with fail
          refine (C10.out _).mono ?_
          rintro e16 w16 ⟨rfl, hb16⟩
          obtain ⟨hc16, hf16⟩ := bcell hb16
          have hz16 := hb16.size
          (try simp only [World.size_alloc, World.size_setCell, World.size_drew] at hz16)
          have B16 : Below w15.heap.size w15 w16 := Below.trans (b := _) (by (repeat' (first | (with_reducible exact Below.refl _ _) | (with_reducible assumption) | (with_reducible refine Below.alloc ?_ ?_ _) | (with_reducible refine Below.drew ?_) | (with_reducible refine below_drewN ?_ _) | (with_reducible refine Below.setCell ?_ ?_ _) | (with_reducible refine below_call ?_ ?_ (by assumption)) | go_size))) (hb16.mono (by first | omega | (simp only [World.size_alloc, World.size_setCell, World.size_drew]; omega)))
          obtain ⟨hd16, -⟩ := bcell B16
          have c16_c_0 : w16.cell? ⟨w1.heap.size, 0, none⟩ = some (.int .i64 n0) := (hd16 _ _ q_c).trans c15_c_0
          have c16_c_1 : w16.cell? ⟨w1.heap.size, 1, none⟩ = some (.int .i64 d0) := (hd16 _ _ q_c).trans c15_c_1
          have c16_c_2 : w16.cell? ⟨w1.heap.size, 2, none⟩ = some (.int .i64 x0) := (hd16 _ _ q_c).trans c15_c_2
          have c16_c_3 : w16.cell? ⟨w1.heap.size, 3, none⟩ = some (.int .i64 y0) := (hd16 _ _ q_c).trans c15_c_3
          have c16_s_0 : w16.cell? ⟨w1.heap.size + 1, 0, none⟩ = some (.int .i64 n1) := (hd16 _ _ q_s).trans c15_s_0
          have c16_s_1 : w16.cell? ⟨w1.heap.size + 1, 1, none⟩ = some (.int .i64 d1) := (hd16 _ _ q_s).trans c15_s_1
          have c16_shown_0 : w16.cell? ⟨w2.heap.size, 0, none⟩ = some (.int .i64 un) := (hd16 _ _ q_shown).trans c15_shown_0
          have c16_shown_1 : w16.cell? ⟨w2.heap.size, 1, none⟩ = some (.int .i64 ud) := (hd16 _ _ q_shown).trans c15_shown_1
          have c16_right_0 : w16.cell? ⟨w3.heap.size, 0, none⟩ = some (.int .i64 un) := (hd16 _ _ q_right).trans c15_right_0
          have c16_right_1 : w16.cell? ⟨w3.heap.size, 1, none⟩ = some (.int .i64 ud) := (hd16 _ _ q_right).trans c15_right_1
          have c16_ahead_0 : w16.cell? ⟨w4.heap.size, 0, none⟩ = some (.int .i64 gn) := (hd16 _ _ q_ahead).trans c15_ahead_0
          have c16_ahead_1 : w16.cell? ⟨w4.heap.size, 1, none⟩ = some (.int .i64 gd) := (hd16 _ _ q_ahead).trans c15_ahead_1
          have c16_want_0 : w16.cell? ⟨w5.heap.size, 0, none⟩ = some (.int .i64 gn) := (hd16 _ _ q_want).trans c15_want_0
          have c16_want_1 : w16.cell? ⟨w5.heap.size, 1, none⟩ = some (.int .i64 gd) := (hd16 _ _ q_want).trans c15_want_1
          have c16_set_0 : w16.cell? ⟨w6.heap.size, 0, none⟩ = some (.int .i64 zn) := (hd16 _ _ q_set).trans c15_set_0
          have c16_set_1 : w16.cell? ⟨w6.heap.size, 1, none⟩ = some (.int .i64 zd) := (hd16 _ _ q_set).trans c15_set_1
          have c16_set_2 : w16.cell? ⟨w6.heap.size, 2, none⟩ = some (.int .i64 zp) := (hd16 _ _ q_set).trans c15_set_2
          have c16_set_3 : w16.cell? ⟨w6.heap.size, 3, none⟩ = some (.int .i64 zq) := (hd16 _ _ q_set).trans c15_set_3
          have c16_model_0 : w16.cell? ⟨w7.heap.size, 0, none⟩ = some (.int .i64 zn) := (hd16 _ _ q_model).trans c15_model_0
          have c16_model_1 : w16.cell? ⟨w7.heap.size, 1, none⟩ = some (.int .i64 zd) := (hd16 _ _ q_model).trans c15_model_1
          have c16_model_2 : w16.cell? ⟨w7.heap.size, 2, none⟩ = some (.int .i64 zp) := (hd16 _ _ q_model).trans c15_model_2
          have c16_model_3 : w16.cell? ⟨w7.heap.size, 3, none⟩ = some (.int .i64 zq) := (hd16 _ _ q_model).trans c15_model_3
          have c16_d_0 : w16.cell? ⟨w12.heap.size, 0, none⟩ = some (.int .i64 n2) := (hd16 _ _ q_d).trans c15_d_0
          have c16_d_1 : w16.cell? ⟨w12.heap.size, 1, none⟩ = some (.int .i64 d2) := (hd16 _ _ q_d).trans c15_d_1
          have c16_d_2 : w16.cell? ⟨w12.heap.size, 2, none⟩ = some (.int .i64 x2) := (hd16 _ _ q_d).trans c15_d_2
          have c16_d_3 : w16.cell? ⟨w12.heap.size, 3, none⟩ = some (.int .i64 y2) := (hd16 _ _ q_d).trans c15_d_3
          have c16_first_0 : w16.cell? ⟨w13.heap.size, 0, none⟩ = some (.int .i64 fn) := (hd16 _ _ q_first).trans c15_first_0
          have c16_first_1 : w16.cell? ⟨w13.heap.size, 1, none⟩ = some (.int .i64 fd) := (hd16 _ _ q_first).trans c15_first_1
          have c16_value_0 : w16.cell? ⟨w14.heap.size, 0, none⟩ = some (.int .i64 fn) := (hd16 _ _ q_value).trans c15_value_0
          have c16_value_1 : w16.cell? ⟨w14.heap.size, 1, none⟩ = some (.int .i64 fd) := (hd16 _ _ q_value).trans c15_value_1
          replace q_c : w1.heap.size < w16.heap.size := by omega
          replace q_s : w1.heap.size + 1 < w16.heap.size := by omega
          replace q_shown : w2.heap.size < w16.heap.size := by omega
          replace q_right : w3.heap.size < w16.heap.size := by omega
          replace q_ahead : w4.heap.size < w16.heap.size := by omega
          replace q_want : w5.heap.size < w16.heap.size := by omega
          replace q_set : w6.heap.size < w16.heap.size := by omega
          replace q_model : w7.heap.size < w16.heap.size := by omega
          replace q_d : w12.heap.size < w16.heap.size := by omega
          replace q_first : w13.heap.size < w16.heap.size := by omega
          replace q_value : w14.heap.size < w16.heap.size := by omega
          have c16_every_0 : w16.cell? ⟨w15.heap.size, 0, none⟩ = some (.int .i64 rn) := (hc16 _ _ (by go_size)).trans (by go_simp)
          have c16_every_1 : w16.cell? ⟨w15.heap.size, 1, none⟩ = some (.int .i64 rd) := (hc16 _ _ (by go_size)).trans (by go_simp)
          have q_every : w15.heap.size < w16.heap.size := by omega
          have BW16 : Below w.heap.size w w16 := BW15.trans (B16.mono BW15.size)
          clear hc16 hf16 hb16 hd16 B16 c15_c_0 c15_c_1 c15_c_2 c15_c_3 c15_s_0 c15_s_1 c15_shown_0 c15_shown_1 c15_right_0 c15_right_1 c15_ahead_0 c15_ahead_1 c15_want_0 c15_want_1 c15_set_0 c15_set_1 c15_set_2 c15_set_3 c15_model_0 c15_model_1 c15_model_2 c15_model_3 c15_d_0 c15_d_1 c15_d_2 c15_d_3 c15_first_0 c15_first_1 c15_value_0 c15_value_1 BW15
          go_upto_region 26 with fail
          have hb17 : Below w16.heap.size w16 (w16.alloc (Obj.cells #[.int .i64 rn, .int .i64 rd] 28)) := by (repeat' (first | (with_reducible exact Below.refl _ _) | (with_reducible assumption) | (with_reducible refine Below.alloc ?_ ?_ _) | (with_reducible refine Below.drew ?_) | (with_reducible refine below_drewN ?_ _) | (with_reducible refine Below.setCell ?_ ?_ _) | (with_reducible refine below_call ?_ ?_ (by assumption)) | go_size))
          have c17_due_0 : (w16.alloc (Obj.cells #[.int .i64 rn, .int .i64 rd] 28)).cell? ⟨w16.heap.size, 0, none⟩ = some (.int .i64 rn) := by go_simp
          have c17_due_1 : (w16.alloc (Obj.cells #[.int .i64 rn, .int .i64 rd] 28)).cell? ⟨w16.heap.size, 1, none⟩ = some (.int .i64 rd) := by go_simp
          have q_due : w16.heap.size < (w16.alloc (Obj.cells #[.int .i64 rn, .int .i64 rd] 28)).heap.size := by go_size
          generalize (w16.alloc (Obj.cells #[.int .i64 rn, .int .i64 rd] 28)) = w17 at *
          obtain ⟨hd17, -⟩ := bcell hb17
          have hz17 := hb17.size
          have c17_c_0 : w17.cell? ⟨w1.heap.size, 0, none⟩ = some (.int .i64 n0) := (hd17 _ _ q_c).trans c16_c_0
          have c17_c_1 : w17.cell? ⟨w1.heap.size, 1, none⟩ = some (.int .i64 d0) := (hd17 _ _ q_c).trans c16_c_1
          have c17_c_2 : w17.cell? ⟨w1.heap.size, 2, none⟩ = some (.int .i64 x0) := (hd17 _ _ q_c).trans c16_c_2
          have c17_c_3 : w17.cell? ⟨w1.heap.size, 3, none⟩ = some (.int .i64 y0) := (hd17 _ _ q_c).trans c16_c_3
          have c17_s_0 : w17.cell? ⟨w1.heap.size + 1, 0, none⟩ = some (.int .i64 n1) := (hd17 _ _ q_s).trans c16_s_0
          have c17_s_1 : w17.cell? ⟨w1.heap.size + 1, 1, none⟩ = some (.int .i64 d1) := (hd17 _ _ q_s).trans c16_s_1
          have c17_shown_0 : w17.cell? ⟨w2.heap.size, 0, none⟩ = some (.int .i64 un) := (hd17 _ _ q_shown).trans c16_shown_0
          have c17_shown_1 : w17.cell? ⟨w2.heap.size, 1, none⟩ = some (.int .i64 ud) := (hd17 _ _ q_shown).trans c16_shown_1
          have c17_right_0 : w17.cell? ⟨w3.heap.size, 0, none⟩ = some (.int .i64 un) := (hd17 _ _ q_right).trans c16_right_0
          have c17_right_1 : w17.cell? ⟨w3.heap.size, 1, none⟩ = some (.int .i64 ud) := (hd17 _ _ q_right).trans c16_right_1
          have c17_ahead_0 : w17.cell? ⟨w4.heap.size, 0, none⟩ = some (.int .i64 gn) := (hd17 _ _ q_ahead).trans c16_ahead_0
          have c17_ahead_1 : w17.cell? ⟨w4.heap.size, 1, none⟩ = some (.int .i64 gd) := (hd17 _ _ q_ahead).trans c16_ahead_1
          have c17_want_0 : w17.cell? ⟨w5.heap.size, 0, none⟩ = some (.int .i64 gn) := (hd17 _ _ q_want).trans c16_want_0
          have c17_want_1 : w17.cell? ⟨w5.heap.size, 1, none⟩ = some (.int .i64 gd) := (hd17 _ _ q_want).trans c16_want_1
          have c17_set_0 : w17.cell? ⟨w6.heap.size, 0, none⟩ = some (.int .i64 zn) := (hd17 _ _ q_set).trans c16_set_0
          have c17_set_1 : w17.cell? ⟨w6.heap.size, 1, none⟩ = some (.int .i64 zd) := (hd17 _ _ q_set).trans c16_set_1
          have c17_set_2 : w17.cell? ⟨w6.heap.size, 2, none⟩ = some (.int .i64 zp) := (hd17 _ _ q_set).trans c16_set_2
          have c17_set_3 : w17.cell? ⟨w6.heap.size, 3, none⟩ = some (.int .i64 zq) := (hd17 _ _ q_set).trans c16_set_3
          have c17_model_0 : w17.cell? ⟨w7.heap.size, 0, none⟩ = some (.int .i64 zn) := (hd17 _ _ q_model).trans c16_model_0
          have c17_model_1 : w17.cell? ⟨w7.heap.size, 1, none⟩ = some (.int .i64 zd) := (hd17 _ _ q_model).trans c16_model_1
          have c17_model_2 : w17.cell? ⟨w7.heap.size, 2, none⟩ = some (.int .i64 zp) := (hd17 _ _ q_model).trans c16_model_2
          have c17_model_3 : w17.cell? ⟨w7.heap.size, 3, none⟩ = some (.int .i64 zq) := (hd17 _ _ q_model).trans c16_model_3
          have c17_d_0 : w17.cell? ⟨w12.heap.size, 0, none⟩ = some (.int .i64 n2) := (hd17 _ _ q_d).trans c16_d_0
          have c17_d_1 : w17.cell? ⟨w12.heap.size, 1, none⟩ = some (.int .i64 d2) := (hd17 _ _ q_d).trans c16_d_1
          have c17_d_2 : w17.cell? ⟨w12.heap.size, 2, none⟩ = some (.int .i64 x2) := (hd17 _ _ q_d).trans c16_d_2
          have c17_d_3 : w17.cell? ⟨w12.heap.size, 3, none⟩ = some (.int .i64 y2) := (hd17 _ _ q_d).trans c16_d_3
          have c17_first_0 : w17.cell? ⟨w13.heap.size, 0, none⟩ = some (.int .i64 fn) := (hd17 _ _ q_first).trans c16_first_0
          have c17_first_1 : w17.cell? ⟨w13.heap.size, 1, none⟩ = some (.int .i64 fd) := (hd17 _ _ q_first).trans c16_first_1
          have c17_value_0 : w17.cell? ⟨w14.heap.size, 0, none⟩ = some (.int .i64 fn) := (hd17 _ _ q_value).trans c16_value_0
          have c17_value_1 : w17.cell? ⟨w14.heap.size, 1, none⟩ = some (.int .i64 fd) := (hd17 _ _ q_value).trans c16_value_1
          have c17_every_0 : w17.cell? ⟨w15.heap.size, 0, none⟩ = some (.int .i64 rn) := (hd17 _ _ q_every).trans c16_every_0
          have c17_every_1 : w17.cell? ⟨w15.heap.size, 1, none⟩ = some (.int .i64 rd) := (hd17 _ _ q_every).trans c16_every_1
          replace q_c : w1.heap.size < w17.heap.size := by omega
          replace q_s : w1.heap.size + 1 < w17.heap.size := by omega
          replace q_shown : w2.heap.size < w17.heap.size := by omega
          replace q_right : w3.heap.size < w17.heap.size := by omega
          replace q_ahead : w4.heap.size < w17.heap.size := by omega
          replace q_want : w5.heap.size < w17.heap.size := by omega
          replace q_set : w6.heap.size < w17.heap.size := by omega
          replace q_model : w7.heap.size < w17.heap.size := by omega
          replace q_d : w12.heap.size < w17.heap.size := by omega
          replace q_first : w13.heap.size < w17.heap.size := by omega
          replace q_value : w14.heap.size < w17.heap.size := by omega
          replace q_every : w15.heap.size < w17.heap.size := by omega
          have BW17 : Below w.heap.size w w17 := BW16.trans (hb17.mono BW16.size)
          clear hb17 hd17 c16_c_0 c16_c_1 c16_c_2 c16_c_3 c16_s_0 c16_s_1 c16_shown_0 c16_shown_1 c16_right_0 c16_right_1 c16_ahead_0 c16_ahead_1 c16_want_0 c16_want_1 c16_set_0 c16_set_1 c16_set_2 c16_set_3 c16_model_0 c16_model_1 c16_model_2 c16_model_3 c16_d_0 c16_d_1 c16_d_2 c16_d_3 c16_first_0 c16_first_1 c16_value_0 c16_value_1 c16_every_0 c16_every_1 BW16
          go_cut [238] from 999 to 999 (fun x wx => x = .bool false ∧ Below w17.heap.size w17 wx)
          case first =>
            as_aux_lemma =>
              refine wp_region_below (by kernel_rfl) (by kernel_rfl) ?_
              (apply wpB_take (hw := rfl); (intro wq hq; obtain ⟨hcq, hfq⟩ := bcell hq; unfold atB; go_simp; exact ⟨rfl, rfl⟩); (rw [put_lit]; dsimp only [List.set]))
              (apply wpB_take (hw := rfl); (intro wq hq; obtain ⟨hcq, hfq⟩ := bcell hq; unfold atB; go_simp; exact ⟨rfl, rfl⟩); (rw [put_lit]; dsimp only [List.set]))
              (apply wpB_take (hw := rfl); (intro wq hq; obtain ⟨hcq, hfq⟩ := bcell hq; unfold atB; go_simp; exact ⟨rfl, rfl⟩); (rw [put_lit]; dsimp only [List.set]))
              (apply wpB_take (hw := rfl); (intro wq hq; obtain ⟨hcq, hfq⟩ := bcell hq; unfold atB; go_simp; exact ⟨rfl, rfl⟩); (rw [put_lit]; dsimp only [List.set]))
              (apply wpB_take (hw := rfl); (intro wq hq; obtain ⟨hcq, hfq⟩ := bcell hq; unfold atB; go_simp; exact ⟨rfl, rfl⟩); (rw [put_lit]; dsimp only [List.set]))
              (apply wpB_take (hw := rfl); (intro wq hq; obtain ⟨hcq, hfq⟩ := bcell hq; unfold atB; go_simp; exact ⟨rfl, rfl⟩); (rw [put_lit]; dsimp only [List.set]))
              (apply wpB_take (hw := rfl); (intro wq hq; obtain ⟨hcq, hfq⟩ := bcell hq; unfold atB; go_simp; exact ⟨rfl, rfl⟩); (rw [put_lit]; dsimp only [List.set]))
              (apply wpB_take (hw := rfl); (intro wq hq; obtain ⟨hcq, hfq⟩ := bcell hq; unfold atB; go_simp; exact ⟨rfl, rfl⟩); (rw [put_lit]; dsimp only [List.set]))
              (apply wpB_take (hw := rfl); (intro wq hq; obtain ⟨hcq, hfq⟩ := bcell hq; unfold atB; go_simp; exact ⟨rfl, rfl⟩); (rw [put_lit]; dsimp only [List.set]))
              (apply wpB_take (hw := rfl); (intro wq hq; obtain ⟨hcq, hfq⟩ := bcell hq; unfold atB; go_simp; exact ⟨rfl, rfl⟩); (rw [put_lit]; dsimp only [List.set]))
              (apply wpB_take (hw := rfl); (intro wq hq; obtain ⟨hcq, hfq⟩ := bcell hq; unfold atB; go_simp; exact ⟨rfl, rfl⟩); (rw [put_lit]; dsimp only [List.set]))
              (apply wpB_take (hw := rfl); (intro wq hq; obtain ⟨hcq, hfq⟩ := bcell hq; unfold atB; go_simp; exact ⟨rfl, rfl⟩); (rw [put_lit]; dsimp only [List.set]))
              (apply wpB_take (hw := rfl); (intro wq hq; obtain ⟨hcq, hfq⟩ := bcell hq; unfold atB; go_simp; exact ⟨rfl, rfl⟩); (rw [put_lit]; dsimp only [List.set]))
              (apply wpB_take (hw := rfl); (intro wq hq; obtain ⟨hcq, hfq⟩ := bcell hq; unfold atB; go_simp; exact ⟨rfl, rfl⟩); (rw [put_lit]; dsimp only [List.set]))
              (apply wpB_take (hw := rfl); (intro wq hq; obtain ⟨hcq, hfq⟩ := bcell hq; unfold atB; go_simp; exact ⟨rfl, rfl⟩); (rw [put_lit]; dsimp only [List.set]))
              (apply wpB_take (hw := rfl); (intro wq hq; obtain ⟨hcq, hfq⟩ := bcell hq; unfold atB; go_simp; exact ⟨rfl, rfl⟩); (rw [put_lit]; dsimp only [List.set]))
              (apply wpB_take (hw := rfl); (intro wq hq; obtain ⟨hcq, hfq⟩ := bcell hq; unfold atB; go_simp; exact ⟨rfl, rfl⟩); (rw [put_lit]; dsimp only [List.set]))
              (apply wpB_take (hw := rfl); (intro wq hq; obtain ⟨hcq, hfq⟩ := bcell hq; unfold atB; go_simp; exact ⟨rfl, rfl⟩); (rw [put_lit]; dsimp only [List.set]))
              (apply wpB_take (hw := rfl); (intro wq hq; obtain ⟨hcq, hfq⟩ := bcell hq; unfold atB; go_simp; exact ⟨rfl, rfl⟩); (rw [put_lit]; dsimp only [List.set]))
              (apply wpB_take (hw := rfl); (intro wq hq; obtain ⟨hcq, hfq⟩ := bcell hq; unfold atB; go_simp; exact ⟨rfl, rfl⟩); (rw [put_lit]; dsimp only [List.set]))
              (apply wpB_take (hw := rfl); (intro wq hq; unfold atB; go_simp; exact ⟨rfl, isClock_is n2 d2 x2 y2 HCB.out _⟩); (rw [put_lit]; dsimp only [List.set]))
              (apply wpB_take (hw := rfl); (intro wq hq; obtain ⟨hcq, hfq⟩ := bcell hq; unfold atB; go_simp; exact ⟨rfl, rfl⟩); (rw [put_lit]; dsimp only [List.set]))
              (apply wpB_take (hw := rfl); (intro wq hq; unfold atB; go_simp; exact ⟨rfl, specIsClock_is n2 d2 x2 y2 HCB.out kd2 _⟩); (rw [put_lit]; dsimp only [List.set]))
              (apply wpB_take (hw := rfl); (intro wq hq; obtain ⟨hcq, hfq⟩ := bcell hq; unfold atB; go_simp; exact ⟨rfl, rfl⟩); (rw [put_lit]; dsimp only [List.set]))
              (apply wpB_take (hw := rfl); (intro wq hq; obtain ⟨hcq, hfq⟩ := bcell hq; unfold atB; go_simp; exact ⟨rfl, rfl⟩); (rw [put_lit]; dsimp only [List.set]))
              (apply wpB_take (hw := rfl); (intro wq hq; obtain ⟨hcq, hfq⟩ := bcell hq; unfold atB; go_simp; exact ⟨rfl, rfl⟩); (rw [put_lit]; dsimp only [List.set]))
              (apply wpB_take (hw := rfl); (intro wq hq; obtain ⟨hcq, hfq⟩ := bcell hq; unfold atB; go_simp; exact ⟨rfl, rfl⟩); (rw [put_lit]; dsimp only [List.set]))
              (apply wpB_take (hw := rfl); (intro wq hq; obtain ⟨hcq, hfq⟩ := bcell hq; unfold atB; go_simp; exact ⟨rfl, rfl⟩); (rw [put_lit]; dsimp only [List.set]))
              cases fo
              · (apply wpB_skip (hw := rfl); try (rw [put_lit]; dsimp only [List.set]))
                (apply wpB_skip (hw := rfl); try (rw [put_lit]; dsimp only [List.set]))
                (apply wpB_skip (hw := rfl); try (rw [put_lit]; dsimp only [List.set]))
                (apply wpB_take (hw := rfl); (intro wq hq; obtain ⟨hcq, hfq⟩ := bcell hq; unfold atB; go_simp; exact ⟨rfl, rfl⟩); (rw [put_lit]; dsimp only [List.set]))
                (apply wpB_take (hw := rfl); (intro wq hq; obtain ⟨hcq, hfq⟩ := bcell hq; unfold atB; go_simp; exact ⟨rfl, rfl⟩); (rw [put_lit]; dsimp only [List.set]))
                (apply wpB_take (hw := rfl); (intro wq hq; obtain ⟨hcq, hfq⟩ := bcell hq; unfold atB; go_simp; exact ⟨rfl, rfl⟩); (rw [put_lit]; dsimp only [List.set]))
                (apply wpB_take (hw := rfl); (intro wq hq; obtain ⟨hcq, hfq⟩ := bcell hq; unfold atB; go_simp; exact ⟨rfl, rfl⟩); (rw [put_lit]; dsimp only [List.set]))
                (apply wpB_take (hw := rfl); (intro wq hq; obtain ⟨hcq, hfq⟩ := bcell hq; unfold atB; go_simp; exact ⟨rfl, rfl⟩); (rw [put_lit]; dsimp only [List.set]))
                cases ro
                · (apply wpB_skip (hw := rfl); try (rw [put_lit]; dsimp only [List.set]))
                  (apply wpB_skip (hw := rfl); try (rw [put_lit]; dsimp only [List.set]))
                  (apply wpB_skip (hw := rfl); try (rw [put_lit]; dsimp only [List.set]))
                  (apply wpB_take (hw := rfl); (intro wq hq; obtain ⟨hcq, hfq⟩ := bcell hq; unfold atB; go_simp; exact ⟨rfl, rfl⟩); (rw [put_lit]; dsimp only [List.set]))
                  (apply wpB_take (hw := rfl); (intro wq hq; obtain ⟨hcq, hfq⟩ := bcell hq; unfold atB; go_simp; exact ⟨rfl, rfl⟩); (rw [put_lit]; dsimp only [List.set]))
                  refine fun wx hbx => ?_
                  simp only [Exit.then]
                  refine (by assumption : ∀ (a' : Act) (w' : World), Met _ a' w' → _) _ _ ?_
                  go_meet
                  case rel => exact ⟨rfl, hbx⟩
                · obtain rfl : cb = true := HCB.out.symm.trans (G7.out rfl)
                  (apply wpB_take (hw := rfl); (intro wq hq; obtain ⟨hcq, hfq⟩ := bcell hq; unfold atB; go_simp; exact ⟨rfl, rfl⟩); (rw [put_lit]; dsimp only [List.set]))
                  (apply wpB_take (hw := rfl); (intro wq hq; unfold atB; go_simp; exact ⟨rfl, isClock_is n2 d2 x2 y2 HCB.out _⟩); (rw [put_lit]; dsimp only [List.set]))
                  (apply wpB_take (hw := rfl); (intro wq hq; obtain ⟨hcq, hfq⟩ := bcell hq; unfold atB; go_simp; exact ⟨rfl, rfl⟩); (rw [put_lit]; dsimp only [List.set]))
                  (apply wpB_take (hw := rfl); (intro wq hq; obtain ⟨hcq, hfq⟩ := bcell hq; unfold atB; go_simp; exact ⟨rfl, rfl⟩); (rw [put_lit]; dsimp only [List.set]))
                  (apply wpB_take (hw := rfl); (intro wq hq; obtain ⟨hcq, hfq⟩ := bcell hq; unfold atB; go_simp; exact ⟨rfl, rfl⟩); (rw [put_lit]; dsimp only [List.set]))
                  refine fun wx hbx => ?_
                  simp only [Exit.then]
                  refine (by assumption : ∀ (a' : Act) (w' : World), Met _ a' w' → _) _ _ ?_
                  go_meet
                  case rel => exact ⟨rfl, hbx⟩
              · obtain rfl : cb = true := HCB.out.symm.trans (G6.out rfl)
                (apply wpB_take (hw := rfl); (intro wq hq; obtain ⟨hcq, hfq⟩ := bcell hq; unfold atB; go_simp; exact ⟨rfl, rfl⟩); (rw [put_lit]; dsimp only [List.set]))
                (apply wpB_take (hw := rfl); (intro wq hq; unfold atB; go_simp; exact ⟨rfl, isClock_is n2 d2 x2 y2 HCB.out _⟩); (rw [put_lit]; dsimp only [List.set]))
                (apply wpB_take (hw := rfl); (intro wq hq; obtain ⟨hcq, hfq⟩ := bcell hq; unfold atB; go_simp; exact ⟨rfl, rfl⟩); (rw [put_lit]; dsimp only [List.set]))
                (apply wpB_take (hw := rfl); (intro wq hq; obtain ⟨hcq, hfq⟩ := bcell hq; unfold atB; go_simp; exact ⟨rfl, rfl⟩); (rw [put_lit]; dsimp only [List.set]))
                (apply wpB_take (hw := rfl); (intro wq hq; obtain ⟨hcq, hfq⟩ := bcell hq; unfold atB; go_simp; exact ⟨rfl, rfl⟩); (rw [put_lit]; dsimp only [List.set]))
                (apply wpB_take (hw := rfl); (intro wq hq; obtain ⟨hcq, hfq⟩ := bcell hq; unfold atB; go_simp; exact ⟨rfl, rfl⟩); (rw [put_lit]; dsimp only [List.set]))
                (apply wpB_take (hw := rfl); (intro wq hq; obtain ⟨hcq, hfq⟩ := bcell hq; unfold atB; go_simp; exact ⟨rfl, rfl⟩); (rw [put_lit]; dsimp only [List.set]))
                (apply wpB_take (hw := rfl); (intro wq hq; obtain ⟨hcq, hfq⟩ := bcell hq; unfold atB; go_simp; exact ⟨rfl, rfl⟩); (rw [put_lit]; dsimp only [List.set]))
                cases ro
                · (apply wpB_skip (hw := rfl); try (rw [put_lit]; dsimp only [List.set]))
                  (apply wpB_skip (hw := rfl); try (rw [put_lit]; dsimp only [List.set]))
                  (apply wpB_skip (hw := rfl); try (rw [put_lit]; dsimp only [List.set]))
                  (apply wpB_take (hw := rfl); (intro wq hq; obtain ⟨hcq, hfq⟩ := bcell hq; unfold atB; go_simp; exact ⟨rfl, rfl⟩); (rw [put_lit]; dsimp only [List.set]))
                  (apply wpB_take (hw := rfl); (intro wq hq; obtain ⟨hcq, hfq⟩ := bcell hq; unfold atB; go_simp; exact ⟨rfl, rfl⟩); (rw [put_lit]; dsimp only [List.set]))
                  refine fun wx hbx => ?_
                  simp only [Exit.then]
                  refine (by assumption : ∀ (a' : Act) (w' : World), Met _ a' w' → _) _ _ ?_
                  go_meet
                  case rel => exact ⟨rfl, hbx⟩
                · (apply wpB_take (hw := rfl); (intro wq hq; obtain ⟨hcq, hfq⟩ := bcell hq; unfold atB; go_simp; exact ⟨rfl, rfl⟩); (rw [put_lit]; dsimp only [List.set]))
                  (apply wpB_take (hw := rfl); (intro wq hq; unfold atB; go_simp; exact ⟨rfl, isClock_is n2 d2 x2 y2 HCB.out _⟩); (rw [put_lit]; dsimp only [List.set]))
                  (apply wpB_take (hw := rfl); (intro wq hq; obtain ⟨hcq, hfq⟩ := bcell hq; unfold atB; go_simp; exact ⟨rfl, rfl⟩); (rw [put_lit]; dsimp only [List.set]))
                  (apply wpB_take (hw := rfl); (intro wq hq; obtain ⟨hcq, hfq⟩ := bcell hq; unfold atB; go_simp; exact ⟨rfl, rfl⟩); (rw [put_lit]; dsimp only [List.set]))
                  (apply wpB_take (hw := rfl); (intro wq hq; obtain ⟨hcq, hfq⟩ := bcell hq; unfold atB; go_simp; exact ⟨rfl, rfl⟩); (rw [put_lit]; dsimp only [List.set]))
                  refine fun wx hbx => ?_
                  simp only [Exit.then]
                  refine (by assumption : ∀ (a' : Act) (w' : World), Met _ a' w' → _) _ _ ?_
                  go_meet
                  case rel => exact ⟨rfl, hbx⟩
          case rest =>
            obtain ⟨rfl, hb18⟩ := hcut
            obtain ⟨w18, hw18⟩ : ∃ x : World, x = wc := ⟨_, rfl⟩
            subst hw18
            obtain ⟨hc18, hf18⟩ := bcell hb18
            have hz18 := hb18.size
            (try simp only [World.size_alloc, World.size_setCell, World.size_drew] at hz18)
            have B18 : Below w17.heap.size w17 w18 := Below.trans (b := _) (by (repeat' (first | (with_reducible exact Below.refl _ _) | (with_reducible assumption) | (with_reducible refine Below.alloc ?_ ?_ _) | (with_reducible refine Below.drew ?_) | (with_reducible refine below_drewN ?_ _) | (with_reducible refine Below.setCell ?_ ?_ _) | (with_reducible refine below_call ?_ ?_ (by assumption)) | go_size))) (hb18.mono (by first | omega | (simp only [World.size_alloc, World.size_setCell, World.size_drew]; omega)))
            obtain ⟨hd18, -⟩ := bcell B18
            have c18_c_0 : w18.cell? ⟨w1.heap.size, 0, none⟩ = some (.int .i64 n0) := (hd18 _ _ q_c).trans c17_c_0
            have c18_c_1 : w18.cell? ⟨w1.heap.size, 1, none⟩ = some (.int .i64 d0) := (hd18 _ _ q_c).trans c17_c_1
            have c18_c_2 : w18.cell? ⟨w1.heap.size, 2, none⟩ = some (.int .i64 x0) := (hd18 _ _ q_c).trans c17_c_2
            have c18_c_3 : w18.cell? ⟨w1.heap.size, 3, none⟩ = some (.int .i64 y0) := (hd18 _ _ q_c).trans c17_c_3
            have c18_s_0 : w18.cell? ⟨w1.heap.size + 1, 0, none⟩ = some (.int .i64 n1) := (hd18 _ _ q_s).trans c17_s_0
            have c18_s_1 : w18.cell? ⟨w1.heap.size + 1, 1, none⟩ = some (.int .i64 d1) := (hd18 _ _ q_s).trans c17_s_1
            have c18_shown_0 : w18.cell? ⟨w2.heap.size, 0, none⟩ = some (.int .i64 un) := (hd18 _ _ q_shown).trans c17_shown_0
            have c18_shown_1 : w18.cell? ⟨w2.heap.size, 1, none⟩ = some (.int .i64 ud) := (hd18 _ _ q_shown).trans c17_shown_1
            have c18_right_0 : w18.cell? ⟨w3.heap.size, 0, none⟩ = some (.int .i64 un) := (hd18 _ _ q_right).trans c17_right_0
            have c18_right_1 : w18.cell? ⟨w3.heap.size, 1, none⟩ = some (.int .i64 ud) := (hd18 _ _ q_right).trans c17_right_1
            have c18_ahead_0 : w18.cell? ⟨w4.heap.size, 0, none⟩ = some (.int .i64 gn) := (hd18 _ _ q_ahead).trans c17_ahead_0
            have c18_ahead_1 : w18.cell? ⟨w4.heap.size, 1, none⟩ = some (.int .i64 gd) := (hd18 _ _ q_ahead).trans c17_ahead_1
            have c18_want_0 : w18.cell? ⟨w5.heap.size, 0, none⟩ = some (.int .i64 gn) := (hd18 _ _ q_want).trans c17_want_0
            have c18_want_1 : w18.cell? ⟨w5.heap.size, 1, none⟩ = some (.int .i64 gd) := (hd18 _ _ q_want).trans c17_want_1
            have c18_set_0 : w18.cell? ⟨w6.heap.size, 0, none⟩ = some (.int .i64 zn) := (hd18 _ _ q_set).trans c17_set_0
            have c18_set_1 : w18.cell? ⟨w6.heap.size, 1, none⟩ = some (.int .i64 zd) := (hd18 _ _ q_set).trans c17_set_1
            have c18_set_2 : w18.cell? ⟨w6.heap.size, 2, none⟩ = some (.int .i64 zp) := (hd18 _ _ q_set).trans c17_set_2
            have c18_set_3 : w18.cell? ⟨w6.heap.size, 3, none⟩ = some (.int .i64 zq) := (hd18 _ _ q_set).trans c17_set_3
            have c18_model_0 : w18.cell? ⟨w7.heap.size, 0, none⟩ = some (.int .i64 zn) := (hd18 _ _ q_model).trans c17_model_0
            have c18_model_1 : w18.cell? ⟨w7.heap.size, 1, none⟩ = some (.int .i64 zd) := (hd18 _ _ q_model).trans c17_model_1
            have c18_model_2 : w18.cell? ⟨w7.heap.size, 2, none⟩ = some (.int .i64 zp) := (hd18 _ _ q_model).trans c17_model_2
            have c18_model_3 : w18.cell? ⟨w7.heap.size, 3, none⟩ = some (.int .i64 zq) := (hd18 _ _ q_model).trans c17_model_3
            have c18_d_0 : w18.cell? ⟨w12.heap.size, 0, none⟩ = some (.int .i64 n2) := (hd18 _ _ q_d).trans c17_d_0
            have c18_d_1 : w18.cell? ⟨w12.heap.size, 1, none⟩ = some (.int .i64 d2) := (hd18 _ _ q_d).trans c17_d_1
            have c18_d_2 : w18.cell? ⟨w12.heap.size, 2, none⟩ = some (.int .i64 x2) := (hd18 _ _ q_d).trans c17_d_2
            have c18_d_3 : w18.cell? ⟨w12.heap.size, 3, none⟩ = some (.int .i64 y2) := (hd18 _ _ q_d).trans c17_d_3
            have c18_first_0 : w18.cell? ⟨w13.heap.size, 0, none⟩ = some (.int .i64 fn) := (hd18 _ _ q_first).trans c17_first_0
            have c18_first_1 : w18.cell? ⟨w13.heap.size, 1, none⟩ = some (.int .i64 fd) := (hd18 _ _ q_first).trans c17_first_1
            have c18_value_0 : w18.cell? ⟨w14.heap.size, 0, none⟩ = some (.int .i64 fn) := (hd18 _ _ q_value).trans c17_value_0
            have c18_value_1 : w18.cell? ⟨w14.heap.size, 1, none⟩ = some (.int .i64 fd) := (hd18 _ _ q_value).trans c17_value_1
            have c18_every_0 : w18.cell? ⟨w15.heap.size, 0, none⟩ = some (.int .i64 rn) := (hd18 _ _ q_every).trans c17_every_0
            have c18_every_1 : w18.cell? ⟨w15.heap.size, 1, none⟩ = some (.int .i64 rd) := (hd18 _ _ q_every).trans c17_every_1
            have c18_due_0 : w18.cell? ⟨w16.heap.size, 0, none⟩ = some (.int .i64 rn) := (hd18 _ _ q_due).trans c17_due_0
            have c18_due_1 : w18.cell? ⟨w16.heap.size, 1, none⟩ = some (.int .i64 rd) := (hd18 _ _ q_due).trans c17_due_1
            replace q_c : w1.heap.size < w18.heap.size := by omega
            replace q_s : w1.heap.size + 1 < w18.heap.size := by omega
            replace q_shown : w2.heap.size < w18.heap.size := by omega
            replace q_right : w3.heap.size < w18.heap.size := by omega
            replace q_ahead : w4.heap.size < w18.heap.size := by omega
            replace q_want : w5.heap.size < w18.heap.size := by omega
            replace q_set : w6.heap.size < w18.heap.size := by omega
            replace q_model : w7.heap.size < w18.heap.size := by omega
            replace q_d : w12.heap.size < w18.heap.size := by omega
            replace q_first : w13.heap.size < w18.heap.size := by omega
            replace q_value : w14.heap.size < w18.heap.size := by omega
            replace q_every : w15.heap.size < w18.heap.size := by omega
            replace q_due : w16.heap.size < w18.heap.size := by omega
            have BW18 : Below w.heap.size w w18 := BW17.trans (B18.mono BW17.size)
            clear hc18 hf18 hb18 hd18 B18 c17_c_0 c17_c_1 c17_c_2 c17_c_3 c17_s_0 c17_s_1 c17_shown_0 c17_shown_1 c17_right_0 c17_right_1 c17_ahead_0 c17_ahead_1 c17_want_0 c17_want_1 c17_set_0 c17_set_1 c17_set_2 c17_set_3 c17_model_0 c17_model_1 c17_model_2 c17_model_3 c17_d_0 c17_d_1 c17_d_2 c17_d_3 c17_first_0 c17_first_1 c17_value_0 c17_value_1 c17_every_0 c17_every_1 c17_due_0 c17_due_1 BW17
            go_upto_if 239 with fail
            go_cut [] from 999 to 999 (fun wx => Below w18.heap.size w18 wx)
            case first =>
              as_aux_lemma =>
                cases fo
                · go_wp2_with fail
                  go_meet
                  case rel => exact Below.refl _ _
                · obtain ⟨-, h2, h3⟩ := G3.out rfl
                  have Z1 := Lib.hid (fun W => (show Calls Try.prog 9 #[cv n2 d2 x2 y2, tv fn fd] W fun e w' => e = .returned (rv (0, 1, true)) ∧ Below W.heap.size W w' from by have := implAheadAfter_any n2 d2 x2 y2 fn fd W; rw [h2] at this; exact this))
                  clear h2
                  go_wp2_with fail
                  refine (Z1.out _).mono ?_
                  rintro e19 w19 ⟨rfl, hb19⟩
                  obtain ⟨hc19, hf19⟩ := bcell hb19
                  have hz19 := hb19.size
                  (try simp only [World.size_alloc, World.size_setCell, World.size_drew] at hz19)
                  have B19 : Below w18.heap.size w18 w19 := Below.trans (b := _) (by (repeat' (first | (with_reducible exact Below.refl _ _) | (with_reducible assumption) | (with_reducible refine Below.alloc ?_ ?_ _) | (with_reducible refine Below.drew ?_) | (with_reducible refine below_drewN ?_ _) | (with_reducible refine Below.setCell ?_ ?_ _) | (with_reducible refine below_call ?_ ?_ (by assumption)) | go_size))) (hb19.mono (by first | omega | (simp only [World.size_alloc, World.size_setCell, World.size_drew]; omega)))
                  obtain ⟨hd19, -⟩ := bcell B19
                  have c19_c_0 : w19.cell? ⟨w1.heap.size, 0, none⟩ = some (.int .i64 n0) := (hd19 _ _ q_c).trans c18_c_0
                  have c19_c_1 : w19.cell? ⟨w1.heap.size, 1, none⟩ = some (.int .i64 d0) := (hd19 _ _ q_c).trans c18_c_1
                  have c19_c_2 : w19.cell? ⟨w1.heap.size, 2, none⟩ = some (.int .i64 x0) := (hd19 _ _ q_c).trans c18_c_2
                  have c19_c_3 : w19.cell? ⟨w1.heap.size, 3, none⟩ = some (.int .i64 y0) := (hd19 _ _ q_c).trans c18_c_3
                  have c19_s_0 : w19.cell? ⟨w1.heap.size + 1, 0, none⟩ = some (.int .i64 n1) := (hd19 _ _ q_s).trans c18_s_0
                  have c19_s_1 : w19.cell? ⟨w1.heap.size + 1, 1, none⟩ = some (.int .i64 d1) := (hd19 _ _ q_s).trans c18_s_1
                  have c19_shown_0 : w19.cell? ⟨w2.heap.size, 0, none⟩ = some (.int .i64 un) := (hd19 _ _ q_shown).trans c18_shown_0
                  have c19_shown_1 : w19.cell? ⟨w2.heap.size, 1, none⟩ = some (.int .i64 ud) := (hd19 _ _ q_shown).trans c18_shown_1
                  have c19_right_0 : w19.cell? ⟨w3.heap.size, 0, none⟩ = some (.int .i64 un) := (hd19 _ _ q_right).trans c18_right_0
                  have c19_right_1 : w19.cell? ⟨w3.heap.size, 1, none⟩ = some (.int .i64 ud) := (hd19 _ _ q_right).trans c18_right_1
                  have c19_ahead_0 : w19.cell? ⟨w4.heap.size, 0, none⟩ = some (.int .i64 gn) := (hd19 _ _ q_ahead).trans c18_ahead_0
                  have c19_ahead_1 : w19.cell? ⟨w4.heap.size, 1, none⟩ = some (.int .i64 gd) := (hd19 _ _ q_ahead).trans c18_ahead_1
                  have c19_want_0 : w19.cell? ⟨w5.heap.size, 0, none⟩ = some (.int .i64 gn) := (hd19 _ _ q_want).trans c18_want_0
                  have c19_want_1 : w19.cell? ⟨w5.heap.size, 1, none⟩ = some (.int .i64 gd) := (hd19 _ _ q_want).trans c18_want_1
                  have c19_set_0 : w19.cell? ⟨w6.heap.size, 0, none⟩ = some (.int .i64 zn) := (hd19 _ _ q_set).trans c18_set_0
                  have c19_set_1 : w19.cell? ⟨w6.heap.size, 1, none⟩ = some (.int .i64 zd) := (hd19 _ _ q_set).trans c18_set_1
                  have c19_set_2 : w19.cell? ⟨w6.heap.size, 2, none⟩ = some (.int .i64 zp) := (hd19 _ _ q_set).trans c18_set_2
                  have c19_set_3 : w19.cell? ⟨w6.heap.size, 3, none⟩ = some (.int .i64 zq) := (hd19 _ _ q_set).trans c18_set_3
                  have c19_model_0 : w19.cell? ⟨w7.heap.size, 0, none⟩ = some (.int .i64 zn) := (hd19 _ _ q_model).trans c18_model_0
                  have c19_model_1 : w19.cell? ⟨w7.heap.size, 1, none⟩ = some (.int .i64 zd) := (hd19 _ _ q_model).trans c18_model_1
                  have c19_model_2 : w19.cell? ⟨w7.heap.size, 2, none⟩ = some (.int .i64 zp) := (hd19 _ _ q_model).trans c18_model_2
                  have c19_model_3 : w19.cell? ⟨w7.heap.size, 3, none⟩ = some (.int .i64 zq) := (hd19 _ _ q_model).trans c18_model_3
                  have c19_d_0 : w19.cell? ⟨w12.heap.size, 0, none⟩ = some (.int .i64 n2) := (hd19 _ _ q_d).trans c18_d_0
                  have c19_d_1 : w19.cell? ⟨w12.heap.size, 1, none⟩ = some (.int .i64 d2) := (hd19 _ _ q_d).trans c18_d_1
                  have c19_d_2 : w19.cell? ⟨w12.heap.size, 2, none⟩ = some (.int .i64 x2) := (hd19 _ _ q_d).trans c18_d_2
                  have c19_d_3 : w19.cell? ⟨w12.heap.size, 3, none⟩ = some (.int .i64 y2) := (hd19 _ _ q_d).trans c18_d_3
                  have c19_first_0 : w19.cell? ⟨w13.heap.size, 0, none⟩ = some (.int .i64 fn) := (hd19 _ _ q_first).trans c18_first_0
                  have c19_first_1 : w19.cell? ⟨w13.heap.size, 1, none⟩ = some (.int .i64 fd) := (hd19 _ _ q_first).trans c18_first_1
                  have c19_value_0 : w19.cell? ⟨w14.heap.size, 0, none⟩ = some (.int .i64 fn) := (hd19 _ _ q_value).trans c18_value_0
                  have c19_value_1 : w19.cell? ⟨w14.heap.size, 1, none⟩ = some (.int .i64 fd) := (hd19 _ _ q_value).trans c18_value_1
                  have c19_every_0 : w19.cell? ⟨w15.heap.size, 0, none⟩ = some (.int .i64 rn) := (hd19 _ _ q_every).trans c18_every_0
                  have c19_every_1 : w19.cell? ⟨w15.heap.size, 1, none⟩ = some (.int .i64 rd) := (hd19 _ _ q_every).trans c18_every_1
                  have c19_due_0 : w19.cell? ⟨w16.heap.size, 0, none⟩ = some (.int .i64 rn) := (hd19 _ _ q_due).trans c18_due_0
                  have c19_due_1 : w19.cell? ⟨w16.heap.size, 1, none⟩ = some (.int .i64 rd) := (hd19 _ _ q_due).trans c18_due_1
                  replace q_c : w1.heap.size < w19.heap.size := by omega
                  replace q_s : w1.heap.size + 1 < w19.heap.size := by omega
                  replace q_shown : w2.heap.size < w19.heap.size := by omega
                  replace q_right : w3.heap.size < w19.heap.size := by omega
                  replace q_ahead : w4.heap.size < w19.heap.size := by omega
                  replace q_want : w5.heap.size < w19.heap.size := by omega
                  replace q_set : w6.heap.size < w19.heap.size := by omega
                  replace q_model : w7.heap.size < w19.heap.size := by omega
                  replace q_d : w12.heap.size < w19.heap.size := by omega
                  replace q_first : w13.heap.size < w19.heap.size := by omega
                  replace q_value : w14.heap.size < w19.heap.size := by omega
                  replace q_every : w15.heap.size < w19.heap.size := by omega
                  replace q_due : w16.heap.size < w19.heap.size := by omega
                  have BW19 : Below w.heap.size w w19 := BW18.trans (B19.mono BW18.size)
                  have BX19 : Below w18.heap.size w18 w19 := B19
                  clear hc19 hf19 hb19 hd19 B19 c18_c_0 c18_c_1 c18_c_2 c18_c_3 c18_s_0 c18_s_1 c18_shown_0 c18_shown_1 c18_right_0 c18_right_1 c18_ahead_0 c18_ahead_1 c18_want_0 c18_want_1 c18_set_0 c18_set_1 c18_set_2 c18_set_3 c18_model_0 c18_model_1 c18_model_2 c18_model_3 c18_d_0 c18_d_1 c18_d_2 c18_d_3 c18_first_0 c18_first_1 c18_value_0 c18_value_1 c18_every_0 c18_every_1 c18_due_0 c18_due_1 BW18
                  go_upto_region 30 with fail
                  have hb20 : Below w19.heap.size w19 (w19.alloc (Obj.cells #[.int .i64 0, .int .i64 1] 25)) := by (repeat' (first | (with_reducible exact Below.refl _ _) | (with_reducible assumption) | (with_reducible refine Below.alloc ?_ ?_ _) | (with_reducible refine Below.drew ?_) | (with_reducible refine below_drewN ?_ _) | (with_reducible refine Below.setCell ?_ ?_ _) | (with_reducible refine below_call ?_ ?_ (by assumption)) | go_size))
                  have c20_none2_0 : (w19.alloc (Obj.cells #[.int .i64 0, .int .i64 1] 25)).cell? ⟨w19.heap.size, 0, none⟩ = some (.int .i64 0) := by go_simp
                  have c20_none2_1 : (w19.alloc (Obj.cells #[.int .i64 0, .int .i64 1] 25)).cell? ⟨w19.heap.size, 1, none⟩ = some (.int .i64 1) := by go_simp
                  have q_none2 : w19.heap.size < (w19.alloc (Obj.cells #[.int .i64 0, .int .i64 1] 25)).heap.size := by go_size
                  generalize (w19.alloc (Obj.cells #[.int .i64 0, .int .i64 1] 25)) = w20 at *
                  obtain ⟨hd20, -⟩ := bcell hb20
                  have hz20 := hb20.size
                  have c20_c_0 : w20.cell? ⟨w1.heap.size, 0, none⟩ = some (.int .i64 n0) := (hd20 _ _ q_c).trans c19_c_0
                  have c20_c_1 : w20.cell? ⟨w1.heap.size, 1, none⟩ = some (.int .i64 d0) := (hd20 _ _ q_c).trans c19_c_1
                  have c20_c_2 : w20.cell? ⟨w1.heap.size, 2, none⟩ = some (.int .i64 x0) := (hd20 _ _ q_c).trans c19_c_2
                  have c20_c_3 : w20.cell? ⟨w1.heap.size, 3, none⟩ = some (.int .i64 y0) := (hd20 _ _ q_c).trans c19_c_3
                  have c20_s_0 : w20.cell? ⟨w1.heap.size + 1, 0, none⟩ = some (.int .i64 n1) := (hd20 _ _ q_s).trans c19_s_0
                  have c20_s_1 : w20.cell? ⟨w1.heap.size + 1, 1, none⟩ = some (.int .i64 d1) := (hd20 _ _ q_s).trans c19_s_1
                  have c20_shown_0 : w20.cell? ⟨w2.heap.size, 0, none⟩ = some (.int .i64 un) := (hd20 _ _ q_shown).trans c19_shown_0
                  have c20_shown_1 : w20.cell? ⟨w2.heap.size, 1, none⟩ = some (.int .i64 ud) := (hd20 _ _ q_shown).trans c19_shown_1
                  have c20_right_0 : w20.cell? ⟨w3.heap.size, 0, none⟩ = some (.int .i64 un) := (hd20 _ _ q_right).trans c19_right_0
                  have c20_right_1 : w20.cell? ⟨w3.heap.size, 1, none⟩ = some (.int .i64 ud) := (hd20 _ _ q_right).trans c19_right_1
                  have c20_ahead_0 : w20.cell? ⟨w4.heap.size, 0, none⟩ = some (.int .i64 gn) := (hd20 _ _ q_ahead).trans c19_ahead_0
                  have c20_ahead_1 : w20.cell? ⟨w4.heap.size, 1, none⟩ = some (.int .i64 gd) := (hd20 _ _ q_ahead).trans c19_ahead_1
                  have c20_want_0 : w20.cell? ⟨w5.heap.size, 0, none⟩ = some (.int .i64 gn) := (hd20 _ _ q_want).trans c19_want_0
                  have c20_want_1 : w20.cell? ⟨w5.heap.size, 1, none⟩ = some (.int .i64 gd) := (hd20 _ _ q_want).trans c19_want_1
                  have c20_set_0 : w20.cell? ⟨w6.heap.size, 0, none⟩ = some (.int .i64 zn) := (hd20 _ _ q_set).trans c19_set_0
                  have c20_set_1 : w20.cell? ⟨w6.heap.size, 1, none⟩ = some (.int .i64 zd) := (hd20 _ _ q_set).trans c19_set_1
                  have c20_set_2 : w20.cell? ⟨w6.heap.size, 2, none⟩ = some (.int .i64 zp) := (hd20 _ _ q_set).trans c19_set_2
                  have c20_set_3 : w20.cell? ⟨w6.heap.size, 3, none⟩ = some (.int .i64 zq) := (hd20 _ _ q_set).trans c19_set_3
                  have c20_model_0 : w20.cell? ⟨w7.heap.size, 0, none⟩ = some (.int .i64 zn) := (hd20 _ _ q_model).trans c19_model_0
                  have c20_model_1 : w20.cell? ⟨w7.heap.size, 1, none⟩ = some (.int .i64 zd) := (hd20 _ _ q_model).trans c19_model_1
                  have c20_model_2 : w20.cell? ⟨w7.heap.size, 2, none⟩ = some (.int .i64 zp) := (hd20 _ _ q_model).trans c19_model_2
                  have c20_model_3 : w20.cell? ⟨w7.heap.size, 3, none⟩ = some (.int .i64 zq) := (hd20 _ _ q_model).trans c19_model_3
                  have c20_d_0 : w20.cell? ⟨w12.heap.size, 0, none⟩ = some (.int .i64 n2) := (hd20 _ _ q_d).trans c19_d_0
                  have c20_d_1 : w20.cell? ⟨w12.heap.size, 1, none⟩ = some (.int .i64 d2) := (hd20 _ _ q_d).trans c19_d_1
                  have c20_d_2 : w20.cell? ⟨w12.heap.size, 2, none⟩ = some (.int .i64 x2) := (hd20 _ _ q_d).trans c19_d_2
                  have c20_d_3 : w20.cell? ⟨w12.heap.size, 3, none⟩ = some (.int .i64 y2) := (hd20 _ _ q_d).trans c19_d_3
                  have c20_first_0 : w20.cell? ⟨w13.heap.size, 0, none⟩ = some (.int .i64 fn) := (hd20 _ _ q_first).trans c19_first_0
                  have c20_first_1 : w20.cell? ⟨w13.heap.size, 1, none⟩ = some (.int .i64 fd) := (hd20 _ _ q_first).trans c19_first_1
                  have c20_value_0 : w20.cell? ⟨w14.heap.size, 0, none⟩ = some (.int .i64 fn) := (hd20 _ _ q_value).trans c19_value_0
                  have c20_value_1 : w20.cell? ⟨w14.heap.size, 1, none⟩ = some (.int .i64 fd) := (hd20 _ _ q_value).trans c19_value_1
                  have c20_every_0 : w20.cell? ⟨w15.heap.size, 0, none⟩ = some (.int .i64 rn) := (hd20 _ _ q_every).trans c19_every_0
                  have c20_every_1 : w20.cell? ⟨w15.heap.size, 1, none⟩ = some (.int .i64 rd) := (hd20 _ _ q_every).trans c19_every_1
                  have c20_due_0 : w20.cell? ⟨w16.heap.size, 0, none⟩ = some (.int .i64 rn) := (hd20 _ _ q_due).trans c19_due_0
                  have c20_due_1 : w20.cell? ⟨w16.heap.size, 1, none⟩ = some (.int .i64 rd) := (hd20 _ _ q_due).trans c19_due_1
                  replace q_c : w1.heap.size < w20.heap.size := by omega
                  replace q_s : w1.heap.size + 1 < w20.heap.size := by omega
                  replace q_shown : w2.heap.size < w20.heap.size := by omega
                  replace q_right : w3.heap.size < w20.heap.size := by omega
                  replace q_ahead : w4.heap.size < w20.heap.size := by omega
                  replace q_want : w5.heap.size < w20.heap.size := by omega
                  replace q_set : w6.heap.size < w20.heap.size := by omega
                  replace q_model : w7.heap.size < w20.heap.size := by omega
                  replace q_d : w12.heap.size < w20.heap.size := by omega
                  replace q_first : w13.heap.size < w20.heap.size := by omega
                  replace q_value : w14.heap.size < w20.heap.size := by omega
                  replace q_every : w15.heap.size < w20.heap.size := by omega
                  replace q_due : w16.heap.size < w20.heap.size := by omega
                  have BW20 : Below w.heap.size w w20 := BW19.trans (hb20.mono BW19.size)
                  have BX20 : Below w18.heap.size w18 w20 := BX19.trans (hb20.mono BX19.size)
                  clear BX19
                  clear hb20 hd20 c19_c_0 c19_c_1 c19_c_2 c19_c_3 c19_s_0 c19_s_1 c19_shown_0 c19_shown_1 c19_right_0 c19_right_1 c19_ahead_0 c19_ahead_1 c19_want_0 c19_want_1 c19_set_0 c19_set_1 c19_set_2 c19_set_3 c19_model_0 c19_model_1 c19_model_2 c19_model_3 c19_d_0 c19_d_1 c19_d_2 c19_d_3 c19_first_0 c19_first_1 c19_value_0 c19_value_1 c19_every_0 c19_every_1 c19_due_0 c19_due_1 BW19
                  have hrelB := BX20
                  have hlt : ¬ fn < 1 := by omega
                  go_wp2_with fail
                  go_meet
                  case rel => exact hrelB
            case rest =>
              obtain ⟨w19, hw19⟩ : ∃ x : World, x = wc := ⟨_, rfl⟩
              subst hw19
              have hb19 := hcut
              obtain ⟨hc19, hf19⟩ := bcell hb19
              have hz19 := hb19.size
              (try simp only [World.size_alloc, World.size_setCell, World.size_drew] at hz19)
              have B19 : Below w18.heap.size w18 w19 := Below.trans (b := _) (by (repeat' (first | (with_reducible exact Below.refl _ _) | (with_reducible assumption) | (with_reducible refine Below.alloc ?_ ?_ _) | (with_reducible refine Below.drew ?_) | (with_reducible refine below_drewN ?_ _) | (with_reducible refine Below.setCell ?_ ?_ _) | (with_reducible refine below_call ?_ ?_ (by assumption)) | go_size))) (hb19.mono (by first | omega | (simp only [World.size_alloc, World.size_setCell, World.size_drew]; omega)))
              obtain ⟨hd19, -⟩ := bcell B19
              have c19_c_0 : w19.cell? ⟨w1.heap.size, 0, none⟩ = some (.int .i64 n0) := (hd19 _ _ q_c).trans c18_c_0
              have c19_c_1 : w19.cell? ⟨w1.heap.size, 1, none⟩ = some (.int .i64 d0) := (hd19 _ _ q_c).trans c18_c_1
              have c19_c_2 : w19.cell? ⟨w1.heap.size, 2, none⟩ = some (.int .i64 x0) := (hd19 _ _ q_c).trans c18_c_2
              have c19_c_3 : w19.cell? ⟨w1.heap.size, 3, none⟩ = some (.int .i64 y0) := (hd19 _ _ q_c).trans c18_c_3
              have c19_s_0 : w19.cell? ⟨w1.heap.size + 1, 0, none⟩ = some (.int .i64 n1) := (hd19 _ _ q_s).trans c18_s_0
              have c19_s_1 : w19.cell? ⟨w1.heap.size + 1, 1, none⟩ = some (.int .i64 d1) := (hd19 _ _ q_s).trans c18_s_1
              have c19_shown_0 : w19.cell? ⟨w2.heap.size, 0, none⟩ = some (.int .i64 un) := (hd19 _ _ q_shown).trans c18_shown_0
              have c19_shown_1 : w19.cell? ⟨w2.heap.size, 1, none⟩ = some (.int .i64 ud) := (hd19 _ _ q_shown).trans c18_shown_1
              have c19_right_0 : w19.cell? ⟨w3.heap.size, 0, none⟩ = some (.int .i64 un) := (hd19 _ _ q_right).trans c18_right_0
              have c19_right_1 : w19.cell? ⟨w3.heap.size, 1, none⟩ = some (.int .i64 ud) := (hd19 _ _ q_right).trans c18_right_1
              have c19_ahead_0 : w19.cell? ⟨w4.heap.size, 0, none⟩ = some (.int .i64 gn) := (hd19 _ _ q_ahead).trans c18_ahead_0
              have c19_ahead_1 : w19.cell? ⟨w4.heap.size, 1, none⟩ = some (.int .i64 gd) := (hd19 _ _ q_ahead).trans c18_ahead_1
              have c19_want_0 : w19.cell? ⟨w5.heap.size, 0, none⟩ = some (.int .i64 gn) := (hd19 _ _ q_want).trans c18_want_0
              have c19_want_1 : w19.cell? ⟨w5.heap.size, 1, none⟩ = some (.int .i64 gd) := (hd19 _ _ q_want).trans c18_want_1
              have c19_set_0 : w19.cell? ⟨w6.heap.size, 0, none⟩ = some (.int .i64 zn) := (hd19 _ _ q_set).trans c18_set_0
              have c19_set_1 : w19.cell? ⟨w6.heap.size, 1, none⟩ = some (.int .i64 zd) := (hd19 _ _ q_set).trans c18_set_1
              have c19_set_2 : w19.cell? ⟨w6.heap.size, 2, none⟩ = some (.int .i64 zp) := (hd19 _ _ q_set).trans c18_set_2
              have c19_set_3 : w19.cell? ⟨w6.heap.size, 3, none⟩ = some (.int .i64 zq) := (hd19 _ _ q_set).trans c18_set_3
              have c19_model_0 : w19.cell? ⟨w7.heap.size, 0, none⟩ = some (.int .i64 zn) := (hd19 _ _ q_model).trans c18_model_0
              have c19_model_1 : w19.cell? ⟨w7.heap.size, 1, none⟩ = some (.int .i64 zd) := (hd19 _ _ q_model).trans c18_model_1
              have c19_model_2 : w19.cell? ⟨w7.heap.size, 2, none⟩ = some (.int .i64 zp) := (hd19 _ _ q_model).trans c18_model_2
              have c19_model_3 : w19.cell? ⟨w7.heap.size, 3, none⟩ = some (.int .i64 zq) := (hd19 _ _ q_model).trans c18_model_3
              have c19_d_0 : w19.cell? ⟨w12.heap.size, 0, none⟩ = some (.int .i64 n2) := (hd19 _ _ q_d).trans c18_d_0
              have c19_d_1 : w19.cell? ⟨w12.heap.size, 1, none⟩ = some (.int .i64 d2) := (hd19 _ _ q_d).trans c18_d_1
              have c19_d_2 : w19.cell? ⟨w12.heap.size, 2, none⟩ = some (.int .i64 x2) := (hd19 _ _ q_d).trans c18_d_2
              have c19_d_3 : w19.cell? ⟨w12.heap.size, 3, none⟩ = some (.int .i64 y2) := (hd19 _ _ q_d).trans c18_d_3
              have c19_first_0 : w19.cell? ⟨w13.heap.size, 0, none⟩ = some (.int .i64 fn) := (hd19 _ _ q_first).trans c18_first_0
              have c19_first_1 : w19.cell? ⟨w13.heap.size, 1, none⟩ = some (.int .i64 fd) := (hd19 _ _ q_first).trans c18_first_1
              have c19_value_0 : w19.cell? ⟨w14.heap.size, 0, none⟩ = some (.int .i64 fn) := (hd19 _ _ q_value).trans c18_value_0
              have c19_value_1 : w19.cell? ⟨w14.heap.size, 1, none⟩ = some (.int .i64 fd) := (hd19 _ _ q_value).trans c18_value_1
              have c19_every_0 : w19.cell? ⟨w15.heap.size, 0, none⟩ = some (.int .i64 rn) := (hd19 _ _ q_every).trans c18_every_0
              have c19_every_1 : w19.cell? ⟨w15.heap.size, 1, none⟩ = some (.int .i64 rd) := (hd19 _ _ q_every).trans c18_every_1
              have c19_due_0 : w19.cell? ⟨w16.heap.size, 0, none⟩ = some (.int .i64 rn) := (hd19 _ _ q_due).trans c18_due_0
              have c19_due_1 : w19.cell? ⟨w16.heap.size, 1, none⟩ = some (.int .i64 rd) := (hd19 _ _ q_due).trans c18_due_1
              replace q_c : w1.heap.size < w19.heap.size := by omega
              replace q_s : w1.heap.size + 1 < w19.heap.size := by omega
              replace q_shown : w2.heap.size < w19.heap.size := by omega
              replace q_right : w3.heap.size < w19.heap.size := by omega
              replace q_ahead : w4.heap.size < w19.heap.size := by omega
              replace q_want : w5.heap.size < w19.heap.size := by omega
              replace q_set : w6.heap.size < w19.heap.size := by omega
              replace q_model : w7.heap.size < w19.heap.size := by omega
              replace q_d : w12.heap.size < w19.heap.size := by omega
              replace q_first : w13.heap.size < w19.heap.size := by omega
              replace q_value : w14.heap.size < w19.heap.size := by omega
              replace q_every : w15.heap.size < w19.heap.size := by omega
              replace q_due : w16.heap.size < w19.heap.size := by omega
              have BW19 : Below w.heap.size w w19 := BW18.trans (B19.mono BW18.size)
              clear hc19 hf19 hb19 hd19 B19 c18_c_0 c18_c_1 c18_c_2 c18_c_3 c18_s_0 c18_s_1 c18_shown_0 c18_shown_1 c18_right_0 c18_right_1 c18_ahead_0 c18_ahead_1 c18_want_0 c18_want_1 c18_set_0 c18_set_1 c18_set_2 c18_set_3 c18_model_0 c18_model_1 c18_model_2 c18_model_3 c18_d_0 c18_d_1 c18_d_2 c18_d_3 c18_first_0 c18_first_1 c18_value_0 c18_value_1 c18_every_0 c18_every_1 c18_due_0 c18_due_1 BW18
              go_upto_region 32 with fail
              go_cut [261] from 999 to 999 (fun x wx => x = .bool b2 ∧ Below w19.heap.size w19 wx)
              case first =>
                as_aux_lemma =>
                  have e := Hb2.out
                  cases fo
                  · simp only [Bool.false_and] at e
                    subst e
                    go_wp2_with fail
                    go_meet
                    case rel => exact ⟨rfl, Below.refl _ _⟩
                  · simp only [Bool.true_and] at e
                    subst e
                    go_wp2_with fail
                    go_meet
                    case rel => exact ⟨rfl, Below.refl _ _⟩
              case rest =>
                obtain ⟨rfl, hb20⟩ := hcut
                obtain ⟨w20, hw20⟩ : ∃ x : World, x = wc := ⟨_, rfl⟩
                subst hw20
                obtain ⟨hc20, hf20⟩ := bcell hb20
                have hz20 := hb20.size
                (try simp only [World.size_alloc, World.size_setCell, World.size_drew] at hz20)
                have B20 : Below w19.heap.size w19 w20 := Below.trans (b := _) (by (repeat' (first | (with_reducible exact Below.refl _ _) | (with_reducible assumption) | (with_reducible refine Below.alloc ?_ ?_ _) | (with_reducible refine Below.drew ?_) | (with_reducible refine below_drewN ?_ _) | (with_reducible refine Below.setCell ?_ ?_ _) | (with_reducible refine below_call ?_ ?_ (by assumption)) | go_size))) (hb20.mono (by first | omega | (simp only [World.size_alloc, World.size_setCell, World.size_drew]; omega)))
                obtain ⟨hd20, -⟩ := bcell B20
                have c20_c_0 : w20.cell? ⟨w1.heap.size, 0, none⟩ = some (.int .i64 n0) := (hd20 _ _ q_c).trans c19_c_0
                have c20_c_1 : w20.cell? ⟨w1.heap.size, 1, none⟩ = some (.int .i64 d0) := (hd20 _ _ q_c).trans c19_c_1
                have c20_c_2 : w20.cell? ⟨w1.heap.size, 2, none⟩ = some (.int .i64 x0) := (hd20 _ _ q_c).trans c19_c_2
                have c20_c_3 : w20.cell? ⟨w1.heap.size, 3, none⟩ = some (.int .i64 y0) := (hd20 _ _ q_c).trans c19_c_3
                have c20_s_0 : w20.cell? ⟨w1.heap.size + 1, 0, none⟩ = some (.int .i64 n1) := (hd20 _ _ q_s).trans c19_s_0
                have c20_s_1 : w20.cell? ⟨w1.heap.size + 1, 1, none⟩ = some (.int .i64 d1) := (hd20 _ _ q_s).trans c19_s_1
                have c20_shown_0 : w20.cell? ⟨w2.heap.size, 0, none⟩ = some (.int .i64 un) := (hd20 _ _ q_shown).trans c19_shown_0
                have c20_shown_1 : w20.cell? ⟨w2.heap.size, 1, none⟩ = some (.int .i64 ud) := (hd20 _ _ q_shown).trans c19_shown_1
                have c20_right_0 : w20.cell? ⟨w3.heap.size, 0, none⟩ = some (.int .i64 un) := (hd20 _ _ q_right).trans c19_right_0
                have c20_right_1 : w20.cell? ⟨w3.heap.size, 1, none⟩ = some (.int .i64 ud) := (hd20 _ _ q_right).trans c19_right_1
                have c20_ahead_0 : w20.cell? ⟨w4.heap.size, 0, none⟩ = some (.int .i64 gn) := (hd20 _ _ q_ahead).trans c19_ahead_0
                have c20_ahead_1 : w20.cell? ⟨w4.heap.size, 1, none⟩ = some (.int .i64 gd) := (hd20 _ _ q_ahead).trans c19_ahead_1
                have c20_want_0 : w20.cell? ⟨w5.heap.size, 0, none⟩ = some (.int .i64 gn) := (hd20 _ _ q_want).trans c19_want_0
                have c20_want_1 : w20.cell? ⟨w5.heap.size, 1, none⟩ = some (.int .i64 gd) := (hd20 _ _ q_want).trans c19_want_1
                have c20_set_0 : w20.cell? ⟨w6.heap.size, 0, none⟩ = some (.int .i64 zn) := (hd20 _ _ q_set).trans c19_set_0
                have c20_set_1 : w20.cell? ⟨w6.heap.size, 1, none⟩ = some (.int .i64 zd) := (hd20 _ _ q_set).trans c19_set_1
                have c20_set_2 : w20.cell? ⟨w6.heap.size, 2, none⟩ = some (.int .i64 zp) := (hd20 _ _ q_set).trans c19_set_2
                have c20_set_3 : w20.cell? ⟨w6.heap.size, 3, none⟩ = some (.int .i64 zq) := (hd20 _ _ q_set).trans c19_set_3
                have c20_model_0 : w20.cell? ⟨w7.heap.size, 0, none⟩ = some (.int .i64 zn) := (hd20 _ _ q_model).trans c19_model_0
                have c20_model_1 : w20.cell? ⟨w7.heap.size, 1, none⟩ = some (.int .i64 zd) := (hd20 _ _ q_model).trans c19_model_1
                have c20_model_2 : w20.cell? ⟨w7.heap.size, 2, none⟩ = some (.int .i64 zp) := (hd20 _ _ q_model).trans c19_model_2
                have c20_model_3 : w20.cell? ⟨w7.heap.size, 3, none⟩ = some (.int .i64 zq) := (hd20 _ _ q_model).trans c19_model_3
                have c20_d_0 : w20.cell? ⟨w12.heap.size, 0, none⟩ = some (.int .i64 n2) := (hd20 _ _ q_d).trans c19_d_0
                have c20_d_1 : w20.cell? ⟨w12.heap.size, 1, none⟩ = some (.int .i64 d2) := (hd20 _ _ q_d).trans c19_d_1
                have c20_d_2 : w20.cell? ⟨w12.heap.size, 2, none⟩ = some (.int .i64 x2) := (hd20 _ _ q_d).trans c19_d_2
                have c20_d_3 : w20.cell? ⟨w12.heap.size, 3, none⟩ = some (.int .i64 y2) := (hd20 _ _ q_d).trans c19_d_3
                have c20_first_0 : w20.cell? ⟨w13.heap.size, 0, none⟩ = some (.int .i64 fn) := (hd20 _ _ q_first).trans c19_first_0
                have c20_first_1 : w20.cell? ⟨w13.heap.size, 1, none⟩ = some (.int .i64 fd) := (hd20 _ _ q_first).trans c19_first_1
                have c20_value_0 : w20.cell? ⟨w14.heap.size, 0, none⟩ = some (.int .i64 fn) := (hd20 _ _ q_value).trans c19_value_0
                have c20_value_1 : w20.cell? ⟨w14.heap.size, 1, none⟩ = some (.int .i64 fd) := (hd20 _ _ q_value).trans c19_value_1
                have c20_every_0 : w20.cell? ⟨w15.heap.size, 0, none⟩ = some (.int .i64 rn) := (hd20 _ _ q_every).trans c19_every_0
                have c20_every_1 : w20.cell? ⟨w15.heap.size, 1, none⟩ = some (.int .i64 rd) := (hd20 _ _ q_every).trans c19_every_1
                have c20_due_0 : w20.cell? ⟨w16.heap.size, 0, none⟩ = some (.int .i64 rn) := (hd20 _ _ q_due).trans c19_due_0
                have c20_due_1 : w20.cell? ⟨w16.heap.size, 1, none⟩ = some (.int .i64 rd) := (hd20 _ _ q_due).trans c19_due_1
                replace q_c : w1.heap.size < w20.heap.size := by omega
                replace q_s : w1.heap.size + 1 < w20.heap.size := by omega
                replace q_shown : w2.heap.size < w20.heap.size := by omega
                replace q_right : w3.heap.size < w20.heap.size := by omega
                replace q_ahead : w4.heap.size < w20.heap.size := by omega
                replace q_want : w5.heap.size < w20.heap.size := by omega
                replace q_set : w6.heap.size < w20.heap.size := by omega
                replace q_model : w7.heap.size < w20.heap.size := by omega
                replace q_d : w12.heap.size < w20.heap.size := by omega
                replace q_first : w13.heap.size < w20.heap.size := by omega
                replace q_value : w14.heap.size < w20.heap.size := by omega
                replace q_every : w15.heap.size < w20.heap.size := by omega
                replace q_due : w16.heap.size < w20.heap.size := by omega
                have BW20 : Below w.heap.size w w20 := BW19.trans (B20.mono BW19.size)
                clear hc20 hf20 hb20 hd20 B20 c19_c_0 c19_c_1 c19_c_2 c19_c_3 c19_s_0 c19_s_1 c19_shown_0 c19_shown_1 c19_right_0 c19_right_1 c19_ahead_0 c19_ahead_1 c19_want_0 c19_want_1 c19_set_0 c19_set_1 c19_set_2 c19_set_3 c19_model_0 c19_model_1 c19_model_2 c19_model_3 c19_d_0 c19_d_1 c19_d_2 c19_d_3 c19_first_0 c19_first_1 c19_value_0 c19_value_1 c19_every_0 c19_every_1 c19_due_0 c19_due_1 BW19
                go_upto_if 261 with fail
                go_cut [] from 999 to 999 (fun wx => Below w20.heap.size w20 wx)
                case first =>
                  as_aux_lemma =>
                    cases b2
                    · go_wp2_with fail
                      go_meet
                      case rel => exact Below.refl _ _
                    · have e := Hb2.out.symm
                      rw [Bool.and_eq_true] at e
                      obtain ⟨rfl, rfl⟩ := e
                      obtain ⟨h1, h2⟩ := G4.out rfl rfl
                      obtain ⟨f1, f2, f3, f4, -⟩ := spanB_bd (G8.out rfl)
                      obtain ⟨r1, r2, r3, r4, -⟩ := spanB_bd (G9.out rfl)
                      have m1 := mulb f3 f4 (show 0 ≤ rd by omega) r2
                      have m2 := mulb r3 r4 (show 0 ≤ fd by omega) f2
                      have hw1 : IntKind.i64.wrap (fn * rd) = fn * rd := by rw [IntKind.wrap_i64]; omega
                      have hw2 : IntKind.i64.wrap (rn * fd) = rn * fd := by rw [IntKind.wrap_i64]; omega
                      have hgt : ¬ rn * fd < fn * rd := by omega
                      clear m1 m2 h1
                      go_wp2_with fail
                      refine (C13.out _).mono ?_
                      rintro e21 w21 ⟨rfl, hb21⟩
                      obtain ⟨hc21, hf21⟩ := bcell hb21
                      have hz21 := hb21.size
                      (try simp only [World.size_alloc, World.size_setCell, World.size_drew] at hz21)
                      have B21 : Below w20.heap.size w20 w21 := Below.trans (b := _) (by (repeat' (first | (with_reducible exact Below.refl _ _) | (with_reducible assumption) | (with_reducible refine Below.alloc ?_ ?_ _) | (with_reducible refine Below.drew ?_) | (with_reducible refine below_drewN ?_ _) | (with_reducible refine Below.setCell ?_ ?_ _) | (with_reducible refine below_call ?_ ?_ (by assumption)) | go_size))) (hb21.mono (by first | omega | (simp only [World.size_alloc, World.size_setCell, World.size_drew]; omega)))
                      obtain ⟨hd21, -⟩ := bcell B21
                      have c21_c_0 : w21.cell? ⟨w1.heap.size, 0, none⟩ = some (.int .i64 n0) := (hd21 _ _ q_c).trans c20_c_0
                      have c21_c_1 : w21.cell? ⟨w1.heap.size, 1, none⟩ = some (.int .i64 d0) := (hd21 _ _ q_c).trans c20_c_1
                      have c21_c_2 : w21.cell? ⟨w1.heap.size, 2, none⟩ = some (.int .i64 x0) := (hd21 _ _ q_c).trans c20_c_2
                      have c21_c_3 : w21.cell? ⟨w1.heap.size, 3, none⟩ = some (.int .i64 y0) := (hd21 _ _ q_c).trans c20_c_3
                      have c21_s_0 : w21.cell? ⟨w1.heap.size + 1, 0, none⟩ = some (.int .i64 n1) := (hd21 _ _ q_s).trans c20_s_0
                      have c21_s_1 : w21.cell? ⟨w1.heap.size + 1, 1, none⟩ = some (.int .i64 d1) := (hd21 _ _ q_s).trans c20_s_1
                      have c21_shown_0 : w21.cell? ⟨w2.heap.size, 0, none⟩ = some (.int .i64 un) := (hd21 _ _ q_shown).trans c20_shown_0
                      have c21_shown_1 : w21.cell? ⟨w2.heap.size, 1, none⟩ = some (.int .i64 ud) := (hd21 _ _ q_shown).trans c20_shown_1
                      have c21_right_0 : w21.cell? ⟨w3.heap.size, 0, none⟩ = some (.int .i64 un) := (hd21 _ _ q_right).trans c20_right_0
                      have c21_right_1 : w21.cell? ⟨w3.heap.size, 1, none⟩ = some (.int .i64 ud) := (hd21 _ _ q_right).trans c20_right_1
                      have c21_ahead_0 : w21.cell? ⟨w4.heap.size, 0, none⟩ = some (.int .i64 gn) := (hd21 _ _ q_ahead).trans c20_ahead_0
                      have c21_ahead_1 : w21.cell? ⟨w4.heap.size, 1, none⟩ = some (.int .i64 gd) := (hd21 _ _ q_ahead).trans c20_ahead_1
                      have c21_want_0 : w21.cell? ⟨w5.heap.size, 0, none⟩ = some (.int .i64 gn) := (hd21 _ _ q_want).trans c20_want_0
                      have c21_want_1 : w21.cell? ⟨w5.heap.size, 1, none⟩ = some (.int .i64 gd) := (hd21 _ _ q_want).trans c20_want_1
                      have c21_set_0 : w21.cell? ⟨w6.heap.size, 0, none⟩ = some (.int .i64 zn) := (hd21 _ _ q_set).trans c20_set_0
                      have c21_set_1 : w21.cell? ⟨w6.heap.size, 1, none⟩ = some (.int .i64 zd) := (hd21 _ _ q_set).trans c20_set_1
                      have c21_set_2 : w21.cell? ⟨w6.heap.size, 2, none⟩ = some (.int .i64 zp) := (hd21 _ _ q_set).trans c20_set_2
                      have c21_set_3 : w21.cell? ⟨w6.heap.size, 3, none⟩ = some (.int .i64 zq) := (hd21 _ _ q_set).trans c20_set_3
                      have c21_model_0 : w21.cell? ⟨w7.heap.size, 0, none⟩ = some (.int .i64 zn) := (hd21 _ _ q_model).trans c20_model_0
                      have c21_model_1 : w21.cell? ⟨w7.heap.size, 1, none⟩ = some (.int .i64 zd) := (hd21 _ _ q_model).trans c20_model_1
                      have c21_model_2 : w21.cell? ⟨w7.heap.size, 2, none⟩ = some (.int .i64 zp) := (hd21 _ _ q_model).trans c20_model_2
                      have c21_model_3 : w21.cell? ⟨w7.heap.size, 3, none⟩ = some (.int .i64 zq) := (hd21 _ _ q_model).trans c20_model_3
                      have c21_d_0 : w21.cell? ⟨w12.heap.size, 0, none⟩ = some (.int .i64 n2) := (hd21 _ _ q_d).trans c20_d_0
                      have c21_d_1 : w21.cell? ⟨w12.heap.size, 1, none⟩ = some (.int .i64 d2) := (hd21 _ _ q_d).trans c20_d_1
                      have c21_d_2 : w21.cell? ⟨w12.heap.size, 2, none⟩ = some (.int .i64 x2) := (hd21 _ _ q_d).trans c20_d_2
                      have c21_d_3 : w21.cell? ⟨w12.heap.size, 3, none⟩ = some (.int .i64 y2) := (hd21 _ _ q_d).trans c20_d_3
                      have c21_first_0 : w21.cell? ⟨w13.heap.size, 0, none⟩ = some (.int .i64 fn) := (hd21 _ _ q_first).trans c20_first_0
                      have c21_first_1 : w21.cell? ⟨w13.heap.size, 1, none⟩ = some (.int .i64 fd) := (hd21 _ _ q_first).trans c20_first_1
                      have c21_value_0 : w21.cell? ⟨w14.heap.size, 0, none⟩ = some (.int .i64 fn) := (hd21 _ _ q_value).trans c20_value_0
                      have c21_value_1 : w21.cell? ⟨w14.heap.size, 1, none⟩ = some (.int .i64 fd) := (hd21 _ _ q_value).trans c20_value_1
                      have c21_every_0 : w21.cell? ⟨w15.heap.size, 0, none⟩ = some (.int .i64 rn) := (hd21 _ _ q_every).trans c20_every_0
                      have c21_every_1 : w21.cell? ⟨w15.heap.size, 1, none⟩ = some (.int .i64 rd) := (hd21 _ _ q_every).trans c20_every_1
                      have c21_due_0 : w21.cell? ⟨w16.heap.size, 0, none⟩ = some (.int .i64 rn) := (hd21 _ _ q_due).trans c20_due_0
                      have c21_due_1 : w21.cell? ⟨w16.heap.size, 1, none⟩ = some (.int .i64 rd) := (hd21 _ _ q_due).trans c20_due_1
                      replace q_c : w1.heap.size < w21.heap.size := by omega
                      replace q_s : w1.heap.size + 1 < w21.heap.size := by omega
                      replace q_shown : w2.heap.size < w21.heap.size := by omega
                      replace q_right : w3.heap.size < w21.heap.size := by omega
                      replace q_ahead : w4.heap.size < w21.heap.size := by omega
                      replace q_want : w5.heap.size < w21.heap.size := by omega
                      replace q_set : w6.heap.size < w21.heap.size := by omega
                      replace q_model : w7.heap.size < w21.heap.size := by omega
                      replace q_d : w12.heap.size < w21.heap.size := by omega
                      replace q_first : w13.heap.size < w21.heap.size := by omega
                      replace q_value : w14.heap.size < w21.heap.size := by omega
                      replace q_every : w15.heap.size < w21.heap.size := by omega
                      replace q_due : w16.heap.size < w21.heap.size := by omega
                      have BW21 : Below w.heap.size w w21 := BW20.trans (B21.mono BW20.size)
                      have BX21 : Below w20.heap.size w20 w21 := B21
                      clear hc21 hf21 hb21 hd21 B21 c20_c_0 c20_c_1 c20_c_2 c20_c_3 c20_s_0 c20_s_1 c20_shown_0 c20_shown_1 c20_right_0 c20_right_1 c20_ahead_0 c20_ahead_1 c20_want_0 c20_want_1 c20_set_0 c20_set_1 c20_set_2 c20_set_3 c20_model_0 c20_model_1 c20_model_2 c20_model_3 c20_d_0 c20_d_1 c20_d_2 c20_d_3 c20_first_0 c20_first_1 c20_value_0 c20_value_1 c20_every_0 c20_every_1 c20_due_0 c20_due_1 BW20
                      go_upto_if 279 with fail
                      have hb22 : Below w21.heap.size w21 (w21.alloc (Obj.cells #[.int .i64 en, .int .i64 ed] 28)) := by (repeat' (first | (with_reducible exact Below.refl _ _) | (with_reducible assumption) | (with_reducible refine Below.alloc ?_ ?_ _) | (with_reducible refine Below.drew ?_) | (with_reducible refine below_drewN ?_ _) | (with_reducible refine Below.setCell ?_ ?_ _) | (with_reducible refine below_call ?_ ?_ (by assumption)) | go_size))
                      have c22_next_0 : (w21.alloc (Obj.cells #[.int .i64 en, .int .i64 ed] 28)).cell? ⟨w21.heap.size, 0, none⟩ = some (.int .i64 en) := by go_simp
                      have c22_next_1 : (w21.alloc (Obj.cells #[.int .i64 en, .int .i64 ed] 28)).cell? ⟨w21.heap.size, 1, none⟩ = some (.int .i64 ed) := by go_simp
                      have q_next : w21.heap.size < (w21.alloc (Obj.cells #[.int .i64 en, .int .i64 ed] 28)).heap.size := by go_size
                      generalize (w21.alloc (Obj.cells #[.int .i64 en, .int .i64 ed] 28)) = w22 at *
                      obtain ⟨hd22, -⟩ := bcell hb22
                      have hz22 := hb22.size
                      have c22_c_0 : w22.cell? ⟨w1.heap.size, 0, none⟩ = some (.int .i64 n0) := (hd22 _ _ q_c).trans c21_c_0
                      have c22_c_1 : w22.cell? ⟨w1.heap.size, 1, none⟩ = some (.int .i64 d0) := (hd22 _ _ q_c).trans c21_c_1
                      have c22_c_2 : w22.cell? ⟨w1.heap.size, 2, none⟩ = some (.int .i64 x0) := (hd22 _ _ q_c).trans c21_c_2
                      have c22_c_3 : w22.cell? ⟨w1.heap.size, 3, none⟩ = some (.int .i64 y0) := (hd22 _ _ q_c).trans c21_c_3
                      have c22_s_0 : w22.cell? ⟨w1.heap.size + 1, 0, none⟩ = some (.int .i64 n1) := (hd22 _ _ q_s).trans c21_s_0
                      have c22_s_1 : w22.cell? ⟨w1.heap.size + 1, 1, none⟩ = some (.int .i64 d1) := (hd22 _ _ q_s).trans c21_s_1
                      have c22_shown_0 : w22.cell? ⟨w2.heap.size, 0, none⟩ = some (.int .i64 un) := (hd22 _ _ q_shown).trans c21_shown_0
                      have c22_shown_1 : w22.cell? ⟨w2.heap.size, 1, none⟩ = some (.int .i64 ud) := (hd22 _ _ q_shown).trans c21_shown_1
                      have c22_right_0 : w22.cell? ⟨w3.heap.size, 0, none⟩ = some (.int .i64 un) := (hd22 _ _ q_right).trans c21_right_0
                      have c22_right_1 : w22.cell? ⟨w3.heap.size, 1, none⟩ = some (.int .i64 ud) := (hd22 _ _ q_right).trans c21_right_1
                      have c22_ahead_0 : w22.cell? ⟨w4.heap.size, 0, none⟩ = some (.int .i64 gn) := (hd22 _ _ q_ahead).trans c21_ahead_0
                      have c22_ahead_1 : w22.cell? ⟨w4.heap.size, 1, none⟩ = some (.int .i64 gd) := (hd22 _ _ q_ahead).trans c21_ahead_1
                      have c22_want_0 : w22.cell? ⟨w5.heap.size, 0, none⟩ = some (.int .i64 gn) := (hd22 _ _ q_want).trans c21_want_0
                      have c22_want_1 : w22.cell? ⟨w5.heap.size, 1, none⟩ = some (.int .i64 gd) := (hd22 _ _ q_want).trans c21_want_1
                      have c22_set_0 : w22.cell? ⟨w6.heap.size, 0, none⟩ = some (.int .i64 zn) := (hd22 _ _ q_set).trans c21_set_0
                      have c22_set_1 : w22.cell? ⟨w6.heap.size, 1, none⟩ = some (.int .i64 zd) := (hd22 _ _ q_set).trans c21_set_1
                      have c22_set_2 : w22.cell? ⟨w6.heap.size, 2, none⟩ = some (.int .i64 zp) := (hd22 _ _ q_set).trans c21_set_2
                      have c22_set_3 : w22.cell? ⟨w6.heap.size, 3, none⟩ = some (.int .i64 zq) := (hd22 _ _ q_set).trans c21_set_3
                      have c22_model_0 : w22.cell? ⟨w7.heap.size, 0, none⟩ = some (.int .i64 zn) := (hd22 _ _ q_model).trans c21_model_0
                      have c22_model_1 : w22.cell? ⟨w7.heap.size, 1, none⟩ = some (.int .i64 zd) := (hd22 _ _ q_model).trans c21_model_1
                      have c22_model_2 : w22.cell? ⟨w7.heap.size, 2, none⟩ = some (.int .i64 zp) := (hd22 _ _ q_model).trans c21_model_2
                      have c22_model_3 : w22.cell? ⟨w7.heap.size, 3, none⟩ = some (.int .i64 zq) := (hd22 _ _ q_model).trans c21_model_3
                      have c22_d_0 : w22.cell? ⟨w12.heap.size, 0, none⟩ = some (.int .i64 n2) := (hd22 _ _ q_d).trans c21_d_0
                      have c22_d_1 : w22.cell? ⟨w12.heap.size, 1, none⟩ = some (.int .i64 d2) := (hd22 _ _ q_d).trans c21_d_1
                      have c22_d_2 : w22.cell? ⟨w12.heap.size, 2, none⟩ = some (.int .i64 x2) := (hd22 _ _ q_d).trans c21_d_2
                      have c22_d_3 : w22.cell? ⟨w12.heap.size, 3, none⟩ = some (.int .i64 y2) := (hd22 _ _ q_d).trans c21_d_3
                      have c22_first_0 : w22.cell? ⟨w13.heap.size, 0, none⟩ = some (.int .i64 fn) := (hd22 _ _ q_first).trans c21_first_0
                      have c22_first_1 : w22.cell? ⟨w13.heap.size, 1, none⟩ = some (.int .i64 fd) := (hd22 _ _ q_first).trans c21_first_1
                      have c22_value_0 : w22.cell? ⟨w14.heap.size, 0, none⟩ = some (.int .i64 fn) := (hd22 _ _ q_value).trans c21_value_0
                      have c22_value_1 : w22.cell? ⟨w14.heap.size, 1, none⟩ = some (.int .i64 fd) := (hd22 _ _ q_value).trans c21_value_1
                      have c22_every_0 : w22.cell? ⟨w15.heap.size, 0, none⟩ = some (.int .i64 rn) := (hd22 _ _ q_every).trans c21_every_0
                      have c22_every_1 : w22.cell? ⟨w15.heap.size, 1, none⟩ = some (.int .i64 rd) := (hd22 _ _ q_every).trans c21_every_1
                      have c22_due_0 : w22.cell? ⟨w16.heap.size, 0, none⟩ = some (.int .i64 rn) := (hd22 _ _ q_due).trans c21_due_0
                      have c22_due_1 : w22.cell? ⟨w16.heap.size, 1, none⟩ = some (.int .i64 rd) := (hd22 _ _ q_due).trans c21_due_1
                      replace q_c : w1.heap.size < w22.heap.size := by omega
                      replace q_s : w1.heap.size + 1 < w22.heap.size := by omega
                      replace q_shown : w2.heap.size < w22.heap.size := by omega
                      replace q_right : w3.heap.size < w22.heap.size := by omega
                      replace q_ahead : w4.heap.size < w22.heap.size := by omega
                      replace q_want : w5.heap.size < w22.heap.size := by omega
                      replace q_set : w6.heap.size < w22.heap.size := by omega
                      replace q_model : w7.heap.size < w22.heap.size := by omega
                      replace q_d : w12.heap.size < w22.heap.size := by omega
                      replace q_first : w13.heap.size < w22.heap.size := by omega
                      replace q_value : w14.heap.size < w22.heap.size := by omega
                      replace q_every : w15.heap.size < w22.heap.size := by omega
                      replace q_due : w16.heap.size < w22.heap.size := by omega
                      have BW22 : Below w.heap.size w w22 := BW21.trans (hb22.mono BW21.size)
                      have BX22 : Below w20.heap.size w20 w22 := BX21.trans (hb22.mono BX21.size)
                      clear BX21
                      clear hb22 hd22 c21_c_0 c21_c_1 c21_c_2 c21_c_3 c21_s_0 c21_s_1 c21_shown_0 c21_shown_1 c21_right_0 c21_right_1 c21_ahead_0 c21_ahead_1 c21_want_0 c21_want_1 c21_set_0 c21_set_1 c21_set_2 c21_set_3 c21_model_0 c21_model_1 c21_model_2 c21_model_3 c21_d_0 c21_d_1 c21_d_2 c21_d_3 c21_first_0 c21_first_1 c21_value_0 c21_value_1 c21_every_0 c21_every_1 c21_due_0 c21_due_1 BW21
                      have hrelB := BX22
                      cases eo
                      · go_wp2_with fail
                        go_meet
                        case rel => exact hrelB
                      obtain ⟨-, h4⟩ := h2 _ _ HE.out
                      have Z1 := Lib.hid (fun W => (show Calls Try.prog 9 #[cv n2 d2 x2 y2, tv en ed] W fun e w' => e = .returned (rv (0, 1, true)) ∧ Below W.heap.size W w' from by have := implAheadAfter_any n2 d2 x2 y2 en ed W; rw [h4] at this; exact this))
                      clear h4
                      go_wp2_with fail
                      refine (Z1.out _).mono ?_
                      rintro e23 w23 ⟨rfl, hb23⟩
                      obtain ⟨hc23, hf23⟩ := bcell hb23
                      have hz23 := hb23.size
                      (try simp only [World.size_alloc, World.size_setCell, World.size_drew] at hz23)
                      have B23 : Below w22.heap.size w22 w23 := Below.trans (b := _) (by (repeat' (first | (with_reducible exact Below.refl _ _) | (with_reducible assumption) | (with_reducible refine Below.alloc ?_ ?_ _) | (with_reducible refine Below.drew ?_) | (with_reducible refine below_drewN ?_ _) | (with_reducible refine Below.setCell ?_ ?_ _) | (with_reducible refine below_call ?_ ?_ (by assumption)) | go_size))) (hb23.mono (by first | omega | (simp only [World.size_alloc, World.size_setCell, World.size_drew]; omega)))
                      obtain ⟨hd23, -⟩ := bcell B23
                      have c23_c_0 : w23.cell? ⟨w1.heap.size, 0, none⟩ = some (.int .i64 n0) := (hd23 _ _ q_c).trans c22_c_0
                      have c23_c_1 : w23.cell? ⟨w1.heap.size, 1, none⟩ = some (.int .i64 d0) := (hd23 _ _ q_c).trans c22_c_1
                      have c23_c_2 : w23.cell? ⟨w1.heap.size, 2, none⟩ = some (.int .i64 x0) := (hd23 _ _ q_c).trans c22_c_2
                      have c23_c_3 : w23.cell? ⟨w1.heap.size, 3, none⟩ = some (.int .i64 y0) := (hd23 _ _ q_c).trans c22_c_3
                      have c23_s_0 : w23.cell? ⟨w1.heap.size + 1, 0, none⟩ = some (.int .i64 n1) := (hd23 _ _ q_s).trans c22_s_0
                      have c23_s_1 : w23.cell? ⟨w1.heap.size + 1, 1, none⟩ = some (.int .i64 d1) := (hd23 _ _ q_s).trans c22_s_1
                      have c23_shown_0 : w23.cell? ⟨w2.heap.size, 0, none⟩ = some (.int .i64 un) := (hd23 _ _ q_shown).trans c22_shown_0
                      have c23_shown_1 : w23.cell? ⟨w2.heap.size, 1, none⟩ = some (.int .i64 ud) := (hd23 _ _ q_shown).trans c22_shown_1
                      have c23_right_0 : w23.cell? ⟨w3.heap.size, 0, none⟩ = some (.int .i64 un) := (hd23 _ _ q_right).trans c22_right_0
                      have c23_right_1 : w23.cell? ⟨w3.heap.size, 1, none⟩ = some (.int .i64 ud) := (hd23 _ _ q_right).trans c22_right_1
                      have c23_ahead_0 : w23.cell? ⟨w4.heap.size, 0, none⟩ = some (.int .i64 gn) := (hd23 _ _ q_ahead).trans c22_ahead_0
                      have c23_ahead_1 : w23.cell? ⟨w4.heap.size, 1, none⟩ = some (.int .i64 gd) := (hd23 _ _ q_ahead).trans c22_ahead_1
                      have c23_want_0 : w23.cell? ⟨w5.heap.size, 0, none⟩ = some (.int .i64 gn) := (hd23 _ _ q_want).trans c22_want_0
                      have c23_want_1 : w23.cell? ⟨w5.heap.size, 1, none⟩ = some (.int .i64 gd) := (hd23 _ _ q_want).trans c22_want_1
                      have c23_set_0 : w23.cell? ⟨w6.heap.size, 0, none⟩ = some (.int .i64 zn) := (hd23 _ _ q_set).trans c22_set_0
                      have c23_set_1 : w23.cell? ⟨w6.heap.size, 1, none⟩ = some (.int .i64 zd) := (hd23 _ _ q_set).trans c22_set_1
                      have c23_set_2 : w23.cell? ⟨w6.heap.size, 2, none⟩ = some (.int .i64 zp) := (hd23 _ _ q_set).trans c22_set_2
                      have c23_set_3 : w23.cell? ⟨w6.heap.size, 3, none⟩ = some (.int .i64 zq) := (hd23 _ _ q_set).trans c22_set_3
                      have c23_model_0 : w23.cell? ⟨w7.heap.size, 0, none⟩ = some (.int .i64 zn) := (hd23 _ _ q_model).trans c22_model_0
                      have c23_model_1 : w23.cell? ⟨w7.heap.size, 1, none⟩ = some (.int .i64 zd) := (hd23 _ _ q_model).trans c22_model_1
                      have c23_model_2 : w23.cell? ⟨w7.heap.size, 2, none⟩ = some (.int .i64 zp) := (hd23 _ _ q_model).trans c22_model_2
                      have c23_model_3 : w23.cell? ⟨w7.heap.size, 3, none⟩ = some (.int .i64 zq) := (hd23 _ _ q_model).trans c22_model_3
                      have c23_d_0 : w23.cell? ⟨w12.heap.size, 0, none⟩ = some (.int .i64 n2) := (hd23 _ _ q_d).trans c22_d_0
                      have c23_d_1 : w23.cell? ⟨w12.heap.size, 1, none⟩ = some (.int .i64 d2) := (hd23 _ _ q_d).trans c22_d_1
                      have c23_d_2 : w23.cell? ⟨w12.heap.size, 2, none⟩ = some (.int .i64 x2) := (hd23 _ _ q_d).trans c22_d_2
                      have c23_d_3 : w23.cell? ⟨w12.heap.size, 3, none⟩ = some (.int .i64 y2) := (hd23 _ _ q_d).trans c22_d_3
                      have c23_first_0 : w23.cell? ⟨w13.heap.size, 0, none⟩ = some (.int .i64 fn) := (hd23 _ _ q_first).trans c22_first_0
                      have c23_first_1 : w23.cell? ⟨w13.heap.size, 1, none⟩ = some (.int .i64 fd) := (hd23 _ _ q_first).trans c22_first_1
                      have c23_value_0 : w23.cell? ⟨w14.heap.size, 0, none⟩ = some (.int .i64 fn) := (hd23 _ _ q_value).trans c22_value_0
                      have c23_value_1 : w23.cell? ⟨w14.heap.size, 1, none⟩ = some (.int .i64 fd) := (hd23 _ _ q_value).trans c22_value_1
                      have c23_every_0 : w23.cell? ⟨w15.heap.size, 0, none⟩ = some (.int .i64 rn) := (hd23 _ _ q_every).trans c22_every_0
                      have c23_every_1 : w23.cell? ⟨w15.heap.size, 1, none⟩ = some (.int .i64 rd) := (hd23 _ _ q_every).trans c22_every_1
                      have c23_due_0 : w23.cell? ⟨w16.heap.size, 0, none⟩ = some (.int .i64 rn) := (hd23 _ _ q_due).trans c22_due_0
                      have c23_due_1 : w23.cell? ⟨w16.heap.size, 1, none⟩ = some (.int .i64 rd) := (hd23 _ _ q_due).trans c22_due_1
                      have c23_next_0 : w23.cell? ⟨w21.heap.size, 0, none⟩ = some (.int .i64 en) := (hd23 _ _ q_next).trans c22_next_0
                      have c23_next_1 : w23.cell? ⟨w21.heap.size, 1, none⟩ = some (.int .i64 ed) := (hd23 _ _ q_next).trans c22_next_1
                      replace q_c : w1.heap.size < w23.heap.size := by omega
                      replace q_s : w1.heap.size + 1 < w23.heap.size := by omega
                      replace q_shown : w2.heap.size < w23.heap.size := by omega
                      replace q_right : w3.heap.size < w23.heap.size := by omega
                      replace q_ahead : w4.heap.size < w23.heap.size := by omega
                      replace q_want : w5.heap.size < w23.heap.size := by omega
                      replace q_set : w6.heap.size < w23.heap.size := by omega
                      replace q_model : w7.heap.size < w23.heap.size := by omega
                      replace q_d : w12.heap.size < w23.heap.size := by omega
                      replace q_first : w13.heap.size < w23.heap.size := by omega
                      replace q_value : w14.heap.size < w23.heap.size := by omega
                      replace q_every : w15.heap.size < w23.heap.size := by omega
                      replace q_due : w16.heap.size < w23.heap.size := by omega
                      replace q_next : w21.heap.size < w23.heap.size := by omega
                      have BW23 : Below w.heap.size w w23 := BW22.trans (B23.mono BW22.size)
                      have BX23 : Below w20.heap.size w20 w23 := BX22.trans (B23.mono BX22.size)
                      clear BX22
                      clear hc23 hf23 hb23 hd23 B23 c22_c_0 c22_c_1 c22_c_2 c22_c_3 c22_s_0 c22_s_1 c22_shown_0 c22_shown_1 c22_right_0 c22_right_1 c22_ahead_0 c22_ahead_1 c22_want_0 c22_want_1 c22_set_0 c22_set_1 c22_set_2 c22_set_3 c22_model_0 c22_model_1 c22_model_2 c22_model_3 c22_d_0 c22_d_1 c22_d_2 c22_d_3 c22_first_0 c22_first_1 c22_value_0 c22_value_1 c22_every_0 c22_every_1 c22_due_0 c22_due_1 c22_next_0 c22_next_1 BW22
                      go_upto_region 38 with fail
                      have hb24 : Below w23.heap.size w23 (w23.alloc (Obj.cells #[.int .i64 0, .int .i64 1] 25)) := by (repeat' (first | (with_reducible exact Below.refl _ _) | (with_reducible assumption) | (with_reducible refine Below.alloc ?_ ?_ _) | (with_reducible refine Below.drew ?_) | (with_reducible refine below_drewN ?_ _) | (with_reducible refine Below.setCell ?_ ?_ _) | (with_reducible refine below_call ?_ ?_ (by assumption)) | go_size))
                      have c24_again_0 : (w23.alloc (Obj.cells #[.int .i64 0, .int .i64 1] 25)).cell? ⟨w23.heap.size, 0, none⟩ = some (.int .i64 0) := by go_simp
                      have c24_again_1 : (w23.alloc (Obj.cells #[.int .i64 0, .int .i64 1] 25)).cell? ⟨w23.heap.size, 1, none⟩ = some (.int .i64 1) := by go_simp
                      have q_again : w23.heap.size < (w23.alloc (Obj.cells #[.int .i64 0, .int .i64 1] 25)).heap.size := by go_size
                      generalize (w23.alloc (Obj.cells #[.int .i64 0, .int .i64 1] 25)) = w24 at *
                      obtain ⟨hd24, -⟩ := bcell hb24
                      have hz24 := hb24.size
                      have c24_c_0 : w24.cell? ⟨w1.heap.size, 0, none⟩ = some (.int .i64 n0) := (hd24 _ _ q_c).trans c23_c_0
                      have c24_c_1 : w24.cell? ⟨w1.heap.size, 1, none⟩ = some (.int .i64 d0) := (hd24 _ _ q_c).trans c23_c_1
                      have c24_c_2 : w24.cell? ⟨w1.heap.size, 2, none⟩ = some (.int .i64 x0) := (hd24 _ _ q_c).trans c23_c_2
                      have c24_c_3 : w24.cell? ⟨w1.heap.size, 3, none⟩ = some (.int .i64 y0) := (hd24 _ _ q_c).trans c23_c_3
                      have c24_s_0 : w24.cell? ⟨w1.heap.size + 1, 0, none⟩ = some (.int .i64 n1) := (hd24 _ _ q_s).trans c23_s_0
                      have c24_s_1 : w24.cell? ⟨w1.heap.size + 1, 1, none⟩ = some (.int .i64 d1) := (hd24 _ _ q_s).trans c23_s_1
                      have c24_shown_0 : w24.cell? ⟨w2.heap.size, 0, none⟩ = some (.int .i64 un) := (hd24 _ _ q_shown).trans c23_shown_0
                      have c24_shown_1 : w24.cell? ⟨w2.heap.size, 1, none⟩ = some (.int .i64 ud) := (hd24 _ _ q_shown).trans c23_shown_1
                      have c24_right_0 : w24.cell? ⟨w3.heap.size, 0, none⟩ = some (.int .i64 un) := (hd24 _ _ q_right).trans c23_right_0
                      have c24_right_1 : w24.cell? ⟨w3.heap.size, 1, none⟩ = some (.int .i64 ud) := (hd24 _ _ q_right).trans c23_right_1
                      have c24_ahead_0 : w24.cell? ⟨w4.heap.size, 0, none⟩ = some (.int .i64 gn) := (hd24 _ _ q_ahead).trans c23_ahead_0
                      have c24_ahead_1 : w24.cell? ⟨w4.heap.size, 1, none⟩ = some (.int .i64 gd) := (hd24 _ _ q_ahead).trans c23_ahead_1
                      have c24_want_0 : w24.cell? ⟨w5.heap.size, 0, none⟩ = some (.int .i64 gn) := (hd24 _ _ q_want).trans c23_want_0
                      have c24_want_1 : w24.cell? ⟨w5.heap.size, 1, none⟩ = some (.int .i64 gd) := (hd24 _ _ q_want).trans c23_want_1
                      have c24_set_0 : w24.cell? ⟨w6.heap.size, 0, none⟩ = some (.int .i64 zn) := (hd24 _ _ q_set).trans c23_set_0
                      have c24_set_1 : w24.cell? ⟨w6.heap.size, 1, none⟩ = some (.int .i64 zd) := (hd24 _ _ q_set).trans c23_set_1
                      have c24_set_2 : w24.cell? ⟨w6.heap.size, 2, none⟩ = some (.int .i64 zp) := (hd24 _ _ q_set).trans c23_set_2
                      have c24_set_3 : w24.cell? ⟨w6.heap.size, 3, none⟩ = some (.int .i64 zq) := (hd24 _ _ q_set).trans c23_set_3
                      have c24_model_0 : w24.cell? ⟨w7.heap.size, 0, none⟩ = some (.int .i64 zn) := (hd24 _ _ q_model).trans c23_model_0
                      have c24_model_1 : w24.cell? ⟨w7.heap.size, 1, none⟩ = some (.int .i64 zd) := (hd24 _ _ q_model).trans c23_model_1
                      have c24_model_2 : w24.cell? ⟨w7.heap.size, 2, none⟩ = some (.int .i64 zp) := (hd24 _ _ q_model).trans c23_model_2
                      have c24_model_3 : w24.cell? ⟨w7.heap.size, 3, none⟩ = some (.int .i64 zq) := (hd24 _ _ q_model).trans c23_model_3
                      have c24_d_0 : w24.cell? ⟨w12.heap.size, 0, none⟩ = some (.int .i64 n2) := (hd24 _ _ q_d).trans c23_d_0
                      have c24_d_1 : w24.cell? ⟨w12.heap.size, 1, none⟩ = some (.int .i64 d2) := (hd24 _ _ q_d).trans c23_d_1
                      have c24_d_2 : w24.cell? ⟨w12.heap.size, 2, none⟩ = some (.int .i64 x2) := (hd24 _ _ q_d).trans c23_d_2
                      have c24_d_3 : w24.cell? ⟨w12.heap.size, 3, none⟩ = some (.int .i64 y2) := (hd24 _ _ q_d).trans c23_d_3
                      have c24_first_0 : w24.cell? ⟨w13.heap.size, 0, none⟩ = some (.int .i64 fn) := (hd24 _ _ q_first).trans c23_first_0
                      have c24_first_1 : w24.cell? ⟨w13.heap.size, 1, none⟩ = some (.int .i64 fd) := (hd24 _ _ q_first).trans c23_first_1
                      have c24_value_0 : w24.cell? ⟨w14.heap.size, 0, none⟩ = some (.int .i64 fn) := (hd24 _ _ q_value).trans c23_value_0
                      have c24_value_1 : w24.cell? ⟨w14.heap.size, 1, none⟩ = some (.int .i64 fd) := (hd24 _ _ q_value).trans c23_value_1
                      have c24_every_0 : w24.cell? ⟨w15.heap.size, 0, none⟩ = some (.int .i64 rn) := (hd24 _ _ q_every).trans c23_every_0
                      have c24_every_1 : w24.cell? ⟨w15.heap.size, 1, none⟩ = some (.int .i64 rd) := (hd24 _ _ q_every).trans c23_every_1
                      have c24_due_0 : w24.cell? ⟨w16.heap.size, 0, none⟩ = some (.int .i64 rn) := (hd24 _ _ q_due).trans c23_due_0
                      have c24_due_1 : w24.cell? ⟨w16.heap.size, 1, none⟩ = some (.int .i64 rd) := (hd24 _ _ q_due).trans c23_due_1
                      have c24_next_0 : w24.cell? ⟨w21.heap.size, 0, none⟩ = some (.int .i64 en) := (hd24 _ _ q_next).trans c23_next_0
                      have c24_next_1 : w24.cell? ⟨w21.heap.size, 1, none⟩ = some (.int .i64 ed) := (hd24 _ _ q_next).trans c23_next_1
                      replace q_c : w1.heap.size < w24.heap.size := by omega
                      replace q_s : w1.heap.size + 1 < w24.heap.size := by omega
                      replace q_shown : w2.heap.size < w24.heap.size := by omega
                      replace q_right : w3.heap.size < w24.heap.size := by omega
                      replace q_ahead : w4.heap.size < w24.heap.size := by omega
                      replace q_want : w5.heap.size < w24.heap.size := by omega
                      replace q_set : w6.heap.size < w24.heap.size := by omega
                      replace q_model : w7.heap.size < w24.heap.size := by omega
                      replace q_d : w12.heap.size < w24.heap.size := by omega
                      replace q_first : w13.heap.size < w24.heap.size := by omega
                      replace q_value : w14.heap.size < w24.heap.size := by omega
                      replace q_every : w15.heap.size < w24.heap.size := by omega
                      replace q_due : w16.heap.size < w24.heap.size := by omega
                      replace q_next : w21.heap.size < w24.heap.size := by omega
                      have BW24 : Below w.heap.size w w24 := BW23.trans (hb24.mono BW23.size)
                      have BX24 : Below w20.heap.size w20 w24 := BX23.trans (hb24.mono BX23.size)
                      clear BX23
                      clear hb24 hd24 c23_c_0 c23_c_1 c23_c_2 c23_c_3 c23_s_0 c23_s_1 c23_shown_0 c23_shown_1 c23_right_0 c23_right_1 c23_ahead_0 c23_ahead_1 c23_want_0 c23_want_1 c23_set_0 c23_set_1 c23_set_2 c23_set_3 c23_model_0 c23_model_1 c23_model_2 c23_model_3 c23_d_0 c23_d_1 c23_d_2 c23_d_3 c23_first_0 c23_first_1 c23_value_0 c23_value_1 c23_every_0 c23_every_1 c23_due_0 c23_due_1 c23_next_0 c23_next_1 BW23
                      have hrelB := BX24
                      go_wp2_with fail
                      go_meet
                      case rel => exact hrelB
                case rest =>
                  obtain ⟨w21, hw21⟩ : ∃ x : World, x = wc := ⟨_, rfl⟩
                  subst hw21
                  have hb21 := hcut
                  obtain ⟨hc21, hf21⟩ := bcell hb21
                  have hz21 := hb21.size
                  (try simp only [World.size_alloc, World.size_setCell, World.size_drew] at hz21)
                  have B21 : Below w20.heap.size w20 w21 := Below.trans (b := _) (by (repeat' (first | (with_reducible exact Below.refl _ _) | (with_reducible assumption) | (with_reducible refine Below.alloc ?_ ?_ _) | (with_reducible refine Below.drew ?_) | (with_reducible refine below_drewN ?_ _) | (with_reducible refine Below.setCell ?_ ?_ _) | (with_reducible refine below_call ?_ ?_ (by assumption)) | go_size))) (hb21.mono (by first | omega | (simp only [World.size_alloc, World.size_setCell, World.size_drew]; omega)))
                  obtain ⟨hd21, -⟩ := bcell B21
                  have c21_c_0 : w21.cell? ⟨w1.heap.size, 0, none⟩ = some (.int .i64 n0) := (hd21 _ _ q_c).trans c20_c_0
                  have c21_c_1 : w21.cell? ⟨w1.heap.size, 1, none⟩ = some (.int .i64 d0) := (hd21 _ _ q_c).trans c20_c_1
                  have c21_c_2 : w21.cell? ⟨w1.heap.size, 2, none⟩ = some (.int .i64 x0) := (hd21 _ _ q_c).trans c20_c_2
                  have c21_c_3 : w21.cell? ⟨w1.heap.size, 3, none⟩ = some (.int .i64 y0) := (hd21 _ _ q_c).trans c20_c_3
                  have c21_s_0 : w21.cell? ⟨w1.heap.size + 1, 0, none⟩ = some (.int .i64 n1) := (hd21 _ _ q_s).trans c20_s_0
                  have c21_s_1 : w21.cell? ⟨w1.heap.size + 1, 1, none⟩ = some (.int .i64 d1) := (hd21 _ _ q_s).trans c20_s_1
                  have c21_shown_0 : w21.cell? ⟨w2.heap.size, 0, none⟩ = some (.int .i64 un) := (hd21 _ _ q_shown).trans c20_shown_0
                  have c21_shown_1 : w21.cell? ⟨w2.heap.size, 1, none⟩ = some (.int .i64 ud) := (hd21 _ _ q_shown).trans c20_shown_1
                  have c21_right_0 : w21.cell? ⟨w3.heap.size, 0, none⟩ = some (.int .i64 un) := (hd21 _ _ q_right).trans c20_right_0
                  have c21_right_1 : w21.cell? ⟨w3.heap.size, 1, none⟩ = some (.int .i64 ud) := (hd21 _ _ q_right).trans c20_right_1
                  have c21_ahead_0 : w21.cell? ⟨w4.heap.size, 0, none⟩ = some (.int .i64 gn) := (hd21 _ _ q_ahead).trans c20_ahead_0
                  have c21_ahead_1 : w21.cell? ⟨w4.heap.size, 1, none⟩ = some (.int .i64 gd) := (hd21 _ _ q_ahead).trans c20_ahead_1
                  have c21_want_0 : w21.cell? ⟨w5.heap.size, 0, none⟩ = some (.int .i64 gn) := (hd21 _ _ q_want).trans c20_want_0
                  have c21_want_1 : w21.cell? ⟨w5.heap.size, 1, none⟩ = some (.int .i64 gd) := (hd21 _ _ q_want).trans c20_want_1
                  have c21_set_0 : w21.cell? ⟨w6.heap.size, 0, none⟩ = some (.int .i64 zn) := (hd21 _ _ q_set).trans c20_set_0
                  have c21_set_1 : w21.cell? ⟨w6.heap.size, 1, none⟩ = some (.int .i64 zd) := (hd21 _ _ q_set).trans c20_set_1
                  have c21_set_2 : w21.cell? ⟨w6.heap.size, 2, none⟩ = some (.int .i64 zp) := (hd21 _ _ q_set).trans c20_set_2
                  have c21_set_3 : w21.cell? ⟨w6.heap.size, 3, none⟩ = some (.int .i64 zq) := (hd21 _ _ q_set).trans c20_set_3
                  have c21_model_0 : w21.cell? ⟨w7.heap.size, 0, none⟩ = some (.int .i64 zn) := (hd21 _ _ q_model).trans c20_model_0
                  have c21_model_1 : w21.cell? ⟨w7.heap.size, 1, none⟩ = some (.int .i64 zd) := (hd21 _ _ q_model).trans c20_model_1
                  have c21_model_2 : w21.cell? ⟨w7.heap.size, 2, none⟩ = some (.int .i64 zp) := (hd21 _ _ q_model).trans c20_model_2
                  have c21_model_3 : w21.cell? ⟨w7.heap.size, 3, none⟩ = some (.int .i64 zq) := (hd21 _ _ q_model).trans c20_model_3
                  have c21_d_0 : w21.cell? ⟨w12.heap.size, 0, none⟩ = some (.int .i64 n2) := (hd21 _ _ q_d).trans c20_d_0
                  have c21_d_1 : w21.cell? ⟨w12.heap.size, 1, none⟩ = some (.int .i64 d2) := (hd21 _ _ q_d).trans c20_d_1
                  have c21_d_2 : w21.cell? ⟨w12.heap.size, 2, none⟩ = some (.int .i64 x2) := (hd21 _ _ q_d).trans c20_d_2
                  have c21_d_3 : w21.cell? ⟨w12.heap.size, 3, none⟩ = some (.int .i64 y2) := (hd21 _ _ q_d).trans c20_d_3
                  have c21_first_0 : w21.cell? ⟨w13.heap.size, 0, none⟩ = some (.int .i64 fn) := (hd21 _ _ q_first).trans c20_first_0
                  have c21_first_1 : w21.cell? ⟨w13.heap.size, 1, none⟩ = some (.int .i64 fd) := (hd21 _ _ q_first).trans c20_first_1
                  have c21_value_0 : w21.cell? ⟨w14.heap.size, 0, none⟩ = some (.int .i64 fn) := (hd21 _ _ q_value).trans c20_value_0
                  have c21_value_1 : w21.cell? ⟨w14.heap.size, 1, none⟩ = some (.int .i64 fd) := (hd21 _ _ q_value).trans c20_value_1
                  have c21_every_0 : w21.cell? ⟨w15.heap.size, 0, none⟩ = some (.int .i64 rn) := (hd21 _ _ q_every).trans c20_every_0
                  have c21_every_1 : w21.cell? ⟨w15.heap.size, 1, none⟩ = some (.int .i64 rd) := (hd21 _ _ q_every).trans c20_every_1
                  have c21_due_0 : w21.cell? ⟨w16.heap.size, 0, none⟩ = some (.int .i64 rn) := (hd21 _ _ q_due).trans c20_due_0
                  have c21_due_1 : w21.cell? ⟨w16.heap.size, 1, none⟩ = some (.int .i64 rd) := (hd21 _ _ q_due).trans c20_due_1
                  replace q_c : w1.heap.size < w21.heap.size := by omega
                  replace q_s : w1.heap.size + 1 < w21.heap.size := by omega
                  replace q_shown : w2.heap.size < w21.heap.size := by omega
                  replace q_right : w3.heap.size < w21.heap.size := by omega
                  replace q_ahead : w4.heap.size < w21.heap.size := by omega
                  replace q_want : w5.heap.size < w21.heap.size := by omega
                  replace q_set : w6.heap.size < w21.heap.size := by omega
                  replace q_model : w7.heap.size < w21.heap.size := by omega
                  replace q_d : w12.heap.size < w21.heap.size := by omega
                  replace q_first : w13.heap.size < w21.heap.size := by omega
                  replace q_value : w14.heap.size < w21.heap.size := by omega
                  replace q_every : w15.heap.size < w21.heap.size := by omega
                  replace q_due : w16.heap.size < w21.heap.size := by omega
                  have BW21 : Below w.heap.size w w21 := BW20.trans (B21.mono BW20.size)
                  clear hc21 hf21 hb21 hd21 B21 c20_c_0 c20_c_1 c20_c_2 c20_c_3 c20_s_0 c20_s_1 c20_shown_0 c20_shown_1 c20_right_0 c20_right_1 c20_ahead_0 c20_ahead_1 c20_want_0 c20_want_1 c20_set_0 c20_set_1 c20_set_2 c20_set_3 c20_model_0 c20_model_1 c20_model_2 c20_model_3 c20_d_0 c20_d_1 c20_d_2 c20_d_3 c20_first_0 c20_first_1 c20_value_0 c20_value_1 c20_every_0 c20_every_1 c20_due_0 c20_due_1 BW20
                  go_wp2_with fail
                  refine (DrawFirstShown_any L2 p2 L2.length q2 rfl hlen2 _ (BIn.below HB2.out (by (repeat' (first | (with_reducible exact Below.refl _ _) | (with_reducible assumption) | (with_reducible refine Below.alloc ?_ ?_ _) | (with_reducible refine Below.drew ?_) | (with_reducible refine below_drewN ?_ _) | (with_reducible refine Below.setCell ?_ ?_ _) | (with_reducible refine below_call ?_ ?_ (by assumption)) | go_size))))).mono ?_
                  rintro e22 w22 ⟨n3, d3, x3, y3, n4, d4, rfl, ⟨⟨kn3, kd3, kx3, ky3⟩, kn4, kd4⟩, hb22⟩
                  obtain ⟨hc22, hf22⟩ := bcell hb22
                  have hz22 := hb22.size
                  (try simp only [World.size_alloc, World.size_setCell, World.size_drew] at hz22)
                  have B22 : Below w21.heap.size w21 w22 := Below.trans (b := _) (by (repeat' (first | (with_reducible exact Below.refl _ _) | (with_reducible assumption) | (with_reducible refine Below.alloc ?_ ?_ _) | (with_reducible refine Below.drew ?_) | (with_reducible refine below_drewN ?_ _) | (with_reducible refine Below.setCell ?_ ?_ _) | (with_reducible refine below_call ?_ ?_ (by assumption)) | go_size))) (hb22.mono (by first | omega | (simp only [World.size_alloc, World.size_setCell, World.size_drew]; omega)))
                  obtain ⟨hd22, -⟩ := bcell B22
                  have c22_c_0 : w22.cell? ⟨w1.heap.size, 0, none⟩ = some (.int .i64 n0) := (hd22 _ _ q_c).trans c21_c_0
                  have c22_c_1 : w22.cell? ⟨w1.heap.size, 1, none⟩ = some (.int .i64 d0) := (hd22 _ _ q_c).trans c21_c_1
                  have c22_c_2 : w22.cell? ⟨w1.heap.size, 2, none⟩ = some (.int .i64 x0) := (hd22 _ _ q_c).trans c21_c_2
                  have c22_c_3 : w22.cell? ⟨w1.heap.size, 3, none⟩ = some (.int .i64 y0) := (hd22 _ _ q_c).trans c21_c_3
                  have c22_s_0 : w22.cell? ⟨w1.heap.size + 1, 0, none⟩ = some (.int .i64 n1) := (hd22 _ _ q_s).trans c21_s_0
                  have c22_s_1 : w22.cell? ⟨w1.heap.size + 1, 1, none⟩ = some (.int .i64 d1) := (hd22 _ _ q_s).trans c21_s_1
                  have c22_shown_0 : w22.cell? ⟨w2.heap.size, 0, none⟩ = some (.int .i64 un) := (hd22 _ _ q_shown).trans c21_shown_0
                  have c22_shown_1 : w22.cell? ⟨w2.heap.size, 1, none⟩ = some (.int .i64 ud) := (hd22 _ _ q_shown).trans c21_shown_1
                  have c22_right_0 : w22.cell? ⟨w3.heap.size, 0, none⟩ = some (.int .i64 un) := (hd22 _ _ q_right).trans c21_right_0
                  have c22_right_1 : w22.cell? ⟨w3.heap.size, 1, none⟩ = some (.int .i64 ud) := (hd22 _ _ q_right).trans c21_right_1
                  have c22_ahead_0 : w22.cell? ⟨w4.heap.size, 0, none⟩ = some (.int .i64 gn) := (hd22 _ _ q_ahead).trans c21_ahead_0
                  have c22_ahead_1 : w22.cell? ⟨w4.heap.size, 1, none⟩ = some (.int .i64 gd) := (hd22 _ _ q_ahead).trans c21_ahead_1
                  have c22_want_0 : w22.cell? ⟨w5.heap.size, 0, none⟩ = some (.int .i64 gn) := (hd22 _ _ q_want).trans c21_want_0
                  have c22_want_1 : w22.cell? ⟨w5.heap.size, 1, none⟩ = some (.int .i64 gd) := (hd22 _ _ q_want).trans c21_want_1
                  have c22_set_0 : w22.cell? ⟨w6.heap.size, 0, none⟩ = some (.int .i64 zn) := (hd22 _ _ q_set).trans c21_set_0
                  have c22_set_1 : w22.cell? ⟨w6.heap.size, 1, none⟩ = some (.int .i64 zd) := (hd22 _ _ q_set).trans c21_set_1
                  have c22_set_2 : w22.cell? ⟨w6.heap.size, 2, none⟩ = some (.int .i64 zp) := (hd22 _ _ q_set).trans c21_set_2
                  have c22_set_3 : w22.cell? ⟨w6.heap.size, 3, none⟩ = some (.int .i64 zq) := (hd22 _ _ q_set).trans c21_set_3
                  have c22_model_0 : w22.cell? ⟨w7.heap.size, 0, none⟩ = some (.int .i64 zn) := (hd22 _ _ q_model).trans c21_model_0
                  have c22_model_1 : w22.cell? ⟨w7.heap.size, 1, none⟩ = some (.int .i64 zd) := (hd22 _ _ q_model).trans c21_model_1
                  have c22_model_2 : w22.cell? ⟨w7.heap.size, 2, none⟩ = some (.int .i64 zp) := (hd22 _ _ q_model).trans c21_model_2
                  have c22_model_3 : w22.cell? ⟨w7.heap.size, 3, none⟩ = some (.int .i64 zq) := (hd22 _ _ q_model).trans c21_model_3
                  have c22_d_0 : w22.cell? ⟨w12.heap.size, 0, none⟩ = some (.int .i64 n2) := (hd22 _ _ q_d).trans c21_d_0
                  have c22_d_1 : w22.cell? ⟨w12.heap.size, 1, none⟩ = some (.int .i64 d2) := (hd22 _ _ q_d).trans c21_d_1
                  have c22_d_2 : w22.cell? ⟨w12.heap.size, 2, none⟩ = some (.int .i64 x2) := (hd22 _ _ q_d).trans c21_d_2
                  have c22_d_3 : w22.cell? ⟨w12.heap.size, 3, none⟩ = some (.int .i64 y2) := (hd22 _ _ q_d).trans c21_d_3
                  have c22_first_0 : w22.cell? ⟨w13.heap.size, 0, none⟩ = some (.int .i64 fn) := (hd22 _ _ q_first).trans c21_first_0
                  have c22_first_1 : w22.cell? ⟨w13.heap.size, 1, none⟩ = some (.int .i64 fd) := (hd22 _ _ q_first).trans c21_first_1
                  have c22_value_0 : w22.cell? ⟨w14.heap.size, 0, none⟩ = some (.int .i64 fn) := (hd22 _ _ q_value).trans c21_value_0
                  have c22_value_1 : w22.cell? ⟨w14.heap.size, 1, none⟩ = some (.int .i64 fd) := (hd22 _ _ q_value).trans c21_value_1
                  have c22_every_0 : w22.cell? ⟨w15.heap.size, 0, none⟩ = some (.int .i64 rn) := (hd22 _ _ q_every).trans c21_every_0
                  have c22_every_1 : w22.cell? ⟨w15.heap.size, 1, none⟩ = some (.int .i64 rd) := (hd22 _ _ q_every).trans c21_every_1
                  have c22_due_0 : w22.cell? ⟨w16.heap.size, 0, none⟩ = some (.int .i64 rn) := (hd22 _ _ q_due).trans c21_due_0
                  have c22_due_1 : w22.cell? ⟨w16.heap.size, 1, none⟩ = some (.int .i64 rd) := (hd22 _ _ q_due).trans c21_due_1
                  replace q_c : w1.heap.size < w22.heap.size := by omega
                  replace q_s : w1.heap.size + 1 < w22.heap.size := by omega
                  replace q_shown : w2.heap.size < w22.heap.size := by omega
                  replace q_right : w3.heap.size < w22.heap.size := by omega
                  replace q_ahead : w4.heap.size < w22.heap.size := by omega
                  replace q_want : w5.heap.size < w22.heap.size := by omega
                  replace q_set : w6.heap.size < w22.heap.size := by omega
                  replace q_model : w7.heap.size < w22.heap.size := by omega
                  replace q_d : w12.heap.size < w22.heap.size := by omega
                  replace q_first : w13.heap.size < w22.heap.size := by omega
                  replace q_value : w14.heap.size < w22.heap.size := by omega
                  replace q_every : w15.heap.size < w22.heap.size := by omega
                  replace q_due : w16.heap.size < w22.heap.size := by omega
                  have BW22 : Below w.heap.size w w22 := BW21.trans (B22.mono BW21.size)
                  clear hc22 hf22 hb22 hd22 B22 c21_c_0 c21_c_1 c21_c_2 c21_c_3 c21_s_0 c21_s_1 c21_shown_0 c21_shown_1 c21_right_0 c21_right_1 c21_ahead_0 c21_ahead_1 c21_want_0 c21_want_1 c21_set_0 c21_set_1 c21_set_2 c21_set_3 c21_model_0 c21_model_1 c21_model_2 c21_model_3 c21_d_0 c21_d_1 c21_d_2 c21_d_3 c21_first_0 c21_first_1 c21_value_0 c21_value_1 c21_every_0 c21_every_1 c21_due_0 c21_due_1 BW21
                  obtain ⟨hn, hd, ho, hH⟩ : ∃ x y z, shownS n3 d3 x3 y3 n4 d4 = (x, y, z) := ⟨_, _, _, rfl⟩
                  have C11 := Lib.hid (fun W => (show Calls Try.prog 24 #[cv n3 d3 x3 y3, tv n4 d4] W fun e w' => e = .returned (rv (hn, hd, ho)) ∧ Below W.heap.size W w' from by have := implFirstShown_any n3 d3 x3 y3 n4 d4 W; rw [hH] at this; exact this))
                  have C12 := Lib.hid (fun W => (show Calls Try.prog 25 #[cv n3 d3 x3 y3, tv n4 d4] W fun e w' => e = .returned (rv (hn, hd, ho)) ∧ Below W.heap.size W w' from by have := specFirstShown_any n3 d3 x3 y3 n4 d4 kd3 kd4 W; rw [hH] at this; exact this))
                  have G5 := Lib.hid (fun (e : ho = true) => shown_then (by rw [hH, e] : shownS n3 d3 x3 y3 n4 d4 = (hn, hd, true)))
                  clear hH
                  go_wp2_with fail
                  refine (C11.out _).mono ?_
                  rintro e23 w23 ⟨rfl, hb23⟩
                  obtain ⟨hc23, hf23⟩ := bcell hb23
                  have hz23 := hb23.size
                  (try simp only [World.size_alloc, World.size_setCell, World.size_drew] at hz23)
                  have B23 : Below w22.heap.size w22 w23 := Below.trans (b := _) (by (repeat' (first | (with_reducible exact Below.refl _ _) | (with_reducible assumption) | (with_reducible refine Below.alloc ?_ ?_ _) | (with_reducible refine Below.drew ?_) | (with_reducible refine below_drewN ?_ _) | (with_reducible refine Below.setCell ?_ ?_ _) | (with_reducible refine below_call ?_ ?_ (by assumption)) | go_size))) (hb23.mono (by first | omega | (simp only [World.size_alloc, World.size_setCell, World.size_drew]; omega)))
                  obtain ⟨hd23, -⟩ := bcell B23
                  have c23_c_0 : w23.cell? ⟨w1.heap.size, 0, none⟩ = some (.int .i64 n0) := (hd23 _ _ q_c).trans c22_c_0
                  have c23_c_1 : w23.cell? ⟨w1.heap.size, 1, none⟩ = some (.int .i64 d0) := (hd23 _ _ q_c).trans c22_c_1
                  have c23_c_2 : w23.cell? ⟨w1.heap.size, 2, none⟩ = some (.int .i64 x0) := (hd23 _ _ q_c).trans c22_c_2
                  have c23_c_3 : w23.cell? ⟨w1.heap.size, 3, none⟩ = some (.int .i64 y0) := (hd23 _ _ q_c).trans c22_c_3
                  have c23_s_0 : w23.cell? ⟨w1.heap.size + 1, 0, none⟩ = some (.int .i64 n1) := (hd23 _ _ q_s).trans c22_s_0
                  have c23_s_1 : w23.cell? ⟨w1.heap.size + 1, 1, none⟩ = some (.int .i64 d1) := (hd23 _ _ q_s).trans c22_s_1
                  have c23_shown_0 : w23.cell? ⟨w2.heap.size, 0, none⟩ = some (.int .i64 un) := (hd23 _ _ q_shown).trans c22_shown_0
                  have c23_shown_1 : w23.cell? ⟨w2.heap.size, 1, none⟩ = some (.int .i64 ud) := (hd23 _ _ q_shown).trans c22_shown_1
                  have c23_right_0 : w23.cell? ⟨w3.heap.size, 0, none⟩ = some (.int .i64 un) := (hd23 _ _ q_right).trans c22_right_0
                  have c23_right_1 : w23.cell? ⟨w3.heap.size, 1, none⟩ = some (.int .i64 ud) := (hd23 _ _ q_right).trans c22_right_1
                  have c23_ahead_0 : w23.cell? ⟨w4.heap.size, 0, none⟩ = some (.int .i64 gn) := (hd23 _ _ q_ahead).trans c22_ahead_0
                  have c23_ahead_1 : w23.cell? ⟨w4.heap.size, 1, none⟩ = some (.int .i64 gd) := (hd23 _ _ q_ahead).trans c22_ahead_1
                  have c23_want_0 : w23.cell? ⟨w5.heap.size, 0, none⟩ = some (.int .i64 gn) := (hd23 _ _ q_want).trans c22_want_0
                  have c23_want_1 : w23.cell? ⟨w5.heap.size, 1, none⟩ = some (.int .i64 gd) := (hd23 _ _ q_want).trans c22_want_1
                  have c23_set_0 : w23.cell? ⟨w6.heap.size, 0, none⟩ = some (.int .i64 zn) := (hd23 _ _ q_set).trans c22_set_0
                  have c23_set_1 : w23.cell? ⟨w6.heap.size, 1, none⟩ = some (.int .i64 zd) := (hd23 _ _ q_set).trans c22_set_1
                  have c23_set_2 : w23.cell? ⟨w6.heap.size, 2, none⟩ = some (.int .i64 zp) := (hd23 _ _ q_set).trans c22_set_2
                  have c23_set_3 : w23.cell? ⟨w6.heap.size, 3, none⟩ = some (.int .i64 zq) := (hd23 _ _ q_set).trans c22_set_3
                  have c23_model_0 : w23.cell? ⟨w7.heap.size, 0, none⟩ = some (.int .i64 zn) := (hd23 _ _ q_model).trans c22_model_0
                  have c23_model_1 : w23.cell? ⟨w7.heap.size, 1, none⟩ = some (.int .i64 zd) := (hd23 _ _ q_model).trans c22_model_1
                  have c23_model_2 : w23.cell? ⟨w7.heap.size, 2, none⟩ = some (.int .i64 zp) := (hd23 _ _ q_model).trans c22_model_2
                  have c23_model_3 : w23.cell? ⟨w7.heap.size, 3, none⟩ = some (.int .i64 zq) := (hd23 _ _ q_model).trans c22_model_3
                  have c23_d_0 : w23.cell? ⟨w12.heap.size, 0, none⟩ = some (.int .i64 n2) := (hd23 _ _ q_d).trans c22_d_0
                  have c23_d_1 : w23.cell? ⟨w12.heap.size, 1, none⟩ = some (.int .i64 d2) := (hd23 _ _ q_d).trans c22_d_1
                  have c23_d_2 : w23.cell? ⟨w12.heap.size, 2, none⟩ = some (.int .i64 x2) := (hd23 _ _ q_d).trans c22_d_2
                  have c23_d_3 : w23.cell? ⟨w12.heap.size, 3, none⟩ = some (.int .i64 y2) := (hd23 _ _ q_d).trans c22_d_3
                  have c23_first_0 : w23.cell? ⟨w13.heap.size, 0, none⟩ = some (.int .i64 fn) := (hd23 _ _ q_first).trans c22_first_0
                  have c23_first_1 : w23.cell? ⟨w13.heap.size, 1, none⟩ = some (.int .i64 fd) := (hd23 _ _ q_first).trans c22_first_1
                  have c23_value_0 : w23.cell? ⟨w14.heap.size, 0, none⟩ = some (.int .i64 fn) := (hd23 _ _ q_value).trans c22_value_0
                  have c23_value_1 : w23.cell? ⟨w14.heap.size, 1, none⟩ = some (.int .i64 fd) := (hd23 _ _ q_value).trans c22_value_1
                  have c23_every_0 : w23.cell? ⟨w15.heap.size, 0, none⟩ = some (.int .i64 rn) := (hd23 _ _ q_every).trans c22_every_0
                  have c23_every_1 : w23.cell? ⟨w15.heap.size, 1, none⟩ = some (.int .i64 rd) := (hd23 _ _ q_every).trans c22_every_1
                  have c23_due_0 : w23.cell? ⟨w16.heap.size, 0, none⟩ = some (.int .i64 rn) := (hd23 _ _ q_due).trans c22_due_0
                  have c23_due_1 : w23.cell? ⟨w16.heap.size, 1, none⟩ = some (.int .i64 rd) := (hd23 _ _ q_due).trans c22_due_1
                  replace q_c : w1.heap.size < w23.heap.size := by omega
                  replace q_s : w1.heap.size + 1 < w23.heap.size := by omega
                  replace q_shown : w2.heap.size < w23.heap.size := by omega
                  replace q_right : w3.heap.size < w23.heap.size := by omega
                  replace q_ahead : w4.heap.size < w23.heap.size := by omega
                  replace q_want : w5.heap.size < w23.heap.size := by omega
                  replace q_set : w6.heap.size < w23.heap.size := by omega
                  replace q_model : w7.heap.size < w23.heap.size := by omega
                  replace q_d : w12.heap.size < w23.heap.size := by omega
                  replace q_first : w13.heap.size < w23.heap.size := by omega
                  replace q_value : w14.heap.size < w23.heap.size := by omega
                  replace q_every : w15.heap.size < w23.heap.size := by omega
                  replace q_due : w16.heap.size < w23.heap.size := by omega
                  have c23_e_0 : w23.cell? ⟨w22.heap.size, 0, none⟩ = some (.int .i64 n3) := (hc23 _ _ (by go_size)).trans (by go_simp)
                  have c23_e_1 : w23.cell? ⟨w22.heap.size, 1, none⟩ = some (.int .i64 d3) := (hc23 _ _ (by go_size)).trans (by go_simp)
                  have c23_e_2 : w23.cell? ⟨w22.heap.size, 2, none⟩ = some (.int .i64 x3) := (hc23 _ _ (by go_size)).trans (by go_simp)
                  have c23_e_3 : w23.cell? ⟨w22.heap.size, 3, none⟩ = some (.int .i64 y3) := (hc23 _ _ (by go_size)).trans (by go_simp)
                  have q_e : w22.heap.size < w23.heap.size := by omega
                  have c23_t_0 : w23.cell? ⟨w22.heap.size + 1, 0, none⟩ = some (.int .i64 n4) := (hc23 _ _ (by go_size)).trans (by go_simp)
                  have c23_t_1 : w23.cell? ⟨w22.heap.size + 1, 1, none⟩ = some (.int .i64 d4) := (hc23 _ _ (by go_size)).trans (by go_simp)
                  have q_t : w22.heap.size + 1 < w23.heap.size := by omega
                  have BW23 : Below w.heap.size w w23 := BW22.trans (B23.mono BW22.size)
                  clear hc23 hf23 hb23 hd23 B23 c22_c_0 c22_c_1 c22_c_2 c22_c_3 c22_s_0 c22_s_1 c22_shown_0 c22_shown_1 c22_right_0 c22_right_1 c22_ahead_0 c22_ahead_1 c22_want_0 c22_want_1 c22_set_0 c22_set_1 c22_set_2 c22_set_3 c22_model_0 c22_model_1 c22_model_2 c22_model_3 c22_d_0 c22_d_1 c22_d_2 c22_d_3 c22_first_0 c22_first_1 c22_value_0 c22_value_1 c22_every_0 c22_every_1 c22_due_0 c22_due_1 BW22
                  go_wp2_with fail
                  refine (C12.out _).mono ?_
                  rintro e24 w24 ⟨rfl, hb24⟩
                  obtain ⟨hc24, hf24⟩ := bcell hb24
                  have hz24 := hb24.size
                  (try simp only [World.size_alloc, World.size_setCell, World.size_drew] at hz24)
                  have B24 : Below w23.heap.size w23 w24 := Below.trans (b := _) (by (repeat' (first | (with_reducible exact Below.refl _ _) | (with_reducible assumption) | (with_reducible refine Below.alloc ?_ ?_ _) | (with_reducible refine Below.drew ?_) | (with_reducible refine below_drewN ?_ _) | (with_reducible refine Below.setCell ?_ ?_ _) | (with_reducible refine below_call ?_ ?_ (by assumption)) | go_size))) (hb24.mono (by first | omega | (simp only [World.size_alloc, World.size_setCell, World.size_drew]; omega)))
                  obtain ⟨hd24, -⟩ := bcell B24
                  have c24_c_0 : w24.cell? ⟨w1.heap.size, 0, none⟩ = some (.int .i64 n0) := (hd24 _ _ q_c).trans c23_c_0
                  have c24_c_1 : w24.cell? ⟨w1.heap.size, 1, none⟩ = some (.int .i64 d0) := (hd24 _ _ q_c).trans c23_c_1
                  have c24_c_2 : w24.cell? ⟨w1.heap.size, 2, none⟩ = some (.int .i64 x0) := (hd24 _ _ q_c).trans c23_c_2
                  have c24_c_3 : w24.cell? ⟨w1.heap.size, 3, none⟩ = some (.int .i64 y0) := (hd24 _ _ q_c).trans c23_c_3
                  have c24_s_0 : w24.cell? ⟨w1.heap.size + 1, 0, none⟩ = some (.int .i64 n1) := (hd24 _ _ q_s).trans c23_s_0
                  have c24_s_1 : w24.cell? ⟨w1.heap.size + 1, 1, none⟩ = some (.int .i64 d1) := (hd24 _ _ q_s).trans c23_s_1
                  have c24_shown_0 : w24.cell? ⟨w2.heap.size, 0, none⟩ = some (.int .i64 un) := (hd24 _ _ q_shown).trans c23_shown_0
                  have c24_shown_1 : w24.cell? ⟨w2.heap.size, 1, none⟩ = some (.int .i64 ud) := (hd24 _ _ q_shown).trans c23_shown_1
                  have c24_right_0 : w24.cell? ⟨w3.heap.size, 0, none⟩ = some (.int .i64 un) := (hd24 _ _ q_right).trans c23_right_0
                  have c24_right_1 : w24.cell? ⟨w3.heap.size, 1, none⟩ = some (.int .i64 ud) := (hd24 _ _ q_right).trans c23_right_1
                  have c24_ahead_0 : w24.cell? ⟨w4.heap.size, 0, none⟩ = some (.int .i64 gn) := (hd24 _ _ q_ahead).trans c23_ahead_0
                  have c24_ahead_1 : w24.cell? ⟨w4.heap.size, 1, none⟩ = some (.int .i64 gd) := (hd24 _ _ q_ahead).trans c23_ahead_1
                  have c24_want_0 : w24.cell? ⟨w5.heap.size, 0, none⟩ = some (.int .i64 gn) := (hd24 _ _ q_want).trans c23_want_0
                  have c24_want_1 : w24.cell? ⟨w5.heap.size, 1, none⟩ = some (.int .i64 gd) := (hd24 _ _ q_want).trans c23_want_1
                  have c24_set_0 : w24.cell? ⟨w6.heap.size, 0, none⟩ = some (.int .i64 zn) := (hd24 _ _ q_set).trans c23_set_0
                  have c24_set_1 : w24.cell? ⟨w6.heap.size, 1, none⟩ = some (.int .i64 zd) := (hd24 _ _ q_set).trans c23_set_1
                  have c24_set_2 : w24.cell? ⟨w6.heap.size, 2, none⟩ = some (.int .i64 zp) := (hd24 _ _ q_set).trans c23_set_2
                  have c24_set_3 : w24.cell? ⟨w6.heap.size, 3, none⟩ = some (.int .i64 zq) := (hd24 _ _ q_set).trans c23_set_3
                  have c24_model_0 : w24.cell? ⟨w7.heap.size, 0, none⟩ = some (.int .i64 zn) := (hd24 _ _ q_model).trans c23_model_0
                  have c24_model_1 : w24.cell? ⟨w7.heap.size, 1, none⟩ = some (.int .i64 zd) := (hd24 _ _ q_model).trans c23_model_1
                  have c24_model_2 : w24.cell? ⟨w7.heap.size, 2, none⟩ = some (.int .i64 zp) := (hd24 _ _ q_model).trans c23_model_2
                  have c24_model_3 : w24.cell? ⟨w7.heap.size, 3, none⟩ = some (.int .i64 zq) := (hd24 _ _ q_model).trans c23_model_3
                  have c24_d_0 : w24.cell? ⟨w12.heap.size, 0, none⟩ = some (.int .i64 n2) := (hd24 _ _ q_d).trans c23_d_0
                  have c24_d_1 : w24.cell? ⟨w12.heap.size, 1, none⟩ = some (.int .i64 d2) := (hd24 _ _ q_d).trans c23_d_1
                  have c24_d_2 : w24.cell? ⟨w12.heap.size, 2, none⟩ = some (.int .i64 x2) := (hd24 _ _ q_d).trans c23_d_2
                  have c24_d_3 : w24.cell? ⟨w12.heap.size, 3, none⟩ = some (.int .i64 y2) := (hd24 _ _ q_d).trans c23_d_3
                  have c24_first_0 : w24.cell? ⟨w13.heap.size, 0, none⟩ = some (.int .i64 fn) := (hd24 _ _ q_first).trans c23_first_0
                  have c24_first_1 : w24.cell? ⟨w13.heap.size, 1, none⟩ = some (.int .i64 fd) := (hd24 _ _ q_first).trans c23_first_1
                  have c24_value_0 : w24.cell? ⟨w14.heap.size, 0, none⟩ = some (.int .i64 fn) := (hd24 _ _ q_value).trans c23_value_0
                  have c24_value_1 : w24.cell? ⟨w14.heap.size, 1, none⟩ = some (.int .i64 fd) := (hd24 _ _ q_value).trans c23_value_1
                  have c24_every_0 : w24.cell? ⟨w15.heap.size, 0, none⟩ = some (.int .i64 rn) := (hd24 _ _ q_every).trans c23_every_0
                  have c24_every_1 : w24.cell? ⟨w15.heap.size, 1, none⟩ = some (.int .i64 rd) := (hd24 _ _ q_every).trans c23_every_1
                  have c24_due_0 : w24.cell? ⟨w16.heap.size, 0, none⟩ = some (.int .i64 rn) := (hd24 _ _ q_due).trans c23_due_0
                  have c24_due_1 : w24.cell? ⟨w16.heap.size, 1, none⟩ = some (.int .i64 rd) := (hd24 _ _ q_due).trans c23_due_1
                  have c24_e_0 : w24.cell? ⟨w22.heap.size, 0, none⟩ = some (.int .i64 n3) := (hd24 _ _ q_e).trans c23_e_0
                  have c24_e_1 : w24.cell? ⟨w22.heap.size, 1, none⟩ = some (.int .i64 d3) := (hd24 _ _ q_e).trans c23_e_1
                  have c24_e_2 : w24.cell? ⟨w22.heap.size, 2, none⟩ = some (.int .i64 x3) := (hd24 _ _ q_e).trans c23_e_2
                  have c24_e_3 : w24.cell? ⟨w22.heap.size, 3, none⟩ = some (.int .i64 y3) := (hd24 _ _ q_e).trans c23_e_3
                  have c24_t_0 : w24.cell? ⟨w22.heap.size + 1, 0, none⟩ = some (.int .i64 n4) := (hd24 _ _ q_t).trans c23_t_0
                  have c24_t_1 : w24.cell? ⟨w22.heap.size + 1, 1, none⟩ = some (.int .i64 d4) := (hd24 _ _ q_t).trans c23_t_1
                  replace q_c : w1.heap.size < w24.heap.size := by omega
                  replace q_s : w1.heap.size + 1 < w24.heap.size := by omega
                  replace q_shown : w2.heap.size < w24.heap.size := by omega
                  replace q_right : w3.heap.size < w24.heap.size := by omega
                  replace q_ahead : w4.heap.size < w24.heap.size := by omega
                  replace q_want : w5.heap.size < w24.heap.size := by omega
                  replace q_set : w6.heap.size < w24.heap.size := by omega
                  replace q_model : w7.heap.size < w24.heap.size := by omega
                  replace q_d : w12.heap.size < w24.heap.size := by omega
                  replace q_first : w13.heap.size < w24.heap.size := by omega
                  replace q_value : w14.heap.size < w24.heap.size := by omega
                  replace q_every : w15.heap.size < w24.heap.size := by omega
                  replace q_due : w16.heap.size < w24.heap.size := by omega
                  replace q_e : w22.heap.size < w24.heap.size := by omega
                  replace q_t : w22.heap.size + 1 < w24.heap.size := by omega
                  have c24_when_0 : w24.cell? ⟨w23.heap.size, 0, none⟩ = some (.int .i64 hn) := (hc24 _ _ (by go_size)).trans (by go_simp)
                  have c24_when_1 : w24.cell? ⟨w23.heap.size, 1, none⟩ = some (.int .i64 hd) := (hc24 _ _ (by go_size)).trans (by go_simp)
                  have q_when : w23.heap.size < w24.heap.size := by omega
                  have BW24 : Below w.heap.size w w24 := BW23.trans (B24.mono BW23.size)
                  clear hc24 hf24 hb24 hd24 B24 c23_c_0 c23_c_1 c23_c_2 c23_c_3 c23_s_0 c23_s_1 c23_shown_0 c23_shown_1 c23_right_0 c23_right_1 c23_ahead_0 c23_ahead_1 c23_want_0 c23_want_1 c23_set_0 c23_set_1 c23_set_2 c23_set_3 c23_model_0 c23_model_1 c23_model_2 c23_model_3 c23_d_0 c23_d_1 c23_d_2 c23_d_3 c23_first_0 c23_first_1 c23_value_0 c23_value_1 c23_every_0 c23_every_1 c23_due_0 c23_due_1 c23_e_0 c23_e_1 c23_e_2 c23_e_3 c23_t_0 c23_t_1 BW23
                  go_upto_if 318 with fail
                  have hb25 : Below w24.heap.size w24 (w24.alloc (Obj.cells #[.int .i64 hn, .int .i64 hd] 28)) := by (repeat' (first | (with_reducible exact Below.refl _ _) | (with_reducible assumption) | (with_reducible refine Below.alloc ?_ ?_ _) | (with_reducible refine Below.drew ?_) | (with_reducible refine below_drewN ?_ _) | (with_reducible refine Below.setCell ?_ ?_ _) | (with_reducible refine below_call ?_ ?_ (by assumption)) | go_size))
                  have c25_list_0 : (w24.alloc (Obj.cells #[.int .i64 hn, .int .i64 hd] 28)).cell? ⟨w24.heap.size, 0, none⟩ = some (.int .i64 hn) := by go_simp
                  have c25_list_1 : (w24.alloc (Obj.cells #[.int .i64 hn, .int .i64 hd] 28)).cell? ⟨w24.heap.size, 1, none⟩ = some (.int .i64 hd) := by go_simp
                  have q_list : w24.heap.size < (w24.alloc (Obj.cells #[.int .i64 hn, .int .i64 hd] 28)).heap.size := by go_size
                  generalize (w24.alloc (Obj.cells #[.int .i64 hn, .int .i64 hd] 28)) = w25 at *
                  obtain ⟨hd25, -⟩ := bcell hb25
                  have hz25 := hb25.size
                  have c25_c_0 : w25.cell? ⟨w1.heap.size, 0, none⟩ = some (.int .i64 n0) := (hd25 _ _ q_c).trans c24_c_0
                  have c25_c_1 : w25.cell? ⟨w1.heap.size, 1, none⟩ = some (.int .i64 d0) := (hd25 _ _ q_c).trans c24_c_1
                  have c25_c_2 : w25.cell? ⟨w1.heap.size, 2, none⟩ = some (.int .i64 x0) := (hd25 _ _ q_c).trans c24_c_2
                  have c25_c_3 : w25.cell? ⟨w1.heap.size, 3, none⟩ = some (.int .i64 y0) := (hd25 _ _ q_c).trans c24_c_3
                  have c25_s_0 : w25.cell? ⟨w1.heap.size + 1, 0, none⟩ = some (.int .i64 n1) := (hd25 _ _ q_s).trans c24_s_0
                  have c25_s_1 : w25.cell? ⟨w1.heap.size + 1, 1, none⟩ = some (.int .i64 d1) := (hd25 _ _ q_s).trans c24_s_1
                  have c25_shown_0 : w25.cell? ⟨w2.heap.size, 0, none⟩ = some (.int .i64 un) := (hd25 _ _ q_shown).trans c24_shown_0
                  have c25_shown_1 : w25.cell? ⟨w2.heap.size, 1, none⟩ = some (.int .i64 ud) := (hd25 _ _ q_shown).trans c24_shown_1
                  have c25_right_0 : w25.cell? ⟨w3.heap.size, 0, none⟩ = some (.int .i64 un) := (hd25 _ _ q_right).trans c24_right_0
                  have c25_right_1 : w25.cell? ⟨w3.heap.size, 1, none⟩ = some (.int .i64 ud) := (hd25 _ _ q_right).trans c24_right_1
                  have c25_ahead_0 : w25.cell? ⟨w4.heap.size, 0, none⟩ = some (.int .i64 gn) := (hd25 _ _ q_ahead).trans c24_ahead_0
                  have c25_ahead_1 : w25.cell? ⟨w4.heap.size, 1, none⟩ = some (.int .i64 gd) := (hd25 _ _ q_ahead).trans c24_ahead_1
                  have c25_want_0 : w25.cell? ⟨w5.heap.size, 0, none⟩ = some (.int .i64 gn) := (hd25 _ _ q_want).trans c24_want_0
                  have c25_want_1 : w25.cell? ⟨w5.heap.size, 1, none⟩ = some (.int .i64 gd) := (hd25 _ _ q_want).trans c24_want_1
                  have c25_set_0 : w25.cell? ⟨w6.heap.size, 0, none⟩ = some (.int .i64 zn) := (hd25 _ _ q_set).trans c24_set_0
                  have c25_set_1 : w25.cell? ⟨w6.heap.size, 1, none⟩ = some (.int .i64 zd) := (hd25 _ _ q_set).trans c24_set_1
                  have c25_set_2 : w25.cell? ⟨w6.heap.size, 2, none⟩ = some (.int .i64 zp) := (hd25 _ _ q_set).trans c24_set_2
                  have c25_set_3 : w25.cell? ⟨w6.heap.size, 3, none⟩ = some (.int .i64 zq) := (hd25 _ _ q_set).trans c24_set_3
                  have c25_model_0 : w25.cell? ⟨w7.heap.size, 0, none⟩ = some (.int .i64 zn) := (hd25 _ _ q_model).trans c24_model_0
                  have c25_model_1 : w25.cell? ⟨w7.heap.size, 1, none⟩ = some (.int .i64 zd) := (hd25 _ _ q_model).trans c24_model_1
                  have c25_model_2 : w25.cell? ⟨w7.heap.size, 2, none⟩ = some (.int .i64 zp) := (hd25 _ _ q_model).trans c24_model_2
                  have c25_model_3 : w25.cell? ⟨w7.heap.size, 3, none⟩ = some (.int .i64 zq) := (hd25 _ _ q_model).trans c24_model_3
                  have c25_d_0 : w25.cell? ⟨w12.heap.size, 0, none⟩ = some (.int .i64 n2) := (hd25 _ _ q_d).trans c24_d_0
                  have c25_d_1 : w25.cell? ⟨w12.heap.size, 1, none⟩ = some (.int .i64 d2) := (hd25 _ _ q_d).trans c24_d_1
                  have c25_d_2 : w25.cell? ⟨w12.heap.size, 2, none⟩ = some (.int .i64 x2) := (hd25 _ _ q_d).trans c24_d_2
                  have c25_d_3 : w25.cell? ⟨w12.heap.size, 3, none⟩ = some (.int .i64 y2) := (hd25 _ _ q_d).trans c24_d_3
                  have c25_first_0 : w25.cell? ⟨w13.heap.size, 0, none⟩ = some (.int .i64 fn) := (hd25 _ _ q_first).trans c24_first_0
                  have c25_first_1 : w25.cell? ⟨w13.heap.size, 1, none⟩ = some (.int .i64 fd) := (hd25 _ _ q_first).trans c24_first_1
                  have c25_value_0 : w25.cell? ⟨w14.heap.size, 0, none⟩ = some (.int .i64 fn) := (hd25 _ _ q_value).trans c24_value_0
                  have c25_value_1 : w25.cell? ⟨w14.heap.size, 1, none⟩ = some (.int .i64 fd) := (hd25 _ _ q_value).trans c24_value_1
                  have c25_every_0 : w25.cell? ⟨w15.heap.size, 0, none⟩ = some (.int .i64 rn) := (hd25 _ _ q_every).trans c24_every_0
                  have c25_every_1 : w25.cell? ⟨w15.heap.size, 1, none⟩ = some (.int .i64 rd) := (hd25 _ _ q_every).trans c24_every_1
                  have c25_due_0 : w25.cell? ⟨w16.heap.size, 0, none⟩ = some (.int .i64 rn) := (hd25 _ _ q_due).trans c24_due_0
                  have c25_due_1 : w25.cell? ⟨w16.heap.size, 1, none⟩ = some (.int .i64 rd) := (hd25 _ _ q_due).trans c24_due_1
                  have c25_e_0 : w25.cell? ⟨w22.heap.size, 0, none⟩ = some (.int .i64 n3) := (hd25 _ _ q_e).trans c24_e_0
                  have c25_e_1 : w25.cell? ⟨w22.heap.size, 1, none⟩ = some (.int .i64 d3) := (hd25 _ _ q_e).trans c24_e_1
                  have c25_e_2 : w25.cell? ⟨w22.heap.size, 2, none⟩ = some (.int .i64 x3) := (hd25 _ _ q_e).trans c24_e_2
                  have c25_e_3 : w25.cell? ⟨w22.heap.size, 3, none⟩ = some (.int .i64 y3) := (hd25 _ _ q_e).trans c24_e_3
                  have c25_t_0 : w25.cell? ⟨w22.heap.size + 1, 0, none⟩ = some (.int .i64 n4) := (hd25 _ _ q_t).trans c24_t_0
                  have c25_t_1 : w25.cell? ⟨w22.heap.size + 1, 1, none⟩ = some (.int .i64 d4) := (hd25 _ _ q_t).trans c24_t_1
                  have c25_when_0 : w25.cell? ⟨w23.heap.size, 0, none⟩ = some (.int .i64 hn) := (hd25 _ _ q_when).trans c24_when_0
                  have c25_when_1 : w25.cell? ⟨w23.heap.size, 1, none⟩ = some (.int .i64 hd) := (hd25 _ _ q_when).trans c24_when_1
                  replace q_c : w1.heap.size < w25.heap.size := by omega
                  replace q_s : w1.heap.size + 1 < w25.heap.size := by omega
                  replace q_shown : w2.heap.size < w25.heap.size := by omega
                  replace q_right : w3.heap.size < w25.heap.size := by omega
                  replace q_ahead : w4.heap.size < w25.heap.size := by omega
                  replace q_want : w5.heap.size < w25.heap.size := by omega
                  replace q_set : w6.heap.size < w25.heap.size := by omega
                  replace q_model : w7.heap.size < w25.heap.size := by omega
                  replace q_d : w12.heap.size < w25.heap.size := by omega
                  replace q_first : w13.heap.size < w25.heap.size := by omega
                  replace q_value : w14.heap.size < w25.heap.size := by omega
                  replace q_every : w15.heap.size < w25.heap.size := by omega
                  replace q_due : w16.heap.size < w25.heap.size := by omega
                  replace q_e : w22.heap.size < w25.heap.size := by omega
                  replace q_t : w22.heap.size + 1 < w25.heap.size := by omega
                  replace q_when : w23.heap.size < w25.heap.size := by omega
                  have BW25 : Below w.heap.size w w25 := BW24.trans (hb25.mono BW24.size)
                  clear hb25 hd25 c24_c_0 c24_c_1 c24_c_2 c24_c_3 c24_s_0 c24_s_1 c24_shown_0 c24_shown_1 c24_right_0 c24_right_1 c24_ahead_0 c24_ahead_1 c24_want_0 c24_want_1 c24_set_0 c24_set_1 c24_set_2 c24_set_3 c24_model_0 c24_model_1 c24_model_2 c24_model_3 c24_d_0 c24_d_1 c24_d_2 c24_d_3 c24_first_0 c24_first_1 c24_value_0 c24_value_1 c24_every_0 c24_every_1 c24_due_0 c24_due_1 c24_e_0 c24_e_1 c24_e_2 c24_e_3 c24_t_0 c24_t_1 c24_when_0 c24_when_1 BW24
                  go_cut [] from 999 to 999 (fun wx => Below w25.heap.size w25 wx)
                  case first =>
                    as_aux_lemma =>
                      cases ho
                      · go_wp2_with fail
                        go_meet
                        case rel => exact Below.refl _ _
                      · obtain ⟨h1, h2, h3⟩ := G5.out rfl
                        obtain ⟨ga, gb⟩ := twoB_bd h1
                        obtain ⟨-, ⟨a5, a6⟩, ⟨a7, a8⟩, -, -⟩ := clockB_bd ga
                        obtain ⟨f1, f2, f3, f4, -⟩ := spanB_bd gb
                        have m1 := mulb f3 f4 (show 0 ≤ x3 by omega) a6
                        have m2 := mulb (show 0 ≤ hd by omega) f2 (show 0 ≤ y3 by omega) a8
                        have hw1 : IntKind.i64.wrap (hn * x3) = hn * x3 := by rw [IntKind.wrap_i64]; omega
                        have hw2 : IntKind.i64.wrap (hd * y3) = hd * y3 := by rw [IntKind.wrap_i64]; omega
                        have hge : ¬ hd * y3 ≤ hn * x3 := by omega
                        clear m1 m2 h3 h1 ga gb
                        have Z1 := Lib.hid (fun W => (show Calls Try.prog 7 #[cv n3 d3 x3 y3, tv hn hd] W fun e w' => e = .returned (rv (n4, d4, true)) ∧ Below W.heap.size W w' from by have := implShownAfter_any n3 d3 x3 y3 hn hd W; rw [h2] at this; exact this))
                        clear h2
                        go_wp2_with fail
                        refine (Z1.out _).mono ?_
                        rintro e26 w26 ⟨rfl, hb26⟩
                        obtain ⟨hc26, hf26⟩ := bcell hb26
                        have hz26 := hb26.size
                        (try simp only [World.size_alloc, World.size_setCell, World.size_drew] at hz26)
                        have B26 : Below w25.heap.size w25 w26 := Below.trans (b := _) (by (repeat' (first | (with_reducible exact Below.refl _ _) | (with_reducible assumption) | (with_reducible refine Below.alloc ?_ ?_ _) | (with_reducible refine Below.drew ?_) | (with_reducible refine below_drewN ?_ _) | (with_reducible refine Below.setCell ?_ ?_ _) | (with_reducible refine below_call ?_ ?_ (by assumption)) | go_size))) (hb26.mono (by first | omega | (simp only [World.size_alloc, World.size_setCell, World.size_drew]; omega)))
                        obtain ⟨hd26, -⟩ := bcell B26
                        have c26_c_0 : w26.cell? ⟨w1.heap.size, 0, none⟩ = some (.int .i64 n0) := (hd26 _ _ q_c).trans c25_c_0
                        have c26_c_1 : w26.cell? ⟨w1.heap.size, 1, none⟩ = some (.int .i64 d0) := (hd26 _ _ q_c).trans c25_c_1
                        have c26_c_2 : w26.cell? ⟨w1.heap.size, 2, none⟩ = some (.int .i64 x0) := (hd26 _ _ q_c).trans c25_c_2
                        have c26_c_3 : w26.cell? ⟨w1.heap.size, 3, none⟩ = some (.int .i64 y0) := (hd26 _ _ q_c).trans c25_c_3
                        have c26_s_0 : w26.cell? ⟨w1.heap.size + 1, 0, none⟩ = some (.int .i64 n1) := (hd26 _ _ q_s).trans c25_s_0
                        have c26_s_1 : w26.cell? ⟨w1.heap.size + 1, 1, none⟩ = some (.int .i64 d1) := (hd26 _ _ q_s).trans c25_s_1
                        have c26_shown_0 : w26.cell? ⟨w2.heap.size, 0, none⟩ = some (.int .i64 un) := (hd26 _ _ q_shown).trans c25_shown_0
                        have c26_shown_1 : w26.cell? ⟨w2.heap.size, 1, none⟩ = some (.int .i64 ud) := (hd26 _ _ q_shown).trans c25_shown_1
                        have c26_right_0 : w26.cell? ⟨w3.heap.size, 0, none⟩ = some (.int .i64 un) := (hd26 _ _ q_right).trans c25_right_0
                        have c26_right_1 : w26.cell? ⟨w3.heap.size, 1, none⟩ = some (.int .i64 ud) := (hd26 _ _ q_right).trans c25_right_1
                        have c26_ahead_0 : w26.cell? ⟨w4.heap.size, 0, none⟩ = some (.int .i64 gn) := (hd26 _ _ q_ahead).trans c25_ahead_0
                        have c26_ahead_1 : w26.cell? ⟨w4.heap.size, 1, none⟩ = some (.int .i64 gd) := (hd26 _ _ q_ahead).trans c25_ahead_1
                        have c26_want_0 : w26.cell? ⟨w5.heap.size, 0, none⟩ = some (.int .i64 gn) := (hd26 _ _ q_want).trans c25_want_0
                        have c26_want_1 : w26.cell? ⟨w5.heap.size, 1, none⟩ = some (.int .i64 gd) := (hd26 _ _ q_want).trans c25_want_1
                        have c26_set_0 : w26.cell? ⟨w6.heap.size, 0, none⟩ = some (.int .i64 zn) := (hd26 _ _ q_set).trans c25_set_0
                        have c26_set_1 : w26.cell? ⟨w6.heap.size, 1, none⟩ = some (.int .i64 zd) := (hd26 _ _ q_set).trans c25_set_1
                        have c26_set_2 : w26.cell? ⟨w6.heap.size, 2, none⟩ = some (.int .i64 zp) := (hd26 _ _ q_set).trans c25_set_2
                        have c26_set_3 : w26.cell? ⟨w6.heap.size, 3, none⟩ = some (.int .i64 zq) := (hd26 _ _ q_set).trans c25_set_3
                        have c26_model_0 : w26.cell? ⟨w7.heap.size, 0, none⟩ = some (.int .i64 zn) := (hd26 _ _ q_model).trans c25_model_0
                        have c26_model_1 : w26.cell? ⟨w7.heap.size, 1, none⟩ = some (.int .i64 zd) := (hd26 _ _ q_model).trans c25_model_1
                        have c26_model_2 : w26.cell? ⟨w7.heap.size, 2, none⟩ = some (.int .i64 zp) := (hd26 _ _ q_model).trans c25_model_2
                        have c26_model_3 : w26.cell? ⟨w7.heap.size, 3, none⟩ = some (.int .i64 zq) := (hd26 _ _ q_model).trans c25_model_3
                        have c26_d_0 : w26.cell? ⟨w12.heap.size, 0, none⟩ = some (.int .i64 n2) := (hd26 _ _ q_d).trans c25_d_0
                        have c26_d_1 : w26.cell? ⟨w12.heap.size, 1, none⟩ = some (.int .i64 d2) := (hd26 _ _ q_d).trans c25_d_1
                        have c26_d_2 : w26.cell? ⟨w12.heap.size, 2, none⟩ = some (.int .i64 x2) := (hd26 _ _ q_d).trans c25_d_2
                        have c26_d_3 : w26.cell? ⟨w12.heap.size, 3, none⟩ = some (.int .i64 y2) := (hd26 _ _ q_d).trans c25_d_3
                        have c26_first_0 : w26.cell? ⟨w13.heap.size, 0, none⟩ = some (.int .i64 fn) := (hd26 _ _ q_first).trans c25_first_0
                        have c26_first_1 : w26.cell? ⟨w13.heap.size, 1, none⟩ = some (.int .i64 fd) := (hd26 _ _ q_first).trans c25_first_1
                        have c26_value_0 : w26.cell? ⟨w14.heap.size, 0, none⟩ = some (.int .i64 fn) := (hd26 _ _ q_value).trans c25_value_0
                        have c26_value_1 : w26.cell? ⟨w14.heap.size, 1, none⟩ = some (.int .i64 fd) := (hd26 _ _ q_value).trans c25_value_1
                        have c26_every_0 : w26.cell? ⟨w15.heap.size, 0, none⟩ = some (.int .i64 rn) := (hd26 _ _ q_every).trans c25_every_0
                        have c26_every_1 : w26.cell? ⟨w15.heap.size, 1, none⟩ = some (.int .i64 rd) := (hd26 _ _ q_every).trans c25_every_1
                        have c26_due_0 : w26.cell? ⟨w16.heap.size, 0, none⟩ = some (.int .i64 rn) := (hd26 _ _ q_due).trans c25_due_0
                        have c26_due_1 : w26.cell? ⟨w16.heap.size, 1, none⟩ = some (.int .i64 rd) := (hd26 _ _ q_due).trans c25_due_1
                        have c26_e_0 : w26.cell? ⟨w22.heap.size, 0, none⟩ = some (.int .i64 n3) := (hd26 _ _ q_e).trans c25_e_0
                        have c26_e_1 : w26.cell? ⟨w22.heap.size, 1, none⟩ = some (.int .i64 d3) := (hd26 _ _ q_e).trans c25_e_1
                        have c26_e_2 : w26.cell? ⟨w22.heap.size, 2, none⟩ = some (.int .i64 x3) := (hd26 _ _ q_e).trans c25_e_2
                        have c26_e_3 : w26.cell? ⟨w22.heap.size, 3, none⟩ = some (.int .i64 y3) := (hd26 _ _ q_e).trans c25_e_3
                        have c26_t_0 : w26.cell? ⟨w22.heap.size + 1, 0, none⟩ = some (.int .i64 n4) := (hd26 _ _ q_t).trans c25_t_0
                        have c26_t_1 : w26.cell? ⟨w22.heap.size + 1, 1, none⟩ = some (.int .i64 d4) := (hd26 _ _ q_t).trans c25_t_1
                        have c26_when_0 : w26.cell? ⟨w23.heap.size, 0, none⟩ = some (.int .i64 hn) := (hd26 _ _ q_when).trans c25_when_0
                        have c26_when_1 : w26.cell? ⟨w23.heap.size, 1, none⟩ = some (.int .i64 hd) := (hd26 _ _ q_when).trans c25_when_1
                        have c26_list_0 : w26.cell? ⟨w24.heap.size, 0, none⟩ = some (.int .i64 hn) := (hd26 _ _ q_list).trans c25_list_0
                        have c26_list_1 : w26.cell? ⟨w24.heap.size, 1, none⟩ = some (.int .i64 hd) := (hd26 _ _ q_list).trans c25_list_1
                        replace q_c : w1.heap.size < w26.heap.size := by omega
                        replace q_s : w1.heap.size + 1 < w26.heap.size := by omega
                        replace q_shown : w2.heap.size < w26.heap.size := by omega
                        replace q_right : w3.heap.size < w26.heap.size := by omega
                        replace q_ahead : w4.heap.size < w26.heap.size := by omega
                        replace q_want : w5.heap.size < w26.heap.size := by omega
                        replace q_set : w6.heap.size < w26.heap.size := by omega
                        replace q_model : w7.heap.size < w26.heap.size := by omega
                        replace q_d : w12.heap.size < w26.heap.size := by omega
                        replace q_first : w13.heap.size < w26.heap.size := by omega
                        replace q_value : w14.heap.size < w26.heap.size := by omega
                        replace q_every : w15.heap.size < w26.heap.size := by omega
                        replace q_due : w16.heap.size < w26.heap.size := by omega
                        replace q_e : w22.heap.size < w26.heap.size := by omega
                        replace q_t : w22.heap.size + 1 < w26.heap.size := by omega
                        replace q_when : w23.heap.size < w26.heap.size := by omega
                        replace q_list : w24.heap.size < w26.heap.size := by omega
                        have BW26 : Below w.heap.size w w26 := BW25.trans (B26.mono BW25.size)
                        have BX26 : Below w25.heap.size w25 w26 := B26
                        clear hc26 hf26 hb26 hd26 B26 c25_c_0 c25_c_1 c25_c_2 c25_c_3 c25_s_0 c25_s_1 c25_shown_0 c25_shown_1 c25_right_0 c25_right_1 c25_ahead_0 c25_ahead_1 c25_want_0 c25_want_1 c25_set_0 c25_set_1 c25_set_2 c25_set_3 c25_model_0 c25_model_1 c25_model_2 c25_model_3 c25_d_0 c25_d_1 c25_d_2 c25_d_3 c25_first_0 c25_first_1 c25_value_0 c25_value_1 c25_every_0 c25_every_1 c25_due_0 c25_due_1 c25_e_0 c25_e_1 c25_e_2 c25_e_3 c25_t_0 c25_t_1 c25_when_0 c25_when_1 c25_list_0 c25_list_1 BW25
                        go_upto_region 47 with fail
                        have hb27 : Below w26.heap.size w26 (w26.alloc (Obj.cells #[.int .i64 n4, .int .i64 d4] 25)) := by (repeat' (first | (with_reducible exact Below.refl _ _) | (with_reducible assumption) | (with_reducible refine Below.alloc ?_ ?_ _) | (with_reducible refine Below.drew ?_) | (with_reducible refine below_drewN ?_ _) | (with_reducible refine Below.setCell ?_ ?_ _) | (with_reducible refine below_call ?_ ?_ (by assumption)) | go_size))
                        have c27_own_0 : (w26.alloc (Obj.cells #[.int .i64 n4, .int .i64 d4] 25)).cell? ⟨w26.heap.size, 0, none⟩ = some (.int .i64 n4) := by go_simp
                        have c27_own_1 : (w26.alloc (Obj.cells #[.int .i64 n4, .int .i64 d4] 25)).cell? ⟨w26.heap.size, 1, none⟩ = some (.int .i64 d4) := by go_simp
                        have q_own : w26.heap.size < (w26.alloc (Obj.cells #[.int .i64 n4, .int .i64 d4] 25)).heap.size := by go_size
                        generalize (w26.alloc (Obj.cells #[.int .i64 n4, .int .i64 d4] 25)) = w27 at *
                        obtain ⟨hd27, -⟩ := bcell hb27
                        have hz27 := hb27.size
                        have c27_c_0 : w27.cell? ⟨w1.heap.size, 0, none⟩ = some (.int .i64 n0) := (hd27 _ _ q_c).trans c26_c_0
                        have c27_c_1 : w27.cell? ⟨w1.heap.size, 1, none⟩ = some (.int .i64 d0) := (hd27 _ _ q_c).trans c26_c_1
                        have c27_c_2 : w27.cell? ⟨w1.heap.size, 2, none⟩ = some (.int .i64 x0) := (hd27 _ _ q_c).trans c26_c_2
                        have c27_c_3 : w27.cell? ⟨w1.heap.size, 3, none⟩ = some (.int .i64 y0) := (hd27 _ _ q_c).trans c26_c_3
                        have c27_s_0 : w27.cell? ⟨w1.heap.size + 1, 0, none⟩ = some (.int .i64 n1) := (hd27 _ _ q_s).trans c26_s_0
                        have c27_s_1 : w27.cell? ⟨w1.heap.size + 1, 1, none⟩ = some (.int .i64 d1) := (hd27 _ _ q_s).trans c26_s_1
                        have c27_shown_0 : w27.cell? ⟨w2.heap.size, 0, none⟩ = some (.int .i64 un) := (hd27 _ _ q_shown).trans c26_shown_0
                        have c27_shown_1 : w27.cell? ⟨w2.heap.size, 1, none⟩ = some (.int .i64 ud) := (hd27 _ _ q_shown).trans c26_shown_1
                        have c27_right_0 : w27.cell? ⟨w3.heap.size, 0, none⟩ = some (.int .i64 un) := (hd27 _ _ q_right).trans c26_right_0
                        have c27_right_1 : w27.cell? ⟨w3.heap.size, 1, none⟩ = some (.int .i64 ud) := (hd27 _ _ q_right).trans c26_right_1
                        have c27_ahead_0 : w27.cell? ⟨w4.heap.size, 0, none⟩ = some (.int .i64 gn) := (hd27 _ _ q_ahead).trans c26_ahead_0
                        have c27_ahead_1 : w27.cell? ⟨w4.heap.size, 1, none⟩ = some (.int .i64 gd) := (hd27 _ _ q_ahead).trans c26_ahead_1
                        have c27_want_0 : w27.cell? ⟨w5.heap.size, 0, none⟩ = some (.int .i64 gn) := (hd27 _ _ q_want).trans c26_want_0
                        have c27_want_1 : w27.cell? ⟨w5.heap.size, 1, none⟩ = some (.int .i64 gd) := (hd27 _ _ q_want).trans c26_want_1
                        have c27_set_0 : w27.cell? ⟨w6.heap.size, 0, none⟩ = some (.int .i64 zn) := (hd27 _ _ q_set).trans c26_set_0
                        have c27_set_1 : w27.cell? ⟨w6.heap.size, 1, none⟩ = some (.int .i64 zd) := (hd27 _ _ q_set).trans c26_set_1
                        have c27_set_2 : w27.cell? ⟨w6.heap.size, 2, none⟩ = some (.int .i64 zp) := (hd27 _ _ q_set).trans c26_set_2
                        have c27_set_3 : w27.cell? ⟨w6.heap.size, 3, none⟩ = some (.int .i64 zq) := (hd27 _ _ q_set).trans c26_set_3
                        have c27_model_0 : w27.cell? ⟨w7.heap.size, 0, none⟩ = some (.int .i64 zn) := (hd27 _ _ q_model).trans c26_model_0
                        have c27_model_1 : w27.cell? ⟨w7.heap.size, 1, none⟩ = some (.int .i64 zd) := (hd27 _ _ q_model).trans c26_model_1
                        have c27_model_2 : w27.cell? ⟨w7.heap.size, 2, none⟩ = some (.int .i64 zp) := (hd27 _ _ q_model).trans c26_model_2
                        have c27_model_3 : w27.cell? ⟨w7.heap.size, 3, none⟩ = some (.int .i64 zq) := (hd27 _ _ q_model).trans c26_model_3
                        have c27_d_0 : w27.cell? ⟨w12.heap.size, 0, none⟩ = some (.int .i64 n2) := (hd27 _ _ q_d).trans c26_d_0
                        have c27_d_1 : w27.cell? ⟨w12.heap.size, 1, none⟩ = some (.int .i64 d2) := (hd27 _ _ q_d).trans c26_d_1
                        have c27_d_2 : w27.cell? ⟨w12.heap.size, 2, none⟩ = some (.int .i64 x2) := (hd27 _ _ q_d).trans c26_d_2
                        have c27_d_3 : w27.cell? ⟨w12.heap.size, 3, none⟩ = some (.int .i64 y2) := (hd27 _ _ q_d).trans c26_d_3
                        have c27_first_0 : w27.cell? ⟨w13.heap.size, 0, none⟩ = some (.int .i64 fn) := (hd27 _ _ q_first).trans c26_first_0
                        have c27_first_1 : w27.cell? ⟨w13.heap.size, 1, none⟩ = some (.int .i64 fd) := (hd27 _ _ q_first).trans c26_first_1
                        have c27_value_0 : w27.cell? ⟨w14.heap.size, 0, none⟩ = some (.int .i64 fn) := (hd27 _ _ q_value).trans c26_value_0
                        have c27_value_1 : w27.cell? ⟨w14.heap.size, 1, none⟩ = some (.int .i64 fd) := (hd27 _ _ q_value).trans c26_value_1
                        have c27_every_0 : w27.cell? ⟨w15.heap.size, 0, none⟩ = some (.int .i64 rn) := (hd27 _ _ q_every).trans c26_every_0
                        have c27_every_1 : w27.cell? ⟨w15.heap.size, 1, none⟩ = some (.int .i64 rd) := (hd27 _ _ q_every).trans c26_every_1
                        have c27_due_0 : w27.cell? ⟨w16.heap.size, 0, none⟩ = some (.int .i64 rn) := (hd27 _ _ q_due).trans c26_due_0
                        have c27_due_1 : w27.cell? ⟨w16.heap.size, 1, none⟩ = some (.int .i64 rd) := (hd27 _ _ q_due).trans c26_due_1
                        have c27_e_0 : w27.cell? ⟨w22.heap.size, 0, none⟩ = some (.int .i64 n3) := (hd27 _ _ q_e).trans c26_e_0
                        have c27_e_1 : w27.cell? ⟨w22.heap.size, 1, none⟩ = some (.int .i64 d3) := (hd27 _ _ q_e).trans c26_e_1
                        have c27_e_2 : w27.cell? ⟨w22.heap.size, 2, none⟩ = some (.int .i64 x3) := (hd27 _ _ q_e).trans c26_e_2
                        have c27_e_3 : w27.cell? ⟨w22.heap.size, 3, none⟩ = some (.int .i64 y3) := (hd27 _ _ q_e).trans c26_e_3
                        have c27_t_0 : w27.cell? ⟨w22.heap.size + 1, 0, none⟩ = some (.int .i64 n4) := (hd27 _ _ q_t).trans c26_t_0
                        have c27_t_1 : w27.cell? ⟨w22.heap.size + 1, 1, none⟩ = some (.int .i64 d4) := (hd27 _ _ q_t).trans c26_t_1
                        have c27_when_0 : w27.cell? ⟨w23.heap.size, 0, none⟩ = some (.int .i64 hn) := (hd27 _ _ q_when).trans c26_when_0
                        have c27_when_1 : w27.cell? ⟨w23.heap.size, 1, none⟩ = some (.int .i64 hd) := (hd27 _ _ q_when).trans c26_when_1
                        have c27_list_0 : w27.cell? ⟨w24.heap.size, 0, none⟩ = some (.int .i64 hn) := (hd27 _ _ q_list).trans c26_list_0
                        have c27_list_1 : w27.cell? ⟨w24.heap.size, 1, none⟩ = some (.int .i64 hd) := (hd27 _ _ q_list).trans c26_list_1
                        replace q_c : w1.heap.size < w27.heap.size := by omega
                        replace q_s : w1.heap.size + 1 < w27.heap.size := by omega
                        replace q_shown : w2.heap.size < w27.heap.size := by omega
                        replace q_right : w3.heap.size < w27.heap.size := by omega
                        replace q_ahead : w4.heap.size < w27.heap.size := by omega
                        replace q_want : w5.heap.size < w27.heap.size := by omega
                        replace q_set : w6.heap.size < w27.heap.size := by omega
                        replace q_model : w7.heap.size < w27.heap.size := by omega
                        replace q_d : w12.heap.size < w27.heap.size := by omega
                        replace q_first : w13.heap.size < w27.heap.size := by omega
                        replace q_value : w14.heap.size < w27.heap.size := by omega
                        replace q_every : w15.heap.size < w27.heap.size := by omega
                        replace q_due : w16.heap.size < w27.heap.size := by omega
                        replace q_e : w22.heap.size < w27.heap.size := by omega
                        replace q_t : w22.heap.size + 1 < w27.heap.size := by omega
                        replace q_when : w23.heap.size < w27.heap.size := by omega
                        replace q_list : w24.heap.size < w27.heap.size := by omega
                        have BW27 : Below w.heap.size w w27 := BW26.trans (hb27.mono BW26.size)
                        have BX27 : Below w25.heap.size w25 w27 := BX26.trans (hb27.mono BX26.size)
                        clear BX26
                        clear hb27 hd27 c26_c_0 c26_c_1 c26_c_2 c26_c_3 c26_s_0 c26_s_1 c26_shown_0 c26_shown_1 c26_right_0 c26_right_1 c26_ahead_0 c26_ahead_1 c26_want_0 c26_want_1 c26_set_0 c26_set_1 c26_set_2 c26_set_3 c26_model_0 c26_model_1 c26_model_2 c26_model_3 c26_d_0 c26_d_1 c26_d_2 c26_d_3 c26_first_0 c26_first_1 c26_value_0 c26_value_1 c26_every_0 c26_every_1 c26_due_0 c26_due_1 c26_e_0 c26_e_1 c26_e_2 c26_e_3 c26_t_0 c26_t_1 c26_when_0 c26_when_1 c26_list_0 c26_list_1 BW26
                        have hrelB := BX27
                        go_wp2_with fail
                        go_meet
                        case rel => exact hrelB
                  case rest =>
                    obtain ⟨w26, hw26⟩ : ∃ x : World, x = wc := ⟨_, rfl⟩
                    subst hw26
                    have hb26 := hcut
                    obtain ⟨hc26, hf26⟩ := bcell hb26
                    have hz26 := hb26.size
                    (try simp only [World.size_alloc, World.size_setCell, World.size_drew] at hz26)
                    have B26 : Below w25.heap.size w25 w26 := Below.trans (b := _) (by (repeat' (first | (with_reducible exact Below.refl _ _) | (with_reducible assumption) | (with_reducible refine Below.alloc ?_ ?_ _) | (with_reducible refine Below.drew ?_) | (with_reducible refine below_drewN ?_ _) | (with_reducible refine Below.setCell ?_ ?_ _) | (with_reducible refine below_call ?_ ?_ (by assumption)) | go_size))) (hb26.mono (by first | omega | (simp only [World.size_alloc, World.size_setCell, World.size_drew]; omega)))
                    obtain ⟨hd26, -⟩ := bcell B26
                    have c26_c_0 : w26.cell? ⟨w1.heap.size, 0, none⟩ = some (.int .i64 n0) := (hd26 _ _ q_c).trans c25_c_0
                    have c26_c_1 : w26.cell? ⟨w1.heap.size, 1, none⟩ = some (.int .i64 d0) := (hd26 _ _ q_c).trans c25_c_1
                    have c26_c_2 : w26.cell? ⟨w1.heap.size, 2, none⟩ = some (.int .i64 x0) := (hd26 _ _ q_c).trans c25_c_2
                    have c26_c_3 : w26.cell? ⟨w1.heap.size, 3, none⟩ = some (.int .i64 y0) := (hd26 _ _ q_c).trans c25_c_3
                    have c26_s_0 : w26.cell? ⟨w1.heap.size + 1, 0, none⟩ = some (.int .i64 n1) := (hd26 _ _ q_s).trans c25_s_0
                    have c26_s_1 : w26.cell? ⟨w1.heap.size + 1, 1, none⟩ = some (.int .i64 d1) := (hd26 _ _ q_s).trans c25_s_1
                    have c26_shown_0 : w26.cell? ⟨w2.heap.size, 0, none⟩ = some (.int .i64 un) := (hd26 _ _ q_shown).trans c25_shown_0
                    have c26_shown_1 : w26.cell? ⟨w2.heap.size, 1, none⟩ = some (.int .i64 ud) := (hd26 _ _ q_shown).trans c25_shown_1
                    have c26_right_0 : w26.cell? ⟨w3.heap.size, 0, none⟩ = some (.int .i64 un) := (hd26 _ _ q_right).trans c25_right_0
                    have c26_right_1 : w26.cell? ⟨w3.heap.size, 1, none⟩ = some (.int .i64 ud) := (hd26 _ _ q_right).trans c25_right_1
                    have c26_ahead_0 : w26.cell? ⟨w4.heap.size, 0, none⟩ = some (.int .i64 gn) := (hd26 _ _ q_ahead).trans c25_ahead_0
                    have c26_ahead_1 : w26.cell? ⟨w4.heap.size, 1, none⟩ = some (.int .i64 gd) := (hd26 _ _ q_ahead).trans c25_ahead_1
                    have c26_want_0 : w26.cell? ⟨w5.heap.size, 0, none⟩ = some (.int .i64 gn) := (hd26 _ _ q_want).trans c25_want_0
                    have c26_want_1 : w26.cell? ⟨w5.heap.size, 1, none⟩ = some (.int .i64 gd) := (hd26 _ _ q_want).trans c25_want_1
                    have c26_set_0 : w26.cell? ⟨w6.heap.size, 0, none⟩ = some (.int .i64 zn) := (hd26 _ _ q_set).trans c25_set_0
                    have c26_set_1 : w26.cell? ⟨w6.heap.size, 1, none⟩ = some (.int .i64 zd) := (hd26 _ _ q_set).trans c25_set_1
                    have c26_set_2 : w26.cell? ⟨w6.heap.size, 2, none⟩ = some (.int .i64 zp) := (hd26 _ _ q_set).trans c25_set_2
                    have c26_set_3 : w26.cell? ⟨w6.heap.size, 3, none⟩ = some (.int .i64 zq) := (hd26 _ _ q_set).trans c25_set_3
                    have c26_model_0 : w26.cell? ⟨w7.heap.size, 0, none⟩ = some (.int .i64 zn) := (hd26 _ _ q_model).trans c25_model_0
                    have c26_model_1 : w26.cell? ⟨w7.heap.size, 1, none⟩ = some (.int .i64 zd) := (hd26 _ _ q_model).trans c25_model_1
                    have c26_model_2 : w26.cell? ⟨w7.heap.size, 2, none⟩ = some (.int .i64 zp) := (hd26 _ _ q_model).trans c25_model_2
                    have c26_model_3 : w26.cell? ⟨w7.heap.size, 3, none⟩ = some (.int .i64 zq) := (hd26 _ _ q_model).trans c25_model_3
                    have c26_d_0 : w26.cell? ⟨w12.heap.size, 0, none⟩ = some (.int .i64 n2) := (hd26 _ _ q_d).trans c25_d_0
                    have c26_d_1 : w26.cell? ⟨w12.heap.size, 1, none⟩ = some (.int .i64 d2) := (hd26 _ _ q_d).trans c25_d_1
                    have c26_d_2 : w26.cell? ⟨w12.heap.size, 2, none⟩ = some (.int .i64 x2) := (hd26 _ _ q_d).trans c25_d_2
                    have c26_d_3 : w26.cell? ⟨w12.heap.size, 3, none⟩ = some (.int .i64 y2) := (hd26 _ _ q_d).trans c25_d_3
                    have c26_first_0 : w26.cell? ⟨w13.heap.size, 0, none⟩ = some (.int .i64 fn) := (hd26 _ _ q_first).trans c25_first_0
                    have c26_first_1 : w26.cell? ⟨w13.heap.size, 1, none⟩ = some (.int .i64 fd) := (hd26 _ _ q_first).trans c25_first_1
                    have c26_value_0 : w26.cell? ⟨w14.heap.size, 0, none⟩ = some (.int .i64 fn) := (hd26 _ _ q_value).trans c25_value_0
                    have c26_value_1 : w26.cell? ⟨w14.heap.size, 1, none⟩ = some (.int .i64 fd) := (hd26 _ _ q_value).trans c25_value_1
                    have c26_every_0 : w26.cell? ⟨w15.heap.size, 0, none⟩ = some (.int .i64 rn) := (hd26 _ _ q_every).trans c25_every_0
                    have c26_every_1 : w26.cell? ⟨w15.heap.size, 1, none⟩ = some (.int .i64 rd) := (hd26 _ _ q_every).trans c25_every_1
                    have c26_due_0 : w26.cell? ⟨w16.heap.size, 0, none⟩ = some (.int .i64 rn) := (hd26 _ _ q_due).trans c25_due_0
                    have c26_due_1 : w26.cell? ⟨w16.heap.size, 1, none⟩ = some (.int .i64 rd) := (hd26 _ _ q_due).trans c25_due_1
                    have c26_e_0 : w26.cell? ⟨w22.heap.size, 0, none⟩ = some (.int .i64 n3) := (hd26 _ _ q_e).trans c25_e_0
                    have c26_e_1 : w26.cell? ⟨w22.heap.size, 1, none⟩ = some (.int .i64 d3) := (hd26 _ _ q_e).trans c25_e_1
                    have c26_e_2 : w26.cell? ⟨w22.heap.size, 2, none⟩ = some (.int .i64 x3) := (hd26 _ _ q_e).trans c25_e_2
                    have c26_e_3 : w26.cell? ⟨w22.heap.size, 3, none⟩ = some (.int .i64 y3) := (hd26 _ _ q_e).trans c25_e_3
                    have c26_t_0 : w26.cell? ⟨w22.heap.size + 1, 0, none⟩ = some (.int .i64 n4) := (hd26 _ _ q_t).trans c25_t_0
                    have c26_t_1 : w26.cell? ⟨w22.heap.size + 1, 1, none⟩ = some (.int .i64 d4) := (hd26 _ _ q_t).trans c25_t_1
                    have c26_when_0 : w26.cell? ⟨w23.heap.size, 0, none⟩ = some (.int .i64 hn) := (hd26 _ _ q_when).trans c25_when_0
                    have c26_when_1 : w26.cell? ⟨w23.heap.size, 1, none⟩ = some (.int .i64 hd) := (hd26 _ _ q_when).trans c25_when_1
                    have c26_list_0 : w26.cell? ⟨w24.heap.size, 0, none⟩ = some (.int .i64 hn) := (hd26 _ _ q_list).trans c25_list_0
                    have c26_list_1 : w26.cell? ⟨w24.heap.size, 1, none⟩ = some (.int .i64 hd) := (hd26 _ _ q_list).trans c25_list_1
                    replace q_c : w1.heap.size < w26.heap.size := by omega
                    replace q_s : w1.heap.size + 1 < w26.heap.size := by omega
                    replace q_shown : w2.heap.size < w26.heap.size := by omega
                    replace q_right : w3.heap.size < w26.heap.size := by omega
                    replace q_ahead : w4.heap.size < w26.heap.size := by omega
                    replace q_want : w5.heap.size < w26.heap.size := by omega
                    replace q_set : w6.heap.size < w26.heap.size := by omega
                    replace q_model : w7.heap.size < w26.heap.size := by omega
                    replace q_d : w12.heap.size < w26.heap.size := by omega
                    replace q_first : w13.heap.size < w26.heap.size := by omega
                    replace q_value : w14.heap.size < w26.heap.size := by omega
                    replace q_every : w15.heap.size < w26.heap.size := by omega
                    replace q_due : w16.heap.size < w26.heap.size := by omega
                    replace q_e : w22.heap.size < w26.heap.size := by omega
                    replace q_t : w22.heap.size + 1 < w26.heap.size := by omega
                    replace q_when : w23.heap.size < w26.heap.size := by omega
                    replace q_list : w24.heap.size < w26.heap.size := by omega
                    have BW26 : Below w.heap.size w w26 := BW25.trans (B26.mono BW25.size)
                    clear hc26 hf26 hb26 hd26 B26 c25_c_0 c25_c_1 c25_c_2 c25_c_3 c25_s_0 c25_s_1 c25_shown_0 c25_shown_1 c25_right_0 c25_right_1 c25_ahead_0 c25_ahead_1 c25_want_0 c25_want_1 c25_set_0 c25_set_1 c25_set_2 c25_set_3 c25_model_0 c25_model_1 c25_model_2 c25_model_3 c25_d_0 c25_d_1 c25_d_2 c25_d_3 c25_first_0 c25_first_1 c25_value_0 c25_value_1 c25_every_0 c25_every_1 c25_due_0 c25_due_1 c25_e_0 c25_e_1 c25_e_2 c25_e_3 c25_t_0 c25_t_1 c25_when_0 c25_when_1 c25_list_0 c25_list_1 BW25
                    go_wp2
                    go_ret
                    exact ⟨rfl, BW26⟩
  · have HBG := Lib.hid hbg
    clear hbg
    (go_enter Try.func3, Try.ntmps3)
    go_wp2_with fail
    refine (big_is p1 p2 L1.length L2.length q1 q2 hm1 HBG.out _).mono ?_
    rintro e0 w0 ⟨rfl, rfl⟩
    go_wp2
    go_ret
    exact ⟨rfl, Below.refl _ _⟩

set_option maxRecDepth 100000 in
theorem lifted (os : Os) (started : os.Started) (H : Type) (enc : TypeId × Value → H) :
    ReturnsInHanded {} Try.checked os 3 .any (Rows.fnClocksDriftSpec.pre6 enc Try.prog Try.f3 Rows.fnClocksDriftRow.domain false) (Rows.fnClocksDriftSpec.post enc Try.prog Try.f3 false true false false) := by
  refine returnsInHanded_of_change (C := Try.checked) Try.own started (by kernel_rfl) Try.func3
    (ChangeSpec.witness6 (enc := enc) (C := Try.checked) false ⟨#[], #[.slice none 0 0, .slice none 0 0], []⟩ 8 (by kernel_rfl) (by kernel_rfl) (by kernel_rfl) (by kernel_rfl)) ?_
  intro W base args ds gs before hval0 hW hcnd _
  have hval : ∀ (j : Nat) t v, Try.f3.params[j]? = some t → args[j]? = some v → Value.okWide Try.prog W .any base t v := hval0
  have hW' := hW
  obtain ⟨p, q, hA0, hV, rfl, hfz, hnd⟩ := hW
  have hA : DataW.TrodAll enc Try.prog W 0 (fun _ => true) true Try.f3.params.toList args.toList ds p := hA0
  rw [Try.params3] at hA hval
  obtain ⟨v0, vs0, d_0, ds0, p0, q0, hargs, rfl, rfl, h0, r0⟩ := trodAll_cons hA
  obtain ⟨v1, vs1, d_1, ds1, p1, q1, rfl, rfl, rfl, h1, r1⟩ := trodAll_cons r0
  obtain ⟨rfl, rfl, rfl⟩ := trodAll_nil r1
  obtain rfl : args = #[v0, v1] := by cases args; simp_all
  obtain ⟨rfl, rfl⟩ := trodVars_none hV
  have h0k := h0
  have h1k := h1
  obtain ⟨p1', q1', L1, rfl, hi1, hm1⟩ := open_bytes' (hval 0 22 v0 rfl rfl) h0
  obtain ⟨p2', q2', L2, rfl, hi2, hm2⟩ := open_bytes' (hval 1 22 v1 rfl rfl) h1
  clear hA0 hval0
  simp only [List.append_nil, List.nil_append] at hW'
  have hlt0 : ∀ y ∈ p0, y.block < W.heap.size := fun y hy => by simpa using hW'.lt y (by simp [hy])
  have hlt1 : ∀ y ∈ p1, y.block < W.heap.size := fun y hy => by simpa using hW'.lt y (by simp [hy])
  refine (walk W p1' p2' q1' q2' L1 L2 hi1 hi2 hm1 hm2).mono fun e W' ⟨he, bel⟩ => ?_
  subst he
  have harg0 : DataW.Trod enc Try.prog W' 0 (fun b => decide (b < W.heap.size)) true 22 (.slice p1' L1.length q1') d_0 p0 :=
    Below.trod Try.laidOut (by kernel_rfl) (of_decide_eq_true (by kernel_rfl)) h0k bel hlt0
  have harg1 : DataW.Trod enc Try.prog W' 0 (fun b => decide (b < W.heap.size)) true 22 (.slice p2' L2.length q2') d_1 p1 :=
    Below.trod Try.laidOut (by kernel_rfl) (of_decide_eq_true (by kernel_rfl)) h1k bel hlt1
  exact ⟨_, rfl, _, _, _, [], _, [], hW', trodAll_mk1 (shut_bool Try.underlying4 _), (trodAll_cons_mk harg0 (trodAll_cons_mk harg1 trodAll_mk0)), rfl, bel.frame _, fun h => by cases h⟩

theorem closed : joinedFacts Try.prog 3 Try.f3 Rows.fnClocksDriftSpec Rows.fnClocksDriftRow = true := by
  unfold joinedFacts
  rw [Try.fMake, Try.fEnter, Try.fLifts, Try.fMaps, Try.fLaid, Try.fHeard, Try.fKeys]
  kernel_rfl
theorem over : Rows.fnClocksDriftRow.holds Try.pinned (OpenSpec.ofChange Rows.fnClocksDriftSpec) :=
  OpenClaim.holds_of_wide 3 Try.f3 rfl rfl rfl rfl rfl rfl rfl ⟨rfl, rfl, rfl, rfl, rfl⟩ rfl rfl rfl rfl rfl (by kernel_rfl) Try.func3
    closed (of_decide_eq_true (by kernel_rfl)) (by unfold Func.isWrapper; first | (rw [if_pos (by decide +kernel)]; kernel_rfl) | (rw [if_neg (by decide +kernel)]; exact ⟨rfl, rfl⟩))
    (fun os started H enc _ => lifted os started H enc)

end Go.Proofs.Ythgghbehcammmaa.fnClocksDrift
namespace Go.Proofs.Ythgghbehcammmaa
/-- The statement. -/
theorem fnClocksDrift_proved : Rows.FnClocksDriftSaid := fnClocksDrift.over
#print axioms fnClocksDrift_proved
end Go.Proofs.Ythgghbehcammmaa