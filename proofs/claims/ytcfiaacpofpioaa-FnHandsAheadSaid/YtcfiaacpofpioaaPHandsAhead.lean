/- FnHandsAhead: called with any arguments, the law returns true, and its arguments read behind the call as before. Conditions: none but the row's own. -/
import Derived.Test.YtcfiaacpofpioaaFacts
import Derived.Test.YtcfiaacpofpioaaRowI
import Derived.Test.YtcfiaacpofpioaaRowH
import Derived.Test.YtcfiaacpofpioaaTa0
import Derived.Test.YtcfiaacpofpioaaTaE
import Derived.Test.YtcfiaacpofpioaaMtT
import Derived.Test.YtcfiaacpofpioaaLawK
import Derived.Test.YtcfiaacpofpioaaLate
import Derived.Test.YtcfiaacpofpioaaHCur
import Derived.Test.YtcfiaacpofpioaaSBArg
import Derived.Deep.DeepCutAuto
set_option linter.unusedSimpArgs false
set_option linter.unusedVariables false
set_option maxRecDepth 100000
namespace Go.Proofs.Ytcfiaacpofpioaa.fnHandsAhead
open Go.ChangeShapes Go.WideShapes Go.ChangeAt Go.RowKit
attribute [local go_sem ↓] Go.wp_at_zero Go.wp_at_succ run_neq_same run_neq_turn run_eql_turn run_neq_sameHand

set_option maxHeartbeats 16000000 in
theorem walk (w : World) (p1 p2 : Option Addr) (q1 q2 : Nat) (L1 L2 : List Int) (hi1 : BIn w p1 L1) (hi2 : BIn w p2 L2) (hm1 : L1.length ≤ maxLen) (hm2 : L2.length ≤ maxLen) :
    Calls Try.prog 5 #[.slice p1 L1.length q1, .slice p2 L2.length q2] w fun e w' => e = .returned (.bool true) ∧ Below w.heap.size w w' := by
  have HB1 := Lib.hid hi1
  have HB2 := Lib.hid hi2
  clear hi1 hi2
  cases hbg : bigB L1.length L2.length
  · obtain ⟨hlen1, hlen2⟩ := bigB_no hbg
    have HBG := Lib.hid hbg
    clear hbg
    (go_enter Try.func5, Try.ntmps5)
    go_wp2_with fail
    refine (big_is p1 p2 L1.length L2.length q1 q2 hm1 HBG.out _).mono ?_
    rintro e0 w0 ⟨rfl, rfl⟩
    go_wp2_with fail
    refine (DrawAheadTimes_any L1 p1 L1.length q1 rfl hlen1 _ HB1.out).mono ?_
    rintro e1 w1 ⟨n0, d0, s0, n1, d1, s1, n2, d2, rfl, ⟨kn0, kd0, ks0, kn1, kd1, ks1, kn2, kd2⟩, hb1⟩
    obtain ⟨hc1, hf1⟩ := bcell hb1
    have hz1 := hb1.size
    (try simp only [World.size_alloc, World.size_setCell, World.size_drew] at hz1)
    have B1 : Below w.heap.size w w1 := Below.trans (b := _) (by (repeat' (first | (with_reducible exact Below.refl _ _) | (with_reducible assumption) | (with_reducible refine Below.alloc ?_ ?_ _) | (with_reducible refine Below.drew ?_) | (with_reducible refine below_drewN ?_ _) | (with_reducible refine Below.setCell ?_ ?_ _) | (with_reducible refine below_call ?_ ?_ (by assumption)) | go_size))) (hb1.mono (by first | omega | (simp only [World.size_alloc, World.size_setCell, World.size_drew]; omega)))
    obtain ⟨hd1, -⟩ := bcell B1
    have BW1 : Below w.heap.size w w1 := B1
    clear hc1 hf1 hb1 hd1 B1 
    obtain ⟨LT, ok, hT⟩ : ∃ l o, aheadR n0 d0 s0 n1 d1 s1 n2 d2 = (l, o) := ⟨_, _, rfl⟩
    obtain ⟨hn, hd, ho, hA⟩ : ∃ x y o, aheadAtT n0 d0 s0 n1 d1 s1 n2 d2 = (x, y, o) := ⟨_, _, _, rfl⟩
    obtain ⟨rn, rd, rs, ro, hR⟩ : ∃ x y z o, relT n0 d0 s0 n1 d1 s1 = (x, y, z, o) := ⟨_, _, _, _, rfl⟩
    obtain ⟨LO, oo, hO⟩ : ∃ l o, aheadR n0 d0 s0 n1 d1 s1 1 2 = (l, o) := ⟨_, _, rfl⟩
    have C1 := Lib.hid (fun W => (show Calls Try.prog 28 #[hv n0 d0 s0, hv n1 d1 s1, tv n2 d2] W (TurnsOut W LT ok) from by have := implAheadTimes_any n0 d0 s0 n1 d1 s1 n2 d2 W; rw [hT] at this; exact this))
    have C2 := Lib.hid (fun W => (show Calls Try.prog 29 #[hv n0 d0 s0, hv n1 d1 s1, tv n2 d2] W (TurnsOut W LT ok) from by have := specAheadTimes_any n0 d0 s0 n1 d1 s1 n2 d2 kd0 kd1 kd2 W; rw [hT] at this; exact this))
    have C3 := Lib.hid (fun W => (show Calls Try.prog 30 #[hv n0 d0 s0, hv n1 d1 s1, tv n2 d2] W fun e w' => e = .returned (rv (hn, hd, ho)) ∧ Below W.heap.size W w' from by have := implAheadAt_any n0 d0 s0 n1 d1 s1 n2 d2 W; rw [hA] at this; exact this))
    have C4 := Lib.hid (fun W => (show Calls Try.prog 31 #[hv n0 d0 s0, hv n1 d1 s1, tv n2 d2] W fun e w' => e = .returned (rv (hn, hd, ho)) ∧ Below W.heap.size W w' from by have := specAheadAt_any n0 d0 s0 n1 d1 s1 n2 d2 kd0 kd1 kd2 W; rw [hA] at this; exact this))
    have C5 := Lib.hid (fun W => (show Calls Try.prog 32 #[hv n0 d0 s0, hv n1 d1 s1] W fun e w' => e = .returned (rhv (rn, rd, rs, ro)) ∧ Below W.heap.size W w' from by have := implRelativeHand_any n0 d0 s0 n1 d1 s1 W; rw [hR] at this; exact this))
    have C6 := Lib.hid (fun W => (show Calls Try.prog 33 #[hv n0 d0 s0, hv n1 d1 s1] W fun e w' => e = .returned (rhv (rn, rd, rs, ro)) ∧ Below W.heap.size W w' from by have := specRelativeHand_any n0 d0 s0 n1 d1 s1 kd0 kd1 W; rw [hR] at this; exact this))
    have C7 := Lib.hid (fun W => (show Calls Try.prog 34 #[hv n0 d0 s0, hv n1 d1 s1] W (TurnsOut W LO oo) from by have := implOppositeTimes_any n0 d0 s0 n1 d1 s1 W; rw [hO] at this; exact this))
    have C8 := Lib.hid (fun W => (show Calls Try.prog 35 #[hv n0 d0 s0, hv n1 d1 s1] W (TurnsOut W LO oo) from by have := specOppositeTimes_any n0 d0 s0 n1 d1 s1 kd0 kd1 W; rw [hO] at this; exact this))
    have HLT := Lib.hid (show LT.length ≤ 1000000 from by have := aheadR_len n0 d0 s0 n1 d1 s1 n2 d2; rw [hT] at this; exact this)
    have HLO := Lib.hid (show LO.length ≤ 1000000 from by have := aheadR_len n0 d0 s0 n1 d1 s1 1 2; rw [hO] at this; exact this)
    have F1 := Lib.hid (fun (e : ok = true) => ahead_all (by rw [hT, e] : aheadR n0 d0 s0 n1 d1 s1 n2 d2 = (LT, true)))
    have F2 := Lib.hid (fun (e : oo = true) => ahead_all (by rw [hO, e] : aheadR n0 d0 s0 n1 d1 s1 1 2 = (LO, true)))
    have F3 := Lib.hid (fun (e : ro = true) => (show handAtT rn rd rs n2 d2 = (hn, hd, ho) ∧ rs = s0 - s1 ∧ (-800 ≤ s0 - s1 ∧ s0 - s1 ≤ 800) from by have := relative_at (yn := n2) (yd := d2) (by rw [hR, e] : relT n0 d0 s0 n1 d1 s1 = (rn, rd, rs, true)); rw [hA] at this; exact this))
    clear hT hA hR hO
    go_wp2_with fail
    refine (C1.out _).mono ?_
    rintro e2 w2 ⟨v_lt, rfl, hr2, hb2⟩
    obtain ⟨pa_lt, pc_lt, rfl, -⟩ := TRow.cells hr2
    have R2_lt := Lib.hid hr2
    clear hr2
    obtain ⟨hc2, hf2⟩ := bcell hb2
    have hz2 := hb2.size
    (try simp only [World.size_alloc, World.size_setCell, World.size_drew] at hz2)
    have B2 : Below w1.heap.size w1 w2 := Below.trans (b := _) (by (repeat' (first | (with_reducible exact Below.refl _ _) | (with_reducible assumption) | (with_reducible refine Below.alloc ?_ ?_ _) | (with_reducible refine Below.drew ?_) | (with_reducible refine below_drewN ?_ _) | (with_reducible refine Below.setCell ?_ ?_ _) | (with_reducible refine below_call ?_ ?_ (by assumption)) | go_size))) (hb2.mono (by first | omega | (simp only [World.size_alloc, World.size_setCell, World.size_drew]; omega)))
    obtain ⟨hd2, -⟩ := bcell B2
    have c2_a_0 : w2.cell? ⟨w1.heap.size, 0, none⟩ = some (.int .i64 n0) := (hc2 _ _ (by go_size)).trans (by go_simp)
    have c2_a_1 : w2.cell? ⟨w1.heap.size, 1, none⟩ = some (.int .i64 d0) := (hc2 _ _ (by go_size)).trans (by go_simp)
    have c2_a_2 : w2.cell? ⟨w1.heap.size, 2, none⟩ = some (.int .i64 s0) := (hc2 _ _ (by go_size)).trans (by go_simp)
    have q_a : w1.heap.size < w2.heap.size := by omega
    have c2_b_0 : w2.cell? ⟨w1.heap.size + 1, 0, none⟩ = some (.int .i64 n1) := (hc2 _ _ (by go_size)).trans (by go_simp)
    have c2_b_1 : w2.cell? ⟨w1.heap.size + 1, 1, none⟩ = some (.int .i64 d1) := (hc2 _ _ (by go_size)).trans (by go_simp)
    have c2_b_2 : w2.cell? ⟨w1.heap.size + 1, 2, none⟩ = some (.int .i64 s1) := (hc2 _ _ (by go_size)).trans (by go_simp)
    have q_b : w1.heap.size + 1 < w2.heap.size := by omega
    have c2_by_0 : w2.cell? ⟨w1.heap.size + 1 + 1, 0, none⟩ = some (.int .i64 n2) := (hc2 _ _ (by go_size)).trans (by go_simp)
    have c2_by_1 : w2.cell? ⟨w1.heap.size + 1 + 1, 1, none⟩ = some (.int .i64 d2) := (hc2 _ _ (by go_size)).trans (by go_simp)
    have q_by : w1.heap.size + 1 + 1 < w2.heap.size := by omega
    have BW2 : Below w.heap.size w w2 := BW1.trans (B2.mono BW1.size)
    clear hc2 hf2 hb2 hd2 B2  BW1
    go_wp2_with fail
    refine (C2.out _).mono ?_
    rintro e3 w3 ⟨v_right, rfl, hr3, hb3⟩
    obtain ⟨pa_right, pc_right, rfl, -⟩ := TRow.cells hr3
    have R3_right := Lib.hid hr3
    clear hr3
    obtain ⟨hc3, hf3⟩ := bcell hb3
    have hz3 := hb3.size
    (try simp only [World.size_alloc, World.size_setCell, World.size_drew] at hz3)
    have B3 : Below w2.heap.size w2 w3 := Below.trans (b := _) (by (repeat' (first | (with_reducible exact Below.refl _ _) | (with_reducible assumption) | (with_reducible refine Below.alloc ?_ ?_ _) | (with_reducible refine Below.drew ?_) | (with_reducible refine below_drewN ?_ _) | (with_reducible refine Below.setCell ?_ ?_ _) | (with_reducible refine below_call ?_ ?_ (by assumption)) | go_size))) (hb3.mono (by first | omega | (simp only [World.size_alloc, World.size_setCell, World.size_drew]; omega)))
    obtain ⟨hd3, -⟩ := bcell B3
    have c3_a_0 : w3.cell? ⟨w1.heap.size, 0, none⟩ = some (.int .i64 n0) := (hd3 _ _ q_a).trans c2_a_0
    have c3_a_1 : w3.cell? ⟨w1.heap.size, 1, none⟩ = some (.int .i64 d0) := (hd3 _ _ q_a).trans c2_a_1
    have c3_a_2 : w3.cell? ⟨w1.heap.size, 2, none⟩ = some (.int .i64 s0) := (hd3 _ _ q_a).trans c2_a_2
    have c3_b_0 : w3.cell? ⟨w1.heap.size + 1, 0, none⟩ = some (.int .i64 n1) := (hd3 _ _ q_b).trans c2_b_0
    have c3_b_1 : w3.cell? ⟨w1.heap.size + 1, 1, none⟩ = some (.int .i64 d1) := (hd3 _ _ q_b).trans c2_b_1
    have c3_b_2 : w3.cell? ⟨w1.heap.size + 1, 2, none⟩ = some (.int .i64 s1) := (hd3 _ _ q_b).trans c2_b_2
    have c3_by_0 : w3.cell? ⟨w1.heap.size + 1 + 1, 0, none⟩ = some (.int .i64 n2) := (hd3 _ _ q_by).trans c2_by_0
    have c3_by_1 : w3.cell? ⟨w1.heap.size + 1 + 1, 1, none⟩ = some (.int .i64 d2) := (hd3 _ _ q_by).trans c2_by_1
    replace q_a : w1.heap.size < w3.heap.size := by omega
    replace q_b : w1.heap.size + 1 < w3.heap.size := by omega
    replace q_by : w1.heap.size + 1 + 1 < w3.heap.size := by omega
    have R3_lt := Lib.hid (TRow.below R2_lt.out B3)
    clear R2_lt
    have BW3 : Below w.heap.size w w3 := BW2.trans (B3.mono BW2.size)
    clear hc3 hf3 hb3 hd3 B3 c2_a_0 c2_a_1 c2_a_2 c2_b_0 c2_b_1 c2_b_2 c2_by_0 c2_by_1 BW2
    go_wp2_with fail
    refine (C3.out _).mono ?_
    rintro e4 w4 ⟨rfl, hb4⟩
    obtain ⟨hc4, hf4⟩ := bcell hb4
    have hz4 := hb4.size
    (try simp only [World.size_alloc, World.size_setCell, World.size_drew] at hz4)
    have B4 : Below w3.heap.size w3 w4 := Below.trans (b := _) (by (repeat' (first | (with_reducible exact Below.refl _ _) | (with_reducible assumption) | (with_reducible refine Below.alloc ?_ ?_ _) | (with_reducible refine Below.drew ?_) | (with_reducible refine below_drewN ?_ _) | (with_reducible refine Below.setCell ?_ ?_ _) | (with_reducible refine below_call ?_ ?_ (by assumption)) | go_size))) (hb4.mono (by first | omega | (simp only [World.size_alloc, World.size_setCell, World.size_drew]; omega)))
    obtain ⟨hd4, -⟩ := bcell B4
    have c4_a_0 : w4.cell? ⟨w1.heap.size, 0, none⟩ = some (.int .i64 n0) := (hd4 _ _ q_a).trans c3_a_0
    have c4_a_1 : w4.cell? ⟨w1.heap.size, 1, none⟩ = some (.int .i64 d0) := (hd4 _ _ q_a).trans c3_a_1
    have c4_a_2 : w4.cell? ⟨w1.heap.size, 2, none⟩ = some (.int .i64 s0) := (hd4 _ _ q_a).trans c3_a_2
    have c4_b_0 : w4.cell? ⟨w1.heap.size + 1, 0, none⟩ = some (.int .i64 n1) := (hd4 _ _ q_b).trans c3_b_0
    have c4_b_1 : w4.cell? ⟨w1.heap.size + 1, 1, none⟩ = some (.int .i64 d1) := (hd4 _ _ q_b).trans c3_b_1
    have c4_b_2 : w4.cell? ⟨w1.heap.size + 1, 2, none⟩ = some (.int .i64 s1) := (hd4 _ _ q_b).trans c3_b_2
    have c4_by_0 : w4.cell? ⟨w1.heap.size + 1 + 1, 0, none⟩ = some (.int .i64 n2) := (hd4 _ _ q_by).trans c3_by_0
    have c4_by_1 : w4.cell? ⟨w1.heap.size + 1 + 1, 1, none⟩ = some (.int .i64 d2) := (hd4 _ _ q_by).trans c3_by_1
    replace q_a : w1.heap.size < w4.heap.size := by omega
    replace q_b : w1.heap.size + 1 < w4.heap.size := by omega
    replace q_by : w1.heap.size + 1 + 1 < w4.heap.size := by omega
    have R4_lt := Lib.hid (TRow.below R3_lt.out B4)
    clear R3_lt
    have R4_right := Lib.hid (TRow.below R3_right.out B4)
    clear R3_right
    have BW4 : Below w.heap.size w w4 := BW3.trans (B4.mono BW3.size)
    clear hc4 hf4 hb4 hd4 B4 c3_a_0 c3_a_1 c3_a_2 c3_b_0 c3_b_1 c3_b_2 c3_by_0 c3_by_1 BW3
    go_wp2_with fail
    refine (C4.out _).mono ?_
    rintro e5 w5 ⟨rfl, hb5⟩
    obtain ⟨hc5, hf5⟩ := bcell hb5
    have hz5 := hb5.size
    (try simp only [World.size_alloc, World.size_setCell, World.size_drew] at hz5)
    have B5 : Below w4.heap.size w4 w5 := Below.trans (b := _) (by (repeat' (first | (with_reducible exact Below.refl _ _) | (with_reducible assumption) | (with_reducible refine Below.alloc ?_ ?_ _) | (with_reducible refine Below.drew ?_) | (with_reducible refine below_drewN ?_ _) | (with_reducible refine Below.setCell ?_ ?_ _) | (with_reducible refine below_call ?_ ?_ (by assumption)) | go_size))) (hb5.mono (by first | omega | (simp only [World.size_alloc, World.size_setCell, World.size_drew]; omega)))
    obtain ⟨hd5, -⟩ := bcell B5
    have c5_a_0 : w5.cell? ⟨w1.heap.size, 0, none⟩ = some (.int .i64 n0) := (hd5 _ _ q_a).trans c4_a_0
    have c5_a_1 : w5.cell? ⟨w1.heap.size, 1, none⟩ = some (.int .i64 d0) := (hd5 _ _ q_a).trans c4_a_1
    have c5_a_2 : w5.cell? ⟨w1.heap.size, 2, none⟩ = some (.int .i64 s0) := (hd5 _ _ q_a).trans c4_a_2
    have c5_b_0 : w5.cell? ⟨w1.heap.size + 1, 0, none⟩ = some (.int .i64 n1) := (hd5 _ _ q_b).trans c4_b_0
    have c5_b_1 : w5.cell? ⟨w1.heap.size + 1, 1, none⟩ = some (.int .i64 d1) := (hd5 _ _ q_b).trans c4_b_1
    have c5_b_2 : w5.cell? ⟨w1.heap.size + 1, 2, none⟩ = some (.int .i64 s1) := (hd5 _ _ q_b).trans c4_b_2
    have c5_by_0 : w5.cell? ⟨w1.heap.size + 1 + 1, 0, none⟩ = some (.int .i64 n2) := (hd5 _ _ q_by).trans c4_by_0
    have c5_by_1 : w5.cell? ⟨w1.heap.size + 1 + 1, 1, none⟩ = some (.int .i64 d2) := (hd5 _ _ q_by).trans c4_by_1
    replace q_a : w1.heap.size < w5.heap.size := by omega
    replace q_b : w1.heap.size + 1 < w5.heap.size := by omega
    replace q_by : w1.heap.size + 1 + 1 < w5.heap.size := by omega
    have c5_ahead_0 : w5.cell? ⟨w4.heap.size, 0, none⟩ = some (.int .i64 hn) := (hc5 _ _ (by go_size)).trans (by go_simp)
    have c5_ahead_1 : w5.cell? ⟨w4.heap.size, 1, none⟩ = some (.int .i64 hd) := (hc5 _ _ (by go_size)).trans (by go_simp)
    have q_ahead : w4.heap.size < w5.heap.size := by omega
    have R5_lt := Lib.hid (TRow.below R4_lt.out B5)
    clear R4_lt
    have R5_right := Lib.hid (TRow.below R4_right.out B5)
    clear R4_right
    have BW5 : Below w.heap.size w w5 := BW4.trans (B5.mono BW4.size)
    clear hc5 hf5 hb5 hd5 B5 c4_a_0 c4_a_1 c4_a_2 c4_b_0 c4_b_1 c4_b_2 c4_by_0 c4_by_1 BW4
    go_wp2_with fail
    refine (C5.out _).mono ?_
    rintro e6 w6 ⟨rfl, hb6⟩
    obtain ⟨hc6, hf6⟩ := bcell hb6
    have hz6 := hb6.size
    (try simp only [World.size_alloc, World.size_setCell, World.size_drew] at hz6)
    have B6 : Below w5.heap.size w5 w6 := Below.trans (b := _) (by (repeat' (first | (with_reducible exact Below.refl _ _) | (with_reducible assumption) | (with_reducible refine Below.alloc ?_ ?_ _) | (with_reducible refine Below.drew ?_) | (with_reducible refine below_drewN ?_ _) | (with_reducible refine Below.setCell ?_ ?_ _) | (with_reducible refine below_call ?_ ?_ (by assumption)) | go_size))) (hb6.mono (by first | omega | (simp only [World.size_alloc, World.size_setCell, World.size_drew]; omega)))
    obtain ⟨hd6, -⟩ := bcell B6
    have c6_a_0 : w6.cell? ⟨w1.heap.size, 0, none⟩ = some (.int .i64 n0) := (hd6 _ _ q_a).trans c5_a_0
    have c6_a_1 : w6.cell? ⟨w1.heap.size, 1, none⟩ = some (.int .i64 d0) := (hd6 _ _ q_a).trans c5_a_1
    have c6_a_2 : w6.cell? ⟨w1.heap.size, 2, none⟩ = some (.int .i64 s0) := (hd6 _ _ q_a).trans c5_a_2
    have c6_b_0 : w6.cell? ⟨w1.heap.size + 1, 0, none⟩ = some (.int .i64 n1) := (hd6 _ _ q_b).trans c5_b_0
    have c6_b_1 : w6.cell? ⟨w1.heap.size + 1, 1, none⟩ = some (.int .i64 d1) := (hd6 _ _ q_b).trans c5_b_1
    have c6_b_2 : w6.cell? ⟨w1.heap.size + 1, 2, none⟩ = some (.int .i64 s1) := (hd6 _ _ q_b).trans c5_b_2
    have c6_by_0 : w6.cell? ⟨w1.heap.size + 1 + 1, 0, none⟩ = some (.int .i64 n2) := (hd6 _ _ q_by).trans c5_by_0
    have c6_by_1 : w6.cell? ⟨w1.heap.size + 1 + 1, 1, none⟩ = some (.int .i64 d2) := (hd6 _ _ q_by).trans c5_by_1
    have c6_ahead_0 : w6.cell? ⟨w4.heap.size, 0, none⟩ = some (.int .i64 hn) := (hd6 _ _ q_ahead).trans c5_ahead_0
    have c6_ahead_1 : w6.cell? ⟨w4.heap.size, 1, none⟩ = some (.int .i64 hd) := (hd6 _ _ q_ahead).trans c5_ahead_1
    replace q_a : w1.heap.size < w6.heap.size := by omega
    replace q_b : w1.heap.size + 1 < w6.heap.size := by omega
    replace q_by : w1.heap.size + 1 + 1 < w6.heap.size := by omega
    replace q_ahead : w4.heap.size < w6.heap.size := by omega
    have c6_want_0 : w6.cell? ⟨w5.heap.size, 0, none⟩ = some (.int .i64 hn) := (hc6 _ _ (by go_size)).trans (by go_simp)
    have c6_want_1 : w6.cell? ⟨w5.heap.size, 1, none⟩ = some (.int .i64 hd) := (hc6 _ _ (by go_size)).trans (by go_simp)
    have q_want : w5.heap.size < w6.heap.size := by omega
    have R6_lt := Lib.hid (TRow.below R5_lt.out B6)
    clear R5_lt
    have R6_right := Lib.hid (TRow.below R5_right.out B6)
    clear R5_right
    have BW6 : Below w.heap.size w w6 := BW5.trans (B6.mono BW5.size)
    clear hc6 hf6 hb6 hd6 B6 c5_a_0 c5_a_1 c5_a_2 c5_b_0 c5_b_1 c5_b_2 c5_by_0 c5_by_1 c5_ahead_0 c5_ahead_1 BW5
    go_wp2_with fail
    refine (C6.out _).mono ?_
    rintro e7 w7 ⟨rfl, hb7⟩
    obtain ⟨hc7, hf7⟩ := bcell hb7
    have hz7 := hb7.size
    (try simp only [World.size_alloc, World.size_setCell, World.size_drew] at hz7)
    have B7 : Below w6.heap.size w6 w7 := Below.trans (b := _) (by (repeat' (first | (with_reducible exact Below.refl _ _) | (with_reducible assumption) | (with_reducible refine Below.alloc ?_ ?_ _) | (with_reducible refine Below.drew ?_) | (with_reducible refine below_drewN ?_ _) | (with_reducible refine Below.setCell ?_ ?_ _) | (with_reducible refine below_call ?_ ?_ (by assumption)) | go_size))) (hb7.mono (by first | omega | (simp only [World.size_alloc, World.size_setCell, World.size_drew]; omega)))
    obtain ⟨hd7, -⟩ := bcell B7
    have c7_a_0 : w7.cell? ⟨w1.heap.size, 0, none⟩ = some (.int .i64 n0) := (hd7 _ _ q_a).trans c6_a_0
    have c7_a_1 : w7.cell? ⟨w1.heap.size, 1, none⟩ = some (.int .i64 d0) := (hd7 _ _ q_a).trans c6_a_1
    have c7_a_2 : w7.cell? ⟨w1.heap.size, 2, none⟩ = some (.int .i64 s0) := (hd7 _ _ q_a).trans c6_a_2
    have c7_b_0 : w7.cell? ⟨w1.heap.size + 1, 0, none⟩ = some (.int .i64 n1) := (hd7 _ _ q_b).trans c6_b_0
    have c7_b_1 : w7.cell? ⟨w1.heap.size + 1, 1, none⟩ = some (.int .i64 d1) := (hd7 _ _ q_b).trans c6_b_1
    have c7_b_2 : w7.cell? ⟨w1.heap.size + 1, 2, none⟩ = some (.int .i64 s1) := (hd7 _ _ q_b).trans c6_b_2
    have c7_by_0 : w7.cell? ⟨w1.heap.size + 1 + 1, 0, none⟩ = some (.int .i64 n2) := (hd7 _ _ q_by).trans c6_by_0
    have c7_by_1 : w7.cell? ⟨w1.heap.size + 1 + 1, 1, none⟩ = some (.int .i64 d2) := (hd7 _ _ q_by).trans c6_by_1
    have c7_ahead_0 : w7.cell? ⟨w4.heap.size, 0, none⟩ = some (.int .i64 hn) := (hd7 _ _ q_ahead).trans c6_ahead_0
    have c7_ahead_1 : w7.cell? ⟨w4.heap.size, 1, none⟩ = some (.int .i64 hd) := (hd7 _ _ q_ahead).trans c6_ahead_1
    have c7_want_0 : w7.cell? ⟨w5.heap.size, 0, none⟩ = some (.int .i64 hn) := (hd7 _ _ q_want).trans c6_want_0
    have c7_want_1 : w7.cell? ⟨w5.heap.size, 1, none⟩ = some (.int .i64 hd) := (hd7 _ _ q_want).trans c6_want_1
    replace q_a : w1.heap.size < w7.heap.size := by omega
    replace q_b : w1.heap.size + 1 < w7.heap.size := by omega
    replace q_by : w1.heap.size + 1 + 1 < w7.heap.size := by omega
    replace q_ahead : w4.heap.size < w7.heap.size := by omega
    replace q_want : w5.heap.size < w7.heap.size := by omega
    have c7_rel_0 : w7.cell? ⟨w6.heap.size, 0, none⟩ = some (.int .i64 rn) := (hc7 _ _ (by go_size)).trans (by go_simp)
    have c7_rel_1 : w7.cell? ⟨w6.heap.size, 1, none⟩ = some (.int .i64 rd) := (hc7 _ _ (by go_size)).trans (by go_simp)
    have c7_rel_2 : w7.cell? ⟨w6.heap.size, 2, none⟩ = some (.int .i64 rs) := (hc7 _ _ (by go_size)).trans (by go_simp)
    have q_rel : w6.heap.size < w7.heap.size := by omega
    have R7_lt := Lib.hid (TRow.below R6_lt.out B7)
    clear R6_lt
    have R7_right := Lib.hid (TRow.below R6_right.out B7)
    clear R6_right
    have BW7 : Below w.heap.size w w7 := BW6.trans (B7.mono BW6.size)
    clear hc7 hf7 hb7 hd7 B7 c6_a_0 c6_a_1 c6_a_2 c6_b_0 c6_b_1 c6_b_2 c6_by_0 c6_by_1 c6_ahead_0 c6_ahead_1 c6_want_0 c6_want_1 BW6
    go_wp2_with fail
    refine (C7.out _).mono ?_
    rintro e8 w8 ⟨v_lo, rfl, hr8, hb8⟩
    obtain ⟨pa_lo, pc_lo, rfl, -⟩ := TRow.cells hr8
    have R8_lo := Lib.hid hr8
    clear hr8
    obtain ⟨hc8, hf8⟩ := bcell hb8
    have hz8 := hb8.size
    (try simp only [World.size_alloc, World.size_setCell, World.size_drew] at hz8)
    have B8 : Below w7.heap.size w7 w8 := Below.trans (b := _) (by (repeat' (first | (with_reducible exact Below.refl _ _) | (with_reducible assumption) | (with_reducible refine Below.alloc ?_ ?_ _) | (with_reducible refine Below.drew ?_) | (with_reducible refine below_drewN ?_ _) | (with_reducible refine Below.setCell ?_ ?_ _) | (with_reducible refine below_call ?_ ?_ (by assumption)) | go_size))) (hb8.mono (by first | omega | (simp only [World.size_alloc, World.size_setCell, World.size_drew]; omega)))
    obtain ⟨hd8, -⟩ := bcell B8
    have c8_a_0 : w8.cell? ⟨w1.heap.size, 0, none⟩ = some (.int .i64 n0) := (hd8 _ _ q_a).trans c7_a_0
    have c8_a_1 : w8.cell? ⟨w1.heap.size, 1, none⟩ = some (.int .i64 d0) := (hd8 _ _ q_a).trans c7_a_1
    have c8_a_2 : w8.cell? ⟨w1.heap.size, 2, none⟩ = some (.int .i64 s0) := (hd8 _ _ q_a).trans c7_a_2
    have c8_b_0 : w8.cell? ⟨w1.heap.size + 1, 0, none⟩ = some (.int .i64 n1) := (hd8 _ _ q_b).trans c7_b_0
    have c8_b_1 : w8.cell? ⟨w1.heap.size + 1, 1, none⟩ = some (.int .i64 d1) := (hd8 _ _ q_b).trans c7_b_1
    have c8_b_2 : w8.cell? ⟨w1.heap.size + 1, 2, none⟩ = some (.int .i64 s1) := (hd8 _ _ q_b).trans c7_b_2
    have c8_by_0 : w8.cell? ⟨w1.heap.size + 1 + 1, 0, none⟩ = some (.int .i64 n2) := (hd8 _ _ q_by).trans c7_by_0
    have c8_by_1 : w8.cell? ⟨w1.heap.size + 1 + 1, 1, none⟩ = some (.int .i64 d2) := (hd8 _ _ q_by).trans c7_by_1
    have c8_ahead_0 : w8.cell? ⟨w4.heap.size, 0, none⟩ = some (.int .i64 hn) := (hd8 _ _ q_ahead).trans c7_ahead_0
    have c8_ahead_1 : w8.cell? ⟨w4.heap.size, 1, none⟩ = some (.int .i64 hd) := (hd8 _ _ q_ahead).trans c7_ahead_1
    have c8_want_0 : w8.cell? ⟨w5.heap.size, 0, none⟩ = some (.int .i64 hn) := (hd8 _ _ q_want).trans c7_want_0
    have c8_want_1 : w8.cell? ⟨w5.heap.size, 1, none⟩ = some (.int .i64 hd) := (hd8 _ _ q_want).trans c7_want_1
    have c8_rel_0 : w8.cell? ⟨w6.heap.size, 0, none⟩ = some (.int .i64 rn) := (hd8 _ _ q_rel).trans c7_rel_0
    have c8_rel_1 : w8.cell? ⟨w6.heap.size, 1, none⟩ = some (.int .i64 rd) := (hd8 _ _ q_rel).trans c7_rel_1
    have c8_rel_2 : w8.cell? ⟨w6.heap.size, 2, none⟩ = some (.int .i64 rs) := (hd8 _ _ q_rel).trans c7_rel_2
    replace q_a : w1.heap.size < w8.heap.size := by omega
    replace q_b : w1.heap.size + 1 < w8.heap.size := by omega
    replace q_by : w1.heap.size + 1 + 1 < w8.heap.size := by omega
    replace q_ahead : w4.heap.size < w8.heap.size := by omega
    replace q_want : w5.heap.size < w8.heap.size := by omega
    replace q_rel : w6.heap.size < w8.heap.size := by omega
    have c8_model_0 : w8.cell? ⟨w7.heap.size, 0, none⟩ = some (.int .i64 rn) := (hc8 _ _ (by go_size)).trans (by go_simp)
    have c8_model_1 : w8.cell? ⟨w7.heap.size, 1, none⟩ = some (.int .i64 rd) := (hc8 _ _ (by go_size)).trans (by go_simp)
    have c8_model_2 : w8.cell? ⟨w7.heap.size, 2, none⟩ = some (.int .i64 rs) := (hc8 _ _ (by go_size)).trans (by go_simp)
    have q_model : w7.heap.size < w8.heap.size := by omega
    have R8_lt := Lib.hid (TRow.below R7_lt.out B8)
    clear R7_lt
    have R8_right := Lib.hid (TRow.below R7_right.out B8)
    clear R7_right
    have BW8 : Below w.heap.size w w8 := BW7.trans (B8.mono BW7.size)
    clear hc8 hf8 hb8 hd8 B8 c7_a_0 c7_a_1 c7_a_2 c7_b_0 c7_b_1 c7_b_2 c7_by_0 c7_by_1 c7_ahead_0 c7_ahead_1 c7_want_0 c7_want_1 c7_rel_0 c7_rel_1 c7_rel_2 BW7
    go_wp2_with fail
    refine (C8.out _).mono ?_
    rintro e9 w9 ⟨v_value, rfl, hr9, hb9⟩
    obtain ⟨pa_value, pc_value, rfl, -⟩ := TRow.cells hr9
    have R9_value := Lib.hid hr9
    clear hr9
    obtain ⟨hc9, hf9⟩ := bcell hb9
    have hz9 := hb9.size
    (try simp only [World.size_alloc, World.size_setCell, World.size_drew] at hz9)
    have B9 : Below w8.heap.size w8 w9 := Below.trans (b := _) (by (repeat' (first | (with_reducible exact Below.refl _ _) | (with_reducible assumption) | (with_reducible refine Below.alloc ?_ ?_ _) | (with_reducible refine Below.drew ?_) | (with_reducible refine below_drewN ?_ _) | (with_reducible refine Below.setCell ?_ ?_ _) | (with_reducible refine below_call ?_ ?_ (by assumption)) | go_size))) (hb9.mono (by first | omega | (simp only [World.size_alloc, World.size_setCell, World.size_drew]; omega)))
    obtain ⟨hd9, -⟩ := bcell B9
    have c9_a_0 : w9.cell? ⟨w1.heap.size, 0, none⟩ = some (.int .i64 n0) := (hd9 _ _ q_a).trans c8_a_0
    have c9_a_1 : w9.cell? ⟨w1.heap.size, 1, none⟩ = some (.int .i64 d0) := (hd9 _ _ q_a).trans c8_a_1
    have c9_a_2 : w9.cell? ⟨w1.heap.size, 2, none⟩ = some (.int .i64 s0) := (hd9 _ _ q_a).trans c8_a_2
    have c9_b_0 : w9.cell? ⟨w1.heap.size + 1, 0, none⟩ = some (.int .i64 n1) := (hd9 _ _ q_b).trans c8_b_0
    have c9_b_1 : w9.cell? ⟨w1.heap.size + 1, 1, none⟩ = some (.int .i64 d1) := (hd9 _ _ q_b).trans c8_b_1
    have c9_b_2 : w9.cell? ⟨w1.heap.size + 1, 2, none⟩ = some (.int .i64 s1) := (hd9 _ _ q_b).trans c8_b_2
    have c9_by_0 : w9.cell? ⟨w1.heap.size + 1 + 1, 0, none⟩ = some (.int .i64 n2) := (hd9 _ _ q_by).trans c8_by_0
    have c9_by_1 : w9.cell? ⟨w1.heap.size + 1 + 1, 1, none⟩ = some (.int .i64 d2) := (hd9 _ _ q_by).trans c8_by_1
    have c9_ahead_0 : w9.cell? ⟨w4.heap.size, 0, none⟩ = some (.int .i64 hn) := (hd9 _ _ q_ahead).trans c8_ahead_0
    have c9_ahead_1 : w9.cell? ⟨w4.heap.size, 1, none⟩ = some (.int .i64 hd) := (hd9 _ _ q_ahead).trans c8_ahead_1
    have c9_want_0 : w9.cell? ⟨w5.heap.size, 0, none⟩ = some (.int .i64 hn) := (hd9 _ _ q_want).trans c8_want_0
    have c9_want_1 : w9.cell? ⟨w5.heap.size, 1, none⟩ = some (.int .i64 hd) := (hd9 _ _ q_want).trans c8_want_1
    have c9_rel_0 : w9.cell? ⟨w6.heap.size, 0, none⟩ = some (.int .i64 rn) := (hd9 _ _ q_rel).trans c8_rel_0
    have c9_rel_1 : w9.cell? ⟨w6.heap.size, 1, none⟩ = some (.int .i64 rd) := (hd9 _ _ q_rel).trans c8_rel_1
    have c9_rel_2 : w9.cell? ⟨w6.heap.size, 2, none⟩ = some (.int .i64 rs) := (hd9 _ _ q_rel).trans c8_rel_2
    have c9_model_0 : w9.cell? ⟨w7.heap.size, 0, none⟩ = some (.int .i64 rn) := (hd9 _ _ q_model).trans c8_model_0
    have c9_model_1 : w9.cell? ⟨w7.heap.size, 1, none⟩ = some (.int .i64 rd) := (hd9 _ _ q_model).trans c8_model_1
    have c9_model_2 : w9.cell? ⟨w7.heap.size, 2, none⟩ = some (.int .i64 rs) := (hd9 _ _ q_model).trans c8_model_2
    replace q_a : w1.heap.size < w9.heap.size := by omega
    replace q_b : w1.heap.size + 1 < w9.heap.size := by omega
    replace q_by : w1.heap.size + 1 + 1 < w9.heap.size := by omega
    replace q_ahead : w4.heap.size < w9.heap.size := by omega
    replace q_want : w5.heap.size < w9.heap.size := by omega
    replace q_rel : w6.heap.size < w9.heap.size := by omega
    replace q_model : w7.heap.size < w9.heap.size := by omega
    have R9_lt := Lib.hid (TRow.below R8_lt.out B9)
    clear R8_lt
    have R9_right := Lib.hid (TRow.below R8_right.out B9)
    clear R8_right
    have R9_lo := Lib.hid (TRow.below R8_lo.out B9)
    clear R8_lo
    have BW9 : Below w.heap.size w w9 := BW8.trans (B9.mono BW8.size)
    clear hc9 hf9 hb9 hd9 B9 c8_a_0 c8_a_1 c8_a_2 c8_b_0 c8_b_1 c8_b_2 c8_by_0 c8_by_1 c8_ahead_0 c8_ahead_1 c8_want_0 c8_want_1 c8_rel_0 c8_rel_1 c8_rel_2 c8_model_0 c8_model_1 c8_model_2 BW8
    go_wp2_with fail
    refine (kTurns_same LT _ _ _ _ _ R9_lt.out R9_right.out HLT.out).mono ?_
    rintro e10 w10 ⟨rfl, hb10⟩
    obtain ⟨hc10, hf10⟩ := bcell hb10
    have hz10 := hb10.size
    (try simp only [World.size_alloc, World.size_setCell, World.size_drew] at hz10)
    have B10 : Below w9.heap.size w9 w10 := Below.trans (b := _) (by (repeat' (first | (with_reducible exact Below.refl _ _) | (with_reducible assumption) | (with_reducible refine Below.alloc ?_ ?_ _) | (with_reducible refine Below.drew ?_) | (with_reducible refine below_drewN ?_ _) | (with_reducible refine Below.setCell ?_ ?_ _) | (with_reducible refine below_call ?_ ?_ (by assumption)) | go_size))) (hb10.mono (by first | omega | (simp only [World.size_alloc, World.size_setCell, World.size_drew]; omega)))
    obtain ⟨hd10, -⟩ := bcell B10
    have c10_a_0 : w10.cell? ⟨w1.heap.size, 0, none⟩ = some (.int .i64 n0) := (hd10 _ _ q_a).trans c9_a_0
    have c10_a_1 : w10.cell? ⟨w1.heap.size, 1, none⟩ = some (.int .i64 d0) := (hd10 _ _ q_a).trans c9_a_1
    have c10_a_2 : w10.cell? ⟨w1.heap.size, 2, none⟩ = some (.int .i64 s0) := (hd10 _ _ q_a).trans c9_a_2
    have c10_b_0 : w10.cell? ⟨w1.heap.size + 1, 0, none⟩ = some (.int .i64 n1) := (hd10 _ _ q_b).trans c9_b_0
    have c10_b_1 : w10.cell? ⟨w1.heap.size + 1, 1, none⟩ = some (.int .i64 d1) := (hd10 _ _ q_b).trans c9_b_1
    have c10_b_2 : w10.cell? ⟨w1.heap.size + 1, 2, none⟩ = some (.int .i64 s1) := (hd10 _ _ q_b).trans c9_b_2
    have c10_by_0 : w10.cell? ⟨w1.heap.size + 1 + 1, 0, none⟩ = some (.int .i64 n2) := (hd10 _ _ q_by).trans c9_by_0
    have c10_by_1 : w10.cell? ⟨w1.heap.size + 1 + 1, 1, none⟩ = some (.int .i64 d2) := (hd10 _ _ q_by).trans c9_by_1
    have c10_ahead_0 : w10.cell? ⟨w4.heap.size, 0, none⟩ = some (.int .i64 hn) := (hd10 _ _ q_ahead).trans c9_ahead_0
    have c10_ahead_1 : w10.cell? ⟨w4.heap.size, 1, none⟩ = some (.int .i64 hd) := (hd10 _ _ q_ahead).trans c9_ahead_1
    have c10_want_0 : w10.cell? ⟨w5.heap.size, 0, none⟩ = some (.int .i64 hn) := (hd10 _ _ q_want).trans c9_want_0
    have c10_want_1 : w10.cell? ⟨w5.heap.size, 1, none⟩ = some (.int .i64 hd) := (hd10 _ _ q_want).trans c9_want_1
    have c10_rel_0 : w10.cell? ⟨w6.heap.size, 0, none⟩ = some (.int .i64 rn) := (hd10 _ _ q_rel).trans c9_rel_0
    have c10_rel_1 : w10.cell? ⟨w6.heap.size, 1, none⟩ = some (.int .i64 rd) := (hd10 _ _ q_rel).trans c9_rel_1
    have c10_rel_2 : w10.cell? ⟨w6.heap.size, 2, none⟩ = some (.int .i64 rs) := (hd10 _ _ q_rel).trans c9_rel_2
    have c10_model_0 : w10.cell? ⟨w7.heap.size, 0, none⟩ = some (.int .i64 rn) := (hd10 _ _ q_model).trans c9_model_0
    have c10_model_1 : w10.cell? ⟨w7.heap.size, 1, none⟩ = some (.int .i64 rd) := (hd10 _ _ q_model).trans c9_model_1
    have c10_model_2 : w10.cell? ⟨w7.heap.size, 2, none⟩ = some (.int .i64 rs) := (hd10 _ _ q_model).trans c9_model_2
    replace q_a : w1.heap.size < w10.heap.size := by omega
    replace q_b : w1.heap.size + 1 < w10.heap.size := by omega
    replace q_by : w1.heap.size + 1 + 1 < w10.heap.size := by omega
    replace q_ahead : w4.heap.size < w10.heap.size := by omega
    replace q_want : w5.heap.size < w10.heap.size := by omega
    replace q_rel : w6.heap.size < w10.heap.size := by omega
    replace q_model : w7.heap.size < w10.heap.size := by omega
    have R10_lt := Lib.hid (TRow.below R9_lt.out B10)
    clear R9_lt
    have R10_right := Lib.hid (TRow.below R9_right.out B10)
    clear R9_right
    have R10_lo := Lib.hid (TRow.below R9_lo.out B10)
    clear R9_lo
    have R10_value := Lib.hid (TRow.below R9_value.out B10)
    clear R9_value
    have BW10 : Below w.heap.size w w10 := BW9.trans (B10.mono BW9.size)
    clear hc10 hf10 hb10 hd10 B10 c9_a_0 c9_a_1 c9_a_2 c9_b_0 c9_b_1 c9_b_2 c9_by_0 c9_by_1 c9_ahead_0 c9_ahead_1 c9_want_0 c9_want_1 c9_rel_0 c9_rel_1 c9_rel_2 c9_model_0 c9_model_1 c9_model_2 BW9
    go_wp2_with fail
    refine (kTurns_same LO _ _ _ _ _ R10_lo.out R10_value.out HLO.out).mono ?_
    rintro e11 w11 ⟨rfl, hb11⟩
    obtain ⟨hc11, hf11⟩ := bcell hb11
    have hz11 := hb11.size
    (try simp only [World.size_alloc, World.size_setCell, World.size_drew] at hz11)
    have B11 : Below w10.heap.size w10 w11 := Below.trans (b := _) (by (repeat' (first | (with_reducible exact Below.refl _ _) | (with_reducible assumption) | (with_reducible refine Below.alloc ?_ ?_ _) | (with_reducible refine Below.drew ?_) | (with_reducible refine below_drewN ?_ _) | (with_reducible refine Below.setCell ?_ ?_ _) | (with_reducible refine below_call ?_ ?_ (by assumption)) | go_size))) (hb11.mono (by first | omega | (simp only [World.size_alloc, World.size_setCell, World.size_drew]; omega)))
    obtain ⟨hd11, -⟩ := bcell B11
    have c11_a_0 : w11.cell? ⟨w1.heap.size, 0, none⟩ = some (.int .i64 n0) := (hd11 _ _ q_a).trans c10_a_0
    have c11_a_1 : w11.cell? ⟨w1.heap.size, 1, none⟩ = some (.int .i64 d0) := (hd11 _ _ q_a).trans c10_a_1
    have c11_a_2 : w11.cell? ⟨w1.heap.size, 2, none⟩ = some (.int .i64 s0) := (hd11 _ _ q_a).trans c10_a_2
    have c11_b_0 : w11.cell? ⟨w1.heap.size + 1, 0, none⟩ = some (.int .i64 n1) := (hd11 _ _ q_b).trans c10_b_0
    have c11_b_1 : w11.cell? ⟨w1.heap.size + 1, 1, none⟩ = some (.int .i64 d1) := (hd11 _ _ q_b).trans c10_b_1
    have c11_b_2 : w11.cell? ⟨w1.heap.size + 1, 2, none⟩ = some (.int .i64 s1) := (hd11 _ _ q_b).trans c10_b_2
    have c11_by_0 : w11.cell? ⟨w1.heap.size + 1 + 1, 0, none⟩ = some (.int .i64 n2) := (hd11 _ _ q_by).trans c10_by_0
    have c11_by_1 : w11.cell? ⟨w1.heap.size + 1 + 1, 1, none⟩ = some (.int .i64 d2) := (hd11 _ _ q_by).trans c10_by_1
    have c11_ahead_0 : w11.cell? ⟨w4.heap.size, 0, none⟩ = some (.int .i64 hn) := (hd11 _ _ q_ahead).trans c10_ahead_0
    have c11_ahead_1 : w11.cell? ⟨w4.heap.size, 1, none⟩ = some (.int .i64 hd) := (hd11 _ _ q_ahead).trans c10_ahead_1
    have c11_want_0 : w11.cell? ⟨w5.heap.size, 0, none⟩ = some (.int .i64 hn) := (hd11 _ _ q_want).trans c10_want_0
    have c11_want_1 : w11.cell? ⟨w5.heap.size, 1, none⟩ = some (.int .i64 hd) := (hd11 _ _ q_want).trans c10_want_1
    have c11_rel_0 : w11.cell? ⟨w6.heap.size, 0, none⟩ = some (.int .i64 rn) := (hd11 _ _ q_rel).trans c10_rel_0
    have c11_rel_1 : w11.cell? ⟨w6.heap.size, 1, none⟩ = some (.int .i64 rd) := (hd11 _ _ q_rel).trans c10_rel_1
    have c11_rel_2 : w11.cell? ⟨w6.heap.size, 2, none⟩ = some (.int .i64 rs) := (hd11 _ _ q_rel).trans c10_rel_2
    have c11_model_0 : w11.cell? ⟨w7.heap.size, 0, none⟩ = some (.int .i64 rn) := (hd11 _ _ q_model).trans c10_model_0
    have c11_model_1 : w11.cell? ⟨w7.heap.size, 1, none⟩ = some (.int .i64 rd) := (hd11 _ _ q_model).trans c10_model_1
    have c11_model_2 : w11.cell? ⟨w7.heap.size, 2, none⟩ = some (.int .i64 rs) := (hd11 _ _ q_model).trans c10_model_2
    replace q_a : w1.heap.size < w11.heap.size := by omega
    replace q_b : w1.heap.size + 1 < w11.heap.size := by omega
    replace q_by : w1.heap.size + 1 + 1 < w11.heap.size := by omega
    replace q_ahead : w4.heap.size < w11.heap.size := by omega
    replace q_want : w5.heap.size < w11.heap.size := by omega
    replace q_rel : w6.heap.size < w11.heap.size := by omega
    replace q_model : w7.heap.size < w11.heap.size := by omega
    have R11_lt := Lib.hid (TRow.below R10_lt.out B11)
    clear R10_lt
    have R11_right := Lib.hid (TRow.below R10_right.out B11)
    clear R10_right
    have R11_lo := Lib.hid (TRow.below R10_lo.out B11)
    clear R10_lo
    have R11_value := Lib.hid (TRow.below R10_value.out B11)
    clear R10_value
    have BW11 : Below w.heap.size w w11 := BW10.trans (B11.mono BW10.size)
    clear hc11 hf11 hb11 hd11 B11 c10_a_0 c10_a_1 c10_a_2 c10_b_0 c10_b_1 c10_b_2 c10_by_0 c10_by_1 c10_ahead_0 c10_ahead_1 c10_want_0 c10_want_1 c10_rel_0 c10_rel_1 c10_rel_2 c10_model_0 c10_model_1 c10_model_2 BW10
    go_upto_if 164 with fail
    go_cut [] from 999 to 999 (fun wx => Below w11.heap.size w11 wx)
    case first =>
      as_aux_lemma =>
        cases ok
        · go_wp2_with fail
          go_meet
          case rel => exact Below.refl _ _
        · obtain ⟨-, hsp, hl, hr, -, -, hall, -⟩ := F1.out rfl
          have HR := Lib.hid hr
          have HA := Lib.hid hall
          have hw : IntKind.i64.wrap (s0 - s1) = s0 - s1 := by rw [IntKind.wrap_i64]; omega
          have hne : ((LT.length : Int) != (if s0 - s1 < 0 then -(s0 - s1) else s0 - s1)) = false := by rw [hl]; simp
          have hlen : (LT.length : Int) ≤ 800 := by rw [hl]; split <;> omega
          clear hl hr hall
          generalize hif : (if s0 - s1 < 0 then -(s0 - s1) else s0 - s1 : Int) = av at hne
          have HKA := Lib.hid (fun W => (show Calls Try.prog 20 #[.int .i64 (s0 - s1)] W fun e w' => e = .returned (.int .i64 av) ∧ Below W.heap.size W w' from by have := kAbs_any (s0 - s1) (by omega) W; rw [hif] at this; exact this))
          clear hif
          go_wp2_with fail
          refine (HKA.out _).mono ?_
          rintro e12 w12 ⟨rfl, hb12⟩
          obtain ⟨hc12, hf12⟩ := bcell hb12
          have hz12 := hb12.size
          (try simp only [World.size_alloc, World.size_setCell, World.size_drew] at hz12)
          have B12 : Below w11.heap.size w11 w12 := Below.trans (b := _) (by (repeat' (first | (with_reducible exact Below.refl _ _) | (with_reducible assumption) | (with_reducible refine Below.alloc ?_ ?_ _) | (with_reducible refine Below.drew ?_) | (with_reducible refine below_drewN ?_ _) | (with_reducible refine Below.setCell ?_ ?_ _) | (with_reducible refine below_call ?_ ?_ (by assumption)) | go_size))) (hb12.mono (by first | omega | (simp only [World.size_alloc, World.size_setCell, World.size_drew]; omega)))
          obtain ⟨hd12, -⟩ := bcell B12
          have c12_a_0 : w12.cell? ⟨w1.heap.size, 0, none⟩ = some (.int .i64 n0) := (hd12 _ _ q_a).trans c11_a_0
          have c12_a_1 : w12.cell? ⟨w1.heap.size, 1, none⟩ = some (.int .i64 d0) := (hd12 _ _ q_a).trans c11_a_1
          have c12_a_2 : w12.cell? ⟨w1.heap.size, 2, none⟩ = some (.int .i64 s0) := (hd12 _ _ q_a).trans c11_a_2
          have c12_b_0 : w12.cell? ⟨w1.heap.size + 1, 0, none⟩ = some (.int .i64 n1) := (hd12 _ _ q_b).trans c11_b_0
          have c12_b_1 : w12.cell? ⟨w1.heap.size + 1, 1, none⟩ = some (.int .i64 d1) := (hd12 _ _ q_b).trans c11_b_1
          have c12_b_2 : w12.cell? ⟨w1.heap.size + 1, 2, none⟩ = some (.int .i64 s1) := (hd12 _ _ q_b).trans c11_b_2
          have c12_by_0 : w12.cell? ⟨w1.heap.size + 1 + 1, 0, none⟩ = some (.int .i64 n2) := (hd12 _ _ q_by).trans c11_by_0
          have c12_by_1 : w12.cell? ⟨w1.heap.size + 1 + 1, 1, none⟩ = some (.int .i64 d2) := (hd12 _ _ q_by).trans c11_by_1
          have c12_ahead_0 : w12.cell? ⟨w4.heap.size, 0, none⟩ = some (.int .i64 hn) := (hd12 _ _ q_ahead).trans c11_ahead_0
          have c12_ahead_1 : w12.cell? ⟨w4.heap.size, 1, none⟩ = some (.int .i64 hd) := (hd12 _ _ q_ahead).trans c11_ahead_1
          have c12_want_0 : w12.cell? ⟨w5.heap.size, 0, none⟩ = some (.int .i64 hn) := (hd12 _ _ q_want).trans c11_want_0
          have c12_want_1 : w12.cell? ⟨w5.heap.size, 1, none⟩ = some (.int .i64 hd) := (hd12 _ _ q_want).trans c11_want_1
          have c12_rel_0 : w12.cell? ⟨w6.heap.size, 0, none⟩ = some (.int .i64 rn) := (hd12 _ _ q_rel).trans c11_rel_0
          have c12_rel_1 : w12.cell? ⟨w6.heap.size, 1, none⟩ = some (.int .i64 rd) := (hd12 _ _ q_rel).trans c11_rel_1
          have c12_rel_2 : w12.cell? ⟨w6.heap.size, 2, none⟩ = some (.int .i64 rs) := (hd12 _ _ q_rel).trans c11_rel_2
          have c12_model_0 : w12.cell? ⟨w7.heap.size, 0, none⟩ = some (.int .i64 rn) := (hd12 _ _ q_model).trans c11_model_0
          have c12_model_1 : w12.cell? ⟨w7.heap.size, 1, none⟩ = some (.int .i64 rd) := (hd12 _ _ q_model).trans c11_model_1
          have c12_model_2 : w12.cell? ⟨w7.heap.size, 2, none⟩ = some (.int .i64 rs) := (hd12 _ _ q_model).trans c11_model_2
          replace q_a : w1.heap.size < w12.heap.size := by omega
          replace q_b : w1.heap.size + 1 < w12.heap.size := by omega
          replace q_by : w1.heap.size + 1 + 1 < w12.heap.size := by omega
          replace q_ahead : w4.heap.size < w12.heap.size := by omega
          replace q_want : w5.heap.size < w12.heap.size := by omega
          replace q_rel : w6.heap.size < w12.heap.size := by omega
          replace q_model : w7.heap.size < w12.heap.size := by omega
          have R12_lt := Lib.hid (TRow.below R11_lt.out B12)
          clear R11_lt
          have R12_right := Lib.hid (TRow.below R11_right.out B12)
          clear R11_right
          have R12_lo := Lib.hid (TRow.below R11_lo.out B12)
          clear R11_lo
          have R12_value := Lib.hid (TRow.below R11_value.out B12)
          clear R11_value
          have BW12 : Below w.heap.size w w12 := BW11.trans (B12.mono BW11.size)
          have BX12 : Below w11.heap.size w11 w12 := B12
          clear hc12 hf12 hb12 hd12 B12 c11_a_0 c11_a_1 c11_a_2 c11_b_0 c11_b_1 c11_b_2 c11_by_0 c11_by_1 c11_ahead_0 c11_ahead_1 c11_want_0 c11_want_1 c11_rel_0 c11_rel_1 c11_rel_2 c11_model_0 c11_model_1 c11_model_2 BW11
          go_wp2_with fail
          refine (kRises_yes LT _ _ _ R12_lt.out HLT.out HR.out).mono ?_
          rintro e13 w13 ⟨rfl, hb13⟩
          obtain ⟨hc13, hf13⟩ := bcell hb13
          have hz13 := hb13.size
          (try simp only [World.size_alloc, World.size_setCell, World.size_drew] at hz13)
          have B13 : Below w12.heap.size w12 w13 := Below.trans (b := _) (by (repeat' (first | (with_reducible exact Below.refl _ _) | (with_reducible assumption) | (with_reducible refine Below.alloc ?_ ?_ _) | (with_reducible refine Below.drew ?_) | (with_reducible refine below_drewN ?_ _) | (with_reducible refine Below.setCell ?_ ?_ _) | (with_reducible refine below_call ?_ ?_ (by assumption)) | go_size))) (hb13.mono (by first | omega | (simp only [World.size_alloc, World.size_setCell, World.size_drew]; omega)))
          obtain ⟨hd13, -⟩ := bcell B13
          have c13_a_0 : w13.cell? ⟨w1.heap.size, 0, none⟩ = some (.int .i64 n0) := (hd13 _ _ q_a).trans c12_a_0
          have c13_a_1 : w13.cell? ⟨w1.heap.size, 1, none⟩ = some (.int .i64 d0) := (hd13 _ _ q_a).trans c12_a_1
          have c13_a_2 : w13.cell? ⟨w1.heap.size, 2, none⟩ = some (.int .i64 s0) := (hd13 _ _ q_a).trans c12_a_2
          have c13_b_0 : w13.cell? ⟨w1.heap.size + 1, 0, none⟩ = some (.int .i64 n1) := (hd13 _ _ q_b).trans c12_b_0
          have c13_b_1 : w13.cell? ⟨w1.heap.size + 1, 1, none⟩ = some (.int .i64 d1) := (hd13 _ _ q_b).trans c12_b_1
          have c13_b_2 : w13.cell? ⟨w1.heap.size + 1, 2, none⟩ = some (.int .i64 s1) := (hd13 _ _ q_b).trans c12_b_2
          have c13_by_0 : w13.cell? ⟨w1.heap.size + 1 + 1, 0, none⟩ = some (.int .i64 n2) := (hd13 _ _ q_by).trans c12_by_0
          have c13_by_1 : w13.cell? ⟨w1.heap.size + 1 + 1, 1, none⟩ = some (.int .i64 d2) := (hd13 _ _ q_by).trans c12_by_1
          have c13_ahead_0 : w13.cell? ⟨w4.heap.size, 0, none⟩ = some (.int .i64 hn) := (hd13 _ _ q_ahead).trans c12_ahead_0
          have c13_ahead_1 : w13.cell? ⟨w4.heap.size, 1, none⟩ = some (.int .i64 hd) := (hd13 _ _ q_ahead).trans c12_ahead_1
          have c13_want_0 : w13.cell? ⟨w5.heap.size, 0, none⟩ = some (.int .i64 hn) := (hd13 _ _ q_want).trans c12_want_0
          have c13_want_1 : w13.cell? ⟨w5.heap.size, 1, none⟩ = some (.int .i64 hd) := (hd13 _ _ q_want).trans c12_want_1
          have c13_rel_0 : w13.cell? ⟨w6.heap.size, 0, none⟩ = some (.int .i64 rn) := (hd13 _ _ q_rel).trans c12_rel_0
          have c13_rel_1 : w13.cell? ⟨w6.heap.size, 1, none⟩ = some (.int .i64 rd) := (hd13 _ _ q_rel).trans c12_rel_1
          have c13_rel_2 : w13.cell? ⟨w6.heap.size, 2, none⟩ = some (.int .i64 rs) := (hd13 _ _ q_rel).trans c12_rel_2
          have c13_model_0 : w13.cell? ⟨w7.heap.size, 0, none⟩ = some (.int .i64 rn) := (hd13 _ _ q_model).trans c12_model_0
          have c13_model_1 : w13.cell? ⟨w7.heap.size, 1, none⟩ = some (.int .i64 rd) := (hd13 _ _ q_model).trans c12_model_1
          have c13_model_2 : w13.cell? ⟨w7.heap.size, 2, none⟩ = some (.int .i64 rs) := (hd13 _ _ q_model).trans c12_model_2
          replace q_a : w1.heap.size < w13.heap.size := by omega
          replace q_b : w1.heap.size + 1 < w13.heap.size := by omega
          replace q_by : w1.heap.size + 1 + 1 < w13.heap.size := by omega
          replace q_ahead : w4.heap.size < w13.heap.size := by omega
          replace q_want : w5.heap.size < w13.heap.size := by omega
          replace q_rel : w6.heap.size < w13.heap.size := by omega
          replace q_model : w7.heap.size < w13.heap.size := by omega
          have R13_lt := Lib.hid (TRow.below R12_lt.out B13)
          clear R12_lt
          have R13_right := Lib.hid (TRow.below R12_right.out B13)
          clear R12_right
          have R13_lo := Lib.hid (TRow.below R12_lo.out B13)
          clear R12_lo
          have R13_value := Lib.hid (TRow.below R12_value.out B13)
          clear R12_value
          have BW13 : Below w.heap.size w w13 := BW12.trans (B13.mono BW12.size)
          have BX13 : Below w11.heap.size w11 w13 := BX12.trans (B13.mono BX12.size)
          clear BX12
          clear hc13 hf13 hb13 hd13 B13 c12_a_0 c12_a_1 c12_a_2 c12_b_0 c12_b_1 c12_b_2 c12_by_0 c12_by_1 c12_ahead_0 c12_ahead_1 c12_want_0 c12_want_1 c12_rel_0 c12_rel_1 c12_rel_2 c12_model_0 c12_model_1 c12_model_2 BW12
          go_wp2_with fail
          go_loopw [181] (fun i wr => ∃ k : Nat, k ≤ LT.length ∧ i = .int .i64 (k : Int) ∧ Below w13.heap.size w13 wr) (fun i _ => LT.length - (RowKit.intOf i).toNat)
          case atStart => exact ⟨0, Nat.zero_le _, rfl, Below.refl _ _⟩
          case round =>
            obtain ⟨k, hk, rfl, hb14⟩ := hrel
            obtain ⟨w14, hw14⟩ : ∃ x : World, x = wr := ⟨_, rfl⟩
            subst hw14
            have hb14' := hb14
            obtain ⟨hc14, hf14⟩ := bcell hb14
            have hz14 := hb14.size
            (try simp only [World.size_alloc, World.size_setCell, World.size_drew] at hz14)
            have B14 : Below w13.heap.size w13 w14 := Below.trans (b := _) (by (repeat' (first | (with_reducible exact Below.refl _ _) | (with_reducible assumption) | (with_reducible refine Below.alloc ?_ ?_ _) | (with_reducible refine Below.drew ?_) | (with_reducible refine below_drewN ?_ _) | (with_reducible refine Below.setCell ?_ ?_ _) | (with_reducible refine below_call ?_ ?_ (by assumption)) | go_size))) (hb14.mono (by first | omega | (simp only [World.size_alloc, World.size_setCell, World.size_drew]; omega)))
            obtain ⟨hd14, -⟩ := bcell B14
            have c14_a_0 : w14.cell? ⟨w1.heap.size, 0, none⟩ = some (.int .i64 n0) := (hd14 _ _ q_a).trans c13_a_0
            have c14_a_1 : w14.cell? ⟨w1.heap.size, 1, none⟩ = some (.int .i64 d0) := (hd14 _ _ q_a).trans c13_a_1
            have c14_a_2 : w14.cell? ⟨w1.heap.size, 2, none⟩ = some (.int .i64 s0) := (hd14 _ _ q_a).trans c13_a_2
            have c14_b_0 : w14.cell? ⟨w1.heap.size + 1, 0, none⟩ = some (.int .i64 n1) := (hd14 _ _ q_b).trans c13_b_0
            have c14_b_1 : w14.cell? ⟨w1.heap.size + 1, 1, none⟩ = some (.int .i64 d1) := (hd14 _ _ q_b).trans c13_b_1
            have c14_b_2 : w14.cell? ⟨w1.heap.size + 1, 2, none⟩ = some (.int .i64 s1) := (hd14 _ _ q_b).trans c13_b_2
            have c14_by_0 : w14.cell? ⟨w1.heap.size + 1 + 1, 0, none⟩ = some (.int .i64 n2) := (hd14 _ _ q_by).trans c13_by_0
            have c14_by_1 : w14.cell? ⟨w1.heap.size + 1 + 1, 1, none⟩ = some (.int .i64 d2) := (hd14 _ _ q_by).trans c13_by_1
            have c14_ahead_0 : w14.cell? ⟨w4.heap.size, 0, none⟩ = some (.int .i64 hn) := (hd14 _ _ q_ahead).trans c13_ahead_0
            have c14_ahead_1 : w14.cell? ⟨w4.heap.size, 1, none⟩ = some (.int .i64 hd) := (hd14 _ _ q_ahead).trans c13_ahead_1
            have c14_want_0 : w14.cell? ⟨w5.heap.size, 0, none⟩ = some (.int .i64 hn) := (hd14 _ _ q_want).trans c13_want_0
            have c14_want_1 : w14.cell? ⟨w5.heap.size, 1, none⟩ = some (.int .i64 hd) := (hd14 _ _ q_want).trans c13_want_1
            have c14_rel_0 : w14.cell? ⟨w6.heap.size, 0, none⟩ = some (.int .i64 rn) := (hd14 _ _ q_rel).trans c13_rel_0
            have c14_rel_1 : w14.cell? ⟨w6.heap.size, 1, none⟩ = some (.int .i64 rd) := (hd14 _ _ q_rel).trans c13_rel_1
            have c14_rel_2 : w14.cell? ⟨w6.heap.size, 2, none⟩ = some (.int .i64 rs) := (hd14 _ _ q_rel).trans c13_rel_2
            have c14_model_0 : w14.cell? ⟨w7.heap.size, 0, none⟩ = some (.int .i64 rn) := (hd14 _ _ q_model).trans c13_model_0
            have c14_model_1 : w14.cell? ⟨w7.heap.size, 1, none⟩ = some (.int .i64 rd) := (hd14 _ _ q_model).trans c13_model_1
            have c14_model_2 : w14.cell? ⟨w7.heap.size, 2, none⟩ = some (.int .i64 rs) := (hd14 _ _ q_model).trans c13_model_2
            replace q_a : w1.heap.size < w14.heap.size := by omega
            replace q_b : w1.heap.size + 1 < w14.heap.size := by omega
            replace q_by : w1.heap.size + 1 + 1 < w14.heap.size := by omega
            replace q_ahead : w4.heap.size < w14.heap.size := by omega
            replace q_want : w5.heap.size < w14.heap.size := by omega
            replace q_rel : w6.heap.size < w14.heap.size := by omega
            replace q_model : w7.heap.size < w14.heap.size := by omega
            have R14_lt := Lib.hid (TRow.below R13_lt.out B14)
            clear R13_lt
            have R14_right := Lib.hid (TRow.below R13_right.out B14)
            clear R13_right
            have R14_lo := Lib.hid (TRow.below R13_lo.out B14)
            clear R13_lo
            have R14_value := Lib.hid (TRow.below R13_value.out B14)
            clear R13_value
            have BW14 : Below w.heap.size w w14 := BW13.trans (B14.mono BW13.size)
            have BX14 : Below w11.heap.size w11 w14 := BX13.trans (B14.mono BX13.size)
            clear BX13
            clear hc14 hf14 hb14 hd14 B14 c13_a_0 c13_a_1 c13_a_2 c13_b_0 c13_b_1 c13_b_2 c13_by_0 c13_by_1 c13_ahead_0 c13_ahead_1 c13_want_0 c13_want_1 c13_rel_0 c13_rel_1 c13_rel_2 c13_model_0 c13_model_1 c13_model_2 BW13
            have i0 : (0 : Int) ≤ (k : Int) := Int.natCast_nonneg _
            by_cases hlt : k < LT.length
            · have i1 : (k : Int) < (LT.length : Int) := by omega
              have hmem : LT.getD k (0, 0) ∈ LT := by rw [List.getD_eq_getElem?_getD, List.getElem?_eq_getElem hlt]; exact List.getElem_mem hlt
              have ha := HA.out _ hmem
              obtain ⟨pa, pc, hpv, hl1, hl2, hcell⟩ := TRow.cells R14_lt.out
              simp only [Value.slice.injEq] at hpv
              obtain ⟨hp1, -, hp2⟩ := hpv
              subst hp1
              subst hp2
              obtain ⟨ga, rfl, u1, u2a, u3a, u4a⟩ := hcell k (by omega)
              clear hcell hl1 hl2 u1
              clear hmem
              generalize LT.getD k (0, 0) = x at *
              obtain ⟨p1, p2⟩ := x
              simp only at u3a u4a ha
              have Z1 := Lib.hid (fun W => (show Calls Try.prog 30 #[hv n0 d0 s0, hv n1 d1 s1, tv p1 p2] W fun e w' => e = .returned (rv (n2, d2, true)) ∧ Below W.heap.size W w' from by have := implAheadAt_any n0 d0 s0 n1 d1 s1 p1 p2 W; rw [ha] at this; exact this))
              clear ha
              go_wp2_with fail
              refine (Z1.out _).mono ?_
              rintro e15 w15 ⟨rfl, hb15⟩
              obtain ⟨hc15, hf15⟩ := bcell hb15
              have hz15 := hb15.size
              (try simp only [World.size_alloc, World.size_setCell, World.size_drew] at hz15)
              have B15 : Below w14.heap.size w14 w15 := Below.trans (b := _) (by (repeat' (first | (with_reducible exact Below.refl _ _) | (with_reducible assumption) | (with_reducible refine Below.alloc ?_ ?_ _) | (with_reducible refine Below.drew ?_) | (with_reducible refine below_drewN ?_ _) | (with_reducible refine Below.setCell ?_ ?_ _) | (with_reducible refine below_call ?_ ?_ (by assumption)) | go_size))) (hb15.mono (by first | omega | (simp only [World.size_alloc, World.size_setCell, World.size_drew]; omega)))
              obtain ⟨hd15, -⟩ := bcell B15
              have c15_a_0 : w15.cell? ⟨w1.heap.size, 0, none⟩ = some (.int .i64 n0) := (hd15 _ _ q_a).trans c14_a_0
              have c15_a_1 : w15.cell? ⟨w1.heap.size, 1, none⟩ = some (.int .i64 d0) := (hd15 _ _ q_a).trans c14_a_1
              have c15_a_2 : w15.cell? ⟨w1.heap.size, 2, none⟩ = some (.int .i64 s0) := (hd15 _ _ q_a).trans c14_a_2
              have c15_b_0 : w15.cell? ⟨w1.heap.size + 1, 0, none⟩ = some (.int .i64 n1) := (hd15 _ _ q_b).trans c14_b_0
              have c15_b_1 : w15.cell? ⟨w1.heap.size + 1, 1, none⟩ = some (.int .i64 d1) := (hd15 _ _ q_b).trans c14_b_1
              have c15_b_2 : w15.cell? ⟨w1.heap.size + 1, 2, none⟩ = some (.int .i64 s1) := (hd15 _ _ q_b).trans c14_b_2
              have c15_by_0 : w15.cell? ⟨w1.heap.size + 1 + 1, 0, none⟩ = some (.int .i64 n2) := (hd15 _ _ q_by).trans c14_by_0
              have c15_by_1 : w15.cell? ⟨w1.heap.size + 1 + 1, 1, none⟩ = some (.int .i64 d2) := (hd15 _ _ q_by).trans c14_by_1
              have c15_ahead_0 : w15.cell? ⟨w4.heap.size, 0, none⟩ = some (.int .i64 hn) := (hd15 _ _ q_ahead).trans c14_ahead_0
              have c15_ahead_1 : w15.cell? ⟨w4.heap.size, 1, none⟩ = some (.int .i64 hd) := (hd15 _ _ q_ahead).trans c14_ahead_1
              have c15_want_0 : w15.cell? ⟨w5.heap.size, 0, none⟩ = some (.int .i64 hn) := (hd15 _ _ q_want).trans c14_want_0
              have c15_want_1 : w15.cell? ⟨w5.heap.size, 1, none⟩ = some (.int .i64 hd) := (hd15 _ _ q_want).trans c14_want_1
              have c15_rel_0 : w15.cell? ⟨w6.heap.size, 0, none⟩ = some (.int .i64 rn) := (hd15 _ _ q_rel).trans c14_rel_0
              have c15_rel_1 : w15.cell? ⟨w6.heap.size, 1, none⟩ = some (.int .i64 rd) := (hd15 _ _ q_rel).trans c14_rel_1
              have c15_rel_2 : w15.cell? ⟨w6.heap.size, 2, none⟩ = some (.int .i64 rs) := (hd15 _ _ q_rel).trans c14_rel_2
              have c15_model_0 : w15.cell? ⟨w7.heap.size, 0, none⟩ = some (.int .i64 rn) := (hd15 _ _ q_model).trans c14_model_0
              have c15_model_1 : w15.cell? ⟨w7.heap.size, 1, none⟩ = some (.int .i64 rd) := (hd15 _ _ q_model).trans c14_model_1
              have c15_model_2 : w15.cell? ⟨w7.heap.size, 2, none⟩ = some (.int .i64 rs) := (hd15 _ _ q_model).trans c14_model_2
              replace q_a : w1.heap.size < w15.heap.size := by omega
              replace q_b : w1.heap.size + 1 < w15.heap.size := by omega
              replace q_by : w1.heap.size + 1 + 1 < w15.heap.size := by omega
              replace q_ahead : w4.heap.size < w15.heap.size := by omega
              replace q_want : w5.heap.size < w15.heap.size := by omega
              replace q_rel : w6.heap.size < w15.heap.size := by omega
              replace q_model : w7.heap.size < w15.heap.size := by omega
              have c15_x_0 : w15.cell? ⟨w14.heap.size, 0, none⟩ = some (.int .i64 p1) := (hc15 _ _ (by go_size)).trans (by go_simp)
              have c15_x_1 : w15.cell? ⟨w14.heap.size, 1, none⟩ = some (.int .i64 p2) := (hc15 _ _ (by go_size)).trans (by go_simp)
              have q_x : w14.heap.size < w15.heap.size := by omega
              have R15_lt := Lib.hid (TRow.below R14_lt.out B15)
              clear R14_lt
              have R15_right := Lib.hid (TRow.below R14_right.out B15)
              clear R14_right
              have R15_lo := Lib.hid (TRow.below R14_lo.out B15)
              clear R14_lo
              have R15_value := Lib.hid (TRow.below R14_value.out B15)
              clear R14_value
              have BW15 : Below w.heap.size w w15 := BW14.trans (B15.mono BW14.size)
              have BX15 : Below w14.heap.size w14 w15 := B15
              clear hc15 hf15 hb15 hd15 B15 c14_a_0 c14_a_1 c14_a_2 c14_b_0 c14_b_1 c14_b_2 c14_by_0 c14_by_1 c14_ahead_0 c14_ahead_1 c14_want_0 c14_want_1 c14_rel_0 c14_rel_1 c14_rel_2 c14_model_0 c14_model_1 c14_model_2 BW14
              go_upto_region 21 with fail
              have hb16 : Below w15.heap.size w15 (w15.alloc (Obj.cells #[.int .i64 n2, .int .i64 d2] 25)) := by (repeat' (first | (with_reducible exact Below.refl _ _) | (with_reducible assumption) | (with_reducible refine Below.alloc ?_ ?_ _) | (with_reducible refine Below.drew ?_) | (with_reducible refine below_drewN ?_ _) | (with_reducible refine Below.setCell ?_ ?_ _) | (with_reducible refine below_call ?_ ?_ (by assumption)) | go_size))
              have c16_own_0 : (w15.alloc (Obj.cells #[.int .i64 n2, .int .i64 d2] 25)).cell? ⟨w15.heap.size, 0, none⟩ = some (.int .i64 n2) := by go_simp
              have c16_own_1 : (w15.alloc (Obj.cells #[.int .i64 n2, .int .i64 d2] 25)).cell? ⟨w15.heap.size, 1, none⟩ = some (.int .i64 d2) := by go_simp
              have q_own : w15.heap.size < (w15.alloc (Obj.cells #[.int .i64 n2, .int .i64 d2] 25)).heap.size := by go_size
              generalize (w15.alloc (Obj.cells #[.int .i64 n2, .int .i64 d2] 25)) = w16 at *
              obtain ⟨hd16, -⟩ := bcell hb16
              have hz16 := hb16.size
              have c16_a_0 : w16.cell? ⟨w1.heap.size, 0, none⟩ = some (.int .i64 n0) := (hd16 _ _ q_a).trans c15_a_0
              have c16_a_1 : w16.cell? ⟨w1.heap.size, 1, none⟩ = some (.int .i64 d0) := (hd16 _ _ q_a).trans c15_a_1
              have c16_a_2 : w16.cell? ⟨w1.heap.size, 2, none⟩ = some (.int .i64 s0) := (hd16 _ _ q_a).trans c15_a_2
              have c16_b_0 : w16.cell? ⟨w1.heap.size + 1, 0, none⟩ = some (.int .i64 n1) := (hd16 _ _ q_b).trans c15_b_0
              have c16_b_1 : w16.cell? ⟨w1.heap.size + 1, 1, none⟩ = some (.int .i64 d1) := (hd16 _ _ q_b).trans c15_b_1
              have c16_b_2 : w16.cell? ⟨w1.heap.size + 1, 2, none⟩ = some (.int .i64 s1) := (hd16 _ _ q_b).trans c15_b_2
              have c16_by_0 : w16.cell? ⟨w1.heap.size + 1 + 1, 0, none⟩ = some (.int .i64 n2) := (hd16 _ _ q_by).trans c15_by_0
              have c16_by_1 : w16.cell? ⟨w1.heap.size + 1 + 1, 1, none⟩ = some (.int .i64 d2) := (hd16 _ _ q_by).trans c15_by_1
              have c16_ahead_0 : w16.cell? ⟨w4.heap.size, 0, none⟩ = some (.int .i64 hn) := (hd16 _ _ q_ahead).trans c15_ahead_0
              have c16_ahead_1 : w16.cell? ⟨w4.heap.size, 1, none⟩ = some (.int .i64 hd) := (hd16 _ _ q_ahead).trans c15_ahead_1
              have c16_want_0 : w16.cell? ⟨w5.heap.size, 0, none⟩ = some (.int .i64 hn) := (hd16 _ _ q_want).trans c15_want_0
              have c16_want_1 : w16.cell? ⟨w5.heap.size, 1, none⟩ = some (.int .i64 hd) := (hd16 _ _ q_want).trans c15_want_1
              have c16_rel_0 : w16.cell? ⟨w6.heap.size, 0, none⟩ = some (.int .i64 rn) := (hd16 _ _ q_rel).trans c15_rel_0
              have c16_rel_1 : w16.cell? ⟨w6.heap.size, 1, none⟩ = some (.int .i64 rd) := (hd16 _ _ q_rel).trans c15_rel_1
              have c16_rel_2 : w16.cell? ⟨w6.heap.size, 2, none⟩ = some (.int .i64 rs) := (hd16 _ _ q_rel).trans c15_rel_2
              have c16_model_0 : w16.cell? ⟨w7.heap.size, 0, none⟩ = some (.int .i64 rn) := (hd16 _ _ q_model).trans c15_model_0
              have c16_model_1 : w16.cell? ⟨w7.heap.size, 1, none⟩ = some (.int .i64 rd) := (hd16 _ _ q_model).trans c15_model_1
              have c16_model_2 : w16.cell? ⟨w7.heap.size, 2, none⟩ = some (.int .i64 rs) := (hd16 _ _ q_model).trans c15_model_2
              have c16_x_0 : w16.cell? ⟨w14.heap.size, 0, none⟩ = some (.int .i64 p1) := (hd16 _ _ q_x).trans c15_x_0
              have c16_x_1 : w16.cell? ⟨w14.heap.size, 1, none⟩ = some (.int .i64 p2) := (hd16 _ _ q_x).trans c15_x_1
              replace q_a : w1.heap.size < w16.heap.size := by omega
              replace q_b : w1.heap.size + 1 < w16.heap.size := by omega
              replace q_by : w1.heap.size + 1 + 1 < w16.heap.size := by omega
              replace q_ahead : w4.heap.size < w16.heap.size := by omega
              replace q_want : w5.heap.size < w16.heap.size := by omega
              replace q_rel : w6.heap.size < w16.heap.size := by omega
              replace q_model : w7.heap.size < w16.heap.size := by omega
              replace q_x : w14.heap.size < w16.heap.size := by omega
              have R16_lt := Lib.hid (TRow.below R15_lt.out hb16)
              clear R15_lt
              have R16_right := Lib.hid (TRow.below R15_right.out hb16)
              clear R15_right
              have R16_lo := Lib.hid (TRow.below R15_lo.out hb16)
              clear R15_lo
              have R16_value := Lib.hid (TRow.below R15_value.out hb16)
              clear R15_value
              have BW16 : Below w.heap.size w w16 := BW15.trans (hb16.mono BW15.size)
              have BX16 : Below w14.heap.size w14 w16 := BX15.trans (hb16.mono BX15.size)
              clear BX15
              clear hb16 hd16 c15_a_0 c15_a_1 c15_a_2 c15_b_0 c15_b_1 c15_b_2 c15_by_0 c15_by_1 c15_ahead_0 c15_ahead_1 c15_want_0 c15_want_1 c15_rel_0 c15_rel_1 c15_rel_2 c15_model_0 c15_model_1 c15_model_2 c15_x_0 c15_x_1 BW15
              go_wp2_with fail
              go_roundw
              case rel => exact ⟨k + 1, by omega, by go_num, hb14'.trans (BX16.mono hb14'.size)⟩
              case measure => simp [RowKit.intOf]; omega
            have hrelB := BX14
            go_wp2_with fail
            go_meet
            case rel => exact hrelB
    case rest =>
      have hb12 := hcut
      obtain ⟨w12, hw12⟩ : ∃ x : World, x = wc := ⟨_, rfl⟩
      subst hw12
      obtain ⟨hc12, hf12⟩ := bcell hb12
      have hz12 := hb12.size
      (try simp only [World.size_alloc, World.size_setCell, World.size_drew] at hz12)
      have B12 : Below w11.heap.size w11 w12 := Below.trans (b := _) (by (repeat' (first | (with_reducible exact Below.refl _ _) | (with_reducible assumption) | (with_reducible refine Below.alloc ?_ ?_ _) | (with_reducible refine Below.drew ?_) | (with_reducible refine below_drewN ?_ _) | (with_reducible refine Below.setCell ?_ ?_ _) | (with_reducible refine below_call ?_ ?_ (by assumption)) | go_size))) (hb12.mono (by first | omega | (simp only [World.size_alloc, World.size_setCell, World.size_drew]; omega)))
      obtain ⟨hd12, -⟩ := bcell B12
      have c12_a_0 : w12.cell? ⟨w1.heap.size, 0, none⟩ = some (.int .i64 n0) := (hd12 _ _ q_a).trans c11_a_0
      have c12_a_1 : w12.cell? ⟨w1.heap.size, 1, none⟩ = some (.int .i64 d0) := (hd12 _ _ q_a).trans c11_a_1
      have c12_a_2 : w12.cell? ⟨w1.heap.size, 2, none⟩ = some (.int .i64 s0) := (hd12 _ _ q_a).trans c11_a_2
      have c12_b_0 : w12.cell? ⟨w1.heap.size + 1, 0, none⟩ = some (.int .i64 n1) := (hd12 _ _ q_b).trans c11_b_0
      have c12_b_1 : w12.cell? ⟨w1.heap.size + 1, 1, none⟩ = some (.int .i64 d1) := (hd12 _ _ q_b).trans c11_b_1
      have c12_b_2 : w12.cell? ⟨w1.heap.size + 1, 2, none⟩ = some (.int .i64 s1) := (hd12 _ _ q_b).trans c11_b_2
      have c12_by_0 : w12.cell? ⟨w1.heap.size + 1 + 1, 0, none⟩ = some (.int .i64 n2) := (hd12 _ _ q_by).trans c11_by_0
      have c12_by_1 : w12.cell? ⟨w1.heap.size + 1 + 1, 1, none⟩ = some (.int .i64 d2) := (hd12 _ _ q_by).trans c11_by_1
      have c12_ahead_0 : w12.cell? ⟨w4.heap.size, 0, none⟩ = some (.int .i64 hn) := (hd12 _ _ q_ahead).trans c11_ahead_0
      have c12_ahead_1 : w12.cell? ⟨w4.heap.size, 1, none⟩ = some (.int .i64 hd) := (hd12 _ _ q_ahead).trans c11_ahead_1
      have c12_want_0 : w12.cell? ⟨w5.heap.size, 0, none⟩ = some (.int .i64 hn) := (hd12 _ _ q_want).trans c11_want_0
      have c12_want_1 : w12.cell? ⟨w5.heap.size, 1, none⟩ = some (.int .i64 hd) := (hd12 _ _ q_want).trans c11_want_1
      have c12_rel_0 : w12.cell? ⟨w6.heap.size, 0, none⟩ = some (.int .i64 rn) := (hd12 _ _ q_rel).trans c11_rel_0
      have c12_rel_1 : w12.cell? ⟨w6.heap.size, 1, none⟩ = some (.int .i64 rd) := (hd12 _ _ q_rel).trans c11_rel_1
      have c12_rel_2 : w12.cell? ⟨w6.heap.size, 2, none⟩ = some (.int .i64 rs) := (hd12 _ _ q_rel).trans c11_rel_2
      have c12_model_0 : w12.cell? ⟨w7.heap.size, 0, none⟩ = some (.int .i64 rn) := (hd12 _ _ q_model).trans c11_model_0
      have c12_model_1 : w12.cell? ⟨w7.heap.size, 1, none⟩ = some (.int .i64 rd) := (hd12 _ _ q_model).trans c11_model_1
      have c12_model_2 : w12.cell? ⟨w7.heap.size, 2, none⟩ = some (.int .i64 rs) := (hd12 _ _ q_model).trans c11_model_2
      replace q_a : w1.heap.size < w12.heap.size := by omega
      replace q_b : w1.heap.size + 1 < w12.heap.size := by omega
      replace q_by : w1.heap.size + 1 + 1 < w12.heap.size := by omega
      replace q_ahead : w4.heap.size < w12.heap.size := by omega
      replace q_want : w5.heap.size < w12.heap.size := by omega
      replace q_rel : w6.heap.size < w12.heap.size := by omega
      replace q_model : w7.heap.size < w12.heap.size := by omega
      have R12_lt := Lib.hid (TRow.below R11_lt.out B12)
      clear R11_lt
      have R12_right := Lib.hid (TRow.below R11_right.out B12)
      clear R11_right
      have R12_lo := Lib.hid (TRow.below R11_lo.out B12)
      clear R11_lo
      have R12_value := Lib.hid (TRow.below R11_value.out B12)
      clear R11_value
      have BW12 : Below w.heap.size w w12 := BW11.trans (B12.mono BW11.size)
      clear hc12 hf12 hb12 hd12 B12 c11_a_0 c11_a_1 c11_a_2 c11_b_0 c11_b_1 c11_b_2 c11_by_0 c11_by_1 c11_ahead_0 c11_ahead_1 c11_want_0 c11_want_1 c11_rel_0 c11_rel_1 c11_rel_2 c11_model_0 c11_model_1 c11_model_2 BW11
      clear R12_lt
      clear R12_right
      clear R12_value
      clear q_want c12_want_0 c12_want_1
      clear q_model c12_model_0 c12_model_1 c12_model_2
      go_upto_if 200 with fail
      go_cut [] from 999 to 999 (fun wx => Below w12.heap.size w12 wx)
      case first =>
        as_aux_lemma =>
          cases oo
          · go_wp2_with fail
            go_meet
            case rel => exact Below.refl _ _
          · obtain ⟨-, hsp, hl, -, -, -, hall, -⟩ := F2.out rfl
            have HA := Lib.hid hall
            have hlen : (LO.length : Int) ≤ 800 := by rw [hl]; split <;> omega
            clear hl hall
            go_wp2_with fail
            go_loopw [203] (fun i wr => ∃ k : Nat, k ≤ LO.length ∧ i = .int .i64 (k : Int) ∧ Below w12.heap.size w12 wr) (fun i _ => LO.length - (RowKit.intOf i).toNat)
            case atStart => exact ⟨0, Nat.zero_le _, rfl, Below.refl _ _⟩
            case round =>
              obtain ⟨k, hk, rfl, hb13⟩ := hrel
              obtain ⟨w13, hw13⟩ : ∃ x : World, x = wr := ⟨_, rfl⟩
              subst hw13
              have hb13' := hb13
              obtain ⟨hc13, hf13⟩ := bcell hb13
              have hz13 := hb13.size
              (try simp only [World.size_alloc, World.size_setCell, World.size_drew] at hz13)
              have B13 : Below w12.heap.size w12 w13 := Below.trans (b := _) (by (repeat' (first | (with_reducible exact Below.refl _ _) | (with_reducible assumption) | (with_reducible refine Below.alloc ?_ ?_ _) | (with_reducible refine Below.drew ?_) | (with_reducible refine below_drewN ?_ _) | (with_reducible refine Below.setCell ?_ ?_ _) | (with_reducible refine below_call ?_ ?_ (by assumption)) | go_size))) (hb13.mono (by first | omega | (simp only [World.size_alloc, World.size_setCell, World.size_drew]; omega)))
              obtain ⟨hd13, -⟩ := bcell B13
              have c13_a_0 : w13.cell? ⟨w1.heap.size, 0, none⟩ = some (.int .i64 n0) := (hd13 _ _ q_a).trans c12_a_0
              have c13_a_1 : w13.cell? ⟨w1.heap.size, 1, none⟩ = some (.int .i64 d0) := (hd13 _ _ q_a).trans c12_a_1
              have c13_a_2 : w13.cell? ⟨w1.heap.size, 2, none⟩ = some (.int .i64 s0) := (hd13 _ _ q_a).trans c12_a_2
              have c13_b_0 : w13.cell? ⟨w1.heap.size + 1, 0, none⟩ = some (.int .i64 n1) := (hd13 _ _ q_b).trans c12_b_0
              have c13_b_1 : w13.cell? ⟨w1.heap.size + 1, 1, none⟩ = some (.int .i64 d1) := (hd13 _ _ q_b).trans c12_b_1
              have c13_b_2 : w13.cell? ⟨w1.heap.size + 1, 2, none⟩ = some (.int .i64 s1) := (hd13 _ _ q_b).trans c12_b_2
              have c13_by_0 : w13.cell? ⟨w1.heap.size + 1 + 1, 0, none⟩ = some (.int .i64 n2) := (hd13 _ _ q_by).trans c12_by_0
              have c13_by_1 : w13.cell? ⟨w1.heap.size + 1 + 1, 1, none⟩ = some (.int .i64 d2) := (hd13 _ _ q_by).trans c12_by_1
              have c13_ahead_0 : w13.cell? ⟨w4.heap.size, 0, none⟩ = some (.int .i64 hn) := (hd13 _ _ q_ahead).trans c12_ahead_0
              have c13_ahead_1 : w13.cell? ⟨w4.heap.size, 1, none⟩ = some (.int .i64 hd) := (hd13 _ _ q_ahead).trans c12_ahead_1
              have c13_rel_0 : w13.cell? ⟨w6.heap.size, 0, none⟩ = some (.int .i64 rn) := (hd13 _ _ q_rel).trans c12_rel_0
              have c13_rel_1 : w13.cell? ⟨w6.heap.size, 1, none⟩ = some (.int .i64 rd) := (hd13 _ _ q_rel).trans c12_rel_1
              have c13_rel_2 : w13.cell? ⟨w6.heap.size, 2, none⟩ = some (.int .i64 rs) := (hd13 _ _ q_rel).trans c12_rel_2
              replace q_a : w1.heap.size < w13.heap.size := by omega
              replace q_b : w1.heap.size + 1 < w13.heap.size := by omega
              replace q_by : w1.heap.size + 1 + 1 < w13.heap.size := by omega
              replace q_ahead : w4.heap.size < w13.heap.size := by omega
              replace q_rel : w6.heap.size < w13.heap.size := by omega
              have R13_lo := Lib.hid (TRow.below R12_lo.out B13)
              clear R12_lo
              have BW13 : Below w.heap.size w w13 := BW12.trans (B13.mono BW12.size)
              have BX13 : Below w12.heap.size w12 w13 := B13
              clear hc13 hf13 hb13 hd13 B13 c12_a_0 c12_a_1 c12_a_2 c12_b_0 c12_b_1 c12_b_2 c12_by_0 c12_by_1 c12_ahead_0 c12_ahead_1 c12_rel_0 c12_rel_1 c12_rel_2 BW12
              have i0 : (0 : Int) ≤ (k : Int) := Int.natCast_nonneg _
              by_cases hlt : k < LO.length
              · have i1 : (k : Int) < (LO.length : Int) := by omega
                have hmem : LO.getD k (0, 0) ∈ LO := by rw [List.getD_eq_getElem?_getD, List.getElem?_eq_getElem hlt]; exact List.getElem_mem hlt
                have ha := HA.out _ hmem
                have hb := opposite_back ha
                obtain ⟨pa, pc, hpv, hl1, hl2, hcell⟩ := TRow.cells R13_lo.out
                simp only [Value.slice.injEq] at hpv
                obtain ⟨hp1, -, hp2⟩ := hpv
                subst hp1
                subst hp2
                obtain ⟨ga, rfl, u1, u2a, u3a, u4a⟩ := hcell k (by omega)
                clear hcell hl1 hl2 u1
                clear hmem
                generalize LO.getD k (0, 0) = x at *
                obtain ⟨p1, p2⟩ := x
                simp only at u3a u4a ha hb
                have Z1 := Lib.hid (fun W => (show Calls Try.prog 30 #[hv n0 d0 s0, hv n1 d1 s1, tv p1 p2] W fun e w' => e = .returned (rv (1, 2, true)) ∧ Below W.heap.size W w' from by have := implAheadAt_any n0 d0 s0 n1 d1 s1 p1 p2 W; rw [ha] at this; exact this))
                have Z2 := Lib.hid (fun W => (show Calls Try.prog 30 #[hv n1 d1 s1, hv n0 d0 s0, tv p1 p2] W fun e w' => e = .returned (rv (1, 2, true)) ∧ Below W.heap.size W w' from by have := implAheadAt_any n1 d1 s1 n0 d0 s0 p1 p2 W; rw [hb] at this; exact this))
                clear ha hb
                go_wp2_with fail
                refine (Z1.out _).mono ?_
                rintro e14 w14 ⟨rfl, hb14⟩
                obtain ⟨hc14, hf14⟩ := bcell hb14
                have hz14 := hb14.size
                (try simp only [World.size_alloc, World.size_setCell, World.size_drew] at hz14)
                have B14 : Below w13.heap.size w13 w14 := Below.trans (b := _) (by (repeat' (first | (with_reducible exact Below.refl _ _) | (with_reducible assumption) | (with_reducible refine Below.alloc ?_ ?_ _) | (with_reducible refine Below.drew ?_) | (with_reducible refine below_drewN ?_ _) | (with_reducible refine Below.setCell ?_ ?_ _) | (with_reducible refine below_call ?_ ?_ (by assumption)) | go_size))) (hb14.mono (by first | omega | (simp only [World.size_alloc, World.size_setCell, World.size_drew]; omega)))
                obtain ⟨hd14, -⟩ := bcell B14
                have c14_a_0 : w14.cell? ⟨w1.heap.size, 0, none⟩ = some (.int .i64 n0) := (hd14 _ _ q_a).trans c13_a_0
                have c14_a_1 : w14.cell? ⟨w1.heap.size, 1, none⟩ = some (.int .i64 d0) := (hd14 _ _ q_a).trans c13_a_1
                have c14_a_2 : w14.cell? ⟨w1.heap.size, 2, none⟩ = some (.int .i64 s0) := (hd14 _ _ q_a).trans c13_a_2
                have c14_b_0 : w14.cell? ⟨w1.heap.size + 1, 0, none⟩ = some (.int .i64 n1) := (hd14 _ _ q_b).trans c13_b_0
                have c14_b_1 : w14.cell? ⟨w1.heap.size + 1, 1, none⟩ = some (.int .i64 d1) := (hd14 _ _ q_b).trans c13_b_1
                have c14_b_2 : w14.cell? ⟨w1.heap.size + 1, 2, none⟩ = some (.int .i64 s1) := (hd14 _ _ q_b).trans c13_b_2
                have c14_by_0 : w14.cell? ⟨w1.heap.size + 1 + 1, 0, none⟩ = some (.int .i64 n2) := (hd14 _ _ q_by).trans c13_by_0
                have c14_by_1 : w14.cell? ⟨w1.heap.size + 1 + 1, 1, none⟩ = some (.int .i64 d2) := (hd14 _ _ q_by).trans c13_by_1
                have c14_ahead_0 : w14.cell? ⟨w4.heap.size, 0, none⟩ = some (.int .i64 hn) := (hd14 _ _ q_ahead).trans c13_ahead_0
                have c14_ahead_1 : w14.cell? ⟨w4.heap.size, 1, none⟩ = some (.int .i64 hd) := (hd14 _ _ q_ahead).trans c13_ahead_1
                have c14_rel_0 : w14.cell? ⟨w6.heap.size, 0, none⟩ = some (.int .i64 rn) := (hd14 _ _ q_rel).trans c13_rel_0
                have c14_rel_1 : w14.cell? ⟨w6.heap.size, 1, none⟩ = some (.int .i64 rd) := (hd14 _ _ q_rel).trans c13_rel_1
                have c14_rel_2 : w14.cell? ⟨w6.heap.size, 2, none⟩ = some (.int .i64 rs) := (hd14 _ _ q_rel).trans c13_rel_2
                replace q_a : w1.heap.size < w14.heap.size := by omega
                replace q_b : w1.heap.size + 1 < w14.heap.size := by omega
                replace q_by : w1.heap.size + 1 + 1 < w14.heap.size := by omega
                replace q_ahead : w4.heap.size < w14.heap.size := by omega
                replace q_rel : w6.heap.size < w14.heap.size := by omega
                have c14_x_0 : w14.cell? ⟨w13.heap.size, 0, none⟩ = some (.int .i64 p1) := (hc14 _ _ (by go_size)).trans (by go_simp)
                have c14_x_1 : w14.cell? ⟨w13.heap.size, 1, none⟩ = some (.int .i64 p2) := (hc14 _ _ (by go_size)).trans (by go_simp)
                have q_x : w13.heap.size < w14.heap.size := by omega
                have R14_lo := Lib.hid (TRow.below R13_lo.out B14)
                clear R13_lo
                have BW14 : Below w.heap.size w w14 := BW13.trans (B14.mono BW13.size)
                have BX14 : Below w13.heap.size w13 w14 := B14
                clear hc14 hf14 hb14 hd14 B14 c13_a_0 c13_a_1 c13_a_2 c13_b_0 c13_b_1 c13_b_2 c13_by_0 c13_by_1 c13_ahead_0 c13_ahead_1 c13_rel_0 c13_rel_1 c13_rel_2 BW13
                go_wp2_with fail
                refine (Z2.out _).mono ?_
                rintro e15 w15 ⟨rfl, hb15⟩
                obtain ⟨hc15, hf15⟩ := bcell hb15
                have hz15 := hb15.size
                (try simp only [World.size_alloc, World.size_setCell, World.size_drew] at hz15)
                have B15 : Below w14.heap.size w14 w15 := Below.trans (b := _) (by (repeat' (first | (with_reducible exact Below.refl _ _) | (with_reducible assumption) | (with_reducible refine Below.alloc ?_ ?_ _) | (with_reducible refine Below.drew ?_) | (with_reducible refine below_drewN ?_ _) | (with_reducible refine Below.setCell ?_ ?_ _) | (with_reducible refine below_call ?_ ?_ (by assumption)) | go_size))) (hb15.mono (by first | omega | (simp only [World.size_alloc, World.size_setCell, World.size_drew]; omega)))
                obtain ⟨hd15, -⟩ := bcell B15
                have c15_a_0 : w15.cell? ⟨w1.heap.size, 0, none⟩ = some (.int .i64 n0) := (hd15 _ _ q_a).trans c14_a_0
                have c15_a_1 : w15.cell? ⟨w1.heap.size, 1, none⟩ = some (.int .i64 d0) := (hd15 _ _ q_a).trans c14_a_1
                have c15_a_2 : w15.cell? ⟨w1.heap.size, 2, none⟩ = some (.int .i64 s0) := (hd15 _ _ q_a).trans c14_a_2
                have c15_b_0 : w15.cell? ⟨w1.heap.size + 1, 0, none⟩ = some (.int .i64 n1) := (hd15 _ _ q_b).trans c14_b_0
                have c15_b_1 : w15.cell? ⟨w1.heap.size + 1, 1, none⟩ = some (.int .i64 d1) := (hd15 _ _ q_b).trans c14_b_1
                have c15_b_2 : w15.cell? ⟨w1.heap.size + 1, 2, none⟩ = some (.int .i64 s1) := (hd15 _ _ q_b).trans c14_b_2
                have c15_by_0 : w15.cell? ⟨w1.heap.size + 1 + 1, 0, none⟩ = some (.int .i64 n2) := (hd15 _ _ q_by).trans c14_by_0
                have c15_by_1 : w15.cell? ⟨w1.heap.size + 1 + 1, 1, none⟩ = some (.int .i64 d2) := (hd15 _ _ q_by).trans c14_by_1
                have c15_ahead_0 : w15.cell? ⟨w4.heap.size, 0, none⟩ = some (.int .i64 hn) := (hd15 _ _ q_ahead).trans c14_ahead_0
                have c15_ahead_1 : w15.cell? ⟨w4.heap.size, 1, none⟩ = some (.int .i64 hd) := (hd15 _ _ q_ahead).trans c14_ahead_1
                have c15_rel_0 : w15.cell? ⟨w6.heap.size, 0, none⟩ = some (.int .i64 rn) := (hd15 _ _ q_rel).trans c14_rel_0
                have c15_rel_1 : w15.cell? ⟨w6.heap.size, 1, none⟩ = some (.int .i64 rd) := (hd15 _ _ q_rel).trans c14_rel_1
                have c15_rel_2 : w15.cell? ⟨w6.heap.size, 2, none⟩ = some (.int .i64 rs) := (hd15 _ _ q_rel).trans c14_rel_2
                have c15_x_0 : w15.cell? ⟨w13.heap.size, 0, none⟩ = some (.int .i64 p1) := (hd15 _ _ q_x).trans c14_x_0
                have c15_x_1 : w15.cell? ⟨w13.heap.size, 1, none⟩ = some (.int .i64 p2) := (hd15 _ _ q_x).trans c14_x_1
                replace q_a : w1.heap.size < w15.heap.size := by omega
                replace q_b : w1.heap.size + 1 < w15.heap.size := by omega
                replace q_by : w1.heap.size + 1 + 1 < w15.heap.size := by omega
                replace q_ahead : w4.heap.size < w15.heap.size := by omega
                replace q_rel : w6.heap.size < w15.heap.size := by omega
                replace q_x : w13.heap.size < w15.heap.size := by omega
                have c15_own_0 : w15.cell? ⟨w14.heap.size, 0, none⟩ = some (.int .i64 1) := (hc15 _ _ (by go_size)).trans (by go_simp)
                have c15_own_1 : w15.cell? ⟨w14.heap.size, 1, none⟩ = some (.int .i64 2) := (hc15 _ _ (by go_size)).trans (by go_simp)
                have q_own : w14.heap.size < w15.heap.size := by omega
                have R15_lo := Lib.hid (TRow.below R14_lo.out B15)
                clear R14_lo
                have BW15 : Below w.heap.size w w15 := BW14.trans (B15.mono BW14.size)
                have BX15 : Below w13.heap.size w13 w15 := BX14.trans (B15.mono BX14.size)
                clear BX14
                clear hc15 hf15 hb15 hd15 B15 c14_a_0 c14_a_1 c14_a_2 c14_b_0 c14_b_1 c14_b_2 c14_by_0 c14_by_1 c14_ahead_0 c14_ahead_1 c14_rel_0 c14_rel_1 c14_rel_2 c14_x_0 c14_x_1 BW14
                go_upto_region 30 with fail
                have hb16 : Below w15.heap.size w15 (w15.alloc (Obj.cells #[.int .i64 1, .int .i64 2] 25)) := by (repeat' (first | (with_reducible exact Below.refl _ _) | (with_reducible assumption) | (with_reducible refine Below.alloc ?_ ?_ _) | (with_reducible refine Below.drew ?_) | (with_reducible refine below_drewN ?_ _) | (with_reducible refine Below.setCell ?_ ?_ _) | (with_reducible refine below_call ?_ ?_ (by assumption)) | go_size))
                have c16_yown_0 : (w15.alloc (Obj.cells #[.int .i64 1, .int .i64 2] 25)).cell? ⟨w15.heap.size, 0, none⟩ = some (.int .i64 1) := by go_simp
                have c16_yown_1 : (w15.alloc (Obj.cells #[.int .i64 1, .int .i64 2] 25)).cell? ⟨w15.heap.size, 1, none⟩ = some (.int .i64 2) := by go_simp
                have q_yown : w15.heap.size < (w15.alloc (Obj.cells #[.int .i64 1, .int .i64 2] 25)).heap.size := by go_size
                generalize (w15.alloc (Obj.cells #[.int .i64 1, .int .i64 2] 25)) = w16 at *
                obtain ⟨hd16, -⟩ := bcell hb16
                have hz16 := hb16.size
                have c16_a_0 : w16.cell? ⟨w1.heap.size, 0, none⟩ = some (.int .i64 n0) := (hd16 _ _ q_a).trans c15_a_0
                have c16_a_1 : w16.cell? ⟨w1.heap.size, 1, none⟩ = some (.int .i64 d0) := (hd16 _ _ q_a).trans c15_a_1
                have c16_a_2 : w16.cell? ⟨w1.heap.size, 2, none⟩ = some (.int .i64 s0) := (hd16 _ _ q_a).trans c15_a_2
                have c16_b_0 : w16.cell? ⟨w1.heap.size + 1, 0, none⟩ = some (.int .i64 n1) := (hd16 _ _ q_b).trans c15_b_0
                have c16_b_1 : w16.cell? ⟨w1.heap.size + 1, 1, none⟩ = some (.int .i64 d1) := (hd16 _ _ q_b).trans c15_b_1
                have c16_b_2 : w16.cell? ⟨w1.heap.size + 1, 2, none⟩ = some (.int .i64 s1) := (hd16 _ _ q_b).trans c15_b_2
                have c16_by_0 : w16.cell? ⟨w1.heap.size + 1 + 1, 0, none⟩ = some (.int .i64 n2) := (hd16 _ _ q_by).trans c15_by_0
                have c16_by_1 : w16.cell? ⟨w1.heap.size + 1 + 1, 1, none⟩ = some (.int .i64 d2) := (hd16 _ _ q_by).trans c15_by_1
                have c16_ahead_0 : w16.cell? ⟨w4.heap.size, 0, none⟩ = some (.int .i64 hn) := (hd16 _ _ q_ahead).trans c15_ahead_0
                have c16_ahead_1 : w16.cell? ⟨w4.heap.size, 1, none⟩ = some (.int .i64 hd) := (hd16 _ _ q_ahead).trans c15_ahead_1
                have c16_rel_0 : w16.cell? ⟨w6.heap.size, 0, none⟩ = some (.int .i64 rn) := (hd16 _ _ q_rel).trans c15_rel_0
                have c16_rel_1 : w16.cell? ⟨w6.heap.size, 1, none⟩ = some (.int .i64 rd) := (hd16 _ _ q_rel).trans c15_rel_1
                have c16_rel_2 : w16.cell? ⟨w6.heap.size, 2, none⟩ = some (.int .i64 rs) := (hd16 _ _ q_rel).trans c15_rel_2
                have c16_x_0 : w16.cell? ⟨w13.heap.size, 0, none⟩ = some (.int .i64 p1) := (hd16 _ _ q_x).trans c15_x_0
                have c16_x_1 : w16.cell? ⟨w13.heap.size, 1, none⟩ = some (.int .i64 p2) := (hd16 _ _ q_x).trans c15_x_1
                have c16_own_0 : w16.cell? ⟨w14.heap.size, 0, none⟩ = some (.int .i64 1) := (hd16 _ _ q_own).trans c15_own_0
                have c16_own_1 : w16.cell? ⟨w14.heap.size, 1, none⟩ = some (.int .i64 2) := (hd16 _ _ q_own).trans c15_own_1
                replace q_a : w1.heap.size < w16.heap.size := by omega
                replace q_b : w1.heap.size + 1 < w16.heap.size := by omega
                replace q_by : w1.heap.size + 1 + 1 < w16.heap.size := by omega
                replace q_ahead : w4.heap.size < w16.heap.size := by omega
                replace q_rel : w6.heap.size < w16.heap.size := by omega
                replace q_x : w13.heap.size < w16.heap.size := by omega
                replace q_own : w14.heap.size < w16.heap.size := by omega
                have R16_lo := Lib.hid (TRow.below R15_lo.out hb16)
                clear R15_lo
                have BW16 : Below w.heap.size w w16 := BW15.trans (hb16.mono BW15.size)
                have BX16 : Below w13.heap.size w13 w16 := BX15.trans (hb16.mono BX15.size)
                clear BX15
                clear hb16 hd16 c15_a_0 c15_a_1 c15_a_2 c15_b_0 c15_b_1 c15_b_2 c15_by_0 c15_by_1 c15_ahead_0 c15_ahead_1 c15_rel_0 c15_rel_1 c15_rel_2 c15_x_0 c15_x_1 c15_own_0 c15_own_1 BW15
                go_wp2_with fail
                go_roundw
                case rel => exact ⟨k + 1, by omega, by go_num, hb13'.trans (BX16.mono hb13'.size)⟩
                case measure => simp [RowKit.intOf]; omega
              have hrelB := BX13
              go_wp2_with fail
              go_meet
              case rel => exact hrelB
      case rest =>
        have hb13 := hcut
        obtain ⟨w13, hw13⟩ : ∃ x : World, x = wc := ⟨_, rfl⟩
        subst hw13
        obtain ⟨hc13, hf13⟩ := bcell hb13
        have hz13 := hb13.size
        (try simp only [World.size_alloc, World.size_setCell, World.size_drew] at hz13)
        have B13 : Below w12.heap.size w12 w13 := Below.trans (b := _) (by (repeat' (first | (with_reducible exact Below.refl _ _) | (with_reducible assumption) | (with_reducible refine Below.alloc ?_ ?_ _) | (with_reducible refine Below.drew ?_) | (with_reducible refine below_drewN ?_ _) | (with_reducible refine Below.setCell ?_ ?_ _) | (with_reducible refine below_call ?_ ?_ (by assumption)) | go_size))) (hb13.mono (by first | omega | (simp only [World.size_alloc, World.size_setCell, World.size_drew]; omega)))
        obtain ⟨hd13, -⟩ := bcell B13
        have c13_a_0 : w13.cell? ⟨w1.heap.size, 0, none⟩ = some (.int .i64 n0) := (hd13 _ _ q_a).trans c12_a_0
        have c13_a_1 : w13.cell? ⟨w1.heap.size, 1, none⟩ = some (.int .i64 d0) := (hd13 _ _ q_a).trans c12_a_1
        have c13_a_2 : w13.cell? ⟨w1.heap.size, 2, none⟩ = some (.int .i64 s0) := (hd13 _ _ q_a).trans c12_a_2
        have c13_b_0 : w13.cell? ⟨w1.heap.size + 1, 0, none⟩ = some (.int .i64 n1) := (hd13 _ _ q_b).trans c12_b_0
        have c13_b_1 : w13.cell? ⟨w1.heap.size + 1, 1, none⟩ = some (.int .i64 d1) := (hd13 _ _ q_b).trans c12_b_1
        have c13_b_2 : w13.cell? ⟨w1.heap.size + 1, 2, none⟩ = some (.int .i64 s1) := (hd13 _ _ q_b).trans c12_b_2
        have c13_by_0 : w13.cell? ⟨w1.heap.size + 1 + 1, 0, none⟩ = some (.int .i64 n2) := (hd13 _ _ q_by).trans c12_by_0
        have c13_by_1 : w13.cell? ⟨w1.heap.size + 1 + 1, 1, none⟩ = some (.int .i64 d2) := (hd13 _ _ q_by).trans c12_by_1
        have c13_ahead_0 : w13.cell? ⟨w4.heap.size, 0, none⟩ = some (.int .i64 hn) := (hd13 _ _ q_ahead).trans c12_ahead_0
        have c13_ahead_1 : w13.cell? ⟨w4.heap.size, 1, none⟩ = some (.int .i64 hd) := (hd13 _ _ q_ahead).trans c12_ahead_1
        have c13_rel_0 : w13.cell? ⟨w6.heap.size, 0, none⟩ = some (.int .i64 rn) := (hd13 _ _ q_rel).trans c12_rel_0
        have c13_rel_1 : w13.cell? ⟨w6.heap.size, 1, none⟩ = some (.int .i64 rd) := (hd13 _ _ q_rel).trans c12_rel_1
        have c13_rel_2 : w13.cell? ⟨w6.heap.size, 2, none⟩ = some (.int .i64 rs) := (hd13 _ _ q_rel).trans c12_rel_2
        replace q_a : w1.heap.size < w13.heap.size := by omega
        replace q_b : w1.heap.size + 1 < w13.heap.size := by omega
        replace q_by : w1.heap.size + 1 + 1 < w13.heap.size := by omega
        replace q_ahead : w4.heap.size < w13.heap.size := by omega
        replace q_rel : w6.heap.size < w13.heap.size := by omega
        have R13_lo := Lib.hid (TRow.below R12_lo.out B13)
        clear R12_lo
        have BW13 : Below w.heap.size w w13 := BW12.trans (B13.mono BW12.size)
        clear hc13 hf13 hb13 hd13 B13 c12_a_0 c12_a_1 c12_a_2 c12_b_0 c12_b_1 c12_b_2 c12_by_0 c12_by_1 c12_ahead_0 c12_ahead_1 c12_rel_0 c12_rel_1 c12_rel_2 BW12
        clear R13_lo
        go_upto_if 238 with fail
        go_cut [] from 999 to 999 (fun wx => Below w13.heap.size w13 wx)
        case first =>
          as_aux_lemma =>
            cases ro
            · go_wp2_with fail
              go_meet
              case rel => exact Below.refl _ _
            · obtain ⟨h1, h2, h3⟩ := F3.out rfl
              have Z1 := Lib.hid (fun W => (show Calls Try.prog 22 #[hv rn rd rs, tv n2 d2] W fun e w' => e = .returned (rv (hn, hd, ho)) ∧ Below W.heap.size W w' from by have := implHandAt_any rn rd rs n2 d2 W; rw [h1] at this; exact this))
              have hw : IntKind.i64.wrap (s0 - s1) = s0 - s1 := by rw [IntKind.wrap_i64]; omega
              have hne : (rs != s0 - s1) = false := by rw [h2]; simp
              clear h1 h2
              go_wp2_with fail
              refine (Z1.out _).mono ?_
              rintro e14 w14 ⟨rfl, hb14⟩
              obtain ⟨hc14, hf14⟩ := bcell hb14
              have hz14 := hb14.size
              (try simp only [World.size_alloc, World.size_setCell, World.size_drew] at hz14)
              have B14 : Below w13.heap.size w13 w14 := Below.trans (b := _) (by (repeat' (first | (with_reducible exact Below.refl _ _) | (with_reducible assumption) | (with_reducible refine Below.alloc ?_ ?_ _) | (with_reducible refine Below.drew ?_) | (with_reducible refine below_drewN ?_ _) | (with_reducible refine Below.setCell ?_ ?_ _) | (with_reducible refine below_call ?_ ?_ (by assumption)) | go_size))) (hb14.mono (by first | omega | (simp only [World.size_alloc, World.size_setCell, World.size_drew]; omega)))
              obtain ⟨hd14, -⟩ := bcell B14
              have c14_a_0 : w14.cell? ⟨w1.heap.size, 0, none⟩ = some (.int .i64 n0) := (hd14 _ _ q_a).trans c13_a_0
              have c14_a_1 : w14.cell? ⟨w1.heap.size, 1, none⟩ = some (.int .i64 d0) := (hd14 _ _ q_a).trans c13_a_1
              have c14_a_2 : w14.cell? ⟨w1.heap.size, 2, none⟩ = some (.int .i64 s0) := (hd14 _ _ q_a).trans c13_a_2
              have c14_b_0 : w14.cell? ⟨w1.heap.size + 1, 0, none⟩ = some (.int .i64 n1) := (hd14 _ _ q_b).trans c13_b_0
              have c14_b_1 : w14.cell? ⟨w1.heap.size + 1, 1, none⟩ = some (.int .i64 d1) := (hd14 _ _ q_b).trans c13_b_1
              have c14_b_2 : w14.cell? ⟨w1.heap.size + 1, 2, none⟩ = some (.int .i64 s1) := (hd14 _ _ q_b).trans c13_b_2
              have c14_by_0 : w14.cell? ⟨w1.heap.size + 1 + 1, 0, none⟩ = some (.int .i64 n2) := (hd14 _ _ q_by).trans c13_by_0
              have c14_by_1 : w14.cell? ⟨w1.heap.size + 1 + 1, 1, none⟩ = some (.int .i64 d2) := (hd14 _ _ q_by).trans c13_by_1
              have c14_ahead_0 : w14.cell? ⟨w4.heap.size, 0, none⟩ = some (.int .i64 hn) := (hd14 _ _ q_ahead).trans c13_ahead_0
              have c14_ahead_1 : w14.cell? ⟨w4.heap.size, 1, none⟩ = some (.int .i64 hd) := (hd14 _ _ q_ahead).trans c13_ahead_1
              have c14_rel_0 : w14.cell? ⟨w6.heap.size, 0, none⟩ = some (.int .i64 rn) := (hd14 _ _ q_rel).trans c13_rel_0
              have c14_rel_1 : w14.cell? ⟨w6.heap.size, 1, none⟩ = some (.int .i64 rd) := (hd14 _ _ q_rel).trans c13_rel_1
              have c14_rel_2 : w14.cell? ⟨w6.heap.size, 2, none⟩ = some (.int .i64 rs) := (hd14 _ _ q_rel).trans c13_rel_2
              replace q_a : w1.heap.size < w14.heap.size := by omega
              replace q_b : w1.heap.size + 1 < w14.heap.size := by omega
              replace q_by : w1.heap.size + 1 + 1 < w14.heap.size := by omega
              replace q_ahead : w4.heap.size < w14.heap.size := by omega
              replace q_rel : w6.heap.size < w14.heap.size := by omega
              have BW14 : Below w.heap.size w w14 := BW13.trans (B14.mono BW13.size)
              have BX14 : Below w13.heap.size w13 w14 := B14
              clear hc14 hf14 hb14 hd14 B14 c13_a_0 c13_a_1 c13_a_2 c13_b_0 c13_b_1 c13_b_2 c13_by_0 c13_by_1 c13_ahead_0 c13_ahead_1 c13_rel_0 c13_rel_1 c13_rel_2 BW13
              go_upto_region 35 with fail
              have hb15 : Below w14.heap.size w14 (w14.alloc (Obj.cells #[.int .i64 hn, .int .i64 hd] 25)) := by (repeat' (first | (with_reducible exact Below.refl _ _) | (with_reducible assumption) | (with_reducible refine Below.alloc ?_ ?_ _) | (with_reducible refine Below.drew ?_) | (with_reducible refine below_drewN ?_ _) | (with_reducible refine Below.setCell ?_ ?_ _) | (with_reducible refine below_call ?_ ?_ (by assumption)) | go_size))
              have c15_xx_0 : (w14.alloc (Obj.cells #[.int .i64 hn, .int .i64 hd] 25)).cell? ⟨w14.heap.size, 0, none⟩ = some (.int .i64 hn) := by go_simp
              have c15_xx_1 : (w14.alloc (Obj.cells #[.int .i64 hn, .int .i64 hd] 25)).cell? ⟨w14.heap.size, 1, none⟩ = some (.int .i64 hd) := by go_simp
              have q_xx : w14.heap.size < (w14.alloc (Obj.cells #[.int .i64 hn, .int .i64 hd] 25)).heap.size := by go_size
              generalize (w14.alloc (Obj.cells #[.int .i64 hn, .int .i64 hd] 25)) = w15 at *
              obtain ⟨hd15, -⟩ := bcell hb15
              have hz15 := hb15.size
              have c15_a_0 : w15.cell? ⟨w1.heap.size, 0, none⟩ = some (.int .i64 n0) := (hd15 _ _ q_a).trans c14_a_0
              have c15_a_1 : w15.cell? ⟨w1.heap.size, 1, none⟩ = some (.int .i64 d0) := (hd15 _ _ q_a).trans c14_a_1
              have c15_a_2 : w15.cell? ⟨w1.heap.size, 2, none⟩ = some (.int .i64 s0) := (hd15 _ _ q_a).trans c14_a_2
              have c15_b_0 : w15.cell? ⟨w1.heap.size + 1, 0, none⟩ = some (.int .i64 n1) := (hd15 _ _ q_b).trans c14_b_0
              have c15_b_1 : w15.cell? ⟨w1.heap.size + 1, 1, none⟩ = some (.int .i64 d1) := (hd15 _ _ q_b).trans c14_b_1
              have c15_b_2 : w15.cell? ⟨w1.heap.size + 1, 2, none⟩ = some (.int .i64 s1) := (hd15 _ _ q_b).trans c14_b_2
              have c15_by_0 : w15.cell? ⟨w1.heap.size + 1 + 1, 0, none⟩ = some (.int .i64 n2) := (hd15 _ _ q_by).trans c14_by_0
              have c15_by_1 : w15.cell? ⟨w1.heap.size + 1 + 1, 1, none⟩ = some (.int .i64 d2) := (hd15 _ _ q_by).trans c14_by_1
              have c15_ahead_0 : w15.cell? ⟨w4.heap.size, 0, none⟩ = some (.int .i64 hn) := (hd15 _ _ q_ahead).trans c14_ahead_0
              have c15_ahead_1 : w15.cell? ⟨w4.heap.size, 1, none⟩ = some (.int .i64 hd) := (hd15 _ _ q_ahead).trans c14_ahead_1
              have c15_rel_0 : w15.cell? ⟨w6.heap.size, 0, none⟩ = some (.int .i64 rn) := (hd15 _ _ q_rel).trans c14_rel_0
              have c15_rel_1 : w15.cell? ⟨w6.heap.size, 1, none⟩ = some (.int .i64 rd) := (hd15 _ _ q_rel).trans c14_rel_1
              have c15_rel_2 : w15.cell? ⟨w6.heap.size, 2, none⟩ = some (.int .i64 rs) := (hd15 _ _ q_rel).trans c14_rel_2
              replace q_a : w1.heap.size < w15.heap.size := by omega
              replace q_b : w1.heap.size + 1 < w15.heap.size := by omega
              replace q_by : w1.heap.size + 1 + 1 < w15.heap.size := by omega
              replace q_ahead : w4.heap.size < w15.heap.size := by omega
              replace q_rel : w6.heap.size < w15.heap.size := by omega
              have BW15 : Below w.heap.size w w15 := BW14.trans (hb15.mono BW14.size)
              have BX15 : Below w13.heap.size w13 w15 := BX14.trans (hb15.mono BX14.size)
              clear BX14
              clear hb15 hd15 c14_a_0 c14_a_1 c14_a_2 c14_b_0 c14_b_1 c14_b_2 c14_by_0 c14_by_1 c14_ahead_0 c14_ahead_1 c14_rel_0 c14_rel_1 c14_rel_2 BW14
              go_cut [265] from 999 to 999 (fun x wx => x = .bool false ∧ Below w15.heap.size w15 wx)
              case first =>
                as_aux_lemma =>
                  cases ho
                  · go_wp2_with fail
                    go_meet
                    case rel => exact ⟨rfl, Below.refl _ _⟩
                  · go_wp2_with fail
                    go_meet
                    case rel => exact ⟨rfl, Below.refl _ _⟩
              case rest =>
                obtain ⟨rfl, hb16⟩ := hcut
                obtain ⟨w16, hw16⟩ : ∃ x : World, x = wc := ⟨_, rfl⟩
                subst hw16
                obtain ⟨hc16, hf16⟩ := bcell hb16
                have hz16 := hb16.size
                (try simp only [World.size_alloc, World.size_setCell, World.size_drew] at hz16)
                have B16 : Below w15.heap.size w15 w16 := Below.trans (b := _) (by (repeat' (first | (with_reducible exact Below.refl _ _) | (with_reducible assumption) | (with_reducible refine Below.alloc ?_ ?_ _) | (with_reducible refine Below.drew ?_) | (with_reducible refine below_drewN ?_ _) | (with_reducible refine Below.setCell ?_ ?_ _) | (with_reducible refine below_call ?_ ?_ (by assumption)) | go_size))) (hb16.mono (by first | omega | (simp only [World.size_alloc, World.size_setCell, World.size_drew]; omega)))
                obtain ⟨hd16, -⟩ := bcell B16
                have c16_a_0 : w16.cell? ⟨w1.heap.size, 0, none⟩ = some (.int .i64 n0) := (hd16 _ _ q_a).trans c15_a_0
                have c16_a_1 : w16.cell? ⟨w1.heap.size, 1, none⟩ = some (.int .i64 d0) := (hd16 _ _ q_a).trans c15_a_1
                have c16_a_2 : w16.cell? ⟨w1.heap.size, 2, none⟩ = some (.int .i64 s0) := (hd16 _ _ q_a).trans c15_a_2
                have c16_b_0 : w16.cell? ⟨w1.heap.size + 1, 0, none⟩ = some (.int .i64 n1) := (hd16 _ _ q_b).trans c15_b_0
                have c16_b_1 : w16.cell? ⟨w1.heap.size + 1, 1, none⟩ = some (.int .i64 d1) := (hd16 _ _ q_b).trans c15_b_1
                have c16_b_2 : w16.cell? ⟨w1.heap.size + 1, 2, none⟩ = some (.int .i64 s1) := (hd16 _ _ q_b).trans c15_b_2
                have c16_by_0 : w16.cell? ⟨w1.heap.size + 1 + 1, 0, none⟩ = some (.int .i64 n2) := (hd16 _ _ q_by).trans c15_by_0
                have c16_by_1 : w16.cell? ⟨w1.heap.size + 1 + 1, 1, none⟩ = some (.int .i64 d2) := (hd16 _ _ q_by).trans c15_by_1
                have c16_ahead_0 : w16.cell? ⟨w4.heap.size, 0, none⟩ = some (.int .i64 hn) := (hd16 _ _ q_ahead).trans c15_ahead_0
                have c16_ahead_1 : w16.cell? ⟨w4.heap.size, 1, none⟩ = some (.int .i64 hd) := (hd16 _ _ q_ahead).trans c15_ahead_1
                have c16_rel_0 : w16.cell? ⟨w6.heap.size, 0, none⟩ = some (.int .i64 rn) := (hd16 _ _ q_rel).trans c15_rel_0
                have c16_rel_1 : w16.cell? ⟨w6.heap.size, 1, none⟩ = some (.int .i64 rd) := (hd16 _ _ q_rel).trans c15_rel_1
                have c16_rel_2 : w16.cell? ⟨w6.heap.size, 2, none⟩ = some (.int .i64 rs) := (hd16 _ _ q_rel).trans c15_rel_2
                have c16_xx_0 : w16.cell? ⟨w14.heap.size, 0, none⟩ = some (.int .i64 hn) := (hd16 _ _ q_xx).trans c15_xx_0
                have c16_xx_1 : w16.cell? ⟨w14.heap.size, 1, none⟩ = some (.int .i64 hd) := (hd16 _ _ q_xx).trans c15_xx_1
                replace q_a : w1.heap.size < w16.heap.size := by omega
                replace q_b : w1.heap.size + 1 < w16.heap.size := by omega
                replace q_by : w1.heap.size + 1 + 1 < w16.heap.size := by omega
                replace q_ahead : w4.heap.size < w16.heap.size := by omega
                replace q_rel : w6.heap.size < w16.heap.size := by omega
                replace q_xx : w14.heap.size < w16.heap.size := by omega
                have BW16 : Below w.heap.size w w16 := BW15.trans (B16.mono BW15.size)
                have BX16 : Below w13.heap.size w13 w16 := BX15.trans (B16.mono BX15.size)
                clear BX15
                clear hc16 hf16 hb16 hd16 B16 c15_a_0 c15_a_1 c15_a_2 c15_b_0 c15_b_1 c15_b_2 c15_by_0 c15_by_1 c15_ahead_0 c15_ahead_1 c15_rel_0 c15_rel_1 c15_rel_2 c15_xx_0 c15_xx_1 BW15
                have hrelB := BX16
                go_wp2_with fail
                go_meet
                case rel => exact hrelB
        case rest =>
          have hb14 := hcut
          obtain ⟨w14, hw14⟩ : ∃ x : World, x = wc := ⟨_, rfl⟩
          subst hw14
          obtain ⟨hc14, hf14⟩ := bcell hb14
          have hz14 := hb14.size
          (try simp only [World.size_alloc, World.size_setCell, World.size_drew] at hz14)
          have B14 : Below w13.heap.size w13 w14 := Below.trans (b := _) (by (repeat' (first | (with_reducible exact Below.refl _ _) | (with_reducible assumption) | (with_reducible refine Below.alloc ?_ ?_ _) | (with_reducible refine Below.drew ?_) | (with_reducible refine below_drewN ?_ _) | (with_reducible refine Below.setCell ?_ ?_ _) | (with_reducible refine below_call ?_ ?_ (by assumption)) | go_size))) (hb14.mono (by first | omega | (simp only [World.size_alloc, World.size_setCell, World.size_drew]; omega)))
          obtain ⟨hd14, -⟩ := bcell B14
          have c14_a_0 : w14.cell? ⟨w1.heap.size, 0, none⟩ = some (.int .i64 n0) := (hd14 _ _ q_a).trans c13_a_0
          have c14_a_1 : w14.cell? ⟨w1.heap.size, 1, none⟩ = some (.int .i64 d0) := (hd14 _ _ q_a).trans c13_a_1
          have c14_a_2 : w14.cell? ⟨w1.heap.size, 2, none⟩ = some (.int .i64 s0) := (hd14 _ _ q_a).trans c13_a_2
          have c14_b_0 : w14.cell? ⟨w1.heap.size + 1, 0, none⟩ = some (.int .i64 n1) := (hd14 _ _ q_b).trans c13_b_0
          have c14_b_1 : w14.cell? ⟨w1.heap.size + 1, 1, none⟩ = some (.int .i64 d1) := (hd14 _ _ q_b).trans c13_b_1
          have c14_b_2 : w14.cell? ⟨w1.heap.size + 1, 2, none⟩ = some (.int .i64 s1) := (hd14 _ _ q_b).trans c13_b_2
          have c14_by_0 : w14.cell? ⟨w1.heap.size + 1 + 1, 0, none⟩ = some (.int .i64 n2) := (hd14 _ _ q_by).trans c13_by_0
          have c14_by_1 : w14.cell? ⟨w1.heap.size + 1 + 1, 1, none⟩ = some (.int .i64 d2) := (hd14 _ _ q_by).trans c13_by_1
          have c14_ahead_0 : w14.cell? ⟨w4.heap.size, 0, none⟩ = some (.int .i64 hn) := (hd14 _ _ q_ahead).trans c13_ahead_0
          have c14_ahead_1 : w14.cell? ⟨w4.heap.size, 1, none⟩ = some (.int .i64 hd) := (hd14 _ _ q_ahead).trans c13_ahead_1
          have c14_rel_0 : w14.cell? ⟨w6.heap.size, 0, none⟩ = some (.int .i64 rn) := (hd14 _ _ q_rel).trans c13_rel_0
          have c14_rel_1 : w14.cell? ⟨w6.heap.size, 1, none⟩ = some (.int .i64 rd) := (hd14 _ _ q_rel).trans c13_rel_1
          have c14_rel_2 : w14.cell? ⟨w6.heap.size, 2, none⟩ = some (.int .i64 rs) := (hd14 _ _ q_rel).trans c13_rel_2
          replace q_a : w1.heap.size < w14.heap.size := by omega
          replace q_b : w1.heap.size + 1 < w14.heap.size := by omega
          replace q_by : w1.heap.size + 1 + 1 < w14.heap.size := by omega
          replace q_ahead : w4.heap.size < w14.heap.size := by omega
          replace q_rel : w6.heap.size < w14.heap.size := by omega
          have BW14 : Below w.heap.size w w14 := BW13.trans (B14.mono BW13.size)
          clear hc14 hf14 hb14 hd14 B14 c13_a_0 c13_a_1 c13_a_2 c13_b_0 c13_b_1 c13_b_2 c13_by_0 c13_by_1 c13_ahead_0 c13_ahead_1 c13_rel_0 c13_rel_1 c13_rel_2 BW13
          clear q_ahead c14_ahead_0 c14_ahead_1
          clear q_rel c14_rel_0 c14_rel_1 c14_rel_2
          clear q_a c14_a_0 c14_a_1 c14_a_2
          clear q_b c14_b_0 c14_b_1 c14_b_2
          clear q_by c14_by_0 c14_by_1
          go_wp2_with fail
          refine (DrawThreeMeet_any L2 p2 L2.length q2 rfl hlen2 _ (BIn.below HB2.out (by (repeat' (first | (with_reducible exact Below.refl _ _) | (with_reducible assumption) | (with_reducible refine Below.alloc ?_ ?_ _) | (with_reducible refine Below.drew ?_) | (with_reducible refine below_drewN ?_ _) | (with_reducible refine Below.setCell ?_ ?_ _) | (with_reducible refine below_call ?_ ?_ (by assumption)) | go_size))))).mono ?_
          rintro e15 w15 ⟨n3, d3, s3, n4, d4, s4, n5, d5, s5, rfl, ⟨kn3, kd3, ks3, kn4, kd4, ks4, kn5, kd5, ks5⟩, hb15⟩
          obtain ⟨hc15, hf15⟩ := bcell hb15
          have hz15 := hb15.size
          (try simp only [World.size_alloc, World.size_setCell, World.size_drew] at hz15)
          have B15 : Below w14.heap.size w14 w15 := Below.trans (b := _) (by (repeat' (first | (with_reducible exact Below.refl _ _) | (with_reducible assumption) | (with_reducible refine Below.alloc ?_ ?_ _) | (with_reducible refine Below.drew ?_) | (with_reducible refine below_drewN ?_ _) | (with_reducible refine Below.setCell ?_ ?_ _) | (with_reducible refine below_call ?_ ?_ (by assumption)) | go_size))) (hb15.mono (by first | omega | (simp only [World.size_alloc, World.size_setCell, World.size_drew]; omega)))
          obtain ⟨hd15, -⟩ := bcell B15
          have BW15 : Below w.heap.size w w15 := BW14.trans (B15.mono BW14.size)
          clear hc15 hf15 hb15 hd15 B15  BW14
          obtain ⟨LM, mo, h2⟩ : ∃ l o, aheadR n3 d3 s3 n4 d4 s4 0 1 = (l, o) := ⟨_, _, rfl⟩
          obtain ⟨L3, so, h3⟩ : ∃ l o, threeR (aheadR n3 d3 s3 n4 d4 s4 0 1) n3 d3 s3 n5 d5 s5 = (l, o) := ⟨_, _, rfl⟩
          have C9 := Lib.hid (fun W => (show Calls Try.prog 37 #[hv n3 d3 s3, hv n4 d4 s4, hv n5 d5 s5] W (TurnsOut W L3 so) from by have := implThreeMeet_any n3 d3 s3 n4 d4 s4 n5 d5 s5 W; rw [h3] at this; exact this))
          have C10 := Lib.hid (fun W => (show Calls Try.prog 38 #[hv n3 d3 s3, hv n4 d4 s4, hv n5 d5 s5] W (TurnsOut W L3 so) from by have := specThreeMeet_any n3 d3 s3 n4 d4 s4 n5 d5 s5 kd3 kd4 kd5 W; rw [h3] at this; exact this))
          have HL3 := Lib.hid (show L3.length ≤ 1000000 from by have := threeR_len (R := aheadR n3 d3 s3 n4 d4 s4 0 1) n3 d3 s3 n5 d5 s5 (aheadR_len n3 d3 s3 n4 d4 s4 0 1); rw [h3] at this; exact this)
          have HL2 := Lib.hid (show LM.length ≤ 1000000 from by have := aheadR_len n3 d3 s3 n4 d4 s4 0 1; rw [h2] at this; exact this)
          have F4 := Lib.hid (fun (e : so = true) => (show mo = true ∧ Rises L3 ∧ L3.length ≤ LM.length ∧ (LM.length : Int) ≤ 800 ∧ ∀ x ∈ LM, ∀ p q o, aheadAtT n3 d3 s3 n5 d5 s5 x.1 x.2 = (p, q, o) → hasT L3 x.1 x.2 = (o && (p == 0)) from by
            have hmo : mo = true := by
              rw [e] at h3
              unfold threeR at h3
              rw [h2] at h3
              cases mo
              · simp at h3
              · rfl
            subst hmo
            obtain ⟨⟨a1, -⟩, a2, a3, a4, a5, a6, -⟩ := ahead_all h2
            obtain ⟨b1, b2, b3⟩ := three_all h2 a6 a5 (twoB_bd a1).1 (by rw [h3, e] : threeR (aheadR n3 d3 s3 n4 d4 s4 0 1) n3 d3 s3 n5 d5 s5 = (L3, true))
            exact ⟨rfl, b1, b2, by split at a3 <;> omega, b3⟩))
          have C11 := Lib.hid (fun W => (show Calls Try.prog 9 #[hv n3 d3 s3, hv n4 d4 s4] W (TurnsOut W LM mo) from by have := implMeetTimes_any n3 d3 s3 n4 d4 s4 W; rw [h2] at this; exact this))
          clear h2 h3
          go_wp2_with fail
          refine (C9.out _).mono ?_
          rintro e16 w16 ⟨v_l3, rfl, hr16, hb16⟩
          obtain ⟨pa_l3, pc_l3, rfl, -⟩ := TRow.cells hr16
          have R16_l3 := Lib.hid hr16
          clear hr16
          obtain ⟨hc16, hf16⟩ := bcell hb16
          have hz16 := hb16.size
          (try simp only [World.size_alloc, World.size_setCell, World.size_drew] at hz16)
          have B16 : Below w15.heap.size w15 w16 := Below.trans (b := _) (by (repeat' (first | (with_reducible exact Below.refl _ _) | (with_reducible assumption) | (with_reducible refine Below.alloc ?_ ?_ _) | (with_reducible refine Below.drew ?_) | (with_reducible refine below_drewN ?_ _) | (with_reducible refine Below.setCell ?_ ?_ _) | (with_reducible refine below_call ?_ ?_ (by assumption)) | go_size))) (hb16.mono (by first | omega | (simp only [World.size_alloc, World.size_setCell, World.size_drew]; omega)))
          obtain ⟨hd16, -⟩ := bcell B16
          have c16_c_0 : w16.cell? ⟨w15.heap.size, 0, none⟩ = some (.int .i64 n3) := (hc16 _ _ (by go_size)).trans (by go_simp)
          have c16_c_1 : w16.cell? ⟨w15.heap.size, 1, none⟩ = some (.int .i64 d3) := (hc16 _ _ (by go_size)).trans (by go_simp)
          have c16_c_2 : w16.cell? ⟨w15.heap.size, 2, none⟩ = some (.int .i64 s3) := (hc16 _ _ (by go_size)).trans (by go_simp)
          have q_c : w15.heap.size < w16.heap.size := by omega
          have c16_d_0 : w16.cell? ⟨w15.heap.size + 1, 0, none⟩ = some (.int .i64 n4) := (hc16 _ _ (by go_size)).trans (by go_simp)
          have c16_d_1 : w16.cell? ⟨w15.heap.size + 1, 1, none⟩ = some (.int .i64 d4) := (hc16 _ _ (by go_size)).trans (by go_simp)
          have c16_d_2 : w16.cell? ⟨w15.heap.size + 1, 2, none⟩ = some (.int .i64 s4) := (hc16 _ _ (by go_size)).trans (by go_simp)
          have q_d : w15.heap.size + 1 < w16.heap.size := by omega
          have c16_e_0 : w16.cell? ⟨w15.heap.size + 1 + 1, 0, none⟩ = some (.int .i64 n5) := (hc16 _ _ (by go_size)).trans (by go_simp)
          have c16_e_1 : w16.cell? ⟨w15.heap.size + 1 + 1, 1, none⟩ = some (.int .i64 d5) := (hc16 _ _ (by go_size)).trans (by go_simp)
          have c16_e_2 : w16.cell? ⟨w15.heap.size + 1 + 1, 2, none⟩ = some (.int .i64 s5) := (hc16 _ _ (by go_size)).trans (by go_simp)
          have q_e : w15.heap.size + 1 + 1 < w16.heap.size := by omega
          have BW16 : Below w.heap.size w w16 := BW15.trans (B16.mono BW15.size)
          clear hc16 hf16 hb16 hd16 B16  BW15
          go_wp2_with fail
          refine (C10.out _).mono ?_
          rintro e17 w17 ⟨v_due, rfl, hr17, hb17⟩
          obtain ⟨pa_due, pc_due, rfl, -⟩ := TRow.cells hr17
          have R17_due := Lib.hid hr17
          clear hr17
          obtain ⟨hc17, hf17⟩ := bcell hb17
          have hz17 := hb17.size
          (try simp only [World.size_alloc, World.size_setCell, World.size_drew] at hz17)
          have B17 : Below w16.heap.size w16 w17 := Below.trans (b := _) (by (repeat' (first | (with_reducible exact Below.refl _ _) | (with_reducible assumption) | (with_reducible refine Below.alloc ?_ ?_ _) | (with_reducible refine Below.drew ?_) | (with_reducible refine below_drewN ?_ _) | (with_reducible refine Below.setCell ?_ ?_ _) | (with_reducible refine below_call ?_ ?_ (by assumption)) | go_size))) (hb17.mono (by first | omega | (simp only [World.size_alloc, World.size_setCell, World.size_drew]; omega)))
          obtain ⟨hd17, -⟩ := bcell B17
          have c17_c_0 : w17.cell? ⟨w15.heap.size, 0, none⟩ = some (.int .i64 n3) := (hd17 _ _ q_c).trans c16_c_0
          have c17_c_1 : w17.cell? ⟨w15.heap.size, 1, none⟩ = some (.int .i64 d3) := (hd17 _ _ q_c).trans c16_c_1
          have c17_c_2 : w17.cell? ⟨w15.heap.size, 2, none⟩ = some (.int .i64 s3) := (hd17 _ _ q_c).trans c16_c_2
          have c17_d_0 : w17.cell? ⟨w15.heap.size + 1, 0, none⟩ = some (.int .i64 n4) := (hd17 _ _ q_d).trans c16_d_0
          have c17_d_1 : w17.cell? ⟨w15.heap.size + 1, 1, none⟩ = some (.int .i64 d4) := (hd17 _ _ q_d).trans c16_d_1
          have c17_d_2 : w17.cell? ⟨w15.heap.size + 1, 2, none⟩ = some (.int .i64 s4) := (hd17 _ _ q_d).trans c16_d_2
          have c17_e_0 : w17.cell? ⟨w15.heap.size + 1 + 1, 0, none⟩ = some (.int .i64 n5) := (hd17 _ _ q_e).trans c16_e_0
          have c17_e_1 : w17.cell? ⟨w15.heap.size + 1 + 1, 1, none⟩ = some (.int .i64 d5) := (hd17 _ _ q_e).trans c16_e_1
          have c17_e_2 : w17.cell? ⟨w15.heap.size + 1 + 1, 2, none⟩ = some (.int .i64 s5) := (hd17 _ _ q_e).trans c16_e_2
          replace q_c : w15.heap.size < w17.heap.size := by omega
          replace q_d : w15.heap.size + 1 < w17.heap.size := by omega
          replace q_e : w15.heap.size + 1 + 1 < w17.heap.size := by omega
          have R17_l3 := Lib.hid (TRow.below R16_l3.out B17)
          clear R16_l3
          have BW17 : Below w.heap.size w w17 := BW16.trans (B17.mono BW16.size)
          clear hc17 hf17 hb17 hd17 B17 c16_c_0 c16_c_1 c16_c_2 c16_d_0 c16_d_1 c16_d_2 c16_e_0 c16_e_1 c16_e_2 BW16
          go_wp2_with fail
          refine (kTurns_same L3 _ _ _ _ _ R17_l3.out R17_due.out HL3.out).mono ?_
          rintro e18 w18 ⟨rfl, hb18⟩
          obtain ⟨hc18, hf18⟩ := bcell hb18
          have hz18 := hb18.size
          (try simp only [World.size_alloc, World.size_setCell, World.size_drew] at hz18)
          have B18 : Below w17.heap.size w17 w18 := Below.trans (b := _) (by (repeat' (first | (with_reducible exact Below.refl _ _) | (with_reducible assumption) | (with_reducible refine Below.alloc ?_ ?_ _) | (with_reducible refine Below.drew ?_) | (with_reducible refine below_drewN ?_ _) | (with_reducible refine Below.setCell ?_ ?_ _) | (with_reducible refine below_call ?_ ?_ (by assumption)) | go_size))) (hb18.mono (by first | omega | (simp only [World.size_alloc, World.size_setCell, World.size_drew]; omega)))
          obtain ⟨hd18, -⟩ := bcell B18
          have c18_c_0 : w18.cell? ⟨w15.heap.size, 0, none⟩ = some (.int .i64 n3) := (hd18 _ _ q_c).trans c17_c_0
          have c18_c_1 : w18.cell? ⟨w15.heap.size, 1, none⟩ = some (.int .i64 d3) := (hd18 _ _ q_c).trans c17_c_1
          have c18_c_2 : w18.cell? ⟨w15.heap.size, 2, none⟩ = some (.int .i64 s3) := (hd18 _ _ q_c).trans c17_c_2
          have c18_d_0 : w18.cell? ⟨w15.heap.size + 1, 0, none⟩ = some (.int .i64 n4) := (hd18 _ _ q_d).trans c17_d_0
          have c18_d_1 : w18.cell? ⟨w15.heap.size + 1, 1, none⟩ = some (.int .i64 d4) := (hd18 _ _ q_d).trans c17_d_1
          have c18_d_2 : w18.cell? ⟨w15.heap.size + 1, 2, none⟩ = some (.int .i64 s4) := (hd18 _ _ q_d).trans c17_d_2
          have c18_e_0 : w18.cell? ⟨w15.heap.size + 1 + 1, 0, none⟩ = some (.int .i64 n5) := (hd18 _ _ q_e).trans c17_e_0
          have c18_e_1 : w18.cell? ⟨w15.heap.size + 1 + 1, 1, none⟩ = some (.int .i64 d5) := (hd18 _ _ q_e).trans c17_e_1
          have c18_e_2 : w18.cell? ⟨w15.heap.size + 1 + 1, 2, none⟩ = some (.int .i64 s5) := (hd18 _ _ q_e).trans c17_e_2
          replace q_c : w15.heap.size < w18.heap.size := by omega
          replace q_d : w15.heap.size + 1 < w18.heap.size := by omega
          replace q_e : w15.heap.size + 1 + 1 < w18.heap.size := by omega
          have R18_l3 := Lib.hid (TRow.below R17_l3.out B18)
          clear R17_l3
          have R18_due := Lib.hid (TRow.below R17_due.out B18)
          clear R17_due
          have BW18 : Below w.heap.size w w18 := BW17.trans (B18.mono BW17.size)
          clear hc18 hf18 hb18 hd18 B18 c17_c_0 c17_c_1 c17_c_2 c17_d_0 c17_d_1 c17_d_2 c17_e_0 c17_e_1 c17_e_2 BW17
          go_upto_if 295 with fail
          go_cut [] from 999 to 999 (fun wx => Below w18.heap.size w18 wx)
          case first =>
            as_aux_lemma =>
              cases so
              · go_wp2_with fail
                go_meet
                case rel => exact Below.refl _ _
              · obtain ⟨hmo, hr, hle, hlen, hall⟩ := F4.out rfl
                subst hmo
                have HR := Lib.hid hr
                have HA := Lib.hid hall
                have HLE := Lib.hid hle
                clear hr hall hle
                go_wp2_with fail
                refine (C11.out _).mono ?_
                rintro e19 w19 ⟨v_l2, rfl, hr19, hb19⟩
                obtain ⟨pa_l2, pc_l2, rfl, -⟩ := TRow.cells hr19
                have R19_l2 := Lib.hid hr19
                clear hr19
                obtain ⟨hc19, hf19⟩ := bcell hb19
                have hz19 := hb19.size
                (try simp only [World.size_alloc, World.size_setCell, World.size_drew] at hz19)
                have B19 : Below w18.heap.size w18 w19 := Below.trans (b := _) (by (repeat' (first | (with_reducible exact Below.refl _ _) | (with_reducible assumption) | (with_reducible refine Below.alloc ?_ ?_ _) | (with_reducible refine Below.drew ?_) | (with_reducible refine below_drewN ?_ _) | (with_reducible refine Below.setCell ?_ ?_ _) | (with_reducible refine below_call ?_ ?_ (by assumption)) | go_size))) (hb19.mono (by first | omega | (simp only [World.size_alloc, World.size_setCell, World.size_drew]; omega)))
                obtain ⟨hd19, -⟩ := bcell B19
                have c19_c_0 : w19.cell? ⟨w15.heap.size, 0, none⟩ = some (.int .i64 n3) := (hd19 _ _ q_c).trans c18_c_0
                have c19_c_1 : w19.cell? ⟨w15.heap.size, 1, none⟩ = some (.int .i64 d3) := (hd19 _ _ q_c).trans c18_c_1
                have c19_c_2 : w19.cell? ⟨w15.heap.size, 2, none⟩ = some (.int .i64 s3) := (hd19 _ _ q_c).trans c18_c_2
                have c19_d_0 : w19.cell? ⟨w15.heap.size + 1, 0, none⟩ = some (.int .i64 n4) := (hd19 _ _ q_d).trans c18_d_0
                have c19_d_1 : w19.cell? ⟨w15.heap.size + 1, 1, none⟩ = some (.int .i64 d4) := (hd19 _ _ q_d).trans c18_d_1
                have c19_d_2 : w19.cell? ⟨w15.heap.size + 1, 2, none⟩ = some (.int .i64 s4) := (hd19 _ _ q_d).trans c18_d_2
                have c19_e_0 : w19.cell? ⟨w15.heap.size + 1 + 1, 0, none⟩ = some (.int .i64 n5) := (hd19 _ _ q_e).trans c18_e_0
                have c19_e_1 : w19.cell? ⟨w15.heap.size + 1 + 1, 1, none⟩ = some (.int .i64 d5) := (hd19 _ _ q_e).trans c18_e_1
                have c19_e_2 : w19.cell? ⟨w15.heap.size + 1 + 1, 2, none⟩ = some (.int .i64 s5) := (hd19 _ _ q_e).trans c18_e_2
                replace q_c : w15.heap.size < w19.heap.size := by omega
                replace q_d : w15.heap.size + 1 < w19.heap.size := by omega
                replace q_e : w15.heap.size + 1 + 1 < w19.heap.size := by omega
                have R19_l3 := Lib.hid (TRow.below R18_l3.out B19)
                clear R18_l3
                have R19_due := Lib.hid (TRow.below R18_due.out B19)
                clear R18_due
                have BW19 : Below w.heap.size w w19 := BW18.trans (B19.mono BW18.size)
                have BX19 : Below w18.heap.size w18 w19 := B19
                clear hc19 hf19 hb19 hd19 B19 c18_c_0 c18_c_1 c18_c_2 c18_d_0 c18_d_1 c18_d_2 c18_e_0 c18_e_1 c18_e_2 BW18
                go_wp2_with fail
                go_loopw [306] (fun i wr => ∃ k : Nat, k ≤ LM.length ∧ i = .int .i64 (k : Int) ∧ Below w19.heap.size w19 wr) (fun i _ => LM.length - (RowKit.intOf i).toNat)
                case atStart => exact ⟨0, Nat.zero_le _, rfl, Below.refl _ _⟩
                case round =>
                  obtain ⟨k, hk, rfl, hb20⟩ := hrel
                  obtain ⟨w20, hw20⟩ : ∃ x : World, x = wr := ⟨_, rfl⟩
                  subst hw20
                  have hb20' := hb20
                  obtain ⟨hc20, hf20⟩ := bcell hb20
                  have hz20 := hb20.size
                  (try simp only [World.size_alloc, World.size_setCell, World.size_drew] at hz20)
                  have B20 : Below w19.heap.size w19 w20 := Below.trans (b := _) (by (repeat' (first | (with_reducible exact Below.refl _ _) | (with_reducible assumption) | (with_reducible refine Below.alloc ?_ ?_ _) | (with_reducible refine Below.drew ?_) | (with_reducible refine below_drewN ?_ _) | (with_reducible refine Below.setCell ?_ ?_ _) | (with_reducible refine below_call ?_ ?_ (by assumption)) | go_size))) (hb20.mono (by first | omega | (simp only [World.size_alloc, World.size_setCell, World.size_drew]; omega)))
                  obtain ⟨hd20, -⟩ := bcell B20
                  have c20_c_0 : w20.cell? ⟨w15.heap.size, 0, none⟩ = some (.int .i64 n3) := (hd20 _ _ q_c).trans c19_c_0
                  have c20_c_1 : w20.cell? ⟨w15.heap.size, 1, none⟩ = some (.int .i64 d3) := (hd20 _ _ q_c).trans c19_c_1
                  have c20_c_2 : w20.cell? ⟨w15.heap.size, 2, none⟩ = some (.int .i64 s3) := (hd20 _ _ q_c).trans c19_c_2
                  have c20_d_0 : w20.cell? ⟨w15.heap.size + 1, 0, none⟩ = some (.int .i64 n4) := (hd20 _ _ q_d).trans c19_d_0
                  have c20_d_1 : w20.cell? ⟨w15.heap.size + 1, 1, none⟩ = some (.int .i64 d4) := (hd20 _ _ q_d).trans c19_d_1
                  have c20_d_2 : w20.cell? ⟨w15.heap.size + 1, 2, none⟩ = some (.int .i64 s4) := (hd20 _ _ q_d).trans c19_d_2
                  have c20_e_0 : w20.cell? ⟨w15.heap.size + 1 + 1, 0, none⟩ = some (.int .i64 n5) := (hd20 _ _ q_e).trans c19_e_0
                  have c20_e_1 : w20.cell? ⟨w15.heap.size + 1 + 1, 1, none⟩ = some (.int .i64 d5) := (hd20 _ _ q_e).trans c19_e_1
                  have c20_e_2 : w20.cell? ⟨w15.heap.size + 1 + 1, 2, none⟩ = some (.int .i64 s5) := (hd20 _ _ q_e).trans c19_e_2
                  replace q_c : w15.heap.size < w20.heap.size := by omega
                  replace q_d : w15.heap.size + 1 < w20.heap.size := by omega
                  replace q_e : w15.heap.size + 1 + 1 < w20.heap.size := by omega
                  have R20_l3 := Lib.hid (TRow.below R19_l3.out B20)
                  clear R19_l3
                  have R20_due := Lib.hid (TRow.below R19_due.out B20)
                  clear R19_due
                  have R20_l2 := Lib.hid (TRow.below R19_l2.out B20)
                  clear R19_l2
                  have BW20 : Below w.heap.size w w20 := BW19.trans (B20.mono BW19.size)
                  have BX20 : Below w18.heap.size w18 w20 := BX19.trans (B20.mono BX19.size)
                  clear BX19
                  clear hc20 hf20 hb20 hd20 B20 c19_c_0 c19_c_1 c19_c_2 c19_d_0 c19_d_1 c19_d_2 c19_e_0 c19_e_1 c19_e_2 BW19
                  have i0 : (0 : Int) ≤ (k : Int) := Int.natCast_nonneg _
                  by_cases hlt : k < LM.length
                  · have i1 : (k : Int) < (LM.length : Int) := by omega
                    have hmem : LM.getD k (0, 0) ∈ LM := by rw [List.getD_eq_getElem?_getD, List.getElem?_eq_getElem hlt]; exact List.getElem_mem hlt
                    obtain ⟨ap, aq, ao, hap⟩ : ∃ x y o, aheadAtT n3 d3 s3 n5 d5 s5 (LM.getD k (0, 0)).1 (LM.getD k (0, 0)).2 = (x, y, o) := ⟨_, _, _, rfl⟩
                    have ha := HA.out _ hmem _ _ _ hap
                    obtain ⟨pa, pc, hpv, hl1, hl2, hcell⟩ := TRow.cells R20_l2.out
                    simp only [Value.slice.injEq] at hpv
                    obtain ⟨hp1, -, hp2⟩ := hpv
                    subst hp1
                    subst hp2
                    obtain ⟨ga, rfl, u1, u2a, u3a, u4a⟩ := hcell k (by omega)
                    clear hcell hl1 hl2 u1
                    clear hmem
                    generalize LM.getD k (0, 0) = x at *
                    obtain ⟨p1, p2⟩ := x
                    simp only at u3a u4a ha hap
                    have Z1 := Lib.hid (fun W => (show Calls Try.prog 30 #[hv n3 d3 s3, hv n5 d5 s5, tv p1 p2] W fun e w' => e = .returned (rv (ap, aq, ao)) ∧ Below W.heap.size W w' from by have := implAheadAt_any n3 d3 s3 n5 d5 s5 p1 p2 W; rw [hap] at this; exact this))
                    have HH := Lib.hid ha
                    clear ha hap
                    go_wp2_with fail
                    refine (Z1.out _).mono ?_
                    rintro e21 w21 ⟨rfl, hb21⟩
                    obtain ⟨hc21, hf21⟩ := bcell hb21
                    have hz21 := hb21.size
                    (try simp only [World.size_alloc, World.size_setCell, World.size_drew] at hz21)
                    have B21 : Below w20.heap.size w20 w21 := Below.trans (b := _) (by (repeat' (first | (with_reducible exact Below.refl _ _) | (with_reducible assumption) | (with_reducible refine Below.alloc ?_ ?_ _) | (with_reducible refine Below.drew ?_) | (with_reducible refine below_drewN ?_ _) | (with_reducible refine Below.setCell ?_ ?_ _) | (with_reducible refine below_call ?_ ?_ (by assumption)) | go_size))) (hb21.mono (by first | omega | (simp only [World.size_alloc, World.size_setCell, World.size_drew]; omega)))
                    obtain ⟨hd21, -⟩ := bcell B21
                    have c21_c_0 : w21.cell? ⟨w15.heap.size, 0, none⟩ = some (.int .i64 n3) := (hd21 _ _ q_c).trans c20_c_0
                    have c21_c_1 : w21.cell? ⟨w15.heap.size, 1, none⟩ = some (.int .i64 d3) := (hd21 _ _ q_c).trans c20_c_1
                    have c21_c_2 : w21.cell? ⟨w15.heap.size, 2, none⟩ = some (.int .i64 s3) := (hd21 _ _ q_c).trans c20_c_2
                    have c21_d_0 : w21.cell? ⟨w15.heap.size + 1, 0, none⟩ = some (.int .i64 n4) := (hd21 _ _ q_d).trans c20_d_0
                    have c21_d_1 : w21.cell? ⟨w15.heap.size + 1, 1, none⟩ = some (.int .i64 d4) := (hd21 _ _ q_d).trans c20_d_1
                    have c21_d_2 : w21.cell? ⟨w15.heap.size + 1, 2, none⟩ = some (.int .i64 s4) := (hd21 _ _ q_d).trans c20_d_2
                    have c21_e_0 : w21.cell? ⟨w15.heap.size + 1 + 1, 0, none⟩ = some (.int .i64 n5) := (hd21 _ _ q_e).trans c20_e_0
                    have c21_e_1 : w21.cell? ⟨w15.heap.size + 1 + 1, 1, none⟩ = some (.int .i64 d5) := (hd21 _ _ q_e).trans c20_e_1
                    have c21_e_2 : w21.cell? ⟨w15.heap.size + 1 + 1, 2, none⟩ = some (.int .i64 s5) := (hd21 _ _ q_e).trans c20_e_2
                    replace q_c : w15.heap.size < w21.heap.size := by omega
                    replace q_d : w15.heap.size + 1 < w21.heap.size := by omega
                    replace q_e : w15.heap.size + 1 + 1 < w21.heap.size := by omega
                    have c21_x_0 : w21.cell? ⟨w20.heap.size, 0, none⟩ = some (.int .i64 p1) := (hc21 _ _ (by go_size)).trans (by go_simp)
                    have c21_x_1 : w21.cell? ⟨w20.heap.size, 1, none⟩ = some (.int .i64 p2) := (hc21 _ _ (by go_size)).trans (by go_simp)
                    have q_x : w20.heap.size < w21.heap.size := by omega
                    have R21_l3 := Lib.hid (TRow.below R20_l3.out B21)
                    clear R20_l3
                    have R21_due := Lib.hid (TRow.below R20_due.out B21)
                    clear R20_due
                    have R21_l2 := Lib.hid (TRow.below R20_l2.out B21)
                    clear R20_l2
                    have BW21 : Below w.heap.size w w21 := BW20.trans (B21.mono BW20.size)
                    have BX21 : Below w20.heap.size w20 w21 := B21
                    clear hc21 hf21 hb21 hd21 B21 c20_c_0 c20_c_1 c20_c_2 c20_d_0 c20_d_1 c20_d_2 c20_e_0 c20_e_1 c20_e_2 BW20
                    go_upto_region 50 with fail
                    have hb22 : Below w21.heap.size w21 (w21.alloc (Obj.cells #[.int .i64 ap, .int .i64 aq] 25)) := by (repeat' (first | (with_reducible exact Below.refl _ _) | (with_reducible assumption) | (with_reducible refine Below.alloc ?_ ?_ _) | (with_reducible refine Below.drew ?_) | (with_reducible refine below_drewN ?_ _) | (with_reducible refine Below.setCell ?_ ?_ _) | (with_reducible refine below_call ?_ ?_ (by assumption)) | go_size))
                    have c22_own_0 : (w21.alloc (Obj.cells #[.int .i64 ap, .int .i64 aq] 25)).cell? ⟨w21.heap.size, 0, none⟩ = some (.int .i64 ap) := by go_simp
                    have c22_own_1 : (w21.alloc (Obj.cells #[.int .i64 ap, .int .i64 aq] 25)).cell? ⟨w21.heap.size, 1, none⟩ = some (.int .i64 aq) := by go_simp
                    have q_own : w21.heap.size < (w21.alloc (Obj.cells #[.int .i64 ap, .int .i64 aq] 25)).heap.size := by go_size
                    generalize (w21.alloc (Obj.cells #[.int .i64 ap, .int .i64 aq] 25)) = w22 at *
                    obtain ⟨hd22, -⟩ := bcell hb22
                    have hz22 := hb22.size
                    have c22_c_0 : w22.cell? ⟨w15.heap.size, 0, none⟩ = some (.int .i64 n3) := (hd22 _ _ q_c).trans c21_c_0
                    have c22_c_1 : w22.cell? ⟨w15.heap.size, 1, none⟩ = some (.int .i64 d3) := (hd22 _ _ q_c).trans c21_c_1
                    have c22_c_2 : w22.cell? ⟨w15.heap.size, 2, none⟩ = some (.int .i64 s3) := (hd22 _ _ q_c).trans c21_c_2
                    have c22_d_0 : w22.cell? ⟨w15.heap.size + 1, 0, none⟩ = some (.int .i64 n4) := (hd22 _ _ q_d).trans c21_d_0
                    have c22_d_1 : w22.cell? ⟨w15.heap.size + 1, 1, none⟩ = some (.int .i64 d4) := (hd22 _ _ q_d).trans c21_d_1
                    have c22_d_2 : w22.cell? ⟨w15.heap.size + 1, 2, none⟩ = some (.int .i64 s4) := (hd22 _ _ q_d).trans c21_d_2
                    have c22_e_0 : w22.cell? ⟨w15.heap.size + 1 + 1, 0, none⟩ = some (.int .i64 n5) := (hd22 _ _ q_e).trans c21_e_0
                    have c22_e_1 : w22.cell? ⟨w15.heap.size + 1 + 1, 1, none⟩ = some (.int .i64 d5) := (hd22 _ _ q_e).trans c21_e_1
                    have c22_e_2 : w22.cell? ⟨w15.heap.size + 1 + 1, 2, none⟩ = some (.int .i64 s5) := (hd22 _ _ q_e).trans c21_e_2
                    have c22_x_0 : w22.cell? ⟨w20.heap.size, 0, none⟩ = some (.int .i64 p1) := (hd22 _ _ q_x).trans c21_x_0
                    have c22_x_1 : w22.cell? ⟨w20.heap.size, 1, none⟩ = some (.int .i64 p2) := (hd22 _ _ q_x).trans c21_x_1
                    replace q_c : w15.heap.size < w22.heap.size := by omega
                    replace q_d : w15.heap.size + 1 < w22.heap.size := by omega
                    replace q_e : w15.heap.size + 1 + 1 < w22.heap.size := by omega
                    replace q_x : w20.heap.size < w22.heap.size := by omega
                    have R22_l3 := Lib.hid (TRow.below R21_l3.out hb22)
                    clear R21_l3
                    have R22_due := Lib.hid (TRow.below R21_due.out hb22)
                    clear R21_due
                    have R22_l2 := Lib.hid (TRow.below R21_l2.out hb22)
                    clear R21_l2
                    have BW22 : Below w.heap.size w w22 := BW21.trans (hb22.mono BW21.size)
                    have BX22 : Below w20.heap.size w20 w22 := BX21.trans (hb22.mono BX21.size)
                    clear BX21
                    clear hb22 hd22 c21_c_0 c21_c_1 c21_c_2 c21_d_0 c21_d_1 c21_d_2 c21_e_0 c21_e_1 c21_e_2 c21_x_0 c21_x_1 BW21
                    go_wp2_with fail
                    refine (kIn_is L3 _ _ _ _ _ HH.out R22_l3.out HL3.out).mono ?_
                    rintro e23 w23 ⟨rfl, hb23⟩
                    obtain ⟨hc23, hf23⟩ := bcell hb23
                    have hz23 := hb23.size
                    (try simp only [World.size_alloc, World.size_setCell, World.size_drew] at hz23)
                    have B23 : Below w22.heap.size w22 w23 := Below.trans (b := _) (by (repeat' (first | (with_reducible exact Below.refl _ _) | (with_reducible assumption) | (with_reducible refine Below.alloc ?_ ?_ _) | (with_reducible refine Below.drew ?_) | (with_reducible refine below_drewN ?_ _) | (with_reducible refine Below.setCell ?_ ?_ _) | (with_reducible refine below_call ?_ ?_ (by assumption)) | go_size))) (hb23.mono (by first | omega | (simp only [World.size_alloc, World.size_setCell, World.size_drew]; omega)))
                    obtain ⟨hd23, -⟩ := bcell B23
                    have c23_c_0 : w23.cell? ⟨w15.heap.size, 0, none⟩ = some (.int .i64 n3) := (hd23 _ _ q_c).trans c22_c_0
                    have c23_c_1 : w23.cell? ⟨w15.heap.size, 1, none⟩ = some (.int .i64 d3) := (hd23 _ _ q_c).trans c22_c_1
                    have c23_c_2 : w23.cell? ⟨w15.heap.size, 2, none⟩ = some (.int .i64 s3) := (hd23 _ _ q_c).trans c22_c_2
                    have c23_d_0 : w23.cell? ⟨w15.heap.size + 1, 0, none⟩ = some (.int .i64 n4) := (hd23 _ _ q_d).trans c22_d_0
                    have c23_d_1 : w23.cell? ⟨w15.heap.size + 1, 1, none⟩ = some (.int .i64 d4) := (hd23 _ _ q_d).trans c22_d_1
                    have c23_d_2 : w23.cell? ⟨w15.heap.size + 1, 2, none⟩ = some (.int .i64 s4) := (hd23 _ _ q_d).trans c22_d_2
                    have c23_e_0 : w23.cell? ⟨w15.heap.size + 1 + 1, 0, none⟩ = some (.int .i64 n5) := (hd23 _ _ q_e).trans c22_e_0
                    have c23_e_1 : w23.cell? ⟨w15.heap.size + 1 + 1, 1, none⟩ = some (.int .i64 d5) := (hd23 _ _ q_e).trans c22_e_1
                    have c23_e_2 : w23.cell? ⟨w15.heap.size + 1 + 1, 2, none⟩ = some (.int .i64 s5) := (hd23 _ _ q_e).trans c22_e_2
                    have c23_x_0 : w23.cell? ⟨w20.heap.size, 0, none⟩ = some (.int .i64 p1) := (hd23 _ _ q_x).trans c22_x_0
                    have c23_x_1 : w23.cell? ⟨w20.heap.size, 1, none⟩ = some (.int .i64 p2) := (hd23 _ _ q_x).trans c22_x_1
                    have c23_own_0 : w23.cell? ⟨w21.heap.size, 0, none⟩ = some (.int .i64 ap) := (hd23 _ _ q_own).trans c22_own_0
                    have c23_own_1 : w23.cell? ⟨w21.heap.size, 1, none⟩ = some (.int .i64 aq) := (hd23 _ _ q_own).trans c22_own_1
                    replace q_c : w15.heap.size < w23.heap.size := by omega
                    replace q_d : w15.heap.size + 1 < w23.heap.size := by omega
                    replace q_e : w15.heap.size + 1 + 1 < w23.heap.size := by omega
                    replace q_x : w20.heap.size < w23.heap.size := by omega
                    replace q_own : w21.heap.size < w23.heap.size := by omega
                    have R23_l3 := Lib.hid (TRow.below R22_l3.out B23)
                    clear R22_l3
                    have R23_due := Lib.hid (TRow.below R22_due.out B23)
                    clear R22_due
                    have R23_l2 := Lib.hid (TRow.below R22_l2.out B23)
                    clear R22_l2
                    have BW23 : Below w.heap.size w w23 := BW22.trans (B23.mono BW22.size)
                    have BX23 : Below w20.heap.size w20 w23 := BX22.trans (B23.mono BX22.size)
                    clear BX22
                    clear hc23 hf23 hb23 hd23 B23 c22_c_0 c22_c_1 c22_c_2 c22_d_0 c22_d_1 c22_d_2 c22_e_0 c22_e_1 c22_e_2 c22_x_0 c22_x_1 c22_own_0 c22_own_1 BW22
                    cases ao
                    · go_wp2_with fail
                      go_roundw
                      case rel => exact ⟨k + 1, by omega, by go_num, hb20'.trans (BX23.mono hb20'.size)⟩
                      case measure => simp [RowKit.intOf]; omega
                    · go_wp2_with fail
                      go_roundw
                      case rel => exact ⟨k + 1, by omega, by go_num, hb20'.trans (BX23.mono hb20'.size)⟩
                      case measure => simp [RowKit.intOf]; omega
                  go_wp2_with fail
                  refine (kRises_yes L3 _ _ _ R20_l3.out HL3.out HR.out).mono ?_
                  rintro e21 w21 ⟨rfl, hb21⟩
                  obtain ⟨hc21, hf21⟩ := bcell hb21
                  have hz21 := hb21.size
                  (try simp only [World.size_alloc, World.size_setCell, World.size_drew] at hz21)
                  have B21 : Below w20.heap.size w20 w21 := Below.trans (b := _) (by (repeat' (first | (with_reducible exact Below.refl _ _) | (with_reducible assumption) | (with_reducible refine Below.alloc ?_ ?_ _) | (with_reducible refine Below.drew ?_) | (with_reducible refine below_drewN ?_ _) | (with_reducible refine Below.setCell ?_ ?_ _) | (with_reducible refine below_call ?_ ?_ (by assumption)) | go_size))) (hb21.mono (by first | omega | (simp only [World.size_alloc, World.size_setCell, World.size_drew]; omega)))
                  obtain ⟨hd21, -⟩ := bcell B21
                  have c21_c_0 : w21.cell? ⟨w15.heap.size, 0, none⟩ = some (.int .i64 n3) := (hd21 _ _ q_c).trans c20_c_0
                  have c21_c_1 : w21.cell? ⟨w15.heap.size, 1, none⟩ = some (.int .i64 d3) := (hd21 _ _ q_c).trans c20_c_1
                  have c21_c_2 : w21.cell? ⟨w15.heap.size, 2, none⟩ = some (.int .i64 s3) := (hd21 _ _ q_c).trans c20_c_2
                  have c21_d_0 : w21.cell? ⟨w15.heap.size + 1, 0, none⟩ = some (.int .i64 n4) := (hd21 _ _ q_d).trans c20_d_0
                  have c21_d_1 : w21.cell? ⟨w15.heap.size + 1, 1, none⟩ = some (.int .i64 d4) := (hd21 _ _ q_d).trans c20_d_1
                  have c21_d_2 : w21.cell? ⟨w15.heap.size + 1, 2, none⟩ = some (.int .i64 s4) := (hd21 _ _ q_d).trans c20_d_2
                  have c21_e_0 : w21.cell? ⟨w15.heap.size + 1 + 1, 0, none⟩ = some (.int .i64 n5) := (hd21 _ _ q_e).trans c20_e_0
                  have c21_e_1 : w21.cell? ⟨w15.heap.size + 1 + 1, 1, none⟩ = some (.int .i64 d5) := (hd21 _ _ q_e).trans c20_e_1
                  have c21_e_2 : w21.cell? ⟨w15.heap.size + 1 + 1, 2, none⟩ = some (.int .i64 s5) := (hd21 _ _ q_e).trans c20_e_2
                  replace q_c : w15.heap.size < w21.heap.size := by omega
                  replace q_d : w15.heap.size + 1 < w21.heap.size := by omega
                  replace q_e : w15.heap.size + 1 + 1 < w21.heap.size := by omega
                  have R21_l3 := Lib.hid (TRow.below R20_l3.out B21)
                  clear R20_l3
                  have R21_due := Lib.hid (TRow.below R20_due.out B21)
                  clear R20_due
                  have R21_l2 := Lib.hid (TRow.below R20_l2.out B21)
                  clear R20_l2
                  have BW21 : Below w.heap.size w w21 := BW20.trans (B21.mono BW20.size)
                  have BX21 : Below w18.heap.size w18 w21 := BX20.trans (B21.mono BX20.size)
                  clear BX20
                  clear hc21 hf21 hb21 hd21 B21 c20_c_0 c20_c_1 c20_c_2 c20_d_0 c20_d_1 c20_d_2 c20_e_0 c20_e_1 c20_e_2 BW20
                  have hgt : ¬ (LM.length : Int) < (L3.length : Int) := by have := HLE.out; omega
                  have hrelB := BX21
                  go_wp2_with fail
                  go_meet
                  case rel => exact hrelB
          case rest =>
            have hb19 := hcut
            obtain ⟨w19, hw19⟩ : ∃ x : World, x = wc := ⟨_, rfl⟩
            subst hw19
            obtain ⟨hc19, hf19⟩ := bcell hb19
            have hz19 := hb19.size
            (try simp only [World.size_alloc, World.size_setCell, World.size_drew] at hz19)
            have B19 : Below w18.heap.size w18 w19 := Below.trans (b := _) (by (repeat' (first | (with_reducible exact Below.refl _ _) | (with_reducible assumption) | (with_reducible refine Below.alloc ?_ ?_ _) | (with_reducible refine Below.drew ?_) | (with_reducible refine below_drewN ?_ _) | (with_reducible refine Below.setCell ?_ ?_ _) | (with_reducible refine below_call ?_ ?_ (by assumption)) | go_size))) (hb19.mono (by first | omega | (simp only [World.size_alloc, World.size_setCell, World.size_drew]; omega)))
            obtain ⟨hd19, -⟩ := bcell B19
            have c19_c_0 : w19.cell? ⟨w15.heap.size, 0, none⟩ = some (.int .i64 n3) := (hd19 _ _ q_c).trans c18_c_0
            have c19_c_1 : w19.cell? ⟨w15.heap.size, 1, none⟩ = some (.int .i64 d3) := (hd19 _ _ q_c).trans c18_c_1
            have c19_c_2 : w19.cell? ⟨w15.heap.size, 2, none⟩ = some (.int .i64 s3) := (hd19 _ _ q_c).trans c18_c_2
            have c19_d_0 : w19.cell? ⟨w15.heap.size + 1, 0, none⟩ = some (.int .i64 n4) := (hd19 _ _ q_d).trans c18_d_0
            have c19_d_1 : w19.cell? ⟨w15.heap.size + 1, 1, none⟩ = some (.int .i64 d4) := (hd19 _ _ q_d).trans c18_d_1
            have c19_d_2 : w19.cell? ⟨w15.heap.size + 1, 2, none⟩ = some (.int .i64 s4) := (hd19 _ _ q_d).trans c18_d_2
            have c19_e_0 : w19.cell? ⟨w15.heap.size + 1 + 1, 0, none⟩ = some (.int .i64 n5) := (hd19 _ _ q_e).trans c18_e_0
            have c19_e_1 : w19.cell? ⟨w15.heap.size + 1 + 1, 1, none⟩ = some (.int .i64 d5) := (hd19 _ _ q_e).trans c18_e_1
            have c19_e_2 : w19.cell? ⟨w15.heap.size + 1 + 1, 2, none⟩ = some (.int .i64 s5) := (hd19 _ _ q_e).trans c18_e_2
            replace q_c : w15.heap.size < w19.heap.size := by omega
            replace q_d : w15.heap.size + 1 < w19.heap.size := by omega
            replace q_e : w15.heap.size + 1 + 1 < w19.heap.size := by omega
            have R19_l3 := Lib.hid (TRow.below R18_l3.out B19)
            clear R18_l3
            have R19_due := Lib.hid (TRow.below R18_due.out B19)
            clear R18_due
            have BW19 : Below w.heap.size w w19 := BW18.trans (B19.mono BW18.size)
            clear hc19 hf19 hb19 hd19 B19 c18_c_0 c18_c_1 c18_c_2 c18_d_0 c18_d_1 c18_d_2 c18_e_0 c18_e_1 c18_e_2 BW18
            clear R19_l3
            clear R19_due
            clear q_c c19_c_0 c19_c_1 c19_c_2
            clear q_d c19_d_0 c19_d_1 c19_d_2
            clear q_e c19_e_0 c19_e_1 c19_e_2
            go_wp2_with fail
            refine (DrawTimesAtPlace_any L2 p2 L2.length q2 rfl hlen2 _ (BIn.below HB2.out (by (repeat' (first | (with_reducible exact Below.refl _ _) | (with_reducible assumption) | (with_reducible refine Below.alloc ?_ ?_ _) | (with_reducible refine Below.drew ?_) | (with_reducible refine below_drewN ?_ _) | (with_reducible refine Below.setCell ?_ ?_ _) | (with_reducible refine below_call ?_ ?_ (by assumption)) | go_size))))).mono ?_
            rintro e20 w20 ⟨n6, d6, s6, n7, d7, rfl, ⟨kn6, kd6, ks6, kn7, kd7⟩, hb20⟩
            obtain ⟨hc20, hf20⟩ := bcell hb20
            have hz20 := hb20.size
            (try simp only [World.size_alloc, World.size_setCell, World.size_drew] at hz20)
            have B20 : Below w19.heap.size w19 w20 := Below.trans (b := _) (by (repeat' (first | (with_reducible exact Below.refl _ _) | (with_reducible assumption) | (with_reducible refine Below.alloc ?_ ?_ _) | (with_reducible refine Below.drew ?_) | (with_reducible refine below_drewN ?_ _) | (with_reducible refine Below.setCell ?_ ?_ _) | (with_reducible refine below_call ?_ ?_ (by assumption)) | go_size))) (hb20.mono (by first | omega | (simp only [World.size_alloc, World.size_setCell, World.size_drew]; omega)))
            obtain ⟨hd20, -⟩ := bcell B20
            have BW20 : Below w.heap.size w w20 := BW19.trans (B20.mono BW19.size)
            clear hc20 hf20 hb20 hd20 B20  BW19
            obtain ⟨L5, po, h5⟩ : ∃ l o, placeR n6 d6 s6 n7 d7 = (l, o) := ⟨_, _, rfl⟩
            obtain ⟨kn, kd, ko, hK⟩ : ∃ x y o, handAtT n6 d6 s6 n7 d7 = (x, y, o) := ⟨_, _, _, rfl⟩
            have C12 := Lib.hid (fun W => (show Calls Try.prog 40 #[hv n6 d6 s6, tv n7 d7] W (TurnsOut W L5 po) from by have := implTimesAtPlace_any n6 d6 s6 n7 d7 W; rw [h5] at this; exact this))
            have C13 := Lib.hid (fun W => (show Calls Try.prog 41 #[hv n6 d6 s6, tv n7 d7] W (TurnsOut W L5 po) from by have := specTimesAtPlace_any n6 d6 s6 n7 d7 kd6 kd7 W; rw [h5] at this; exact this))
            have C14 := Lib.hid (fun W => (show Calls Try.prog 22 #[hv n6 d6 s6, tv n7 d7] W fun e w' => e = .returned (rv (kn, kd, ko)) ∧ Below W.heap.size W w' from by have := implHandAt_any n6 d6 s6 n7 d7 W; rw [hK] at this; exact this))
            have C15 := Lib.hid (fun W => (show Calls Try.prog 42 #[hv n6 d6 s6, tv n7 d7] W fun e w' => e = .returned (rv (kn, kd, ko)) ∧ Below W.heap.size W w' from by have := specHandAt_any n6 d6 s6 n7 d7 kd6 kd7 W; rw [hK] at this; exact this))
            have HL5 := Lib.hid (show L5.length ≤ 1000000 from by have := placeR_len n6 d6 s6 n7 d7; rw [h5] at this; exact this)
            have F5 := Lib.hid (fun (e : po = true) => place_all (by rw [h5, e] : placeR n6 d6 s6 n7 d7 = (L5, true)))
            clear h5 hK
            go_wp2_with fail
            refine (C12.out _).mono ?_
            rintro e21 w21 ⟨v_l5, rfl, hr21, hb21⟩
            obtain ⟨pa_l5, pc_l5, rfl, -⟩ := TRow.cells hr21
            have R21_l5 := Lib.hid hr21
            clear hr21
            obtain ⟨hc21, hf21⟩ := bcell hb21
            have hz21 := hb21.size
            (try simp only [World.size_alloc, World.size_setCell, World.size_drew] at hz21)
            have B21 : Below w20.heap.size w20 w21 := Below.trans (b := _) (by (repeat' (first | (with_reducible exact Below.refl _ _) | (with_reducible assumption) | (with_reducible refine Below.alloc ?_ ?_ _) | (with_reducible refine Below.drew ?_) | (with_reducible refine below_drewN ?_ _) | (with_reducible refine Below.setCell ?_ ?_ _) | (with_reducible refine below_call ?_ ?_ (by assumption)) | go_size))) (hb21.mono (by first | omega | (simp only [World.size_alloc, World.size_setCell, World.size_drew]; omega)))
            obtain ⟨hd21, -⟩ := bcell B21
            have c21_p_0 : w21.cell? ⟨w20.heap.size, 0, none⟩ = some (.int .i64 n6) := (hc21 _ _ (by go_size)).trans (by go_simp)
            have c21_p_1 : w21.cell? ⟨w20.heap.size, 1, none⟩ = some (.int .i64 d6) := (hc21 _ _ (by go_size)).trans (by go_simp)
            have c21_p_2 : w21.cell? ⟨w20.heap.size, 2, none⟩ = some (.int .i64 s6) := (hc21 _ _ (by go_size)).trans (by go_simp)
            have q_p : w20.heap.size < w21.heap.size := by omega
            have c21_pl_0 : w21.cell? ⟨w20.heap.size + 1, 0, none⟩ = some (.int .i64 n7) := (hc21 _ _ (by go_size)).trans (by go_simp)
            have c21_pl_1 : w21.cell? ⟨w20.heap.size + 1, 1, none⟩ = some (.int .i64 d7) := (hc21 _ _ (by go_size)).trans (by go_simp)
            have q_pl : w20.heap.size + 1 < w21.heap.size := by omega
            have BW21 : Below w.heap.size w w21 := BW20.trans (B21.mono BW20.size)
            clear hc21 hf21 hb21 hd21 B21  BW20
            go_wp2_with fail
            refine (C13.out _).mono ?_
            rintro e22 w22 ⟨v_rows, rfl, hr22, hb22⟩
            obtain ⟨pa_rows, pc_rows, rfl, -⟩ := TRow.cells hr22
            have R22_rows := Lib.hid hr22
            clear hr22
            obtain ⟨hc22, hf22⟩ := bcell hb22
            have hz22 := hb22.size
            (try simp only [World.size_alloc, World.size_setCell, World.size_drew] at hz22)
            have B22 : Below w21.heap.size w21 w22 := Below.trans (b := _) (by (repeat' (first | (with_reducible exact Below.refl _ _) | (with_reducible assumption) | (with_reducible refine Below.alloc ?_ ?_ _) | (with_reducible refine Below.drew ?_) | (with_reducible refine below_drewN ?_ _) | (with_reducible refine Below.setCell ?_ ?_ _) | (with_reducible refine below_call ?_ ?_ (by assumption)) | go_size))) (hb22.mono (by first | omega | (simp only [World.size_alloc, World.size_setCell, World.size_drew]; omega)))
            obtain ⟨hd22, -⟩ := bcell B22
            have c22_p_0 : w22.cell? ⟨w20.heap.size, 0, none⟩ = some (.int .i64 n6) := (hd22 _ _ q_p).trans c21_p_0
            have c22_p_1 : w22.cell? ⟨w20.heap.size, 1, none⟩ = some (.int .i64 d6) := (hd22 _ _ q_p).trans c21_p_1
            have c22_p_2 : w22.cell? ⟨w20.heap.size, 2, none⟩ = some (.int .i64 s6) := (hd22 _ _ q_p).trans c21_p_2
            have c22_pl_0 : w22.cell? ⟨w20.heap.size + 1, 0, none⟩ = some (.int .i64 n7) := (hd22 _ _ q_pl).trans c21_pl_0
            have c22_pl_1 : w22.cell? ⟨w20.heap.size + 1, 1, none⟩ = some (.int .i64 d7) := (hd22 _ _ q_pl).trans c21_pl_1
            replace q_p : w20.heap.size < w22.heap.size := by omega
            replace q_pl : w20.heap.size + 1 < w22.heap.size := by omega
            have R22_l5 := Lib.hid (TRow.below R21_l5.out B22)
            clear R21_l5
            have BW22 : Below w.heap.size w w22 := BW21.trans (B22.mono BW21.size)
            clear hc22 hf22 hb22 hd22 B22 c21_p_0 c21_p_1 c21_p_2 c21_pl_0 c21_pl_1 BW21
            go_wp2_with fail
            refine (C14.out _).mono ?_
            rintro e23 w23 ⟨rfl, hb23⟩
            obtain ⟨hc23, hf23⟩ := bcell hb23
            have hz23 := hb23.size
            (try simp only [World.size_alloc, World.size_setCell, World.size_drew] at hz23)
            have B23 : Below w22.heap.size w22 w23 := Below.trans (b := _) (by (repeat' (first | (with_reducible exact Below.refl _ _) | (with_reducible assumption) | (with_reducible refine Below.alloc ?_ ?_ _) | (with_reducible refine Below.drew ?_) | (with_reducible refine below_drewN ?_ _) | (with_reducible refine Below.setCell ?_ ?_ _) | (with_reducible refine below_call ?_ ?_ (by assumption)) | go_size))) (hb23.mono (by first | omega | (simp only [World.size_alloc, World.size_setCell, World.size_drew]; omega)))
            obtain ⟨hd23, -⟩ := bcell B23
            have c23_p_0 : w23.cell? ⟨w20.heap.size, 0, none⟩ = some (.int .i64 n6) := (hd23 _ _ q_p).trans c22_p_0
            have c23_p_1 : w23.cell? ⟨w20.heap.size, 1, none⟩ = some (.int .i64 d6) := (hd23 _ _ q_p).trans c22_p_1
            have c23_p_2 : w23.cell? ⟨w20.heap.size, 2, none⟩ = some (.int .i64 s6) := (hd23 _ _ q_p).trans c22_p_2
            have c23_pl_0 : w23.cell? ⟨w20.heap.size + 1, 0, none⟩ = some (.int .i64 n7) := (hd23 _ _ q_pl).trans c22_pl_0
            have c23_pl_1 : w23.cell? ⟨w20.heap.size + 1, 1, none⟩ = some (.int .i64 d7) := (hd23 _ _ q_pl).trans c22_pl_1
            replace q_p : w20.heap.size < w23.heap.size := by omega
            replace q_pl : w20.heap.size + 1 < w23.heap.size := by omega
            have R23_l5 := Lib.hid (TRow.below R22_l5.out B23)
            clear R22_l5
            have R23_rows := Lib.hid (TRow.below R22_rows.out B23)
            clear R22_rows
            have BW23 : Below w.heap.size w w23 := BW22.trans (B23.mono BW22.size)
            clear hc23 hf23 hb23 hd23 B23 c22_p_0 c22_p_1 c22_p_2 c22_pl_0 c22_pl_1 BW22
            go_wp2_with fail
            refine (C15.out _).mono ?_
            rintro e24 w24 ⟨rfl, hb24⟩
            obtain ⟨hc24, hf24⟩ := bcell hb24
            have hz24 := hb24.size
            (try simp only [World.size_alloc, World.size_setCell, World.size_drew] at hz24)
            have B24 : Below w23.heap.size w23 w24 := Below.trans (b := _) (by (repeat' (first | (with_reducible exact Below.refl _ _) | (with_reducible assumption) | (with_reducible refine Below.alloc ?_ ?_ _) | (with_reducible refine Below.drew ?_) | (with_reducible refine below_drewN ?_ _) | (with_reducible refine Below.setCell ?_ ?_ _) | (with_reducible refine below_call ?_ ?_ (by assumption)) | go_size))) (hb24.mono (by first | omega | (simp only [World.size_alloc, World.size_setCell, World.size_drew]; omega)))
            obtain ⟨hd24, -⟩ := bcell B24
            have c24_p_0 : w24.cell? ⟨w20.heap.size, 0, none⟩ = some (.int .i64 n6) := (hd24 _ _ q_p).trans c23_p_0
            have c24_p_1 : w24.cell? ⟨w20.heap.size, 1, none⟩ = some (.int .i64 d6) := (hd24 _ _ q_p).trans c23_p_1
            have c24_p_2 : w24.cell? ⟨w20.heap.size, 2, none⟩ = some (.int .i64 s6) := (hd24 _ _ q_p).trans c23_p_2
            have c24_pl_0 : w24.cell? ⟨w20.heap.size + 1, 0, none⟩ = some (.int .i64 n7) := (hd24 _ _ q_pl).trans c23_pl_0
            have c24_pl_1 : w24.cell? ⟨w20.heap.size + 1, 1, none⟩ = some (.int .i64 d7) := (hd24 _ _ q_pl).trans c23_pl_1
            replace q_p : w20.heap.size < w24.heap.size := by omega
            replace q_pl : w20.heap.size + 1 < w24.heap.size := by omega
            have c24_at_0 : w24.cell? ⟨w23.heap.size, 0, none⟩ = some (.int .i64 kn) := (hc24 _ _ (by go_size)).trans (by go_simp)
            have c24_at_1 : w24.cell? ⟨w23.heap.size, 1, none⟩ = some (.int .i64 kd) := (hc24 _ _ (by go_size)).trans (by go_simp)
            have q_at : w23.heap.size < w24.heap.size := by omega
            have R24_l5 := Lib.hid (TRow.below R23_l5.out B24)
            clear R23_l5
            have R24_rows := Lib.hid (TRow.below R23_rows.out B24)
            clear R23_rows
            have BW24 : Below w.heap.size w w24 := BW23.trans (B24.mono BW23.size)
            clear hc24 hf24 hb24 hd24 B24 c23_p_0 c23_p_1 c23_p_2 c23_pl_0 c23_pl_1 BW23
            go_upto_region 60 with fail
            have hb25 : Below w24.heap.size w24 (w24.alloc (Obj.cells #[.int .i64 kn, .int .i64 kd] 25)) := by (repeat' (first | (with_reducible exact Below.refl _ _) | (with_reducible assumption) | (with_reducible refine Below.alloc ?_ ?_ _) | (with_reducible refine Below.drew ?_) | (with_reducible refine below_drewN ?_ _) | (with_reducible refine Below.setCell ?_ ?_ _) | (with_reducible refine below_call ?_ ?_ (by assumption)) | go_size))
            have c25_number_0 : (w24.alloc (Obj.cells #[.int .i64 kn, .int .i64 kd] 25)).cell? ⟨w24.heap.size, 0, none⟩ = some (.int .i64 kn) := by go_simp
            have c25_number_1 : (w24.alloc (Obj.cells #[.int .i64 kn, .int .i64 kd] 25)).cell? ⟨w24.heap.size, 1, none⟩ = some (.int .i64 kd) := by go_simp
            have q_number : w24.heap.size < (w24.alloc (Obj.cells #[.int .i64 kn, .int .i64 kd] 25)).heap.size := by go_size
            generalize (w24.alloc (Obj.cells #[.int .i64 kn, .int .i64 kd] 25)) = w25 at *
            obtain ⟨hd25, -⟩ := bcell hb25
            have hz25 := hb25.size
            have c25_p_0 : w25.cell? ⟨w20.heap.size, 0, none⟩ = some (.int .i64 n6) := (hd25 _ _ q_p).trans c24_p_0
            have c25_p_1 : w25.cell? ⟨w20.heap.size, 1, none⟩ = some (.int .i64 d6) := (hd25 _ _ q_p).trans c24_p_1
            have c25_p_2 : w25.cell? ⟨w20.heap.size, 2, none⟩ = some (.int .i64 s6) := (hd25 _ _ q_p).trans c24_p_2
            have c25_pl_0 : w25.cell? ⟨w20.heap.size + 1, 0, none⟩ = some (.int .i64 n7) := (hd25 _ _ q_pl).trans c24_pl_0
            have c25_pl_1 : w25.cell? ⟨w20.heap.size + 1, 1, none⟩ = some (.int .i64 d7) := (hd25 _ _ q_pl).trans c24_pl_1
            have c25_at_0 : w25.cell? ⟨w23.heap.size, 0, none⟩ = some (.int .i64 kn) := (hd25 _ _ q_at).trans c24_at_0
            have c25_at_1 : w25.cell? ⟨w23.heap.size, 1, none⟩ = some (.int .i64 kd) := (hd25 _ _ q_at).trans c24_at_1
            replace q_p : w20.heap.size < w25.heap.size := by omega
            replace q_pl : w20.heap.size + 1 < w25.heap.size := by omega
            replace q_at : w23.heap.size < w25.heap.size := by omega
            have R25_l5 := Lib.hid (TRow.below R24_l5.out hb25)
            clear R24_l5
            have R25_rows := Lib.hid (TRow.below R24_rows.out hb25)
            clear R24_rows
            have BW25 : Below w.heap.size w w25 := BW24.trans (hb25.mono BW24.size)
            clear hb25 hd25 c24_p_0 c24_p_1 c24_p_2 c24_pl_0 c24_pl_1 c24_at_0 c24_at_1 BW24
            go_wp2_with fail
            refine (kTurns_same L5 _ _ _ _ _ R25_l5.out R25_rows.out HL5.out).mono ?_
            rintro e26 w26 ⟨rfl, hb26⟩
            obtain ⟨hc26, hf26⟩ := bcell hb26
            have hz26 := hb26.size
            (try simp only [World.size_alloc, World.size_setCell, World.size_drew] at hz26)
            have B26 : Below w25.heap.size w25 w26 := Below.trans (b := _) (by (repeat' (first | (with_reducible exact Below.refl _ _) | (with_reducible assumption) | (with_reducible refine Below.alloc ?_ ?_ _) | (with_reducible refine Below.drew ?_) | (with_reducible refine below_drewN ?_ _) | (with_reducible refine Below.setCell ?_ ?_ _) | (with_reducible refine below_call ?_ ?_ (by assumption)) | go_size))) (hb26.mono (by first | omega | (simp only [World.size_alloc, World.size_setCell, World.size_drew]; omega)))
            obtain ⟨hd26, -⟩ := bcell B26
            have c26_p_0 : w26.cell? ⟨w20.heap.size, 0, none⟩ = some (.int .i64 n6) := (hd26 _ _ q_p).trans c25_p_0
            have c26_p_1 : w26.cell? ⟨w20.heap.size, 1, none⟩ = some (.int .i64 d6) := (hd26 _ _ q_p).trans c25_p_1
            have c26_p_2 : w26.cell? ⟨w20.heap.size, 2, none⟩ = some (.int .i64 s6) := (hd26 _ _ q_p).trans c25_p_2
            have c26_pl_0 : w26.cell? ⟨w20.heap.size + 1, 0, none⟩ = some (.int .i64 n7) := (hd26 _ _ q_pl).trans c25_pl_0
            have c26_pl_1 : w26.cell? ⟨w20.heap.size + 1, 1, none⟩ = some (.int .i64 d7) := (hd26 _ _ q_pl).trans c25_pl_1
            have c26_at_0 : w26.cell? ⟨w23.heap.size, 0, none⟩ = some (.int .i64 kn) := (hd26 _ _ q_at).trans c25_at_0
            have c26_at_1 : w26.cell? ⟨w23.heap.size, 1, none⟩ = some (.int .i64 kd) := (hd26 _ _ q_at).trans c25_at_1
            have c26_number_0 : w26.cell? ⟨w24.heap.size, 0, none⟩ = some (.int .i64 kn) := (hd26 _ _ q_number).trans c25_number_0
            have c26_number_1 : w26.cell? ⟨w24.heap.size, 1, none⟩ = some (.int .i64 kd) := (hd26 _ _ q_number).trans c25_number_1
            replace q_p : w20.heap.size < w26.heap.size := by omega
            replace q_pl : w20.heap.size + 1 < w26.heap.size := by omega
            replace q_at : w23.heap.size < w26.heap.size := by omega
            replace q_number : w24.heap.size < w26.heap.size := by omega
            have R26_l5 := Lib.hid (TRow.below R25_l5.out B26)
            clear R25_l5
            have R26_rows := Lib.hid (TRow.below R25_rows.out B26)
            clear R25_rows
            have BW26 : Below w.heap.size w w26 := BW25.trans (B26.mono BW25.size)
            clear hc26 hf26 hb26 hd26 B26 c25_p_0 c25_p_1 c25_p_2 c25_pl_0 c25_pl_1 c25_at_0 c25_at_1 c25_number_0 c25_number_1 BW25
            go_upto_if 386 with fail
            go_cut [] from 999 to 999 (fun wx => Below w26.heap.size w26 wx)
            case first =>
              as_aux_lemma =>
                cases po
                · go_wp2_with fail
                  go_meet
                  case rel => exact Below.refl _ _
                · obtain ⟨hsp, hl, hr, hall⟩ := F5.out rfl
                  have HR := Lib.hid hr
                  have HA := Lib.hid hall
                  have hne : ((L5.length : Int) != (if s6 < 0 then -s6 else s6)) = false := by rw [hl]; simp
                  have hlen : (L5.length : Int) ≤ 400 := by rw [hl]; split <;> omega
                  clear hl hr hall
                  generalize hif : (if s6 < 0 then -s6 else s6 : Int) = av at hne
                  have HKA := Lib.hid (fun W => (show Calls Try.prog 20 #[.int .i64 s6] W fun e w' => e = .returned (.int .i64 av) ∧ Below W.heap.size W w' from by have := kAbs_any s6 (by omega) W; rw [hif] at this; exact this))
                  clear hif
                  go_wp2_with fail
                  refine (HKA.out _).mono ?_
                  rintro e27 w27 ⟨rfl, hb27⟩
                  obtain ⟨hc27, hf27⟩ := bcell hb27
                  have hz27 := hb27.size
                  (try simp only [World.size_alloc, World.size_setCell, World.size_drew] at hz27)
                  have B27 : Below w26.heap.size w26 w27 := Below.trans (b := _) (by (repeat' (first | (with_reducible exact Below.refl _ _) | (with_reducible assumption) | (with_reducible refine Below.alloc ?_ ?_ _) | (with_reducible refine Below.drew ?_) | (with_reducible refine below_drewN ?_ _) | (with_reducible refine Below.setCell ?_ ?_ _) | (with_reducible refine below_call ?_ ?_ (by assumption)) | go_size))) (hb27.mono (by first | omega | (simp only [World.size_alloc, World.size_setCell, World.size_drew]; omega)))
                  obtain ⟨hd27, -⟩ := bcell B27
                  have c27_p_0 : w27.cell? ⟨w20.heap.size, 0, none⟩ = some (.int .i64 n6) := (hd27 _ _ q_p).trans c26_p_0
                  have c27_p_1 : w27.cell? ⟨w20.heap.size, 1, none⟩ = some (.int .i64 d6) := (hd27 _ _ q_p).trans c26_p_1
                  have c27_p_2 : w27.cell? ⟨w20.heap.size, 2, none⟩ = some (.int .i64 s6) := (hd27 _ _ q_p).trans c26_p_2
                  have c27_pl_0 : w27.cell? ⟨w20.heap.size + 1, 0, none⟩ = some (.int .i64 n7) := (hd27 _ _ q_pl).trans c26_pl_0
                  have c27_pl_1 : w27.cell? ⟨w20.heap.size + 1, 1, none⟩ = some (.int .i64 d7) := (hd27 _ _ q_pl).trans c26_pl_1
                  have c27_at_0 : w27.cell? ⟨w23.heap.size, 0, none⟩ = some (.int .i64 kn) := (hd27 _ _ q_at).trans c26_at_0
                  have c27_at_1 : w27.cell? ⟨w23.heap.size, 1, none⟩ = some (.int .i64 kd) := (hd27 _ _ q_at).trans c26_at_1
                  have c27_number_0 : w27.cell? ⟨w24.heap.size, 0, none⟩ = some (.int .i64 kn) := (hd27 _ _ q_number).trans c26_number_0
                  have c27_number_1 : w27.cell? ⟨w24.heap.size, 1, none⟩ = some (.int .i64 kd) := (hd27 _ _ q_number).trans c26_number_1
                  replace q_p : w20.heap.size < w27.heap.size := by omega
                  replace q_pl : w20.heap.size + 1 < w27.heap.size := by omega
                  replace q_at : w23.heap.size < w27.heap.size := by omega
                  replace q_number : w24.heap.size < w27.heap.size := by omega
                  have R27_l5 := Lib.hid (TRow.below R26_l5.out B27)
                  clear R26_l5
                  have R27_rows := Lib.hid (TRow.below R26_rows.out B27)
                  clear R26_rows
                  have BW27 : Below w.heap.size w w27 := BW26.trans (B27.mono BW26.size)
                  have BX27 : Below w26.heap.size w26 w27 := B27
                  clear hc27 hf27 hb27 hd27 B27 c26_p_0 c26_p_1 c26_p_2 c26_pl_0 c26_pl_1 c26_at_0 c26_at_1 c26_number_0 c26_number_1 BW26
                  go_wp2_with fail
                  refine (kRises_yes L5 _ _ _ R27_l5.out HL5.out HR.out).mono ?_
                  rintro e28 w28 ⟨rfl, hb28⟩
                  obtain ⟨hc28, hf28⟩ := bcell hb28
                  have hz28 := hb28.size
                  (try simp only [World.size_alloc, World.size_setCell, World.size_drew] at hz28)
                  have B28 : Below w27.heap.size w27 w28 := Below.trans (b := _) (by (repeat' (first | (with_reducible exact Below.refl _ _) | (with_reducible assumption) | (with_reducible refine Below.alloc ?_ ?_ _) | (with_reducible refine Below.drew ?_) | (with_reducible refine below_drewN ?_ _) | (with_reducible refine Below.setCell ?_ ?_ _) | (with_reducible refine below_call ?_ ?_ (by assumption)) | go_size))) (hb28.mono (by first | omega | (simp only [World.size_alloc, World.size_setCell, World.size_drew]; omega)))
                  obtain ⟨hd28, -⟩ := bcell B28
                  have c28_p_0 : w28.cell? ⟨w20.heap.size, 0, none⟩ = some (.int .i64 n6) := (hd28 _ _ q_p).trans c27_p_0
                  have c28_p_1 : w28.cell? ⟨w20.heap.size, 1, none⟩ = some (.int .i64 d6) := (hd28 _ _ q_p).trans c27_p_1
                  have c28_p_2 : w28.cell? ⟨w20.heap.size, 2, none⟩ = some (.int .i64 s6) := (hd28 _ _ q_p).trans c27_p_2
                  have c28_pl_0 : w28.cell? ⟨w20.heap.size + 1, 0, none⟩ = some (.int .i64 n7) := (hd28 _ _ q_pl).trans c27_pl_0
                  have c28_pl_1 : w28.cell? ⟨w20.heap.size + 1, 1, none⟩ = some (.int .i64 d7) := (hd28 _ _ q_pl).trans c27_pl_1
                  have c28_at_0 : w28.cell? ⟨w23.heap.size, 0, none⟩ = some (.int .i64 kn) := (hd28 _ _ q_at).trans c27_at_0
                  have c28_at_1 : w28.cell? ⟨w23.heap.size, 1, none⟩ = some (.int .i64 kd) := (hd28 _ _ q_at).trans c27_at_1
                  have c28_number_0 : w28.cell? ⟨w24.heap.size, 0, none⟩ = some (.int .i64 kn) := (hd28 _ _ q_number).trans c27_number_0
                  have c28_number_1 : w28.cell? ⟨w24.heap.size, 1, none⟩ = some (.int .i64 kd) := (hd28 _ _ q_number).trans c27_number_1
                  replace q_p : w20.heap.size < w28.heap.size := by omega
                  replace q_pl : w20.heap.size + 1 < w28.heap.size := by omega
                  replace q_at : w23.heap.size < w28.heap.size := by omega
                  replace q_number : w24.heap.size < w28.heap.size := by omega
                  have R28_l5 := Lib.hid (TRow.below R27_l5.out B28)
                  clear R27_l5
                  have R28_rows := Lib.hid (TRow.below R27_rows.out B28)
                  clear R27_rows
                  have BW28 : Below w.heap.size w w28 := BW27.trans (B28.mono BW27.size)
                  have BX28 : Below w26.heap.size w26 w28 := BX27.trans (B28.mono BX27.size)
                  clear BX27
                  clear hc28 hf28 hb28 hd28 B28 c27_p_0 c27_p_1 c27_p_2 c27_pl_0 c27_pl_1 c27_at_0 c27_at_1 c27_number_0 c27_number_1 BW27
                  go_wp2_with fail
                  go_loopw [400] (fun i wr => ∃ k : Nat, k ≤ L5.length ∧ i = .int .i64 (k : Int) ∧ Below w28.heap.size w28 wr) (fun i _ => L5.length - (RowKit.intOf i).toNat)
                  case atStart => exact ⟨0, Nat.zero_le _, rfl, Below.refl _ _⟩
                  case round =>
                    obtain ⟨k, hk, rfl, hb29⟩ := hrel
                    obtain ⟨w29, hw29⟩ : ∃ x : World, x = wr := ⟨_, rfl⟩
                    subst hw29
                    have hb29' := hb29
                    obtain ⟨hc29, hf29⟩ := bcell hb29
                    have hz29 := hb29.size
                    (try simp only [World.size_alloc, World.size_setCell, World.size_drew] at hz29)
                    have B29 : Below w28.heap.size w28 w29 := Below.trans (b := _) (by (repeat' (first | (with_reducible exact Below.refl _ _) | (with_reducible assumption) | (with_reducible refine Below.alloc ?_ ?_ _) | (with_reducible refine Below.drew ?_) | (with_reducible refine below_drewN ?_ _) | (with_reducible refine Below.setCell ?_ ?_ _) | (with_reducible refine below_call ?_ ?_ (by assumption)) | go_size))) (hb29.mono (by first | omega | (simp only [World.size_alloc, World.size_setCell, World.size_drew]; omega)))
                    obtain ⟨hd29, -⟩ := bcell B29
                    have c29_p_0 : w29.cell? ⟨w20.heap.size, 0, none⟩ = some (.int .i64 n6) := (hd29 _ _ q_p).trans c28_p_0
                    have c29_p_1 : w29.cell? ⟨w20.heap.size, 1, none⟩ = some (.int .i64 d6) := (hd29 _ _ q_p).trans c28_p_1
                    have c29_p_2 : w29.cell? ⟨w20.heap.size, 2, none⟩ = some (.int .i64 s6) := (hd29 _ _ q_p).trans c28_p_2
                    have c29_pl_0 : w29.cell? ⟨w20.heap.size + 1, 0, none⟩ = some (.int .i64 n7) := (hd29 _ _ q_pl).trans c28_pl_0
                    have c29_pl_1 : w29.cell? ⟨w20.heap.size + 1, 1, none⟩ = some (.int .i64 d7) := (hd29 _ _ q_pl).trans c28_pl_1
                    have c29_at_0 : w29.cell? ⟨w23.heap.size, 0, none⟩ = some (.int .i64 kn) := (hd29 _ _ q_at).trans c28_at_0
                    have c29_at_1 : w29.cell? ⟨w23.heap.size, 1, none⟩ = some (.int .i64 kd) := (hd29 _ _ q_at).trans c28_at_1
                    have c29_number_0 : w29.cell? ⟨w24.heap.size, 0, none⟩ = some (.int .i64 kn) := (hd29 _ _ q_number).trans c28_number_0
                    have c29_number_1 : w29.cell? ⟨w24.heap.size, 1, none⟩ = some (.int .i64 kd) := (hd29 _ _ q_number).trans c28_number_1
                    replace q_p : w20.heap.size < w29.heap.size := by omega
                    replace q_pl : w20.heap.size + 1 < w29.heap.size := by omega
                    replace q_at : w23.heap.size < w29.heap.size := by omega
                    replace q_number : w24.heap.size < w29.heap.size := by omega
                    have R29_l5 := Lib.hid (TRow.below R28_l5.out B29)
                    clear R28_l5
                    have R29_rows := Lib.hid (TRow.below R28_rows.out B29)
                    clear R28_rows
                    have BW29 : Below w.heap.size w w29 := BW28.trans (B29.mono BW28.size)
                    have BX29 : Below w26.heap.size w26 w29 := BX28.trans (B29.mono BX28.size)
                    clear BX28
                    clear hc29 hf29 hb29 hd29 B29 c28_p_0 c28_p_1 c28_p_2 c28_pl_0 c28_pl_1 c28_at_0 c28_at_1 c28_number_0 c28_number_1 BW28
                    have i0 : (0 : Int) ≤ (k : Int) := Int.natCast_nonneg _
                    by_cases hlt : k < L5.length
                    · have i1 : (k : Int) < (L5.length : Int) := by omega
                      have hmem : L5.getD k (0, 0) ∈ L5 := by rw [List.getD_eq_getElem?_getD, List.getElem?_eq_getElem hlt]; exact List.getElem_mem hlt
                      have ha := HA.out _ hmem
                      obtain ⟨pa, pc, hpv, hl1, hl2, hcell⟩ := TRow.cells R29_l5.out
                      simp only [Value.slice.injEq] at hpv
                      obtain ⟨hp1, -, hp2⟩ := hpv
                      subst hp1
                      subst hp2
                      obtain ⟨ga, rfl, u1, u2a, u3a, u4a⟩ := hcell k (by omega)
                      clear hcell hl1 hl2 u1
                      clear hmem
                      generalize L5.getD k (0, 0) = x at *
                      obtain ⟨p1, p2⟩ := x
                      simp only at u3a u4a ha
                      have Z1 := Lib.hid (fun W => (show Calls Try.prog 22 #[hv n6 d6 s6, tv p1 p2] W fun e w' => e = .returned (rv (n7, d7, true)) ∧ Below W.heap.size W w' from by have := implHandAt_any n6 d6 s6 p1 p2 W; rw [ha] at this; exact this))
                      clear ha
                      go_wp2_with fail
                      refine (Z1.out _).mono ?_
                      rintro e30 w30 ⟨rfl, hb30⟩
                      obtain ⟨hc30, hf30⟩ := bcell hb30
                      have hz30 := hb30.size
                      (try simp only [World.size_alloc, World.size_setCell, World.size_drew] at hz30)
                      have B30 : Below w29.heap.size w29 w30 := Below.trans (b := _) (by (repeat' (first | (with_reducible exact Below.refl _ _) | (with_reducible assumption) | (with_reducible refine Below.alloc ?_ ?_ _) | (with_reducible refine Below.drew ?_) | (with_reducible refine below_drewN ?_ _) | (with_reducible refine Below.setCell ?_ ?_ _) | (with_reducible refine below_call ?_ ?_ (by assumption)) | go_size))) (hb30.mono (by first | omega | (simp only [World.size_alloc, World.size_setCell, World.size_drew]; omega)))
                      obtain ⟨hd30, -⟩ := bcell B30
                      have c30_p_0 : w30.cell? ⟨w20.heap.size, 0, none⟩ = some (.int .i64 n6) := (hd30 _ _ q_p).trans c29_p_0
                      have c30_p_1 : w30.cell? ⟨w20.heap.size, 1, none⟩ = some (.int .i64 d6) := (hd30 _ _ q_p).trans c29_p_1
                      have c30_p_2 : w30.cell? ⟨w20.heap.size, 2, none⟩ = some (.int .i64 s6) := (hd30 _ _ q_p).trans c29_p_2
                      have c30_pl_0 : w30.cell? ⟨w20.heap.size + 1, 0, none⟩ = some (.int .i64 n7) := (hd30 _ _ q_pl).trans c29_pl_0
                      have c30_pl_1 : w30.cell? ⟨w20.heap.size + 1, 1, none⟩ = some (.int .i64 d7) := (hd30 _ _ q_pl).trans c29_pl_1
                      have c30_at_0 : w30.cell? ⟨w23.heap.size, 0, none⟩ = some (.int .i64 kn) := (hd30 _ _ q_at).trans c29_at_0
                      have c30_at_1 : w30.cell? ⟨w23.heap.size, 1, none⟩ = some (.int .i64 kd) := (hd30 _ _ q_at).trans c29_at_1
                      have c30_number_0 : w30.cell? ⟨w24.heap.size, 0, none⟩ = some (.int .i64 kn) := (hd30 _ _ q_number).trans c29_number_0
                      have c30_number_1 : w30.cell? ⟨w24.heap.size, 1, none⟩ = some (.int .i64 kd) := (hd30 _ _ q_number).trans c29_number_1
                      replace q_p : w20.heap.size < w30.heap.size := by omega
                      replace q_pl : w20.heap.size + 1 < w30.heap.size := by omega
                      replace q_at : w23.heap.size < w30.heap.size := by omega
                      replace q_number : w24.heap.size < w30.heap.size := by omega
                      have c30_x_0 : w30.cell? ⟨w29.heap.size, 0, none⟩ = some (.int .i64 p1) := (hc30 _ _ (by go_size)).trans (by go_simp)
                      have c30_x_1 : w30.cell? ⟨w29.heap.size, 1, none⟩ = some (.int .i64 p2) := (hc30 _ _ (by go_size)).trans (by go_simp)
                      have q_x : w29.heap.size < w30.heap.size := by omega
                      have R30_l5 := Lib.hid (TRow.below R29_l5.out B30)
                      clear R29_l5
                      have R30_rows := Lib.hid (TRow.below R29_rows.out B30)
                      clear R29_rows
                      have BW30 : Below w.heap.size w w30 := BW29.trans (B30.mono BW29.size)
                      have BX30 : Below w29.heap.size w29 w30 := B30
                      clear hc30 hf30 hb30 hd30 B30 c29_p_0 c29_p_1 c29_p_2 c29_pl_0 c29_pl_1 c29_at_0 c29_at_1 c29_number_0 c29_number_1 BW29
                      go_upto_region 69 with fail
                      have hb31 : Below w30.heap.size w30 (w30.alloc (Obj.cells #[.int .i64 n7, .int .i64 d7] 25)) := by (repeat' (first | (with_reducible exact Below.refl _ _) | (with_reducible assumption) | (with_reducible refine Below.alloc ?_ ?_ _) | (with_reducible refine Below.drew ?_) | (with_reducible refine below_drewN ?_ _) | (with_reducible refine Below.setCell ?_ ?_ _) | (with_reducible refine below_call ?_ ?_ (by assumption)) | go_size))
                      have c31_own_0 : (w30.alloc (Obj.cells #[.int .i64 n7, .int .i64 d7] 25)).cell? ⟨w30.heap.size, 0, none⟩ = some (.int .i64 n7) := by go_simp
                      have c31_own_1 : (w30.alloc (Obj.cells #[.int .i64 n7, .int .i64 d7] 25)).cell? ⟨w30.heap.size, 1, none⟩ = some (.int .i64 d7) := by go_simp
                      have q_own : w30.heap.size < (w30.alloc (Obj.cells #[.int .i64 n7, .int .i64 d7] 25)).heap.size := by go_size
                      generalize (w30.alloc (Obj.cells #[.int .i64 n7, .int .i64 d7] 25)) = w31 at *
                      obtain ⟨hd31, -⟩ := bcell hb31
                      have hz31 := hb31.size
                      have c31_p_0 : w31.cell? ⟨w20.heap.size, 0, none⟩ = some (.int .i64 n6) := (hd31 _ _ q_p).trans c30_p_0
                      have c31_p_1 : w31.cell? ⟨w20.heap.size, 1, none⟩ = some (.int .i64 d6) := (hd31 _ _ q_p).trans c30_p_1
                      have c31_p_2 : w31.cell? ⟨w20.heap.size, 2, none⟩ = some (.int .i64 s6) := (hd31 _ _ q_p).trans c30_p_2
                      have c31_pl_0 : w31.cell? ⟨w20.heap.size + 1, 0, none⟩ = some (.int .i64 n7) := (hd31 _ _ q_pl).trans c30_pl_0
                      have c31_pl_1 : w31.cell? ⟨w20.heap.size + 1, 1, none⟩ = some (.int .i64 d7) := (hd31 _ _ q_pl).trans c30_pl_1
                      have c31_at_0 : w31.cell? ⟨w23.heap.size, 0, none⟩ = some (.int .i64 kn) := (hd31 _ _ q_at).trans c30_at_0
                      have c31_at_1 : w31.cell? ⟨w23.heap.size, 1, none⟩ = some (.int .i64 kd) := (hd31 _ _ q_at).trans c30_at_1
                      have c31_number_0 : w31.cell? ⟨w24.heap.size, 0, none⟩ = some (.int .i64 kn) := (hd31 _ _ q_number).trans c30_number_0
                      have c31_number_1 : w31.cell? ⟨w24.heap.size, 1, none⟩ = some (.int .i64 kd) := (hd31 _ _ q_number).trans c30_number_1
                      have c31_x_0 : w31.cell? ⟨w29.heap.size, 0, none⟩ = some (.int .i64 p1) := (hd31 _ _ q_x).trans c30_x_0
                      have c31_x_1 : w31.cell? ⟨w29.heap.size, 1, none⟩ = some (.int .i64 p2) := (hd31 _ _ q_x).trans c30_x_1
                      replace q_p : w20.heap.size < w31.heap.size := by omega
                      replace q_pl : w20.heap.size + 1 < w31.heap.size := by omega
                      replace q_at : w23.heap.size < w31.heap.size := by omega
                      replace q_number : w24.heap.size < w31.heap.size := by omega
                      replace q_x : w29.heap.size < w31.heap.size := by omega
                      have R31_l5 := Lib.hid (TRow.below R30_l5.out hb31)
                      clear R30_l5
                      have R31_rows := Lib.hid (TRow.below R30_rows.out hb31)
                      clear R30_rows
                      have BW31 : Below w.heap.size w w31 := BW30.trans (hb31.mono BW30.size)
                      have BX31 : Below w29.heap.size w29 w31 := BX30.trans (hb31.mono BX30.size)
                      clear BX30
                      clear hb31 hd31 c30_p_0 c30_p_1 c30_p_2 c30_pl_0 c30_pl_1 c30_at_0 c30_at_1 c30_number_0 c30_number_1 c30_x_0 c30_x_1 BW30
                      go_wp2_with fail
                      go_roundw
                      case rel => exact ⟨k + 1, by omega, by go_num, hb29'.trans (BX31.mono hb29'.size)⟩
                      case measure => simp [RowKit.intOf]; omega
                    have hrelB := BX29
                    go_wp2_with fail
                    go_meet
                    case rel => exact hrelB
            case rest =>
              have hb27 := hcut
              obtain ⟨w27, hw27⟩ : ∃ x : World, x = wc := ⟨_, rfl⟩
              subst hw27
              obtain ⟨hc27, hf27⟩ := bcell hb27
              have hz27 := hb27.size
              (try simp only [World.size_alloc, World.size_setCell, World.size_drew] at hz27)
              have B27 : Below w26.heap.size w26 w27 := Below.trans (b := _) (by (repeat' (first | (with_reducible exact Below.refl _ _) | (with_reducible assumption) | (with_reducible refine Below.alloc ?_ ?_ _) | (with_reducible refine Below.drew ?_) | (with_reducible refine below_drewN ?_ _) | (with_reducible refine Below.setCell ?_ ?_ _) | (with_reducible refine below_call ?_ ?_ (by assumption)) | go_size))) (hb27.mono (by first | omega | (simp only [World.size_alloc, World.size_setCell, World.size_drew]; omega)))
              obtain ⟨hd27, -⟩ := bcell B27
              have c27_p_0 : w27.cell? ⟨w20.heap.size, 0, none⟩ = some (.int .i64 n6) := (hd27 _ _ q_p).trans c26_p_0
              have c27_p_1 : w27.cell? ⟨w20.heap.size, 1, none⟩ = some (.int .i64 d6) := (hd27 _ _ q_p).trans c26_p_1
              have c27_p_2 : w27.cell? ⟨w20.heap.size, 2, none⟩ = some (.int .i64 s6) := (hd27 _ _ q_p).trans c26_p_2
              have c27_pl_0 : w27.cell? ⟨w20.heap.size + 1, 0, none⟩ = some (.int .i64 n7) := (hd27 _ _ q_pl).trans c26_pl_0
              have c27_pl_1 : w27.cell? ⟨w20.heap.size + 1, 1, none⟩ = some (.int .i64 d7) := (hd27 _ _ q_pl).trans c26_pl_1
              have c27_at_0 : w27.cell? ⟨w23.heap.size, 0, none⟩ = some (.int .i64 kn) := (hd27 _ _ q_at).trans c26_at_0
              have c27_at_1 : w27.cell? ⟨w23.heap.size, 1, none⟩ = some (.int .i64 kd) := (hd27 _ _ q_at).trans c26_at_1
              have c27_number_0 : w27.cell? ⟨w24.heap.size, 0, none⟩ = some (.int .i64 kn) := (hd27 _ _ q_number).trans c26_number_0
              have c27_number_1 : w27.cell? ⟨w24.heap.size, 1, none⟩ = some (.int .i64 kd) := (hd27 _ _ q_number).trans c26_number_1
              replace q_p : w20.heap.size < w27.heap.size := by omega
              replace q_pl : w20.heap.size + 1 < w27.heap.size := by omega
              replace q_at : w23.heap.size < w27.heap.size := by omega
              replace q_number : w24.heap.size < w27.heap.size := by omega
              have R27_l5 := Lib.hid (TRow.below R26_l5.out B27)
              clear R26_l5
              have R27_rows := Lib.hid (TRow.below R26_rows.out B27)
              clear R26_rows
              have BW27 : Below w.heap.size w w27 := BW26.trans (B27.mono BW26.size)
              clear hc27 hf27 hb27 hd27 B27 c26_p_0 c26_p_1 c26_p_2 c26_pl_0 c26_pl_1 c26_at_0 c26_at_1 c26_number_0 c26_number_1 BW26
              go_wp2
              go_ret
              exact ⟨rfl, BW27⟩
  · have HBG := Lib.hid hbg
    clear hbg
    (go_enter Try.func5, Try.ntmps5)
    go_wp2_with fail
    refine (big_is p1 p2 L1.length L2.length q1 q2 hm1 HBG.out _).mono ?_
    rintro e0 w0 ⟨rfl, rfl⟩
    go_wp2
    go_ret
    exact ⟨rfl, Below.refl _ _⟩

set_option maxRecDepth 100000 in
theorem lifted (os : Os) (started : os.Started) (H : Type) (enc : TypeId × Value → H) :
    ReturnsInHanded {} Try.checked os 5 .any (Rows.fnHandsAheadSpec.pre6 enc Try.prog Try.f5 Rows.fnHandsAheadRow.domain false) (Rows.fnHandsAheadSpec.post enc Try.prog Try.f5 false true false false) := by
  refine returnsInHanded_of_change (C := Try.checked) Try.own started (by kernel_rfl) Try.func5
    (ChangeSpec.witness6 (enc := enc) (C := Try.checked) false ⟨#[], #[.slice none 0 0, .slice none 0 0], []⟩ 8 (by kernel_rfl) (by kernel_rfl) (by kernel_rfl) (by kernel_rfl)) ?_
  intro W base args ds gs before hval0 hW hcnd _
  have hval : ∀ (j : Nat) t v, Try.f5.params[j]? = some t → args[j]? = some v → Value.okWide Try.prog W .any base t v := hval0
  have hW' := hW
  obtain ⟨p, q, hA0, hV, rfl, hfz, hnd⟩ := hW
  have hA : DataW.TrodAll enc Try.prog W 0 (fun _ => true) true Try.f5.params.toList args.toList ds p := hA0
  rw [Try.params5] at hA hval
  obtain ⟨v0, vs0, d_0, ds0, p0, q0, hargs, rfl, rfl, h0, r0⟩ := trodAll_cons hA
  obtain ⟨v1, vs1, d_1, ds1, p1, q1, rfl, rfl, rfl, h1, r1⟩ := trodAll_cons r0
  obtain ⟨rfl, rfl, rfl⟩ := trodAll_nil r1
  obtain rfl : args = #[v0, v1] := by cases args; simp_all
  obtain ⟨rfl, rfl⟩ := trodVars_none hV
  have h0k := h0
  have h1k := h1
  obtain ⟨p1', q1', L1, rfl, hi1, hm1⟩ := open_bytes' (hval 0 22 v0 rfl rfl) h0
  obtain ⟨p2', q2', L2, rfl, hi2, hm2⟩ := open_bytes' (hval 1 22 v1 rfl rfl) h1
  clear hA0 hval0
  simp only [List.append_nil, List.nil_append] at hW'
  have hlt0 : ∀ y ∈ p0, y.block < W.heap.size := fun y hy => by simpa using hW'.lt y (by simp [hy])
  have hlt1 : ∀ y ∈ p1, y.block < W.heap.size := fun y hy => by simpa using hW'.lt y (by simp [hy])
  refine (walk W p1' p2' q1' q2' L1 L2 hi1 hi2 hm1 hm2).mono fun e W' ⟨he, bel⟩ => ?_
  subst he
  have harg0 : DataW.Trod enc Try.prog W' 0 (fun b => decide (b < W.heap.size)) true 22 (.slice p1' L1.length q1') d_0 p0 :=
    Below.trod Try.laidOut (by kernel_rfl) (of_decide_eq_true (by kernel_rfl)) h0k bel hlt0
  have harg1 : DataW.Trod enc Try.prog W' 0 (fun b => decide (b < W.heap.size)) true 22 (.slice p2' L2.length q2') d_1 p1 :=
    Below.trod Try.laidOut (by kernel_rfl) (of_decide_eq_true (by kernel_rfl)) h1k bel hlt1
  exact ⟨_, rfl, _, _, _, [], _, [], hW', trodAll_mk1 (shut_bool Try.underlying4 _), (trodAll_cons_mk harg0 (trodAll_cons_mk harg1 trodAll_mk0)), rfl, bel.frame _, fun h => by cases h⟩

theorem closed : joinedFacts Try.prog 5 Try.f5 Rows.fnHandsAheadSpec Rows.fnHandsAheadRow = true := by
  unfold joinedFacts
  rw [Try.fMake, Try.fEnter, Try.fLifts, Try.fMaps, Try.fLaid, Try.fHeard, Try.fKeys]
  kernel_rfl
theorem over : Rows.fnHandsAheadRow.holds Try.pinned (OpenSpec.ofChange Rows.fnHandsAheadSpec) :=
  OpenClaim.holds_of_wide 5 Try.f5 rfl rfl rfl rfl rfl rfl rfl ⟨rfl, rfl, rfl, rfl, rfl⟩ rfl rfl rfl rfl rfl (by kernel_rfl) Try.func5
    closed (of_decide_eq_true (by kernel_rfl)) (by unfold Func.isWrapper; first | (rw [if_pos (by decide +kernel)]; kernel_rfl) | (rw [if_neg (by decide +kernel)]; exact ⟨rfl, rfl⟩))
    (fun os started H enc _ => lifted os started H enc)

end Go.Proofs.Ytcfiaacpofpioaa.fnHandsAhead
namespace Go.Proofs.Ytcfiaacpofpioaa
/-- The statement. -/
theorem fnHandsAhead_proved : Rows.FnHandsAheadSaid := fnHandsAhead.over
#print axioms fnHandsAhead_proved
end Go.Proofs.Ytcfiaacpofpioaa