/- FnHandsMeet: called with any arguments, the law returns true, and its arguments read behind the call as before. Conditions: none but the row's own. -/
import Derived.Test.YtcfiaacpofpioaaFacts
import Derived.Test.YtcfiaacpofpioaaRowI
import Derived.Test.YtcfiaacpofpioaaRowH
import Derived.Test.YtcfiaacpofpioaaTa0
import Derived.Test.YtcfiaacpofpioaaTaE
import Derived.Test.YtcfiaacpofpioaaMtM
import Derived.Test.YtcfiaacpofpioaaLawK
import Derived.Test.YtcfiaacpofpioaaLate
import Derived.Test.YtcfiaacpofpioaaHCur
import Derived.Test.YtcfiaacpofpioaaHNext
import Derived.Test.YtcfiaacpofpioaaSBArg
import Derived.Deep.DeepCutAuto
set_option linter.unusedSimpArgs false
set_option linter.unusedVariables false
set_option maxRecDepth 100000
namespace Go.Proofs.Ytcfiaacpofpioaa.fnHandsMeet
open Go.ChangeShapes Go.WideShapes Go.ChangeAt Go.RowKit
attribute [local go_sem ↓] Go.wp_at_zero Go.wp_at_succ run_neq_same run_neq_turn run_eql_turn run_neq_sameHand

set_option maxHeartbeats 16000000 in
theorem walk (w : World) (p1 p2 : Option Addr) (q1 q2 : Nat) (L1 L2 : List Int) (hi1 : BIn w p1 L1) (hi2 : BIn w p2 L2) (hm1 : L1.length ≤ maxLen) (hm2 : L2.length ≤ maxLen) :
    Calls Try.prog 3 #[.slice p1 L1.length q1, .slice p2 L2.length q2] w fun e w' => e = .returned (.bool true) ∧ Below w.heap.size w w' := by
  have HB1 := Lib.hid hi1
  have HB2 := Lib.hid hi2
  clear hi1 hi2
  cases hbg : bigB L1.length L2.length
  · obtain ⟨hlen1, hlen2⟩ := bigB_no hbg
    have HBG := Lib.hid hbg
    clear hbg
    (go_enter Try.func3, Try.ntmps3)
    go_wp2_with fail
    refine (big_is p1 p2 L1.length L2.length q1 q2 hm1 HBG.out _).mono ?_
    rintro e0 w0 ⟨rfl, rfl⟩
    go_wp2_with fail
    refine (DrawMeetTimes_any L1 p1 L1.length q1 rfl hlen1 _ HB1.out).mono ?_
    rintro e1 w1 ⟨n0, d0, s0, n1, d1, s1, rfl, ⟨kn0, kd0, ks0, kn1, kd1, ks1⟩, hb1⟩
    obtain ⟨hc1, hf1⟩ := bcell hb1
    have hz1 := hb1.size
    (try simp only [World.size_alloc, World.size_setCell, World.size_drew] at hz1)
    have B1 : Below w.heap.size w w1 := Below.trans (b := _) (by (repeat' (first | (with_reducible exact Below.refl _ _) | (with_reducible assumption) | (with_reducible refine Below.alloc ?_ ?_ _) | (with_reducible refine Below.drew ?_) | (with_reducible refine below_drewN ?_ _) | (with_reducible refine Below.setCell ?_ ?_ _) | (with_reducible refine below_call ?_ ?_ (by assumption)) | go_size))) (hb1.mono (by first | omega | (simp only [World.size_alloc, World.size_setCell, World.size_drew]; omega)))
    obtain ⟨hd1, -⟩ := bcell B1
    have BW1 : Below w.heap.size w w1 := B1
    clear hc1 hf1 hb1 hd1 B1 
    obtain ⟨LT, ok, hT⟩ : ∃ l o, aheadR n0 d0 s0 n1 d1 s1 0 1 = (l, o) := ⟨_, _, rfl⟩
    obtain ⟨cn, co, hC⟩ : ∃ x o, countT n0 d0 s0 n1 d1 s1 = (x, o) := ⟨_, _, rfl⟩
    obtain ⟨fn, fd, hF⟩ : ∃ x y, firstR (aheadR n0 d0 s0 n1 d1 s1 0 1) = (x, y, ok) := by
      rw [hT]; unfold firstR; cases ok
      · exact ⟨_, _, rfl⟩
      · exact ⟨_, _, rfl⟩
    obtain ⟨LP, po, hP⟩ : ∃ l o, placesR (aheadR n0 d0 s0 n1 d1 s1 0 1) n0 d0 s0 = (l, o) := ⟨_, _, rfl⟩
    obtain ⟨hb0, hH⟩ : ∃ b, handB n0 d0 s0 = b := ⟨_, rfl⟩
    have C1 := Lib.hid (fun W => (show Calls Try.prog 9 #[hv n0 d0 s0, hv n1 d1 s1] W (TurnsOut W LT ok) from by have := implMeetTimes_any n0 d0 s0 n1 d1 s1 W; rw [hT] at this; exact this))
    have C2 := Lib.hid (fun W => (show Calls Try.prog 10 #[hv n0 d0 s0, hv n1 d1 s1] W (TurnsOut W LT ok) from by have := specMeetTimes_any n0 d0 s0 n1 d1 s1 kd0 kd1 W; rw [hT] at this; exact this))
    have C3 := Lib.hid (fun W => (show Calls Try.prog 11 #[hv n0 d0 s0, hv n1 d1 s1] W fun e w' => e = .returned (iv (cn, co)) ∧ Below W.heap.size W w' from by have := implCountMeets_any n0 d0 s0 n1 d1 s1 W; rw [hC] at this; exact this))
    have C4 := Lib.hid (fun W => (show Calls Try.prog 12 #[hv n0 d0 s0, hv n1 d1 s1] W fun e w' => e = .returned (iv (cn, co)) ∧ Below W.heap.size W w' from by have := specCountMeets_any n0 d0 s0 n1 d1 s1 kd0 kd1 W; rw [hC] at this; exact this))
    have C5 := Lib.hid (fun W => (show Calls Try.prog 13 #[hv n0 d0 s0, hv n1 d1 s1] W fun e w' => e = .returned (rv (fn, fd, ok)) ∧ Below W.heap.size W w' from by have := implFirstMeet_any n0 d0 s0 n1 d1 s1 W; rw [hF] at this; exact this))
    have C6 := Lib.hid (fun W => (show Calls Try.prog 14 #[hv n0 d0 s0, hv n1 d1 s1] W fun e w' => e = .returned (rv (fn, fd, ok)) ∧ Below W.heap.size W w' from by have := specFirstMeet_any n0 d0 s0 n1 d1 s1 kd0 kd1 W; rw [hF] at this; exact this))
    have C7 := Lib.hid (fun W => (show Calls Try.prog 15 #[hv n0 d0 s0, hv n1 d1 s1] W (TurnsOut W LP po) from by have := implMeetPlaces_any n0 d0 s0 n1 d1 s1 W; rw [hP] at this; exact this))
    have C8 := Lib.hid (fun W => (show Calls Try.prog 16 #[hv n0 d0 s0, hv n1 d1 s1] W (TurnsOut W LP po) from by have := specMeetPlaces_any n0 d0 s0 n1 d1 s1 kd0 kd1 W; rw [hP] at this; exact this))
    have CI1 := Lib.hid (fun W => isHand_is n0 d0 s0 hH W)
    have CI2 := Lib.hid (fun W => (show Calls Try.prog 19 #[hv n0 d0 s0] W fun e w' => e = .returned (.bool hb0) ∧ Below W.heap.size W w' from by have := specIsHand_any n0 d0 s0 kd0 W; rw [hH] at this; exact this))
    have HLT := Lib.hid (show LT.length ≤ 1000000 from by have := aheadR_len n0 d0 s0 n1 d1 s1 0 1; rw [hT] at this; exact this)
    have HLP := Lib.hid (show LP.length ≤ 1000000 from by have := placesR_len (R := aheadR n0 d0 s0 n1 d1 s1 0 1) n0 d0 s0 (aheadR_len n0 d0 s0 n1 d1 s1 0 1); rw [hP] at this; exact this)
    have F1 := Lib.hid (fun (e : ok = true) => (show co = true ∧ cn = (if s0 - s1 < 0 then -(s0 - s1) else s0 - s1) from by have := count_all (by rw [hT, e] : aheadR n0 d0 s0 n1 d1 s1 0 1 = (LT, true)); rw [hC] at this; exact ⟨(Prod.mk.inj this).2, (Prod.mk.inj this).1⟩))
    have F2 := Lib.hid (fun (e : ok = true) => ahead_all (by rw [hT, e] : aheadR n0 d0 s0 n1 d1 s1 0 1 = (LT, true)))
    have F3 := Lib.hid (fun (e : ok = true) => (show LT.getD 0 (0, 0) = (fn, fd) from by rw [hT, e] at hF; unfold firstR at hF; rw [if_pos rfl] at hF; simp only [Prod.mk.injEq, and_true] at hF; rw [← hF.1, ← hF.2]))
    have F4 := Lib.hid (fun (e : ok = true) => meet_same (by rw [hT, e] : aheadR n0 d0 s0 n1 d1 s1 0 1 = (LT, true)))
    have F5 := Lib.hid (fun (e : ok = true) (i : Nat) (hi : i < LT.length) => next_at (by rw [hT, e] : aheadR n0 d0 s0 n1 d1 s1 0 1 = (LT, true)) hi)
    have F6 := Lib.hid (fun (e : ok = true) => meet_back (by rw [hT, e] : aheadR n0 d0 s0 n1 d1 s1 0 1 = (LT, true)))
    have F7 := Lib.hid (fun (e : po = true) => (show ok = true ∧ Rises LP ∧ 1 ≤ LP.length ∧ LP.length ≤ LT.length ∧ ∀ x ∈ LT, ∀ p q, handAtT n0 d0 s0 x.1 x.2 = (p, q, true) → hasT LP p q = true from by
      have hok : ok = true := by
        rw [e] at hP
        unfold placesR at hP
        rw [hT] at hP
        cases ok
        · simp at hP
        · rfl
      subst hok
      obtain ⟨⟨g, -⟩, -, -, -, -, hg, -, h1⟩ := ahead_all hT
      obtain ⟨b1, b2, b3, b4⟩ := place_in hT hg (twoB_bd g).1 (by rw [hP, e] : placesR (aheadR n0 d0 s0 n1 d1 s1 0 1) n0 d0 s0 = (LP, true))
      exact ⟨rfl, b1, b2 h1, b3, b4⟩))
    clear hT hC hF hP hH
    go_wp2_with fail
    refine (C1.out _).mono ?_
    rintro e2 w2 ⟨v_lt, rfl, hr2, hb2⟩
    obtain ⟨pa_lt, pc_lt, rfl, -⟩ := TRow.cells hr2
    have R2_lt := Lib.hid hr2
    clear hr2
    obtain ⟨hc2, hf2⟩ := bcell hb2
    have hz2 := hb2.size
    (try simp only [World.size_alloc, World.size_setCell, World.size_drew] at hz2)
    have B2 : Below w1.heap.size w1 w2 := Below.trans (b := _) (by (repeat' (first | (with_reducible exact Below.refl _ _) | (with_reducible assumption) | (with_reducible refine Below.alloc ?_ ?_ _) | (with_reducible refine Below.drew ?_) | (with_reducible refine below_drewN ?_ _) | (with_reducible refine Below.setCell ?_ ?_ _) | (with_reducible refine below_call ?_ ?_ (by assumption)) | go_size))) (hb2.mono (by first | omega | (simp only [World.size_alloc, World.size_setCell, World.size_drew]; omega)))
    obtain ⟨hd2, -⟩ := bcell B2
    have c2_a_0 : w2.cell? ⟨w1.heap.size, 0, none⟩ = some (.int .i64 n0) := (hc2 _ _ (by go_size)).trans (by go_simp)
    have c2_a_1 : w2.cell? ⟨w1.heap.size, 1, none⟩ = some (.int .i64 d0) := (hc2 _ _ (by go_size)).trans (by go_simp)
    have c2_a_2 : w2.cell? ⟨w1.heap.size, 2, none⟩ = some (.int .i64 s0) := (hc2 _ _ (by go_size)).trans (by go_simp)
    have q_a : w1.heap.size < w2.heap.size := by omega
    have c2_b_0 : w2.cell? ⟨w1.heap.size + 1, 0, none⟩ = some (.int .i64 n1) := (hc2 _ _ (by go_size)).trans (by go_simp)
    have c2_b_1 : w2.cell? ⟨w1.heap.size + 1, 1, none⟩ = some (.int .i64 d1) := (hc2 _ _ (by go_size)).trans (by go_simp)
    have c2_b_2 : w2.cell? ⟨w1.heap.size + 1, 2, none⟩ = some (.int .i64 s1) := (hc2 _ _ (by go_size)).trans (by go_simp)
    have q_b : w1.heap.size + 1 < w2.heap.size := by omega
    have BW2 : Below w.heap.size w w2 := BW1.trans (B2.mono BW1.size)
    clear hc2 hf2 hb2 hd2 B2  BW1
    go_wp2_with fail
    refine (C2.out _).mono ?_
    rintro e3 w3 ⟨v_right, rfl, hr3, hb3⟩
    obtain ⟨pa_right, pc_right, rfl, -⟩ := TRow.cells hr3
    have R3_right := Lib.hid hr3
    clear hr3
    obtain ⟨hc3, hf3⟩ := bcell hb3
    have hz3 := hb3.size
    (try simp only [World.size_alloc, World.size_setCell, World.size_drew] at hz3)
    have B3 : Below w2.heap.size w2 w3 := Below.trans (b := _) (by (repeat' (first | (with_reducible exact Below.refl _ _) | (with_reducible assumption) | (with_reducible refine Below.alloc ?_ ?_ _) | (with_reducible refine Below.drew ?_) | (with_reducible refine below_drewN ?_ _) | (with_reducible refine Below.setCell ?_ ?_ _) | (with_reducible refine below_call ?_ ?_ (by assumption)) | go_size))) (hb3.mono (by first | omega | (simp only [World.size_alloc, World.size_setCell, World.size_drew]; omega)))
    obtain ⟨hd3, -⟩ := bcell B3
    have c3_a_0 : w3.cell? ⟨w1.heap.size, 0, none⟩ = some (.int .i64 n0) := (hd3 _ _ q_a).trans c2_a_0
    have c3_a_1 : w3.cell? ⟨w1.heap.size, 1, none⟩ = some (.int .i64 d0) := (hd3 _ _ q_a).trans c2_a_1
    have c3_a_2 : w3.cell? ⟨w1.heap.size, 2, none⟩ = some (.int .i64 s0) := (hd3 _ _ q_a).trans c2_a_2
    have c3_b_0 : w3.cell? ⟨w1.heap.size + 1, 0, none⟩ = some (.int .i64 n1) := (hd3 _ _ q_b).trans c2_b_0
    have c3_b_1 : w3.cell? ⟨w1.heap.size + 1, 1, none⟩ = some (.int .i64 d1) := (hd3 _ _ q_b).trans c2_b_1
    have c3_b_2 : w3.cell? ⟨w1.heap.size + 1, 2, none⟩ = some (.int .i64 s1) := (hd3 _ _ q_b).trans c2_b_2
    replace q_a : w1.heap.size < w3.heap.size := by omega
    replace q_b : w1.heap.size + 1 < w3.heap.size := by omega
    have R3_lt := Lib.hid (TRow.below R2_lt.out B3)
    clear R2_lt
    have BW3 : Below w.heap.size w w3 := BW2.trans (B3.mono BW2.size)
    clear hc3 hf3 hb3 hd3 B3 c2_a_0 c2_a_1 c2_a_2 c2_b_0 c2_b_1 c2_b_2 BW2
    go_wp2_with fail
    refine (C3.out _).mono ?_
    rintro e4 w4 ⟨rfl, hb4⟩
    obtain ⟨hc4, hf4⟩ := bcell hb4
    have hz4 := hb4.size
    (try simp only [World.size_alloc, World.size_setCell, World.size_drew] at hz4)
    have B4 : Below w3.heap.size w3 w4 := Below.trans (b := _) (by (repeat' (first | (with_reducible exact Below.refl _ _) | (with_reducible assumption) | (with_reducible refine Below.alloc ?_ ?_ _) | (with_reducible refine Below.drew ?_) | (with_reducible refine below_drewN ?_ _) | (with_reducible refine Below.setCell ?_ ?_ _) | (with_reducible refine below_call ?_ ?_ (by assumption)) | go_size))) (hb4.mono (by first | omega | (simp only [World.size_alloc, World.size_setCell, World.size_drew]; omega)))
    obtain ⟨hd4, -⟩ := bcell B4
    have c4_a_0 : w4.cell? ⟨w1.heap.size, 0, none⟩ = some (.int .i64 n0) := (hd4 _ _ q_a).trans c3_a_0
    have c4_a_1 : w4.cell? ⟨w1.heap.size, 1, none⟩ = some (.int .i64 d0) := (hd4 _ _ q_a).trans c3_a_1
    have c4_a_2 : w4.cell? ⟨w1.heap.size, 2, none⟩ = some (.int .i64 s0) := (hd4 _ _ q_a).trans c3_a_2
    have c4_b_0 : w4.cell? ⟨w1.heap.size + 1, 0, none⟩ = some (.int .i64 n1) := (hd4 _ _ q_b).trans c3_b_0
    have c4_b_1 : w4.cell? ⟨w1.heap.size + 1, 1, none⟩ = some (.int .i64 d1) := (hd4 _ _ q_b).trans c3_b_1
    have c4_b_2 : w4.cell? ⟨w1.heap.size + 1, 2, none⟩ = some (.int .i64 s1) := (hd4 _ _ q_b).trans c3_b_2
    replace q_a : w1.heap.size < w4.heap.size := by omega
    replace q_b : w1.heap.size + 1 < w4.heap.size := by omega
    have R4_lt := Lib.hid (TRow.below R3_lt.out B4)
    clear R3_lt
    have R4_right := Lib.hid (TRow.below R3_right.out B4)
    clear R3_right
    have BW4 : Below w.heap.size w w4 := BW3.trans (B4.mono BW3.size)
    clear hc4 hf4 hb4 hd4 B4 c3_a_0 c3_a_1 c3_a_2 c3_b_0 c3_b_1 c3_b_2 BW3
    go_wp2_with fail
    refine (C4.out _).mono ?_
    rintro e5 w5 ⟨rfl, hb5⟩
    obtain ⟨hc5, hf5⟩ := bcell hb5
    have hz5 := hb5.size
    (try simp only [World.size_alloc, World.size_setCell, World.size_drew] at hz5)
    have B5 : Below w4.heap.size w4 w5 := Below.trans (b := _) (by (repeat' (first | (with_reducible exact Below.refl _ _) | (with_reducible assumption) | (with_reducible refine Below.alloc ?_ ?_ _) | (with_reducible refine Below.drew ?_) | (with_reducible refine below_drewN ?_ _) | (with_reducible refine Below.setCell ?_ ?_ _) | (with_reducible refine below_call ?_ ?_ (by assumption)) | go_size))) (hb5.mono (by first | omega | (simp only [World.size_alloc, World.size_setCell, World.size_drew]; omega)))
    obtain ⟨hd5, -⟩ := bcell B5
    have c5_a_0 : w5.cell? ⟨w1.heap.size, 0, none⟩ = some (.int .i64 n0) := (hd5 _ _ q_a).trans c4_a_0
    have c5_a_1 : w5.cell? ⟨w1.heap.size, 1, none⟩ = some (.int .i64 d0) := (hd5 _ _ q_a).trans c4_a_1
    have c5_a_2 : w5.cell? ⟨w1.heap.size, 2, none⟩ = some (.int .i64 s0) := (hd5 _ _ q_a).trans c4_a_2
    have c5_b_0 : w5.cell? ⟨w1.heap.size + 1, 0, none⟩ = some (.int .i64 n1) := (hd5 _ _ q_b).trans c4_b_0
    have c5_b_1 : w5.cell? ⟨w1.heap.size + 1, 1, none⟩ = some (.int .i64 d1) := (hd5 _ _ q_b).trans c4_b_1
    have c5_b_2 : w5.cell? ⟨w1.heap.size + 1, 2, none⟩ = some (.int .i64 s1) := (hd5 _ _ q_b).trans c4_b_2
    replace q_a : w1.heap.size < w5.heap.size := by omega
    replace q_b : w1.heap.size + 1 < w5.heap.size := by omega
    have R5_lt := Lib.hid (TRow.below R4_lt.out B5)
    clear R4_lt
    have R5_right := Lib.hid (TRow.below R4_right.out B5)
    clear R4_right
    have BW5 : Below w.heap.size w w5 := BW4.trans (B5.mono BW4.size)
    clear hc5 hf5 hb5 hd5 B5 c4_a_0 c4_a_1 c4_a_2 c4_b_0 c4_b_1 c4_b_2 BW4
    go_wp2_with fail
    refine (C5.out _).mono ?_
    rintro e6 w6 ⟨rfl, hb6⟩
    obtain ⟨hc6, hf6⟩ := bcell hb6
    have hz6 := hb6.size
    (try simp only [World.size_alloc, World.size_setCell, World.size_drew] at hz6)
    have B6 : Below w5.heap.size w5 w6 := Below.trans (b := _) (by (repeat' (first | (with_reducible exact Below.refl _ _) | (with_reducible assumption) | (with_reducible refine Below.alloc ?_ ?_ _) | (with_reducible refine Below.drew ?_) | (with_reducible refine below_drewN ?_ _) | (with_reducible refine Below.setCell ?_ ?_ _) | (with_reducible refine below_call ?_ ?_ (by assumption)) | go_size))) (hb6.mono (by first | omega | (simp only [World.size_alloc, World.size_setCell, World.size_drew]; omega)))
    obtain ⟨hd6, -⟩ := bcell B6
    have c6_a_0 : w6.cell? ⟨w1.heap.size, 0, none⟩ = some (.int .i64 n0) := (hd6 _ _ q_a).trans c5_a_0
    have c6_a_1 : w6.cell? ⟨w1.heap.size, 1, none⟩ = some (.int .i64 d0) := (hd6 _ _ q_a).trans c5_a_1
    have c6_a_2 : w6.cell? ⟨w1.heap.size, 2, none⟩ = some (.int .i64 s0) := (hd6 _ _ q_a).trans c5_a_2
    have c6_b_0 : w6.cell? ⟨w1.heap.size + 1, 0, none⟩ = some (.int .i64 n1) := (hd6 _ _ q_b).trans c5_b_0
    have c6_b_1 : w6.cell? ⟨w1.heap.size + 1, 1, none⟩ = some (.int .i64 d1) := (hd6 _ _ q_b).trans c5_b_1
    have c6_b_2 : w6.cell? ⟨w1.heap.size + 1, 2, none⟩ = some (.int .i64 s1) := (hd6 _ _ q_b).trans c5_b_2
    replace q_a : w1.heap.size < w6.heap.size := by omega
    replace q_b : w1.heap.size + 1 < w6.heap.size := by omega
    have R6_lt := Lib.hid (TRow.below R5_lt.out B6)
    clear R5_lt
    have R6_right := Lib.hid (TRow.below R5_right.out B6)
    clear R5_right
    have BW6 : Below w.heap.size w w6 := BW5.trans (B6.mono BW5.size)
    clear hc6 hf6 hb6 hd6 B6 c5_a_0 c5_a_1 c5_a_2 c5_b_0 c5_b_1 c5_b_2 BW5
    go_wp2_with fail
    refine (C6.out _).mono ?_
    rintro e7 w7 ⟨rfl, hb7⟩
    obtain ⟨hc7, hf7⟩ := bcell hb7
    have hz7 := hb7.size
    (try simp only [World.size_alloc, World.size_setCell, World.size_drew] at hz7)
    have B7 : Below w6.heap.size w6 w7 := Below.trans (b := _) (by (repeat' (first | (with_reducible exact Below.refl _ _) | (with_reducible assumption) | (with_reducible refine Below.alloc ?_ ?_ _) | (with_reducible refine Below.drew ?_) | (with_reducible refine below_drewN ?_ _) | (with_reducible refine Below.setCell ?_ ?_ _) | (with_reducible refine below_call ?_ ?_ (by assumption)) | go_size))) (hb7.mono (by first | omega | (simp only [World.size_alloc, World.size_setCell, World.size_drew]; omega)))
    obtain ⟨hd7, -⟩ := bcell B7
    have c7_a_0 : w7.cell? ⟨w1.heap.size, 0, none⟩ = some (.int .i64 n0) := (hd7 _ _ q_a).trans c6_a_0
    have c7_a_1 : w7.cell? ⟨w1.heap.size, 1, none⟩ = some (.int .i64 d0) := (hd7 _ _ q_a).trans c6_a_1
    have c7_a_2 : w7.cell? ⟨w1.heap.size, 2, none⟩ = some (.int .i64 s0) := (hd7 _ _ q_a).trans c6_a_2
    have c7_b_0 : w7.cell? ⟨w1.heap.size + 1, 0, none⟩ = some (.int .i64 n1) := (hd7 _ _ q_b).trans c6_b_0
    have c7_b_1 : w7.cell? ⟨w1.heap.size + 1, 1, none⟩ = some (.int .i64 d1) := (hd7 _ _ q_b).trans c6_b_1
    have c7_b_2 : w7.cell? ⟨w1.heap.size + 1, 2, none⟩ = some (.int .i64 s1) := (hd7 _ _ q_b).trans c6_b_2
    replace q_a : w1.heap.size < w7.heap.size := by omega
    replace q_b : w1.heap.size + 1 < w7.heap.size := by omega
    have c7_first_0 : w7.cell? ⟨w6.heap.size, 0, none⟩ = some (.int .i64 fn) := (hc7 _ _ (by go_size)).trans (by go_simp)
    have c7_first_1 : w7.cell? ⟨w6.heap.size, 1, none⟩ = some (.int .i64 fd) := (hc7 _ _ (by go_size)).trans (by go_simp)
    have q_first : w6.heap.size < w7.heap.size := by omega
    have R7_lt := Lib.hid (TRow.below R6_lt.out B7)
    clear R6_lt
    have R7_right := Lib.hid (TRow.below R6_right.out B7)
    clear R6_right
    have BW7 : Below w.heap.size w w7 := BW6.trans (B7.mono BW6.size)
    clear hc7 hf7 hb7 hd7 B7 c6_a_0 c6_a_1 c6_a_2 c6_b_0 c6_b_1 c6_b_2 BW6
    go_wp2_with fail
    refine (C7.out _).mono ?_
    rintro e8 w8 ⟨v_lp, rfl, hr8, hb8⟩
    obtain ⟨pa_lp, pc_lp, rfl, -⟩ := TRow.cells hr8
    have R8_lp := Lib.hid hr8
    clear hr8
    obtain ⟨hc8, hf8⟩ := bcell hb8
    have hz8 := hb8.size
    (try simp only [World.size_alloc, World.size_setCell, World.size_drew] at hz8)
    have B8 : Below w7.heap.size w7 w8 := Below.trans (b := _) (by (repeat' (first | (with_reducible exact Below.refl _ _) | (with_reducible assumption) | (with_reducible refine Below.alloc ?_ ?_ _) | (with_reducible refine Below.drew ?_) | (with_reducible refine below_drewN ?_ _) | (with_reducible refine Below.setCell ?_ ?_ _) | (with_reducible refine below_call ?_ ?_ (by assumption)) | go_size))) (hb8.mono (by first | omega | (simp only [World.size_alloc, World.size_setCell, World.size_drew]; omega)))
    obtain ⟨hd8, -⟩ := bcell B8
    have c8_a_0 : w8.cell? ⟨w1.heap.size, 0, none⟩ = some (.int .i64 n0) := (hd8 _ _ q_a).trans c7_a_0
    have c8_a_1 : w8.cell? ⟨w1.heap.size, 1, none⟩ = some (.int .i64 d0) := (hd8 _ _ q_a).trans c7_a_1
    have c8_a_2 : w8.cell? ⟨w1.heap.size, 2, none⟩ = some (.int .i64 s0) := (hd8 _ _ q_a).trans c7_a_2
    have c8_b_0 : w8.cell? ⟨w1.heap.size + 1, 0, none⟩ = some (.int .i64 n1) := (hd8 _ _ q_b).trans c7_b_0
    have c8_b_1 : w8.cell? ⟨w1.heap.size + 1, 1, none⟩ = some (.int .i64 d1) := (hd8 _ _ q_b).trans c7_b_1
    have c8_b_2 : w8.cell? ⟨w1.heap.size + 1, 2, none⟩ = some (.int .i64 s1) := (hd8 _ _ q_b).trans c7_b_2
    have c8_first_0 : w8.cell? ⟨w6.heap.size, 0, none⟩ = some (.int .i64 fn) := (hd8 _ _ q_first).trans c7_first_0
    have c8_first_1 : w8.cell? ⟨w6.heap.size, 1, none⟩ = some (.int .i64 fd) := (hd8 _ _ q_first).trans c7_first_1
    replace q_a : w1.heap.size < w8.heap.size := by omega
    replace q_b : w1.heap.size + 1 < w8.heap.size := by omega
    replace q_first : w6.heap.size < w8.heap.size := by omega
    have c8_model_0 : w8.cell? ⟨w7.heap.size, 0, none⟩ = some (.int .i64 fn) := (hc8 _ _ (by go_size)).trans (by go_simp)
    have c8_model_1 : w8.cell? ⟨w7.heap.size, 1, none⟩ = some (.int .i64 fd) := (hc8 _ _ (by go_size)).trans (by go_simp)
    have q_model : w7.heap.size < w8.heap.size := by omega
    have R8_lt := Lib.hid (TRow.below R7_lt.out B8)
    clear R7_lt
    have R8_right := Lib.hid (TRow.below R7_right.out B8)
    clear R7_right
    have BW8 : Below w.heap.size w w8 := BW7.trans (B8.mono BW7.size)
    clear hc8 hf8 hb8 hd8 B8 c7_a_0 c7_a_1 c7_a_2 c7_b_0 c7_b_1 c7_b_2 c7_first_0 c7_first_1 BW7
    go_wp2_with fail
    refine (C8.out _).mono ?_
    rintro e9 w9 ⟨v_value, rfl, hr9, hb9⟩
    obtain ⟨pa_value, pc_value, rfl, -⟩ := TRow.cells hr9
    have R9_value := Lib.hid hr9
    clear hr9
    obtain ⟨hc9, hf9⟩ := bcell hb9
    have hz9 := hb9.size
    (try simp only [World.size_alloc, World.size_setCell, World.size_drew] at hz9)
    have B9 : Below w8.heap.size w8 w9 := Below.trans (b := _) (by (repeat' (first | (with_reducible exact Below.refl _ _) | (with_reducible assumption) | (with_reducible refine Below.alloc ?_ ?_ _) | (with_reducible refine Below.drew ?_) | (with_reducible refine below_drewN ?_ _) | (with_reducible refine Below.setCell ?_ ?_ _) | (with_reducible refine below_call ?_ ?_ (by assumption)) | go_size))) (hb9.mono (by first | omega | (simp only [World.size_alloc, World.size_setCell, World.size_drew]; omega)))
    obtain ⟨hd9, -⟩ := bcell B9
    have c9_a_0 : w9.cell? ⟨w1.heap.size, 0, none⟩ = some (.int .i64 n0) := (hd9 _ _ q_a).trans c8_a_0
    have c9_a_1 : w9.cell? ⟨w1.heap.size, 1, none⟩ = some (.int .i64 d0) := (hd9 _ _ q_a).trans c8_a_1
    have c9_a_2 : w9.cell? ⟨w1.heap.size, 2, none⟩ = some (.int .i64 s0) := (hd9 _ _ q_a).trans c8_a_2
    have c9_b_0 : w9.cell? ⟨w1.heap.size + 1, 0, none⟩ = some (.int .i64 n1) := (hd9 _ _ q_b).trans c8_b_0
    have c9_b_1 : w9.cell? ⟨w1.heap.size + 1, 1, none⟩ = some (.int .i64 d1) := (hd9 _ _ q_b).trans c8_b_1
    have c9_b_2 : w9.cell? ⟨w1.heap.size + 1, 2, none⟩ = some (.int .i64 s1) := (hd9 _ _ q_b).trans c8_b_2
    have c9_first_0 : w9.cell? ⟨w6.heap.size, 0, none⟩ = some (.int .i64 fn) := (hd9 _ _ q_first).trans c8_first_0
    have c9_first_1 : w9.cell? ⟨w6.heap.size, 1, none⟩ = some (.int .i64 fd) := (hd9 _ _ q_first).trans c8_first_1
    have c9_model_0 : w9.cell? ⟨w7.heap.size, 0, none⟩ = some (.int .i64 fn) := (hd9 _ _ q_model).trans c8_model_0
    have c9_model_1 : w9.cell? ⟨w7.heap.size, 1, none⟩ = some (.int .i64 fd) := (hd9 _ _ q_model).trans c8_model_1
    replace q_a : w1.heap.size < w9.heap.size := by omega
    replace q_b : w1.heap.size + 1 < w9.heap.size := by omega
    replace q_first : w6.heap.size < w9.heap.size := by omega
    replace q_model : w7.heap.size < w9.heap.size := by omega
    have R9_lt := Lib.hid (TRow.below R8_lt.out B9)
    clear R8_lt
    have R9_right := Lib.hid (TRow.below R8_right.out B9)
    clear R8_right
    have R9_lp := Lib.hid (TRow.below R8_lp.out B9)
    clear R8_lp
    have BW9 : Below w.heap.size w w9 := BW8.trans (B9.mono BW8.size)
    clear hc9 hf9 hb9 hd9 B9 c8_a_0 c8_a_1 c8_a_2 c8_b_0 c8_b_1 c8_b_2 c8_first_0 c8_first_1 c8_model_0 c8_model_1 BW8
    go_upto_region 12 with fail
    go_cut [166] from 999 to 999 (fun x wx => x = .bool false ∧ Below w9.heap.size w9 wx)
    case first =>
      as_aux_lemma =>
        cases po
        · cases ok
          · refine wp_region_below (by kernel_rfl) (by kernel_rfl) ?_
            (apply wpB_take (hw := rfl); (intro wq hq; obtain ⟨hcq, hfq⟩ := bcell hq; unfold atB; go_simp; exact ⟨rfl, rfl⟩); (rw [put_lit]; dsimp only [List.set]))
            (apply wpB_take (hw := rfl); (intro wq hq; obtain ⟨hcq, hfq⟩ := bcell hq; unfold atB; go_simp; exact ⟨rfl, rfl⟩); (rw [put_lit]; dsimp only [List.set]))
            (apply wpB_take (hw := rfl); (intro wq hq; obtain ⟨hcq, hfq⟩ := bcell hq; unfold atB; go_simp; exact ⟨rfl, rfl⟩); (rw [put_lit]; dsimp only [List.set]))
            (apply wpB_take (hw := rfl); (intro wq hq; obtain ⟨hcq, hfq⟩ := bcell hq; unfold atB; go_simp; exact ⟨rfl, rfl⟩); (rw [put_lit]; dsimp only [List.set]))
            (apply wpB_take (hw := rfl); (intro wq hq; obtain ⟨hcq, hfq⟩ := bcell hq; unfold atB; go_simp; exact ⟨rfl, rfl⟩); (rw [put_lit]; dsimp only [List.set]))
            (apply wpB_take (hw := rfl); (intro wq hq; obtain ⟨hcq, hfq⟩ := bcell hq; unfold atB; go_simp; exact ⟨rfl, rfl⟩); (rw [put_lit]; dsimp only [List.set]))
            (apply wpB_take (hw := rfl); (intro wq hq; unfold atB; go_simp; exact ⟨rfl, kTurns_same LT _ _ _ _ _ (TRow.below R9_lt.out hq) (TRow.below R9_right.out hq) HLT.out⟩); (rw [put_lit]; dsimp only [List.set]))
            (apply wpB_take (hw := rfl); (intro wq hq; obtain ⟨hcq, hfq⟩ := bcell hq; unfold atB; go_simp; exact ⟨rfl, rfl⟩); (rw [put_lit]; dsimp only [List.set]))
            (apply wpB_take (hw := rfl); (intro wq hq; obtain ⟨hcq, hfq⟩ := bcell hq; unfold atB; go_simp; exact ⟨rfl, rfl⟩); (rw [put_lit]; dsimp only [List.set]))
            (apply wpB_take (hw := rfl); (intro wq hq; obtain ⟨hcq, hfq⟩ := bcell hq; unfold atB; go_simp; exact ⟨rfl, rfl⟩); (rw [put_lit]; dsimp only [List.set]))
            (apply wpB_take (hw := rfl); (intro wq hq; obtain ⟨hcq, hfq⟩ := bcell hq; unfold atB; go_simp; exact ⟨rfl, rfl⟩); (rw [put_lit]; dsimp only [List.set]))
            (apply wpB_take (hw := rfl); (intro wq hq; obtain ⟨hcq, hfq⟩ := bcell hq; unfold atB; go_simp; exact ⟨rfl, rfl⟩); (rw [put_lit]; dsimp only [List.set]))
            (apply wpB_take (hw := rfl); (intro wq hq; obtain ⟨hcq, hfq⟩ := bcell hq; unfold atB; go_simp; exact ⟨rfl, rfl⟩); (rw [put_lit]; dsimp only [List.set]))
            (apply wpB_take (hw := rfl); (intro wq hq; obtain ⟨hcq, hfq⟩ := bcell hq; unfold atB; go_simp; exact ⟨rfl, rfl⟩); (rw [put_lit]; dsimp only [List.set]))
            (apply wpB_take (hw := rfl); (intro wq hq; obtain ⟨hcq, hfq⟩ := bcell hq; unfold atB; go_simp; exact ⟨rfl, rfl⟩); (rw [put_lit]; dsimp only [List.set]))
            (apply wpB_take (hw := rfl); (intro wq hq; obtain ⟨hcq, hfq⟩ := bcell hq; unfold atB; go_simp; exact ⟨rfl, rfl⟩); (rw [put_lit]; dsimp only [List.set]))
            (apply wpB_take (hw := rfl); (intro wq hq; obtain ⟨hcq, hfq⟩ := bcell hq; unfold atB; go_simp; exact ⟨rfl, rfl⟩); (rw [put_lit]; dsimp only [List.set]))
            (apply wpB_take (hw := rfl); (intro wq hq; obtain ⟨hcq, hfq⟩ := bcell hq; unfold atB; go_simp; exact ⟨rfl, rfl⟩); (rw [put_lit]; dsimp only [List.set]))
            (apply wpB_take (hw := rfl); (intro wq hq; obtain ⟨hcq, hfq⟩ := bcell hq; unfold atB; go_simp; exact ⟨rfl, rfl⟩); (rw [put_lit]; dsimp only [List.set]))
            (apply wpB_take (hw := rfl); (intro wq hq; obtain ⟨hcq, hfq⟩ := bcell hq; unfold atB; go_simp; exact ⟨rfl, rfl⟩); (rw [put_lit]; dsimp only [List.set]))
            (apply wpB_take (hw := rfl); (intro wq hq; obtain ⟨hcq, hfq⟩ := bcell hq; unfold atB; go_simp; exact ⟨rfl, rfl⟩); (rw [put_lit]; dsimp only [List.set]))
            (apply wpB_take (hw := rfl); (intro wq hq; obtain ⟨hcq, hfq⟩ := bcell hq; unfold atB; go_simp; exact ⟨rfl, rfl⟩); (rw [put_lit]; dsimp only [List.set]))
            (apply wpB_take (hw := rfl); (intro wq hq; obtain ⟨hcq, hfq⟩ := bcell hq; unfold atB; go_simp; exact ⟨rfl, rfl⟩); (rw [put_lit]; dsimp only [List.set]))
            (apply wpB_take (hw := rfl); (intro wq hq; obtain ⟨hcq, hfq⟩ := bcell hq; unfold atB; go_simp; exact ⟨rfl, rfl⟩); (rw [put_lit]; dsimp only [List.set]))
            (apply wpB_take (hw := rfl); (intro wq hq; obtain ⟨hcq, hfq⟩ := bcell hq; unfold atB; go_simp; exact ⟨rfl, rfl⟩); (rw [put_lit]; dsimp only [List.set]))
            (apply wpB_take (hw := rfl); (intro wq hq; obtain ⟨hcq, hfq⟩ := bcell hq; unfold atB; go_simp; exact ⟨rfl, rfl⟩); (rw [put_lit]; dsimp only [List.set]))
            (apply wpB_take (hw := rfl); (intro wq hq; obtain ⟨hcq, hfq⟩ := bcell hq; unfold atB; go_simp; exact ⟨rfl, rfl⟩); (rw [put_lit]; dsimp only [List.set]))
            (apply wpB_take (hw := rfl); (intro wq hq; obtain ⟨hcq, hfq⟩ := bcell hq; unfold atB; go_simp; exact ⟨rfl, rfl⟩); (rw [put_lit]; dsimp only [List.set]))
            (apply wpB_take (hw := rfl); (intro wq hq; obtain ⟨hcq, hfq⟩ := bcell hq; unfold atB; go_simp; exact ⟨rfl, rfl⟩); (rw [put_lit]; dsimp only [List.set]))
            (apply wpB_take (hw := rfl); (intro wq hq; obtain ⟨hcq, hfq⟩ := bcell hq; unfold atB; go_simp; exact ⟨rfl, rfl⟩); (rw [put_lit]; dsimp only [List.set]))
            (apply wpB_take (hw := rfl); (intro wq hq; obtain ⟨hcq, hfq⟩ := bcell hq; unfold atB; go_simp; exact ⟨rfl, rfl⟩); (rw [put_lit]; dsimp only [List.set]))
            (apply wpB_take (hw := rfl); (intro wq hq; obtain ⟨hcq, hfq⟩ := bcell hq; unfold atB; go_simp; exact ⟨rfl, rfl⟩); (rw [put_lit]; dsimp only [List.set]))
            (apply wpB_take (hw := rfl); (intro wq hq; obtain ⟨hcq, hfq⟩ := bcell hq; unfold atB; go_simp; exact ⟨rfl, rfl⟩); (rw [put_lit]; dsimp only [List.set]))
            (apply wpB_take (hw := rfl); (intro wq hq; obtain ⟨hcq, hfq⟩ := bcell hq; unfold atB; go_simp; exact ⟨rfl, rfl⟩); (rw [put_lit]; dsimp only [List.set]))
            (apply wpB_take (hw := rfl); (intro wq hq; obtain ⟨hcq, hfq⟩ := bcell hq; unfold atB; go_simp; exact ⟨rfl, rfl⟩); (rw [put_lit]; dsimp only [List.set]))
            (apply wpB_take (hw := rfl); (intro wq hq; obtain ⟨hcq, hfq⟩ := bcell hq; unfold atB; go_simp; exact ⟨rfl, rfl⟩); (rw [put_lit]; dsimp only [List.set]))
            (apply wpB_take (hw := rfl); (intro wq hq; obtain ⟨hcq, hfq⟩ := bcell hq; unfold atB; go_simp; exact ⟨rfl, rfl⟩); (rw [put_lit]; dsimp only [List.set]))
            (apply wpB_take (hw := rfl); (intro wq hq; unfold atB; go_simp; exact ⟨rfl, kTurns_same LP _ _ _ _ _ (TRow.below R9_lp.out hq) (TRow.below R9_value.out hq) HLP.out⟩); (rw [put_lit]; dsimp only [List.set]))
            (apply wpB_take (hw := rfl); (intro wq hq; obtain ⟨hcq, hfq⟩ := bcell hq; unfold atB; go_simp; exact ⟨rfl, rfl⟩); (rw [put_lit]; dsimp only [List.set]))
            (apply wpB_take (hw := rfl); (intro wq hq; obtain ⟨hcq, hfq⟩ := bcell hq; unfold atB; go_simp; exact ⟨rfl, rfl⟩); (rw [put_lit]; dsimp only [List.set]))
            (apply wpB_take (hw := rfl); (intro wq hq; obtain ⟨hcq, hfq⟩ := bcell hq; unfold atB; go_simp; exact ⟨rfl, rfl⟩); (rw [put_lit]; dsimp only [List.set]))
            (apply wpB_take (hw := rfl); (intro wq hq; obtain ⟨hcq, hfq⟩ := bcell hq; unfold atB; go_simp; exact ⟨rfl, rfl⟩); (rw [put_lit]; dsimp only [List.set]))
            (apply wpB_take (hw := rfl); (intro wq hq; obtain ⟨hcq, hfq⟩ := bcell hq; unfold atB; go_simp; exact ⟨rfl, rfl⟩); (rw [put_lit]; dsimp only [List.set]))
            (apply wpB_take (hw := rfl); (intro wq hq; obtain ⟨hcq, hfq⟩ := bcell hq; unfold atB; go_simp; exact ⟨rfl, rfl⟩); (rw [put_lit]; dsimp only [List.set]))
            (apply wpB_take (hw := rfl); (intro wq hq; obtain ⟨hcq, hfq⟩ := bcell hq; unfold atB; go_simp; exact ⟨rfl, rfl⟩); (rw [put_lit]; dsimp only [List.set]))
            (apply wpB_take (hw := rfl); (intro wq hq; obtain ⟨hcq, hfq⟩ := bcell hq; unfold atB; go_simp; exact ⟨rfl, rfl⟩); (rw [put_lit]; dsimp only [List.set]))
            (apply wpB_take (hw := rfl); (intro wq hq; obtain ⟨hcq, hfq⟩ := bcell hq; unfold atB; go_simp; exact ⟨rfl, rfl⟩); (rw [put_lit]; dsimp only [List.set]))
            (apply wpB_take (hw := rfl); (intro wq hq; obtain ⟨hcq, hfq⟩ := bcell hq; unfold atB; go_simp; exact ⟨rfl, rfl⟩); (rw [put_lit]; dsimp only [List.set]))
            (apply wpB_skip (hw := rfl); try (rw [put_lit]; dsimp only [List.set]))
            (apply wpB_skip (hw := rfl); try (rw [put_lit]; dsimp only [List.set]))
            (apply wpB_take (hw := rfl); (intro wq hq; obtain ⟨hcq, hfq⟩ := bcell hq; unfold atB; go_simp; exact ⟨rfl, rfl⟩); (rw [put_lit]; dsimp only [List.set]))
            (apply wpB_take (hw := rfl); (intro wq hq; obtain ⟨hcq, hfq⟩ := bcell hq; unfold atB; go_simp; exact ⟨rfl, rfl⟩); (rw [put_lit]; dsimp only [List.set]))
            (apply wpB_take (hw := rfl); (intro wq hq; obtain ⟨hcq, hfq⟩ := bcell hq; unfold atB; go_simp; exact ⟨rfl, rfl⟩); (rw [put_lit]; dsimp only [List.set]))
            (apply wpB_take (hw := rfl); (intro wq hq; obtain ⟨hcq, hfq⟩ := bcell hq; unfold atB; go_simp; exact ⟨rfl, rfl⟩); (rw [put_lit]; dsimp only [List.set]))
            (apply wpB_take (hw := rfl); (intro wq hq; obtain ⟨hcq, hfq⟩ := bcell hq; unfold atB; go_simp; exact ⟨rfl, rfl⟩); (rw [put_lit]; dsimp only [List.set]))
            (apply wpB_skip (hw := rfl); try (rw [put_lit]; dsimp only [List.set]))
            (apply wpB_skip (hw := rfl); try (rw [put_lit]; dsimp only [List.set]))
            (apply wpB_take (hw := rfl); (intro wq hq; obtain ⟨hcq, hfq⟩ := bcell hq; unfold atB; go_simp; exact ⟨rfl, rfl⟩); (rw [put_lit]; dsimp only [List.set]))
            (apply wpB_take (hw := rfl); (intro wq hq; obtain ⟨hcq, hfq⟩ := bcell hq; unfold atB; go_simp; exact ⟨rfl, rfl⟩); (rw [put_lit]; dsimp only [List.set]))
            (apply wpB_take (hw := rfl); (intro wq hq; obtain ⟨hcq, hfq⟩ := bcell hq; unfold atB; go_simp; exact ⟨rfl, rfl⟩); (rw [put_lit]; dsimp only [List.set]))
            (apply wpB_take (hw := rfl); (intro wq hq; obtain ⟨hcq, hfq⟩ := bcell hq; unfold atB; go_simp; exact ⟨rfl, rfl⟩); (rw [put_lit]; dsimp only [List.set]))
            (apply wpB_take (hw := rfl); (intro wq hq; unfold atB; go_simp; exact ⟨rfl, CI1.out _⟩); (rw [put_lit]; dsimp only [List.set]))
            (apply wpB_take (hw := rfl); (intro wq hq; obtain ⟨hcq, hfq⟩ := bcell hq; unfold atB; go_simp; exact ⟨rfl, rfl⟩); (rw [put_lit]; dsimp only [List.set]))
            (apply wpB_take (hw := rfl); (intro wq hq; unfold atB; go_simp; exact ⟨rfl, CI2.out _⟩); (rw [put_lit]; dsimp only [List.set]))
            (apply wpB_take (hw := rfl); (intro wq hq; obtain ⟨hcq, hfq⟩ := bcell hq; unfold atB; go_simp; exact ⟨rfl, rfl⟩); (rw [put_lit]; dsimp only [List.set]))
            (apply wpB_take (hw := rfl); (intro wq hq; obtain ⟨hcq, hfq⟩ := bcell hq; unfold atB; go_simp; exact ⟨rfl, rfl⟩); (rw [put_lit]; dsimp only [List.set]))
            refine fun wx hbx => ?_
            simp only [Exit.then]
            refine (by assumption : ∀ (a' : Act) (w' : World), Met _ a' w' → _) _ _ ?_
            go_meet
            case rel => exact ⟨rfl, hbx⟩
          · have e := (F1.out rfl).1
            subst e
            refine wp_region_below (by kernel_rfl) (by kernel_rfl) ?_
            (apply wpB_take (hw := rfl); (intro wq hq; obtain ⟨hcq, hfq⟩ := bcell hq; unfold atB; go_simp; exact ⟨rfl, rfl⟩); (rw [put_lit]; dsimp only [List.set]))
            (apply wpB_take (hw := rfl); (intro wq hq; obtain ⟨hcq, hfq⟩ := bcell hq; unfold atB; go_simp; exact ⟨rfl, rfl⟩); (rw [put_lit]; dsimp only [List.set]))
            (apply wpB_take (hw := rfl); (intro wq hq; obtain ⟨hcq, hfq⟩ := bcell hq; unfold atB; go_simp; exact ⟨rfl, rfl⟩); (rw [put_lit]; dsimp only [List.set]))
            (apply wpB_take (hw := rfl); (intro wq hq; obtain ⟨hcq, hfq⟩ := bcell hq; unfold atB; go_simp; exact ⟨rfl, rfl⟩); (rw [put_lit]; dsimp only [List.set]))
            (apply wpB_take (hw := rfl); (intro wq hq; obtain ⟨hcq, hfq⟩ := bcell hq; unfold atB; go_simp; exact ⟨rfl, rfl⟩); (rw [put_lit]; dsimp only [List.set]))
            (apply wpB_take (hw := rfl); (intro wq hq; obtain ⟨hcq, hfq⟩ := bcell hq; unfold atB; go_simp; exact ⟨rfl, rfl⟩); (rw [put_lit]; dsimp only [List.set]))
            (apply wpB_take (hw := rfl); (intro wq hq; unfold atB; go_simp; exact ⟨rfl, kTurns_same LT _ _ _ _ _ (TRow.below R9_lt.out hq) (TRow.below R9_right.out hq) HLT.out⟩); (rw [put_lit]; dsimp only [List.set]))
            (apply wpB_take (hw := rfl); (intro wq hq; obtain ⟨hcq, hfq⟩ := bcell hq; unfold atB; go_simp; exact ⟨rfl, rfl⟩); (rw [put_lit]; dsimp only [List.set]))
            (apply wpB_take (hw := rfl); (intro wq hq; obtain ⟨hcq, hfq⟩ := bcell hq; unfold atB; go_simp; exact ⟨rfl, rfl⟩); (rw [put_lit]; dsimp only [List.set]))
            (apply wpB_take (hw := rfl); (intro wq hq; obtain ⟨hcq, hfq⟩ := bcell hq; unfold atB; go_simp; exact ⟨rfl, rfl⟩); (rw [put_lit]; dsimp only [List.set]))
            (apply wpB_take (hw := rfl); (intro wq hq; obtain ⟨hcq, hfq⟩ := bcell hq; unfold atB; go_simp; exact ⟨rfl, rfl⟩); (rw [put_lit]; dsimp only [List.set]))
            (apply wpB_take (hw := rfl); (intro wq hq; obtain ⟨hcq, hfq⟩ := bcell hq; unfold atB; go_simp; exact ⟨rfl, rfl⟩); (rw [put_lit]; dsimp only [List.set]))
            (apply wpB_take (hw := rfl); (intro wq hq; obtain ⟨hcq, hfq⟩ := bcell hq; unfold atB; go_simp; exact ⟨rfl, rfl⟩); (rw [put_lit]; dsimp only [List.set]))
            (apply wpB_take (hw := rfl); (intro wq hq; obtain ⟨hcq, hfq⟩ := bcell hq; unfold atB; go_simp; exact ⟨rfl, rfl⟩); (rw [put_lit]; dsimp only [List.set]))
            (apply wpB_take (hw := rfl); (intro wq hq; obtain ⟨hcq, hfq⟩ := bcell hq; unfold atB; go_simp; exact ⟨rfl, rfl⟩); (rw [put_lit]; dsimp only [List.set]))
            (apply wpB_take (hw := rfl); (intro wq hq; obtain ⟨hcq, hfq⟩ := bcell hq; unfold atB; go_simp; exact ⟨rfl, rfl⟩); (rw [put_lit]; dsimp only [List.set]))
            (apply wpB_take (hw := rfl); (intro wq hq; obtain ⟨hcq, hfq⟩ := bcell hq; unfold atB; go_simp; exact ⟨rfl, rfl⟩); (rw [put_lit]; dsimp only [List.set]))
            (apply wpB_take (hw := rfl); (intro wq hq; obtain ⟨hcq, hfq⟩ := bcell hq; unfold atB; go_simp; exact ⟨rfl, rfl⟩); (rw [put_lit]; dsimp only [List.set]))
            (apply wpB_take (hw := rfl); (intro wq hq; obtain ⟨hcq, hfq⟩ := bcell hq; unfold atB; go_simp; exact ⟨rfl, rfl⟩); (rw [put_lit]; dsimp only [List.set]))
            (apply wpB_take (hw := rfl); (intro wq hq; obtain ⟨hcq, hfq⟩ := bcell hq; unfold atB; go_simp; exact ⟨rfl, rfl⟩); (rw [put_lit]; dsimp only [List.set]))
            (apply wpB_take (hw := rfl); (intro wq hq; obtain ⟨hcq, hfq⟩ := bcell hq; unfold atB; go_simp; exact ⟨rfl, rfl⟩); (rw [put_lit]; dsimp only [List.set]))
            (apply wpB_take (hw := rfl); (intro wq hq; obtain ⟨hcq, hfq⟩ := bcell hq; unfold atB; go_simp; exact ⟨rfl, rfl⟩); (rw [put_lit]; dsimp only [List.set]))
            (apply wpB_take (hw := rfl); (intro wq hq; obtain ⟨hcq, hfq⟩ := bcell hq; unfold atB; go_simp; exact ⟨rfl, rfl⟩); (rw [put_lit]; dsimp only [List.set]))
            (apply wpB_take (hw := rfl); (intro wq hq; obtain ⟨hcq, hfq⟩ := bcell hq; unfold atB; go_simp; exact ⟨rfl, rfl⟩); (rw [put_lit]; dsimp only [List.set]))
            (apply wpB_take (hw := rfl); (intro wq hq; obtain ⟨hcq, hfq⟩ := bcell hq; unfold atB; go_simp; exact ⟨rfl, rfl⟩); (rw [put_lit]; dsimp only [List.set]))
            (apply wpB_take (hw := rfl); (intro wq hq; obtain ⟨hcq, hfq⟩ := bcell hq; unfold atB; go_simp; exact ⟨rfl, rfl⟩); (rw [put_lit]; dsimp only [List.set]))
            (apply wpB_take (hw := rfl); (intro wq hq; obtain ⟨hcq, hfq⟩ := bcell hq; unfold atB; go_simp; exact ⟨rfl, rfl⟩); (rw [put_lit]; dsimp only [List.set]))
            (apply wpB_take (hw := rfl); (intro wq hq; obtain ⟨hcq, hfq⟩ := bcell hq; unfold atB; go_simp; exact ⟨rfl, rfl⟩); (rw [put_lit]; dsimp only [List.set]))
            (apply wpB_take (hw := rfl); (intro wq hq; obtain ⟨hcq, hfq⟩ := bcell hq; unfold atB; go_simp; exact ⟨rfl, rfl⟩); (rw [put_lit]; dsimp only [List.set]))
            (apply wpB_take (hw := rfl); (intro wq hq; obtain ⟨hcq, hfq⟩ := bcell hq; unfold atB; go_simp; exact ⟨rfl, rfl⟩); (rw [put_lit]; dsimp only [List.set]))
            (apply wpB_take (hw := rfl); (intro wq hq; obtain ⟨hcq, hfq⟩ := bcell hq; unfold atB; go_simp; exact ⟨rfl, rfl⟩); (rw [put_lit]; dsimp only [List.set]))
            (apply wpB_take (hw := rfl); (intro wq hq; obtain ⟨hcq, hfq⟩ := bcell hq; unfold atB; go_simp; exact ⟨rfl, rfl⟩); (rw [put_lit]; dsimp only [List.set]))
            (apply wpB_take (hw := rfl); (intro wq hq; obtain ⟨hcq, hfq⟩ := bcell hq; unfold atB; go_simp; exact ⟨rfl, rfl⟩); (rw [put_lit]; dsimp only [List.set]))
            (apply wpB_take (hw := rfl); (intro wq hq; obtain ⟨hcq, hfq⟩ := bcell hq; unfold atB; go_simp; exact ⟨rfl, rfl⟩); (rw [put_lit]; dsimp only [List.set]))
            (apply wpB_take (hw := rfl); (intro wq hq; obtain ⟨hcq, hfq⟩ := bcell hq; unfold atB; go_simp; exact ⟨rfl, rfl⟩); (rw [put_lit]; dsimp only [List.set]))
            (apply wpB_take (hw := rfl); (intro wq hq; obtain ⟨hcq, hfq⟩ := bcell hq; unfold atB; go_simp; exact ⟨rfl, rfl⟩); (rw [put_lit]; dsimp only [List.set]))
            (apply wpB_take (hw := rfl); (intro wq hq; obtain ⟨hcq, hfq⟩ := bcell hq; unfold atB; go_simp; exact ⟨rfl, rfl⟩); (rw [put_lit]; dsimp only [List.set]))
            (apply wpB_take (hw := rfl); (intro wq hq; unfold atB; go_simp; exact ⟨rfl, kTurns_same LP _ _ _ _ _ (TRow.below R9_lp.out hq) (TRow.below R9_value.out hq) HLP.out⟩); (rw [put_lit]; dsimp only [List.set]))
            (apply wpB_take (hw := rfl); (intro wq hq; obtain ⟨hcq, hfq⟩ := bcell hq; unfold atB; go_simp; exact ⟨rfl, rfl⟩); (rw [put_lit]; dsimp only [List.set]))
            (apply wpB_take (hw := rfl); (intro wq hq; obtain ⟨hcq, hfq⟩ := bcell hq; unfold atB; go_simp; exact ⟨rfl, rfl⟩); (rw [put_lit]; dsimp only [List.set]))
            (apply wpB_take (hw := rfl); (intro wq hq; obtain ⟨hcq, hfq⟩ := bcell hq; unfold atB; go_simp; exact ⟨rfl, rfl⟩); (rw [put_lit]; dsimp only [List.set]))
            (apply wpB_take (hw := rfl); (intro wq hq; obtain ⟨hcq, hfq⟩ := bcell hq; unfold atB; go_simp; exact ⟨rfl, rfl⟩); (rw [put_lit]; dsimp only [List.set]))
            (apply wpB_take (hw := rfl); (intro wq hq; obtain ⟨hcq, hfq⟩ := bcell hq; unfold atB; go_simp; exact ⟨rfl, rfl⟩); (rw [put_lit]; dsimp only [List.set]))
            (apply wpB_take (hw := rfl); (intro wq hq; obtain ⟨hcq, hfq⟩ := bcell hq; unfold atB; go_simp; exact ⟨rfl, rfl⟩); (rw [put_lit]; dsimp only [List.set]))
            (apply wpB_take (hw := rfl); (intro wq hq; obtain ⟨hcq, hfq⟩ := bcell hq; unfold atB; go_simp; exact ⟨rfl, rfl⟩); (rw [put_lit]; dsimp only [List.set]))
            (apply wpB_take (hw := rfl); (intro wq hq; obtain ⟨hcq, hfq⟩ := bcell hq; unfold atB; go_simp; exact ⟨rfl, rfl⟩); (rw [put_lit]; dsimp only [List.set]))
            (apply wpB_take (hw := rfl); (intro wq hq; obtain ⟨hcq, hfq⟩ := bcell hq; unfold atB; go_simp; exact ⟨rfl, rfl⟩); (rw [put_lit]; dsimp only [List.set]))
            (apply wpB_take (hw := rfl); (intro wq hq; obtain ⟨hcq, hfq⟩ := bcell hq; unfold atB; go_simp; exact ⟨rfl, rfl⟩); (rw [put_lit]; dsimp only [List.set]))
            (apply wpB_skip (hw := rfl); try (rw [put_lit]; dsimp only [List.set]))
            (apply wpB_skip (hw := rfl); try (rw [put_lit]; dsimp only [List.set]))
            (apply wpB_take (hw := rfl); (intro wq hq; obtain ⟨hcq, hfq⟩ := bcell hq; unfold atB; go_simp; exact ⟨rfl, rfl⟩); (rw [put_lit]; dsimp only [List.set]))
            (apply wpB_take (hw := rfl); (intro wq hq; obtain ⟨hcq, hfq⟩ := bcell hq; unfold atB; go_simp; exact ⟨rfl, rfl⟩); (rw [put_lit]; dsimp only [List.set]))
            (apply wpB_take (hw := rfl); (intro wq hq; obtain ⟨hcq, hfq⟩ := bcell hq; unfold atB; go_simp; exact ⟨rfl, rfl⟩); (rw [put_lit]; dsimp only [List.set]))
            (apply wpB_take (hw := rfl); (intro wq hq; obtain ⟨hcq, hfq⟩ := bcell hq; unfold atB; go_simp; exact ⟨rfl, rfl⟩); (rw [put_lit]; dsimp only [List.set]))
            (apply wpB_take (hw := rfl); (intro wq hq; obtain ⟨hcq, hfq⟩ := bcell hq; unfold atB; go_simp; exact ⟨rfl, rfl⟩); (rw [put_lit]; dsimp only [List.set]))
            (apply wpB_take (hw := rfl); (intro wq hq; obtain ⟨hcq, hfq⟩ := bcell hq; unfold atB; go_simp; exact ⟨rfl, rfl⟩); (rw [put_lit]; dsimp only [List.set]))
            (apply wpB_take (hw := rfl); (intro wq hq; obtain ⟨hcq, hfq⟩ := bcell hq; unfold atB; go_simp; exact ⟨rfl, rfl⟩); (rw [put_lit]; dsimp only [List.set]))
            (apply wpB_take (hw := rfl); (intro wq hq; obtain ⟨hcq, hfq⟩ := bcell hq; unfold atB; go_simp; exact ⟨rfl, rfl⟩); (rw [put_lit]; dsimp only [List.set]))
            (apply wpB_take (hw := rfl); (intro wq hq; obtain ⟨hcq, hfq⟩ := bcell hq; unfold atB; go_simp; exact ⟨rfl, rfl⟩); (rw [put_lit]; dsimp only [List.set]))
            (apply wpB_take (hw := rfl); (intro wq hq; obtain ⟨hcq, hfq⟩ := bcell hq; unfold atB; go_simp; exact ⟨rfl, rfl⟩); (rw [put_lit]; dsimp only [List.set]))
            (apply wpB_take (hw := rfl); (intro wq hq; obtain ⟨hcq, hfq⟩ := bcell hq; unfold atB; go_simp; exact ⟨rfl, rfl⟩); (rw [put_lit]; dsimp only [List.set]))
            (apply wpB_take (hw := rfl); (intro wq hq; unfold atB; go_simp; exact ⟨rfl, CI1.out _⟩); (rw [put_lit]; dsimp only [List.set]))
            (apply wpB_take (hw := rfl); (intro wq hq; obtain ⟨hcq, hfq⟩ := bcell hq; unfold atB; go_simp; exact ⟨rfl, rfl⟩); (rw [put_lit]; dsimp only [List.set]))
            (apply wpB_take (hw := rfl); (intro wq hq; unfold atB; go_simp; exact ⟨rfl, CI2.out _⟩); (rw [put_lit]; dsimp only [List.set]))
            (apply wpB_take (hw := rfl); (intro wq hq; obtain ⟨hcq, hfq⟩ := bcell hq; unfold atB; go_simp; exact ⟨rfl, rfl⟩); (rw [put_lit]; dsimp only [List.set]))
            (apply wpB_take (hw := rfl); (intro wq hq; obtain ⟨hcq, hfq⟩ := bcell hq; unfold atB; go_simp; exact ⟨rfl, rfl⟩); (rw [put_lit]; dsimp only [List.set]))
            refine fun wx hbx => ?_
            simp only [Exit.then]
            refine (by assumption : ∀ (a' : Act) (w' : World), Met _ a' w' → _) _ _ ?_
            go_meet
            case rel => exact ⟨rfl, hbx⟩
        · have e1 := (F7.out rfl).1
          subst e1
          have e := (F1.out rfl).1
          subst e
          refine wp_region_below (by kernel_rfl) (by kernel_rfl) ?_
          (apply wpB_take (hw := rfl); (intro wq hq; obtain ⟨hcq, hfq⟩ := bcell hq; unfold atB; go_simp; exact ⟨rfl, rfl⟩); (rw [put_lit]; dsimp only [List.set]))
          (apply wpB_take (hw := rfl); (intro wq hq; obtain ⟨hcq, hfq⟩ := bcell hq; unfold atB; go_simp; exact ⟨rfl, rfl⟩); (rw [put_lit]; dsimp only [List.set]))
          (apply wpB_take (hw := rfl); (intro wq hq; obtain ⟨hcq, hfq⟩ := bcell hq; unfold atB; go_simp; exact ⟨rfl, rfl⟩); (rw [put_lit]; dsimp only [List.set]))
          (apply wpB_take (hw := rfl); (intro wq hq; obtain ⟨hcq, hfq⟩ := bcell hq; unfold atB; go_simp; exact ⟨rfl, rfl⟩); (rw [put_lit]; dsimp only [List.set]))
          (apply wpB_take (hw := rfl); (intro wq hq; obtain ⟨hcq, hfq⟩ := bcell hq; unfold atB; go_simp; exact ⟨rfl, rfl⟩); (rw [put_lit]; dsimp only [List.set]))
          (apply wpB_take (hw := rfl); (intro wq hq; obtain ⟨hcq, hfq⟩ := bcell hq; unfold atB; go_simp; exact ⟨rfl, rfl⟩); (rw [put_lit]; dsimp only [List.set]))
          (apply wpB_take (hw := rfl); (intro wq hq; unfold atB; go_simp; exact ⟨rfl, kTurns_same LT _ _ _ _ _ (TRow.below R9_lt.out hq) (TRow.below R9_right.out hq) HLT.out⟩); (rw [put_lit]; dsimp only [List.set]))
          (apply wpB_take (hw := rfl); (intro wq hq; obtain ⟨hcq, hfq⟩ := bcell hq; unfold atB; go_simp; exact ⟨rfl, rfl⟩); (rw [put_lit]; dsimp only [List.set]))
          (apply wpB_take (hw := rfl); (intro wq hq; obtain ⟨hcq, hfq⟩ := bcell hq; unfold atB; go_simp; exact ⟨rfl, rfl⟩); (rw [put_lit]; dsimp only [List.set]))
          (apply wpB_take (hw := rfl); (intro wq hq; obtain ⟨hcq, hfq⟩ := bcell hq; unfold atB; go_simp; exact ⟨rfl, rfl⟩); (rw [put_lit]; dsimp only [List.set]))
          (apply wpB_take (hw := rfl); (intro wq hq; obtain ⟨hcq, hfq⟩ := bcell hq; unfold atB; go_simp; exact ⟨rfl, rfl⟩); (rw [put_lit]; dsimp only [List.set]))
          (apply wpB_take (hw := rfl); (intro wq hq; obtain ⟨hcq, hfq⟩ := bcell hq; unfold atB; go_simp; exact ⟨rfl, rfl⟩); (rw [put_lit]; dsimp only [List.set]))
          (apply wpB_take (hw := rfl); (intro wq hq; obtain ⟨hcq, hfq⟩ := bcell hq; unfold atB; go_simp; exact ⟨rfl, rfl⟩); (rw [put_lit]; dsimp only [List.set]))
          (apply wpB_take (hw := rfl); (intro wq hq; obtain ⟨hcq, hfq⟩ := bcell hq; unfold atB; go_simp; exact ⟨rfl, rfl⟩); (rw [put_lit]; dsimp only [List.set]))
          (apply wpB_take (hw := rfl); (intro wq hq; obtain ⟨hcq, hfq⟩ := bcell hq; unfold atB; go_simp; exact ⟨rfl, rfl⟩); (rw [put_lit]; dsimp only [List.set]))
          (apply wpB_take (hw := rfl); (intro wq hq; obtain ⟨hcq, hfq⟩ := bcell hq; unfold atB; go_simp; exact ⟨rfl, rfl⟩); (rw [put_lit]; dsimp only [List.set]))
          (apply wpB_take (hw := rfl); (intro wq hq; obtain ⟨hcq, hfq⟩ := bcell hq; unfold atB; go_simp; exact ⟨rfl, rfl⟩); (rw [put_lit]; dsimp only [List.set]))
          (apply wpB_take (hw := rfl); (intro wq hq; obtain ⟨hcq, hfq⟩ := bcell hq; unfold atB; go_simp; exact ⟨rfl, rfl⟩); (rw [put_lit]; dsimp only [List.set]))
          (apply wpB_take (hw := rfl); (intro wq hq; obtain ⟨hcq, hfq⟩ := bcell hq; unfold atB; go_simp; exact ⟨rfl, rfl⟩); (rw [put_lit]; dsimp only [List.set]))
          (apply wpB_take (hw := rfl); (intro wq hq; obtain ⟨hcq, hfq⟩ := bcell hq; unfold atB; go_simp; exact ⟨rfl, rfl⟩); (rw [put_lit]; dsimp only [List.set]))
          (apply wpB_take (hw := rfl); (intro wq hq; obtain ⟨hcq, hfq⟩ := bcell hq; unfold atB; go_simp; exact ⟨rfl, rfl⟩); (rw [put_lit]; dsimp only [List.set]))
          (apply wpB_take (hw := rfl); (intro wq hq; obtain ⟨hcq, hfq⟩ := bcell hq; unfold atB; go_simp; exact ⟨rfl, rfl⟩); (rw [put_lit]; dsimp only [List.set]))
          (apply wpB_take (hw := rfl); (intro wq hq; obtain ⟨hcq, hfq⟩ := bcell hq; unfold atB; go_simp; exact ⟨rfl, rfl⟩); (rw [put_lit]; dsimp only [List.set]))
          (apply wpB_take (hw := rfl); (intro wq hq; obtain ⟨hcq, hfq⟩ := bcell hq; unfold atB; go_simp; exact ⟨rfl, rfl⟩); (rw [put_lit]; dsimp only [List.set]))
          (apply wpB_take (hw := rfl); (intro wq hq; obtain ⟨hcq, hfq⟩ := bcell hq; unfold atB; go_simp; exact ⟨rfl, rfl⟩); (rw [put_lit]; dsimp only [List.set]))
          (apply wpB_take (hw := rfl); (intro wq hq; obtain ⟨hcq, hfq⟩ := bcell hq; unfold atB; go_simp; exact ⟨rfl, rfl⟩); (rw [put_lit]; dsimp only [List.set]))
          (apply wpB_take (hw := rfl); (intro wq hq; obtain ⟨hcq, hfq⟩ := bcell hq; unfold atB; go_simp; exact ⟨rfl, rfl⟩); (rw [put_lit]; dsimp only [List.set]))
          (apply wpB_take (hw := rfl); (intro wq hq; obtain ⟨hcq, hfq⟩ := bcell hq; unfold atB; go_simp; exact ⟨rfl, rfl⟩); (rw [put_lit]; dsimp only [List.set]))
          (apply wpB_take (hw := rfl); (intro wq hq; obtain ⟨hcq, hfq⟩ := bcell hq; unfold atB; go_simp; exact ⟨rfl, rfl⟩); (rw [put_lit]; dsimp only [List.set]))
          (apply wpB_take (hw := rfl); (intro wq hq; obtain ⟨hcq, hfq⟩ := bcell hq; unfold atB; go_simp; exact ⟨rfl, rfl⟩); (rw [put_lit]; dsimp only [List.set]))
          (apply wpB_take (hw := rfl); (intro wq hq; obtain ⟨hcq, hfq⟩ := bcell hq; unfold atB; go_simp; exact ⟨rfl, rfl⟩); (rw [put_lit]; dsimp only [List.set]))
          (apply wpB_take (hw := rfl); (intro wq hq; obtain ⟨hcq, hfq⟩ := bcell hq; unfold atB; go_simp; exact ⟨rfl, rfl⟩); (rw [put_lit]; dsimp only [List.set]))
          (apply wpB_take (hw := rfl); (intro wq hq; obtain ⟨hcq, hfq⟩ := bcell hq; unfold atB; go_simp; exact ⟨rfl, rfl⟩); (rw [put_lit]; dsimp only [List.set]))
          (apply wpB_take (hw := rfl); (intro wq hq; obtain ⟨hcq, hfq⟩ := bcell hq; unfold atB; go_simp; exact ⟨rfl, rfl⟩); (rw [put_lit]; dsimp only [List.set]))
          (apply wpB_take (hw := rfl); (intro wq hq; obtain ⟨hcq, hfq⟩ := bcell hq; unfold atB; go_simp; exact ⟨rfl, rfl⟩); (rw [put_lit]; dsimp only [List.set]))
          (apply wpB_take (hw := rfl); (intro wq hq; obtain ⟨hcq, hfq⟩ := bcell hq; unfold atB; go_simp; exact ⟨rfl, rfl⟩); (rw [put_lit]; dsimp only [List.set]))
          (apply wpB_take (hw := rfl); (intro wq hq; obtain ⟨hcq, hfq⟩ := bcell hq; unfold atB; go_simp; exact ⟨rfl, rfl⟩); (rw [put_lit]; dsimp only [List.set]))
          (apply wpB_take (hw := rfl); (intro wq hq; unfold atB; go_simp; exact ⟨rfl, kTurns_same LP _ _ _ _ _ (TRow.below R9_lp.out hq) (TRow.below R9_value.out hq) HLP.out⟩); (rw [put_lit]; dsimp only [List.set]))
          (apply wpB_take (hw := rfl); (intro wq hq; obtain ⟨hcq, hfq⟩ := bcell hq; unfold atB; go_simp; exact ⟨rfl, rfl⟩); (rw [put_lit]; dsimp only [List.set]))
          (apply wpB_take (hw := rfl); (intro wq hq; obtain ⟨hcq, hfq⟩ := bcell hq; unfold atB; go_simp; exact ⟨rfl, rfl⟩); (rw [put_lit]; dsimp only [List.set]))
          (apply wpB_take (hw := rfl); (intro wq hq; obtain ⟨hcq, hfq⟩ := bcell hq; unfold atB; go_simp; exact ⟨rfl, rfl⟩); (rw [put_lit]; dsimp only [List.set]))
          (apply wpB_take (hw := rfl); (intro wq hq; obtain ⟨hcq, hfq⟩ := bcell hq; unfold atB; go_simp; exact ⟨rfl, rfl⟩); (rw [put_lit]; dsimp only [List.set]))
          (apply wpB_take (hw := rfl); (intro wq hq; obtain ⟨hcq, hfq⟩ := bcell hq; unfold atB; go_simp; exact ⟨rfl, rfl⟩); (rw [put_lit]; dsimp only [List.set]))
          (apply wpB_take (hw := rfl); (intro wq hq; obtain ⟨hcq, hfq⟩ := bcell hq; unfold atB; go_simp; exact ⟨rfl, rfl⟩); (rw [put_lit]; dsimp only [List.set]))
          (apply wpB_take (hw := rfl); (intro wq hq; obtain ⟨hcq, hfq⟩ := bcell hq; unfold atB; go_simp; exact ⟨rfl, rfl⟩); (rw [put_lit]; dsimp only [List.set]))
          (apply wpB_take (hw := rfl); (intro wq hq; obtain ⟨hcq, hfq⟩ := bcell hq; unfold atB; go_simp; exact ⟨rfl, rfl⟩); (rw [put_lit]; dsimp only [List.set]))
          (apply wpB_take (hw := rfl); (intro wq hq; obtain ⟨hcq, hfq⟩ := bcell hq; unfold atB; go_simp; exact ⟨rfl, rfl⟩); (rw [put_lit]; dsimp only [List.set]))
          (apply wpB_take (hw := rfl); (intro wq hq; obtain ⟨hcq, hfq⟩ := bcell hq; unfold atB; go_simp; exact ⟨rfl, rfl⟩); (rw [put_lit]; dsimp only [List.set]))
          (apply wpB_take (hw := rfl); (intro wq hq; obtain ⟨hcq, hfq⟩ := bcell hq; unfold atB; go_simp; exact ⟨rfl, rfl⟩); (rw [put_lit]; dsimp only [List.set]))
          (apply wpB_take (hw := rfl); (intro wq hq; obtain ⟨hcq, hfq⟩ := bcell hq; unfold atB; go_simp; exact ⟨rfl, rfl⟩); (rw [put_lit]; dsimp only [List.set]))
          (apply wpB_take (hw := rfl); (intro wq hq; obtain ⟨hcq, hfq⟩ := bcell hq; unfold atB; go_simp; exact ⟨rfl, rfl⟩); (rw [put_lit]; dsimp only [List.set]))
          (apply wpB_take (hw := rfl); (intro wq hq; obtain ⟨hcq, hfq⟩ := bcell hq; unfold atB; go_simp; exact ⟨rfl, rfl⟩); (rw [put_lit]; dsimp only [List.set]))
          (apply wpB_take (hw := rfl); (intro wq hq; obtain ⟨hcq, hfq⟩ := bcell hq; unfold atB; go_simp; exact ⟨rfl, rfl⟩); (rw [put_lit]; dsimp only [List.set]))
          (apply wpB_take (hw := rfl); (intro wq hq; obtain ⟨hcq, hfq⟩ := bcell hq; unfold atB; go_simp; exact ⟨rfl, rfl⟩); (rw [put_lit]; dsimp only [List.set]))
          (apply wpB_take (hw := rfl); (intro wq hq; obtain ⟨hcq, hfq⟩ := bcell hq; unfold atB; go_simp; exact ⟨rfl, rfl⟩); (rw [put_lit]; dsimp only [List.set]))
          (apply wpB_take (hw := rfl); (intro wq hq; obtain ⟨hcq, hfq⟩ := bcell hq; unfold atB; go_simp; exact ⟨rfl, rfl⟩); (rw [put_lit]; dsimp only [List.set]))
          (apply wpB_take (hw := rfl); (intro wq hq; obtain ⟨hcq, hfq⟩ := bcell hq; unfold atB; go_simp; exact ⟨rfl, rfl⟩); (rw [put_lit]; dsimp only [List.set]))
          (apply wpB_take (hw := rfl); (intro wq hq; obtain ⟨hcq, hfq⟩ := bcell hq; unfold atB; go_simp; exact ⟨rfl, rfl⟩); (rw [put_lit]; dsimp only [List.set]))
          (apply wpB_take (hw := rfl); (intro wq hq; obtain ⟨hcq, hfq⟩ := bcell hq; unfold atB; go_simp; exact ⟨rfl, rfl⟩); (rw [put_lit]; dsimp only [List.set]))
          (apply wpB_take (hw := rfl); (intro wq hq; obtain ⟨hcq, hfq⟩ := bcell hq; unfold atB; go_simp; exact ⟨rfl, rfl⟩); (rw [put_lit]; dsimp only [List.set]))
          (apply wpB_take (hw := rfl); (intro wq hq; obtain ⟨hcq, hfq⟩ := bcell hq; unfold atB; go_simp; exact ⟨rfl, rfl⟩); (rw [put_lit]; dsimp only [List.set]))
          (apply wpB_take (hw := rfl); (intro wq hq; unfold atB; go_simp; exact ⟨rfl, CI1.out _⟩); (rw [put_lit]; dsimp only [List.set]))
          (apply wpB_take (hw := rfl); (intro wq hq; obtain ⟨hcq, hfq⟩ := bcell hq; unfold atB; go_simp; exact ⟨rfl, rfl⟩); (rw [put_lit]; dsimp only [List.set]))
          (apply wpB_take (hw := rfl); (intro wq hq; unfold atB; go_simp; exact ⟨rfl, CI2.out _⟩); (rw [put_lit]; dsimp only [List.set]))
          (apply wpB_take (hw := rfl); (intro wq hq; obtain ⟨hcq, hfq⟩ := bcell hq; unfold atB; go_simp; exact ⟨rfl, rfl⟩); (rw [put_lit]; dsimp only [List.set]))
          (apply wpB_take (hw := rfl); (intro wq hq; obtain ⟨hcq, hfq⟩ := bcell hq; unfold atB; go_simp; exact ⟨rfl, rfl⟩); (rw [put_lit]; dsimp only [List.set]))
          refine fun wx hbx => ?_
          simp only [Exit.then]
          refine (by assumption : ∀ (a' : Act) (w' : World), Met _ a' w' → _) _ _ ?_
          go_meet
          case rel => exact ⟨rfl, hbx⟩
    case rest =>
      obtain ⟨rfl, hb10⟩ := hcut
      obtain ⟨w10, hw10⟩ : ∃ x : World, x = wc := ⟨_, rfl⟩
      subst hw10
      obtain ⟨hc10, hf10⟩ := bcell hb10
      have hz10 := hb10.size
      (try simp only [World.size_alloc, World.size_setCell, World.size_drew] at hz10)
      have B10 : Below w9.heap.size w9 w10 := Below.trans (b := _) (by (repeat' (first | (with_reducible exact Below.refl _ _) | (with_reducible assumption) | (with_reducible refine Below.alloc ?_ ?_ _) | (with_reducible refine Below.drew ?_) | (with_reducible refine below_drewN ?_ _) | (with_reducible refine Below.setCell ?_ ?_ _) | (with_reducible refine below_call ?_ ?_ (by assumption)) | go_size))) (hb10.mono (by first | omega | (simp only [World.size_alloc, World.size_setCell, World.size_drew]; omega)))
      obtain ⟨hd10, -⟩ := bcell B10
      have c10_a_0 : w10.cell? ⟨w1.heap.size, 0, none⟩ = some (.int .i64 n0) := (hd10 _ _ q_a).trans c9_a_0
      have c10_a_1 : w10.cell? ⟨w1.heap.size, 1, none⟩ = some (.int .i64 d0) := (hd10 _ _ q_a).trans c9_a_1
      have c10_a_2 : w10.cell? ⟨w1.heap.size, 2, none⟩ = some (.int .i64 s0) := (hd10 _ _ q_a).trans c9_a_2
      have c10_b_0 : w10.cell? ⟨w1.heap.size + 1, 0, none⟩ = some (.int .i64 n1) := (hd10 _ _ q_b).trans c9_b_0
      have c10_b_1 : w10.cell? ⟨w1.heap.size + 1, 1, none⟩ = some (.int .i64 d1) := (hd10 _ _ q_b).trans c9_b_1
      have c10_b_2 : w10.cell? ⟨w1.heap.size + 1, 2, none⟩ = some (.int .i64 s1) := (hd10 _ _ q_b).trans c9_b_2
      have c10_first_0 : w10.cell? ⟨w6.heap.size, 0, none⟩ = some (.int .i64 fn) := (hd10 _ _ q_first).trans c9_first_0
      have c10_first_1 : w10.cell? ⟨w6.heap.size, 1, none⟩ = some (.int .i64 fd) := (hd10 _ _ q_first).trans c9_first_1
      have c10_model_0 : w10.cell? ⟨w7.heap.size, 0, none⟩ = some (.int .i64 fn) := (hd10 _ _ q_model).trans c9_model_0
      have c10_model_1 : w10.cell? ⟨w7.heap.size, 1, none⟩ = some (.int .i64 fd) := (hd10 _ _ q_model).trans c9_model_1
      replace q_a : w1.heap.size < w10.heap.size := by omega
      replace q_b : w1.heap.size + 1 < w10.heap.size := by omega
      replace q_first : w6.heap.size < w10.heap.size := by omega
      replace q_model : w7.heap.size < w10.heap.size := by omega
      have R10_lt := Lib.hid (TRow.below R9_lt.out B10)
      clear R9_lt
      have R10_right := Lib.hid (TRow.below R9_right.out B10)
      clear R9_right
      have R10_lp := Lib.hid (TRow.below R9_lp.out B10)
      clear R9_lp
      have R10_value := Lib.hid (TRow.below R9_value.out B10)
      clear R9_value
      have BW10 : Below w.heap.size w w10 := BW9.trans (B10.mono BW9.size)
      clear hc10 hf10 hb10 hd10 B10 c9_a_0 c9_a_1 c9_a_2 c9_b_0 c9_b_1 c9_b_2 c9_first_0 c9_first_1 c9_model_0 c9_model_1 BW9
      clear R10_right
      clear R10_value
      clear q_model c10_model_0 c10_model_1
      go_upto_if 167 with fail
      go_cut [] from 999 to 999 (fun wx => Below w10.heap.size w10 wx)
      case first =>
        as_aux_lemma =>
          cases ok
          · go_wp2_with fail
            go_meet
            case rel => exact Below.refl _ _
          · have F4' := Lib.hid (F4.out rfl)
            have F5' := Lib.hid (F5.out rfl)
            have F6' := Lib.hid (F6.out rfl)
            obtain ⟨-, hsp, hl, hr, -, -, -, h1⟩ := F2.out rfl
            obtain ⟨-, hcn⟩ := F1.out rfl
            rw [← hcn] at hl
            have HCN := Lib.hid hl
            have HR := Lib.hid hr
            have H1 := Lib.hid h1
            have h0 := F3.out rfl
            have hcb : 1 ≤ cn ∧ cn ≤ 800 := by split at hcn <;> omega
            have hw : IntKind.i64.wrap (s0 - s1) = s0 - s1 := by rw [IntKind.wrap_i64]; omega
            have HKA := Lib.hid (fun W => (show Calls Try.prog 20 #[.int .i64 (s0 - s1)] W fun e w' => e = .returned (.int .i64 cn) ∧ Below W.heap.size W w' from by have := kAbs_any (s0 - s1) (by omega) W; rw [← hcn] at this; exact this))
            clear hcn hr
            obtain ⟨pa, pc, hpv, hl1, hl2, hcell⟩ := TRow.cells R10_lt.out
            simp only [Value.slice.injEq] at hpv
            obtain ⟨hp1, -, hp2⟩ := hpv
            subst hp1
            subst hp2
            obtain ⟨gl, hgl, u1, u2, u3, u4⟩ := hcell 0 (by omega)
            subst hgl
            clear hcell hl1 hl2 u1
            rw [h0] at u3 u4
            simp only [Nat.zero_mul, Nat.zero_add] at u3 u4
            clear h0
            go_upto_region 15 with fail
            go_cut [193] from 999 to 999 (fun x wx => x = .bool false ∧ Below w10.heap.size w10 wx)
            case first =>
              as_aux_lemma =>
                have hne1 : ((LT.length : Int) != cn) = false := by rw [HCN.out]; simp
                have hlp : (0 : Int) < (LT.length : Int) := by have := H1.out; omega
                have hlp2 : 0 < LT.length := H1.out
                have hnil : ¬ LT = [] := fun e => by rw [e] at hlp2; simp at hlp2
                clear hl h1
                refine wp_region_below (by kernel_rfl) (by kernel_rfl) ?_
                (apply wpB_take (hw := rfl); (intro wq hq; obtain ⟨hcq, hfq⟩ := bcell hq; unfold atB; go_simp; exact ⟨rfl, rfl⟩); (rw [put_lit]; dsimp only [List.set]))
                (apply wpB_take (hw := rfl); (intro wq hq; obtain ⟨hcq, hfq⟩ := bcell hq; unfold atB; go_simp; exact ⟨rfl, rfl⟩); (rw [put_lit]; dsimp only [List.set]))
                (apply wpB_take (hw := rfl); (intro wq hq; obtain ⟨hcq, hfq⟩ := bcell hq; unfold atB; go_simp; exact ⟨rfl, rfl⟩); (rw [put_lit]; dsimp only [List.set]))
                (apply wpB_take (hw := rfl); (intro wq hq; obtain ⟨hcq, hfq⟩ := bcell hq; unfold atB; go_simp; exact ⟨rfl, rfl⟩); (rw [put_lit]; dsimp only [List.set]))
                (apply wpB_take (hw := rfl); (intro wq hq; obtain ⟨hcq, hfq⟩ := bcell hq; unfold atB; go_simp; exact ⟨rfl, rfl⟩); (rw [put_lit]; dsimp only [List.set]))
                (apply wpB_take (hw := rfl); (intro wq hq; obtain ⟨hcq, hfq⟩ := bcell hq; unfold atB; go_simp; exact ⟨rfl, rfl⟩); (rw [put_lit]; dsimp only [List.set]))
                (apply wpB_take (hw := rfl); (intro wq hq; obtain ⟨hcq, hfq⟩ := bcell hq; unfold atB; go_simp; exact ⟨rfl, rfl⟩); (rw [put_lit]; dsimp only [List.set]))
                (apply wpB_take (hw := rfl); (intro wq hq; obtain ⟨hcq, hfq⟩ := bcell hq; unfold atB; go_simp; exact ⟨rfl, rfl⟩); (rw [put_lit]; dsimp only [List.set]))
                (apply wpB_take (hw := rfl); (intro wq hq; obtain ⟨hcq, hfq⟩ := bcell hq; unfold atB; go_simp; exact ⟨rfl, rfl⟩); (rw [put_lit]; dsimp only [List.set]))
                (apply wpB_take (hw := rfl); (intro wq hq; obtain ⟨hcq, hfq⟩ := bcell hq; unfold atB; go_simp; exact ⟨rfl, rfl⟩); (rw [put_lit]; dsimp only [List.set]))
                (apply wpB_take (hw := rfl); (intro wq hq; obtain ⟨hcq, hfq⟩ := bcell hq; unfold atB; go_simp; exact ⟨rfl, rfl⟩); (rw [put_lit]; dsimp only [List.set]))
                (apply wpB_take (hw := rfl); (intro wq hq; unfold atB; go_simp; exact ⟨rfl, HKA.out _⟩); (rw [put_lit]; dsimp only [List.set]))
                (apply wpB_take (hw := rfl); (intro wq hq; obtain ⟨hcq, hfq⟩ := bcell hq; unfold atB; go_simp; exact ⟨rfl, rfl⟩); (rw [put_lit]; dsimp only [List.set]))
                (apply wpB_take (hw := rfl); (intro wq hq; obtain ⟨hcq, hfq⟩ := bcell hq; unfold atB; go_simp; exact ⟨rfl, rfl⟩); (rw [put_lit]; dsimp only [List.set]))
                (apply wpB_take (hw := rfl); (intro wq hq; obtain ⟨hcq, hfq⟩ := bcell hq; unfold atB; go_simp; exact ⟨rfl, rfl⟩); (rw [put_lit]; dsimp only [List.set]))
                (apply wpB_take (hw := rfl); (intro wq hq; obtain ⟨hcq, hfq⟩ := bcell hq; unfold atB; go_simp; exact ⟨rfl, rfl⟩); (rw [put_lit]; dsimp only [List.set]))
                (apply wpB_take (hw := rfl); (intro wq hq; obtain ⟨hcq, hfq⟩ := bcell hq; unfold atB; go_simp; exact ⟨rfl, rfl⟩); (rw [put_lit]; dsimp only [List.set]))
                (apply wpB_take (hw := rfl); (intro wq hq; obtain ⟨hcq, hfq⟩ := bcell hq; unfold atB; go_simp; exact ⟨rfl, rfl⟩); (rw [put_lit]; dsimp only [List.set]))
                (apply wpB_take (hw := rfl); (intro wq hq; obtain ⟨hcq, hfq⟩ := bcell hq; unfold atB; go_simp; exact ⟨rfl, rfl⟩); (rw [put_lit]; dsimp only [List.set]))
                (apply wpB_take (hw := rfl); (intro wq hq; obtain ⟨hcq, hfq⟩ := bcell hq; unfold atB; go_simp; exact ⟨rfl, rfl⟩); (rw [put_lit]; dsimp only [List.set]))
                (apply wpB_take (hw := rfl); (intro wq hq; obtain ⟨hcq, hfq⟩ := bcell hq; unfold atB; go_simp; exact ⟨rfl, rfl⟩); (rw [put_lit]; dsimp only [List.set]))
                (apply wpB_take (hw := rfl); (intro wq hq; obtain ⟨hcq, hfq⟩ := bcell hq; unfold atB; go_simp; exact ⟨rfl, rfl⟩); (rw [put_lit]; dsimp only [List.set]))
                (apply wpB_take (hw := rfl); (intro wq hq; obtain ⟨hcq, hfq⟩ := bcell hq; unfold atB; go_simp; exact ⟨rfl, rfl⟩); (rw [put_lit]; dsimp only [List.set]))
                (apply wpB_take (hw := rfl); (intro wq hq; unfold atB; go_simp; exact ⟨rfl, kRises_yes LT _ _ _ (TRow.below R10_lt.out hq) HLT.out HR.out⟩); (rw [put_lit]; dsimp only [List.set]))
                (apply wpB_take (hw := rfl); (intro wq hq; obtain ⟨hcq, hfq⟩ := bcell hq; unfold atB; go_simp; exact ⟨rfl, rfl⟩); (rw [put_lit]; dsimp only [List.set]))
                (apply wpB_take (hw := rfl); (intro wq hq; obtain ⟨hcq, hfq⟩ := bcell hq; unfold atB; go_simp; exact ⟨rfl, rfl⟩); (rw [put_lit]; dsimp only [List.set]))
                refine fun wx hbx => ?_
                simp only [Exit.then]
                refine (by assumption : ∀ (a' : Act) (w' : World), Met _ a' w' → _) _ _ ?_
                go_meet
                case rel => exact ⟨rfl, hbx⟩
            case rest =>
              obtain ⟨rfl, hb11⟩ := hcut
              obtain ⟨w11, hw11⟩ : ∃ x : World, x = wc := ⟨_, rfl⟩
              subst hw11
              obtain ⟨hc11, hf11⟩ := bcell hb11
              have hz11 := hb11.size
              (try simp only [World.size_alloc, World.size_setCell, World.size_drew] at hz11)
              have B11 : Below w10.heap.size w10 w11 := Below.trans (b := _) (by (repeat' (first | (with_reducible exact Below.refl _ _) | (with_reducible assumption) | (with_reducible refine Below.alloc ?_ ?_ _) | (with_reducible refine Below.drew ?_) | (with_reducible refine below_drewN ?_ _) | (with_reducible refine Below.setCell ?_ ?_ _) | (with_reducible refine below_call ?_ ?_ (by assumption)) | go_size))) (hb11.mono (by first | omega | (simp only [World.size_alloc, World.size_setCell, World.size_drew]; omega)))
              obtain ⟨hd11, -⟩ := bcell B11
              have c11_a_0 : w11.cell? ⟨w1.heap.size, 0, none⟩ = some (.int .i64 n0) := (hd11 _ _ q_a).trans c10_a_0
              have c11_a_1 : w11.cell? ⟨w1.heap.size, 1, none⟩ = some (.int .i64 d0) := (hd11 _ _ q_a).trans c10_a_1
              have c11_a_2 : w11.cell? ⟨w1.heap.size, 2, none⟩ = some (.int .i64 s0) := (hd11 _ _ q_a).trans c10_a_2
              have c11_b_0 : w11.cell? ⟨w1.heap.size + 1, 0, none⟩ = some (.int .i64 n1) := (hd11 _ _ q_b).trans c10_b_0
              have c11_b_1 : w11.cell? ⟨w1.heap.size + 1, 1, none⟩ = some (.int .i64 d1) := (hd11 _ _ q_b).trans c10_b_1
              have c11_b_2 : w11.cell? ⟨w1.heap.size + 1, 2, none⟩ = some (.int .i64 s1) := (hd11 _ _ q_b).trans c10_b_2
              have c11_first_0 : w11.cell? ⟨w6.heap.size, 0, none⟩ = some (.int .i64 fn) := (hd11 _ _ q_first).trans c10_first_0
              have c11_first_1 : w11.cell? ⟨w6.heap.size, 1, none⟩ = some (.int .i64 fd) := (hd11 _ _ q_first).trans c10_first_1
              replace q_a : w1.heap.size < w11.heap.size := by omega
              replace q_b : w1.heap.size + 1 < w11.heap.size := by omega
              replace q_first : w6.heap.size < w11.heap.size := by omega
              have R11_lt := Lib.hid (TRow.below R10_lt.out B11)
              clear R10_lt
              have R11_lp := Lib.hid (TRow.below R10_lp.out B11)
              clear R10_lp
              have BW11 : Below w.heap.size w w11 := BW10.trans (B11.mono BW10.size)
              have BX11 : Below w10.heap.size w10 w11 := B11
              clear hc11 hf11 hb11 hd11 B11 c10_a_0 c10_a_1 c10_a_2 c10_b_0 c10_b_1 c10_b_2 c10_first_0 c10_first_1 BW10
              clear u2 u3 u4 hl h1
              go_wp2_with fail
              go_loopw [196] (fun i wr => ∃ k : Nat, k ≤ LT.length ∧ i = .int .i64 (k : Int) ∧ Below w11.heap.size w11 wr) (fun i _ => LT.length - (RowKit.intOf i).toNat)
              case atStart => exact ⟨0, Nat.zero_le _, rfl, Below.refl _ _⟩
              case round =>
                obtain ⟨k, hk, rfl, hb12⟩ := hrel
                obtain ⟨w12, hw12⟩ : ∃ x : World, x = wr := ⟨_, rfl⟩
                subst hw12
                have hb12' := hb12
                obtain ⟨hc12, hf12⟩ := bcell hb12
                have hz12 := hb12.size
                (try simp only [World.size_alloc, World.size_setCell, World.size_drew] at hz12)
                have B12 : Below w11.heap.size w11 w12 := Below.trans (b := _) (by (repeat' (first | (with_reducible exact Below.refl _ _) | (with_reducible assumption) | (with_reducible refine Below.alloc ?_ ?_ _) | (with_reducible refine Below.drew ?_) | (with_reducible refine below_drewN ?_ _) | (with_reducible refine Below.setCell ?_ ?_ _) | (with_reducible refine below_call ?_ ?_ (by assumption)) | go_size))) (hb12.mono (by first | omega | (simp only [World.size_alloc, World.size_setCell, World.size_drew]; omega)))
                obtain ⟨hd12, -⟩ := bcell B12
                have c12_a_0 : w12.cell? ⟨w1.heap.size, 0, none⟩ = some (.int .i64 n0) := (hd12 _ _ q_a).trans c11_a_0
                have c12_a_1 : w12.cell? ⟨w1.heap.size, 1, none⟩ = some (.int .i64 d0) := (hd12 _ _ q_a).trans c11_a_1
                have c12_a_2 : w12.cell? ⟨w1.heap.size, 2, none⟩ = some (.int .i64 s0) := (hd12 _ _ q_a).trans c11_a_2
                have c12_b_0 : w12.cell? ⟨w1.heap.size + 1, 0, none⟩ = some (.int .i64 n1) := (hd12 _ _ q_b).trans c11_b_0
                have c12_b_1 : w12.cell? ⟨w1.heap.size + 1, 1, none⟩ = some (.int .i64 d1) := (hd12 _ _ q_b).trans c11_b_1
                have c12_b_2 : w12.cell? ⟨w1.heap.size + 1, 2, none⟩ = some (.int .i64 s1) := (hd12 _ _ q_b).trans c11_b_2
                have c12_first_0 : w12.cell? ⟨w6.heap.size, 0, none⟩ = some (.int .i64 fn) := (hd12 _ _ q_first).trans c11_first_0
                have c12_first_1 : w12.cell? ⟨w6.heap.size, 1, none⟩ = some (.int .i64 fd) := (hd12 _ _ q_first).trans c11_first_1
                replace q_a : w1.heap.size < w12.heap.size := by omega
                replace q_b : w1.heap.size + 1 < w12.heap.size := by omega
                replace q_first : w6.heap.size < w12.heap.size := by omega
                have R12_lt := Lib.hid (TRow.below R11_lt.out B12)
                clear R11_lt
                have R12_lp := Lib.hid (TRow.below R11_lp.out B12)
                clear R11_lp
                have BW12 : Below w.heap.size w w12 := BW11.trans (B12.mono BW11.size)
                have BX12 : Below w10.heap.size w10 w12 := BX11.trans (B12.mono BX11.size)
                clear BX11
                clear hc12 hf12 hb12 hd12 B12 c11_a_0 c11_a_1 c11_a_2 c11_b_0 c11_b_1 c11_b_2 c11_first_0 c11_first_1 BW11
                have i0 : (0 : Int) ≤ (k : Int) := Int.natCast_nonneg _
                by_cases hlt : k < LT.length
                · have i1 : (k : Int) < (LT.length : Int) := by omega
                  have hmem : LT.getD k (0, 0) ∈ LT := by rw [List.getD_eq_getElem?_getD, List.getElem?_eq_getElem hlt]; exact List.getElem_mem hlt
                  have hsm := F4'.out _ hmem
                  have hnx := F5'.out k hlt
                  have HPL := Lib.hid (fun (e : po = true) => (F7.out e).2.2.2.2 _ hmem)
                  have hm' : (k + 1) % LT.length < LT.length := Nat.mod_lt _ (by omega)
                  obtain ⟨pa, pc, hpv, hl1, hl2, hcell⟩ := TRow.cells R12_lt.out
                  simp only [Value.slice.injEq] at hpv
                  obtain ⟨hp1, -, hp2⟩ := hpv
                  subst hp2
                  obtain ⟨g0, hg0, -, u2, u3, u4⟩ := hcell k hlt
                  obtain ⟨g1, hg1, -, -, v3, v4⟩ := hcell ((k + 1) % LT.length) hm'
                  have eg1 : gl = g0 := by simpa using hp1.trans hg0
                  have eg2 : gl = g1 := by simpa using hp1.trans hg1
                  subst eg1
                  subst eg2
                  clear hcell hl1 hl2 hp1 hg0 hg1
                  have HMOD := Lib.hid (show ((k : Int) + 1).tmod cn = (((k + 1) % LT.length : Nat) : Int) from by rw [← HCN.out]; rw [show (k : Int) + 1 = ((k + 1 : Nat) : Int) from by omega]; rfl)
                  have hklen : (k : Int) < 800 := by have := HCN.out; omega
                  obtain ⟨m, hmm⟩ : ∃ m, (k + 1) % LT.length = m := ⟨_, rfl⟩
                  rw [hmm] at hm' hnx v3 v4
                  have HMM := Lib.hid hmm
                  clear hmm hmem
                  generalize LT.getD k (0, 0) = x at *
                  generalize LT.getD m (0, 0) = y at *
                  obtain ⟨p1, p2⟩ := x
                  obtain ⟨f1, f2⟩ := y
                  simp only at u3 u4 v3 v4 hsm hnx
                  obtain ⟨e1, e2, eo, he⟩ : ∃ a b o, handAtT n0 d0 s0 p1 p2 = (a, b, o) := ⟨_, _, _, rfl⟩
                  rw [he] at hsm
                  have Z1 := Lib.hid (fun W => (show Calls Try.prog 22 #[hv n0 d0 s0, tv p1 p2] W fun e w' => e = .returned (rv (e1, e2, eo)) ∧ Below W.heap.size W w' from by have := implHandAt_any n0 d0 s0 p1 p2 W; rw [he] at this; exact this))
                  have Z2 := Lib.hid (fun W => (show Calls Try.prog 22 #[hv n1 d1 s1, tv p1 p2] W fun e w' => e = .returned (rv (e1, e2, eo)) ∧ Below W.heap.size W w' from by have := implHandAt_any n1 d1 s1 p1 p2 W; rw [hsm] at this; exact this))
                  have Z3 := Lib.hid (fun W => (show Calls Try.prog 24 #[hv n0 d0 s0, hv n1 d1 s1, tv p1 p2] W fun e w' => e = .returned (rv (f1, f2, true)) ∧ Below W.heap.size W w' from by have := implNextMeet_any n0 d0 s0 n1 d1 s1 p1 p2 W; rw [hnx] at this; exact this))
                  have HPP := Lib.hid (fun (e : po = true) (e' : eo = true) => HPL.out e e1 e2 (by rw [← e']; exact he))
                  clear he hsm hnx HPL
                  go_wp2_with fail
                  refine (Z1.out _).mono ?_
                  rintro e13 w13 ⟨rfl, hb13⟩
                  obtain ⟨hc13, hf13⟩ := bcell hb13
                  have hz13 := hb13.size
                  (try simp only [World.size_alloc, World.size_setCell, World.size_drew] at hz13)
                  have B13 : Below w12.heap.size w12 w13 := Below.trans (b := _) (by (repeat' (first | (with_reducible exact Below.refl _ _) | (with_reducible assumption) | (with_reducible refine Below.alloc ?_ ?_ _) | (with_reducible refine Below.drew ?_) | (with_reducible refine below_drewN ?_ _) | (with_reducible refine Below.setCell ?_ ?_ _) | (with_reducible refine below_call ?_ ?_ (by assumption)) | go_size))) (hb13.mono (by first | omega | (simp only [World.size_alloc, World.size_setCell, World.size_drew]; omega)))
                  obtain ⟨hd13, -⟩ := bcell B13
                  have c13_a_0 : w13.cell? ⟨w1.heap.size, 0, none⟩ = some (.int .i64 n0) := (hd13 _ _ q_a).trans c12_a_0
                  have c13_a_1 : w13.cell? ⟨w1.heap.size, 1, none⟩ = some (.int .i64 d0) := (hd13 _ _ q_a).trans c12_a_1
                  have c13_a_2 : w13.cell? ⟨w1.heap.size, 2, none⟩ = some (.int .i64 s0) := (hd13 _ _ q_a).trans c12_a_2
                  have c13_b_0 : w13.cell? ⟨w1.heap.size + 1, 0, none⟩ = some (.int .i64 n1) := (hd13 _ _ q_b).trans c12_b_0
                  have c13_b_1 : w13.cell? ⟨w1.heap.size + 1, 1, none⟩ = some (.int .i64 d1) := (hd13 _ _ q_b).trans c12_b_1
                  have c13_b_2 : w13.cell? ⟨w1.heap.size + 1, 2, none⟩ = some (.int .i64 s1) := (hd13 _ _ q_b).trans c12_b_2
                  have c13_first_0 : w13.cell? ⟨w6.heap.size, 0, none⟩ = some (.int .i64 fn) := (hd13 _ _ q_first).trans c12_first_0
                  have c13_first_1 : w13.cell? ⟨w6.heap.size, 1, none⟩ = some (.int .i64 fd) := (hd13 _ _ q_first).trans c12_first_1
                  replace q_a : w1.heap.size < w13.heap.size := by omega
                  replace q_b : w1.heap.size + 1 < w13.heap.size := by omega
                  replace q_first : w6.heap.size < w13.heap.size := by omega
                  have c13_x_0 : w13.cell? ⟨w12.heap.size, 0, none⟩ = some (.int .i64 p1) := (hc13 _ _ (by go_size)).trans (by go_simp)
                  have c13_x_1 : w13.cell? ⟨w12.heap.size, 1, none⟩ = some (.int .i64 p2) := (hc13 _ _ (by go_size)).trans (by go_simp)
                  have q_x : w12.heap.size < w13.heap.size := by omega
                  have R13_lt := Lib.hid (TRow.below R12_lt.out B13)
                  clear R12_lt
                  have R13_lp := Lib.hid (TRow.below R12_lp.out B13)
                  clear R12_lp
                  have BW13 : Below w.heap.size w w13 := BW12.trans (B13.mono BW12.size)
                  have BX13 : Below w12.heap.size w12 w13 := B13
                  clear hc13 hf13 hb13 hd13 B13 c12_a_0 c12_a_1 c12_a_2 c12_b_0 c12_b_1 c12_b_2 c12_first_0 c12_first_1 BW12
                  go_wp2_with fail
                  refine (Z2.out _).mono ?_
                  rintro e14 w14 ⟨rfl, hb14⟩
                  obtain ⟨hc14, hf14⟩ := bcell hb14
                  have hz14 := hb14.size
                  (try simp only [World.size_alloc, World.size_setCell, World.size_drew] at hz14)
                  have B14 : Below w13.heap.size w13 w14 := Below.trans (b := _) (by (repeat' (first | (with_reducible exact Below.refl _ _) | (with_reducible assumption) | (with_reducible refine Below.alloc ?_ ?_ _) | (with_reducible refine Below.drew ?_) | (with_reducible refine below_drewN ?_ _) | (with_reducible refine Below.setCell ?_ ?_ _) | (with_reducible refine below_call ?_ ?_ (by assumption)) | go_size))) (hb14.mono (by first | omega | (simp only [World.size_alloc, World.size_setCell, World.size_drew]; omega)))
                  obtain ⟨hd14, -⟩ := bcell B14
                  have c14_a_0 : w14.cell? ⟨w1.heap.size, 0, none⟩ = some (.int .i64 n0) := (hd14 _ _ q_a).trans c13_a_0
                  have c14_a_1 : w14.cell? ⟨w1.heap.size, 1, none⟩ = some (.int .i64 d0) := (hd14 _ _ q_a).trans c13_a_1
                  have c14_a_2 : w14.cell? ⟨w1.heap.size, 2, none⟩ = some (.int .i64 s0) := (hd14 _ _ q_a).trans c13_a_2
                  have c14_b_0 : w14.cell? ⟨w1.heap.size + 1, 0, none⟩ = some (.int .i64 n1) := (hd14 _ _ q_b).trans c13_b_0
                  have c14_b_1 : w14.cell? ⟨w1.heap.size + 1, 1, none⟩ = some (.int .i64 d1) := (hd14 _ _ q_b).trans c13_b_1
                  have c14_b_2 : w14.cell? ⟨w1.heap.size + 1, 2, none⟩ = some (.int .i64 s1) := (hd14 _ _ q_b).trans c13_b_2
                  have c14_first_0 : w14.cell? ⟨w6.heap.size, 0, none⟩ = some (.int .i64 fn) := (hd14 _ _ q_first).trans c13_first_0
                  have c14_first_1 : w14.cell? ⟨w6.heap.size, 1, none⟩ = some (.int .i64 fd) := (hd14 _ _ q_first).trans c13_first_1
                  have c14_x_0 : w14.cell? ⟨w12.heap.size, 0, none⟩ = some (.int .i64 p1) := (hd14 _ _ q_x).trans c13_x_0
                  have c14_x_1 : w14.cell? ⟨w12.heap.size, 1, none⟩ = some (.int .i64 p2) := (hd14 _ _ q_x).trans c13_x_1
                  replace q_a : w1.heap.size < w14.heap.size := by omega
                  replace q_b : w1.heap.size + 1 < w14.heap.size := by omega
                  replace q_first : w6.heap.size < w14.heap.size := by omega
                  replace q_x : w12.heap.size < w14.heap.size := by omega
                  have c14_hx_0 : w14.cell? ⟨w13.heap.size, 0, none⟩ = some (.int .i64 e1) := (hc14 _ _ (by go_size)).trans (by go_simp)
                  have c14_hx_1 : w14.cell? ⟨w13.heap.size, 1, none⟩ = some (.int .i64 e2) := (hc14 _ _ (by go_size)).trans (by go_simp)
                  have q_hx : w13.heap.size < w14.heap.size := by omega
                  have R14_lt := Lib.hid (TRow.below R13_lt.out B14)
                  clear R13_lt
                  have R14_lp := Lib.hid (TRow.below R13_lp.out B14)
                  clear R13_lp
                  have BW14 : Below w.heap.size w w14 := BW13.trans (B14.mono BW13.size)
                  have BX14 : Below w12.heap.size w12 w14 := BX13.trans (B14.mono BX13.size)
                  clear BX13
                  clear hc14 hf14 hb14 hd14 B14 c13_a_0 c13_a_1 c13_a_2 c13_b_0 c13_b_1 c13_b_2 c13_first_0 c13_first_1 c13_x_0 c13_x_1 BW13
                  go_upto_region 22 with fail
                  have hb15 : Below w14.heap.size w14 (w14.alloc (Obj.cells #[.int .i64 e1, .int .i64 e2] 25)) := by (repeat' (first | (with_reducible exact Below.refl _ _) | (with_reducible assumption) | (with_reducible refine Below.alloc ?_ ?_ _) | (with_reducible refine Below.drew ?_) | (with_reducible refine below_drewN ?_ _) | (with_reducible refine Below.setCell ?_ ?_ _) | (with_reducible refine below_call ?_ ?_ (by assumption)) | go_size))
                  have c15_hy_0 : (w14.alloc (Obj.cells #[.int .i64 e1, .int .i64 e2] 25)).cell? ⟨w14.heap.size, 0, none⟩ = some (.int .i64 e1) := by go_simp
                  have c15_hy_1 : (w14.alloc (Obj.cells #[.int .i64 e1, .int .i64 e2] 25)).cell? ⟨w14.heap.size, 1, none⟩ = some (.int .i64 e2) := by go_simp
                  have q_hy : w14.heap.size < (w14.alloc (Obj.cells #[.int .i64 e1, .int .i64 e2] 25)).heap.size := by go_size
                  generalize (w14.alloc (Obj.cells #[.int .i64 e1, .int .i64 e2] 25)) = w15 at *
                  obtain ⟨hd15, -⟩ := bcell hb15
                  have hz15 := hb15.size
                  have c15_a_0 : w15.cell? ⟨w1.heap.size, 0, none⟩ = some (.int .i64 n0) := (hd15 _ _ q_a).trans c14_a_0
                  have c15_a_1 : w15.cell? ⟨w1.heap.size, 1, none⟩ = some (.int .i64 d0) := (hd15 _ _ q_a).trans c14_a_1
                  have c15_a_2 : w15.cell? ⟨w1.heap.size, 2, none⟩ = some (.int .i64 s0) := (hd15 _ _ q_a).trans c14_a_2
                  have c15_b_0 : w15.cell? ⟨w1.heap.size + 1, 0, none⟩ = some (.int .i64 n1) := (hd15 _ _ q_b).trans c14_b_0
                  have c15_b_1 : w15.cell? ⟨w1.heap.size + 1, 1, none⟩ = some (.int .i64 d1) := (hd15 _ _ q_b).trans c14_b_1
                  have c15_b_2 : w15.cell? ⟨w1.heap.size + 1, 2, none⟩ = some (.int .i64 s1) := (hd15 _ _ q_b).trans c14_b_2
                  have c15_first_0 : w15.cell? ⟨w6.heap.size, 0, none⟩ = some (.int .i64 fn) := (hd15 _ _ q_first).trans c14_first_0
                  have c15_first_1 : w15.cell? ⟨w6.heap.size, 1, none⟩ = some (.int .i64 fd) := (hd15 _ _ q_first).trans c14_first_1
                  have c15_x_0 : w15.cell? ⟨w12.heap.size, 0, none⟩ = some (.int .i64 p1) := (hd15 _ _ q_x).trans c14_x_0
                  have c15_x_1 : w15.cell? ⟨w12.heap.size, 1, none⟩ = some (.int .i64 p2) := (hd15 _ _ q_x).trans c14_x_1
                  have c15_hx_0 : w15.cell? ⟨w13.heap.size, 0, none⟩ = some (.int .i64 e1) := (hd15 _ _ q_hx).trans c14_hx_0
                  have c15_hx_1 : w15.cell? ⟨w13.heap.size, 1, none⟩ = some (.int .i64 e2) := (hd15 _ _ q_hx).trans c14_hx_1
                  replace q_a : w1.heap.size < w15.heap.size := by omega
                  replace q_b : w1.heap.size + 1 < w15.heap.size := by omega
                  replace q_first : w6.heap.size < w15.heap.size := by omega
                  replace q_x : w12.heap.size < w15.heap.size := by omega
                  replace q_hx : w13.heap.size < w15.heap.size := by omega
                  have R15_lt := Lib.hid (TRow.below R14_lt.out hb15)
                  clear R14_lt
                  have R15_lp := Lib.hid (TRow.below R14_lp.out hb15)
                  clear R14_lp
                  have BW15 : Below w.heap.size w w15 := BW14.trans (hb15.mono BW14.size)
                  have BX15 : Below w12.heap.size w12 w15 := BX14.trans (hb15.mono BX14.size)
                  clear BX14
                  clear hb15 hd15 c14_a_0 c14_a_1 c14_a_2 c14_b_0 c14_b_1 c14_b_2 c14_first_0 c14_first_1 c14_x_0 c14_x_1 c14_hx_0 c14_hx_1 BW14
                  cases eo
                  · go_wp2_with fail
                    refine (Z3.out _).mono ?_
                    rintro e16 w16 ⟨rfl, hb16⟩
                    obtain ⟨hc16, hf16⟩ := bcell hb16
                    have hz16 := hb16.size
                    (try simp only [World.size_alloc, World.size_setCell, World.size_drew] at hz16)
                    have B16 : Below w15.heap.size w15 w16 := Below.trans (b := _) (by (repeat' (first | (with_reducible exact Below.refl _ _) | (with_reducible assumption) | (with_reducible refine Below.alloc ?_ ?_ _) | (with_reducible refine Below.drew ?_) | (with_reducible refine below_drewN ?_ _) | (with_reducible refine Below.setCell ?_ ?_ _) | (with_reducible refine below_call ?_ ?_ (by assumption)) | go_size))) (hb16.mono (by first | omega | (simp only [World.size_alloc, World.size_setCell, World.size_drew]; omega)))
                    obtain ⟨hd16, -⟩ := bcell B16
                    have c16_a_0 : w16.cell? ⟨w1.heap.size, 0, none⟩ = some (.int .i64 n0) := (hd16 _ _ q_a).trans c15_a_0
                    have c16_a_1 : w16.cell? ⟨w1.heap.size, 1, none⟩ = some (.int .i64 d0) := (hd16 _ _ q_a).trans c15_a_1
                    have c16_a_2 : w16.cell? ⟨w1.heap.size, 2, none⟩ = some (.int .i64 s0) := (hd16 _ _ q_a).trans c15_a_2
                    have c16_b_0 : w16.cell? ⟨w1.heap.size + 1, 0, none⟩ = some (.int .i64 n1) := (hd16 _ _ q_b).trans c15_b_0
                    have c16_b_1 : w16.cell? ⟨w1.heap.size + 1, 1, none⟩ = some (.int .i64 d1) := (hd16 _ _ q_b).trans c15_b_1
                    have c16_b_2 : w16.cell? ⟨w1.heap.size + 1, 2, none⟩ = some (.int .i64 s1) := (hd16 _ _ q_b).trans c15_b_2
                    have c16_first_0 : w16.cell? ⟨w6.heap.size, 0, none⟩ = some (.int .i64 fn) := (hd16 _ _ q_first).trans c15_first_0
                    have c16_first_1 : w16.cell? ⟨w6.heap.size, 1, none⟩ = some (.int .i64 fd) := (hd16 _ _ q_first).trans c15_first_1
                    have c16_x_0 : w16.cell? ⟨w12.heap.size, 0, none⟩ = some (.int .i64 p1) := (hd16 _ _ q_x).trans c15_x_0
                    have c16_x_1 : w16.cell? ⟨w12.heap.size, 1, none⟩ = some (.int .i64 p2) := (hd16 _ _ q_x).trans c15_x_1
                    have c16_hx_0 : w16.cell? ⟨w13.heap.size, 0, none⟩ = some (.int .i64 e1) := (hd16 _ _ q_hx).trans c15_hx_0
                    have c16_hx_1 : w16.cell? ⟨w13.heap.size, 1, none⟩ = some (.int .i64 e2) := (hd16 _ _ q_hx).trans c15_hx_1
                    have c16_hy_0 : w16.cell? ⟨w14.heap.size, 0, none⟩ = some (.int .i64 e1) := (hd16 _ _ q_hy).trans c15_hy_0
                    have c16_hy_1 : w16.cell? ⟨w14.heap.size, 1, none⟩ = some (.int .i64 e2) := (hd16 _ _ q_hy).trans c15_hy_1
                    replace q_a : w1.heap.size < w16.heap.size := by omega
                    replace q_b : w1.heap.size + 1 < w16.heap.size := by omega
                    replace q_first : w6.heap.size < w16.heap.size := by omega
                    replace q_x : w12.heap.size < w16.heap.size := by omega
                    replace q_hx : w13.heap.size < w16.heap.size := by omega
                    replace q_hy : w14.heap.size < w16.heap.size := by omega
                    have R16_lt := Lib.hid (TRow.below R15_lt.out B16)
                    clear R15_lt
                    have R16_lp := Lib.hid (TRow.below R15_lp.out B16)
                    clear R15_lp
                    have BW16 : Below w.heap.size w w16 := BW15.trans (B16.mono BW15.size)
                    have BX16 : Below w12.heap.size w12 w16 := BX15.trans (B16.mono BX15.size)
                    clear BX15
                    clear hc16 hf16 hb16 hd16 B16 c15_a_0 c15_a_1 c15_a_2 c15_b_0 c15_b_1 c15_b_2 c15_first_0 c15_first_1 c15_x_0 c15_x_1 c15_hx_0 c15_hx_1 c15_hy_0 c15_hy_1 BW15
                    go_upto_region 25 with fail
                    have hb17 : Below w16.heap.size w16 (w16.alloc (Obj.cells #[.int .i64 f1, .int .i64 f2] 25)) := by (repeat' (first | (with_reducible exact Below.refl _ _) | (with_reducible assumption) | (with_reducible refine Below.alloc ?_ ?_ _) | (with_reducible refine Below.drew ?_) | (with_reducible refine below_drewN ?_ _) | (with_reducible refine Below.setCell ?_ ?_ _) | (with_reducible refine below_call ?_ ?_ (by assumption)) | go_size))
                    have c17_nxt_0 : (w16.alloc (Obj.cells #[.int .i64 f1, .int .i64 f2] 25)).cell? ⟨w16.heap.size, 0, none⟩ = some (.int .i64 f1) := by go_simp
                    have c17_nxt_1 : (w16.alloc (Obj.cells #[.int .i64 f1, .int .i64 f2] 25)).cell? ⟨w16.heap.size, 1, none⟩ = some (.int .i64 f2) := by go_simp
                    have q_nxt : w16.heap.size < (w16.alloc (Obj.cells #[.int .i64 f1, .int .i64 f2] 25)).heap.size := by go_size
                    generalize (w16.alloc (Obj.cells #[.int .i64 f1, .int .i64 f2] 25)) = w17 at *
                    obtain ⟨hd17, -⟩ := bcell hb17
                    have hz17 := hb17.size
                    have c17_a_0 : w17.cell? ⟨w1.heap.size, 0, none⟩ = some (.int .i64 n0) := (hd17 _ _ q_a).trans c16_a_0
                    have c17_a_1 : w17.cell? ⟨w1.heap.size, 1, none⟩ = some (.int .i64 d0) := (hd17 _ _ q_a).trans c16_a_1
                    have c17_a_2 : w17.cell? ⟨w1.heap.size, 2, none⟩ = some (.int .i64 s0) := (hd17 _ _ q_a).trans c16_a_2
                    have c17_b_0 : w17.cell? ⟨w1.heap.size + 1, 0, none⟩ = some (.int .i64 n1) := (hd17 _ _ q_b).trans c16_b_0
                    have c17_b_1 : w17.cell? ⟨w1.heap.size + 1, 1, none⟩ = some (.int .i64 d1) := (hd17 _ _ q_b).trans c16_b_1
                    have c17_b_2 : w17.cell? ⟨w1.heap.size + 1, 2, none⟩ = some (.int .i64 s1) := (hd17 _ _ q_b).trans c16_b_2
                    have c17_first_0 : w17.cell? ⟨w6.heap.size, 0, none⟩ = some (.int .i64 fn) := (hd17 _ _ q_first).trans c16_first_0
                    have c17_first_1 : w17.cell? ⟨w6.heap.size, 1, none⟩ = some (.int .i64 fd) := (hd17 _ _ q_first).trans c16_first_1
                    have c17_x_0 : w17.cell? ⟨w12.heap.size, 0, none⟩ = some (.int .i64 p1) := (hd17 _ _ q_x).trans c16_x_0
                    have c17_x_1 : w17.cell? ⟨w12.heap.size, 1, none⟩ = some (.int .i64 p2) := (hd17 _ _ q_x).trans c16_x_1
                    have c17_hx_0 : w17.cell? ⟨w13.heap.size, 0, none⟩ = some (.int .i64 e1) := (hd17 _ _ q_hx).trans c16_hx_0
                    have c17_hx_1 : w17.cell? ⟨w13.heap.size, 1, none⟩ = some (.int .i64 e2) := (hd17 _ _ q_hx).trans c16_hx_1
                    have c17_hy_0 : w17.cell? ⟨w14.heap.size, 0, none⟩ = some (.int .i64 e1) := (hd17 _ _ q_hy).trans c16_hy_0
                    have c17_hy_1 : w17.cell? ⟨w14.heap.size, 1, none⟩ = some (.int .i64 e2) := (hd17 _ _ q_hy).trans c16_hy_1
                    replace q_a : w1.heap.size < w17.heap.size := by omega
                    replace q_b : w1.heap.size + 1 < w17.heap.size := by omega
                    replace q_first : w6.heap.size < w17.heap.size := by omega
                    replace q_x : w12.heap.size < w17.heap.size := by omega
                    replace q_hx : w13.heap.size < w17.heap.size := by omega
                    replace q_hy : w14.heap.size < w17.heap.size := by omega
                    have R17_lt := Lib.hid (TRow.below R16_lt.out hb17)
                    clear R16_lt
                    have R17_lp := Lib.hid (TRow.below R16_lp.out hb17)
                    clear R16_lp
                    have BW17 : Below w.heap.size w w17 := BW16.trans (hb17.mono BW16.size)
                    have BX17 : Below w12.heap.size w12 w17 := BX16.trans (hb17.mono BX16.size)
                    clear BX16
                    clear hb17 hd17 c16_a_0 c16_a_1 c16_a_2 c16_b_0 c16_b_1 c16_b_2 c16_first_0 c16_first_1 c16_x_0 c16_x_1 c16_hx_0 c16_hx_1 c16_hy_0 c16_hy_1 BW16
                    obtain ⟨hdx, -⟩ := bcell BX17
                    have x3 := (hdx _ _ u2).trans v3
                    have x4 := (hdx _ _ u2).trans v4
                    have x2 : gl < w17.heap.size := by have := BX17.size; omega
                    clear hdx
                    have hk1 : IntKind.i64.wrap ((k : Int) + 1) = (k : Int) + 1 := by rw [IntKind.wrap_i64]; omega
                    have hc0 : ¬ cn = 0 := by omega
                    have hmod : ((k : Int) + 1).tmod cn = (m : Int) := by rw [HMOD.out, HMM.out]
                    have hml : (m : Int) < (LT.length : Int) := by omega
                    have hm0 : (0 : Int) ≤ (m : Int) := Int.natCast_nonneg _
                    have hwm : IntKind.i64.wrap (m : Int) = (m : Int) := by rw [IntKind.wrap_i64]; have := HCN.out; omega
                    go_wp2_with fail
                    refine wp_region_below (by kernel_rfl) (by kernel_rfl) ?_
                    (apply wpB_take (hw := rfl); (intro wq hq; obtain ⟨hcq, hfq⟩ := bcell hq; unfold atB; go_simp; exact ⟨rfl, rfl⟩); (rw [put_lit]; dsimp only [List.set]))
                    (apply wpB_take (hw := rfl); (intro wq hq; obtain ⟨hcq, hfq⟩ := bcell hq; unfold atB; go_simp; exact ⟨rfl, rfl⟩); (rw [put_lit]; dsimp only [List.set]))
                    (apply wpB_take (hw := rfl); (intro wq hq; obtain ⟨hcq, hfq⟩ := bcell hq; unfold atB; go_simp; exact ⟨rfl, rfl⟩); (rw [put_lit]; dsimp only [List.set]))
                    (apply wpB_take (hw := rfl); (intro wq hq; obtain ⟨hcq, hfq⟩ := bcell hq; unfold atB; go_simp; exact ⟨rfl, rfl⟩); (rw [put_lit]; dsimp only [List.set]))
                    (apply wpB_take (hw := rfl); (intro wq hq; obtain ⟨hcq, hfq⟩ := bcell hq; unfold atB; go_simp; exact ⟨rfl, rfl⟩); (rw [put_lit]; dsimp only [List.set]))
                    (apply wpB_take (hw := rfl); (intro wq hq; obtain ⟨hcq, hfq⟩ := bcell hq; unfold atB; go_simp; exact ⟨rfl, rfl⟩); (rw [put_lit]; dsimp only [List.set]))
                    (apply wpB_take (hw := rfl); (intro wq hq; obtain ⟨hcq, hfq⟩ := bcell hq; unfold atB; go_simp; exact ⟨rfl, rfl⟩); (rw [put_lit]; dsimp only [List.set]))
                    (apply wpB_take (hw := rfl); (intro wq hq; obtain ⟨hcq, hfq⟩ := bcell hq; unfold atB; go_simp; exact ⟨rfl, rfl⟩); (rw [put_lit]; dsimp only [List.set]))
                    (apply wpB_take (hw := rfl); (intro wq hq; obtain ⟨hcq, hfq⟩ := bcell hq; unfold atB; go_simp; exact ⟨rfl, rfl⟩); (rw [put_lit]; dsimp only [List.set]))
                    (apply wpB_take (hw := rfl); (intro wq hq; obtain ⟨hcq, hfq⟩ := bcell hq; unfold atB; go_simp; exact ⟨rfl, rfl⟩); (rw [put_lit]; dsimp only [List.set]))
                    (apply wpB_take (hw := rfl); (intro wq hq; obtain ⟨hcq, hfq⟩ := bcell hq; unfold atB; go_simp; exact ⟨rfl, rfl⟩); (rw [put_lit]; dsimp only [List.set]))
                    (apply wpB_take (hw := rfl); (intro wq hq; obtain ⟨hcq, hfq⟩ := bcell hq; unfold atB; go_simp; exact ⟨rfl, rfl⟩); (rw [put_lit]; dsimp only [List.set]))
                    (apply wpB_take (hw := rfl); (intro wq hq; obtain ⟨hcq, hfq⟩ := bcell hq; unfold atB; go_simp; exact ⟨rfl, rfl⟩); (rw [put_lit]; dsimp only [List.set]))
                    refine fun wx hbx => ?_
                    try simp only [Act.put, List.setIfInBounds_toArray, List.set_cons_zero, List.set_cons_succ]
                    have hbt := (hb12'.trans (BX17.mono hb12'.size)).trans (hbx.mono (hb12'.trans (BX17.mono hb12'.size)).size)
                    clear hmod hml
                    go_wp2_with fail
                    go_roundw
                    case rel => exact ⟨k + 1, by omega, by go_num, hbt⟩
                    case measure => simp [RowKit.intOf]; omega
                  · cases po
                    · go_wp2_with fail
                      refine (Z3.out _).mono ?_
                      rintro e16 w16 ⟨rfl, hb16⟩
                      obtain ⟨hc16, hf16⟩ := bcell hb16
                      have hz16 := hb16.size
                      (try simp only [World.size_alloc, World.size_setCell, World.size_drew] at hz16)
                      have B16 : Below w15.heap.size w15 w16 := Below.trans (b := _) (by (repeat' (first | (with_reducible exact Below.refl _ _) | (with_reducible assumption) | (with_reducible refine Below.alloc ?_ ?_ _) | (with_reducible refine Below.drew ?_) | (with_reducible refine below_drewN ?_ _) | (with_reducible refine Below.setCell ?_ ?_ _) | (with_reducible refine below_call ?_ ?_ (by assumption)) | go_size))) (hb16.mono (by first | omega | (simp only [World.size_alloc, World.size_setCell, World.size_drew]; omega)))
                      obtain ⟨hd16, -⟩ := bcell B16
                      have c16_a_0 : w16.cell? ⟨w1.heap.size, 0, none⟩ = some (.int .i64 n0) := (hd16 _ _ q_a).trans c15_a_0
                      have c16_a_1 : w16.cell? ⟨w1.heap.size, 1, none⟩ = some (.int .i64 d0) := (hd16 _ _ q_a).trans c15_a_1
                      have c16_a_2 : w16.cell? ⟨w1.heap.size, 2, none⟩ = some (.int .i64 s0) := (hd16 _ _ q_a).trans c15_a_2
                      have c16_b_0 : w16.cell? ⟨w1.heap.size + 1, 0, none⟩ = some (.int .i64 n1) := (hd16 _ _ q_b).trans c15_b_0
                      have c16_b_1 : w16.cell? ⟨w1.heap.size + 1, 1, none⟩ = some (.int .i64 d1) := (hd16 _ _ q_b).trans c15_b_1
                      have c16_b_2 : w16.cell? ⟨w1.heap.size + 1, 2, none⟩ = some (.int .i64 s1) := (hd16 _ _ q_b).trans c15_b_2
                      have c16_first_0 : w16.cell? ⟨w6.heap.size, 0, none⟩ = some (.int .i64 fn) := (hd16 _ _ q_first).trans c15_first_0
                      have c16_first_1 : w16.cell? ⟨w6.heap.size, 1, none⟩ = some (.int .i64 fd) := (hd16 _ _ q_first).trans c15_first_1
                      have c16_x_0 : w16.cell? ⟨w12.heap.size, 0, none⟩ = some (.int .i64 p1) := (hd16 _ _ q_x).trans c15_x_0
                      have c16_x_1 : w16.cell? ⟨w12.heap.size, 1, none⟩ = some (.int .i64 p2) := (hd16 _ _ q_x).trans c15_x_1
                      have c16_hx_0 : w16.cell? ⟨w13.heap.size, 0, none⟩ = some (.int .i64 e1) := (hd16 _ _ q_hx).trans c15_hx_0
                      have c16_hx_1 : w16.cell? ⟨w13.heap.size, 1, none⟩ = some (.int .i64 e2) := (hd16 _ _ q_hx).trans c15_hx_1
                      have c16_hy_0 : w16.cell? ⟨w14.heap.size, 0, none⟩ = some (.int .i64 e1) := (hd16 _ _ q_hy).trans c15_hy_0
                      have c16_hy_1 : w16.cell? ⟨w14.heap.size, 1, none⟩ = some (.int .i64 e2) := (hd16 _ _ q_hy).trans c15_hy_1
                      replace q_a : w1.heap.size < w16.heap.size := by omega
                      replace q_b : w1.heap.size + 1 < w16.heap.size := by omega
                      replace q_first : w6.heap.size < w16.heap.size := by omega
                      replace q_x : w12.heap.size < w16.heap.size := by omega
                      replace q_hx : w13.heap.size < w16.heap.size := by omega
                      replace q_hy : w14.heap.size < w16.heap.size := by omega
                      have R16_lt := Lib.hid (TRow.below R15_lt.out B16)
                      clear R15_lt
                      have R16_lp := Lib.hid (TRow.below R15_lp.out B16)
                      clear R15_lp
                      have BW16 : Below w.heap.size w w16 := BW15.trans (B16.mono BW15.size)
                      have BX16 : Below w12.heap.size w12 w16 := BX15.trans (B16.mono BX15.size)
                      clear BX15
                      clear hc16 hf16 hb16 hd16 B16 c15_a_0 c15_a_1 c15_a_2 c15_b_0 c15_b_1 c15_b_2 c15_first_0 c15_first_1 c15_x_0 c15_x_1 c15_hx_0 c15_hx_1 c15_hy_0 c15_hy_1 BW15
                      go_upto_region 25 with fail
                      have hb17 : Below w16.heap.size w16 (w16.alloc (Obj.cells #[.int .i64 f1, .int .i64 f2] 25)) := by (repeat' (first | (with_reducible exact Below.refl _ _) | (with_reducible assumption) | (with_reducible refine Below.alloc ?_ ?_ _) | (with_reducible refine Below.drew ?_) | (with_reducible refine below_drewN ?_ _) | (with_reducible refine Below.setCell ?_ ?_ _) | (with_reducible refine below_call ?_ ?_ (by assumption)) | go_size))
                      have c17_nxt_0 : (w16.alloc (Obj.cells #[.int .i64 f1, .int .i64 f2] 25)).cell? ⟨w16.heap.size, 0, none⟩ = some (.int .i64 f1) := by go_simp
                      have c17_nxt_1 : (w16.alloc (Obj.cells #[.int .i64 f1, .int .i64 f2] 25)).cell? ⟨w16.heap.size, 1, none⟩ = some (.int .i64 f2) := by go_simp
                      have q_nxt : w16.heap.size < (w16.alloc (Obj.cells #[.int .i64 f1, .int .i64 f2] 25)).heap.size := by go_size
                      generalize (w16.alloc (Obj.cells #[.int .i64 f1, .int .i64 f2] 25)) = w17 at *
                      obtain ⟨hd17, -⟩ := bcell hb17
                      have hz17 := hb17.size
                      have c17_a_0 : w17.cell? ⟨w1.heap.size, 0, none⟩ = some (.int .i64 n0) := (hd17 _ _ q_a).trans c16_a_0
                      have c17_a_1 : w17.cell? ⟨w1.heap.size, 1, none⟩ = some (.int .i64 d0) := (hd17 _ _ q_a).trans c16_a_1
                      have c17_a_2 : w17.cell? ⟨w1.heap.size, 2, none⟩ = some (.int .i64 s0) := (hd17 _ _ q_a).trans c16_a_2
                      have c17_b_0 : w17.cell? ⟨w1.heap.size + 1, 0, none⟩ = some (.int .i64 n1) := (hd17 _ _ q_b).trans c16_b_0
                      have c17_b_1 : w17.cell? ⟨w1.heap.size + 1, 1, none⟩ = some (.int .i64 d1) := (hd17 _ _ q_b).trans c16_b_1
                      have c17_b_2 : w17.cell? ⟨w1.heap.size + 1, 2, none⟩ = some (.int .i64 s1) := (hd17 _ _ q_b).trans c16_b_2
                      have c17_first_0 : w17.cell? ⟨w6.heap.size, 0, none⟩ = some (.int .i64 fn) := (hd17 _ _ q_first).trans c16_first_0
                      have c17_first_1 : w17.cell? ⟨w6.heap.size, 1, none⟩ = some (.int .i64 fd) := (hd17 _ _ q_first).trans c16_first_1
                      have c17_x_0 : w17.cell? ⟨w12.heap.size, 0, none⟩ = some (.int .i64 p1) := (hd17 _ _ q_x).trans c16_x_0
                      have c17_x_1 : w17.cell? ⟨w12.heap.size, 1, none⟩ = some (.int .i64 p2) := (hd17 _ _ q_x).trans c16_x_1
                      have c17_hx_0 : w17.cell? ⟨w13.heap.size, 0, none⟩ = some (.int .i64 e1) := (hd17 _ _ q_hx).trans c16_hx_0
                      have c17_hx_1 : w17.cell? ⟨w13.heap.size, 1, none⟩ = some (.int .i64 e2) := (hd17 _ _ q_hx).trans c16_hx_1
                      have c17_hy_0 : w17.cell? ⟨w14.heap.size, 0, none⟩ = some (.int .i64 e1) := (hd17 _ _ q_hy).trans c16_hy_0
                      have c17_hy_1 : w17.cell? ⟨w14.heap.size, 1, none⟩ = some (.int .i64 e2) := (hd17 _ _ q_hy).trans c16_hy_1
                      replace q_a : w1.heap.size < w17.heap.size := by omega
                      replace q_b : w1.heap.size + 1 < w17.heap.size := by omega
                      replace q_first : w6.heap.size < w17.heap.size := by omega
                      replace q_x : w12.heap.size < w17.heap.size := by omega
                      replace q_hx : w13.heap.size < w17.heap.size := by omega
                      replace q_hy : w14.heap.size < w17.heap.size := by omega
                      have R17_lt := Lib.hid (TRow.below R16_lt.out hb17)
                      clear R16_lt
                      have R17_lp := Lib.hid (TRow.below R16_lp.out hb17)
                      clear R16_lp
                      have BW17 : Below w.heap.size w w17 := BW16.trans (hb17.mono BW16.size)
                      have BX17 : Below w12.heap.size w12 w17 := BX16.trans (hb17.mono BX16.size)
                      clear BX16
                      clear hb17 hd17 c16_a_0 c16_a_1 c16_a_2 c16_b_0 c16_b_1 c16_b_2 c16_first_0 c16_first_1 c16_x_0 c16_x_1 c16_hx_0 c16_hx_1 c16_hy_0 c16_hy_1 BW16
                      obtain ⟨hdx, -⟩ := bcell BX17
                      have x3 := (hdx _ _ u2).trans v3
                      have x4 := (hdx _ _ u2).trans v4
                      have x2 : gl < w17.heap.size := by have := BX17.size; omega
                      clear hdx
                      have hk1 : IntKind.i64.wrap ((k : Int) + 1) = (k : Int) + 1 := by rw [IntKind.wrap_i64]; omega
                      have hc0 : ¬ cn = 0 := by omega
                      have hmod : ((k : Int) + 1).tmod cn = (m : Int) := by rw [HMOD.out, HMM.out]
                      have hml : (m : Int) < (LT.length : Int) := by omega
                      have hm0 : (0 : Int) ≤ (m : Int) := Int.natCast_nonneg _
                      have hwm : IntKind.i64.wrap (m : Int) = (m : Int) := by rw [IntKind.wrap_i64]; have := HCN.out; omega
                      go_wp2_with fail
                      refine wp_region_below (by kernel_rfl) (by kernel_rfl) ?_
                      (apply wpB_take (hw := rfl); (intro wq hq; obtain ⟨hcq, hfq⟩ := bcell hq; unfold atB; go_simp; exact ⟨rfl, rfl⟩); (rw [put_lit]; dsimp only [List.set]))
                      (apply wpB_take (hw := rfl); (intro wq hq; obtain ⟨hcq, hfq⟩ := bcell hq; unfold atB; go_simp; exact ⟨rfl, rfl⟩); (rw [put_lit]; dsimp only [List.set]))
                      (apply wpB_take (hw := rfl); (intro wq hq; obtain ⟨hcq, hfq⟩ := bcell hq; unfold atB; go_simp; exact ⟨rfl, rfl⟩); (rw [put_lit]; dsimp only [List.set]))
                      (apply wpB_take (hw := rfl); (intro wq hq; obtain ⟨hcq, hfq⟩ := bcell hq; unfold atB; go_simp; exact ⟨rfl, rfl⟩); (rw [put_lit]; dsimp only [List.set]))
                      (apply wpB_take (hw := rfl); (intro wq hq; obtain ⟨hcq, hfq⟩ := bcell hq; unfold atB; go_simp; exact ⟨rfl, rfl⟩); (rw [put_lit]; dsimp only [List.set]))
                      (apply wpB_take (hw := rfl); (intro wq hq; obtain ⟨hcq, hfq⟩ := bcell hq; unfold atB; go_simp; exact ⟨rfl, rfl⟩); (rw [put_lit]; dsimp only [List.set]))
                      (apply wpB_take (hw := rfl); (intro wq hq; obtain ⟨hcq, hfq⟩ := bcell hq; unfold atB; go_simp; exact ⟨rfl, rfl⟩); (rw [put_lit]; dsimp only [List.set]))
                      (apply wpB_take (hw := rfl); (intro wq hq; obtain ⟨hcq, hfq⟩ := bcell hq; unfold atB; go_simp; exact ⟨rfl, rfl⟩); (rw [put_lit]; dsimp only [List.set]))
                      (apply wpB_take (hw := rfl); (intro wq hq; obtain ⟨hcq, hfq⟩ := bcell hq; unfold atB; go_simp; exact ⟨rfl, rfl⟩); (rw [put_lit]; dsimp only [List.set]))
                      (apply wpB_take (hw := rfl); (intro wq hq; obtain ⟨hcq, hfq⟩ := bcell hq; unfold atB; go_simp; exact ⟨rfl, rfl⟩); (rw [put_lit]; dsimp only [List.set]))
                      (apply wpB_take (hw := rfl); (intro wq hq; obtain ⟨hcq, hfq⟩ := bcell hq; unfold atB; go_simp; exact ⟨rfl, rfl⟩); (rw [put_lit]; dsimp only [List.set]))
                      (apply wpB_take (hw := rfl); (intro wq hq; obtain ⟨hcq, hfq⟩ := bcell hq; unfold atB; go_simp; exact ⟨rfl, rfl⟩); (rw [put_lit]; dsimp only [List.set]))
                      (apply wpB_take (hw := rfl); (intro wq hq; obtain ⟨hcq, hfq⟩ := bcell hq; unfold atB; go_simp; exact ⟨rfl, rfl⟩); (rw [put_lit]; dsimp only [List.set]))
                      refine fun wx hbx => ?_
                      try simp only [Act.put, List.setIfInBounds_toArray, List.set_cons_zero, List.set_cons_succ]
                      have hbt := (hb12'.trans (BX17.mono hb12'.size)).trans (hbx.mono (hb12'.trans (BX17.mono hb12'.size)).size)
                      clear hmod hml
                      go_wp2_with fail
                      go_roundw
                      case rel => exact ⟨k + 1, by omega, by go_num, hbt⟩
                      case measure => simp [RowKit.intOf]; omega
                    · have HK := Lib.hid (HPP.out rfl rfl)
                      go_wp2_with fail
                      refine (kIn_is LP _ _ _ _ _ HK.out R15_lp.out HLP.out).mono ?_
                      rintro e16 w16 ⟨rfl, hb16⟩
                      obtain ⟨hc16, hf16⟩ := bcell hb16
                      have hz16 := hb16.size
                      (try simp only [World.size_alloc, World.size_setCell, World.size_drew] at hz16)
                      have B16 : Below w15.heap.size w15 w16 := Below.trans (b := _) (by (repeat' (first | (with_reducible exact Below.refl _ _) | (with_reducible assumption) | (with_reducible refine Below.alloc ?_ ?_ _) | (with_reducible refine Below.drew ?_) | (with_reducible refine below_drewN ?_ _) | (with_reducible refine Below.setCell ?_ ?_ _) | (with_reducible refine below_call ?_ ?_ (by assumption)) | go_size))) (hb16.mono (by first | omega | (simp only [World.size_alloc, World.size_setCell, World.size_drew]; omega)))
                      obtain ⟨hd16, -⟩ := bcell B16
                      have c16_a_0 : w16.cell? ⟨w1.heap.size, 0, none⟩ = some (.int .i64 n0) := (hd16 _ _ q_a).trans c15_a_0
                      have c16_a_1 : w16.cell? ⟨w1.heap.size, 1, none⟩ = some (.int .i64 d0) := (hd16 _ _ q_a).trans c15_a_1
                      have c16_a_2 : w16.cell? ⟨w1.heap.size, 2, none⟩ = some (.int .i64 s0) := (hd16 _ _ q_a).trans c15_a_2
                      have c16_b_0 : w16.cell? ⟨w1.heap.size + 1, 0, none⟩ = some (.int .i64 n1) := (hd16 _ _ q_b).trans c15_b_0
                      have c16_b_1 : w16.cell? ⟨w1.heap.size + 1, 1, none⟩ = some (.int .i64 d1) := (hd16 _ _ q_b).trans c15_b_1
                      have c16_b_2 : w16.cell? ⟨w1.heap.size + 1, 2, none⟩ = some (.int .i64 s1) := (hd16 _ _ q_b).trans c15_b_2
                      have c16_first_0 : w16.cell? ⟨w6.heap.size, 0, none⟩ = some (.int .i64 fn) := (hd16 _ _ q_first).trans c15_first_0
                      have c16_first_1 : w16.cell? ⟨w6.heap.size, 1, none⟩ = some (.int .i64 fd) := (hd16 _ _ q_first).trans c15_first_1
                      have c16_x_0 : w16.cell? ⟨w12.heap.size, 0, none⟩ = some (.int .i64 p1) := (hd16 _ _ q_x).trans c15_x_0
                      have c16_x_1 : w16.cell? ⟨w12.heap.size, 1, none⟩ = some (.int .i64 p2) := (hd16 _ _ q_x).trans c15_x_1
                      have c16_hx_0 : w16.cell? ⟨w13.heap.size, 0, none⟩ = some (.int .i64 e1) := (hd16 _ _ q_hx).trans c15_hx_0
                      have c16_hx_1 : w16.cell? ⟨w13.heap.size, 1, none⟩ = some (.int .i64 e2) := (hd16 _ _ q_hx).trans c15_hx_1
                      have c16_hy_0 : w16.cell? ⟨w14.heap.size, 0, none⟩ = some (.int .i64 e1) := (hd16 _ _ q_hy).trans c15_hy_0
                      have c16_hy_1 : w16.cell? ⟨w14.heap.size, 1, none⟩ = some (.int .i64 e2) := (hd16 _ _ q_hy).trans c15_hy_1
                      replace q_a : w1.heap.size < w16.heap.size := by omega
                      replace q_b : w1.heap.size + 1 < w16.heap.size := by omega
                      replace q_first : w6.heap.size < w16.heap.size := by omega
                      replace q_x : w12.heap.size < w16.heap.size := by omega
                      replace q_hx : w13.heap.size < w16.heap.size := by omega
                      replace q_hy : w14.heap.size < w16.heap.size := by omega
                      have R16_lt := Lib.hid (TRow.below R15_lt.out B16)
                      clear R15_lt
                      have R16_lp := Lib.hid (TRow.below R15_lp.out B16)
                      clear R15_lp
                      have BW16 : Below w.heap.size w w16 := BW15.trans (B16.mono BW15.size)
                      have BX16 : Below w12.heap.size w12 w16 := BX15.trans (B16.mono BX15.size)
                      clear BX15
                      clear hc16 hf16 hb16 hd16 B16 c15_a_0 c15_a_1 c15_a_2 c15_b_0 c15_b_1 c15_b_2 c15_first_0 c15_first_1 c15_x_0 c15_x_1 c15_hx_0 c15_hx_1 c15_hy_0 c15_hy_1 BW15
                      go_wp2_with fail
                      refine (Z3.out _).mono ?_
                      rintro e17 w17 ⟨rfl, hb17⟩
                      obtain ⟨hc17, hf17⟩ := bcell hb17
                      have hz17 := hb17.size
                      (try simp only [World.size_alloc, World.size_setCell, World.size_drew] at hz17)
                      have B17 : Below w16.heap.size w16 w17 := Below.trans (b := _) (by (repeat' (first | (with_reducible exact Below.refl _ _) | (with_reducible assumption) | (with_reducible refine Below.alloc ?_ ?_ _) | (with_reducible refine Below.drew ?_) | (with_reducible refine below_drewN ?_ _) | (with_reducible refine Below.setCell ?_ ?_ _) | (with_reducible refine below_call ?_ ?_ (by assumption)) | go_size))) (hb17.mono (by first | omega | (simp only [World.size_alloc, World.size_setCell, World.size_drew]; omega)))
                      obtain ⟨hd17, -⟩ := bcell B17
                      have c17_a_0 : w17.cell? ⟨w1.heap.size, 0, none⟩ = some (.int .i64 n0) := (hd17 _ _ q_a).trans c16_a_0
                      have c17_a_1 : w17.cell? ⟨w1.heap.size, 1, none⟩ = some (.int .i64 d0) := (hd17 _ _ q_a).trans c16_a_1
                      have c17_a_2 : w17.cell? ⟨w1.heap.size, 2, none⟩ = some (.int .i64 s0) := (hd17 _ _ q_a).trans c16_a_2
                      have c17_b_0 : w17.cell? ⟨w1.heap.size + 1, 0, none⟩ = some (.int .i64 n1) := (hd17 _ _ q_b).trans c16_b_0
                      have c17_b_1 : w17.cell? ⟨w1.heap.size + 1, 1, none⟩ = some (.int .i64 d1) := (hd17 _ _ q_b).trans c16_b_1
                      have c17_b_2 : w17.cell? ⟨w1.heap.size + 1, 2, none⟩ = some (.int .i64 s1) := (hd17 _ _ q_b).trans c16_b_2
                      have c17_first_0 : w17.cell? ⟨w6.heap.size, 0, none⟩ = some (.int .i64 fn) := (hd17 _ _ q_first).trans c16_first_0
                      have c17_first_1 : w17.cell? ⟨w6.heap.size, 1, none⟩ = some (.int .i64 fd) := (hd17 _ _ q_first).trans c16_first_1
                      have c17_x_0 : w17.cell? ⟨w12.heap.size, 0, none⟩ = some (.int .i64 p1) := (hd17 _ _ q_x).trans c16_x_0
                      have c17_x_1 : w17.cell? ⟨w12.heap.size, 1, none⟩ = some (.int .i64 p2) := (hd17 _ _ q_x).trans c16_x_1
                      have c17_hx_0 : w17.cell? ⟨w13.heap.size, 0, none⟩ = some (.int .i64 e1) := (hd17 _ _ q_hx).trans c16_hx_0
                      have c17_hx_1 : w17.cell? ⟨w13.heap.size, 1, none⟩ = some (.int .i64 e2) := (hd17 _ _ q_hx).trans c16_hx_1
                      have c17_hy_0 : w17.cell? ⟨w14.heap.size, 0, none⟩ = some (.int .i64 e1) := (hd17 _ _ q_hy).trans c16_hy_0
                      have c17_hy_1 : w17.cell? ⟨w14.heap.size, 1, none⟩ = some (.int .i64 e2) := (hd17 _ _ q_hy).trans c16_hy_1
                      replace q_a : w1.heap.size < w17.heap.size := by omega
                      replace q_b : w1.heap.size + 1 < w17.heap.size := by omega
                      replace q_first : w6.heap.size < w17.heap.size := by omega
                      replace q_x : w12.heap.size < w17.heap.size := by omega
                      replace q_hx : w13.heap.size < w17.heap.size := by omega
                      replace q_hy : w14.heap.size < w17.heap.size := by omega
                      have R17_lt := Lib.hid (TRow.below R16_lt.out B17)
                      clear R16_lt
                      have R17_lp := Lib.hid (TRow.below R16_lp.out B17)
                      clear R16_lp
                      have BW17 : Below w.heap.size w w17 := BW16.trans (B17.mono BW16.size)
                      have BX17 : Below w12.heap.size w12 w17 := BX16.trans (B17.mono BX16.size)
                      clear BX16
                      clear hc17 hf17 hb17 hd17 B17 c16_a_0 c16_a_1 c16_a_2 c16_b_0 c16_b_1 c16_b_2 c16_first_0 c16_first_1 c16_x_0 c16_x_1 c16_hx_0 c16_hx_1 c16_hy_0 c16_hy_1 BW16
                      go_upto_region 25 with fail
                      have hb18 : Below w17.heap.size w17 (w17.alloc (Obj.cells #[.int .i64 f1, .int .i64 f2] 25)) := by (repeat' (first | (with_reducible exact Below.refl _ _) | (with_reducible assumption) | (with_reducible refine Below.alloc ?_ ?_ _) | (with_reducible refine Below.drew ?_) | (with_reducible refine below_drewN ?_ _) | (with_reducible refine Below.setCell ?_ ?_ _) | (with_reducible refine below_call ?_ ?_ (by assumption)) | go_size))
                      have c18_nxt_0 : (w17.alloc (Obj.cells #[.int .i64 f1, .int .i64 f2] 25)).cell? ⟨w17.heap.size, 0, none⟩ = some (.int .i64 f1) := by go_simp
                      have c18_nxt_1 : (w17.alloc (Obj.cells #[.int .i64 f1, .int .i64 f2] 25)).cell? ⟨w17.heap.size, 1, none⟩ = some (.int .i64 f2) := by go_simp
                      have q_nxt : w17.heap.size < (w17.alloc (Obj.cells #[.int .i64 f1, .int .i64 f2] 25)).heap.size := by go_size
                      generalize (w17.alloc (Obj.cells #[.int .i64 f1, .int .i64 f2] 25)) = w18 at *
                      obtain ⟨hd18, -⟩ := bcell hb18
                      have hz18 := hb18.size
                      have c18_a_0 : w18.cell? ⟨w1.heap.size, 0, none⟩ = some (.int .i64 n0) := (hd18 _ _ q_a).trans c17_a_0
                      have c18_a_1 : w18.cell? ⟨w1.heap.size, 1, none⟩ = some (.int .i64 d0) := (hd18 _ _ q_a).trans c17_a_1
                      have c18_a_2 : w18.cell? ⟨w1.heap.size, 2, none⟩ = some (.int .i64 s0) := (hd18 _ _ q_a).trans c17_a_2
                      have c18_b_0 : w18.cell? ⟨w1.heap.size + 1, 0, none⟩ = some (.int .i64 n1) := (hd18 _ _ q_b).trans c17_b_0
                      have c18_b_1 : w18.cell? ⟨w1.heap.size + 1, 1, none⟩ = some (.int .i64 d1) := (hd18 _ _ q_b).trans c17_b_1
                      have c18_b_2 : w18.cell? ⟨w1.heap.size + 1, 2, none⟩ = some (.int .i64 s1) := (hd18 _ _ q_b).trans c17_b_2
                      have c18_first_0 : w18.cell? ⟨w6.heap.size, 0, none⟩ = some (.int .i64 fn) := (hd18 _ _ q_first).trans c17_first_0
                      have c18_first_1 : w18.cell? ⟨w6.heap.size, 1, none⟩ = some (.int .i64 fd) := (hd18 _ _ q_first).trans c17_first_1
                      have c18_x_0 : w18.cell? ⟨w12.heap.size, 0, none⟩ = some (.int .i64 p1) := (hd18 _ _ q_x).trans c17_x_0
                      have c18_x_1 : w18.cell? ⟨w12.heap.size, 1, none⟩ = some (.int .i64 p2) := (hd18 _ _ q_x).trans c17_x_1
                      have c18_hx_0 : w18.cell? ⟨w13.heap.size, 0, none⟩ = some (.int .i64 e1) := (hd18 _ _ q_hx).trans c17_hx_0
                      have c18_hx_1 : w18.cell? ⟨w13.heap.size, 1, none⟩ = some (.int .i64 e2) := (hd18 _ _ q_hx).trans c17_hx_1
                      have c18_hy_0 : w18.cell? ⟨w14.heap.size, 0, none⟩ = some (.int .i64 e1) := (hd18 _ _ q_hy).trans c17_hy_0
                      have c18_hy_1 : w18.cell? ⟨w14.heap.size, 1, none⟩ = some (.int .i64 e2) := (hd18 _ _ q_hy).trans c17_hy_1
                      replace q_a : w1.heap.size < w18.heap.size := by omega
                      replace q_b : w1.heap.size + 1 < w18.heap.size := by omega
                      replace q_first : w6.heap.size < w18.heap.size := by omega
                      replace q_x : w12.heap.size < w18.heap.size := by omega
                      replace q_hx : w13.heap.size < w18.heap.size := by omega
                      replace q_hy : w14.heap.size < w18.heap.size := by omega
                      have R18_lt := Lib.hid (TRow.below R17_lt.out hb18)
                      clear R17_lt
                      have R18_lp := Lib.hid (TRow.below R17_lp.out hb18)
                      clear R17_lp
                      have BW18 : Below w.heap.size w w18 := BW17.trans (hb18.mono BW17.size)
                      have BX18 : Below w12.heap.size w12 w18 := BX17.trans (hb18.mono BX17.size)
                      clear BX17
                      clear hb18 hd18 c17_a_0 c17_a_1 c17_a_2 c17_b_0 c17_b_1 c17_b_2 c17_first_0 c17_first_1 c17_x_0 c17_x_1 c17_hx_0 c17_hx_1 c17_hy_0 c17_hy_1 BW17
                      obtain ⟨hdx, -⟩ := bcell BX18
                      have x3 := (hdx _ _ u2).trans v3
                      have x4 := (hdx _ _ u2).trans v4
                      have x2 : gl < w18.heap.size := by have := BX18.size; omega
                      clear hdx
                      have hk1 : IntKind.i64.wrap ((k : Int) + 1) = (k : Int) + 1 := by rw [IntKind.wrap_i64]; omega
                      have hc0 : ¬ cn = 0 := by omega
                      have hmod : ((k : Int) + 1).tmod cn = (m : Int) := by rw [HMOD.out, HMM.out]
                      have hml : (m : Int) < (LT.length : Int) := by omega
                      have hm0 : (0 : Int) ≤ (m : Int) := Int.natCast_nonneg _
                      have hwm : IntKind.i64.wrap (m : Int) = (m : Int) := by rw [IntKind.wrap_i64]; have := HCN.out; omega
                      go_wp2_with fail
                      refine wp_region_below (by kernel_rfl) (by kernel_rfl) ?_
                      (apply wpB_take (hw := rfl); (intro wq hq; obtain ⟨hcq, hfq⟩ := bcell hq; unfold atB; go_simp; exact ⟨rfl, rfl⟩); (rw [put_lit]; dsimp only [List.set]))
                      (apply wpB_take (hw := rfl); (intro wq hq; obtain ⟨hcq, hfq⟩ := bcell hq; unfold atB; go_simp; exact ⟨rfl, rfl⟩); (rw [put_lit]; dsimp only [List.set]))
                      (apply wpB_take (hw := rfl); (intro wq hq; obtain ⟨hcq, hfq⟩ := bcell hq; unfold atB; go_simp; exact ⟨rfl, rfl⟩); (rw [put_lit]; dsimp only [List.set]))
                      (apply wpB_take (hw := rfl); (intro wq hq; obtain ⟨hcq, hfq⟩ := bcell hq; unfold atB; go_simp; exact ⟨rfl, rfl⟩); (rw [put_lit]; dsimp only [List.set]))
                      (apply wpB_take (hw := rfl); (intro wq hq; obtain ⟨hcq, hfq⟩ := bcell hq; unfold atB; go_simp; exact ⟨rfl, rfl⟩); (rw [put_lit]; dsimp only [List.set]))
                      (apply wpB_take (hw := rfl); (intro wq hq; obtain ⟨hcq, hfq⟩ := bcell hq; unfold atB; go_simp; exact ⟨rfl, rfl⟩); (rw [put_lit]; dsimp only [List.set]))
                      (apply wpB_take (hw := rfl); (intro wq hq; obtain ⟨hcq, hfq⟩ := bcell hq; unfold atB; go_simp; exact ⟨rfl, rfl⟩); (rw [put_lit]; dsimp only [List.set]))
                      (apply wpB_take (hw := rfl); (intro wq hq; obtain ⟨hcq, hfq⟩ := bcell hq; unfold atB; go_simp; exact ⟨rfl, rfl⟩); (rw [put_lit]; dsimp only [List.set]))
                      (apply wpB_take (hw := rfl); (intro wq hq; obtain ⟨hcq, hfq⟩ := bcell hq; unfold atB; go_simp; exact ⟨rfl, rfl⟩); (rw [put_lit]; dsimp only [List.set]))
                      (apply wpB_take (hw := rfl); (intro wq hq; obtain ⟨hcq, hfq⟩ := bcell hq; unfold atB; go_simp; exact ⟨rfl, rfl⟩); (rw [put_lit]; dsimp only [List.set]))
                      (apply wpB_take (hw := rfl); (intro wq hq; obtain ⟨hcq, hfq⟩ := bcell hq; unfold atB; go_simp; exact ⟨rfl, rfl⟩); (rw [put_lit]; dsimp only [List.set]))
                      (apply wpB_take (hw := rfl); (intro wq hq; obtain ⟨hcq, hfq⟩ := bcell hq; unfold atB; go_simp; exact ⟨rfl, rfl⟩); (rw [put_lit]; dsimp only [List.set]))
                      (apply wpB_take (hw := rfl); (intro wq hq; obtain ⟨hcq, hfq⟩ := bcell hq; unfold atB; go_simp; exact ⟨rfl, rfl⟩); (rw [put_lit]; dsimp only [List.set]))
                      refine fun wx hbx => ?_
                      try simp only [Act.put, List.setIfInBounds_toArray, List.set_cons_zero, List.set_cons_succ]
                      have hbt := (hb12'.trans (BX18.mono hb12'.size)).trans (hbx.mono (hb12'.trans (BX18.mono hb12'.size)).size)
                      clear hmod hml
                      go_wp2_with fail
                      go_roundw
                      case rel => exact ⟨k + 1, by omega, by go_num, hbt⟩
                      case measure => simp [RowKit.intOf]; omega
                have Z5 := Lib.hid (fun W => (show Calls Try.prog 9 #[hv n1 d1 s1, hv n0 d0 s0] W (TurnsOut W LT true) from by have := implMeetTimes_any n1 d1 s1 n0 d0 s0 W; rw [F6'.out] at this; exact this))
                go_wp2_with fail
                refine (Z5.out _).mono ?_
                rintro e13 w13 ⟨v_back, rfl, hr13, hb13⟩
                obtain ⟨pa_back, pc_back, rfl, -⟩ := TRow.cells hr13
                have R13_back := Lib.hid hr13
                clear hr13
                obtain ⟨hc13, hf13⟩ := bcell hb13
                have hz13 := hb13.size
                (try simp only [World.size_alloc, World.size_setCell, World.size_drew] at hz13)
                have B13 : Below w12.heap.size w12 w13 := Below.trans (b := _) (by (repeat' (first | (with_reducible exact Below.refl _ _) | (with_reducible assumption) | (with_reducible refine Below.alloc ?_ ?_ _) | (with_reducible refine Below.drew ?_) | (with_reducible refine below_drewN ?_ _) | (with_reducible refine Below.setCell ?_ ?_ _) | (with_reducible refine below_call ?_ ?_ (by assumption)) | go_size))) (hb13.mono (by first | omega | (simp only [World.size_alloc, World.size_setCell, World.size_drew]; omega)))
                obtain ⟨hd13, -⟩ := bcell B13
                have c13_a_0 : w13.cell? ⟨w1.heap.size, 0, none⟩ = some (.int .i64 n0) := (hd13 _ _ q_a).trans c12_a_0
                have c13_a_1 : w13.cell? ⟨w1.heap.size, 1, none⟩ = some (.int .i64 d0) := (hd13 _ _ q_a).trans c12_a_1
                have c13_a_2 : w13.cell? ⟨w1.heap.size, 2, none⟩ = some (.int .i64 s0) := (hd13 _ _ q_a).trans c12_a_2
                have c13_b_0 : w13.cell? ⟨w1.heap.size + 1, 0, none⟩ = some (.int .i64 n1) := (hd13 _ _ q_b).trans c12_b_0
                have c13_b_1 : w13.cell? ⟨w1.heap.size + 1, 1, none⟩ = some (.int .i64 d1) := (hd13 _ _ q_b).trans c12_b_1
                have c13_b_2 : w13.cell? ⟨w1.heap.size + 1, 2, none⟩ = some (.int .i64 s1) := (hd13 _ _ q_b).trans c12_b_2
                have c13_first_0 : w13.cell? ⟨w6.heap.size, 0, none⟩ = some (.int .i64 fn) := (hd13 _ _ q_first).trans c12_first_0
                have c13_first_1 : w13.cell? ⟨w6.heap.size, 1, none⟩ = some (.int .i64 fd) := (hd13 _ _ q_first).trans c12_first_1
                replace q_a : w1.heap.size < w13.heap.size := by omega
                replace q_b : w1.heap.size + 1 < w13.heap.size := by omega
                replace q_first : w6.heap.size < w13.heap.size := by omega
                have R13_lt := Lib.hid (TRow.below R12_lt.out B13)
                clear R12_lt
                have R13_lp := Lib.hid (TRow.below R12_lp.out B13)
                clear R12_lp
                have BW13 : Below w.heap.size w w13 := BW12.trans (B13.mono BW12.size)
                have BX13 : Below w10.heap.size w10 w13 := BX12.trans (B13.mono BX12.size)
                clear BX12
                clear hc13 hf13 hb13 hd13 B13 c12_a_0 c12_a_1 c12_a_2 c12_b_0 c12_b_1 c12_b_2 c12_first_0 c12_first_1 BW12
                go_wp2_with fail
                refine (kTurns_same LT _ _ _ _ _ R13_back.out R13_lt.out HLT.out).mono ?_
                rintro e14 w14 ⟨rfl, hb14⟩
                obtain ⟨hc14, hf14⟩ := bcell hb14
                have hz14 := hb14.size
                (try simp only [World.size_alloc, World.size_setCell, World.size_drew] at hz14)
                have B14 : Below w13.heap.size w13 w14 := Below.trans (b := _) (by (repeat' (first | (with_reducible exact Below.refl _ _) | (with_reducible assumption) | (with_reducible refine Below.alloc ?_ ?_ _) | (with_reducible refine Below.drew ?_) | (with_reducible refine below_drewN ?_ _) | (with_reducible refine Below.setCell ?_ ?_ _) | (with_reducible refine below_call ?_ ?_ (by assumption)) | go_size))) (hb14.mono (by first | omega | (simp only [World.size_alloc, World.size_setCell, World.size_drew]; omega)))
                obtain ⟨hd14, -⟩ := bcell B14
                have c14_a_0 : w14.cell? ⟨w1.heap.size, 0, none⟩ = some (.int .i64 n0) := (hd14 _ _ q_a).trans c13_a_0
                have c14_a_1 : w14.cell? ⟨w1.heap.size, 1, none⟩ = some (.int .i64 d0) := (hd14 _ _ q_a).trans c13_a_1
                have c14_a_2 : w14.cell? ⟨w1.heap.size, 2, none⟩ = some (.int .i64 s0) := (hd14 _ _ q_a).trans c13_a_2
                have c14_b_0 : w14.cell? ⟨w1.heap.size + 1, 0, none⟩ = some (.int .i64 n1) := (hd14 _ _ q_b).trans c13_b_0
                have c14_b_1 : w14.cell? ⟨w1.heap.size + 1, 1, none⟩ = some (.int .i64 d1) := (hd14 _ _ q_b).trans c13_b_1
                have c14_b_2 : w14.cell? ⟨w1.heap.size + 1, 2, none⟩ = some (.int .i64 s1) := (hd14 _ _ q_b).trans c13_b_2
                have c14_first_0 : w14.cell? ⟨w6.heap.size, 0, none⟩ = some (.int .i64 fn) := (hd14 _ _ q_first).trans c13_first_0
                have c14_first_1 : w14.cell? ⟨w6.heap.size, 1, none⟩ = some (.int .i64 fd) := (hd14 _ _ q_first).trans c13_first_1
                replace q_a : w1.heap.size < w14.heap.size := by omega
                replace q_b : w1.heap.size + 1 < w14.heap.size := by omega
                replace q_first : w6.heap.size < w14.heap.size := by omega
                have R14_lt := Lib.hid (TRow.below R13_lt.out B14)
                clear R13_lt
                have R14_lp := Lib.hid (TRow.below R13_lp.out B14)
                clear R13_lp
                have R14_back := Lib.hid (TRow.below R13_back.out B14)
                clear R13_back
                have BW14 : Below w.heap.size w w14 := BW13.trans (B14.mono BW13.size)
                have BX14 : Below w10.heap.size w10 w14 := BX13.trans (B14.mono BX13.size)
                clear BX13
                clear hc14 hf14 hb14 hd14 B14 c13_a_0 c13_a_1 c13_a_2 c13_b_0 c13_b_1 c13_b_2 c13_first_0 c13_first_1 BW13
                have hrelB := BX14
                go_wp2_with fail
                go_meet
                case rel => exact hrelB
      case rest =>
        have hb11 := hcut
        obtain ⟨w11, hw11⟩ : ∃ x : World, x = wc := ⟨_, rfl⟩
        subst hw11
        obtain ⟨hc11, hf11⟩ := bcell hb11
        have hz11 := hb11.size
        (try simp only [World.size_alloc, World.size_setCell, World.size_drew] at hz11)
        have B11 : Below w10.heap.size w10 w11 := Below.trans (b := _) (by (repeat' (first | (with_reducible exact Below.refl _ _) | (with_reducible assumption) | (with_reducible refine Below.alloc ?_ ?_ _) | (with_reducible refine Below.drew ?_) | (with_reducible refine below_drewN ?_ _) | (with_reducible refine Below.setCell ?_ ?_ _) | (with_reducible refine below_call ?_ ?_ (by assumption)) | go_size))) (hb11.mono (by first | omega | (simp only [World.size_alloc, World.size_setCell, World.size_drew]; omega)))
        obtain ⟨hd11, -⟩ := bcell B11
        have c11_a_0 : w11.cell? ⟨w1.heap.size, 0, none⟩ = some (.int .i64 n0) := (hd11 _ _ q_a).trans c10_a_0
        have c11_a_1 : w11.cell? ⟨w1.heap.size, 1, none⟩ = some (.int .i64 d0) := (hd11 _ _ q_a).trans c10_a_1
        have c11_a_2 : w11.cell? ⟨w1.heap.size, 2, none⟩ = some (.int .i64 s0) := (hd11 _ _ q_a).trans c10_a_2
        have c11_b_0 : w11.cell? ⟨w1.heap.size + 1, 0, none⟩ = some (.int .i64 n1) := (hd11 _ _ q_b).trans c10_b_0
        have c11_b_1 : w11.cell? ⟨w1.heap.size + 1, 1, none⟩ = some (.int .i64 d1) := (hd11 _ _ q_b).trans c10_b_1
        have c11_b_2 : w11.cell? ⟨w1.heap.size + 1, 2, none⟩ = some (.int .i64 s1) := (hd11 _ _ q_b).trans c10_b_2
        have c11_first_0 : w11.cell? ⟨w6.heap.size, 0, none⟩ = some (.int .i64 fn) := (hd11 _ _ q_first).trans c10_first_0
        have c11_first_1 : w11.cell? ⟨w6.heap.size, 1, none⟩ = some (.int .i64 fd) := (hd11 _ _ q_first).trans c10_first_1
        replace q_a : w1.heap.size < w11.heap.size := by omega
        replace q_b : w1.heap.size + 1 < w11.heap.size := by omega
        replace q_first : w6.heap.size < w11.heap.size := by omega
        have R11_lt := Lib.hid (TRow.below R10_lt.out B11)
        clear R10_lt
        have R11_lp := Lib.hid (TRow.below R10_lp.out B11)
        clear R10_lp
        have BW11 : Below w.heap.size w w11 := BW10.trans (B11.mono BW10.size)
        clear hc11 hf11 hb11 hd11 B11 c10_a_0 c10_a_1 c10_a_2 c10_b_0 c10_b_1 c10_b_2 c10_first_0 c10_first_1 BW10
        go_upto_region 31 with fail
        go_cut [284] from 999 to 999 (fun x wx => x = .bool false ∧ Below w11.heap.size w11 wx)
        case first =>
          as_aux_lemma =>
            cases po
            · go_wp2_with fail
              go_meet
              case rel => exact ⟨rfl, Below.refl _ _⟩
            · obtain ⟨hok, hr, h1, hle, -⟩ := F7.out rfl
              subst hok
              obtain ⟨-, -, hl, -⟩ := F2.out rfl
              obtain ⟨-, hcn⟩ := F1.out rfl
              have HR := Lib.hid hr
              have hg1 : ¬ (LP.length : Int) < 1 := by omega
              have hg2 : ¬ cn < (LP.length : Int) := by rw [hcn, ← hl]; omega
              have hd1 : decide ((LP.length : Int) < 1) = false := decide_eq_false hg1
              have hd2 : decide (cn < (LP.length : Int)) = false := decide_eq_false hg2
              have hlb : (LP.length : Int) ≤ 1000000 := by have := HLP.out; omega
              clear hr h1 hle hl hcn hg1 hg2
              go_wp2_with fail
              refine (kRises_yes LP _ _ _ R11_lp.out HLP.out HR.out).mono ?_
              rintro e12 w12 ⟨rfl, hb12⟩
              obtain ⟨hc12, hf12⟩ := bcell hb12
              have hz12 := hb12.size
              (try simp only [World.size_alloc, World.size_setCell, World.size_drew] at hz12)
              have B12 : Below w11.heap.size w11 w12 := Below.trans (b := _) (by (repeat' (first | (with_reducible exact Below.refl _ _) | (with_reducible assumption) | (with_reducible refine Below.alloc ?_ ?_ _) | (with_reducible refine Below.drew ?_) | (with_reducible refine below_drewN ?_ _) | (with_reducible refine Below.setCell ?_ ?_ _) | (with_reducible refine below_call ?_ ?_ (by assumption)) | go_size))) (hb12.mono (by first | omega | (simp only [World.size_alloc, World.size_setCell, World.size_drew]; omega)))
              obtain ⟨hd12, -⟩ := bcell B12
              have c12_a_0 : w12.cell? ⟨w1.heap.size, 0, none⟩ = some (.int .i64 n0) := (hd12 _ _ q_a).trans c11_a_0
              have c12_a_1 : w12.cell? ⟨w1.heap.size, 1, none⟩ = some (.int .i64 d0) := (hd12 _ _ q_a).trans c11_a_1
              have c12_a_2 : w12.cell? ⟨w1.heap.size, 2, none⟩ = some (.int .i64 s0) := (hd12 _ _ q_a).trans c11_a_2
              have c12_b_0 : w12.cell? ⟨w1.heap.size + 1, 0, none⟩ = some (.int .i64 n1) := (hd12 _ _ q_b).trans c11_b_0
              have c12_b_1 : w12.cell? ⟨w1.heap.size + 1, 1, none⟩ = some (.int .i64 d1) := (hd12 _ _ q_b).trans c11_b_1
              have c12_b_2 : w12.cell? ⟨w1.heap.size + 1, 2, none⟩ = some (.int .i64 s1) := (hd12 _ _ q_b).trans c11_b_2
              have c12_first_0 : w12.cell? ⟨w6.heap.size, 0, none⟩ = some (.int .i64 fn) := (hd12 _ _ q_first).trans c11_first_0
              have c12_first_1 : w12.cell? ⟨w6.heap.size, 1, none⟩ = some (.int .i64 fd) := (hd12 _ _ q_first).trans c11_first_1
              replace q_a : w1.heap.size < w12.heap.size := by omega
              replace q_b : w1.heap.size + 1 < w12.heap.size := by omega
              replace q_first : w6.heap.size < w12.heap.size := by omega
              have R12_lt := Lib.hid (TRow.below R11_lt.out B12)
              clear R11_lt
              have R12_lp := Lib.hid (TRow.below R11_lp.out B12)
              clear R11_lp
              have BW12 : Below w.heap.size w w12 := BW11.trans (B12.mono BW11.size)
              have BX12 : Below w11.heap.size w11 w12 := B12
              clear hc12 hf12 hb12 hd12 B12 c11_a_0 c11_a_1 c11_a_2 c11_b_0 c11_b_1 c11_b_2 c11_first_0 c11_first_1 BW11
              go_wp2_with fail
              go_meet
              case rel => exact ⟨rfl, BX12⟩
        case rest =>
          obtain ⟨rfl, hb12⟩ := hcut
          obtain ⟨w12, hw12⟩ : ∃ x : World, x = wc := ⟨_, rfl⟩
          subst hw12
          obtain ⟨hc12, hf12⟩ := bcell hb12
          have hz12 := hb12.size
          (try simp only [World.size_alloc, World.size_setCell, World.size_drew] at hz12)
          have B12 : Below w11.heap.size w11 w12 := Below.trans (b := _) (by (repeat' (first | (with_reducible exact Below.refl _ _) | (with_reducible assumption) | (with_reducible refine Below.alloc ?_ ?_ _) | (with_reducible refine Below.drew ?_) | (with_reducible refine below_drewN ?_ _) | (with_reducible refine Below.setCell ?_ ?_ _) | (with_reducible refine below_call ?_ ?_ (by assumption)) | go_size))) (hb12.mono (by first | omega | (simp only [World.size_alloc, World.size_setCell, World.size_drew]; omega)))
          obtain ⟨hd12, -⟩ := bcell B12
          have c12_a_0 : w12.cell? ⟨w1.heap.size, 0, none⟩ = some (.int .i64 n0) := (hd12 _ _ q_a).trans c11_a_0
          have c12_a_1 : w12.cell? ⟨w1.heap.size, 1, none⟩ = some (.int .i64 d0) := (hd12 _ _ q_a).trans c11_a_1
          have c12_a_2 : w12.cell? ⟨w1.heap.size, 2, none⟩ = some (.int .i64 s0) := (hd12 _ _ q_a).trans c11_a_2
          have c12_b_0 : w12.cell? ⟨w1.heap.size + 1, 0, none⟩ = some (.int .i64 n1) := (hd12 _ _ q_b).trans c11_b_0
          have c12_b_1 : w12.cell? ⟨w1.heap.size + 1, 1, none⟩ = some (.int .i64 d1) := (hd12 _ _ q_b).trans c11_b_1
          have c12_b_2 : w12.cell? ⟨w1.heap.size + 1, 2, none⟩ = some (.int .i64 s1) := (hd12 _ _ q_b).trans c11_b_2
          have c12_first_0 : w12.cell? ⟨w6.heap.size, 0, none⟩ = some (.int .i64 fn) := (hd12 _ _ q_first).trans c11_first_0
          have c12_first_1 : w12.cell? ⟨w6.heap.size, 1, none⟩ = some (.int .i64 fd) := (hd12 _ _ q_first).trans c11_first_1
          replace q_a : w1.heap.size < w12.heap.size := by omega
          replace q_b : w1.heap.size + 1 < w12.heap.size := by omega
          replace q_first : w6.heap.size < w12.heap.size := by omega
          have R12_lt := Lib.hid (TRow.below R11_lt.out B12)
          clear R11_lt
          have R12_lp := Lib.hid (TRow.below R11_lp.out B12)
          clear R11_lp
          have BW12 : Below w.heap.size w w12 := BW11.trans (B12.mono BW11.size)
          clear hc12 hf12 hb12 hd12 B12 c11_a_0 c11_a_1 c11_a_2 c11_b_0 c11_b_1 c11_b_2 c11_first_0 c11_first_1 BW11
          clear R12_lt
          clear R12_lp
          clear q_a c12_a_0 c12_a_1 c12_a_2
          clear q_b c12_b_0 c12_b_1 c12_b_2
          clear q_first c12_first_0 c12_first_1
          go_wp2_with fail
          refine (DrawNextMeet_any L2 p2 L2.length q2 rfl hlen2 _ (BIn.below HB2.out (by (repeat' (first | (with_reducible exact Below.refl _ _) | (with_reducible assumption) | (with_reducible refine Below.alloc ?_ ?_ _) | (with_reducible refine Below.drew ?_) | (with_reducible refine below_drewN ?_ _) | (with_reducible refine Below.setCell ?_ ?_ _) | (with_reducible refine below_call ?_ ?_ (by assumption)) | go_size))))).mono ?_
          rintro e13 w13 ⟨n2, d2, s2, n3, d3, s3, n4, d4, rfl, ⟨kn2, kd2, ks2, kn3, kd3, ks3, kn4, kd4⟩, hb13⟩
          obtain ⟨hc13, hf13⟩ := bcell hb13
          have hz13 := hb13.size
          (try simp only [World.size_alloc, World.size_setCell, World.size_drew] at hz13)
          have B13 : Below w12.heap.size w12 w13 := Below.trans (b := _) (by (repeat' (first | (with_reducible exact Below.refl _ _) | (with_reducible assumption) | (with_reducible refine Below.alloc ?_ ?_ _) | (with_reducible refine Below.drew ?_) | (with_reducible refine below_drewN ?_ _) | (with_reducible refine Below.setCell ?_ ?_ _) | (with_reducible refine below_call ?_ ?_ (by assumption)) | go_size))) (hb13.mono (by first | omega | (simp only [World.size_alloc, World.size_setCell, World.size_drew]; omega)))
          obtain ⟨hd13, -⟩ := bcell B13
          have BW13 : Below w.heap.size w w13 := BW12.trans (B13.mono BW12.size)
          clear hc13 hf13 hb13 hd13 B13  BW12
          obtain ⟨L2, mo, h2⟩ : ∃ l o, aheadR n2 d2 s2 n3 d3 s3 0 1 = (l, o) := ⟨_, _, rfl⟩
          obtain ⟨nx, ny, no, hN⟩ : ∃ x y o, nextR (aheadR n2 d2 s2 n3 d3 s3 0 1) n4 d4 = (x, y, o) := ⟨_, _, _, rfl⟩
          have C9 := Lib.hid (fun W => (show Calls Try.prog 24 #[hv n2 d2 s2, hv n3 d3 s3, tv n4 d4] W fun e w' => e = .returned (rv (nx, ny, no)) ∧ Below W.heap.size W w' from by have := implNextMeet_any n2 d2 s2 n3 d3 s3 n4 d4 W; rw [hN] at this; exact this))
          have C10 := Lib.hid (fun W => (show Calls Try.prog 26 #[hv n2 d2 s2, hv n3 d3 s3, tv n4 d4] W fun e w' => e = .returned (rv (nx, ny, no)) ∧ Below W.heap.size W w' from by have := specNextMeet_any n2 d2 s2 n3 d3 s3 n4 d4 kd2 kd3 kd4 W; rw [hN] at this; exact this))
          have C11 := Lib.hid (fun W => (show Calls Try.prog 9 #[hv n2 d2 s2, hv n3 d3 s3] W (TurnsOut W L2 mo) from by have := implMeetTimes_any n2 d2 s2 n3 d3 s3 W; rw [h2] at this; exact this))
          have HL2 := Lib.hid (show L2.length ≤ 1000000 from by have := aheadR_len n2 d2 s2 n3 d3 s3 0 1; rw [h2] at this; exact this)
          have F8 := Lib.hid (fun (e : no = true) => (show mo = true ∧ (L2.length : Int) ≤ 800 ∧ goodB n4 d4 = true ∧ goodB nx ny = true ∧ hasT L2 nx ny = true ∧ AllGood L2 ∧ (∀ z ∈ L2, n4 * z.2 < z.1 * d4 → n4 * ny < nx * d4 ∧ nx * z.2 ≤ z.1 * ny) from by
            have hmo : mo = true := by
              rw [e] at hN
              unfold nextR at hN
              rw [h2] at hN
              cases mo
              · simp [fail3] at hN
              · rfl
            subst hmo
            obtain ⟨-, a2, a3, -, a5, a6, -, h1⟩ := ahead_all h2
            obtain ⟨b1, b2, b3⟩ := nextM_any h2 a5 a6 h1 (by rw [hN, e] : nextR (aheadR n2 d2 s2 n3 d3 s3 0 1) n4 d4 = (nx, ny, true))
            exact ⟨rfl, by split at a3 <;> omega, b1, a6 _ b2, hasT_in b2, a6, b3⟩))
          clear h2 hN
          go_wp2_with fail
          refine (C9.out _).mono ?_
          rintro e14 w14 ⟨rfl, hb14⟩
          obtain ⟨hc14, hf14⟩ := bcell hb14
          have hz14 := hb14.size
          (try simp only [World.size_alloc, World.size_setCell, World.size_drew] at hz14)
          have B14 : Below w13.heap.size w13 w14 := Below.trans (b := _) (by (repeat' (first | (with_reducible exact Below.refl _ _) | (with_reducible assumption) | (with_reducible refine Below.alloc ?_ ?_ _) | (with_reducible refine Below.drew ?_) | (with_reducible refine below_drewN ?_ _) | (with_reducible refine Below.setCell ?_ ?_ _) | (with_reducible refine below_call ?_ ?_ (by assumption)) | go_size))) (hb14.mono (by first | omega | (simp only [World.size_alloc, World.size_setCell, World.size_drew]; omega)))
          obtain ⟨hd14, -⟩ := bcell B14
          have c14_c_0 : w14.cell? ⟨w13.heap.size, 0, none⟩ = some (.int .i64 n2) := (hc14 _ _ (by go_size)).trans (by go_simp)
          have c14_c_1 : w14.cell? ⟨w13.heap.size, 1, none⟩ = some (.int .i64 d2) := (hc14 _ _ (by go_size)).trans (by go_simp)
          have c14_c_2 : w14.cell? ⟨w13.heap.size, 2, none⟩ = some (.int .i64 s2) := (hc14 _ _ (by go_size)).trans (by go_simp)
          have q_c : w13.heap.size < w14.heap.size := by omega
          have c14_d_0 : w14.cell? ⟨w13.heap.size + 1, 0, none⟩ = some (.int .i64 n3) := (hc14 _ _ (by go_size)).trans (by go_simp)
          have c14_d_1 : w14.cell? ⟨w13.heap.size + 1, 1, none⟩ = some (.int .i64 d3) := (hc14 _ _ (by go_size)).trans (by go_simp)
          have c14_d_2 : w14.cell? ⟨w13.heap.size + 1, 2, none⟩ = some (.int .i64 s3) := (hc14 _ _ (by go_size)).trans (by go_simp)
          have q_d : w13.heap.size + 1 < w14.heap.size := by omega
          have c14_t_0 : w14.cell? ⟨w13.heap.size + 1 + 1, 0, none⟩ = some (.int .i64 n4) := (hc14 _ _ (by go_size)).trans (by go_simp)
          have c14_t_1 : w14.cell? ⟨w13.heap.size + 1 + 1, 1, none⟩ = some (.int .i64 d4) := (hc14 _ _ (by go_size)).trans (by go_simp)
          have q_t : w13.heap.size + 1 + 1 < w14.heap.size := by omega
          have BW14 : Below w.heap.size w w14 := BW13.trans (B14.mono BW13.size)
          clear hc14 hf14 hb14 hd14 B14  BW13
          go_wp2_with fail
          refine (C10.out _).mono ?_
          rintro e15 w15 ⟨rfl, hb15⟩
          obtain ⟨hc15, hf15⟩ := bcell hb15
          have hz15 := hb15.size
          (try simp only [World.size_alloc, World.size_setCell, World.size_drew] at hz15)
          have B15 : Below w14.heap.size w14 w15 := Below.trans (b := _) (by (repeat' (first | (with_reducible exact Below.refl _ _) | (with_reducible assumption) | (with_reducible refine Below.alloc ?_ ?_ _) | (with_reducible refine Below.drew ?_) | (with_reducible refine below_drewN ?_ _) | (with_reducible refine Below.setCell ?_ ?_ _) | (with_reducible refine below_call ?_ ?_ (by assumption)) | go_size))) (hb15.mono (by first | omega | (simp only [World.size_alloc, World.size_setCell, World.size_drew]; omega)))
          obtain ⟨hd15, -⟩ := bcell B15
          have c15_c_0 : w15.cell? ⟨w13.heap.size, 0, none⟩ = some (.int .i64 n2) := (hd15 _ _ q_c).trans c14_c_0
          have c15_c_1 : w15.cell? ⟨w13.heap.size, 1, none⟩ = some (.int .i64 d2) := (hd15 _ _ q_c).trans c14_c_1
          have c15_c_2 : w15.cell? ⟨w13.heap.size, 2, none⟩ = some (.int .i64 s2) := (hd15 _ _ q_c).trans c14_c_2
          have c15_d_0 : w15.cell? ⟨w13.heap.size + 1, 0, none⟩ = some (.int .i64 n3) := (hd15 _ _ q_d).trans c14_d_0
          have c15_d_1 : w15.cell? ⟨w13.heap.size + 1, 1, none⟩ = some (.int .i64 d3) := (hd15 _ _ q_d).trans c14_d_1
          have c15_d_2 : w15.cell? ⟨w13.heap.size + 1, 2, none⟩ = some (.int .i64 s3) := (hd15 _ _ q_d).trans c14_d_2
          have c15_t_0 : w15.cell? ⟨w13.heap.size + 1 + 1, 0, none⟩ = some (.int .i64 n4) := (hd15 _ _ q_t).trans c14_t_0
          have c15_t_1 : w15.cell? ⟨w13.heap.size + 1 + 1, 1, none⟩ = some (.int .i64 d4) := (hd15 _ _ q_t).trans c14_t_1
          replace q_c : w13.heap.size < w15.heap.size := by omega
          replace q_d : w13.heap.size + 1 < w15.heap.size := by omega
          replace q_t : w13.heap.size + 1 + 1 < w15.heap.size := by omega
          have c15_next_0 : w15.cell? ⟨w14.heap.size, 0, none⟩ = some (.int .i64 nx) := (hc15 _ _ (by go_size)).trans (by go_simp)
          have c15_next_1 : w15.cell? ⟨w14.heap.size, 1, none⟩ = some (.int .i64 ny) := (hc15 _ _ (by go_size)).trans (by go_simp)
          have q_next : w14.heap.size < w15.heap.size := by omega
          have BW15 : Below w.heap.size w w15 := BW14.trans (B15.mono BW14.size)
          clear hc15 hf15 hb15 hd15 B15 c14_c_0 c14_c_1 c14_c_2 c14_d_0 c14_d_1 c14_d_2 c14_t_0 c14_t_1 BW14
          go_upto_if 313 with fail
          have hb16 : Below w15.heap.size w15 (w15.alloc (Obj.cells #[.int .i64 nx, .int .i64 ny] 25)) := by (repeat' (first | (with_reducible exact Below.refl _ _) | (with_reducible assumption) | (with_reducible refine Below.alloc ?_ ?_ _) | (with_reducible refine Below.drew ?_) | (with_reducible refine below_drewN ?_ _) | (with_reducible refine Below.setCell ?_ ?_ _) | (with_reducible refine below_call ?_ ?_ (by assumption)) | go_size))
          have c16_due2_0 : (w15.alloc (Obj.cells #[.int .i64 nx, .int .i64 ny] 25)).cell? ⟨w15.heap.size, 0, none⟩ = some (.int .i64 nx) := by go_simp
          have c16_due2_1 : (w15.alloc (Obj.cells #[.int .i64 nx, .int .i64 ny] 25)).cell? ⟨w15.heap.size, 1, none⟩ = some (.int .i64 ny) := by go_simp
          have q_due2 : w15.heap.size < (w15.alloc (Obj.cells #[.int .i64 nx, .int .i64 ny] 25)).heap.size := by go_size
          generalize (w15.alloc (Obj.cells #[.int .i64 nx, .int .i64 ny] 25)) = w16 at *
          obtain ⟨hd16, -⟩ := bcell hb16
          have hz16 := hb16.size
          have c16_c_0 : w16.cell? ⟨w13.heap.size, 0, none⟩ = some (.int .i64 n2) := (hd16 _ _ q_c).trans c15_c_0
          have c16_c_1 : w16.cell? ⟨w13.heap.size, 1, none⟩ = some (.int .i64 d2) := (hd16 _ _ q_c).trans c15_c_1
          have c16_c_2 : w16.cell? ⟨w13.heap.size, 2, none⟩ = some (.int .i64 s2) := (hd16 _ _ q_c).trans c15_c_2
          have c16_d_0 : w16.cell? ⟨w13.heap.size + 1, 0, none⟩ = some (.int .i64 n3) := (hd16 _ _ q_d).trans c15_d_0
          have c16_d_1 : w16.cell? ⟨w13.heap.size + 1, 1, none⟩ = some (.int .i64 d3) := (hd16 _ _ q_d).trans c15_d_1
          have c16_d_2 : w16.cell? ⟨w13.heap.size + 1, 2, none⟩ = some (.int .i64 s3) := (hd16 _ _ q_d).trans c15_d_2
          have c16_t_0 : w16.cell? ⟨w13.heap.size + 1 + 1, 0, none⟩ = some (.int .i64 n4) := (hd16 _ _ q_t).trans c15_t_0
          have c16_t_1 : w16.cell? ⟨w13.heap.size + 1 + 1, 1, none⟩ = some (.int .i64 d4) := (hd16 _ _ q_t).trans c15_t_1
          have c16_next_0 : w16.cell? ⟨w14.heap.size, 0, none⟩ = some (.int .i64 nx) := (hd16 _ _ q_next).trans c15_next_0
          have c16_next_1 : w16.cell? ⟨w14.heap.size, 1, none⟩ = some (.int .i64 ny) := (hd16 _ _ q_next).trans c15_next_1
          replace q_c : w13.heap.size < w16.heap.size := by omega
          replace q_d : w13.heap.size + 1 < w16.heap.size := by omega
          replace q_t : w13.heap.size + 1 + 1 < w16.heap.size := by omega
          replace q_next : w14.heap.size < w16.heap.size := by omega
          have BW16 : Below w.heap.size w w16 := BW15.trans (hb16.mono BW15.size)
          clear hb16 hd16 c15_c_0 c15_c_1 c15_c_2 c15_d_0 c15_d_1 c15_d_2 c15_t_0 c15_t_1 c15_next_0 c15_next_1 BW15
          go_cut [] from 999 to 999 (fun wx => Below w16.heap.size w16 wx)
          case first =>
            as_aux_lemma =>
              cases no
              · go_wp2_with fail
                go_meet
                case rel => exact Below.refl _ _
              · obtain ⟨hmo, hlen, hgt, hgn, hin, hga, hall⟩ := F8.out rfl
                subst hmo
                have HIN := Lib.hid hin
                have HA := Lib.hid hall
                have HG := Lib.hid hga
                obtain ⟨t1, t2, t3, t4⟩ := goodB_bd hgt
                obtain ⟨y1, y2, y3, y4⟩ := goodB_bd hgn
                obtain ⟨q1, q2⟩ := mulb y3 y4 (show 0 ≤ d4 by omega) t2
                obtain ⟨q3, q4⟩ := mulb t3 t4 (show 0 ≤ ny by omega) y2
                have hw1 : IntKind.i64.wrap (nx * d4) = nx * d4 := by rw [IntKind.wrap_i64]; omega
                have hw2 : IntKind.i64.wrap (n4 * ny) = n4 * ny := by rw [IntKind.wrap_i64]; omega
                clear hin hall hga hgt hgn
                go_wp2_with fail
                refine (C11.out _).mono ?_
                rintro e17 w17 ⟨v_l2, rfl, hr17, hb17⟩
                obtain ⟨pa_l2, pc_l2, rfl, -⟩ := TRow.cells hr17
                have R17_l2 := Lib.hid hr17
                clear hr17
                obtain ⟨hc17, hf17⟩ := bcell hb17
                have hz17 := hb17.size
                (try simp only [World.size_alloc, World.size_setCell, World.size_drew] at hz17)
                have B17 : Below w16.heap.size w16 w17 := Below.trans (b := _) (by (repeat' (first | (with_reducible exact Below.refl _ _) | (with_reducible assumption) | (with_reducible refine Below.alloc ?_ ?_ _) | (with_reducible refine Below.drew ?_) | (with_reducible refine below_drewN ?_ _) | (with_reducible refine Below.setCell ?_ ?_ _) | (with_reducible refine below_call ?_ ?_ (by assumption)) | go_size))) (hb17.mono (by first | omega | (simp only [World.size_alloc, World.size_setCell, World.size_drew]; omega)))
                obtain ⟨hd17, -⟩ := bcell B17
                have c17_c_0 : w17.cell? ⟨w13.heap.size, 0, none⟩ = some (.int .i64 n2) := (hd17 _ _ q_c).trans c16_c_0
                have c17_c_1 : w17.cell? ⟨w13.heap.size, 1, none⟩ = some (.int .i64 d2) := (hd17 _ _ q_c).trans c16_c_1
                have c17_c_2 : w17.cell? ⟨w13.heap.size, 2, none⟩ = some (.int .i64 s2) := (hd17 _ _ q_c).trans c16_c_2
                have c17_d_0 : w17.cell? ⟨w13.heap.size + 1, 0, none⟩ = some (.int .i64 n3) := (hd17 _ _ q_d).trans c16_d_0
                have c17_d_1 : w17.cell? ⟨w13.heap.size + 1, 1, none⟩ = some (.int .i64 d3) := (hd17 _ _ q_d).trans c16_d_1
                have c17_d_2 : w17.cell? ⟨w13.heap.size + 1, 2, none⟩ = some (.int .i64 s3) := (hd17 _ _ q_d).trans c16_d_2
                have c17_t_0 : w17.cell? ⟨w13.heap.size + 1 + 1, 0, none⟩ = some (.int .i64 n4) := (hd17 _ _ q_t).trans c16_t_0
                have c17_t_1 : w17.cell? ⟨w13.heap.size + 1 + 1, 1, none⟩ = some (.int .i64 d4) := (hd17 _ _ q_t).trans c16_t_1
                have c17_next_0 : w17.cell? ⟨w14.heap.size, 0, none⟩ = some (.int .i64 nx) := (hd17 _ _ q_next).trans c16_next_0
                have c17_next_1 : w17.cell? ⟨w14.heap.size, 1, none⟩ = some (.int .i64 ny) := (hd17 _ _ q_next).trans c16_next_1
                have c17_due2_0 : w17.cell? ⟨w15.heap.size, 0, none⟩ = some (.int .i64 nx) := (hd17 _ _ q_due2).trans c16_due2_0
                have c17_due2_1 : w17.cell? ⟨w15.heap.size, 1, none⟩ = some (.int .i64 ny) := (hd17 _ _ q_due2).trans c16_due2_1
                replace q_c : w13.heap.size < w17.heap.size := by omega
                replace q_d : w13.heap.size + 1 < w17.heap.size := by omega
                replace q_t : w13.heap.size + 1 + 1 < w17.heap.size := by omega
                replace q_next : w14.heap.size < w17.heap.size := by omega
                replace q_due2 : w15.heap.size < w17.heap.size := by omega
                have BW17 : Below w.heap.size w w17 := BW16.trans (B17.mono BW16.size)
                have BX17 : Below w16.heap.size w16 w17 := B17
                clear hc17 hf17 hb17 hd17 B17 c16_c_0 c16_c_1 c16_c_2 c16_d_0 c16_d_1 c16_d_2 c16_t_0 c16_t_1 c16_next_0 c16_next_1 c16_due2_0 c16_due2_1 BW16
                go_wp2_with fail
                refine (kIn_is L2 _ _ _ _ _ HIN.out R17_l2.out HL2.out).mono ?_
                rintro e18 w18 ⟨rfl, hb18⟩
                obtain ⟨hc18, hf18⟩ := bcell hb18
                have hz18 := hb18.size
                (try simp only [World.size_alloc, World.size_setCell, World.size_drew] at hz18)
                have B18 : Below w17.heap.size w17 w18 := Below.trans (b := _) (by (repeat' (first | (with_reducible exact Below.refl _ _) | (with_reducible assumption) | (with_reducible refine Below.alloc ?_ ?_ _) | (with_reducible refine Below.drew ?_) | (with_reducible refine below_drewN ?_ _) | (with_reducible refine Below.setCell ?_ ?_ _) | (with_reducible refine below_call ?_ ?_ (by assumption)) | go_size))) (hb18.mono (by first | omega | (simp only [World.size_alloc, World.size_setCell, World.size_drew]; omega)))
                obtain ⟨hd18, -⟩ := bcell B18
                have c18_c_0 : w18.cell? ⟨w13.heap.size, 0, none⟩ = some (.int .i64 n2) := (hd18 _ _ q_c).trans c17_c_0
                have c18_c_1 : w18.cell? ⟨w13.heap.size, 1, none⟩ = some (.int .i64 d2) := (hd18 _ _ q_c).trans c17_c_1
                have c18_c_2 : w18.cell? ⟨w13.heap.size, 2, none⟩ = some (.int .i64 s2) := (hd18 _ _ q_c).trans c17_c_2
                have c18_d_0 : w18.cell? ⟨w13.heap.size + 1, 0, none⟩ = some (.int .i64 n3) := (hd18 _ _ q_d).trans c17_d_0
                have c18_d_1 : w18.cell? ⟨w13.heap.size + 1, 1, none⟩ = some (.int .i64 d3) := (hd18 _ _ q_d).trans c17_d_1
                have c18_d_2 : w18.cell? ⟨w13.heap.size + 1, 2, none⟩ = some (.int .i64 s3) := (hd18 _ _ q_d).trans c17_d_2
                have c18_t_0 : w18.cell? ⟨w13.heap.size + 1 + 1, 0, none⟩ = some (.int .i64 n4) := (hd18 _ _ q_t).trans c17_t_0
                have c18_t_1 : w18.cell? ⟨w13.heap.size + 1 + 1, 1, none⟩ = some (.int .i64 d4) := (hd18 _ _ q_t).trans c17_t_1
                have c18_next_0 : w18.cell? ⟨w14.heap.size, 0, none⟩ = some (.int .i64 nx) := (hd18 _ _ q_next).trans c17_next_0
                have c18_next_1 : w18.cell? ⟨w14.heap.size, 1, none⟩ = some (.int .i64 ny) := (hd18 _ _ q_next).trans c17_next_1
                have c18_due2_0 : w18.cell? ⟨w15.heap.size, 0, none⟩ = some (.int .i64 nx) := (hd18 _ _ q_due2).trans c17_due2_0
                have c18_due2_1 : w18.cell? ⟨w15.heap.size, 1, none⟩ = some (.int .i64 ny) := (hd18 _ _ q_due2).trans c17_due2_1
                replace q_c : w13.heap.size < w18.heap.size := by omega
                replace q_d : w13.heap.size + 1 < w18.heap.size := by omega
                replace q_t : w13.heap.size + 1 + 1 < w18.heap.size := by omega
                replace q_next : w14.heap.size < w18.heap.size := by omega
                replace q_due2 : w15.heap.size < w18.heap.size := by omega
                have R18_l2 := Lib.hid (TRow.below R17_l2.out B18)
                clear R17_l2
                have BW18 : Below w.heap.size w w18 := BW17.trans (B18.mono BW17.size)
                have BX18 : Below w16.heap.size w16 w18 := BX17.trans (B18.mono BX17.size)
                clear BX17
                clear hc18 hf18 hb18 hd18 B18 c17_c_0 c17_c_1 c17_c_2 c17_d_0 c17_d_1 c17_d_2 c17_t_0 c17_t_1 c17_next_0 c17_next_1 c17_due2_0 c17_due2_1 BW17
                obtain ⟨la, hla⟩ : ∃ b, b = decide (n4 * ny < nx * d4) := ⟨_, rfl⟩
                have HLA := Lib.hid hla
                clear hla
                skip
                by_cases hlater : n4 * ny < nx * d4
                · have hlt0 : n4 * ny < nx * d4 := by have := hlater; omega
                  have hdl : decide (n4 * ny < nx * d4) = true := by rw [decide_eq_true_eq]; exact hlt0
                  go_wp2_with fail
                  go_loopw [341] (fun i wr => ∃ k : Nat, k ≤ L2.length ∧ i = .int .i64 (k : Int) ∧ Below w18.heap.size w18 wr) (fun i _ => L2.length - (RowKit.intOf i).toNat)
                  case atStart => exact ⟨0, Nat.zero_le _, rfl, Below.refl _ _⟩
                  case round =>
                    obtain ⟨k, hk, rfl, hb19⟩ := hrel
                    obtain ⟨w19, hw19⟩ : ∃ x : World, x = wr := ⟨_, rfl⟩
                    subst hw19
                    have hb19' := hb19
                    obtain ⟨hc19, hf19⟩ := bcell hb19
                    have hz19 := hb19.size
                    (try simp only [World.size_alloc, World.size_setCell, World.size_drew] at hz19)
                    have B19 : Below w18.heap.size w18 w19 := Below.trans (b := _) (by (repeat' (first | (with_reducible exact Below.refl _ _) | (with_reducible assumption) | (with_reducible refine Below.alloc ?_ ?_ _) | (with_reducible refine Below.drew ?_) | (with_reducible refine below_drewN ?_ _) | (with_reducible refine Below.setCell ?_ ?_ _) | (with_reducible refine below_call ?_ ?_ (by assumption)) | go_size))) (hb19.mono (by first | omega | (simp only [World.size_alloc, World.size_setCell, World.size_drew]; omega)))
                    obtain ⟨hd19, -⟩ := bcell B19
                    have c19_c_0 : w19.cell? ⟨w13.heap.size, 0, none⟩ = some (.int .i64 n2) := (hd19 _ _ q_c).trans c18_c_0
                    have c19_c_1 : w19.cell? ⟨w13.heap.size, 1, none⟩ = some (.int .i64 d2) := (hd19 _ _ q_c).trans c18_c_1
                    have c19_c_2 : w19.cell? ⟨w13.heap.size, 2, none⟩ = some (.int .i64 s2) := (hd19 _ _ q_c).trans c18_c_2
                    have c19_d_0 : w19.cell? ⟨w13.heap.size + 1, 0, none⟩ = some (.int .i64 n3) := (hd19 _ _ q_d).trans c18_d_0
                    have c19_d_1 : w19.cell? ⟨w13.heap.size + 1, 1, none⟩ = some (.int .i64 d3) := (hd19 _ _ q_d).trans c18_d_1
                    have c19_d_2 : w19.cell? ⟨w13.heap.size + 1, 2, none⟩ = some (.int .i64 s3) := (hd19 _ _ q_d).trans c18_d_2
                    have c19_t_0 : w19.cell? ⟨w13.heap.size + 1 + 1, 0, none⟩ = some (.int .i64 n4) := (hd19 _ _ q_t).trans c18_t_0
                    have c19_t_1 : w19.cell? ⟨w13.heap.size + 1 + 1, 1, none⟩ = some (.int .i64 d4) := (hd19 _ _ q_t).trans c18_t_1
                    have c19_next_0 : w19.cell? ⟨w14.heap.size, 0, none⟩ = some (.int .i64 nx) := (hd19 _ _ q_next).trans c18_next_0
                    have c19_next_1 : w19.cell? ⟨w14.heap.size, 1, none⟩ = some (.int .i64 ny) := (hd19 _ _ q_next).trans c18_next_1
                    have c19_due2_0 : w19.cell? ⟨w15.heap.size, 0, none⟩ = some (.int .i64 nx) := (hd19 _ _ q_due2).trans c18_due2_0
                    have c19_due2_1 : w19.cell? ⟨w15.heap.size, 1, none⟩ = some (.int .i64 ny) := (hd19 _ _ q_due2).trans c18_due2_1
                    replace q_c : w13.heap.size < w19.heap.size := by omega
                    replace q_d : w13.heap.size + 1 < w19.heap.size := by omega
                    replace q_t : w13.heap.size + 1 + 1 < w19.heap.size := by omega
                    replace q_next : w14.heap.size < w19.heap.size := by omega
                    replace q_due2 : w15.heap.size < w19.heap.size := by omega
                    have R19_l2 := Lib.hid (TRow.below R18_l2.out B19)
                    clear R18_l2
                    have BW19 : Below w.heap.size w w19 := BW18.trans (B19.mono BW18.size)
                    have BX19 : Below w16.heap.size w16 w19 := BX18.trans (B19.mono BX18.size)
                    clear BX18
                    clear hc19 hf19 hb19 hd19 B19 c18_c_0 c18_c_1 c18_c_2 c18_d_0 c18_d_1 c18_d_2 c18_t_0 c18_t_1 c18_next_0 c18_next_1 c18_due2_0 c18_due2_1 BW18
                    have i0 : (0 : Int) ≤ (k : Int) := Int.natCast_nonneg _
                    by_cases hlt : k < L2.length
                    · have i1 : (k : Int) < (L2.length : Int) := by omega
                      have hmem : L2.getD k (0, 0) ∈ L2 := by rw [List.getD_eq_getElem?_getD, List.getElem?_eq_getElem hlt]; exact List.getElem_mem hlt
                      have ha := HA.out _ hmem
                      have hgx := HG.out _ hmem
                      obtain ⟨pa, pc, hpv, hl1, hl2, hcell⟩ := TRow.cells R19_l2.out
                      simp only [Value.slice.injEq] at hpv
                      obtain ⟨hp1, -, hp2⟩ := hpv
                      subst hp1
                      subst hp2
                      obtain ⟨ga, rfl, u1, u2a, u3a, u4a⟩ := hcell k (by omega)
                      clear hcell hl1 hl2 u1
                      clear hmem
                      generalize L2.getD k (0, 0) = x at *
                      obtain ⟨p1, p2⟩ := x
                      simp only at u3a u4a ha hgx
                      obtain ⟨z1, z2, z3, z4⟩ := goodB_bd hgx
                      obtain ⟨a1, a2⟩ := mulb z3 z4 (show 0 ≤ d4 by omega) t2
                      obtain ⟨a3, a4⟩ := mulb t3 t4 (show 0 ≤ p2 by omega) z2
                      obtain ⟨a5, a6⟩ := mulb z3 z4 (show 0 ≤ ny by omega) y2
                      obtain ⟨a7, a8⟩ := mulb y3 y4 (show 0 ≤ p2 by omega) z2
                      have hv1 : IntKind.i64.wrap (p1 * d4) = p1 * d4 := by rw [IntKind.wrap_i64]; omega
                      have hv2 : IntKind.i64.wrap (n4 * p2) = n4 * p2 := by rw [IntKind.wrap_i64]; omega
                      have hv3 : IntKind.i64.wrap (p1 * ny) = p1 * ny := by rw [IntKind.wrap_i64]; omega
                      have hv4 : IntKind.i64.wrap (nx * p2) = nx * p2 := by rw [IntKind.wrap_i64]; omega
                      clear hgx
                      go_upto_region 46 with fail
                      have hb20 : Below w19.heap.size w19 (w19.alloc (Obj.cells #[.int .i64 p1, .int .i64 p2] 25)) := by (repeat' (first | (with_reducible exact Below.refl _ _) | (with_reducible assumption) | (with_reducible refine Below.alloc ?_ ?_ _) | (with_reducible refine Below.drew ?_) | (with_reducible refine below_drewN ?_ _) | (with_reducible refine Below.setCell ?_ ?_ _) | (with_reducible refine below_call ?_ ?_ (by assumption)) | go_size))
                      have c20_x_0 : (w19.alloc (Obj.cells #[.int .i64 p1, .int .i64 p2] 25)).cell? ⟨w19.heap.size, 0, none⟩ = some (.int .i64 p1) := by go_simp
                      have c20_x_1 : (w19.alloc (Obj.cells #[.int .i64 p1, .int .i64 p2] 25)).cell? ⟨w19.heap.size, 1, none⟩ = some (.int .i64 p2) := by go_simp
                      have q_x : w19.heap.size < (w19.alloc (Obj.cells #[.int .i64 p1, .int .i64 p2] 25)).heap.size := by go_size
                      generalize (w19.alloc (Obj.cells #[.int .i64 p1, .int .i64 p2] 25)) = w20 at *
                      obtain ⟨hd20, -⟩ := bcell hb20
                      have hz20 := hb20.size
                      have c20_c_0 : w20.cell? ⟨w13.heap.size, 0, none⟩ = some (.int .i64 n2) := (hd20 _ _ q_c).trans c19_c_0
                      have c20_c_1 : w20.cell? ⟨w13.heap.size, 1, none⟩ = some (.int .i64 d2) := (hd20 _ _ q_c).trans c19_c_1
                      have c20_c_2 : w20.cell? ⟨w13.heap.size, 2, none⟩ = some (.int .i64 s2) := (hd20 _ _ q_c).trans c19_c_2
                      have c20_d_0 : w20.cell? ⟨w13.heap.size + 1, 0, none⟩ = some (.int .i64 n3) := (hd20 _ _ q_d).trans c19_d_0
                      have c20_d_1 : w20.cell? ⟨w13.heap.size + 1, 1, none⟩ = some (.int .i64 d3) := (hd20 _ _ q_d).trans c19_d_1
                      have c20_d_2 : w20.cell? ⟨w13.heap.size + 1, 2, none⟩ = some (.int .i64 s3) := (hd20 _ _ q_d).trans c19_d_2
                      have c20_t_0 : w20.cell? ⟨w13.heap.size + 1 + 1, 0, none⟩ = some (.int .i64 n4) := (hd20 _ _ q_t).trans c19_t_0
                      have c20_t_1 : w20.cell? ⟨w13.heap.size + 1 + 1, 1, none⟩ = some (.int .i64 d4) := (hd20 _ _ q_t).trans c19_t_1
                      have c20_next_0 : w20.cell? ⟨w14.heap.size, 0, none⟩ = some (.int .i64 nx) := (hd20 _ _ q_next).trans c19_next_0
                      have c20_next_1 : w20.cell? ⟨w14.heap.size, 1, none⟩ = some (.int .i64 ny) := (hd20 _ _ q_next).trans c19_next_1
                      have c20_due2_0 : w20.cell? ⟨w15.heap.size, 0, none⟩ = some (.int .i64 nx) := (hd20 _ _ q_due2).trans c19_due2_0
                      have c20_due2_1 : w20.cell? ⟨w15.heap.size, 1, none⟩ = some (.int .i64 ny) := (hd20 _ _ q_due2).trans c19_due2_1
                      replace q_c : w13.heap.size < w20.heap.size := by omega
                      replace q_d : w13.heap.size + 1 < w20.heap.size := by omega
                      replace q_t : w13.heap.size + 1 + 1 < w20.heap.size := by omega
                      replace q_next : w14.heap.size < w20.heap.size := by omega
                      replace q_due2 : w15.heap.size < w20.heap.size := by omega
                      have R20_l2 := Lib.hid (TRow.below R19_l2.out hb20)
                      clear R19_l2
                      have BW20 : Below w.heap.size w w20 := BW19.trans (hb20.mono BW19.size)
                      have BX20 : Below w19.heap.size w19 w20 := hb20
                      clear hb20 hd20 c19_c_0 c19_c_1 c19_c_2 c19_d_0 c19_d_1 c19_d_2 c19_t_0 c19_t_1 c19_next_0 c19_next_1 c19_due2_0 c19_due2_1 BW19
                      by_cases hbh : n4 * p2 < p1 * d4
                      · have h3 : ¬ p1 * ny < nx * p2 := by have := (ha hbh).2; omega
                        clear ha
                        go_wp2_with fail
                        go_roundw
                        case rel => exact ⟨k + 1, by omega, by go_num, hb19'.trans (BX20.mono hb19'.size)⟩
                        case measure => simp [RowKit.intOf]; omega
                      · clear ha
                        go_wp2_with fail
                        go_roundw
                        case rel => exact ⟨k + 1, by omega, by go_num, hb19'.trans (BX20.mono hb19'.size)⟩
                        case measure => simp [RowKit.intOf]; omega
                    go_wp2_with fail
                    go_meet
                    case rel => exact BX19
                · have hlt0 : ¬ n4 * ny < nx * d4 := by have := hlater; omega
                  have hdl : decide (n4 * ny < nx * d4) = false := by rw [decide_eq_false_iff_not]; exact hlt0
                  go_wp2_with fail
                  go_loopw [341] (fun i wr => ∃ k : Nat, k ≤ L2.length ∧ i = .int .i64 (k : Int) ∧ Below w18.heap.size w18 wr) (fun i _ => L2.length - (RowKit.intOf i).toNat)
                  case atStart => exact ⟨0, Nat.zero_le _, rfl, Below.refl _ _⟩
                  case round =>
                    obtain ⟨k, hk, rfl, hb19⟩ := hrel
                    obtain ⟨w19, hw19⟩ : ∃ x : World, x = wr := ⟨_, rfl⟩
                    subst hw19
                    have hb19' := hb19
                    obtain ⟨hc19, hf19⟩ := bcell hb19
                    have hz19 := hb19.size
                    (try simp only [World.size_alloc, World.size_setCell, World.size_drew] at hz19)
                    have B19 : Below w18.heap.size w18 w19 := Below.trans (b := _) (by (repeat' (first | (with_reducible exact Below.refl _ _) | (with_reducible assumption) | (with_reducible refine Below.alloc ?_ ?_ _) | (with_reducible refine Below.drew ?_) | (with_reducible refine below_drewN ?_ _) | (with_reducible refine Below.setCell ?_ ?_ _) | (with_reducible refine below_call ?_ ?_ (by assumption)) | go_size))) (hb19.mono (by first | omega | (simp only [World.size_alloc, World.size_setCell, World.size_drew]; omega)))
                    obtain ⟨hd19, -⟩ := bcell B19
                    have c19_c_0 : w19.cell? ⟨w13.heap.size, 0, none⟩ = some (.int .i64 n2) := (hd19 _ _ q_c).trans c18_c_0
                    have c19_c_1 : w19.cell? ⟨w13.heap.size, 1, none⟩ = some (.int .i64 d2) := (hd19 _ _ q_c).trans c18_c_1
                    have c19_c_2 : w19.cell? ⟨w13.heap.size, 2, none⟩ = some (.int .i64 s2) := (hd19 _ _ q_c).trans c18_c_2
                    have c19_d_0 : w19.cell? ⟨w13.heap.size + 1, 0, none⟩ = some (.int .i64 n3) := (hd19 _ _ q_d).trans c18_d_0
                    have c19_d_1 : w19.cell? ⟨w13.heap.size + 1, 1, none⟩ = some (.int .i64 d3) := (hd19 _ _ q_d).trans c18_d_1
                    have c19_d_2 : w19.cell? ⟨w13.heap.size + 1, 2, none⟩ = some (.int .i64 s3) := (hd19 _ _ q_d).trans c18_d_2
                    have c19_t_0 : w19.cell? ⟨w13.heap.size + 1 + 1, 0, none⟩ = some (.int .i64 n4) := (hd19 _ _ q_t).trans c18_t_0
                    have c19_t_1 : w19.cell? ⟨w13.heap.size + 1 + 1, 1, none⟩ = some (.int .i64 d4) := (hd19 _ _ q_t).trans c18_t_1
                    have c19_next_0 : w19.cell? ⟨w14.heap.size, 0, none⟩ = some (.int .i64 nx) := (hd19 _ _ q_next).trans c18_next_0
                    have c19_next_1 : w19.cell? ⟨w14.heap.size, 1, none⟩ = some (.int .i64 ny) := (hd19 _ _ q_next).trans c18_next_1
                    have c19_due2_0 : w19.cell? ⟨w15.heap.size, 0, none⟩ = some (.int .i64 nx) := (hd19 _ _ q_due2).trans c18_due2_0
                    have c19_due2_1 : w19.cell? ⟨w15.heap.size, 1, none⟩ = some (.int .i64 ny) := (hd19 _ _ q_due2).trans c18_due2_1
                    replace q_c : w13.heap.size < w19.heap.size := by omega
                    replace q_d : w13.heap.size + 1 < w19.heap.size := by omega
                    replace q_t : w13.heap.size + 1 + 1 < w19.heap.size := by omega
                    replace q_next : w14.heap.size < w19.heap.size := by omega
                    replace q_due2 : w15.heap.size < w19.heap.size := by omega
                    have R19_l2 := Lib.hid (TRow.below R18_l2.out B19)
                    clear R18_l2
                    have BW19 : Below w.heap.size w w19 := BW18.trans (B19.mono BW18.size)
                    have BX19 : Below w16.heap.size w16 w19 := BX18.trans (B19.mono BX18.size)
                    clear BX18
                    clear hc19 hf19 hb19 hd19 B19 c18_c_0 c18_c_1 c18_c_2 c18_d_0 c18_d_1 c18_d_2 c18_t_0 c18_t_1 c18_next_0 c18_next_1 c18_due2_0 c18_due2_1 BW18
                    have i0 : (0 : Int) ≤ (k : Int) := Int.natCast_nonneg _
                    by_cases hlt : k < L2.length
                    · have i1 : (k : Int) < (L2.length : Int) := by omega
                      have hmem : L2.getD k (0, 0) ∈ L2 := by rw [List.getD_eq_getElem?_getD, List.getElem?_eq_getElem hlt]; exact List.getElem_mem hlt
                      have ha := HA.out _ hmem
                      have hgx := HG.out _ hmem
                      obtain ⟨pa, pc, hpv, hl1, hl2, hcell⟩ := TRow.cells R19_l2.out
                      simp only [Value.slice.injEq] at hpv
                      obtain ⟨hp1, -, hp2⟩ := hpv
                      subst hp1
                      subst hp2
                      obtain ⟨ga, rfl, u1, u2a, u3a, u4a⟩ := hcell k (by omega)
                      clear hcell hl1 hl2 u1
                      clear hmem
                      generalize L2.getD k (0, 0) = x at *
                      obtain ⟨p1, p2⟩ := x
                      simp only at u3a u4a ha hgx
                      obtain ⟨z1, z2, z3, z4⟩ := goodB_bd hgx
                      obtain ⟨a1, a2⟩ := mulb z3 z4 (show 0 ≤ d4 by omega) t2
                      obtain ⟨a3, a4⟩ := mulb t3 t4 (show 0 ≤ p2 by omega) z2
                      obtain ⟨a5, a6⟩ := mulb z3 z4 (show 0 ≤ ny by omega) y2
                      obtain ⟨a7, a8⟩ := mulb y3 y4 (show 0 ≤ p2 by omega) z2
                      have hv1 : IntKind.i64.wrap (p1 * d4) = p1 * d4 := by rw [IntKind.wrap_i64]; omega
                      have hv2 : IntKind.i64.wrap (n4 * p2) = n4 * p2 := by rw [IntKind.wrap_i64]; omega
                      have hv3 : IntKind.i64.wrap (p1 * ny) = p1 * ny := by rw [IntKind.wrap_i64]; omega
                      have hv4 : IntKind.i64.wrap (nx * p2) = nx * p2 := by rw [IntKind.wrap_i64]; omega
                      clear hgx
                      go_upto_region 46 with fail
                      have hb20 : Below w19.heap.size w19 (w19.alloc (Obj.cells #[.int .i64 p1, .int .i64 p2] 25)) := by (repeat' (first | (with_reducible exact Below.refl _ _) | (with_reducible assumption) | (with_reducible refine Below.alloc ?_ ?_ _) | (with_reducible refine Below.drew ?_) | (with_reducible refine below_drewN ?_ _) | (with_reducible refine Below.setCell ?_ ?_ _) | (with_reducible refine below_call ?_ ?_ (by assumption)) | go_size))
                      have c20_x_0 : (w19.alloc (Obj.cells #[.int .i64 p1, .int .i64 p2] 25)).cell? ⟨w19.heap.size, 0, none⟩ = some (.int .i64 p1) := by go_simp
                      have c20_x_1 : (w19.alloc (Obj.cells #[.int .i64 p1, .int .i64 p2] 25)).cell? ⟨w19.heap.size, 1, none⟩ = some (.int .i64 p2) := by go_simp
                      have q_x : w19.heap.size < (w19.alloc (Obj.cells #[.int .i64 p1, .int .i64 p2] 25)).heap.size := by go_size
                      generalize (w19.alloc (Obj.cells #[.int .i64 p1, .int .i64 p2] 25)) = w20 at *
                      obtain ⟨hd20, -⟩ := bcell hb20
                      have hz20 := hb20.size
                      have c20_c_0 : w20.cell? ⟨w13.heap.size, 0, none⟩ = some (.int .i64 n2) := (hd20 _ _ q_c).trans c19_c_0
                      have c20_c_1 : w20.cell? ⟨w13.heap.size, 1, none⟩ = some (.int .i64 d2) := (hd20 _ _ q_c).trans c19_c_1
                      have c20_c_2 : w20.cell? ⟨w13.heap.size, 2, none⟩ = some (.int .i64 s2) := (hd20 _ _ q_c).trans c19_c_2
                      have c20_d_0 : w20.cell? ⟨w13.heap.size + 1, 0, none⟩ = some (.int .i64 n3) := (hd20 _ _ q_d).trans c19_d_0
                      have c20_d_1 : w20.cell? ⟨w13.heap.size + 1, 1, none⟩ = some (.int .i64 d3) := (hd20 _ _ q_d).trans c19_d_1
                      have c20_d_2 : w20.cell? ⟨w13.heap.size + 1, 2, none⟩ = some (.int .i64 s3) := (hd20 _ _ q_d).trans c19_d_2
                      have c20_t_0 : w20.cell? ⟨w13.heap.size + 1 + 1, 0, none⟩ = some (.int .i64 n4) := (hd20 _ _ q_t).trans c19_t_0
                      have c20_t_1 : w20.cell? ⟨w13.heap.size + 1 + 1, 1, none⟩ = some (.int .i64 d4) := (hd20 _ _ q_t).trans c19_t_1
                      have c20_next_0 : w20.cell? ⟨w14.heap.size, 0, none⟩ = some (.int .i64 nx) := (hd20 _ _ q_next).trans c19_next_0
                      have c20_next_1 : w20.cell? ⟨w14.heap.size, 1, none⟩ = some (.int .i64 ny) := (hd20 _ _ q_next).trans c19_next_1
                      have c20_due2_0 : w20.cell? ⟨w15.heap.size, 0, none⟩ = some (.int .i64 nx) := (hd20 _ _ q_due2).trans c19_due2_0
                      have c20_due2_1 : w20.cell? ⟨w15.heap.size, 1, none⟩ = some (.int .i64 ny) := (hd20 _ _ q_due2).trans c19_due2_1
                      replace q_c : w13.heap.size < w20.heap.size := by omega
                      replace q_d : w13.heap.size + 1 < w20.heap.size := by omega
                      replace q_t : w13.heap.size + 1 + 1 < w20.heap.size := by omega
                      replace q_next : w14.heap.size < w20.heap.size := by omega
                      replace q_due2 : w15.heap.size < w20.heap.size := by omega
                      have R20_l2 := Lib.hid (TRow.below R19_l2.out hb20)
                      clear R19_l2
                      have BW20 : Below w.heap.size w w20 := BW19.trans (hb20.mono BW19.size)
                      have BX20 : Below w19.heap.size w19 w20 := hb20
                      clear hb20 hd20 c19_c_0 c19_c_1 c19_c_2 c19_d_0 c19_d_1 c19_d_2 c19_t_0 c19_t_1 c19_next_0 c19_next_1 c19_due2_0 c19_due2_1 BW19
                      have hbh : ¬ n4 * p2 < p1 * d4 := fun h => by have := (ha h).1; omega
                      clear ha
                      go_wp2_with fail
                      go_roundw
                      case rel => exact ⟨k + 1, by omega, by go_num, hb19'.trans (BX20.mono hb19'.size)⟩
                      case measure => simp [RowKit.intOf]; omega
                    go_wp2_with fail
                    go_meet
                    case rel => exact BX19
          case rest =>
            have hb17 := hcut
            obtain ⟨w17, hw17⟩ : ∃ x : World, x = wc := ⟨_, rfl⟩
            subst hw17
            obtain ⟨hc17, hf17⟩ := bcell hb17
            have hz17 := hb17.size
            (try simp only [World.size_alloc, World.size_setCell, World.size_drew] at hz17)
            have B17 : Below w16.heap.size w16 w17 := Below.trans (b := _) (by (repeat' (first | (with_reducible exact Below.refl _ _) | (with_reducible assumption) | (with_reducible refine Below.alloc ?_ ?_ _) | (with_reducible refine Below.drew ?_) | (with_reducible refine below_drewN ?_ _) | (with_reducible refine Below.setCell ?_ ?_ _) | (with_reducible refine below_call ?_ ?_ (by assumption)) | go_size))) (hb17.mono (by first | omega | (simp only [World.size_alloc, World.size_setCell, World.size_drew]; omega)))
            obtain ⟨hd17, -⟩ := bcell B17
            have c17_c_0 : w17.cell? ⟨w13.heap.size, 0, none⟩ = some (.int .i64 n2) := (hd17 _ _ q_c).trans c16_c_0
            have c17_c_1 : w17.cell? ⟨w13.heap.size, 1, none⟩ = some (.int .i64 d2) := (hd17 _ _ q_c).trans c16_c_1
            have c17_c_2 : w17.cell? ⟨w13.heap.size, 2, none⟩ = some (.int .i64 s2) := (hd17 _ _ q_c).trans c16_c_2
            have c17_d_0 : w17.cell? ⟨w13.heap.size + 1, 0, none⟩ = some (.int .i64 n3) := (hd17 _ _ q_d).trans c16_d_0
            have c17_d_1 : w17.cell? ⟨w13.heap.size + 1, 1, none⟩ = some (.int .i64 d3) := (hd17 _ _ q_d).trans c16_d_1
            have c17_d_2 : w17.cell? ⟨w13.heap.size + 1, 2, none⟩ = some (.int .i64 s3) := (hd17 _ _ q_d).trans c16_d_2
            have c17_t_0 : w17.cell? ⟨w13.heap.size + 1 + 1, 0, none⟩ = some (.int .i64 n4) := (hd17 _ _ q_t).trans c16_t_0
            have c17_t_1 : w17.cell? ⟨w13.heap.size + 1 + 1, 1, none⟩ = some (.int .i64 d4) := (hd17 _ _ q_t).trans c16_t_1
            have c17_next_0 : w17.cell? ⟨w14.heap.size, 0, none⟩ = some (.int .i64 nx) := (hd17 _ _ q_next).trans c16_next_0
            have c17_next_1 : w17.cell? ⟨w14.heap.size, 1, none⟩ = some (.int .i64 ny) := (hd17 _ _ q_next).trans c16_next_1
            have c17_due2_0 : w17.cell? ⟨w15.heap.size, 0, none⟩ = some (.int .i64 nx) := (hd17 _ _ q_due2).trans c16_due2_0
            have c17_due2_1 : w17.cell? ⟨w15.heap.size, 1, none⟩ = some (.int .i64 ny) := (hd17 _ _ q_due2).trans c16_due2_1
            replace q_c : w13.heap.size < w17.heap.size := by omega
            replace q_d : w13.heap.size + 1 < w17.heap.size := by omega
            replace q_t : w13.heap.size + 1 + 1 < w17.heap.size := by omega
            replace q_next : w14.heap.size < w17.heap.size := by omega
            replace q_due2 : w15.heap.size < w17.heap.size := by omega
            have BW17 : Below w.heap.size w w17 := BW16.trans (B17.mono BW16.size)
            clear hc17 hf17 hb17 hd17 B17 c16_c_0 c16_c_1 c16_c_2 c16_d_0 c16_d_1 c16_d_2 c16_t_0 c16_t_1 c16_next_0 c16_next_1 c16_due2_0 c16_due2_1 BW16
            go_wp2
            go_ret
            exact ⟨rfl, BW17⟩
  · have HBG := Lib.hid hbg
    clear hbg
    (go_enter Try.func3, Try.ntmps3)
    go_wp2_with fail
    refine (big_is p1 p2 L1.length L2.length q1 q2 hm1 HBG.out _).mono ?_
    rintro e0 w0 ⟨rfl, rfl⟩
    go_wp2
    go_ret
    exact ⟨rfl, Below.refl _ _⟩

set_option maxRecDepth 100000 in
theorem lifted (os : Os) (started : os.Started) (H : Type) (enc : TypeId × Value → H) :
    ReturnsInHanded {} Try.checked os 3 .any (Rows.fnHandsMeetSpec.pre6 enc Try.prog Try.f3 Rows.fnHandsMeetRow.domain false) (Rows.fnHandsMeetSpec.post enc Try.prog Try.f3 false true false false) := by
  refine returnsInHanded_of_change (C := Try.checked) Try.own started (by kernel_rfl) Try.func3
    (ChangeSpec.witness6 (enc := enc) (C := Try.checked) false ⟨#[], #[.slice none 0 0, .slice none 0 0], []⟩ 8 (by kernel_rfl) (by kernel_rfl) (by kernel_rfl) (by kernel_rfl)) ?_
  intro W base args ds gs before hval0 hW hcnd _
  have hval : ∀ (j : Nat) t v, Try.f3.params[j]? = some t → args[j]? = some v → Value.okWide Try.prog W .any base t v := hval0
  have hW' := hW
  obtain ⟨p, q, hA0, hV, rfl, hfz, hnd⟩ := hW
  have hA : DataW.TrodAll enc Try.prog W 0 (fun _ => true) true Try.f3.params.toList args.toList ds p := hA0
  rw [Try.params3] at hA hval
  obtain ⟨v0, vs0, d_0, ds0, p0, q0, hargs, rfl, rfl, h0, r0⟩ := trodAll_cons hA
  obtain ⟨v1, vs1, d_1, ds1, p1, q1, rfl, rfl, rfl, h1, r1⟩ := trodAll_cons r0
  obtain ⟨rfl, rfl, rfl⟩ := trodAll_nil r1
  obtain rfl : args = #[v0, v1] := by cases args; simp_all
  obtain ⟨rfl, rfl⟩ := trodVars_none hV
  have h0k := h0
  have h1k := h1
  obtain ⟨p1', q1', L1, rfl, hi1, hm1⟩ := open_bytes' (hval 0 22 v0 rfl rfl) h0
  obtain ⟨p2', q2', L2, rfl, hi2, hm2⟩ := open_bytes' (hval 1 22 v1 rfl rfl) h1
  clear hA0 hval0
  simp only [List.append_nil, List.nil_append] at hW'
  have hlt0 : ∀ y ∈ p0, y.block < W.heap.size := fun y hy => by simpa using hW'.lt y (by simp [hy])
  have hlt1 : ∀ y ∈ p1, y.block < W.heap.size := fun y hy => by simpa using hW'.lt y (by simp [hy])
  refine (walk W p1' p2' q1' q2' L1 L2 hi1 hi2 hm1 hm2).mono fun e W' ⟨he, bel⟩ => ?_
  subst he
  have harg0 : DataW.Trod enc Try.prog W' 0 (fun b => decide (b < W.heap.size)) true 22 (.slice p1' L1.length q1') d_0 p0 :=
    Below.trod Try.laidOut (by kernel_rfl) (of_decide_eq_true (by kernel_rfl)) h0k bel hlt0
  have harg1 : DataW.Trod enc Try.prog W' 0 (fun b => decide (b < W.heap.size)) true 22 (.slice p2' L2.length q2') d_1 p1 :=
    Below.trod Try.laidOut (by kernel_rfl) (of_decide_eq_true (by kernel_rfl)) h1k bel hlt1
  exact ⟨_, rfl, _, _, _, [], _, [], hW', trodAll_mk1 (shut_bool Try.underlying4 _), (trodAll_cons_mk harg0 (trodAll_cons_mk harg1 trodAll_mk0)), rfl, bel.frame _, fun h => by cases h⟩

theorem closed : joinedFacts Try.prog 3 Try.f3 Rows.fnHandsMeetSpec Rows.fnHandsMeetRow = true := by
  unfold joinedFacts
  rw [Try.fMake, Try.fEnter, Try.fLifts, Try.fMaps, Try.fLaid, Try.fHeard, Try.fKeys]
  kernel_rfl
theorem over : Rows.fnHandsMeetRow.holds Try.pinned (OpenSpec.ofChange Rows.fnHandsMeetSpec) :=
  OpenClaim.holds_of_wide 3 Try.f3 rfl rfl rfl rfl rfl rfl rfl ⟨rfl, rfl, rfl, rfl, rfl⟩ rfl rfl rfl rfl rfl (by kernel_rfl) Try.func3
    closed (of_decide_eq_true (by kernel_rfl)) (by unfold Func.isWrapper; first | (rw [if_pos (by decide +kernel)]; kernel_rfl) | (rw [if_neg (by decide +kernel)]; exact ⟨rfl, rfl⟩))
    (fun os started H enc _ => lifted os started H enc)

end Go.Proofs.Ytcfiaacpofpioaa.fnHandsMeet
namespace Go.Proofs.Ytcfiaacpofpioaa
/-- The statement. -/
theorem fnHandsMeet_proved : Rows.FnHandsMeetSaid := fnHandsMeet.over
#print axioms fnHandsMeet_proved
end Go.Proofs.Ytcfiaacpofpioaa