/- FnSeenTrue: called with any arguments, the law returns true, and its arguments read behind the call as before. Conditions: none but the row's own. -/
import Derived.Test.YticdmochedadbaaFacts
import Derived.Test.YticdmochedadbaaRowI
import Derived.Test.YticdmochedadbaaRowN
import Derived.Test.YticdmochedadbaaTa0
import Derived.Test.YticdmochedadbaaTaE
import Derived.Test.YticdmochedadbaaSeT
import Derived.Test.YticdmochedadbaaSeen8
import Derived.Test.YticdmochedadbaaLate
import Derived.Test.YticdmochedadbaaEDraw
import Derived.Test.YticdmochedadbaaSBArg
import Derived.Deep.DeepCutAuto
set_option linter.unusedSimpArgs false
set_option linter.unusedVariables false
set_option maxRecDepth 100000
namespace Go.Proofs.Yticdmochedadbaa.fnSeenTrue
open Go.ChangeShapes Go.WideShapes Go.ChangeAt Go.RowKit
attribute [local go_sem ↓] Go.wp_at_zero Go.wp_at_succ run_neq_same run_neq_turn run_eql_turn run_neq_sameSeen run_neq_seen

set_option maxHeartbeats 16000000 in
theorem walk (w : World) (p1 p2 : Option Addr) (q1 q2 : Nat) (L1 L2 : List Int) (hi1 : BIn w p1 L1) (hi2 : BIn w p2 L2) (hm1 : L1.length ≤ maxLen) (hm2 : L2.length ≤ maxLen) :
    Calls Try.prog 3 #[.slice p1 L1.length q1, .slice p2 L2.length q2] w fun e w' => e = .returned (.bool true) ∧ Below w.heap.size w w' := by
  have HB1 := Lib.hid hi1
  have HB2 := Lib.hid hi2
  clear hi1 hi2
  cases hbg : bigB L1.length L2.length
  · obtain ⟨hlen1, hlen2⟩ := bigB_no hbg
    have HBG := Lib.hid hbg
    clear hbg
    (go_enter Try.func3, Try.ntmps3)
    go_wp2_with fail
    refine (big_is p1 p2 L1.length L2.length q1 q2 hm1 HBG.out _).mono ?_
    rintro e0 w0 ⟨rfl, rfl⟩
    go_wp2_with fail
    refine (DrawExchangedTime_any L1 p1 L1.length q1 rfl hlen1 _ HB1.out).mono ?_
    rintro e1 w1 ⟨a0, n1, d1, rfl, ⟨k0, kn1, kd1⟩, hb1⟩
    obtain ⟨hc1, hf1⟩ := bcell hb1
    have hz1 := hb1.size
    (try simp only [World.size_alloc, World.size_setCell, World.size_drew] at hz1)
    have B1 : Below w.heap.size w w1 := Below.trans (b := _) (by (repeat' (first | (with_reducible exact Below.refl _ _) | (with_reducible assumption) | (with_reducible refine Below.alloc ?_ ?_ _) | (with_reducible refine Below.drew ?_) | (with_reducible refine below_drewN ?_ _) | (with_reducible refine Below.setCell ?_ ?_ _) | (with_reducible refine below_call ?_ ?_ (by assumption)) | go_size))) (hb1.mono (by first | omega | (simp only [World.size_alloc, World.size_setCell, World.size_drew]; omega)))
    obtain ⟨hd1, -⟩ := bcell B1
    have BW1 : Below w.heap.size w w1 := B1
    clear hc1 hf1 hb1 hd1 B1 
    obtain ⟨xn, xd, xo, hX⟩ : ∃ x y o, exTimeT a0 n1 d1 = (x, y, o) := ⟨_, _, _, rfl⟩
    obtain ⟨sa, sb, sc, se, so, hS⟩ : ∃ a b c e o, seenOfT a0 n1 d1 = (a, b, c, e, o) := ⟨_, _, _, _, _, rfl⟩
    have C1 := Lib.hid (fun W => (show Calls Try.prog 8 #[.int .i64 a0, tv n1 d1] W fun e w' => e = .returned (rv (xn, xd, xo)) ∧ Below W.heap.size W w' from by have := implExchangedTime_any a0 n1 d1 W; rw [hX] at this; exact this))
    have C2 := Lib.hid (fun W => (show Calls Try.prog 9 #[.int .i64 a0, tv n1 d1] W fun e w' => e = .returned (rv (xn, xd, xo)) ∧ Below W.heap.size W w' from by have := specExchangedTime_any a0 n1 d1 kd1 W; rw [hX] at this; exact this))
    have C3 := Lib.hid (fun W => (show Calls Try.prog 10 #[.int .i64 a0, tv n1 d1] W fun e w' => e = .returned (rs (sa, sb, sc, se, so)) ∧ Below W.heap.size W w' from by have := implSeenOf_any a0 n1 d1 W; rw [hS] at this; exact this))
    have C4 := Lib.hid (fun W => (show Calls Try.prog 11 #[.int .i64 a0, tv n1 d1] W fun e w' => e = .returned (rs (sa, sb, sc, se, so)) ∧ Below W.heap.size W w' from by have := specSeenOf_any a0 n1 d1 kd1 W; rw [hS] at this; exact this))
    have F1 := Lib.hid (fun (e : xo = true) => ex_seen (by rw [hX, e] : exTimeT a0 n1 d1 = (xn, xd, true)) hS)
    have F2 := Lib.hid (fun (e : so = true) => seen_all (by rw [hS, e] : seenOfT a0 n1 d1 = (sa, sb, sc, se, true)) hX)
    have F3 := Lib.hid (fun (e : xo = true) => ex_back (by rw [hX, e] : exTimeT a0 n1 d1 = (xn, xd, true)))
    have F4 := Lib.hid (fun (e : xo = true) => ask_bd (ex_ask (by rw [hX, e] : exTimeT a0 n1 d1 = (xn, xd, true))).1)
    clear hX hS
    go_wp2_with fail
    refine (C1.out _).mono ?_
    rintro e2 w2 ⟨rfl, hb2⟩
    obtain ⟨hc2, hf2⟩ := bcell hb2
    have hz2 := hb2.size
    (try simp only [World.size_alloc, World.size_setCell, World.size_drew] at hz2)
    have B2 : Below w1.heap.size w1 w2 := Below.trans (b := _) (by (repeat' (first | (with_reducible exact Below.refl _ _) | (with_reducible assumption) | (with_reducible refine Below.alloc ?_ ?_ _) | (with_reducible refine Below.drew ?_) | (with_reducible refine below_drewN ?_ _) | (with_reducible refine Below.setCell ?_ ?_ _) | (with_reducible refine below_call ?_ ?_ (by assumption)) | go_size))) (hb2.mono (by first | omega | (simp only [World.size_alloc, World.size_setCell, World.size_drew]; omega)))
    obtain ⟨hd2, -⟩ := bcell B2
    have c2_t_0 : w2.cell? ⟨w1.heap.size, 0, none⟩ = some (.int .i64 n1) := (hc2 _ _ (by go_size)).trans (by go_simp)
    have c2_t_1 : w2.cell? ⟨w1.heap.size, 1, none⟩ = some (.int .i64 d1) := (hc2 _ _ (by go_size)).trans (by go_simp)
    have q_t : w1.heap.size < w2.heap.size := by omega
    have BW2 : Below w.heap.size w w2 := BW1.trans (B2.mono BW1.size)
    clear hc2 hf2 hb2 hd2 B2  BW1
    go_wp2_with fail
    refine (C2.out _).mono ?_
    rintro e3 w3 ⟨rfl, hb3⟩
    obtain ⟨hc3, hf3⟩ := bcell hb3
    have hz3 := hb3.size
    (try simp only [World.size_alloc, World.size_setCell, World.size_drew] at hz3)
    have B3 : Below w2.heap.size w2 w3 := Below.trans (b := _) (by (repeat' (first | (with_reducible exact Below.refl _ _) | (with_reducible assumption) | (with_reducible refine Below.alloc ?_ ?_ _) | (with_reducible refine Below.drew ?_) | (with_reducible refine below_drewN ?_ _) | (with_reducible refine Below.setCell ?_ ?_ _) | (with_reducible refine below_call ?_ ?_ (by assumption)) | go_size))) (hb3.mono (by first | omega | (simp only [World.size_alloc, World.size_setCell, World.size_drew]; omega)))
    obtain ⟨hd3, -⟩ := bcell B3
    have c3_t_0 : w3.cell? ⟨w1.heap.size, 0, none⟩ = some (.int .i64 n1) := (hd3 _ _ q_t).trans c2_t_0
    have c3_t_1 : w3.cell? ⟨w1.heap.size, 1, none⟩ = some (.int .i64 d1) := (hd3 _ _ q_t).trans c2_t_1
    replace q_t : w1.heap.size < w3.heap.size := by omega
    have c3_taken_0 : w3.cell? ⟨w2.heap.size, 0, none⟩ = some (.int .i64 xn) := (hc3 _ _ (by go_size)).trans (by go_simp)
    have c3_taken_1 : w3.cell? ⟨w2.heap.size, 1, none⟩ = some (.int .i64 xd) := (hc3 _ _ (by go_size)).trans (by go_simp)
    have q_taken : w2.heap.size < w3.heap.size := by omega
    have BW3 : Below w.heap.size w w3 := BW2.trans (B3.mono BW2.size)
    clear hc3 hf3 hb3 hd3 B3 c2_t_0 c2_t_1 BW2
    go_wp2_with fail
    refine (C3.out _).mono ?_
    rintro e4 w4 ⟨rfl, hb4⟩
    obtain ⟨hc4, hf4⟩ := bcell hb4
    have hz4 := hb4.size
    (try simp only [World.size_alloc, World.size_setCell, World.size_drew] at hz4)
    have B4 : Below w3.heap.size w3 w4 := Below.trans (b := _) (by (repeat' (first | (with_reducible exact Below.refl _ _) | (with_reducible assumption) | (with_reducible refine Below.alloc ?_ ?_ _) | (with_reducible refine Below.drew ?_) | (with_reducible refine below_drewN ?_ _) | (with_reducible refine Below.setCell ?_ ?_ _) | (with_reducible refine below_call ?_ ?_ (by assumption)) | go_size))) (hb4.mono (by first | omega | (simp only [World.size_alloc, World.size_setCell, World.size_drew]; omega)))
    obtain ⟨hd4, -⟩ := bcell B4
    have c4_t_0 : w4.cell? ⟨w1.heap.size, 0, none⟩ = some (.int .i64 n1) := (hd4 _ _ q_t).trans c3_t_0
    have c4_t_1 : w4.cell? ⟨w1.heap.size, 1, none⟩ = some (.int .i64 d1) := (hd4 _ _ q_t).trans c3_t_1
    have c4_taken_0 : w4.cell? ⟨w2.heap.size, 0, none⟩ = some (.int .i64 xn) := (hd4 _ _ q_taken).trans c3_taken_0
    have c4_taken_1 : w4.cell? ⟨w2.heap.size, 1, none⟩ = some (.int .i64 xd) := (hd4 _ _ q_taken).trans c3_taken_1
    replace q_t : w1.heap.size < w4.heap.size := by omega
    replace q_taken : w2.heap.size < w4.heap.size := by omega
    have c4_right_0 : w4.cell? ⟨w3.heap.size, 0, none⟩ = some (.int .i64 xn) := (hc4 _ _ (by go_size)).trans (by go_simp)
    have c4_right_1 : w4.cell? ⟨w3.heap.size, 1, none⟩ = some (.int .i64 xd) := (hc4 _ _ (by go_size)).trans (by go_simp)
    have q_right : w3.heap.size < w4.heap.size := by omega
    have BW4 : Below w.heap.size w w4 := BW3.trans (B4.mono BW3.size)
    clear hc4 hf4 hb4 hd4 B4 c3_t_0 c3_t_1 c3_taken_0 c3_taken_1 BW3
    go_wp2_with fail
    refine (C4.out _).mono ?_
    rintro e5 w5 ⟨rfl, hb5⟩
    obtain ⟨hc5, hf5⟩ := bcell hb5
    have hz5 := hb5.size
    (try simp only [World.size_alloc, World.size_setCell, World.size_drew] at hz5)
    have B5 : Below w4.heap.size w4 w5 := Below.trans (b := _) (by (repeat' (first | (with_reducible exact Below.refl _ _) | (with_reducible assumption) | (with_reducible refine Below.alloc ?_ ?_ _) | (with_reducible refine Below.drew ?_) | (with_reducible refine below_drewN ?_ _) | (with_reducible refine Below.setCell ?_ ?_ _) | (with_reducible refine below_call ?_ ?_ (by assumption)) | go_size))) (hb5.mono (by first | omega | (simp only [World.size_alloc, World.size_setCell, World.size_drew]; omega)))
    obtain ⟨hd5, -⟩ := bcell B5
    have c5_t_0 : w5.cell? ⟨w1.heap.size, 0, none⟩ = some (.int .i64 n1) := (hd5 _ _ q_t).trans c4_t_0
    have c5_t_1 : w5.cell? ⟨w1.heap.size, 1, none⟩ = some (.int .i64 d1) := (hd5 _ _ q_t).trans c4_t_1
    have c5_taken_0 : w5.cell? ⟨w2.heap.size, 0, none⟩ = some (.int .i64 xn) := (hd5 _ _ q_taken).trans c4_taken_0
    have c5_taken_1 : w5.cell? ⟨w2.heap.size, 1, none⟩ = some (.int .i64 xd) := (hd5 _ _ q_taken).trans c4_taken_1
    have c5_right_0 : w5.cell? ⟨w3.heap.size, 0, none⟩ = some (.int .i64 xn) := (hd5 _ _ q_right).trans c4_right_0
    have c5_right_1 : w5.cell? ⟨w3.heap.size, 1, none⟩ = some (.int .i64 xd) := (hd5 _ _ q_right).trans c4_right_1
    replace q_t : w1.heap.size < w5.heap.size := by omega
    replace q_taken : w2.heap.size < w5.heap.size := by omega
    replace q_right : w3.heap.size < w5.heap.size := by omega
    have c5_seen_0 : w5.cell? ⟨w4.heap.size, 0, none⟩ = some (.int .i64 sa) := (hc5 _ _ (by go_size)).trans (by go_simp)
    have c5_seen_1 : w5.cell? ⟨w4.heap.size, 1, none⟩ = some (.int .i64 sb) := (hc5 _ _ (by go_size)).trans (by go_simp)
    have c5_seen_2 : w5.cell? ⟨w4.heap.size, 2, none⟩ = some (.int .i64 sc) := (hc5 _ _ (by go_size)).trans (by go_simp)
    have c5_seen_3 : w5.cell? ⟨w4.heap.size, 3, none⟩ = some (.int .i64 se) := (hc5 _ _ (by go_size)).trans (by go_simp)
    have q_seen : w4.heap.size < w5.heap.size := by omega
    have BW5 : Below w.heap.size w w5 := BW4.trans (B5.mono BW4.size)
    clear hc5 hf5 hb5 hd5 B5 c4_t_0 c4_t_1 c4_taken_0 c4_taken_1 c4_right_0 c4_right_1 BW4
    go_upto_region 8 with fail
    have hb6 : Below w5.heap.size w5 (w5.alloc (Obj.cells #[.int .i64 sa, .int .i64 sb, .int .i64 sc, .int .i64 se] 31)) := by (repeat' (first | (with_reducible exact Below.refl _ _) | (with_reducible assumption) | (with_reducible refine Below.alloc ?_ ?_ _) | (with_reducible refine Below.drew ?_) | (with_reducible refine below_drewN ?_ _) | (with_reducible refine Below.setCell ?_ ?_ _) | (with_reducible refine below_call ?_ ?_ (by assumption)) | go_size))
    have c6_want_0 : (w5.alloc (Obj.cells #[.int .i64 sa, .int .i64 sb, .int .i64 sc, .int .i64 se] 31)).cell? ⟨w5.heap.size, 0, none⟩ = some (.int .i64 sa) := by go_simp
    have c6_want_1 : (w5.alloc (Obj.cells #[.int .i64 sa, .int .i64 sb, .int .i64 sc, .int .i64 se] 31)).cell? ⟨w5.heap.size, 1, none⟩ = some (.int .i64 sb) := by go_simp
    have c6_want_2 : (w5.alloc (Obj.cells #[.int .i64 sa, .int .i64 sb, .int .i64 sc, .int .i64 se] 31)).cell? ⟨w5.heap.size, 2, none⟩ = some (.int .i64 sc) := by go_simp
    have c6_want_3 : (w5.alloc (Obj.cells #[.int .i64 sa, .int .i64 sb, .int .i64 sc, .int .i64 se] 31)).cell? ⟨w5.heap.size, 3, none⟩ = some (.int .i64 se) := by go_simp
    have q_want : w5.heap.size < (w5.alloc (Obj.cells #[.int .i64 sa, .int .i64 sb, .int .i64 sc, .int .i64 se] 31)).heap.size := by go_size
    generalize (w5.alloc (Obj.cells #[.int .i64 sa, .int .i64 sb, .int .i64 sc, .int .i64 se] 31)) = w6 at *
    obtain ⟨hd6, -⟩ := bcell hb6
    have hz6 := hb6.size
    have c6_t_0 : w6.cell? ⟨w1.heap.size, 0, none⟩ = some (.int .i64 n1) := (hd6 _ _ q_t).trans c5_t_0
    have c6_t_1 : w6.cell? ⟨w1.heap.size, 1, none⟩ = some (.int .i64 d1) := (hd6 _ _ q_t).trans c5_t_1
    have c6_taken_0 : w6.cell? ⟨w2.heap.size, 0, none⟩ = some (.int .i64 xn) := (hd6 _ _ q_taken).trans c5_taken_0
    have c6_taken_1 : w6.cell? ⟨w2.heap.size, 1, none⟩ = some (.int .i64 xd) := (hd6 _ _ q_taken).trans c5_taken_1
    have c6_right_0 : w6.cell? ⟨w3.heap.size, 0, none⟩ = some (.int .i64 xn) := (hd6 _ _ q_right).trans c5_right_0
    have c6_right_1 : w6.cell? ⟨w3.heap.size, 1, none⟩ = some (.int .i64 xd) := (hd6 _ _ q_right).trans c5_right_1
    have c6_seen_0 : w6.cell? ⟨w4.heap.size, 0, none⟩ = some (.int .i64 sa) := (hd6 _ _ q_seen).trans c5_seen_0
    have c6_seen_1 : w6.cell? ⟨w4.heap.size, 1, none⟩ = some (.int .i64 sb) := (hd6 _ _ q_seen).trans c5_seen_1
    have c6_seen_2 : w6.cell? ⟨w4.heap.size, 2, none⟩ = some (.int .i64 sc) := (hd6 _ _ q_seen).trans c5_seen_2
    have c6_seen_3 : w6.cell? ⟨w4.heap.size, 3, none⟩ = some (.int .i64 se) := (hd6 _ _ q_seen).trans c5_seen_3
    replace q_t : w1.heap.size < w6.heap.size := by omega
    replace q_taken : w2.heap.size < w6.heap.size := by omega
    replace q_right : w3.heap.size < w6.heap.size := by omega
    replace q_seen : w4.heap.size < w6.heap.size := by omega
    have BW6 : Below w.heap.size w w6 := BW5.trans (hb6.mono BW5.size)
    clear hb6 hd6 c5_t_0 c5_t_1 c5_taken_0 c5_taken_1 c5_right_0 c5_right_1 c5_seen_0 c5_seen_1 c5_seen_2 c5_seen_3 BW5
    go_cut [127] from 999 to 999 (fun x wx => x = .bool false ∧ Below w6.heap.size w6 wx)
    case first =>
      as_aux_lemma =>
        cases xo
        · go_wp2_with fail
          go_meet
          case rel => exact ⟨rfl, Below.refl _ _⟩
        · have e := F1.out rfl
          subst e
          go_wp2_with fail
          go_meet
          case rel => exact ⟨rfl, Below.refl _ _⟩
    case rest =>
      obtain ⟨rfl, hb7⟩ := hcut
      obtain ⟨w7, hw7⟩ : ∃ x : World, x = wc := ⟨_, rfl⟩
      subst hw7
      obtain ⟨hc7, hf7⟩ := bcell hb7
      have hz7 := hb7.size
      (try simp only [World.size_alloc, World.size_setCell, World.size_drew] at hz7)
      have B7 : Below w6.heap.size w6 w7 := Below.trans (b := _) (by (repeat' (first | (with_reducible exact Below.refl _ _) | (with_reducible assumption) | (with_reducible refine Below.alloc ?_ ?_ _) | (with_reducible refine Below.drew ?_) | (with_reducible refine below_drewN ?_ _) | (with_reducible refine Below.setCell ?_ ?_ _) | (with_reducible refine below_call ?_ ?_ (by assumption)) | go_size))) (hb7.mono (by first | omega | (simp only [World.size_alloc, World.size_setCell, World.size_drew]; omega)))
      obtain ⟨hd7, -⟩ := bcell B7
      have c7_t_0 : w7.cell? ⟨w1.heap.size, 0, none⟩ = some (.int .i64 n1) := (hd7 _ _ q_t).trans c6_t_0
      have c7_t_1 : w7.cell? ⟨w1.heap.size, 1, none⟩ = some (.int .i64 d1) := (hd7 _ _ q_t).trans c6_t_1
      have c7_taken_0 : w7.cell? ⟨w2.heap.size, 0, none⟩ = some (.int .i64 xn) := (hd7 _ _ q_taken).trans c6_taken_0
      have c7_taken_1 : w7.cell? ⟨w2.heap.size, 1, none⟩ = some (.int .i64 xd) := (hd7 _ _ q_taken).trans c6_taken_1
      have c7_right_0 : w7.cell? ⟨w3.heap.size, 0, none⟩ = some (.int .i64 xn) := (hd7 _ _ q_right).trans c6_right_0
      have c7_right_1 : w7.cell? ⟨w3.heap.size, 1, none⟩ = some (.int .i64 xd) := (hd7 _ _ q_right).trans c6_right_1
      have c7_seen_0 : w7.cell? ⟨w4.heap.size, 0, none⟩ = some (.int .i64 sa) := (hd7 _ _ q_seen).trans c6_seen_0
      have c7_seen_1 : w7.cell? ⟨w4.heap.size, 1, none⟩ = some (.int .i64 sb) := (hd7 _ _ q_seen).trans c6_seen_1
      have c7_seen_2 : w7.cell? ⟨w4.heap.size, 2, none⟩ = some (.int .i64 sc) := (hd7 _ _ q_seen).trans c6_seen_2
      have c7_seen_3 : w7.cell? ⟨w4.heap.size, 3, none⟩ = some (.int .i64 se) := (hd7 _ _ q_seen).trans c6_seen_3
      have c7_want_0 : w7.cell? ⟨w5.heap.size, 0, none⟩ = some (.int .i64 sa) := (hd7 _ _ q_want).trans c6_want_0
      have c7_want_1 : w7.cell? ⟨w5.heap.size, 1, none⟩ = some (.int .i64 sb) := (hd7 _ _ q_want).trans c6_want_1
      have c7_want_2 : w7.cell? ⟨w5.heap.size, 2, none⟩ = some (.int .i64 sc) := (hd7 _ _ q_want).trans c6_want_2
      have c7_want_3 : w7.cell? ⟨w5.heap.size, 3, none⟩ = some (.int .i64 se) := (hd7 _ _ q_want).trans c6_want_3
      replace q_t : w1.heap.size < w7.heap.size := by omega
      replace q_taken : w2.heap.size < w7.heap.size := by omega
      replace q_right : w3.heap.size < w7.heap.size := by omega
      replace q_seen : w4.heap.size < w7.heap.size := by omega
      replace q_want : w5.heap.size < w7.heap.size := by omega
      have BW7 : Below w.heap.size w w7 := BW6.trans (B7.mono BW6.size)
      clear hc7 hf7 hb7 hd7 B7 c6_t_0 c6_t_1 c6_taken_0 c6_taken_1 c6_right_0 c6_right_1 c6_seen_0 c6_seen_1 c6_seen_2 c6_seen_3 c6_want_0 c6_want_1 c6_want_2 c6_want_3 BW6
      clear q_right c7_right_0 c7_right_1
      clear q_want c7_want_0 c7_want_1 c7_want_2 c7_want_3
      go_upto_if 128 with fail
      go_cut [] from 999 to 999 (fun wx => Below w7.heap.size w7 wx)
      case first =>
        as_aux_lemma =>
          cases so
          · go_wp2_with fail
            go_meet
            case rel => exact Below.refl _ _
          · obtain ⟨⟨g1, g2, g3, g4, g5⟩, g6, g7, g8, g9, g10⟩ := F2.out rfl
            obtain ⟨LL, hLL⟩ : ∃ l, (twoR a0 sa sb sc se (sc, se, sa, sb)).1 = l := ⟨_, rfl⟩
            have Z1 := Lib.hid (fun W => (show Calls Try.prog 15 #[.int .i64 a0, sn sa sb sc se] W (TurnsOut W LL true) from by have := implTimesAlike_any a0 sa sb sc se W; rw [hLL, g6] at this; exact this))
            have HLL := Lib.hid (show LL.length ≤ 1000000 from by rw [← hLL]; exact twoR_len _ _ _ _ _ _)
            rw [hLL] at g7 g8 g9 g10
            clear hLL g6
            have Z2 := Lib.hid (fun W => (show Calls Try.prog 12 #[.int .i64 a0, sn sa sb sc se] W fun e w' => e = .returned (bbv (true, true)) ∧ Below W.heap.size W w' from by have := implIsTrueSeen_any a0 sa sb sc se W; rw [g2] at this; exact this))
            have Z3 := Lib.hid (fun W => (show Calls Try.prog 13 #[.int .i64 a0, sn sa sb sc se] W fun e w' => e = .returned (rv (n1, d1, true)) ∧ Below W.heap.size W w' from by have := implTimeSeen_any a0 sa sb sc se W; rw [g3] at this; exact this))
            have Z4 := Lib.hid (fun W => (show Calls Try.prog 14 #[sn sa sb sc se] W fun e w' => e = .returned (rs (sc, se, sa, sb, true)) ∧ Below W.heap.size W w' from by have := implExchangeSeen_any sa sb sc se W; rw [g4] at this; exact this))
            have Z5 := Lib.hid (fun W => (show Calls Try.prog 12 #[.int .i64 a0, sn sc se sa sb] W fun e w' => e = .returned (bbv (xo, true)) ∧ Below W.heap.size W w' from by have := implIsTrueSeen_any a0 sc se sa sb W; rw [g5] at this; exact this))
            have G1 := Lib.hid g1
            have G7 := Lib.hid g7
            have G8 := Lib.hid (hasT_yes g8)
            have G9 := Lib.hid g9
            have G10 := Lib.hid g10
            clear g1 g2 g3 g4 g5 g7 g8 g9 g10
            go_wp2_with fail
            refine (Z2.out _).mono ?_
            rintro e8 w8 ⟨rfl, hb8⟩
            obtain ⟨hc8, hf8⟩ := bcell hb8
            have hz8 := hb8.size
            (try simp only [World.size_alloc, World.size_setCell, World.size_drew] at hz8)
            have B8 : Below w7.heap.size w7 w8 := Below.trans (b := _) (by (repeat' (first | (with_reducible exact Below.refl _ _) | (with_reducible assumption) | (with_reducible refine Below.alloc ?_ ?_ _) | (with_reducible refine Below.drew ?_) | (with_reducible refine below_drewN ?_ _) | (with_reducible refine Below.setCell ?_ ?_ _) | (with_reducible refine below_call ?_ ?_ (by assumption)) | go_size))) (hb8.mono (by first | omega | (simp only [World.size_alloc, World.size_setCell, World.size_drew]; omega)))
            obtain ⟨hd8, -⟩ := bcell B8
            have c8_t_0 : w8.cell? ⟨w1.heap.size, 0, none⟩ = some (.int .i64 n1) := (hd8 _ _ q_t).trans c7_t_0
            have c8_t_1 : w8.cell? ⟨w1.heap.size, 1, none⟩ = some (.int .i64 d1) := (hd8 _ _ q_t).trans c7_t_1
            have c8_taken_0 : w8.cell? ⟨w2.heap.size, 0, none⟩ = some (.int .i64 xn) := (hd8 _ _ q_taken).trans c7_taken_0
            have c8_taken_1 : w8.cell? ⟨w2.heap.size, 1, none⟩ = some (.int .i64 xd) := (hd8 _ _ q_taken).trans c7_taken_1
            have c8_seen_0 : w8.cell? ⟨w4.heap.size, 0, none⟩ = some (.int .i64 sa) := (hd8 _ _ q_seen).trans c7_seen_0
            have c8_seen_1 : w8.cell? ⟨w4.heap.size, 1, none⟩ = some (.int .i64 sb) := (hd8 _ _ q_seen).trans c7_seen_1
            have c8_seen_2 : w8.cell? ⟨w4.heap.size, 2, none⟩ = some (.int .i64 sc) := (hd8 _ _ q_seen).trans c7_seen_2
            have c8_seen_3 : w8.cell? ⟨w4.heap.size, 3, none⟩ = some (.int .i64 se) := (hd8 _ _ q_seen).trans c7_seen_3
            replace q_t : w1.heap.size < w8.heap.size := by omega
            replace q_taken : w2.heap.size < w8.heap.size := by omega
            replace q_seen : w4.heap.size < w8.heap.size := by omega
            have BW8 : Below w.heap.size w w8 := BW7.trans (B8.mono BW7.size)
            have BX8 : Below w7.heap.size w7 w8 := B8
            clear hc8 hf8 hb8 hd8 B8 c7_t_0 c7_t_1 c7_taken_0 c7_taken_1 c7_seen_0 c7_seen_1 c7_seen_2 c7_seen_3 BW7
            go_wp2_with fail
            refine (Z3.out _).mono ?_
            rintro e9 w9 ⟨rfl, hb9⟩
            obtain ⟨hc9, hf9⟩ := bcell hb9
            have hz9 := hb9.size
            (try simp only [World.size_alloc, World.size_setCell, World.size_drew] at hz9)
            have B9 : Below w8.heap.size w8 w9 := Below.trans (b := _) (by (repeat' (first | (with_reducible exact Below.refl _ _) | (with_reducible assumption) | (with_reducible refine Below.alloc ?_ ?_ _) | (with_reducible refine Below.drew ?_) | (with_reducible refine below_drewN ?_ _) | (with_reducible refine Below.setCell ?_ ?_ _) | (with_reducible refine below_call ?_ ?_ (by assumption)) | go_size))) (hb9.mono (by first | omega | (simp only [World.size_alloc, World.size_setCell, World.size_drew]; omega)))
            obtain ⟨hd9, -⟩ := bcell B9
            have c9_t_0 : w9.cell? ⟨w1.heap.size, 0, none⟩ = some (.int .i64 n1) := (hd9 _ _ q_t).trans c8_t_0
            have c9_t_1 : w9.cell? ⟨w1.heap.size, 1, none⟩ = some (.int .i64 d1) := (hd9 _ _ q_t).trans c8_t_1
            have c9_taken_0 : w9.cell? ⟨w2.heap.size, 0, none⟩ = some (.int .i64 xn) := (hd9 _ _ q_taken).trans c8_taken_0
            have c9_taken_1 : w9.cell? ⟨w2.heap.size, 1, none⟩ = some (.int .i64 xd) := (hd9 _ _ q_taken).trans c8_taken_1
            have c9_seen_0 : w9.cell? ⟨w4.heap.size, 0, none⟩ = some (.int .i64 sa) := (hd9 _ _ q_seen).trans c8_seen_0
            have c9_seen_1 : w9.cell? ⟨w4.heap.size, 1, none⟩ = some (.int .i64 sb) := (hd9 _ _ q_seen).trans c8_seen_1
            have c9_seen_2 : w9.cell? ⟨w4.heap.size, 2, none⟩ = some (.int .i64 sc) := (hd9 _ _ q_seen).trans c8_seen_2
            have c9_seen_3 : w9.cell? ⟨w4.heap.size, 3, none⟩ = some (.int .i64 se) := (hd9 _ _ q_seen).trans c8_seen_3
            replace q_t : w1.heap.size < w9.heap.size := by omega
            replace q_taken : w2.heap.size < w9.heap.size := by omega
            replace q_seen : w4.heap.size < w9.heap.size := by omega
            have BW9 : Below w.heap.size w w9 := BW8.trans (B9.mono BW8.size)
            have BX9 : Below w7.heap.size w7 w9 := BX8.trans (B9.mono BX8.size)
            clear BX8
            clear hc9 hf9 hb9 hd9 B9 c8_t_0 c8_t_1 c8_taken_0 c8_taken_1 c8_seen_0 c8_seen_1 c8_seen_2 c8_seen_3 BW8
            go_wp2_with fail
            refine (Z4.out _).mono ?_
            rintro e10 w10 ⟨rfl, hb10⟩
            obtain ⟨hc10, hf10⟩ := bcell hb10
            have hz10 := hb10.size
            (try simp only [World.size_alloc, World.size_setCell, World.size_drew] at hz10)
            have B10 : Below w9.heap.size w9 w10 := Below.trans (b := _) (by (repeat' (first | (with_reducible exact Below.refl _ _) | (with_reducible assumption) | (with_reducible refine Below.alloc ?_ ?_ _) | (with_reducible refine Below.drew ?_) | (with_reducible refine below_drewN ?_ _) | (with_reducible refine Below.setCell ?_ ?_ _) | (with_reducible refine below_call ?_ ?_ (by assumption)) | go_size))) (hb10.mono (by first | omega | (simp only [World.size_alloc, World.size_setCell, World.size_drew]; omega)))
            obtain ⟨hd10, -⟩ := bcell B10
            have c10_t_0 : w10.cell? ⟨w1.heap.size, 0, none⟩ = some (.int .i64 n1) := (hd10 _ _ q_t).trans c9_t_0
            have c10_t_1 : w10.cell? ⟨w1.heap.size, 1, none⟩ = some (.int .i64 d1) := (hd10 _ _ q_t).trans c9_t_1
            have c10_taken_0 : w10.cell? ⟨w2.heap.size, 0, none⟩ = some (.int .i64 xn) := (hd10 _ _ q_taken).trans c9_taken_0
            have c10_taken_1 : w10.cell? ⟨w2.heap.size, 1, none⟩ = some (.int .i64 xd) := (hd10 _ _ q_taken).trans c9_taken_1
            have c10_seen_0 : w10.cell? ⟨w4.heap.size, 0, none⟩ = some (.int .i64 sa) := (hd10 _ _ q_seen).trans c9_seen_0
            have c10_seen_1 : w10.cell? ⟨w4.heap.size, 1, none⟩ = some (.int .i64 sb) := (hd10 _ _ q_seen).trans c9_seen_1
            have c10_seen_2 : w10.cell? ⟨w4.heap.size, 2, none⟩ = some (.int .i64 sc) := (hd10 _ _ q_seen).trans c9_seen_2
            have c10_seen_3 : w10.cell? ⟨w4.heap.size, 3, none⟩ = some (.int .i64 se) := (hd10 _ _ q_seen).trans c9_seen_3
            replace q_t : w1.heap.size < w10.heap.size := by omega
            replace q_taken : w2.heap.size < w10.heap.size := by omega
            replace q_seen : w4.heap.size < w10.heap.size := by omega
            have c10_time_0 : w10.cell? ⟨w9.heap.size, 0, none⟩ = some (.int .i64 n1) := (hc10 _ _ (by go_size)).trans (by go_simp)
            have c10_time_1 : w10.cell? ⟨w9.heap.size, 1, none⟩ = some (.int .i64 d1) := (hc10 _ _ (by go_size)).trans (by go_simp)
            have q_time : w9.heap.size < w10.heap.size := by omega
            have BW10 : Below w.heap.size w w10 := BW9.trans (B10.mono BW9.size)
            have BX10 : Below w7.heap.size w7 w10 := BX9.trans (B10.mono BX9.size)
            clear BX9
            clear hc10 hf10 hb10 hd10 B10 c9_t_0 c9_t_1 c9_taken_0 c9_taken_1 c9_seen_0 c9_seen_1 c9_seen_2 c9_seen_3 BW9
            go_wp2_with fail
            refine (Z5.out _).mono ?_
            rintro e11 w11 ⟨rfl, hb11⟩
            obtain ⟨hc11, hf11⟩ := bcell hb11
            have hz11 := hb11.size
            (try simp only [World.size_alloc, World.size_setCell, World.size_drew] at hz11)
            have B11 : Below w10.heap.size w10 w11 := Below.trans (b := _) (by (repeat' (first | (with_reducible exact Below.refl _ _) | (with_reducible assumption) | (with_reducible refine Below.alloc ?_ ?_ _) | (with_reducible refine Below.drew ?_) | (with_reducible refine below_drewN ?_ _) | (with_reducible refine Below.setCell ?_ ?_ _) | (with_reducible refine below_call ?_ ?_ (by assumption)) | go_size))) (hb11.mono (by first | omega | (simp only [World.size_alloc, World.size_setCell, World.size_drew]; omega)))
            obtain ⟨hd11, -⟩ := bcell B11
            have c11_t_0 : w11.cell? ⟨w1.heap.size, 0, none⟩ = some (.int .i64 n1) := (hd11 _ _ q_t).trans c10_t_0
            have c11_t_1 : w11.cell? ⟨w1.heap.size, 1, none⟩ = some (.int .i64 d1) := (hd11 _ _ q_t).trans c10_t_1
            have c11_taken_0 : w11.cell? ⟨w2.heap.size, 0, none⟩ = some (.int .i64 xn) := (hd11 _ _ q_taken).trans c10_taken_0
            have c11_taken_1 : w11.cell? ⟨w2.heap.size, 1, none⟩ = some (.int .i64 xd) := (hd11 _ _ q_taken).trans c10_taken_1
            have c11_seen_0 : w11.cell? ⟨w4.heap.size, 0, none⟩ = some (.int .i64 sa) := (hd11 _ _ q_seen).trans c10_seen_0
            have c11_seen_1 : w11.cell? ⟨w4.heap.size, 1, none⟩ = some (.int .i64 sb) := (hd11 _ _ q_seen).trans c10_seen_1
            have c11_seen_2 : w11.cell? ⟨w4.heap.size, 2, none⟩ = some (.int .i64 sc) := (hd11 _ _ q_seen).trans c10_seen_2
            have c11_seen_3 : w11.cell? ⟨w4.heap.size, 3, none⟩ = some (.int .i64 se) := (hd11 _ _ q_seen).trans c10_seen_3
            have c11_time_0 : w11.cell? ⟨w9.heap.size, 0, none⟩ = some (.int .i64 n1) := (hd11 _ _ q_time).trans c10_time_0
            have c11_time_1 : w11.cell? ⟨w9.heap.size, 1, none⟩ = some (.int .i64 d1) := (hd11 _ _ q_time).trans c10_time_1
            replace q_t : w1.heap.size < w11.heap.size := by omega
            replace q_taken : w2.heap.size < w11.heap.size := by omega
            replace q_seen : w4.heap.size < w11.heap.size := by omega
            replace q_time : w9.heap.size < w11.heap.size := by omega
            have c11_other_0 : w11.cell? ⟨w10.heap.size, 0, none⟩ = some (.int .i64 sc) := (hc11 _ _ (by go_size)).trans (by go_simp)
            have c11_other_1 : w11.cell? ⟨w10.heap.size, 1, none⟩ = some (.int .i64 se) := (hc11 _ _ (by go_size)).trans (by go_simp)
            have c11_other_2 : w11.cell? ⟨w10.heap.size, 2, none⟩ = some (.int .i64 sa) := (hc11 _ _ (by go_size)).trans (by go_simp)
            have c11_other_3 : w11.cell? ⟨w10.heap.size, 3, none⟩ = some (.int .i64 sb) := (hc11 _ _ (by go_size)).trans (by go_simp)
            have q_other : w10.heap.size < w11.heap.size := by omega
            have BW11 : Below w.heap.size w w11 := BW10.trans (B11.mono BW10.size)
            have BX11 : Below w7.heap.size w7 w11 := BX10.trans (B11.mono BX10.size)
            clear BX10
            clear hc11 hf11 hb11 hd11 B11 c10_t_0 c10_t_1 c10_taken_0 c10_taken_1 c10_seen_0 c10_seen_1 c10_seen_2 c10_seen_3 c10_time_0 c10_time_1 BW10
            go_wp2_with fail
            refine (Z1.out _).mono ?_
            rintro e12 w12 ⟨v_al, rfl, hr12, hb12⟩
            obtain ⟨pa_al, pc_al, rfl, -⟩ := TRow.cells hr12
            have R12_al := Lib.hid hr12
            clear hr12
            obtain ⟨hc12, hf12⟩ := bcell hb12
            have hz12 := hb12.size
            (try simp only [World.size_alloc, World.size_setCell, World.size_drew] at hz12)
            have B12 : Below w11.heap.size w11 w12 := Below.trans (b := _) (by (repeat' (first | (with_reducible exact Below.refl _ _) | (with_reducible assumption) | (with_reducible refine Below.alloc ?_ ?_ _) | (with_reducible refine Below.drew ?_) | (with_reducible refine below_drewN ?_ _) | (with_reducible refine Below.setCell ?_ ?_ _) | (with_reducible refine below_call ?_ ?_ (by assumption)) | go_size))) (hb12.mono (by first | omega | (simp only [World.size_alloc, World.size_setCell, World.size_drew]; omega)))
            obtain ⟨hd12, -⟩ := bcell B12
            have c12_t_0 : w12.cell? ⟨w1.heap.size, 0, none⟩ = some (.int .i64 n1) := (hd12 _ _ q_t).trans c11_t_0
            have c12_t_1 : w12.cell? ⟨w1.heap.size, 1, none⟩ = some (.int .i64 d1) := (hd12 _ _ q_t).trans c11_t_1
            have c12_taken_0 : w12.cell? ⟨w2.heap.size, 0, none⟩ = some (.int .i64 xn) := (hd12 _ _ q_taken).trans c11_taken_0
            have c12_taken_1 : w12.cell? ⟨w2.heap.size, 1, none⟩ = some (.int .i64 xd) := (hd12 _ _ q_taken).trans c11_taken_1
            have c12_seen_0 : w12.cell? ⟨w4.heap.size, 0, none⟩ = some (.int .i64 sa) := (hd12 _ _ q_seen).trans c11_seen_0
            have c12_seen_1 : w12.cell? ⟨w4.heap.size, 1, none⟩ = some (.int .i64 sb) := (hd12 _ _ q_seen).trans c11_seen_1
            have c12_seen_2 : w12.cell? ⟨w4.heap.size, 2, none⟩ = some (.int .i64 sc) := (hd12 _ _ q_seen).trans c11_seen_2
            have c12_seen_3 : w12.cell? ⟨w4.heap.size, 3, none⟩ = some (.int .i64 se) := (hd12 _ _ q_seen).trans c11_seen_3
            have c12_time_0 : w12.cell? ⟨w9.heap.size, 0, none⟩ = some (.int .i64 n1) := (hd12 _ _ q_time).trans c11_time_0
            have c12_time_1 : w12.cell? ⟨w9.heap.size, 1, none⟩ = some (.int .i64 d1) := (hd12 _ _ q_time).trans c11_time_1
            have c12_other_0 : w12.cell? ⟨w10.heap.size, 0, none⟩ = some (.int .i64 sc) := (hd12 _ _ q_other).trans c11_other_0
            have c12_other_1 : w12.cell? ⟨w10.heap.size, 1, none⟩ = some (.int .i64 se) := (hd12 _ _ q_other).trans c11_other_1
            have c12_other_2 : w12.cell? ⟨w10.heap.size, 2, none⟩ = some (.int .i64 sa) := (hd12 _ _ q_other).trans c11_other_2
            have c12_other_3 : w12.cell? ⟨w10.heap.size, 3, none⟩ = some (.int .i64 sb) := (hd12 _ _ q_other).trans c11_other_3
            replace q_t : w1.heap.size < w12.heap.size := by omega
            replace q_taken : w2.heap.size < w12.heap.size := by omega
            replace q_seen : w4.heap.size < w12.heap.size := by omega
            replace q_time : w9.heap.size < w12.heap.size := by omega
            replace q_other : w10.heap.size < w12.heap.size := by omega
            have BW12 : Below w.heap.size w w12 := BW11.trans (B12.mono BW11.size)
            have BX12 : Below w7.heap.size w7 w12 := BX11.trans (B12.mono BX11.size)
            clear BX11
            clear hc12 hf12 hb12 hd12 B12 c11_t_0 c11_t_1 c11_taken_0 c11_taken_1 c11_seen_0 c11_seen_1 c11_seen_2 c11_seen_3 c11_time_0 c11_time_1 c11_other_0 c11_other_1 c11_other_2 c11_other_3 BW11
            go_wp2_with fail
            refine (isSeen_is sa sb sc se G1.out _).mono ?_
            rintro e13 w13 ⟨rfl, hb13⟩
            obtain ⟨hc13, hf13⟩ := bcell hb13
            have hz13 := hb13.size
            (try simp only [World.size_alloc, World.size_setCell, World.size_drew] at hz13)
            have B13 : Below w12.heap.size w12 w13 := Below.trans (b := _) (by (repeat' (first | (with_reducible exact Below.refl _ _) | (with_reducible assumption) | (with_reducible refine Below.alloc ?_ ?_ _) | (with_reducible refine Below.drew ?_) | (with_reducible refine below_drewN ?_ _) | (with_reducible refine Below.setCell ?_ ?_ _) | (with_reducible refine below_call ?_ ?_ (by assumption)) | go_size))) (hb13.mono (by first | omega | (simp only [World.size_alloc, World.size_setCell, World.size_drew]; omega)))
            obtain ⟨hd13, -⟩ := bcell B13
            have c13_t_0 : w13.cell? ⟨w1.heap.size, 0, none⟩ = some (.int .i64 n1) := (hd13 _ _ q_t).trans c12_t_0
            have c13_t_1 : w13.cell? ⟨w1.heap.size, 1, none⟩ = some (.int .i64 d1) := (hd13 _ _ q_t).trans c12_t_1
            have c13_taken_0 : w13.cell? ⟨w2.heap.size, 0, none⟩ = some (.int .i64 xn) := (hd13 _ _ q_taken).trans c12_taken_0
            have c13_taken_1 : w13.cell? ⟨w2.heap.size, 1, none⟩ = some (.int .i64 xd) := (hd13 _ _ q_taken).trans c12_taken_1
            have c13_seen_0 : w13.cell? ⟨w4.heap.size, 0, none⟩ = some (.int .i64 sa) := (hd13 _ _ q_seen).trans c12_seen_0
            have c13_seen_1 : w13.cell? ⟨w4.heap.size, 1, none⟩ = some (.int .i64 sb) := (hd13 _ _ q_seen).trans c12_seen_1
            have c13_seen_2 : w13.cell? ⟨w4.heap.size, 2, none⟩ = some (.int .i64 sc) := (hd13 _ _ q_seen).trans c12_seen_2
            have c13_seen_3 : w13.cell? ⟨w4.heap.size, 3, none⟩ = some (.int .i64 se) := (hd13 _ _ q_seen).trans c12_seen_3
            have c13_time_0 : w13.cell? ⟨w9.heap.size, 0, none⟩ = some (.int .i64 n1) := (hd13 _ _ q_time).trans c12_time_0
            have c13_time_1 : w13.cell? ⟨w9.heap.size, 1, none⟩ = some (.int .i64 d1) := (hd13 _ _ q_time).trans c12_time_1
            have c13_other_0 : w13.cell? ⟨w10.heap.size, 0, none⟩ = some (.int .i64 sc) := (hd13 _ _ q_other).trans c12_other_0
            have c13_other_1 : w13.cell? ⟨w10.heap.size, 1, none⟩ = some (.int .i64 se) := (hd13 _ _ q_other).trans c12_other_1
            have c13_other_2 : w13.cell? ⟨w10.heap.size, 2, none⟩ = some (.int .i64 sa) := (hd13 _ _ q_other).trans c12_other_2
            have c13_other_3 : w13.cell? ⟨w10.heap.size, 3, none⟩ = some (.int .i64 sb) := (hd13 _ _ q_other).trans c12_other_3
            replace q_t : w1.heap.size < w13.heap.size := by omega
            replace q_taken : w2.heap.size < w13.heap.size := by omega
            replace q_seen : w4.heap.size < w13.heap.size := by omega
            replace q_time : w9.heap.size < w13.heap.size := by omega
            replace q_other : w10.heap.size < w13.heap.size := by omega
            have R13_al := Lib.hid (TRow.below R12_al.out B13)
            clear R12_al
            have BW13 : Below w.heap.size w w13 := BW12.trans (B13.mono BW12.size)
            have BX13 : Below w7.heap.size w7 w13 := BX12.trans (B13.mono BX12.size)
            clear BX12
            clear hc13 hf13 hb13 hd13 B13 c12_t_0 c12_t_1 c12_taken_0 c12_taken_1 c12_seen_0 c12_seen_1 c12_seen_2 c12_seen_3 c12_time_0 c12_time_1 c12_other_0 c12_other_1 c12_other_2 c12_other_3 BW12
            go_wp2_with fail
            refine (wHas_is LL _ _ _ _ _ G8.out R13_al.out HLL.out).mono ?_
            rintro e14 w14 ⟨rfl, hb14⟩
            obtain ⟨hc14, hf14⟩ := bcell hb14
            have hz14 := hb14.size
            (try simp only [World.size_alloc, World.size_setCell, World.size_drew] at hz14)
            have B14 : Below w13.heap.size w13 w14 := Below.trans (b := _) (by (repeat' (first | (with_reducible exact Below.refl _ _) | (with_reducible assumption) | (with_reducible refine Below.alloc ?_ ?_ _) | (with_reducible refine Below.drew ?_) | (with_reducible refine below_drewN ?_ _) | (with_reducible refine Below.setCell ?_ ?_ _) | (with_reducible refine below_call ?_ ?_ (by assumption)) | go_size))) (hb14.mono (by first | omega | (simp only [World.size_alloc, World.size_setCell, World.size_drew]; omega)))
            obtain ⟨hd14, -⟩ := bcell B14
            have c14_t_0 : w14.cell? ⟨w1.heap.size, 0, none⟩ = some (.int .i64 n1) := (hd14 _ _ q_t).trans c13_t_0
            have c14_t_1 : w14.cell? ⟨w1.heap.size, 1, none⟩ = some (.int .i64 d1) := (hd14 _ _ q_t).trans c13_t_1
            have c14_taken_0 : w14.cell? ⟨w2.heap.size, 0, none⟩ = some (.int .i64 xn) := (hd14 _ _ q_taken).trans c13_taken_0
            have c14_taken_1 : w14.cell? ⟨w2.heap.size, 1, none⟩ = some (.int .i64 xd) := (hd14 _ _ q_taken).trans c13_taken_1
            have c14_seen_0 : w14.cell? ⟨w4.heap.size, 0, none⟩ = some (.int .i64 sa) := (hd14 _ _ q_seen).trans c13_seen_0
            have c14_seen_1 : w14.cell? ⟨w4.heap.size, 1, none⟩ = some (.int .i64 sb) := (hd14 _ _ q_seen).trans c13_seen_1
            have c14_seen_2 : w14.cell? ⟨w4.heap.size, 2, none⟩ = some (.int .i64 sc) := (hd14 _ _ q_seen).trans c13_seen_2
            have c14_seen_3 : w14.cell? ⟨w4.heap.size, 3, none⟩ = some (.int .i64 se) := (hd14 _ _ q_seen).trans c13_seen_3
            have c14_time_0 : w14.cell? ⟨w9.heap.size, 0, none⟩ = some (.int .i64 n1) := (hd14 _ _ q_time).trans c13_time_0
            have c14_time_1 : w14.cell? ⟨w9.heap.size, 1, none⟩ = some (.int .i64 d1) := (hd14 _ _ q_time).trans c13_time_1
            have c14_other_0 : w14.cell? ⟨w10.heap.size, 0, none⟩ = some (.int .i64 sc) := (hd14 _ _ q_other).trans c13_other_0
            have c14_other_1 : w14.cell? ⟨w10.heap.size, 1, none⟩ = some (.int .i64 se) := (hd14 _ _ q_other).trans c13_other_1
            have c14_other_2 : w14.cell? ⟨w10.heap.size, 2, none⟩ = some (.int .i64 sa) := (hd14 _ _ q_other).trans c13_other_2
            have c14_other_3 : w14.cell? ⟨w10.heap.size, 3, none⟩ = some (.int .i64 sb) := (hd14 _ _ q_other).trans c13_other_3
            replace q_t : w1.heap.size < w14.heap.size := by omega
            replace q_taken : w2.heap.size < w14.heap.size := by omega
            replace q_seen : w4.heap.size < w14.heap.size := by omega
            replace q_time : w9.heap.size < w14.heap.size := by omega
            replace q_other : w10.heap.size < w14.heap.size := by omega
            have R14_al := Lib.hid (TRow.below R13_al.out B14)
            clear R13_al
            have BW14 : Below w.heap.size w w14 := BW13.trans (B14.mono BW13.size)
            have BX14 : Below w7.heap.size w7 w14 := BX13.trans (B14.mono BX13.size)
            clear BX13
            clear hc14 hf14 hb14 hd14 B14 c13_t_0 c13_t_1 c13_taken_0 c13_taken_1 c13_seen_0 c13_seen_1 c13_seen_2 c13_seen_3 c13_time_0 c13_time_1 c13_other_0 c13_other_1 c13_other_2 c13_other_3 BW13
            go_wp2_with fail
            refine (wRises_yes LL _ _ _ R14_al.out HLL.out G7.out).mono ?_
            rintro e15 w15 ⟨rfl, hb15⟩
            obtain ⟨hc15, hf15⟩ := bcell hb15
            have hz15 := hb15.size
            (try simp only [World.size_alloc, World.size_setCell, World.size_drew] at hz15)
            have B15 : Below w14.heap.size w14 w15 := Below.trans (b := _) (by (repeat' (first | (with_reducible exact Below.refl _ _) | (with_reducible assumption) | (with_reducible refine Below.alloc ?_ ?_ _) | (with_reducible refine Below.drew ?_) | (with_reducible refine below_drewN ?_ _) | (with_reducible refine Below.setCell ?_ ?_ _) | (with_reducible refine below_call ?_ ?_ (by assumption)) | go_size))) (hb15.mono (by first | omega | (simp only [World.size_alloc, World.size_setCell, World.size_drew]; omega)))
            obtain ⟨hd15, -⟩ := bcell B15
            have c15_t_0 : w15.cell? ⟨w1.heap.size, 0, none⟩ = some (.int .i64 n1) := (hd15 _ _ q_t).trans c14_t_0
            have c15_t_1 : w15.cell? ⟨w1.heap.size, 1, none⟩ = some (.int .i64 d1) := (hd15 _ _ q_t).trans c14_t_1
            have c15_taken_0 : w15.cell? ⟨w2.heap.size, 0, none⟩ = some (.int .i64 xn) := (hd15 _ _ q_taken).trans c14_taken_0
            have c15_taken_1 : w15.cell? ⟨w2.heap.size, 1, none⟩ = some (.int .i64 xd) := (hd15 _ _ q_taken).trans c14_taken_1
            have c15_seen_0 : w15.cell? ⟨w4.heap.size, 0, none⟩ = some (.int .i64 sa) := (hd15 _ _ q_seen).trans c14_seen_0
            have c15_seen_1 : w15.cell? ⟨w4.heap.size, 1, none⟩ = some (.int .i64 sb) := (hd15 _ _ q_seen).trans c14_seen_1
            have c15_seen_2 : w15.cell? ⟨w4.heap.size, 2, none⟩ = some (.int .i64 sc) := (hd15 _ _ q_seen).trans c14_seen_2
            have c15_seen_3 : w15.cell? ⟨w4.heap.size, 3, none⟩ = some (.int .i64 se) := (hd15 _ _ q_seen).trans c14_seen_3
            have c15_time_0 : w15.cell? ⟨w9.heap.size, 0, none⟩ = some (.int .i64 n1) := (hd15 _ _ q_time).trans c14_time_0
            have c15_time_1 : w15.cell? ⟨w9.heap.size, 1, none⟩ = some (.int .i64 d1) := (hd15 _ _ q_time).trans c14_time_1
            have c15_other_0 : w15.cell? ⟨w10.heap.size, 0, none⟩ = some (.int .i64 sc) := (hd15 _ _ q_other).trans c14_other_0
            have c15_other_1 : w15.cell? ⟨w10.heap.size, 1, none⟩ = some (.int .i64 se) := (hd15 _ _ q_other).trans c14_other_1
            have c15_other_2 : w15.cell? ⟨w10.heap.size, 2, none⟩ = some (.int .i64 sa) := (hd15 _ _ q_other).trans c14_other_2
            have c15_other_3 : w15.cell? ⟨w10.heap.size, 3, none⟩ = some (.int .i64 sb) := (hd15 _ _ q_other).trans c14_other_3
            replace q_t : w1.heap.size < w15.heap.size := by omega
            replace q_taken : w2.heap.size < w15.heap.size := by omega
            replace q_seen : w4.heap.size < w15.heap.size := by omega
            replace q_time : w9.heap.size < w15.heap.size := by omega
            replace q_other : w10.heap.size < w15.heap.size := by omega
            have R15_al := Lib.hid (TRow.below R14_al.out B15)
            clear R14_al
            have BW15 : Below w.heap.size w w15 := BW14.trans (B15.mono BW14.size)
            have BX15 : Below w7.heap.size w7 w15 := BX14.trans (B15.mono BX14.size)
            clear BX14
            clear hc15 hf15 hb15 hd15 B15 c14_t_0 c14_t_1 c14_taken_0 c14_taken_1 c14_seen_0 c14_seen_1 c14_seen_2 c14_seen_3 c14_time_0 c14_time_1 c14_other_0 c14_other_1 c14_other_2 c14_other_3 BW14
            obtain ⟨mb, hmb⟩ : ∃ b, b = (xo && !eqT xn xd n1 d1) := ⟨_, rfl⟩
            have HMB := Lib.hid hmb
            clear hmb
            go_upto_region 19 with fail
            go_cut [211] from 999 to 999 (fun x wx => x = .bool mb ∧ Below w15.heap.size w15 wx)
            case first =>
              as_aux_lemma =>
                have e := HMB.out
                cases xo
                · simp only [Bool.false_and] at e
                  subst e
                  go_wp2_with fail
                  go_meet
                  case rel => exact ⟨rfl, Below.refl _ _⟩
                · simp only [Bool.true_and] at e
                  subst e
                  go_wp2_with fail
                  go_meet
                  case rel => exact ⟨rfl, Below.refl _ _⟩
            case rest =>
              obtain ⟨rfl, hb16⟩ := hcut
              obtain ⟨w16, hw16⟩ : ∃ x : World, x = wc := ⟨_, rfl⟩
              subst hw16
              obtain ⟨hc16, hf16⟩ := bcell hb16
              have hz16 := hb16.size
              (try simp only [World.size_alloc, World.size_setCell, World.size_drew] at hz16)
              have B16 : Below w15.heap.size w15 w16 := Below.trans (b := _) (by (repeat' (first | (with_reducible exact Below.refl _ _) | (with_reducible assumption) | (with_reducible refine Below.alloc ?_ ?_ _) | (with_reducible refine Below.drew ?_) | (with_reducible refine below_drewN ?_ _) | (with_reducible refine Below.setCell ?_ ?_ _) | (with_reducible refine below_call ?_ ?_ (by assumption)) | go_size))) (hb16.mono (by first | omega | (simp only [World.size_alloc, World.size_setCell, World.size_drew]; omega)))
              obtain ⟨hd16, -⟩ := bcell B16
              have c16_t_0 : w16.cell? ⟨w1.heap.size, 0, none⟩ = some (.int .i64 n1) := (hd16 _ _ q_t).trans c15_t_0
              have c16_t_1 : w16.cell? ⟨w1.heap.size, 1, none⟩ = some (.int .i64 d1) := (hd16 _ _ q_t).trans c15_t_1
              have c16_taken_0 : w16.cell? ⟨w2.heap.size, 0, none⟩ = some (.int .i64 xn) := (hd16 _ _ q_taken).trans c15_taken_0
              have c16_taken_1 : w16.cell? ⟨w2.heap.size, 1, none⟩ = some (.int .i64 xd) := (hd16 _ _ q_taken).trans c15_taken_1
              have c16_seen_0 : w16.cell? ⟨w4.heap.size, 0, none⟩ = some (.int .i64 sa) := (hd16 _ _ q_seen).trans c15_seen_0
              have c16_seen_1 : w16.cell? ⟨w4.heap.size, 1, none⟩ = some (.int .i64 sb) := (hd16 _ _ q_seen).trans c15_seen_1
              have c16_seen_2 : w16.cell? ⟨w4.heap.size, 2, none⟩ = some (.int .i64 sc) := (hd16 _ _ q_seen).trans c15_seen_2
              have c16_seen_3 : w16.cell? ⟨w4.heap.size, 3, none⟩ = some (.int .i64 se) := (hd16 _ _ q_seen).trans c15_seen_3
              have c16_time_0 : w16.cell? ⟨w9.heap.size, 0, none⟩ = some (.int .i64 n1) := (hd16 _ _ q_time).trans c15_time_0
              have c16_time_1 : w16.cell? ⟨w9.heap.size, 1, none⟩ = some (.int .i64 d1) := (hd16 _ _ q_time).trans c15_time_1
              have c16_other_0 : w16.cell? ⟨w10.heap.size, 0, none⟩ = some (.int .i64 sc) := (hd16 _ _ q_other).trans c15_other_0
              have c16_other_1 : w16.cell? ⟨w10.heap.size, 1, none⟩ = some (.int .i64 se) := (hd16 _ _ q_other).trans c15_other_1
              have c16_other_2 : w16.cell? ⟨w10.heap.size, 2, none⟩ = some (.int .i64 sa) := (hd16 _ _ q_other).trans c15_other_2
              have c16_other_3 : w16.cell? ⟨w10.heap.size, 3, none⟩ = some (.int .i64 sb) := (hd16 _ _ q_other).trans c15_other_3
              replace q_t : w1.heap.size < w16.heap.size := by omega
              replace q_taken : w2.heap.size < w16.heap.size := by omega
              replace q_seen : w4.heap.size < w16.heap.size := by omega
              replace q_time : w9.heap.size < w16.heap.size := by omega
              replace q_other : w10.heap.size < w16.heap.size := by omega
              have R16_al := Lib.hid (TRow.below R15_al.out B16)
              clear R15_al
              have BW16 : Below w.heap.size w w16 := BW15.trans (B16.mono BW15.size)
              have BX16 : Below w7.heap.size w7 w16 := BX15.trans (B16.mono BX15.size)
              clear BX15
              clear hc16 hf16 hb16 hd16 B16 c15_t_0 c15_t_1 c15_taken_0 c15_taken_1 c15_seen_0 c15_seen_1 c15_seen_2 c15_seen_3 c15_time_0 c15_time_1 c15_other_0 c15_other_1 c15_other_2 c15_other_3 BW15
              obtain ⟨mv, hmv⟩ : ∃ v : Int, v = if mb = true then 2 else 1 := ⟨_, rfl⟩
              have HML := Lib.hid (show ((LL.length : Int) != mv) = false from by
                rw [hmv, HMB.out]
                cases xo
                · rw [G9.out rfl]; rfl
                · rw [(G10.out rfl).2]
                  cases eqT xn xd n1 d1 <;> rfl)
              have HMV := Lib.hid hmv
              clear hmv
              go_upto_if 211 with fail
              go_cut [25] from 999 to 999 (fun x wx => x = .int .i64 mv ∧ Below w16.heap.size w16 wx)
              case first =>
                as_aux_lemma =>
                  have e := HMV.out
                  cases mb
                  · simp at e
                    subst e
                    go_wp2_with fail
                    go_meet
                    case rel => exact ⟨rfl, Below.refl _ _⟩
                  · simp at e
                    subst e
                    go_wp2_with fail
                    go_meet
                    case rel => exact ⟨rfl, Below.refl _ _⟩
              case rest =>
                obtain ⟨rfl, hb17⟩ := hcut
                obtain ⟨w17, hw17⟩ : ∃ x : World, x = wc := ⟨_, rfl⟩
                subst hw17
                obtain ⟨hc17, hf17⟩ := bcell hb17
                have hz17 := hb17.size
                (try simp only [World.size_alloc, World.size_setCell, World.size_drew] at hz17)
                have B17 : Below w16.heap.size w16 w17 := Below.trans (b := _) (by (repeat' (first | (with_reducible exact Below.refl _ _) | (with_reducible assumption) | (with_reducible refine Below.alloc ?_ ?_ _) | (with_reducible refine Below.drew ?_) | (with_reducible refine below_drewN ?_ _) | (with_reducible refine Below.setCell ?_ ?_ _) | (with_reducible refine below_call ?_ ?_ (by assumption)) | go_size))) (hb17.mono (by first | omega | (simp only [World.size_alloc, World.size_setCell, World.size_drew]; omega)))
                obtain ⟨hd17, -⟩ := bcell B17
                have c17_t_0 : w17.cell? ⟨w1.heap.size, 0, none⟩ = some (.int .i64 n1) := (hd17 _ _ q_t).trans c16_t_0
                have c17_t_1 : w17.cell? ⟨w1.heap.size, 1, none⟩ = some (.int .i64 d1) := (hd17 _ _ q_t).trans c16_t_1
                have c17_taken_0 : w17.cell? ⟨w2.heap.size, 0, none⟩ = some (.int .i64 xn) := (hd17 _ _ q_taken).trans c16_taken_0
                have c17_taken_1 : w17.cell? ⟨w2.heap.size, 1, none⟩ = some (.int .i64 xd) := (hd17 _ _ q_taken).trans c16_taken_1
                have c17_seen_0 : w17.cell? ⟨w4.heap.size, 0, none⟩ = some (.int .i64 sa) := (hd17 _ _ q_seen).trans c16_seen_0
                have c17_seen_1 : w17.cell? ⟨w4.heap.size, 1, none⟩ = some (.int .i64 sb) := (hd17 _ _ q_seen).trans c16_seen_1
                have c17_seen_2 : w17.cell? ⟨w4.heap.size, 2, none⟩ = some (.int .i64 sc) := (hd17 _ _ q_seen).trans c16_seen_2
                have c17_seen_3 : w17.cell? ⟨w4.heap.size, 3, none⟩ = some (.int .i64 se) := (hd17 _ _ q_seen).trans c16_seen_3
                have c17_time_0 : w17.cell? ⟨w9.heap.size, 0, none⟩ = some (.int .i64 n1) := (hd17 _ _ q_time).trans c16_time_0
                have c17_time_1 : w17.cell? ⟨w9.heap.size, 1, none⟩ = some (.int .i64 d1) := (hd17 _ _ q_time).trans c16_time_1
                have c17_other_0 : w17.cell? ⟨w10.heap.size, 0, none⟩ = some (.int .i64 sc) := (hd17 _ _ q_other).trans c16_other_0
                have c17_other_1 : w17.cell? ⟨w10.heap.size, 1, none⟩ = some (.int .i64 se) := (hd17 _ _ q_other).trans c16_other_1
                have c17_other_2 : w17.cell? ⟨w10.heap.size, 2, none⟩ = some (.int .i64 sa) := (hd17 _ _ q_other).trans c16_other_2
                have c17_other_3 : w17.cell? ⟨w10.heap.size, 3, none⟩ = some (.int .i64 sb) := (hd17 _ _ q_other).trans c16_other_3
                replace q_t : w1.heap.size < w17.heap.size := by omega
                replace q_taken : w2.heap.size < w17.heap.size := by omega
                replace q_seen : w4.heap.size < w17.heap.size := by omega
                replace q_time : w9.heap.size < w17.heap.size := by omega
                replace q_other : w10.heap.size < w17.heap.size := by omega
                have R17_al := Lib.hid (TRow.below R16_al.out B17)
                clear R16_al
                have BW17 : Below w.heap.size w w17 := BW16.trans (B17.mono BW16.size)
                have BX17 : Below w7.heap.size w7 w17 := BX16.trans (B17.mono BX16.size)
                clear BX16
                clear hc17 hf17 hb17 hd17 B17 c16_t_0 c16_t_1 c16_taken_0 c16_taken_1 c16_seen_0 c16_seen_1 c16_seen_2 c16_seen_3 c16_time_0 c16_time_1 c16_other_0 c16_other_1 c16_other_2 c16_other_3 BW16
                go_upto_region 21 with fail
                go_cut [224] from 999 to 999 (fun x wx => x = .bool false ∧ Below w17.heap.size w17 wx)
                case first =>
                  as_aux_lemma =>
                    have hml := HML.out
                    cases xo
                    · go_wp2_with fail
                      go_meet
                      case rel => exact ⟨rfl, Below.refl _ _⟩
                    · have h10 := Lib.hid (hasT_yes (G10.out rfl).1)
                      go_wp2_with fail
                      refine (wHas_is LL _ _ _ _ _ h10.out R17_al.out HLL.out).mono ?_
                      rintro e18 w18 ⟨rfl, hb18⟩
                      obtain ⟨hc18, hf18⟩ := bcell hb18
                      have hz18 := hb18.size
                      (try simp only [World.size_alloc, World.size_setCell, World.size_drew] at hz18)
                      have B18 : Below w17.heap.size w17 w18 := Below.trans (b := _) (by (repeat' (first | (with_reducible exact Below.refl _ _) | (with_reducible assumption) | (with_reducible refine Below.alloc ?_ ?_ _) | (with_reducible refine Below.drew ?_) | (with_reducible refine below_drewN ?_ _) | (with_reducible refine Below.setCell ?_ ?_ _) | (with_reducible refine below_call ?_ ?_ (by assumption)) | go_size))) (hb18.mono (by first | omega | (simp only [World.size_alloc, World.size_setCell, World.size_drew]; omega)))
                      obtain ⟨hd18, -⟩ := bcell B18
                      have c18_t_0 : w18.cell? ⟨w1.heap.size, 0, none⟩ = some (.int .i64 n1) := (hd18 _ _ q_t).trans c17_t_0
                      have c18_t_1 : w18.cell? ⟨w1.heap.size, 1, none⟩ = some (.int .i64 d1) := (hd18 _ _ q_t).trans c17_t_1
                      have c18_taken_0 : w18.cell? ⟨w2.heap.size, 0, none⟩ = some (.int .i64 xn) := (hd18 _ _ q_taken).trans c17_taken_0
                      have c18_taken_1 : w18.cell? ⟨w2.heap.size, 1, none⟩ = some (.int .i64 xd) := (hd18 _ _ q_taken).trans c17_taken_1
                      have c18_seen_0 : w18.cell? ⟨w4.heap.size, 0, none⟩ = some (.int .i64 sa) := (hd18 _ _ q_seen).trans c17_seen_0
                      have c18_seen_1 : w18.cell? ⟨w4.heap.size, 1, none⟩ = some (.int .i64 sb) := (hd18 _ _ q_seen).trans c17_seen_1
                      have c18_seen_2 : w18.cell? ⟨w4.heap.size, 2, none⟩ = some (.int .i64 sc) := (hd18 _ _ q_seen).trans c17_seen_2
                      have c18_seen_3 : w18.cell? ⟨w4.heap.size, 3, none⟩ = some (.int .i64 se) := (hd18 _ _ q_seen).trans c17_seen_3
                      have c18_time_0 : w18.cell? ⟨w9.heap.size, 0, none⟩ = some (.int .i64 n1) := (hd18 _ _ q_time).trans c17_time_0
                      have c18_time_1 : w18.cell? ⟨w9.heap.size, 1, none⟩ = some (.int .i64 d1) := (hd18 _ _ q_time).trans c17_time_1
                      have c18_other_0 : w18.cell? ⟨w10.heap.size, 0, none⟩ = some (.int .i64 sc) := (hd18 _ _ q_other).trans c17_other_0
                      have c18_other_1 : w18.cell? ⟨w10.heap.size, 1, none⟩ = some (.int .i64 se) := (hd18 _ _ q_other).trans c17_other_1
                      have c18_other_2 : w18.cell? ⟨w10.heap.size, 2, none⟩ = some (.int .i64 sa) := (hd18 _ _ q_other).trans c17_other_2
                      have c18_other_3 : w18.cell? ⟨w10.heap.size, 3, none⟩ = some (.int .i64 sb) := (hd18 _ _ q_other).trans c17_other_3
                      replace q_t : w1.heap.size < w18.heap.size := by omega
                      replace q_taken : w2.heap.size < w18.heap.size := by omega
                      replace q_seen : w4.heap.size < w18.heap.size := by omega
                      replace q_time : w9.heap.size < w18.heap.size := by omega
                      replace q_other : w10.heap.size < w18.heap.size := by omega
                      have R18_al := Lib.hid (TRow.below R17_al.out B18)
                      clear R17_al
                      have BW18 : Below w.heap.size w w18 := BW17.trans (B18.mono BW17.size)
                      have BX18 : Below w17.heap.size w17 w18 := B18
                      clear hc18 hf18 hb18 hd18 B18 c17_t_0 c17_t_1 c17_taken_0 c17_taken_1 c17_seen_0 c17_seen_1 c17_seen_2 c17_seen_3 c17_time_0 c17_time_1 c17_other_0 c17_other_1 c17_other_2 c17_other_3 BW17
                      go_wp2_with fail
                      go_meet
                      case rel => exact ⟨rfl, BX18⟩
                case rest =>
                  obtain ⟨rfl, hb18⟩ := hcut
                  obtain ⟨w18, hw18⟩ : ∃ x : World, x = wc := ⟨_, rfl⟩
                  subst hw18
                  obtain ⟨hc18, hf18⟩ := bcell hb18
                  have hz18 := hb18.size
                  (try simp only [World.size_alloc, World.size_setCell, World.size_drew] at hz18)
                  have B18 : Below w17.heap.size w17 w18 := Below.trans (b := _) (by (repeat' (first | (with_reducible exact Below.refl _ _) | (with_reducible assumption) | (with_reducible refine Below.alloc ?_ ?_ _) | (with_reducible refine Below.drew ?_) | (with_reducible refine below_drewN ?_ _) | (with_reducible refine Below.setCell ?_ ?_ _) | (with_reducible refine below_call ?_ ?_ (by assumption)) | go_size))) (hb18.mono (by first | omega | (simp only [World.size_alloc, World.size_setCell, World.size_drew]; omega)))
                  obtain ⟨hd18, -⟩ := bcell B18
                  have c18_t_0 : w18.cell? ⟨w1.heap.size, 0, none⟩ = some (.int .i64 n1) := (hd18 _ _ q_t).trans c17_t_0
                  have c18_t_1 : w18.cell? ⟨w1.heap.size, 1, none⟩ = some (.int .i64 d1) := (hd18 _ _ q_t).trans c17_t_1
                  have c18_taken_0 : w18.cell? ⟨w2.heap.size, 0, none⟩ = some (.int .i64 xn) := (hd18 _ _ q_taken).trans c17_taken_0
                  have c18_taken_1 : w18.cell? ⟨w2.heap.size, 1, none⟩ = some (.int .i64 xd) := (hd18 _ _ q_taken).trans c17_taken_1
                  have c18_seen_0 : w18.cell? ⟨w4.heap.size, 0, none⟩ = some (.int .i64 sa) := (hd18 _ _ q_seen).trans c17_seen_0
                  have c18_seen_1 : w18.cell? ⟨w4.heap.size, 1, none⟩ = some (.int .i64 sb) := (hd18 _ _ q_seen).trans c17_seen_1
                  have c18_seen_2 : w18.cell? ⟨w4.heap.size, 2, none⟩ = some (.int .i64 sc) := (hd18 _ _ q_seen).trans c17_seen_2
                  have c18_seen_3 : w18.cell? ⟨w4.heap.size, 3, none⟩ = some (.int .i64 se) := (hd18 _ _ q_seen).trans c17_seen_3
                  have c18_time_0 : w18.cell? ⟨w9.heap.size, 0, none⟩ = some (.int .i64 n1) := (hd18 _ _ q_time).trans c17_time_0
                  have c18_time_1 : w18.cell? ⟨w9.heap.size, 1, none⟩ = some (.int .i64 d1) := (hd18 _ _ q_time).trans c17_time_1
                  have c18_other_0 : w18.cell? ⟨w10.heap.size, 0, none⟩ = some (.int .i64 sc) := (hd18 _ _ q_other).trans c17_other_0
                  have c18_other_1 : w18.cell? ⟨w10.heap.size, 1, none⟩ = some (.int .i64 se) := (hd18 _ _ q_other).trans c17_other_1
                  have c18_other_2 : w18.cell? ⟨w10.heap.size, 2, none⟩ = some (.int .i64 sa) := (hd18 _ _ q_other).trans c17_other_2
                  have c18_other_3 : w18.cell? ⟨w10.heap.size, 3, none⟩ = some (.int .i64 sb) := (hd18 _ _ q_other).trans c17_other_3
                  replace q_t : w1.heap.size < w18.heap.size := by omega
                  replace q_taken : w2.heap.size < w18.heap.size := by omega
                  replace q_seen : w4.heap.size < w18.heap.size := by omega
                  replace q_time : w9.heap.size < w18.heap.size := by omega
                  replace q_other : w10.heap.size < w18.heap.size := by omega
                  have R18_al := Lib.hid (TRow.below R17_al.out B18)
                  clear R17_al
                  have BW18 : Below w.heap.size w w18 := BW17.trans (B18.mono BW17.size)
                  have BX18 : Below w7.heap.size w7 w18 := BX17.trans (B18.mono BX17.size)
                  clear BX17
                  clear hc18 hf18 hb18 hd18 B18 c17_t_0 c17_t_1 c17_taken_0 c17_taken_1 c17_seen_0 c17_seen_1 c17_seen_2 c17_seen_3 c17_time_0 c17_time_1 c17_other_0 c17_other_1 c17_other_2 c17_other_3 BW17
                  have hrelB := BX18
                  go_wp2_with fail
                  go_meet
                  case rel => exact hrelB
      case rest =>
        have hb8 := hcut
        obtain ⟨w8, hw8⟩ : ∃ x : World, x = wc := ⟨_, rfl⟩
        subst hw8
        obtain ⟨hc8, hf8⟩ := bcell hb8
        have hz8 := hb8.size
        (try simp only [World.size_alloc, World.size_setCell, World.size_drew] at hz8)
        have B8 : Below w7.heap.size w7 w8 := Below.trans (b := _) (by (repeat' (first | (with_reducible exact Below.refl _ _) | (with_reducible assumption) | (with_reducible refine Below.alloc ?_ ?_ _) | (with_reducible refine Below.drew ?_) | (with_reducible refine below_drewN ?_ _) | (with_reducible refine Below.setCell ?_ ?_ _) | (with_reducible refine below_call ?_ ?_ (by assumption)) | go_size))) (hb8.mono (by first | omega | (simp only [World.size_alloc, World.size_setCell, World.size_drew]; omega)))
        obtain ⟨hd8, -⟩ := bcell B8
        have c8_t_0 : w8.cell? ⟨w1.heap.size, 0, none⟩ = some (.int .i64 n1) := (hd8 _ _ q_t).trans c7_t_0
        have c8_t_1 : w8.cell? ⟨w1.heap.size, 1, none⟩ = some (.int .i64 d1) := (hd8 _ _ q_t).trans c7_t_1
        have c8_taken_0 : w8.cell? ⟨w2.heap.size, 0, none⟩ = some (.int .i64 xn) := (hd8 _ _ q_taken).trans c7_taken_0
        have c8_taken_1 : w8.cell? ⟨w2.heap.size, 1, none⟩ = some (.int .i64 xd) := (hd8 _ _ q_taken).trans c7_taken_1
        have c8_seen_0 : w8.cell? ⟨w4.heap.size, 0, none⟩ = some (.int .i64 sa) := (hd8 _ _ q_seen).trans c7_seen_0
        have c8_seen_1 : w8.cell? ⟨w4.heap.size, 1, none⟩ = some (.int .i64 sb) := (hd8 _ _ q_seen).trans c7_seen_1
        have c8_seen_2 : w8.cell? ⟨w4.heap.size, 2, none⟩ = some (.int .i64 sc) := (hd8 _ _ q_seen).trans c7_seen_2
        have c8_seen_3 : w8.cell? ⟨w4.heap.size, 3, none⟩ = some (.int .i64 se) := (hd8 _ _ q_seen).trans c7_seen_3
        replace q_t : w1.heap.size < w8.heap.size := by omega
        replace q_taken : w2.heap.size < w8.heap.size := by omega
        replace q_seen : w4.heap.size < w8.heap.size := by omega
        have BW8 : Below w.heap.size w w8 := BW7.trans (B8.mono BW7.size)
        clear hc8 hf8 hb8 hd8 B8 c7_t_0 c7_t_1 c7_taken_0 c7_taken_1 c7_seen_0 c7_seen_1 c7_seen_2 c7_seen_3 BW7
        go_upto_if 225 with fail
        go_cut [] from 999 to 999 (fun wx => Below w8.heap.size w8 wx)
        case first =>
          as_aux_lemma =>
            cases xo
            · go_wp2_with fail
              go_meet
              case rel => exact Below.refl _ _
            · obtain ⟨h1, h2⟩ := F3.out rfl
              obtain ⟨hh, hg⟩ := F4.out rfl
              obtain ⟨d1', d2', -, -⟩ := goodB_bd hg
              have hq := hh_bd hh
              have Z1 := Lib.hid (fun W => (show Calls Try.prog 8 #[.int .i64 a0, tv xn xd] W fun e w' => e = .returned (rv (n1, d1, true)) ∧ Below W.heap.size W w' from by have := implExchangedTime_any a0 xn xd W; rw [h1] at this; exact this))
              have hr : (a0 * a0 - 1).tmod d1 = 0 := Int.tmod_eq_zero_of_dvd h2
              clear h1 h2 hg
              obtain ⟨hp, hhp⟩ : ∃ x, a0 * a0 = x := ⟨_, rfl⟩
              rw [hhp] at hr hq
              have HHP := Lib.hid hhp
              clear hhp
              go_wp2_with fail
              refine (Z1.out _).mono ?_
              rintro e9 w9 ⟨rfl, hb9⟩
              obtain ⟨hc9, hf9⟩ := bcell hb9
              have hz9 := hb9.size
              (try simp only [World.size_alloc, World.size_setCell, World.size_drew] at hz9)
              have B9 : Below w8.heap.size w8 w9 := Below.trans (b := _) (by (repeat' (first | (with_reducible exact Below.refl _ _) | (with_reducible assumption) | (with_reducible refine Below.alloc ?_ ?_ _) | (with_reducible refine Below.drew ?_) | (with_reducible refine below_drewN ?_ _) | (with_reducible refine Below.setCell ?_ ?_ _) | (with_reducible refine below_call ?_ ?_ (by assumption)) | go_size))) (hb9.mono (by first | omega | (simp only [World.size_alloc, World.size_setCell, World.size_drew]; omega)))
              obtain ⟨hd9, -⟩ := bcell B9
              have c9_t_0 : w9.cell? ⟨w1.heap.size, 0, none⟩ = some (.int .i64 n1) := (hd9 _ _ q_t).trans c8_t_0
              have c9_t_1 : w9.cell? ⟨w1.heap.size, 1, none⟩ = some (.int .i64 d1) := (hd9 _ _ q_t).trans c8_t_1
              have c9_taken_0 : w9.cell? ⟨w2.heap.size, 0, none⟩ = some (.int .i64 xn) := (hd9 _ _ q_taken).trans c8_taken_0
              have c9_taken_1 : w9.cell? ⟨w2.heap.size, 1, none⟩ = some (.int .i64 xd) := (hd9 _ _ q_taken).trans c8_taken_1
              have c9_seen_0 : w9.cell? ⟨w4.heap.size, 0, none⟩ = some (.int .i64 sa) := (hd9 _ _ q_seen).trans c8_seen_0
              have c9_seen_1 : w9.cell? ⟨w4.heap.size, 1, none⟩ = some (.int .i64 sb) := (hd9 _ _ q_seen).trans c8_seen_1
              have c9_seen_2 : w9.cell? ⟨w4.heap.size, 2, none⟩ = some (.int .i64 sc) := (hd9 _ _ q_seen).trans c8_seen_2
              have c9_seen_3 : w9.cell? ⟨w4.heap.size, 3, none⟩ = some (.int .i64 se) := (hd9 _ _ q_seen).trans c8_seen_3
              replace q_t : w1.heap.size < w9.heap.size := by omega
              replace q_taken : w2.heap.size < w9.heap.size := by omega
              replace q_seen : w4.heap.size < w9.heap.size := by omega
              have BW9 : Below w.heap.size w w9 := BW8.trans (B9.mono BW8.size)
              have BX9 : Below w8.heap.size w8 w9 := B9
              clear hc9 hf9 hb9 hd9 B9 c8_t_0 c8_t_1 c8_taken_0 c8_taken_1 c8_seen_0 c8_seen_1 c8_seen_2 c8_seen_3 BW8
              go_upto_region 25 with fail
              have hb10 : Below w9.heap.size w9 (w9.alloc (Obj.cells #[.int .i64 n1, .int .i64 d1] 25)) := by (repeat' (first | (with_reducible exact Below.refl _ _) | (with_reducible assumption) | (with_reducible refine Below.alloc ?_ ?_ _) | (with_reducible refine Below.drew ?_) | (with_reducible refine below_drewN ?_ _) | (with_reducible refine Below.setCell ?_ ?_ _) | (with_reducible refine below_call ?_ ?_ (by assumption)) | go_size))
              have c10_home_0 : (w9.alloc (Obj.cells #[.int .i64 n1, .int .i64 d1] 25)).cell? ⟨w9.heap.size, 0, none⟩ = some (.int .i64 n1) := by go_simp
              have c10_home_1 : (w9.alloc (Obj.cells #[.int .i64 n1, .int .i64 d1] 25)).cell? ⟨w9.heap.size, 1, none⟩ = some (.int .i64 d1) := by go_simp
              have q_home : w9.heap.size < (w9.alloc (Obj.cells #[.int .i64 n1, .int .i64 d1] 25)).heap.size := by go_size
              generalize (w9.alloc (Obj.cells #[.int .i64 n1, .int .i64 d1] 25)) = w10 at *
              obtain ⟨hd10, -⟩ := bcell hb10
              have hz10 := hb10.size
              have c10_t_0 : w10.cell? ⟨w1.heap.size, 0, none⟩ = some (.int .i64 n1) := (hd10 _ _ q_t).trans c9_t_0
              have c10_t_1 : w10.cell? ⟨w1.heap.size, 1, none⟩ = some (.int .i64 d1) := (hd10 _ _ q_t).trans c9_t_1
              have c10_taken_0 : w10.cell? ⟨w2.heap.size, 0, none⟩ = some (.int .i64 xn) := (hd10 _ _ q_taken).trans c9_taken_0
              have c10_taken_1 : w10.cell? ⟨w2.heap.size, 1, none⟩ = some (.int .i64 xd) := (hd10 _ _ q_taken).trans c9_taken_1
              have c10_seen_0 : w10.cell? ⟨w4.heap.size, 0, none⟩ = some (.int .i64 sa) := (hd10 _ _ q_seen).trans c9_seen_0
              have c10_seen_1 : w10.cell? ⟨w4.heap.size, 1, none⟩ = some (.int .i64 sb) := (hd10 _ _ q_seen).trans c9_seen_1
              have c10_seen_2 : w10.cell? ⟨w4.heap.size, 2, none⟩ = some (.int .i64 sc) := (hd10 _ _ q_seen).trans c9_seen_2
              have c10_seen_3 : w10.cell? ⟨w4.heap.size, 3, none⟩ = some (.int .i64 se) := (hd10 _ _ q_seen).trans c9_seen_3
              replace q_t : w1.heap.size < w10.heap.size := by omega
              replace q_taken : w2.heap.size < w10.heap.size := by omega
              replace q_seen : w4.heap.size < w10.heap.size := by omega
              have BW10 : Below w.heap.size w w10 := BW9.trans (hb10.mono BW9.size)
              have BX10 : Below w8.heap.size w8 w10 := BX9.trans (hb10.mono BX9.size)
              clear BX9
              clear hb10 hd10 c9_t_0 c9_t_1 c9_taken_0 c9_taken_1 c9_seen_0 c9_seen_1 c9_seen_2 c9_seen_3 BW9
              have hhp := HHP.out
              have hw1 : IntKind.i64.wrap (a0 * a0) = hp := by rw [hhp, IntKind.wrap_i64]; omega
              have hw2 : IntKind.i64.wrap (hp - 1) = hp - 1 := by rw [IntKind.wrap_i64]; omega
              have hw3 : IntKind.i64.wrap ((hp - 1).tmod d1) = 0 := by rw [hr]; rfl
              have hd0 : ¬ d1 = 0 := by omega
              clear hhp
              have hrelB := BX10
              go_wp2_with fail
              go_meet
              case rel => exact hrelB
        case rest =>
          have hb9 := hcut
          obtain ⟨w9, hw9⟩ : ∃ x : World, x = wc := ⟨_, rfl⟩
          subst hw9
          obtain ⟨hc9, hf9⟩ := bcell hb9
          have hz9 := hb9.size
          (try simp only [World.size_alloc, World.size_setCell, World.size_drew] at hz9)
          have B9 : Below w8.heap.size w8 w9 := Below.trans (b := _) (by (repeat' (first | (with_reducible exact Below.refl _ _) | (with_reducible assumption) | (with_reducible refine Below.alloc ?_ ?_ _) | (with_reducible refine Below.drew ?_) | (with_reducible refine below_drewN ?_ _) | (with_reducible refine Below.setCell ?_ ?_ _) | (with_reducible refine below_call ?_ ?_ (by assumption)) | go_size))) (hb9.mono (by first | omega | (simp only [World.size_alloc, World.size_setCell, World.size_drew]; omega)))
          obtain ⟨hd9, -⟩ := bcell B9
          have c9_t_0 : w9.cell? ⟨w1.heap.size, 0, none⟩ = some (.int .i64 n1) := (hd9 _ _ q_t).trans c8_t_0
          have c9_t_1 : w9.cell? ⟨w1.heap.size, 1, none⟩ = some (.int .i64 d1) := (hd9 _ _ q_t).trans c8_t_1
          have c9_taken_0 : w9.cell? ⟨w2.heap.size, 0, none⟩ = some (.int .i64 xn) := (hd9 _ _ q_taken).trans c8_taken_0
          have c9_taken_1 : w9.cell? ⟨w2.heap.size, 1, none⟩ = some (.int .i64 xd) := (hd9 _ _ q_taken).trans c8_taken_1
          have c9_seen_0 : w9.cell? ⟨w4.heap.size, 0, none⟩ = some (.int .i64 sa) := (hd9 _ _ q_seen).trans c8_seen_0
          have c9_seen_1 : w9.cell? ⟨w4.heap.size, 1, none⟩ = some (.int .i64 sb) := (hd9 _ _ q_seen).trans c8_seen_1
          have c9_seen_2 : w9.cell? ⟨w4.heap.size, 2, none⟩ = some (.int .i64 sc) := (hd9 _ _ q_seen).trans c8_seen_2
          have c9_seen_3 : w9.cell? ⟨w4.heap.size, 3, none⟩ = some (.int .i64 se) := (hd9 _ _ q_seen).trans c8_seen_3
          replace q_t : w1.heap.size < w9.heap.size := by omega
          replace q_taken : w2.heap.size < w9.heap.size := by omega
          replace q_seen : w4.heap.size < w9.heap.size := by omega
          have BW9 : Below w.heap.size w w9 := BW8.trans (B9.mono BW8.size)
          clear hc9 hf9 hb9 hd9 B9 c8_t_0 c8_t_1 c8_taken_0 c8_taken_1 c8_seen_0 c8_seen_1 c8_seen_2 c8_seen_3 BW8
          clear q_taken c9_taken_0 c9_taken_1
          clear q_seen c9_seen_0 c9_seen_1 c9_seen_2 c9_seen_3
          clear q_t c9_t_0 c9_t_1
          go_wp2_with fail
          refine (DrawAllExchanged_any L2 p2 L2.length q2 rfl hlen2 _ (BIn.below HB2.out (by (repeat' (first | (with_reducible exact Below.refl _ _) | (with_reducible assumption) | (with_reducible refine Below.alloc ?_ ?_ _) | (with_reducible refine Below.drew ?_) | (with_reducible refine below_drewN ?_ _) | (with_reducible refine Below.setCell ?_ ?_ _) | (with_reducible refine below_call ?_ ?_ (by assumption)) | go_size))))).mono ?_
          rintro e10 w10 ⟨a2, rfl, k2, hb10⟩
          obtain ⟨hc10, hf10⟩ := bcell hb10
          have hz10 := hb10.size
          (try simp only [World.size_alloc, World.size_setCell, World.size_drew] at hz10)
          have B10 : Below w9.heap.size w9 w10 := Below.trans (b := _) (by (repeat' (first | (with_reducible exact Below.refl _ _) | (with_reducible assumption) | (with_reducible refine Below.alloc ?_ ?_ _) | (with_reducible refine Below.drew ?_) | (with_reducible refine below_drewN ?_ _) | (with_reducible refine Below.setCell ?_ ?_ _) | (with_reducible refine below_call ?_ ?_ (by assumption)) | go_size))) (hb10.mono (by first | omega | (simp only [World.size_alloc, World.size_setCell, World.size_drew]; omega)))
          obtain ⟨hd10, -⟩ := bcell B10
          have BW10 : Below w.heap.size w w10 := BW9.trans (B10.mono BW9.size)
          clear hc10 hf10 hb10 hd10 B10  BW9
          obtain ⟨gb, hgb⟩ : ∃ g, inB a2 2 24 = g := ⟨_, rfl⟩
          obtain ⟨LA, hLA⟩ : ∃ l, exL a2 = l := ⟨_, rfl⟩
          obtain ⟨LO, hLO⟩ : ∃ l, ownL a2 = l := ⟨_, rfl⟩
          obtain ⟨cv, co, hC⟩ : ∃ x o, cntU a2 = (x, o) := ⟨_, _, rfl⟩
          obtain ⟨rfl, hcv⟩ := cnt_ok hC hgb
          have C5 := Lib.hid (fun W => (show Calls Try.prog 20 #[.int .i64 a2] W (TurnsOut W LA co) from by have := implAllExchanged_any a2 W; rw [hLA, hgb] at this; exact this))
          have C6 := Lib.hid (fun W => (show Calls Try.prog 21 #[.int .i64 a2] W (TurnsOut W LA co) from by have := specAllExchanged_any a2 W; rw [hLA, hgb] at this; exact this))
          have C7 := Lib.hid (fun W => (show Calls Try.prog 22 #[.int .i64 a2] W fun e w' => e = .returned (iv (cv, co)) ∧ Below W.heap.size W w' from by have := implCountUnsure_any a2 W; rw [hC] at this; exact this))
          have C8 := Lib.hid (fun W => (show Calls Try.prog 23 #[.int .i64 a2] W fun e w' => e = .returned (iv (cv, co)) ∧ Below W.heap.size W w' from by have := specCountUnsure_any a2 W; rw [hC] at this; exact this))
          have C9 := Lib.hid (fun W => (show Calls Try.prog 24 #[.int .i64 a2] W (TurnsOut W LO co) from by have := implOwnMirrors_any a2 W; rw [hLO, hgb] at this; exact this))
          have C10 := Lib.hid (fun W => (show Calls Try.prog 25 #[.int .i64 a2] W (TurnsOut W LO co) from by have := specOwnMirrors_any a2 W; rw [hLO, hgb] at this; exact this))
          have HLA := Lib.hid (show LA.length ≤ 1000000 from by rw [← hLA]; exact exL_len a2)
          have HLO := Lib.hid (show LO.length ≤ 1000000 from by rw [← hLO]; exact ownL_len a2)
          have F5 := Lib.hid (fun (e : co = true) => (show (2 ≤ a2 ∧ a2 ≤ 24) ∧ LA = evL (a2 * a2 - 1) ∧ LO = evL 2 ∧ cv = a2 * a2 - 1 - (a2 - 1) from ⟨inB_bd (hgb.trans e), by rw [← hLA]; exact exL_yes (hgb.trans e), by rw [← hLO]; unfold ownL; rw [if_pos (hgb.trans e)], hcv e⟩))
          clear hgb hLA hLO hC hcv
          go_wp2_with fail
          refine (C5.out _).mono ?_
          rintro e11 w11 ⟨v_all, rfl, hr11, hb11⟩
          obtain ⟨pa_all, pc_all, rfl, -⟩ := TRow.cells hr11
          have R11_all := Lib.hid hr11
          clear hr11
          obtain ⟨hc11, hf11⟩ := bcell hb11
          have hz11 := hb11.size
          (try simp only [World.size_alloc, World.size_setCell, World.size_drew] at hz11)
          have B11 : Below w10.heap.size w10 w11 := Below.trans (b := _) (by (repeat' (first | (with_reducible exact Below.refl _ _) | (with_reducible assumption) | (with_reducible refine Below.alloc ?_ ?_ _) | (with_reducible refine Below.drew ?_) | (with_reducible refine below_drewN ?_ _) | (with_reducible refine Below.setCell ?_ ?_ _) | (with_reducible refine below_call ?_ ?_ (by assumption)) | go_size))) (hb11.mono (by first | omega | (simp only [World.size_alloc, World.size_setCell, World.size_drew]; omega)))
          obtain ⟨hd11, -⟩ := bcell B11
          have BW11 : Below w.heap.size w w11 := BW10.trans (B11.mono BW10.size)
          clear hc11 hf11 hb11 hd11 B11  BW10
          go_wp2_with fail
          refine (C6.out _).mono ?_
          rintro e12 w12 ⟨v_model, rfl, hr12, hb12⟩
          obtain ⟨pa_model, pc_model, rfl, -⟩ := TRow.cells hr12
          have R12_model := Lib.hid hr12
          clear hr12
          obtain ⟨hc12, hf12⟩ := bcell hb12
          have hz12 := hb12.size
          (try simp only [World.size_alloc, World.size_setCell, World.size_drew] at hz12)
          have B12 : Below w11.heap.size w11 w12 := Below.trans (b := _) (by (repeat' (first | (with_reducible exact Below.refl _ _) | (with_reducible assumption) | (with_reducible refine Below.alloc ?_ ?_ _) | (with_reducible refine Below.drew ?_) | (with_reducible refine below_drewN ?_ _) | (with_reducible refine Below.setCell ?_ ?_ _) | (with_reducible refine below_call ?_ ?_ (by assumption)) | go_size))) (hb12.mono (by first | omega | (simp only [World.size_alloc, World.size_setCell, World.size_drew]; omega)))
          obtain ⟨hd12, -⟩ := bcell B12
          have R12_all := Lib.hid (TRow.below R11_all.out B12)
          clear R11_all
          have BW12 : Below w.heap.size w w12 := BW11.trans (B12.mono BW11.size)
          clear hc12 hf12 hb12 hd12 B12  BW11
          go_wp2_with fail
          refine (C7.out _).mono ?_
          rintro e13 w13 ⟨rfl, hb13⟩
          obtain ⟨hc13, hf13⟩ := bcell hb13
          have hz13 := hb13.size
          (try simp only [World.size_alloc, World.size_setCell, World.size_drew] at hz13)
          have B13 : Below w12.heap.size w12 w13 := Below.trans (b := _) (by (repeat' (first | (with_reducible exact Below.refl _ _) | (with_reducible assumption) | (with_reducible refine Below.alloc ?_ ?_ _) | (with_reducible refine Below.drew ?_) | (with_reducible refine below_drewN ?_ _) | (with_reducible refine Below.setCell ?_ ?_ _) | (with_reducible refine below_call ?_ ?_ (by assumption)) | go_size))) (hb13.mono (by first | omega | (simp only [World.size_alloc, World.size_setCell, World.size_drew]; omega)))
          obtain ⟨hd13, -⟩ := bcell B13
          have R13_all := Lib.hid (TRow.below R12_all.out B13)
          clear R12_all
          have R13_model := Lib.hid (TRow.below R12_model.out B13)
          clear R12_model
          have BW13 : Below w.heap.size w w13 := BW12.trans (B13.mono BW12.size)
          clear hc13 hf13 hb13 hd13 B13  BW12
          go_wp2_with fail
          refine (C8.out _).mono ?_
          rintro e14 w14 ⟨rfl, hb14⟩
          obtain ⟨hc14, hf14⟩ := bcell hb14
          have hz14 := hb14.size
          (try simp only [World.size_alloc, World.size_setCell, World.size_drew] at hz14)
          have B14 : Below w13.heap.size w13 w14 := Below.trans (b := _) (by (repeat' (first | (with_reducible exact Below.refl _ _) | (with_reducible assumption) | (with_reducible refine Below.alloc ?_ ?_ _) | (with_reducible refine Below.drew ?_) | (with_reducible refine below_drewN ?_ _) | (with_reducible refine Below.setCell ?_ ?_ _) | (with_reducible refine below_call ?_ ?_ (by assumption)) | go_size))) (hb14.mono (by first | omega | (simp only [World.size_alloc, World.size_setCell, World.size_drew]; omega)))
          obtain ⟨hd14, -⟩ := bcell B14
          have R14_all := Lib.hid (TRow.below R13_all.out B14)
          clear R13_all
          have R14_model := Lib.hid (TRow.below R13_model.out B14)
          clear R13_model
          have BW14 : Below w.heap.size w w14 := BW13.trans (B14.mono BW13.size)
          clear hc14 hf14 hb14 hd14 B14  BW13
          go_wp2_with fail
          refine (C9.out _).mono ?_
          rintro e15 w15 ⟨v_mir, rfl, hr15, hb15⟩
          obtain ⟨pa_mir, pc_mir, rfl, -⟩ := TRow.cells hr15
          have R15_mir := Lib.hid hr15
          clear hr15
          obtain ⟨hc15, hf15⟩ := bcell hb15
          have hz15 := hb15.size
          (try simp only [World.size_alloc, World.size_setCell, World.size_drew] at hz15)
          have B15 : Below w14.heap.size w14 w15 := Below.trans (b := _) (by (repeat' (first | (with_reducible exact Below.refl _ _) | (with_reducible assumption) | (with_reducible refine Below.alloc ?_ ?_ _) | (with_reducible refine Below.drew ?_) | (with_reducible refine below_drewN ?_ _) | (with_reducible refine Below.setCell ?_ ?_ _) | (with_reducible refine below_call ?_ ?_ (by assumption)) | go_size))) (hb15.mono (by first | omega | (simp only [World.size_alloc, World.size_setCell, World.size_drew]; omega)))
          obtain ⟨hd15, -⟩ := bcell B15
          have R15_all := Lib.hid (TRow.below R14_all.out B15)
          clear R14_all
          have R15_model := Lib.hid (TRow.below R14_model.out B15)
          clear R14_model
          have BW15 : Below w.heap.size w w15 := BW14.trans (B15.mono BW14.size)
          clear hc15 hf15 hb15 hd15 B15  BW14
          go_wp2_with fail
          refine (C10.out _).mono ?_
          rintro e16 w16 ⟨v_due, rfl, hr16, hb16⟩
          obtain ⟨pa_due, pc_due, rfl, -⟩ := TRow.cells hr16
          have R16_due := Lib.hid hr16
          clear hr16
          obtain ⟨hc16, hf16⟩ := bcell hb16
          have hz16 := hb16.size
          (try simp only [World.size_alloc, World.size_setCell, World.size_drew] at hz16)
          have B16 : Below w15.heap.size w15 w16 := Below.trans (b := _) (by (repeat' (first | (with_reducible exact Below.refl _ _) | (with_reducible assumption) | (with_reducible refine Below.alloc ?_ ?_ _) | (with_reducible refine Below.drew ?_) | (with_reducible refine below_drewN ?_ _) | (with_reducible refine Below.setCell ?_ ?_ _) | (with_reducible refine below_call ?_ ?_ (by assumption)) | go_size))) (hb16.mono (by first | omega | (simp only [World.size_alloc, World.size_setCell, World.size_drew]; omega)))
          obtain ⟨hd16, -⟩ := bcell B16
          have R16_all := Lib.hid (TRow.below R15_all.out B16)
          clear R15_all
          have R16_model := Lib.hid (TRow.below R15_model.out B16)
          clear R15_model
          have R16_mir := Lib.hid (TRow.below R15_mir.out B16)
          clear R15_mir
          have BW16 : Below w.heap.size w w16 := BW15.trans (B16.mono BW15.size)
          clear hc16 hf16 hb16 hd16 B16  BW15
          go_wp2_with fail
          refine (wTurns_same LA _ _ _ _ _ R16_all.out R16_model.out HLA.out).mono ?_
          rintro e17 w17 ⟨rfl, hb17⟩
          obtain ⟨hc17, hf17⟩ := bcell hb17
          have hz17 := hb17.size
          (try simp only [World.size_alloc, World.size_setCell, World.size_drew] at hz17)
          have B17 : Below w16.heap.size w16 w17 := Below.trans (b := _) (by (repeat' (first | (with_reducible exact Below.refl _ _) | (with_reducible assumption) | (with_reducible refine Below.alloc ?_ ?_ _) | (with_reducible refine Below.drew ?_) | (with_reducible refine below_drewN ?_ _) | (with_reducible refine Below.setCell ?_ ?_ _) | (with_reducible refine below_call ?_ ?_ (by assumption)) | go_size))) (hb17.mono (by first | omega | (simp only [World.size_alloc, World.size_setCell, World.size_drew]; omega)))
          obtain ⟨hd17, -⟩ := bcell B17
          have R17_all := Lib.hid (TRow.below R16_all.out B17)
          clear R16_all
          have R17_model := Lib.hid (TRow.below R16_model.out B17)
          clear R16_model
          have R17_mir := Lib.hid (TRow.below R16_mir.out B17)
          clear R16_mir
          have R17_due := Lib.hid (TRow.below R16_due.out B17)
          clear R16_due
          have BW17 : Below w.heap.size w w17 := BW16.trans (B17.mono BW16.size)
          clear hc17 hf17 hb17 hd17 B17  BW16
          go_wp2_with fail
          refine (wTurns_same LO _ _ _ _ _ R17_mir.out R17_due.out HLO.out).mono ?_
          rintro e18 w18 ⟨rfl, hb18⟩
          obtain ⟨hc18, hf18⟩ := bcell hb18
          have hz18 := hb18.size
          (try simp only [World.size_alloc, World.size_setCell, World.size_drew] at hz18)
          have B18 : Below w17.heap.size w17 w18 := Below.trans (b := _) (by (repeat' (first | (with_reducible exact Below.refl _ _) | (with_reducible assumption) | (with_reducible refine Below.alloc ?_ ?_ _) | (with_reducible refine Below.drew ?_) | (with_reducible refine below_drewN ?_ _) | (with_reducible refine Below.setCell ?_ ?_ _) | (with_reducible refine below_call ?_ ?_ (by assumption)) | go_size))) (hb18.mono (by first | omega | (simp only [World.size_alloc, World.size_setCell, World.size_drew]; omega)))
          obtain ⟨hd18, -⟩ := bcell B18
          have R18_all := Lib.hid (TRow.below R17_all.out B18)
          clear R17_all
          have R18_model := Lib.hid (TRow.below R17_model.out B18)
          clear R17_model
          have R18_mir := Lib.hid (TRow.below R17_mir.out B18)
          clear R17_mir
          have R18_due := Lib.hid (TRow.below R17_due.out B18)
          clear R17_due
          have BW18 : Below w.heap.size w w18 := BW17.trans (B18.mono BW17.size)
          clear hc18 hf18 hb18 hd18 B18  BW17
          clear R18_model
          clear R18_due
          go_upto_if 321 with fail
          go_cut [] from 999 to 999 (fun wx => Below w18.heap.size w18 wx)
          case first =>
            as_aux_lemma =>
              cases co
              · go_wp2_with fail
                go_meet
                case rel => exact Below.refl _ _
              · obtain ⟨hh, hla, hlo, hcv⟩ := F5.out rfl
                have hq := hh_bd hh
                obtain ⟨N, hN⟩ : ∃ N, a2 * a2 - 1 = N := ⟨_, rfl⟩
                rw [hN] at hla hcv
                have hNb : 3 ≤ N ∧ N ≤ 575 := by omega
                have HN := Lib.hid hN
                have HGA := Lib.hid (fun (j : Nat) (h : j < LA.length) => (show LA.getD j (0, 0) = (lowNum j N, lowDen j N) from by subst hla; exact evL_get h))
                have HLL := Lib.hid (show (LA.length : Int) = N from by subst hla; simp [evL]; omega)
                have HL2 := Lib.hid (show LO.length = 2 from by rw [hlo]; rfl)
                have HRA := Lib.hid (show Rises LA from by rw [hla]; exact ev_rises (by omega) (by omega))
                have HRO := Lib.hid (show Rises LO from by rw [hlo]; exact ev_rises (by omega) (by omega))
                have HOO := Lib.hid (fun x (hx : x ∈ LO) => own_ok hh (by rw [← hlo]; exact hx))
                have HU := Lib.hid (show uns a2 LA.length = cv from by rw [hcv, ← hN, ← uns_all hh]; congr 1; have := HLL.out; omega)
                have HX := Lib.hid (fun (k : Nat) => (show exTimeT a2 (lowNum k N) (lowDen k N) = (lowNum (k * a2) N, lowDen (k * a2) N, true) ∧ eqT (lowNum (k * a2) N) (lowDen (k * a2) N) (lowNum k N) (lowDen k N) = decide ((a2 + 1) ∣ (k : Int)) from by have e1 := ev_ex (k := (k : Int)) hh; have e2 := ev_self (k := (k : Int)) hh; rw [hN] at e1 e2; exact ⟨e1, e2⟩))
                clear hla hlo hcv hN
                go_wp2_with fail
                go_loopw [41, 324] (fun u i wr => ∃ k : Nat, k ≤ LA.length ∧ i = .int .i64 (k : Int) ∧ u = .int .i64 (uns a2 k) ∧ Below w18.heap.size w18 wr) (fun _ i _ => LA.length - (RowKit.intOf i).toNat)
                case atStart => exact ⟨0, Nat.zero_le _, rfl, rfl, Below.refl _ _⟩
                case round =>
                  obtain ⟨k, hk, rfl, rfl, hb19⟩ := hrel
                  obtain ⟨w19, hw19⟩ : ∃ x : World, x = wr := ⟨_, rfl⟩
                  subst hw19
                  have hb19' := hb19
                  obtain ⟨hc19, hf19⟩ := bcell hb19
                  have hz19 := hb19.size
                  (try simp only [World.size_alloc, World.size_setCell, World.size_drew] at hz19)
                  have B19 : Below w18.heap.size w18 w19 := Below.trans (b := _) (by (repeat' (first | (with_reducible exact Below.refl _ _) | (with_reducible assumption) | (with_reducible refine Below.alloc ?_ ?_ _) | (with_reducible refine Below.drew ?_) | (with_reducible refine below_drewN ?_ _) | (with_reducible refine Below.setCell ?_ ?_ _) | (with_reducible refine below_call ?_ ?_ (by assumption)) | go_size))) (hb19.mono (by first | omega | (simp only [World.size_alloc, World.size_setCell, World.size_drew]; omega)))
                  obtain ⟨hd19, -⟩ := bcell B19
                  have R19_all := Lib.hid (TRow.below R18_all.out B19)
                  clear R18_all
                  have R19_mir := Lib.hid (TRow.below R18_mir.out B19)
                  clear R18_mir
                  have BW19 : Below w.heap.size w w19 := BW18.trans (B19.mono BW18.size)
                  have BX19 : Below w18.heap.size w18 w19 := B19
                  clear hc19 hf19 hb19 hd19 B19  BW18
                  have i0 : (0 : Int) ≤ (k : Int) := Int.natCast_nonneg _
                  have hlm : (LA.length : Int) ≤ 575 := by have := HLL.out; omega
                  by_cases hlt : k < LA.length
                  · have i1 : (k : Int) < (LA.length : Int) := by omega
                    obtain ⟨hx1, hx2⟩ := HX.out k
                    have hget := HGA.out k hlt
                    obtain ⟨pa, pc, hpv, hl1, hl2, hcell⟩ := TRow.cells R19_all.out
                    simp only [Value.slice.injEq] at hpv
                    obtain ⟨hp1, -, hp2⟩ := hpv
                    subst hp1
                    subst hp2
                    obtain ⟨ga, rfl, u1, u2, u3, u4⟩ := hcell k hlt
                    rw [hget] at u3 u4
                    simp only at u3 u4
                    clear hget hcell hl1 hl2 u1
                    generalize lowNum (k : Int) N = p1 at *
                    generalize lowDen (k : Int) N = p2 at *
                    generalize lowNum ((k : Int) * a2) N = p3 at *
                    generalize lowDen ((k : Int) * a2) N = p4 at *
                    have Z1 := Lib.hid (fun W => (show Calls Try.prog 8 #[.int .i64 a2, tv p1 p2] W fun e w' => e = .returned (rv (p3, p4, true)) ∧ Below W.heap.size W w' from by have := implExchangedTime_any a2 p1 p2 W; rw [hx1] at this; exact this))
                    clear hx1
                    have hu := uns_le (h := a2) k
                    have hus : uns a2 (k + 1) = if (a2 + 1) ∣ (k : Int) then uns a2 k else uns a2 k + 1 := rfl
                    have HUS := Lib.hid hus
                    have HX2 := Lib.hid hx2
                    clear hus hx2
                    go_wp2_with fail
                    refine (Z1.out _).mono ?_
                    rintro e20 w20 ⟨rfl, hb20⟩
                    obtain ⟨hc20, hf20⟩ := bcell hb20
                    have hz20 := hb20.size
                    (try simp only [World.size_alloc, World.size_setCell, World.size_drew] at hz20)
                    have B20 : Below w19.heap.size w19 w20 := Below.trans (b := _) (by (repeat' (first | (with_reducible exact Below.refl _ _) | (with_reducible assumption) | (with_reducible refine Below.alloc ?_ ?_ _) | (with_reducible refine Below.drew ?_) | (with_reducible refine below_drewN ?_ _) | (with_reducible refine Below.setCell ?_ ?_ _) | (with_reducible refine below_call ?_ ?_ (by assumption)) | go_size))) (hb20.mono (by first | omega | (simp only [World.size_alloc, World.size_setCell, World.size_drew]; omega)))
                    obtain ⟨hd20, -⟩ := bcell B20
                    have c20_x_0 : w20.cell? ⟨w19.heap.size, 0, none⟩ = some (.int .i64 p1) := (hc20 _ _ (by go_size)).trans (by go_simp)
                    have c20_x_1 : w20.cell? ⟨w19.heap.size, 1, none⟩ = some (.int .i64 p2) := (hc20 _ _ (by go_size)).trans (by go_simp)
                    have q_x : w19.heap.size < w20.heap.size := by omega
                    have R20_all := Lib.hid (TRow.below R19_all.out B20)
                    clear R19_all
                    have R20_mir := Lib.hid (TRow.below R19_mir.out B20)
                    clear R19_mir
                    have BW20 : Below w.heap.size w w20 := BW19.trans (B20.mono BW19.size)
                    have BX20 : Below w19.heap.size w19 w20 := B20
                    clear hc20 hf20 hb20 hd20 B20  BW19
                    go_upto_region 44 with fail
                    have hb21 : Below w20.heap.size w20 (w20.alloc (Obj.cells #[.int .i64 p3, .int .i64 p4] 25)) := by (repeat' (first | (with_reducible exact Below.refl _ _) | (with_reducible assumption) | (with_reducible refine Below.alloc ?_ ?_ _) | (with_reducible refine Below.drew ?_) | (with_reducible refine below_drewN ?_ _) | (with_reducible refine Below.setCell ?_ ?_ _) | (with_reducible refine below_call ?_ ?_ (by assumption)) | go_size))
                    have c21_other_0 : (w20.alloc (Obj.cells #[.int .i64 p3, .int .i64 p4] 25)).cell? ⟨w20.heap.size, 0, none⟩ = some (.int .i64 p3) := by go_simp
                    have c21_other_1 : (w20.alloc (Obj.cells #[.int .i64 p3, .int .i64 p4] 25)).cell? ⟨w20.heap.size, 1, none⟩ = some (.int .i64 p4) := by go_simp
                    have q_other : w20.heap.size < (w20.alloc (Obj.cells #[.int .i64 p3, .int .i64 p4] 25)).heap.size := by go_size
                    generalize (w20.alloc (Obj.cells #[.int .i64 p3, .int .i64 p4] 25)) = w21 at *
                    obtain ⟨hd21, -⟩ := bcell hb21
                    have hz21 := hb21.size
                    have c21_x_0 : w21.cell? ⟨w19.heap.size, 0, none⟩ = some (.int .i64 p1) := (hd21 _ _ q_x).trans c20_x_0
                    have c21_x_1 : w21.cell? ⟨w19.heap.size, 1, none⟩ = some (.int .i64 p2) := (hd21 _ _ q_x).trans c20_x_1
                    replace q_x : w19.heap.size < w21.heap.size := by omega
                    have R21_all := Lib.hid (TRow.below R20_all.out hb21)
                    clear R20_all
                    have R21_mir := Lib.hid (TRow.below R20_mir.out hb21)
                    clear R20_mir
                    have BW21 : Below w.heap.size w w21 := BW20.trans (hb21.mono BW20.size)
                    have BX21 : Below w19.heap.size w19 w21 := BX20.trans (hb21.mono BX20.size)
                    clear BX20
                    clear hb21 hd21 c20_x_0 c20_x_1 BW20
                    by_cases hdv : (a2 + 1) ∣ (k : Int)
                    · have he : eqT p3 p4 p1 p2 = true := HX2.out.trans (decide_eq_true hdv)
                      have hus : uns a2 (k + 1) = uns a2 k := HUS.out.trans (if_pos hdv)
                      have HUU := Lib.hid hus
                      clear hus
                      go_wp2_with fail
                      go_roundw
                      case rel => exact ⟨k + 1, by omega, by go_num, by rw [HUU.out], hb19'.trans (BX21.mono hb19'.size)⟩
                      case measure => simp [RowKit.intOf]; omega
                    · have he : eqT p3 p4 p1 p2 = false := HX2.out.trans (decide_eq_false hdv)
                      have hus : uns a2 (k + 1) = uns a2 k + 1 := HUS.out.trans (if_neg hdv)
                      have HUU := Lib.hid hus
                      clear hus
                      go_wp2_with fail
                      go_roundw
                      case rel => exact ⟨k + 1, by omega, by go_num, by rw [HUU.out], hb19'.trans (BX21.mono hb19'.size)⟩
                      case measure => simp [RowKit.intOf]; omega
                  obtain rfl : k = LA.length := by omega
                  rw [HU.out]
                  have hll := HLL.out
                  have hnn := HN.out
                  have hw1 : IntKind.i64.wrap (a2 * a2) = a2 * a2 := by rw [IntKind.wrap_i64]; omega
                  have hw2 : IntKind.i64.wrap (a2 * a2 - 1) = N := by rw [hnn, IntKind.wrap_i64]; omega
                  have hlen : ((LA.length : Int) != N) = false := by rw [hll]; simp
                  have HLLx := Lib.hid hll
                  clear hll hnn hk
                  go_wp2_with fail
                  refine (wRises_yes LA _ _ _ R19_all.out HLA.out HRA.out).mono ?_
                  rintro e20 w20 ⟨rfl, hb20⟩
                  obtain ⟨hc20, hf20⟩ := bcell hb20
                  have hz20 := hb20.size
                  (try simp only [World.size_alloc, World.size_setCell, World.size_drew] at hz20)
                  have B20 : Below w19.heap.size w19 w20 := Below.trans (b := _) (by (repeat' (first | (with_reducible exact Below.refl _ _) | (with_reducible assumption) | (with_reducible refine Below.alloc ?_ ?_ _) | (with_reducible refine Below.drew ?_) | (with_reducible refine below_drewN ?_ _) | (with_reducible refine Below.setCell ?_ ?_ _) | (with_reducible refine below_call ?_ ?_ (by assumption)) | go_size))) (hb20.mono (by first | omega | (simp only [World.size_alloc, World.size_setCell, World.size_drew]; omega)))
                  obtain ⟨hd20, -⟩ := bcell B20
                  have R20_all := Lib.hid (TRow.below R19_all.out B20)
                  clear R19_all
                  have R20_mir := Lib.hid (TRow.below R19_mir.out B20)
                  clear R19_mir
                  have BW20 : Below w.heap.size w w20 := BW19.trans (B20.mono BW19.size)
                  have BX20 : Below w18.heap.size w18 w20 := BX19.trans (B20.mono BX19.size)
                  clear BX19
                  clear hc20 hf20 hb20 hd20 B20  BW19
                  go_wp2_with fail
                  go_loopw [361] (fun i wr => ∃ k : Nat, k ≤ LO.length ∧ i = .int .i64 (k : Int) ∧ Below w20.heap.size w20 wr) (fun i _ => LO.length - (RowKit.intOf i).toNat)
                  case atStart => exact ⟨0, Nat.zero_le _, rfl, Below.refl _ _⟩
                  case round =>
                    obtain ⟨k, hk, rfl, hb21⟩ := hrel
                    have hb21' := hb21
                    obtain ⟨w21, hw21⟩ : ∃ x : World, x = wr := ⟨_, rfl⟩
                    subst hw21
                    obtain ⟨hc21, hf21⟩ := bcell hb21
                    have hz21 := hb21.size
                    (try simp only [World.size_alloc, World.size_setCell, World.size_drew] at hz21)
                    have B21 : Below w20.heap.size w20 w21 := Below.trans (b := _) (by (repeat' (first | (with_reducible exact Below.refl _ _) | (with_reducible assumption) | (with_reducible refine Below.alloc ?_ ?_ _) | (with_reducible refine Below.drew ?_) | (with_reducible refine below_drewN ?_ _) | (with_reducible refine Below.setCell ?_ ?_ _) | (with_reducible refine below_call ?_ ?_ (by assumption)) | go_size))) (hb21.mono (by first | omega | (simp only [World.size_alloc, World.size_setCell, World.size_drew]; omega)))
                    obtain ⟨hd21, -⟩ := bcell B21
                    have R21_all := Lib.hid (TRow.below R20_all.out B21)
                    clear R20_all
                    have R21_mir := Lib.hid (TRow.below R20_mir.out B21)
                    clear R20_mir
                    have BW21 : Below w.heap.size w w21 := BW20.trans (B21.mono BW20.size)
                    have BX21 : Below w18.heap.size w18 w21 := BX20.trans (B21.mono BX20.size)
                    clear BX20
                    clear hc21 hf21 hb21 hd21 B21  BW20
                    have i0 : (0 : Int) ≤ (k : Int) := Int.natCast_nonneg _
                    have hlb : (LO.length : Int) ≤ 2 := by have := HL2.out; omega
                    have HLM := HL2
                    by_cases hlt : k < LO.length
                    · have i1 : (k : Int) < (LO.length : Int) := by omega
                      have hmem : LO.getD k (0, 0) ∈ LO := by rw [List.getD_eq_getElem?_getD, List.getElem?_eq_getElem hlt]; exact List.getElem_mem hlt
                      obtain ⟨ho1, ho2⟩ := HOO.out _ hmem
                      obtain ⟨pa, pc, hpv, hl1, hl2, hcell⟩ := TRow.cells R21_mir.out
                      simp only [Value.slice.injEq] at hpv
                      obtain ⟨hp1, -, hp2⟩ := hpv
                      subst hp1
                      subst hp2
                      obtain ⟨ga, rfl, u1, u2, u3, u4⟩ := hcell k hlt
                      clear hcell hl1 hl2 u1 hmem
                      generalize LO.getD k (0, 0) = x at *
                      obtain ⟨p1, p2⟩ := x
                      simp only at u3 u4 ho1 ho2
                      obtain ⟨s1, s2, s3, s4, s5, hs⟩ : ∃ a b c e o, seenOfT a2 p1 p2 = (a, b, c, e, o) := ⟨_, _, _, _, _, rfl⟩
                      rw [hs] at ho1 ho2
                      simp only at ho1 ho2
                      subst ho1
                      have Z1 := Lib.hid (fun W => (show Calls Try.prog 10 #[.int .i64 a2, tv p1 p2] W fun e w' => e = .returned (rs (s1, s2, s3, s4, true)) ∧ Below W.heap.size W w' from by have := implSeenOf_any a2 p1 p2 W; rw [hs] at this; exact this))
                      have Z2 := Lib.hid (fun W => (show Calls Try.prog 27 #[sn s1 s2 s3 s4] W fun e w' => e = .returned (rs (s1, s2, s3, s4, true)) ∧ Below W.heap.size W w' from by have := implMirrorSeen_any s1 s2 s3 s4 W; rw [ho2] at this; exact this))
                      clear hs ho2
                      go_wp2_with fail
                      refine (Z1.out _).mono ?_
                      rintro e22 w22 ⟨rfl, hb22⟩
                      obtain ⟨hc22, hf22⟩ := bcell hb22
                      have hz22 := hb22.size
                      (try simp only [World.size_alloc, World.size_setCell, World.size_drew] at hz22)
                      have B22 : Below w21.heap.size w21 w22 := Below.trans (b := _) (by (repeat' (first | (with_reducible exact Below.refl _ _) | (with_reducible assumption) | (with_reducible refine Below.alloc ?_ ?_ _) | (with_reducible refine Below.drew ?_) | (with_reducible refine below_drewN ?_ _) | (with_reducible refine Below.setCell ?_ ?_ _) | (with_reducible refine below_call ?_ ?_ (by assumption)) | go_size))) (hb22.mono (by first | omega | (simp only [World.size_alloc, World.size_setCell, World.size_drew]; omega)))
                      obtain ⟨hd22, -⟩ := bcell B22
                      have c22_x_0 : w22.cell? ⟨w21.heap.size, 0, none⟩ = some (.int .i64 p1) := (hc22 _ _ (by go_size)).trans (by go_simp)
                      have c22_x_1 : w22.cell? ⟨w21.heap.size, 1, none⟩ = some (.int .i64 p2) := (hc22 _ _ (by go_size)).trans (by go_simp)
                      have q_x : w21.heap.size < w22.heap.size := by omega
                      have R22_all := Lib.hid (TRow.below R21_all.out B22)
                      clear R21_all
                      have R22_mir := Lib.hid (TRow.below R21_mir.out B22)
                      clear R21_mir
                      have BW22 : Below w.heap.size w w22 := BW21.trans (B22.mono BW21.size)
                      have BX22 : Below w21.heap.size w21 w22 := B22
                      clear hc22 hf22 hb22 hd22 B22  BW21
                      go_wp2_with fail
                      refine (Z2.out _).mono ?_
                      rintro e23 w23 ⟨rfl, hb23⟩
                      obtain ⟨hc23, hf23⟩ := bcell hb23
                      have hz23 := hb23.size
                      (try simp only [World.size_alloc, World.size_setCell, World.size_drew] at hz23)
                      have B23 : Below w22.heap.size w22 w23 := Below.trans (b := _) (by (repeat' (first | (with_reducible exact Below.refl _ _) | (with_reducible assumption) | (with_reducible refine Below.alloc ?_ ?_ _) | (with_reducible refine Below.drew ?_) | (with_reducible refine below_drewN ?_ _) | (with_reducible refine Below.setCell ?_ ?_ _) | (with_reducible refine below_call ?_ ?_ (by assumption)) | go_size))) (hb23.mono (by first | omega | (simp only [World.size_alloc, World.size_setCell, World.size_drew]; omega)))
                      obtain ⟨hd23, -⟩ := bcell B23
                      have c23_x_0 : w23.cell? ⟨w21.heap.size, 0, none⟩ = some (.int .i64 p1) := (hd23 _ _ q_x).trans c22_x_0
                      have c23_x_1 : w23.cell? ⟨w21.heap.size, 1, none⟩ = some (.int .i64 p2) := (hd23 _ _ q_x).trans c22_x_1
                      replace q_x : w21.heap.size < w23.heap.size := by omega
                      have c23_seen2_0 : w23.cell? ⟨w22.heap.size, 0, none⟩ = some (.int .i64 s1) := (hc23 _ _ (by go_size)).trans (by go_simp)
                      have c23_seen2_1 : w23.cell? ⟨w22.heap.size, 1, none⟩ = some (.int .i64 s2) := (hc23 _ _ (by go_size)).trans (by go_simp)
                      have c23_seen2_2 : w23.cell? ⟨w22.heap.size, 2, none⟩ = some (.int .i64 s3) := (hc23 _ _ (by go_size)).trans (by go_simp)
                      have c23_seen2_3 : w23.cell? ⟨w22.heap.size, 3, none⟩ = some (.int .i64 s4) := (hc23 _ _ (by go_size)).trans (by go_simp)
                      have q_seen2 : w22.heap.size < w23.heap.size := by omega
                      have R23_all := Lib.hid (TRow.below R22_all.out B23)
                      clear R22_all
                      have R23_mir := Lib.hid (TRow.below R22_mir.out B23)
                      clear R22_mir
                      have BW23 : Below w.heap.size w w23 := BW22.trans (B23.mono BW22.size)
                      have BX23 : Below w21.heap.size w21 w23 := BX22.trans (B23.mono BX22.size)
                      clear BX22
                      clear hc23 hf23 hb23 hd23 B23 c22_x_0 c22_x_1 BW22
                      go_upto_region 54 with fail
                      have hb24 : Below w23.heap.size w23 (w23.alloc (Obj.cells #[.int .i64 s1, .int .i64 s2, .int .i64 s3, .int .i64 s4] 31)) := by (repeat' (first | (with_reducible exact Below.refl _ _) | (with_reducible assumption) | (with_reducible refine Below.alloc ?_ ?_ _) | (with_reducible refine Below.drew ?_) | (with_reducible refine below_drewN ?_ _) | (with_reducible refine Below.setCell ?_ ?_ _) | (with_reducible refine below_call ?_ ?_ (by assumption)) | go_size))
                      have c24_glass_0 : (w23.alloc (Obj.cells #[.int .i64 s1, .int .i64 s2, .int .i64 s3, .int .i64 s4] 31)).cell? ⟨w23.heap.size, 0, none⟩ = some (.int .i64 s1) := by go_simp
                      have c24_glass_1 : (w23.alloc (Obj.cells #[.int .i64 s1, .int .i64 s2, .int .i64 s3, .int .i64 s4] 31)).cell? ⟨w23.heap.size, 1, none⟩ = some (.int .i64 s2) := by go_simp
                      have c24_glass_2 : (w23.alloc (Obj.cells #[.int .i64 s1, .int .i64 s2, .int .i64 s3, .int .i64 s4] 31)).cell? ⟨w23.heap.size, 2, none⟩ = some (.int .i64 s3) := by go_simp
                      have c24_glass_3 : (w23.alloc (Obj.cells #[.int .i64 s1, .int .i64 s2, .int .i64 s3, .int .i64 s4] 31)).cell? ⟨w23.heap.size, 3, none⟩ = some (.int .i64 s4) := by go_simp
                      have q_glass : w23.heap.size < (w23.alloc (Obj.cells #[.int .i64 s1, .int .i64 s2, .int .i64 s3, .int .i64 s4] 31)).heap.size := by go_size
                      generalize (w23.alloc (Obj.cells #[.int .i64 s1, .int .i64 s2, .int .i64 s3, .int .i64 s4] 31)) = w24 at *
                      obtain ⟨hd24, -⟩ := bcell hb24
                      have hz24 := hb24.size
                      have c24_x_0 : w24.cell? ⟨w21.heap.size, 0, none⟩ = some (.int .i64 p1) := (hd24 _ _ q_x).trans c23_x_0
                      have c24_x_1 : w24.cell? ⟨w21.heap.size, 1, none⟩ = some (.int .i64 p2) := (hd24 _ _ q_x).trans c23_x_1
                      have c24_seen2_0 : w24.cell? ⟨w22.heap.size, 0, none⟩ = some (.int .i64 s1) := (hd24 _ _ q_seen2).trans c23_seen2_0
                      have c24_seen2_1 : w24.cell? ⟨w22.heap.size, 1, none⟩ = some (.int .i64 s2) := (hd24 _ _ q_seen2).trans c23_seen2_1
                      have c24_seen2_2 : w24.cell? ⟨w22.heap.size, 2, none⟩ = some (.int .i64 s3) := (hd24 _ _ q_seen2).trans c23_seen2_2
                      have c24_seen2_3 : w24.cell? ⟨w22.heap.size, 3, none⟩ = some (.int .i64 s4) := (hd24 _ _ q_seen2).trans c23_seen2_3
                      replace q_x : w21.heap.size < w24.heap.size := by omega
                      replace q_seen2 : w22.heap.size < w24.heap.size := by omega
                      have R24_all := Lib.hid (TRow.below R23_all.out hb24)
                      clear R23_all
                      have R24_mir := Lib.hid (TRow.below R23_mir.out hb24)
                      clear R23_mir
                      have BW24 : Below w.heap.size w w24 := BW23.trans (hb24.mono BW23.size)
                      have BX24 : Below w21.heap.size w21 w24 := BX23.trans (hb24.mono BX23.size)
                      clear BX23
                      clear hb24 hd24 c23_x_0 c23_x_1 c23_seen2_0 c23_seen2_1 c23_seen2_2 c23_seen2_3 BW23
                      go_wp2_with fail
                      go_roundw
                      case rel => exact ⟨k + 1, by omega, by go_num, hb21'.trans (BX24.mono hb21'.size)⟩
                      case measure => simp [RowKit.intOf]; omega
                    skip
                    go_wp2_with fail
                    refine (wRises_yes LO _ _ _ R21_mir.out HLO.out HRO.out).mono ?_
                    rintro e22 w22 ⟨rfl, hb22⟩
                    obtain ⟨hc22, hf22⟩ := bcell hb22
                    have hz22 := hb22.size
                    (try simp only [World.size_alloc, World.size_setCell, World.size_drew] at hz22)
                    have B22 : Below w21.heap.size w21 w22 := Below.trans (b := _) (by (repeat' (first | (with_reducible exact Below.refl _ _) | (with_reducible assumption) | (with_reducible refine Below.alloc ?_ ?_ _) | (with_reducible refine Below.drew ?_) | (with_reducible refine below_drewN ?_ _) | (with_reducible refine Below.setCell ?_ ?_ _) | (with_reducible refine below_call ?_ ?_ (by assumption)) | go_size))) (hb22.mono (by first | omega | (simp only [World.size_alloc, World.size_setCell, World.size_drew]; omega)))
                    obtain ⟨hd22, -⟩ := bcell B22
                    have R22_all := Lib.hid (TRow.below R21_all.out B22)
                    clear R21_all
                    have R22_mir := Lib.hid (TRow.below R21_mir.out B22)
                    clear R21_mir
                    have BW22 : Below w.heap.size w w22 := BW21.trans (B22.mono BW21.size)
                    have BX22 : Below w18.heap.size w18 w22 := BX21.trans (B22.mono BX21.size)
                    clear BX21
                    clear hc22 hf22 hb22 hd22 B22  BW21
                    have hl2 : ((LO.length : Int) != 2) = false := by rw [HLM.out]; rfl
                    have hrelB := BX22
                    go_wp2_with fail
                    go_meet
                    case rel => exact hrelB
          case rest =>
            have hb19 := hcut
            obtain ⟨w19, hw19⟩ : ∃ x : World, x = wc := ⟨_, rfl⟩
            subst hw19
            obtain ⟨hc19, hf19⟩ := bcell hb19
            have hz19 := hb19.size
            (try simp only [World.size_alloc, World.size_setCell, World.size_drew] at hz19)
            have B19 : Below w18.heap.size w18 w19 := Below.trans (b := _) (by (repeat' (first | (with_reducible exact Below.refl _ _) | (with_reducible assumption) | (with_reducible refine Below.alloc ?_ ?_ _) | (with_reducible refine Below.drew ?_) | (with_reducible refine below_drewN ?_ _) | (with_reducible refine Below.setCell ?_ ?_ _) | (with_reducible refine below_call ?_ ?_ (by assumption)) | go_size))) (hb19.mono (by first | omega | (simp only [World.size_alloc, World.size_setCell, World.size_drew]; omega)))
            obtain ⟨hd19, -⟩ := bcell B19
            have R19_all := Lib.hid (TRow.below R18_all.out B19)
            clear R18_all
            have R19_mir := Lib.hid (TRow.below R18_mir.out B19)
            clear R18_mir
            have BW19 : Below w.heap.size w w19 := BW18.trans (B19.mono BW18.size)
            clear hc19 hf19 hb19 hd19 B19  BW18
            clear R19_all
            clear R19_mir
            go_wp2_with fail
            refine (DrawTimeSeen_any L2 p2 L2.length q2 rfl hlen2 _ (BIn.below HB2.out (by (repeat' (first | (with_reducible exact Below.refl _ _) | (with_reducible assumption) | (with_reducible refine Below.alloc ?_ ?_ _) | (with_reducible refine Below.drew ?_) | (with_reducible refine below_drewN ?_ _) | (with_reducible refine Below.setCell ?_ ?_ _) | (with_reducible refine below_call ?_ ?_ (by assumption)) | go_size))))).mono ?_
            rintro e20 w20 ⟨a3, n4, d4, x4, y4, rfl, ⟨k3, kn4, kd4, kx4, ky4⟩, hb20⟩
            obtain ⟨hc20, hf20⟩ := bcell hb20
            have hz20 := hb20.size
            (try simp only [World.size_alloc, World.size_setCell, World.size_drew] at hz20)
            have B20 : Below w19.heap.size w19 w20 := Below.trans (b := _) (by (repeat' (first | (with_reducible exact Below.refl _ _) | (with_reducible assumption) | (with_reducible refine Below.alloc ?_ ?_ _) | (with_reducible refine Below.drew ?_) | (with_reducible refine below_drewN ?_ _) | (with_reducible refine Below.setCell ?_ ?_ _) | (with_reducible refine below_call ?_ ?_ (by assumption)) | go_size))) (hb20.mono (by first | omega | (simp only [World.size_alloc, World.size_setCell, World.size_drew]; omega)))
            obtain ⟨hd20, -⟩ := bcell B20
            have BW20 : Below w.heap.size w w20 := BW19.trans (B20.mono BW19.size)
            clear hc20 hf20 hb20 hd20 B20  BW19
            obtain ⟨qn, qd, qo, hQ⟩ : ∃ x y o, timeSeenT a3 n4 d4 x4 y4 = (x, y, o) := ⟨_, _, _, rfl⟩
            obtain ⟨ib, ie, hI⟩ : ∃ p q, isTrueT a3 n4 d4 x4 y4 = (p, q) := ⟨_, _, rfl⟩
            obtain ⟨LT, lo, hT⟩ : ∃ l o, twoR a3 n4 d4 x4 y4 (x4, y4, n4, d4) = (l, o) := ⟨_, _, rfl⟩
            have C11 := Lib.hid (fun W => (show Calls Try.prog 13 #[.int .i64 a3, sn n4 d4 x4 y4] W fun e w' => e = .returned (rv (qn, qd, qo)) ∧ Below W.heap.size W w' from by have := implTimeSeen_any a3 n4 d4 x4 y4 W; rw [hQ] at this; exact this))
            have C12 := Lib.hid (fun W => (show Calls Try.prog 29 #[.int .i64 a3, sn n4 d4 x4 y4] W fun e w' => e = .returned (rv (qn, qd, qo)) ∧ Below W.heap.size W w' from by have := specTimeSeen_any a3 n4 d4 x4 y4 kd4 ky4 W; rw [hQ] at this; exact this))
            have C13 := Lib.hid (fun W => (show Calls Try.prog 12 #[.int .i64 a3, sn n4 d4 x4 y4] W fun e w' => e = .returned (bbv (ib, ie)) ∧ Below W.heap.size W w' from by have := implIsTrueSeen_any a3 n4 d4 x4 y4 W; rw [hI] at this; exact this))
            have C14 := Lib.hid (fun W => (show Calls Try.prog 30 #[.int .i64 a3, sn n4 d4 x4 y4] W fun e w' => e = .returned (bbv (ib, ie)) ∧ Below W.heap.size W w' from by have := specIsTrueSeen_any a3 n4 d4 x4 y4 kd4 ky4 W; rw [hI] at this; exact this))
            have C15 := Lib.hid (fun W => (show Calls Try.prog 15 #[.int .i64 a3, sn n4 d4 x4 y4] W (TurnsOut W LT lo) from by have := implTimesAlike_any a3 n4 d4 x4 y4 W; rw [hT] at this; exact this))
            have C16 := Lib.hid (fun W => (show Calls Try.prog 31 #[.int .i64 a3, sn n4 d4 x4 y4] W (TurnsOut W LT lo) from by have := specTimesAlike_any a3 n4 d4 x4 y4 kd4 ky4 W; rw [hT] at this; exact this))
            have HLT := Lib.hid (show LT.length ≤ 1000000 from by have := twoR_len a3 n4 d4 x4 y4 (x4, y4, n4, d4); rw [hT] at this; exact this)
            have HQ := Lib.hid (time_three hQ hI)
            have HT := Lib.hid (two_three hT hI)
            clear hQ hI hT
            go_wp2_with fail
            refine (C11.out _).mono ?_
            rintro e21 w21 ⟨rfl, hb21⟩
            obtain ⟨hc21, hf21⟩ := bcell hb21
            have hz21 := hb21.size
            (try simp only [World.size_alloc, World.size_setCell, World.size_drew] at hz21)
            have B21 : Below w20.heap.size w20 w21 := Below.trans (b := _) (by (repeat' (first | (with_reducible exact Below.refl _ _) | (with_reducible assumption) | (with_reducible refine Below.alloc ?_ ?_ _) | (with_reducible refine Below.drew ?_) | (with_reducible refine below_drewN ?_ _) | (with_reducible refine Below.setCell ?_ ?_ _) | (with_reducible refine below_call ?_ ?_ (by assumption)) | go_size))) (hb21.mono (by first | omega | (simp only [World.size_alloc, World.size_setCell, World.size_drew]; omega)))
            obtain ⟨hd21, -⟩ := bcell B21
            have c21_s_0 : w21.cell? ⟨w20.heap.size, 0, none⟩ = some (.int .i64 n4) := (hc21 _ _ (by go_size)).trans (by go_simp)
            have c21_s_1 : w21.cell? ⟨w20.heap.size, 1, none⟩ = some (.int .i64 d4) := (hc21 _ _ (by go_size)).trans (by go_simp)
            have c21_s_2 : w21.cell? ⟨w20.heap.size, 2, none⟩ = some (.int .i64 x4) := (hc21 _ _ (by go_size)).trans (by go_simp)
            have c21_s_3 : w21.cell? ⟨w20.heap.size, 3, none⟩ = some (.int .i64 y4) := (hc21 _ _ (by go_size)).trans (by go_simp)
            have q_s : w20.heap.size < w21.heap.size := by omega
            have BW21 : Below w.heap.size w w21 := BW20.trans (B21.mono BW20.size)
            clear hc21 hf21 hb21 hd21 B21  BW20
            go_wp2_with fail
            refine (C12.out _).mono ?_
            rintro e22 w22 ⟨rfl, hb22⟩
            obtain ⟨hc22, hf22⟩ := bcell hb22
            have hz22 := hb22.size
            (try simp only [World.size_alloc, World.size_setCell, World.size_drew] at hz22)
            have B22 : Below w21.heap.size w21 w22 := Below.trans (b := _) (by (repeat' (first | (with_reducible exact Below.refl _ _) | (with_reducible assumption) | (with_reducible refine Below.alloc ?_ ?_ _) | (with_reducible refine Below.drew ?_) | (with_reducible refine below_drewN ?_ _) | (with_reducible refine Below.setCell ?_ ?_ _) | (with_reducible refine below_call ?_ ?_ (by assumption)) | go_size))) (hb22.mono (by first | omega | (simp only [World.size_alloc, World.size_setCell, World.size_drew]; omega)))
            obtain ⟨hd22, -⟩ := bcell B22
            have c22_s_0 : w22.cell? ⟨w20.heap.size, 0, none⟩ = some (.int .i64 n4) := (hd22 _ _ q_s).trans c21_s_0
            have c22_s_1 : w22.cell? ⟨w20.heap.size, 1, none⟩ = some (.int .i64 d4) := (hd22 _ _ q_s).trans c21_s_1
            have c22_s_2 : w22.cell? ⟨w20.heap.size, 2, none⟩ = some (.int .i64 x4) := (hd22 _ _ q_s).trans c21_s_2
            have c22_s_3 : w22.cell? ⟨w20.heap.size, 3, none⟩ = some (.int .i64 y4) := (hd22 _ _ q_s).trans c21_s_3
            replace q_s : w20.heap.size < w22.heap.size := by omega
            have c22_tm2_0 : w22.cell? ⟨w21.heap.size, 0, none⟩ = some (.int .i64 qn) := (hc22 _ _ (by go_size)).trans (by go_simp)
            have c22_tm2_1 : w22.cell? ⟨w21.heap.size, 1, none⟩ = some (.int .i64 qd) := (hc22 _ _ (by go_size)).trans (by go_simp)
            have q_tm2 : w21.heap.size < w22.heap.size := by omega
            have BW22 : Below w.heap.size w w22 := BW21.trans (B22.mono BW21.size)
            clear hc22 hf22 hb22 hd22 B22 c21_s_0 c21_s_1 c21_s_2 c21_s_3 BW21
            go_wp2_with fail
            refine (C13.out _).mono ?_
            rintro e23 w23 ⟨rfl, hb23⟩
            obtain ⟨hc23, hf23⟩ := bcell hb23
            have hz23 := hb23.size
            (try simp only [World.size_alloc, World.size_setCell, World.size_drew] at hz23)
            have B23 : Below w22.heap.size w22 w23 := Below.trans (b := _) (by (repeat' (first | (with_reducible exact Below.refl _ _) | (with_reducible assumption) | (with_reducible refine Below.alloc ?_ ?_ _) | (with_reducible refine Below.drew ?_) | (with_reducible refine below_drewN ?_ _) | (with_reducible refine Below.setCell ?_ ?_ _) | (with_reducible refine below_call ?_ ?_ (by assumption)) | go_size))) (hb23.mono (by first | omega | (simp only [World.size_alloc, World.size_setCell, World.size_drew]; omega)))
            obtain ⟨hd23, -⟩ := bcell B23
            have c23_s_0 : w23.cell? ⟨w20.heap.size, 0, none⟩ = some (.int .i64 n4) := (hd23 _ _ q_s).trans c22_s_0
            have c23_s_1 : w23.cell? ⟨w20.heap.size, 1, none⟩ = some (.int .i64 d4) := (hd23 _ _ q_s).trans c22_s_1
            have c23_s_2 : w23.cell? ⟨w20.heap.size, 2, none⟩ = some (.int .i64 x4) := (hd23 _ _ q_s).trans c22_s_2
            have c23_s_3 : w23.cell? ⟨w20.heap.size, 3, none⟩ = some (.int .i64 y4) := (hd23 _ _ q_s).trans c22_s_3
            have c23_tm2_0 : w23.cell? ⟨w21.heap.size, 0, none⟩ = some (.int .i64 qn) := (hd23 _ _ q_tm2).trans c22_tm2_0
            have c23_tm2_1 : w23.cell? ⟨w21.heap.size, 1, none⟩ = some (.int .i64 qd) := (hd23 _ _ q_tm2).trans c22_tm2_1
            replace q_s : w20.heap.size < w23.heap.size := by omega
            replace q_tm2 : w21.heap.size < w23.heap.size := by omega
            have c23_number_0 : w23.cell? ⟨w22.heap.size, 0, none⟩ = some (.int .i64 qn) := (hc23 _ _ (by go_size)).trans (by go_simp)
            have c23_number_1 : w23.cell? ⟨w22.heap.size, 1, none⟩ = some (.int .i64 qd) := (hc23 _ _ (by go_size)).trans (by go_simp)
            have q_number : w22.heap.size < w23.heap.size := by omega
            have BW23 : Below w.heap.size w w23 := BW22.trans (B23.mono BW22.size)
            clear hc23 hf23 hb23 hd23 B23 c22_s_0 c22_s_1 c22_s_2 c22_s_3 c22_tm2_0 c22_tm2_1 BW22
            go_wp2_with fail
            refine (C14.out _).mono ?_
            rintro e24 w24 ⟨rfl, hb24⟩
            obtain ⟨hc24, hf24⟩ := bcell hb24
            have hz24 := hb24.size
            (try simp only [World.size_alloc, World.size_setCell, World.size_drew] at hz24)
            have B24 : Below w23.heap.size w23 w24 := Below.trans (b := _) (by (repeat' (first | (with_reducible exact Below.refl _ _) | (with_reducible assumption) | (with_reducible refine Below.alloc ?_ ?_ _) | (with_reducible refine Below.drew ?_) | (with_reducible refine below_drewN ?_ _) | (with_reducible refine Below.setCell ?_ ?_ _) | (with_reducible refine below_call ?_ ?_ (by assumption)) | go_size))) (hb24.mono (by first | omega | (simp only [World.size_alloc, World.size_setCell, World.size_drew]; omega)))
            obtain ⟨hd24, -⟩ := bcell B24
            have c24_s_0 : w24.cell? ⟨w20.heap.size, 0, none⟩ = some (.int .i64 n4) := (hd24 _ _ q_s).trans c23_s_0
            have c24_s_1 : w24.cell? ⟨w20.heap.size, 1, none⟩ = some (.int .i64 d4) := (hd24 _ _ q_s).trans c23_s_1
            have c24_s_2 : w24.cell? ⟨w20.heap.size, 2, none⟩ = some (.int .i64 x4) := (hd24 _ _ q_s).trans c23_s_2
            have c24_s_3 : w24.cell? ⟨w20.heap.size, 3, none⟩ = some (.int .i64 y4) := (hd24 _ _ q_s).trans c23_s_3
            have c24_tm2_0 : w24.cell? ⟨w21.heap.size, 0, none⟩ = some (.int .i64 qn) := (hd24 _ _ q_tm2).trans c23_tm2_0
            have c24_tm2_1 : w24.cell? ⟨w21.heap.size, 1, none⟩ = some (.int .i64 qd) := (hd24 _ _ q_tm2).trans c23_tm2_1
            have c24_number_0 : w24.cell? ⟨w22.heap.size, 0, none⟩ = some (.int .i64 qn) := (hd24 _ _ q_number).trans c23_number_0
            have c24_number_1 : w24.cell? ⟨w22.heap.size, 1, none⟩ = some (.int .i64 qd) := (hd24 _ _ q_number).trans c23_number_1
            replace q_s : w20.heap.size < w24.heap.size := by omega
            replace q_tm2 : w21.heap.size < w24.heap.size := by omega
            replace q_number : w22.heap.size < w24.heap.size := by omega
            have BW24 : Below w.heap.size w w24 := BW23.trans (B24.mono BW23.size)
            clear hc24 hf24 hb24 hd24 B24 c23_s_0 c23_s_1 c23_s_2 c23_s_3 c23_tm2_0 c23_tm2_1 c23_number_0 c23_number_1 BW23
            go_wp2_with fail
            refine (C15.out _).mono ?_
            rintro e25 w25 ⟨v_al2, rfl, hr25, hb25⟩
            obtain ⟨pa_al2, pc_al2, rfl, -⟩ := TRow.cells hr25
            have R25_al2 := Lib.hid hr25
            clear hr25
            obtain ⟨hc25, hf25⟩ := bcell hb25
            have hz25 := hb25.size
            (try simp only [World.size_alloc, World.size_setCell, World.size_drew] at hz25)
            have B25 : Below w24.heap.size w24 w25 := Below.trans (b := _) (by (repeat' (first | (with_reducible exact Below.refl _ _) | (with_reducible assumption) | (with_reducible refine Below.alloc ?_ ?_ _) | (with_reducible refine Below.drew ?_) | (with_reducible refine below_drewN ?_ _) | (with_reducible refine Below.setCell ?_ ?_ _) | (with_reducible refine below_call ?_ ?_ (by assumption)) | go_size))) (hb25.mono (by first | omega | (simp only [World.size_alloc, World.size_setCell, World.size_drew]; omega)))
            obtain ⟨hd25, -⟩ := bcell B25
            have c25_s_0 : w25.cell? ⟨w20.heap.size, 0, none⟩ = some (.int .i64 n4) := (hd25 _ _ q_s).trans c24_s_0
            have c25_s_1 : w25.cell? ⟨w20.heap.size, 1, none⟩ = some (.int .i64 d4) := (hd25 _ _ q_s).trans c24_s_1
            have c25_s_2 : w25.cell? ⟨w20.heap.size, 2, none⟩ = some (.int .i64 x4) := (hd25 _ _ q_s).trans c24_s_2
            have c25_s_3 : w25.cell? ⟨w20.heap.size, 3, none⟩ = some (.int .i64 y4) := (hd25 _ _ q_s).trans c24_s_3
            have c25_tm2_0 : w25.cell? ⟨w21.heap.size, 0, none⟩ = some (.int .i64 qn) := (hd25 _ _ q_tm2).trans c24_tm2_0
            have c25_tm2_1 : w25.cell? ⟨w21.heap.size, 1, none⟩ = some (.int .i64 qd) := (hd25 _ _ q_tm2).trans c24_tm2_1
            have c25_number_0 : w25.cell? ⟨w22.heap.size, 0, none⟩ = some (.int .i64 qn) := (hd25 _ _ q_number).trans c24_number_0
            have c25_number_1 : w25.cell? ⟨w22.heap.size, 1, none⟩ = some (.int .i64 qd) := (hd25 _ _ q_number).trans c24_number_1
            replace q_s : w20.heap.size < w25.heap.size := by omega
            replace q_tm2 : w21.heap.size < w25.heap.size := by omega
            replace q_number : w22.heap.size < w25.heap.size := by omega
            have BW25 : Below w.heap.size w w25 := BW24.trans (B25.mono BW24.size)
            clear hc25 hf25 hb25 hd25 B25 c24_s_0 c24_s_1 c24_s_2 c24_s_3 c24_tm2_0 c24_tm2_1 c24_number_0 c24_number_1 BW24
            go_wp2_with fail
            refine (C16.out _).mono ?_
            rintro e26 w26 ⟨v_list, rfl, hr26, hb26⟩
            obtain ⟨pa_list, pc_list, rfl, -⟩ := TRow.cells hr26
            have R26_list := Lib.hid hr26
            clear hr26
            obtain ⟨hc26, hf26⟩ := bcell hb26
            have hz26 := hb26.size
            (try simp only [World.size_alloc, World.size_setCell, World.size_drew] at hz26)
            have B26 : Below w25.heap.size w25 w26 := Below.trans (b := _) (by (repeat' (first | (with_reducible exact Below.refl _ _) | (with_reducible assumption) | (with_reducible refine Below.alloc ?_ ?_ _) | (with_reducible refine Below.drew ?_) | (with_reducible refine below_drewN ?_ _) | (with_reducible refine Below.setCell ?_ ?_ _) | (with_reducible refine below_call ?_ ?_ (by assumption)) | go_size))) (hb26.mono (by first | omega | (simp only [World.size_alloc, World.size_setCell, World.size_drew]; omega)))
            obtain ⟨hd26, -⟩ := bcell B26
            have c26_s_0 : w26.cell? ⟨w20.heap.size, 0, none⟩ = some (.int .i64 n4) := (hd26 _ _ q_s).trans c25_s_0
            have c26_s_1 : w26.cell? ⟨w20.heap.size, 1, none⟩ = some (.int .i64 d4) := (hd26 _ _ q_s).trans c25_s_1
            have c26_s_2 : w26.cell? ⟨w20.heap.size, 2, none⟩ = some (.int .i64 x4) := (hd26 _ _ q_s).trans c25_s_2
            have c26_s_3 : w26.cell? ⟨w20.heap.size, 3, none⟩ = some (.int .i64 y4) := (hd26 _ _ q_s).trans c25_s_3
            have c26_tm2_0 : w26.cell? ⟨w21.heap.size, 0, none⟩ = some (.int .i64 qn) := (hd26 _ _ q_tm2).trans c25_tm2_0
            have c26_tm2_1 : w26.cell? ⟨w21.heap.size, 1, none⟩ = some (.int .i64 qd) := (hd26 _ _ q_tm2).trans c25_tm2_1
            have c26_number_0 : w26.cell? ⟨w22.heap.size, 0, none⟩ = some (.int .i64 qn) := (hd26 _ _ q_number).trans c25_number_0
            have c26_number_1 : w26.cell? ⟨w22.heap.size, 1, none⟩ = some (.int .i64 qd) := (hd26 _ _ q_number).trans c25_number_1
            replace q_s : w20.heap.size < w26.heap.size := by omega
            replace q_tm2 : w21.heap.size < w26.heap.size := by omega
            replace q_number : w22.heap.size < w26.heap.size := by omega
            have R26_al2 := Lib.hid (TRow.below R25_al2.out B26)
            clear R25_al2
            have BW26 : Below w.heap.size w w26 := BW25.trans (B26.mono BW25.size)
            clear hc26 hf26 hb26 hd26 B26 c25_s_0 c25_s_1 c25_s_2 c25_s_3 c25_tm2_0 c25_tm2_1 c25_number_0 c25_number_1 BW25
            go_upto_region 66 with fail
            go_cut [478] from 999 to 999 (fun x wx => x = .bool false ∧ Below w26.heap.size w26 wx)
            case first =>
              as_aux_lemma =>
                go_wp2_with fail
                refine (wTurns_same LT _ _ _ _ _ R26_al2.out R26_list.out HLT.out).mono ?_
                rintro e27 w27 ⟨rfl, hb27⟩
                obtain ⟨hc27, hf27⟩ := bcell hb27
                have hz27 := hb27.size
                (try simp only [World.size_alloc, World.size_setCell, World.size_drew] at hz27)
                have B27 : Below w26.heap.size w26 w27 := Below.trans (b := _) (by (repeat' (first | (with_reducible exact Below.refl _ _) | (with_reducible assumption) | (with_reducible refine Below.alloc ?_ ?_ _) | (with_reducible refine Below.drew ?_) | (with_reducible refine below_drewN ?_ _) | (with_reducible refine Below.setCell ?_ ?_ _) | (with_reducible refine below_call ?_ ?_ (by assumption)) | go_size))) (hb27.mono (by first | omega | (simp only [World.size_alloc, World.size_setCell, World.size_drew]; omega)))
                obtain ⟨hd27, -⟩ := bcell B27
                have c27_s_0 : w27.cell? ⟨w20.heap.size, 0, none⟩ = some (.int .i64 n4) := (hd27 _ _ q_s).trans c26_s_0
                have c27_s_1 : w27.cell? ⟨w20.heap.size, 1, none⟩ = some (.int .i64 d4) := (hd27 _ _ q_s).trans c26_s_1
                have c27_s_2 : w27.cell? ⟨w20.heap.size, 2, none⟩ = some (.int .i64 x4) := (hd27 _ _ q_s).trans c26_s_2
                have c27_s_3 : w27.cell? ⟨w20.heap.size, 3, none⟩ = some (.int .i64 y4) := (hd27 _ _ q_s).trans c26_s_3
                have c27_tm2_0 : w27.cell? ⟨w21.heap.size, 0, none⟩ = some (.int .i64 qn) := (hd27 _ _ q_tm2).trans c26_tm2_0
                have c27_tm2_1 : w27.cell? ⟨w21.heap.size, 1, none⟩ = some (.int .i64 qd) := (hd27 _ _ q_tm2).trans c26_tm2_1
                have c27_number_0 : w27.cell? ⟨w22.heap.size, 0, none⟩ = some (.int .i64 qn) := (hd27 _ _ q_number).trans c26_number_0
                have c27_number_1 : w27.cell? ⟨w22.heap.size, 1, none⟩ = some (.int .i64 qd) := (hd27 _ _ q_number).trans c26_number_1
                replace q_s : w20.heap.size < w27.heap.size := by omega
                replace q_tm2 : w21.heap.size < w27.heap.size := by omega
                replace q_number : w22.heap.size < w27.heap.size := by omega
                have R27_al2 := Lib.hid (TRow.below R26_al2.out B27)
                clear R26_al2
                have R27_list := Lib.hid (TRow.below R26_list.out B27)
                clear R26_list
                have BW27 : Below w.heap.size w w27 := BW26.trans (B27.mono BW26.size)
                have BX27 : Below w26.heap.size w26 w27 := B27
                clear hc27 hf27 hb27 hd27 B27 c26_s_0 c26_s_1 c26_s_2 c26_s_3 c26_tm2_0 c26_tm2_1 c26_number_0 c26_number_1 BW26
                have e1 := HQ.out
                have e2 := HT.out
                subst e1
                subst e2
                clear HQ HT
                cases lo
                · go_wp2_with fail
                  go_meet
                  case rel => exact ⟨rfl, BX27⟩
                · go_wp2_with fail
                  go_meet
                  case rel => exact ⟨rfl, BX27⟩
            case rest =>
              obtain ⟨rfl, hb27⟩ := hcut
              obtain ⟨w27, hw27⟩ : ∃ x : World, x = wc := ⟨_, rfl⟩
              subst hw27
              obtain ⟨hc27, hf27⟩ := bcell hb27
              have hz27 := hb27.size
              (try simp only [World.size_alloc, World.size_setCell, World.size_drew] at hz27)
              have B27 : Below w26.heap.size w26 w27 := Below.trans (b := _) (by (repeat' (first | (with_reducible exact Below.refl _ _) | (with_reducible assumption) | (with_reducible refine Below.alloc ?_ ?_ _) | (with_reducible refine Below.drew ?_) | (with_reducible refine below_drewN ?_ _) | (with_reducible refine Below.setCell ?_ ?_ _) | (with_reducible refine below_call ?_ ?_ (by assumption)) | go_size))) (hb27.mono (by first | omega | (simp only [World.size_alloc, World.size_setCell, World.size_drew]; omega)))
              obtain ⟨hd27, -⟩ := bcell B27
              have c27_s_0 : w27.cell? ⟨w20.heap.size, 0, none⟩ = some (.int .i64 n4) := (hd27 _ _ q_s).trans c26_s_0
              have c27_s_1 : w27.cell? ⟨w20.heap.size, 1, none⟩ = some (.int .i64 d4) := (hd27 _ _ q_s).trans c26_s_1
              have c27_s_2 : w27.cell? ⟨w20.heap.size, 2, none⟩ = some (.int .i64 x4) := (hd27 _ _ q_s).trans c26_s_2
              have c27_s_3 : w27.cell? ⟨w20.heap.size, 3, none⟩ = some (.int .i64 y4) := (hd27 _ _ q_s).trans c26_s_3
              have c27_tm2_0 : w27.cell? ⟨w21.heap.size, 0, none⟩ = some (.int .i64 qn) := (hd27 _ _ q_tm2).trans c26_tm2_0
              have c27_tm2_1 : w27.cell? ⟨w21.heap.size, 1, none⟩ = some (.int .i64 qd) := (hd27 _ _ q_tm2).trans c26_tm2_1
              have c27_number_0 : w27.cell? ⟨w22.heap.size, 0, none⟩ = some (.int .i64 qn) := (hd27 _ _ q_number).trans c26_number_0
              have c27_number_1 : w27.cell? ⟨w22.heap.size, 1, none⟩ = some (.int .i64 qd) := (hd27 _ _ q_number).trans c26_number_1
              replace q_s : w20.heap.size < w27.heap.size := by omega
              replace q_tm2 : w21.heap.size < w27.heap.size := by omega
              replace q_number : w22.heap.size < w27.heap.size := by omega
              have R27_al2 := Lib.hid (TRow.below R26_al2.out B27)
              clear R26_al2
              have R27_list := Lib.hid (TRow.below R26_list.out B27)
              clear R26_list
              have BW27 : Below w.heap.size w w27 := BW26.trans (B27.mono BW26.size)
              clear hc27 hf27 hb27 hd27 B27 c26_s_0 c26_s_1 c26_s_2 c26_s_3 c26_tm2_0 c26_tm2_1 c26_number_0 c26_number_1 BW26
              clear R27_al2
              clear R27_list
              clear q_tm2 c27_tm2_0 c27_tm2_1
              clear q_number c27_number_0 c27_number_1
              clear q_s c27_s_0 c27_s_1 c27_s_2 c27_s_3
              go_wp2_with fail
              refine (DrawIsSeen_any L2 p2 L2.length q2 rfl hlen2 _ (BIn.below HB2.out (by (repeat' (first | (with_reducible exact Below.refl _ _) | (with_reducible assumption) | (with_reducible refine Below.alloc ?_ ?_ _) | (with_reducible refine Below.drew ?_) | (with_reducible refine below_drewN ?_ _) | (with_reducible refine Below.setCell ?_ ?_ _) | (with_reducible refine below_call ?_ ?_ (by assumption)) | go_size))))).mono ?_
              rintro e28 w28 ⟨n5, d5, x5, y5, rfl, ⟨kn5, kd5, kx5, ky5⟩, hb28⟩
              obtain ⟨hc28, hf28⟩ := bcell hb28
              have hz28 := hb28.size
              (try simp only [World.size_alloc, World.size_setCell, World.size_drew] at hz28)
              have B28 : Below w27.heap.size w27 w28 := Below.trans (b := _) (by (repeat' (first | (with_reducible exact Below.refl _ _) | (with_reducible assumption) | (with_reducible refine Below.alloc ?_ ?_ _) | (with_reducible refine Below.drew ?_) | (with_reducible refine below_drewN ?_ _) | (with_reducible refine Below.setCell ?_ ?_ _) | (with_reducible refine below_call ?_ ?_ (by assumption)) | go_size))) (hb28.mono (by first | omega | (simp only [World.size_alloc, World.size_setCell, World.size_drew]; omega)))
              obtain ⟨hd28, -⟩ := bcell B28
              have BW28 : Below w.heap.size w w28 := BW27.trans (B28.mono BW27.size)
              clear hc28 hf28 hb28 hd28 B28  BW27
              obtain ⟨ea, eb, ec, ed, eo, hE⟩ : ∃ a b c e o, exchT n5 d5 x5 y5 = (a, b, c, e, o) := ⟨_, _, _, _, _, rfl⟩
              have C17 := Lib.hid (fun W => (show Calls Try.prog 14 #[sn n5 d5 x5 y5] W fun e w' => e = .returned (rs (ea, eb, ec, ed, eo)) ∧ Below W.heap.size W w' from by have := implExchangeSeen_any n5 d5 x5 y5 W; rw [hE] at this; exact this))
              have C18 := Lib.hid (fun W => (show Calls Try.prog 33 #[sn n5 d5 x5 y5] W fun e w' => e = .returned (rs (ea, eb, ec, ed, eo)) ∧ Below W.heap.size W w' from by have := specExchangeSeen_any n5 d5 x5 y5 kd5 ky5 W; rw [hE] at this; exact this))
              have HE := Lib.hid (exch_ok hE)
              clear hE
              go_wp2_with fail
              refine (C17.out _).mono ?_
              rintro e29 w29 ⟨rfl, hb29⟩
              obtain ⟨hc29, hf29⟩ := bcell hb29
              have hz29 := hb29.size
              (try simp only [World.size_alloc, World.size_setCell, World.size_drew] at hz29)
              have B29 : Below w28.heap.size w28 w29 := Below.trans (b := _) (by (repeat' (first | (with_reducible exact Below.refl _ _) | (with_reducible assumption) | (with_reducible refine Below.alloc ?_ ?_ _) | (with_reducible refine Below.drew ?_) | (with_reducible refine below_drewN ?_ _) | (with_reducible refine Below.setCell ?_ ?_ _) | (with_reducible refine below_call ?_ ?_ (by assumption)) | go_size))) (hb29.mono (by first | omega | (simp only [World.size_alloc, World.size_setCell, World.size_drew]; omega)))
              obtain ⟨hd29, -⟩ := bcell B29
              have c29_kk_0 : w29.cell? ⟨w28.heap.size, 0, none⟩ = some (.int .i64 n5) := (hc29 _ _ (by go_size)).trans (by go_simp)
              have c29_kk_1 : w29.cell? ⟨w28.heap.size, 1, none⟩ = some (.int .i64 d5) := (hc29 _ _ (by go_size)).trans (by go_simp)
              have c29_kk_2 : w29.cell? ⟨w28.heap.size, 2, none⟩ = some (.int .i64 x5) := (hc29 _ _ (by go_size)).trans (by go_simp)
              have c29_kk_3 : w29.cell? ⟨w28.heap.size, 3, none⟩ = some (.int .i64 y5) := (hc29 _ _ (by go_size)).trans (by go_simp)
              have q_kk : w28.heap.size < w29.heap.size := by omega
              have BW29 : Below w.heap.size w w29 := BW28.trans (B29.mono BW28.size)
              clear hc29 hf29 hb29 hd29 B29  BW28
              go_wp2_with fail
              refine (C18.out _).mono ?_
              rintro e30 w30 ⟨rfl, hb30⟩
              obtain ⟨hc30, hf30⟩ := bcell hb30
              have hz30 := hb30.size
              (try simp only [World.size_alloc, World.size_setCell, World.size_drew] at hz30)
              have B30 : Below w29.heap.size w29 w30 := Below.trans (b := _) (by (repeat' (first | (with_reducible exact Below.refl _ _) | (with_reducible assumption) | (with_reducible refine Below.alloc ?_ ?_ _) | (with_reducible refine Below.drew ?_) | (with_reducible refine below_drewN ?_ _) | (with_reducible refine Below.setCell ?_ ?_ _) | (with_reducible refine below_call ?_ ?_ (by assumption)) | go_size))) (hb30.mono (by first | omega | (simp only [World.size_alloc, World.size_setCell, World.size_drew]; omega)))
              obtain ⟨hd30, -⟩ := bcell B30
              have c30_kk_0 : w30.cell? ⟨w28.heap.size, 0, none⟩ = some (.int .i64 n5) := (hd30 _ _ q_kk).trans c29_kk_0
              have c30_kk_1 : w30.cell? ⟨w28.heap.size, 1, none⟩ = some (.int .i64 d5) := (hd30 _ _ q_kk).trans c29_kk_1
              have c30_kk_2 : w30.cell? ⟨w28.heap.size, 2, none⟩ = some (.int .i64 x5) := (hd30 _ _ q_kk).trans c29_kk_2
              have c30_kk_3 : w30.cell? ⟨w28.heap.size, 3, none⟩ = some (.int .i64 y5) := (hd30 _ _ q_kk).trans c29_kk_3
              replace q_kk : w28.heap.size < w30.heap.size := by omega
              have c30_exch_0 : w30.cell? ⟨w29.heap.size, 0, none⟩ = some (.int .i64 ea) := (hc30 _ _ (by go_size)).trans (by go_simp)
              have c30_exch_1 : w30.cell? ⟨w29.heap.size, 1, none⟩ = some (.int .i64 eb) := (hc30 _ _ (by go_size)).trans (by go_simp)
              have c30_exch_2 : w30.cell? ⟨w29.heap.size, 2, none⟩ = some (.int .i64 ec) := (hc30 _ _ (by go_size)).trans (by go_simp)
              have c30_exch_3 : w30.cell? ⟨w29.heap.size, 3, none⟩ = some (.int .i64 ed) := (hc30 _ _ (by go_size)).trans (by go_simp)
              have q_exch : w29.heap.size < w30.heap.size := by omega
              have BW30 : Below w.heap.size w w30 := BW29.trans (B30.mono BW29.size)
              clear hc30 hf30 hb30 hd30 B30 c29_kk_0 c29_kk_1 c29_kk_2 c29_kk_3 BW29
              go_upto_region 71 with fail
              have hb31 : Below w30.heap.size w30 (w30.alloc (Obj.cells #[.int .i64 ea, .int .i64 eb, .int .i64 ec, .int .i64 ed] 31)) := by (repeat' (first | (with_reducible exact Below.refl _ _) | (with_reducible assumption) | (with_reducible refine Below.alloc ?_ ?_ _) | (with_reducible refine Below.drew ?_) | (with_reducible refine below_drewN ?_ _) | (with_reducible refine Below.setCell ?_ ?_ _) | (with_reducible refine below_call ?_ ?_ (by assumption)) | go_size))
              have c31_rows_0 : (w30.alloc (Obj.cells #[.int .i64 ea, .int .i64 eb, .int .i64 ec, .int .i64 ed] 31)).cell? ⟨w30.heap.size, 0, none⟩ = some (.int .i64 ea) := by go_simp
              have c31_rows_1 : (w30.alloc (Obj.cells #[.int .i64 ea, .int .i64 eb, .int .i64 ec, .int .i64 ed] 31)).cell? ⟨w30.heap.size, 1, none⟩ = some (.int .i64 eb) := by go_simp
              have c31_rows_2 : (w30.alloc (Obj.cells #[.int .i64 ea, .int .i64 eb, .int .i64 ec, .int .i64 ed] 31)).cell? ⟨w30.heap.size, 2, none⟩ = some (.int .i64 ec) := by go_simp
              have c31_rows_3 : (w30.alloc (Obj.cells #[.int .i64 ea, .int .i64 eb, .int .i64 ec, .int .i64 ed] 31)).cell? ⟨w30.heap.size, 3, none⟩ = some (.int .i64 ed) := by go_simp
              have q_rows : w30.heap.size < (w30.alloc (Obj.cells #[.int .i64 ea, .int .i64 eb, .int .i64 ec, .int .i64 ed] 31)).heap.size := by go_size
              generalize (w30.alloc (Obj.cells #[.int .i64 ea, .int .i64 eb, .int .i64 ec, .int .i64 ed] 31)) = w31 at *
              obtain ⟨hd31, -⟩ := bcell hb31
              have hz31 := hb31.size
              have c31_kk_0 : w31.cell? ⟨w28.heap.size, 0, none⟩ = some (.int .i64 n5) := (hd31 _ _ q_kk).trans c30_kk_0
              have c31_kk_1 : w31.cell? ⟨w28.heap.size, 1, none⟩ = some (.int .i64 d5) := (hd31 _ _ q_kk).trans c30_kk_1
              have c31_kk_2 : w31.cell? ⟨w28.heap.size, 2, none⟩ = some (.int .i64 x5) := (hd31 _ _ q_kk).trans c30_kk_2
              have c31_kk_3 : w31.cell? ⟨w28.heap.size, 3, none⟩ = some (.int .i64 y5) := (hd31 _ _ q_kk).trans c30_kk_3
              have c31_exch_0 : w31.cell? ⟨w29.heap.size, 0, none⟩ = some (.int .i64 ea) := (hd31 _ _ q_exch).trans c30_exch_0
              have c31_exch_1 : w31.cell? ⟨w29.heap.size, 1, none⟩ = some (.int .i64 eb) := (hd31 _ _ q_exch).trans c30_exch_1
              have c31_exch_2 : w31.cell? ⟨w29.heap.size, 2, none⟩ = some (.int .i64 ec) := (hd31 _ _ q_exch).trans c30_exch_2
              have c31_exch_3 : w31.cell? ⟨w29.heap.size, 3, none⟩ = some (.int .i64 ed) := (hd31 _ _ q_exch).trans c30_exch_3
              replace q_kk : w28.heap.size < w31.heap.size := by omega
              replace q_exch : w29.heap.size < w31.heap.size := by omega
              have BW31 : Below w.heap.size w w31 := BW30.trans (hb31.mono BW30.size)
              clear hb31 hd31 c30_kk_0 c30_kk_1 c30_kk_2 c30_kk_3 c30_exch_0 c30_exch_1 c30_exch_2 c30_exch_3 BW30
              go_cut [511] from 999 to 999 (fun x wx => x = .bool false ∧ Below w31.heap.size w31 wx)
              case first =>
                as_aux_lemma =>
                  refine wp_region_below (by kernel_rfl) (by kernel_rfl) ?_
                  (apply wpB_take (hw := rfl); (intro wq hq; obtain ⟨hcq, hfq⟩ := bcell hq; unfold atB; go_simp; exact ⟨rfl, rfl⟩); (rw [put_lit]; dsimp only [List.set]))
                  (apply wpB_take (hw := rfl); (intro wq hq; obtain ⟨hcq, hfq⟩ := bcell hq; unfold atB; go_simp; exact ⟨rfl, rfl⟩); (rw [put_lit]; dsimp only [List.set]))
                  (apply wpB_take (hw := rfl); (intro wq hq; obtain ⟨hcq, hfq⟩ := bcell hq; unfold atB; go_simp; exact ⟨rfl, rfl⟩); (rw [put_lit]; dsimp only [List.set]))
                  (apply wpB_take (hw := rfl); (intro wq hq; obtain ⟨hcq, hfq⟩ := bcell hq; unfold atB; go_simp; exact ⟨rfl, rfl⟩); (rw [put_lit]; dsimp only [List.set]))
                  (apply wpB_take (hw := rfl); (intro wq hq; obtain ⟨hcq, hfq⟩ := bcell hq; unfold atB; go_simp; exact ⟨rfl, rfl⟩); (rw [put_lit]; dsimp only [List.set]))
                  (apply wpB_take (hw := rfl); (intro wq hq; obtain ⟨hcq, hfq⟩ := bcell hq; unfold atB; go_simp; exact ⟨rfl, rfl⟩); (rw [put_lit]; dsimp only [List.set]))
                  (apply wpB_take (hw := rfl); (intro wq hq; obtain ⟨hcq, hfq⟩ := bcell hq; unfold atB; go_simp; exact ⟨rfl, rfl⟩); (rw [put_lit]; dsimp only [List.set]))
                  (apply wpB_take (hw := rfl); (intro wq hq; obtain ⟨hcq, hfq⟩ := bcell hq; unfold atB; go_simp; exact ⟨rfl, rfl⟩); (rw [put_lit]; dsimp only [List.set]))
                  (apply wpB_take (hw := rfl); (intro wq hq; obtain ⟨hcq, hfq⟩ := bcell hq; unfold atB; go_simp; exact ⟨rfl, rfl⟩); (rw [put_lit]; dsimp only [List.set]))
                  (apply wpB_take (hw := rfl); (intro wq hq; obtain ⟨hcq, hfq⟩ := bcell hq; unfold atB; go_simp; exact ⟨rfl, rfl⟩); (rw [put_lit]; dsimp only [List.set]))
                  (apply wpB_take (hw := rfl); (intro wq hq; obtain ⟨hcq, hfq⟩ := bcell hq; unfold atB; go_simp; exact ⟨rfl, rfl⟩); (rw [put_lit]; dsimp only [List.set]))
                  (apply wpB_take (hw := rfl); (intro wq hq; unfold atB; go_simp; exact ⟨rfl, isSeen_is n5 d5 x5 y5 HE.out _⟩); (rw [put_lit]; dsimp only [List.set]))
                  (apply wpB_take (hw := rfl); (intro wq hq; obtain ⟨hcq, hfq⟩ := bcell hq; unfold atB; go_simp; exact ⟨rfl, rfl⟩); (rw [put_lit]; dsimp only [List.set]))
                  (apply wpB_take (hw := rfl); (intro wq hq; obtain ⟨hcq, hfq⟩ := bcell hq; unfold atB; go_simp; exact ⟨rfl, rfl⟩); (rw [put_lit]; dsimp only [List.set]))
                  (apply wpB_take (hw := rfl); (intro wq hq; obtain ⟨hcq, hfq⟩ := bcell hq; unfold atB; go_simp; exact ⟨rfl, rfl⟩); (rw [put_lit]; dsimp only [List.set]))
                  (apply wpB_take (hw := rfl); (intro wq hq; obtain ⟨hcq, hfq⟩ := bcell hq; unfold atB; go_simp; exact ⟨rfl, rfl⟩); (rw [put_lit]; dsimp only [List.set]))
                  (apply wpB_take (hw := rfl); (intro wq hq; unfold atB; go_simp; exact ⟨rfl, isSeen_is n5 d5 x5 y5 HE.out _⟩); (rw [put_lit]; dsimp only [List.set]))
                  (apply wpB_take (hw := rfl); (intro wq hq; obtain ⟨hcq, hfq⟩ := bcell hq; unfold atB; go_simp; exact ⟨rfl, rfl⟩); (rw [put_lit]; dsimp only [List.set]))
                  (apply wpB_take (hw := rfl); (intro wq hq; unfold atB; go_simp; exact ⟨rfl, specIsSeen_is n5 d5 x5 y5 HE.out kd5 ky5 _⟩); (rw [put_lit]; dsimp only [List.set]))
                  (apply wpB_take (hw := rfl); (intro wq hq; obtain ⟨hcq, hfq⟩ := bcell hq; unfold atB; go_simp; exact ⟨rfl, rfl⟩); (rw [put_lit]; dsimp only [List.set]))
                  (apply wpB_take (hw := rfl); (intro wq hq; obtain ⟨hcq, hfq⟩ := bcell hq; unfold atB; go_simp; exact ⟨rfl, rfl⟩); (rw [put_lit]; dsimp only [List.set]))
                  refine fun wx hbx => ?_
                  simp only [Exit.then]
                  refine (by assumption : ∀ (a' : Act) (w' : World), Met _ a' w' → _) _ _ ?_
                  go_meet
                  case rel => exact ⟨rfl, hbx⟩
              case rest =>
                obtain ⟨rfl, hb32⟩ := hcut
                obtain ⟨w32, hw32⟩ : ∃ x : World, x = wc := ⟨_, rfl⟩
                subst hw32
                obtain ⟨hc32, hf32⟩ := bcell hb32
                have hz32 := hb32.size
                (try simp only [World.size_alloc, World.size_setCell, World.size_drew] at hz32)
                have B32 : Below w31.heap.size w31 w32 := Below.trans (b := _) (by (repeat' (first | (with_reducible exact Below.refl _ _) | (with_reducible assumption) | (with_reducible refine Below.alloc ?_ ?_ _) | (with_reducible refine Below.drew ?_) | (with_reducible refine below_drewN ?_ _) | (with_reducible refine Below.setCell ?_ ?_ _) | (with_reducible refine below_call ?_ ?_ (by assumption)) | go_size))) (hb32.mono (by first | omega | (simp only [World.size_alloc, World.size_setCell, World.size_drew]; omega)))
                obtain ⟨hd32, -⟩ := bcell B32
                have c32_kk_0 : w32.cell? ⟨w28.heap.size, 0, none⟩ = some (.int .i64 n5) := (hd32 _ _ q_kk).trans c31_kk_0
                have c32_kk_1 : w32.cell? ⟨w28.heap.size, 1, none⟩ = some (.int .i64 d5) := (hd32 _ _ q_kk).trans c31_kk_1
                have c32_kk_2 : w32.cell? ⟨w28.heap.size, 2, none⟩ = some (.int .i64 x5) := (hd32 _ _ q_kk).trans c31_kk_2
                have c32_kk_3 : w32.cell? ⟨w28.heap.size, 3, none⟩ = some (.int .i64 y5) := (hd32 _ _ q_kk).trans c31_kk_3
                have c32_exch_0 : w32.cell? ⟨w29.heap.size, 0, none⟩ = some (.int .i64 ea) := (hd32 _ _ q_exch).trans c31_exch_0
                have c32_exch_1 : w32.cell? ⟨w29.heap.size, 1, none⟩ = some (.int .i64 eb) := (hd32 _ _ q_exch).trans c31_exch_1
                have c32_exch_2 : w32.cell? ⟨w29.heap.size, 2, none⟩ = some (.int .i64 ec) := (hd32 _ _ q_exch).trans c31_exch_2
                have c32_exch_3 : w32.cell? ⟨w29.heap.size, 3, none⟩ = some (.int .i64 ed) := (hd32 _ _ q_exch).trans c31_exch_3
                have c32_rows_0 : w32.cell? ⟨w30.heap.size, 0, none⟩ = some (.int .i64 ea) := (hd32 _ _ q_rows).trans c31_rows_0
                have c32_rows_1 : w32.cell? ⟨w30.heap.size, 1, none⟩ = some (.int .i64 eb) := (hd32 _ _ q_rows).trans c31_rows_1
                have c32_rows_2 : w32.cell? ⟨w30.heap.size, 2, none⟩ = some (.int .i64 ec) := (hd32 _ _ q_rows).trans c31_rows_2
                have c32_rows_3 : w32.cell? ⟨w30.heap.size, 3, none⟩ = some (.int .i64 ed) := (hd32 _ _ q_rows).trans c31_rows_3
                replace q_kk : w28.heap.size < w32.heap.size := by omega
                replace q_exch : w29.heap.size < w32.heap.size := by omega
                replace q_rows : w30.heap.size < w32.heap.size := by omega
                have BW32 : Below w.heap.size w w32 := BW31.trans (B32.mono BW31.size)
                clear hc32 hf32 hb32 hd32 B32 c31_kk_0 c31_kk_1 c31_kk_2 c31_kk_3 c31_exch_0 c31_exch_1 c31_exch_2 c31_exch_3 c31_rows_0 c31_rows_1 c31_rows_2 c31_rows_3 BW31
                go_wp2
                go_ret
                exact ⟨rfl, BW32⟩
  · have HBG := Lib.hid hbg
    clear hbg
    (go_enter Try.func3, Try.ntmps3)
    go_wp2_with fail
    refine (big_is p1 p2 L1.length L2.length q1 q2 hm1 HBG.out _).mono ?_
    rintro e0 w0 ⟨rfl, rfl⟩
    go_wp2
    go_ret
    exact ⟨rfl, Below.refl _ _⟩

set_option maxRecDepth 100000 in
theorem lifted (os : Os) (started : os.Started) (H : Type) (enc : TypeId × Value → H) :
    ReturnsInHanded {} Try.checked os 3 .any (Rows.fnSeenTrueSpec.pre6 enc Try.prog Try.f3 Rows.fnSeenTrueRow.domain false) (Rows.fnSeenTrueSpec.post enc Try.prog Try.f3 false true false false) := by
  refine returnsInHanded_of_change (C := Try.checked) Try.own started (by kernel_rfl) Try.func3
    (ChangeSpec.witness6 (enc := enc) (C := Try.checked) false ⟨#[], #[.slice none 0 0, .slice none 0 0], []⟩ 8 (by kernel_rfl) (by kernel_rfl) (by kernel_rfl) (by kernel_rfl)) ?_
  intro W base args ds gs before hval0 hW hcnd _
  have hval : ∀ (j : Nat) t v, Try.f3.params[j]? = some t → args[j]? = some v → Value.okWide Try.prog W .any base t v := hval0
  have hW' := hW
  obtain ⟨p, q, hA0, hV, rfl, hfz, hnd⟩ := hW
  have hA : DataW.TrodAll enc Try.prog W 0 (fun _ => true) true Try.f3.params.toList args.toList ds p := hA0
  rw [Try.params3] at hA hval
  obtain ⟨v0, vs0, d_0, ds0, p0, q0, hargs, rfl, rfl, h0, r0⟩ := trodAll_cons hA
  obtain ⟨v1, vs1, d_1, ds1, p1, q1, rfl, rfl, rfl, h1, r1⟩ := trodAll_cons r0
  obtain ⟨rfl, rfl, rfl⟩ := trodAll_nil r1
  obtain rfl : args = #[v0, v1] := by cases args; simp_all
  obtain ⟨rfl, rfl⟩ := trodVars_none hV
  have h0k := h0
  have h1k := h1
  obtain ⟨p1', q1', L1, rfl, hi1, hm1⟩ := open_bytes' (hval 0 22 v0 rfl rfl) h0
  obtain ⟨p2', q2', L2, rfl, hi2, hm2⟩ := open_bytes' (hval 1 22 v1 rfl rfl) h1
  clear hA0 hval0
  simp only [List.append_nil, List.nil_append] at hW'
  have hlt0 : ∀ y ∈ p0, y.block < W.heap.size := fun y hy => by simpa using hW'.lt y (by simp [hy])
  have hlt1 : ∀ y ∈ p1, y.block < W.heap.size := fun y hy => by simpa using hW'.lt y (by simp [hy])
  refine (walk W p1' p2' q1' q2' L1 L2 hi1 hi2 hm1 hm2).mono fun e W' ⟨he, bel⟩ => ?_
  subst he
  have harg0 : DataW.Trod enc Try.prog W' 0 (fun b => decide (b < W.heap.size)) true 22 (.slice p1' L1.length q1') d_0 p0 :=
    Below.trod Try.laidOut (by kernel_rfl) (of_decide_eq_true (by kernel_rfl)) h0k bel hlt0
  have harg1 : DataW.Trod enc Try.prog W' 0 (fun b => decide (b < W.heap.size)) true 22 (.slice p2' L2.length q2') d_1 p1 :=
    Below.trod Try.laidOut (by kernel_rfl) (of_decide_eq_true (by kernel_rfl)) h1k bel hlt1
  exact ⟨_, rfl, _, _, _, [], _, [], hW', trodAll_mk1 (shut_bool Try.underlying4 _), (trodAll_cons_mk harg0 (trodAll_cons_mk harg1 trodAll_mk0)), rfl, bel.frame _, fun h => by cases h⟩

theorem closed : joinedFacts Try.prog 3 Try.f3 Rows.fnSeenTrueSpec Rows.fnSeenTrueRow = true := by
  unfold joinedFacts
  rw [Try.fMake, Try.fEnter, Try.fLifts, Try.fMaps, Try.fLaid, Try.fHeard, Try.fKeys]
  kernel_rfl
theorem over : Rows.fnSeenTrueRow.holds Try.pinned (OpenSpec.ofChange Rows.fnSeenTrueSpec) :=
  OpenClaim.holds_of_wide 3 Try.f3 rfl rfl rfl rfl rfl rfl rfl ⟨rfl, rfl, rfl, rfl, rfl⟩ rfl rfl rfl rfl rfl (by kernel_rfl) Try.func3
    closed (of_decide_eq_true (by kernel_rfl)) (by unfold Func.isWrapper; first | (rw [if_pos (by decide +kernel)]; kernel_rfl) | (rw [if_neg (by decide +kernel)]; exact ⟨rfl, rfl⟩))
    (fun os started H enc _ => lifted os started H enc)

end Go.Proofs.Yticdmochedadbaa.fnSeenTrue
namespace Go.Proofs.Yticdmochedadbaa
/-- The statement. -/
theorem fnSeenTrue_proved : Rows.FnSeenTrueSaid := fnSeenTrue.over
#print axioms fnSeenTrue_proved
end Go.Proofs.Yticdmochedadbaa