/- FnSeenTrueOfAll: called with any arguments, the law returns true, and its arguments read behind the call as before. Conditions: none but the row's own. -/
import Derived.Test.YticdmochedadbaaFacts
import Derived.Test.YticdmochedadbaaRowI
import Derived.Test.YticdmochedadbaaRowN
import Derived.Test.YticdmochedadbaaTa0
import Derived.Test.YticdmochedadbaaTaE
import Derived.Test.YticdmochedadbaaSeT
import Derived.Test.YticdmochedadbaaSeen8
import Derived.Test.YticdmochedadbaaLate
import Derived.Deep.DeepCutAuto
set_option linter.unusedSimpArgs false
set_option linter.unusedVariables false
set_option maxRecDepth 100000
namespace Go.Proofs.Yticdmochedadbaa.fnSeenTrueOfAll
open Go.ChangeShapes Go.WideShapes Go.ChangeAt Go.RowKit
attribute [local go_sem ↓] Go.wp_at_zero Go.wp_at_succ run_neq_same run_neq_turn run_eql_turn run_neq_sameSeen run_neq_seen

set_option maxHeartbeats 16000000 in
theorem walk (a0 : Int) (n1 d1 : Int) (a2 : Int) (a3 : Int) (n4 d4 x4 y4 : Int) (n5 d5 x5 y5 : Int) (k0 : I64 a0) (kn1 : I64 n1) (kd1 : I64 d1) (k2 : I64 a2) (k3 : I64 a3) (kn4 : I64 n4) (kd4 : I64 d4) (kx4 : I64 x4) (ky4 : I64 y4) (kn5 : I64 n5) (kd5 : I64 d5) (kx5 : I64 x5) (ky5 : I64 y5) (w : World) :
    Calls Try.prog 4 #[.int .i64 a0, tv n1 d1, .int .i64 a2, .int .i64 a3, sn n4 d4 x4 y4, sn n5 d5 x5 y5] w fun e w' => e = .returned (.bool true) ∧ Below w.heap.size w w' := by
  obtain ⟨xn, xd, xo, hX⟩ : ∃ x y o, exTimeT a0 n1 d1 = (x, y, o) := ⟨_, _, _, rfl⟩
  obtain ⟨sa, sb, sc, se, so, hS⟩ : ∃ a b c e o, seenOfT a0 n1 d1 = (a, b, c, e, o) := ⟨_, _, _, _, _, rfl⟩
  have C1 := Lib.hid (fun W => (show Calls Try.prog 8 #[.int .i64 a0, tv n1 d1] W fun e w' => e = .returned (rv (xn, xd, xo)) ∧ Below W.heap.size W w' from by have := implExchangedTime_any a0 n1 d1 W; rw [hX] at this; exact this))
  have C2 := Lib.hid (fun W => (show Calls Try.prog 9 #[.int .i64 a0, tv n1 d1] W fun e w' => e = .returned (rv (xn, xd, xo)) ∧ Below W.heap.size W w' from by have := specExchangedTime_any a0 n1 d1 kd1 W; rw [hX] at this; exact this))
  have C3 := Lib.hid (fun W => (show Calls Try.prog 10 #[.int .i64 a0, tv n1 d1] W fun e w' => e = .returned (rs (sa, sb, sc, se, so)) ∧ Below W.heap.size W w' from by have := implSeenOf_any a0 n1 d1 W; rw [hS] at this; exact this))
  have C4 := Lib.hid (fun W => (show Calls Try.prog 11 #[.int .i64 a0, tv n1 d1] W fun e w' => e = .returned (rs (sa, sb, sc, se, so)) ∧ Below W.heap.size W w' from by have := specSeenOf_any a0 n1 d1 kd1 W; rw [hS] at this; exact this))
  have F1 := Lib.hid (fun (e : xo = true) => ex_seen (by rw [hX, e] : exTimeT a0 n1 d1 = (xn, xd, true)) hS)
  have F2 := Lib.hid (fun (e : so = true) => seen_all (by rw [hS, e] : seenOfT a0 n1 d1 = (sa, sb, sc, se, true)) hX)
  have F3 := Lib.hid (fun (e : xo = true) => ex_back (by rw [hX, e] : exTimeT a0 n1 d1 = (xn, xd, true)))
  have F4 := Lib.hid (fun (e : xo = true) => ask_bd (ex_ask (by rw [hX, e] : exTimeT a0 n1 d1 = (xn, xd, true))).1)
  clear hX hS
  obtain ⟨gb, hgb⟩ : ∃ g, inB a2 2 24 = g := ⟨_, rfl⟩
  obtain ⟨LA, hLA⟩ : ∃ l, exL a2 = l := ⟨_, rfl⟩
  obtain ⟨LO, hLO⟩ : ∃ l, ownL a2 = l := ⟨_, rfl⟩
  obtain ⟨cv, co, hC⟩ : ∃ x o, cntU a2 = (x, o) := ⟨_, _, rfl⟩
  obtain ⟨rfl, hcv⟩ := cnt_ok hC hgb
  have C5 := Lib.hid (fun W => (show Calls Try.prog 20 #[.int .i64 a2] W (TurnsOut W LA co) from by have := implAllExchanged_any a2 W; rw [hLA, hgb] at this; exact this))
  have C6 := Lib.hid (fun W => (show Calls Try.prog 21 #[.int .i64 a2] W (TurnsOut W LA co) from by have := specAllExchanged_any a2 W; rw [hLA, hgb] at this; exact this))
  have C7 := Lib.hid (fun W => (show Calls Try.prog 22 #[.int .i64 a2] W fun e w' => e = .returned (iv (cv, co)) ∧ Below W.heap.size W w' from by have := implCountUnsure_any a2 W; rw [hC] at this; exact this))
  have C8 := Lib.hid (fun W => (show Calls Try.prog 23 #[.int .i64 a2] W fun e w' => e = .returned (iv (cv, co)) ∧ Below W.heap.size W w' from by have := specCountUnsure_any a2 W; rw [hC] at this; exact this))
  have C9 := Lib.hid (fun W => (show Calls Try.prog 24 #[.int .i64 a2] W (TurnsOut W LO co) from by have := implOwnMirrors_any a2 W; rw [hLO, hgb] at this; exact this))
  have C10 := Lib.hid (fun W => (show Calls Try.prog 25 #[.int .i64 a2] W (TurnsOut W LO co) from by have := specOwnMirrors_any a2 W; rw [hLO, hgb] at this; exact this))
  have HLA := Lib.hid (show LA.length ≤ 1000000 from by rw [← hLA]; exact exL_len a2)
  have HLO := Lib.hid (show LO.length ≤ 1000000 from by rw [← hLO]; exact ownL_len a2)
  have F5 := Lib.hid (fun (e : co = true) => (show (2 ≤ a2 ∧ a2 ≤ 24) ∧ LA = evL (a2 * a2 - 1) ∧ LO = evL 2 ∧ cv = a2 * a2 - 1 - (a2 - 1) from ⟨inB_bd (hgb.trans e), by rw [← hLA]; exact exL_yes (hgb.trans e), by rw [← hLO]; unfold ownL; rw [if_pos (hgb.trans e)], hcv e⟩))
  clear hgb hLA hLO hC hcv
  obtain ⟨qn, qd, qo, hQ⟩ : ∃ x y o, timeSeenT a3 n4 d4 x4 y4 = (x, y, o) := ⟨_, _, _, rfl⟩
  obtain ⟨ib, ie, hI⟩ : ∃ p q, isTrueT a3 n4 d4 x4 y4 = (p, q) := ⟨_, _, rfl⟩
  obtain ⟨LT, lo, hT⟩ : ∃ l o, twoR a3 n4 d4 x4 y4 (x4, y4, n4, d4) = (l, o) := ⟨_, _, rfl⟩
  obtain ⟨ea, eb, ec, ed, eo, hE⟩ : ∃ a b c e o, exchT n5 d5 x5 y5 = (a, b, c, e, o) := ⟨_, _, _, _, _, rfl⟩
  have C11 := Lib.hid (fun W => (show Calls Try.prog 13 #[.int .i64 a3, sn n4 d4 x4 y4] W fun e w' => e = .returned (rv (qn, qd, qo)) ∧ Below W.heap.size W w' from by have := implTimeSeen_any a3 n4 d4 x4 y4 W; rw [hQ] at this; exact this))
  have C12 := Lib.hid (fun W => (show Calls Try.prog 29 #[.int .i64 a3, sn n4 d4 x4 y4] W fun e w' => e = .returned (rv (qn, qd, qo)) ∧ Below W.heap.size W w' from by have := specTimeSeen_any a3 n4 d4 x4 y4 kd4 ky4 W; rw [hQ] at this; exact this))
  have C13 := Lib.hid (fun W => (show Calls Try.prog 12 #[.int .i64 a3, sn n4 d4 x4 y4] W fun e w' => e = .returned (bbv (ib, ie)) ∧ Below W.heap.size W w' from by have := implIsTrueSeen_any a3 n4 d4 x4 y4 W; rw [hI] at this; exact this))
  have C14 := Lib.hid (fun W => (show Calls Try.prog 30 #[.int .i64 a3, sn n4 d4 x4 y4] W fun e w' => e = .returned (bbv (ib, ie)) ∧ Below W.heap.size W w' from by have := specIsTrueSeen_any a3 n4 d4 x4 y4 kd4 ky4 W; rw [hI] at this; exact this))
  have C15 := Lib.hid (fun W => (show Calls Try.prog 15 #[.int .i64 a3, sn n4 d4 x4 y4] W (TurnsOut W LT lo) from by have := implTimesAlike_any a3 n4 d4 x4 y4 W; rw [hT] at this; exact this))
  have C16 := Lib.hid (fun W => (show Calls Try.prog 31 #[.int .i64 a3, sn n4 d4 x4 y4] W (TurnsOut W LT lo) from by have := specTimesAlike_any a3 n4 d4 x4 y4 kd4 ky4 W; rw [hT] at this; exact this))
  have C17 := Lib.hid (fun W => (show Calls Try.prog 14 #[sn n5 d5 x5 y5] W fun e w' => e = .returned (rs (ea, eb, ec, ed, eo)) ∧ Below W.heap.size W w' from by have := implExchangeSeen_any n5 d5 x5 y5 W; rw [hE] at this; exact this))
  have C18 := Lib.hid (fun W => (show Calls Try.prog 33 #[sn n5 d5 x5 y5] W fun e w' => e = .returned (rs (ea, eb, ec, ed, eo)) ∧ Below W.heap.size W w' from by have := specExchangeSeen_any n5 d5 x5 y5 kd5 ky5 W; rw [hE] at this; exact this))
  have HLT := Lib.hid (show LT.length ≤ 1000000 from by have := twoR_len a3 n4 d4 x4 y4 (x4, y4, n4, d4); rw [hT] at this; exact this)
  have HQ := Lib.hid (time_three hQ hI)
  have HT := Lib.hid (two_three hT hI)
  have HE := Lib.hid (exch_ok hE)
  clear hQ hI hT hE
  (go_enter Try.func4, Try.ntmps4)
  go_wp2_with fail
  refine (C1.out _).mono ?_
  rintro e1 w1 ⟨rfl, hb1⟩
  obtain ⟨hc1, hf1⟩ := bcell hb1
  have hz1 := hb1.size
  (try simp only [World.size_alloc, World.size_setCell, World.size_drew] at hz1)
  have B1 : Below w.heap.size w w1 := Below.trans (b := _) (by (repeat' (first | (with_reducible exact Below.refl _ _) | (with_reducible assumption) | (with_reducible refine Below.alloc ?_ ?_ _) | (with_reducible refine Below.drew ?_) | (with_reducible refine below_drewN ?_ _) | (with_reducible refine Below.setCell ?_ ?_ _) | (with_reducible refine below_call ?_ ?_ (by assumption)) | go_size))) (hb1.mono (by first | omega | (simp only [World.size_alloc, World.size_setCell, World.size_drew]; omega)))
  obtain ⟨hd1, -⟩ := bcell B1
  have c1_t_0 : w1.cell? ⟨w.heap.size, 0, none⟩ = some (.int .i64 n1) := (hc1 _ _ (by go_size)).trans (by go_simp)
  have c1_t_1 : w1.cell? ⟨w.heap.size, 1, none⟩ = some (.int .i64 d1) := (hc1 _ _ (by go_size)).trans (by go_simp)
  have q_t : w.heap.size < w1.heap.size := by omega
  have c1_s_0 : w1.cell? ⟨w.heap.size + 1, 0, none⟩ = some (.int .i64 n4) := (hc1 _ _ (by go_size)).trans (by go_simp)
  have c1_s_1 : w1.cell? ⟨w.heap.size + 1, 1, none⟩ = some (.int .i64 d4) := (hc1 _ _ (by go_size)).trans (by go_simp)
  have c1_s_2 : w1.cell? ⟨w.heap.size + 1, 2, none⟩ = some (.int .i64 x4) := (hc1 _ _ (by go_size)).trans (by go_simp)
  have c1_s_3 : w1.cell? ⟨w.heap.size + 1, 3, none⟩ = some (.int .i64 y4) := (hc1 _ _ (by go_size)).trans (by go_simp)
  have q_s : w.heap.size + 1 < w1.heap.size := by omega
  have c1_kk_0 : w1.cell? ⟨w.heap.size + 1 + 1, 0, none⟩ = some (.int .i64 n5) := (hc1 _ _ (by go_size)).trans (by go_simp)
  have c1_kk_1 : w1.cell? ⟨w.heap.size + 1 + 1, 1, none⟩ = some (.int .i64 d5) := (hc1 _ _ (by go_size)).trans (by go_simp)
  have c1_kk_2 : w1.cell? ⟨w.heap.size + 1 + 1, 2, none⟩ = some (.int .i64 x5) := (hc1 _ _ (by go_size)).trans (by go_simp)
  have c1_kk_3 : w1.cell? ⟨w.heap.size + 1 + 1, 3, none⟩ = some (.int .i64 y5) := (hc1 _ _ (by go_size)).trans (by go_simp)
  have q_kk : w.heap.size + 1 + 1 < w1.heap.size := by omega
  have BW1 : Below w.heap.size w w1 := B1
  clear hc1 hf1 hb1 hd1 B1 
  go_wp2_with fail
  refine (C2.out _).mono ?_
  rintro e2 w2 ⟨rfl, hb2⟩
  obtain ⟨hc2, hf2⟩ := bcell hb2
  have hz2 := hb2.size
  (try simp only [World.size_alloc, World.size_setCell, World.size_drew] at hz2)
  have B2 : Below w1.heap.size w1 w2 := Below.trans (b := _) (by (repeat' (first | (with_reducible exact Below.refl _ _) | (with_reducible assumption) | (with_reducible refine Below.alloc ?_ ?_ _) | (with_reducible refine Below.drew ?_) | (with_reducible refine below_drewN ?_ _) | (with_reducible refine Below.setCell ?_ ?_ _) | (with_reducible refine below_call ?_ ?_ (by assumption)) | go_size))) (hb2.mono (by first | omega | (simp only [World.size_alloc, World.size_setCell, World.size_drew]; omega)))
  obtain ⟨hd2, -⟩ := bcell B2
  have c2_t_0 : w2.cell? ⟨w.heap.size, 0, none⟩ = some (.int .i64 n1) := (hd2 _ _ q_t).trans c1_t_0
  have c2_t_1 : w2.cell? ⟨w.heap.size, 1, none⟩ = some (.int .i64 d1) := (hd2 _ _ q_t).trans c1_t_1
  have c2_s_0 : w2.cell? ⟨w.heap.size + 1, 0, none⟩ = some (.int .i64 n4) := (hd2 _ _ q_s).trans c1_s_0
  have c2_s_1 : w2.cell? ⟨w.heap.size + 1, 1, none⟩ = some (.int .i64 d4) := (hd2 _ _ q_s).trans c1_s_1
  have c2_s_2 : w2.cell? ⟨w.heap.size + 1, 2, none⟩ = some (.int .i64 x4) := (hd2 _ _ q_s).trans c1_s_2
  have c2_s_3 : w2.cell? ⟨w.heap.size + 1, 3, none⟩ = some (.int .i64 y4) := (hd2 _ _ q_s).trans c1_s_3
  have c2_kk_0 : w2.cell? ⟨w.heap.size + 1 + 1, 0, none⟩ = some (.int .i64 n5) := (hd2 _ _ q_kk).trans c1_kk_0
  have c2_kk_1 : w2.cell? ⟨w.heap.size + 1 + 1, 1, none⟩ = some (.int .i64 d5) := (hd2 _ _ q_kk).trans c1_kk_1
  have c2_kk_2 : w2.cell? ⟨w.heap.size + 1 + 1, 2, none⟩ = some (.int .i64 x5) := (hd2 _ _ q_kk).trans c1_kk_2
  have c2_kk_3 : w2.cell? ⟨w.heap.size + 1 + 1, 3, none⟩ = some (.int .i64 y5) := (hd2 _ _ q_kk).trans c1_kk_3
  replace q_t : w.heap.size < w2.heap.size := by omega
  replace q_s : w.heap.size + 1 < w2.heap.size := by omega
  replace q_kk : w.heap.size + 1 + 1 < w2.heap.size := by omega
  have c2_taken_0 : w2.cell? ⟨w1.heap.size, 0, none⟩ = some (.int .i64 xn) := (hc2 _ _ (by go_size)).trans (by go_simp)
  have c2_taken_1 : w2.cell? ⟨w1.heap.size, 1, none⟩ = some (.int .i64 xd) := (hc2 _ _ (by go_size)).trans (by go_simp)
  have q_taken : w1.heap.size < w2.heap.size := by omega
  have BW2 : Below w.heap.size w w2 := BW1.trans (B2.mono BW1.size)
  clear hc2 hf2 hb2 hd2 B2 c1_t_0 c1_t_1 c1_s_0 c1_s_1 c1_s_2 c1_s_3 c1_kk_0 c1_kk_1 c1_kk_2 c1_kk_3 BW1
  go_wp2_with fail
  refine (C3.out _).mono ?_
  rintro e3 w3 ⟨rfl, hb3⟩
  obtain ⟨hc3, hf3⟩ := bcell hb3
  have hz3 := hb3.size
  (try simp only [World.size_alloc, World.size_setCell, World.size_drew] at hz3)
  have B3 : Below w2.heap.size w2 w3 := Below.trans (b := _) (by (repeat' (first | (with_reducible exact Below.refl _ _) | (with_reducible assumption) | (with_reducible refine Below.alloc ?_ ?_ _) | (with_reducible refine Below.drew ?_) | (with_reducible refine below_drewN ?_ _) | (with_reducible refine Below.setCell ?_ ?_ _) | (with_reducible refine below_call ?_ ?_ (by assumption)) | go_size))) (hb3.mono (by first | omega | (simp only [World.size_alloc, World.size_setCell, World.size_drew]; omega)))
  obtain ⟨hd3, -⟩ := bcell B3
  have c3_t_0 : w3.cell? ⟨w.heap.size, 0, none⟩ = some (.int .i64 n1) := (hd3 _ _ q_t).trans c2_t_0
  have c3_t_1 : w3.cell? ⟨w.heap.size, 1, none⟩ = some (.int .i64 d1) := (hd3 _ _ q_t).trans c2_t_1
  have c3_s_0 : w3.cell? ⟨w.heap.size + 1, 0, none⟩ = some (.int .i64 n4) := (hd3 _ _ q_s).trans c2_s_0
  have c3_s_1 : w3.cell? ⟨w.heap.size + 1, 1, none⟩ = some (.int .i64 d4) := (hd3 _ _ q_s).trans c2_s_1
  have c3_s_2 : w3.cell? ⟨w.heap.size + 1, 2, none⟩ = some (.int .i64 x4) := (hd3 _ _ q_s).trans c2_s_2
  have c3_s_3 : w3.cell? ⟨w.heap.size + 1, 3, none⟩ = some (.int .i64 y4) := (hd3 _ _ q_s).trans c2_s_3
  have c3_kk_0 : w3.cell? ⟨w.heap.size + 1 + 1, 0, none⟩ = some (.int .i64 n5) := (hd3 _ _ q_kk).trans c2_kk_0
  have c3_kk_1 : w3.cell? ⟨w.heap.size + 1 + 1, 1, none⟩ = some (.int .i64 d5) := (hd3 _ _ q_kk).trans c2_kk_1
  have c3_kk_2 : w3.cell? ⟨w.heap.size + 1 + 1, 2, none⟩ = some (.int .i64 x5) := (hd3 _ _ q_kk).trans c2_kk_2
  have c3_kk_3 : w3.cell? ⟨w.heap.size + 1 + 1, 3, none⟩ = some (.int .i64 y5) := (hd3 _ _ q_kk).trans c2_kk_3
  have c3_taken_0 : w3.cell? ⟨w1.heap.size, 0, none⟩ = some (.int .i64 xn) := (hd3 _ _ q_taken).trans c2_taken_0
  have c3_taken_1 : w3.cell? ⟨w1.heap.size, 1, none⟩ = some (.int .i64 xd) := (hd3 _ _ q_taken).trans c2_taken_1
  replace q_t : w.heap.size < w3.heap.size := by omega
  replace q_s : w.heap.size + 1 < w3.heap.size := by omega
  replace q_kk : w.heap.size + 1 + 1 < w3.heap.size := by omega
  replace q_taken : w1.heap.size < w3.heap.size := by omega
  have c3_right_0 : w3.cell? ⟨w2.heap.size, 0, none⟩ = some (.int .i64 xn) := (hc3 _ _ (by go_size)).trans (by go_simp)
  have c3_right_1 : w3.cell? ⟨w2.heap.size, 1, none⟩ = some (.int .i64 xd) := (hc3 _ _ (by go_size)).trans (by go_simp)
  have q_right : w2.heap.size < w3.heap.size := by omega
  have BW3 : Below w.heap.size w w3 := BW2.trans (B3.mono BW2.size)
  clear hc3 hf3 hb3 hd3 B3 c2_t_0 c2_t_1 c2_s_0 c2_s_1 c2_s_2 c2_s_3 c2_kk_0 c2_kk_1 c2_kk_2 c2_kk_3 c2_taken_0 c2_taken_1 BW2
  go_wp2_with fail
  refine (C4.out _).mono ?_
  rintro e4 w4 ⟨rfl, hb4⟩
  obtain ⟨hc4, hf4⟩ := bcell hb4
  have hz4 := hb4.size
  (try simp only [World.size_alloc, World.size_setCell, World.size_drew] at hz4)
  have B4 : Below w3.heap.size w3 w4 := Below.trans (b := _) (by (repeat' (first | (with_reducible exact Below.refl _ _) | (with_reducible assumption) | (with_reducible refine Below.alloc ?_ ?_ _) | (with_reducible refine Below.drew ?_) | (with_reducible refine below_drewN ?_ _) | (with_reducible refine Below.setCell ?_ ?_ _) | (with_reducible refine below_call ?_ ?_ (by assumption)) | go_size))) (hb4.mono (by first | omega | (simp only [World.size_alloc, World.size_setCell, World.size_drew]; omega)))
  obtain ⟨hd4, -⟩ := bcell B4
  have c4_t_0 : w4.cell? ⟨w.heap.size, 0, none⟩ = some (.int .i64 n1) := (hd4 _ _ q_t).trans c3_t_0
  have c4_t_1 : w4.cell? ⟨w.heap.size, 1, none⟩ = some (.int .i64 d1) := (hd4 _ _ q_t).trans c3_t_1
  have c4_s_0 : w4.cell? ⟨w.heap.size + 1, 0, none⟩ = some (.int .i64 n4) := (hd4 _ _ q_s).trans c3_s_0
  have c4_s_1 : w4.cell? ⟨w.heap.size + 1, 1, none⟩ = some (.int .i64 d4) := (hd4 _ _ q_s).trans c3_s_1
  have c4_s_2 : w4.cell? ⟨w.heap.size + 1, 2, none⟩ = some (.int .i64 x4) := (hd4 _ _ q_s).trans c3_s_2
  have c4_s_3 : w4.cell? ⟨w.heap.size + 1, 3, none⟩ = some (.int .i64 y4) := (hd4 _ _ q_s).trans c3_s_3
  have c4_kk_0 : w4.cell? ⟨w.heap.size + 1 + 1, 0, none⟩ = some (.int .i64 n5) := (hd4 _ _ q_kk).trans c3_kk_0
  have c4_kk_1 : w4.cell? ⟨w.heap.size + 1 + 1, 1, none⟩ = some (.int .i64 d5) := (hd4 _ _ q_kk).trans c3_kk_1
  have c4_kk_2 : w4.cell? ⟨w.heap.size + 1 + 1, 2, none⟩ = some (.int .i64 x5) := (hd4 _ _ q_kk).trans c3_kk_2
  have c4_kk_3 : w4.cell? ⟨w.heap.size + 1 + 1, 3, none⟩ = some (.int .i64 y5) := (hd4 _ _ q_kk).trans c3_kk_3
  have c4_taken_0 : w4.cell? ⟨w1.heap.size, 0, none⟩ = some (.int .i64 xn) := (hd4 _ _ q_taken).trans c3_taken_0
  have c4_taken_1 : w4.cell? ⟨w1.heap.size, 1, none⟩ = some (.int .i64 xd) := (hd4 _ _ q_taken).trans c3_taken_1
  have c4_right_0 : w4.cell? ⟨w2.heap.size, 0, none⟩ = some (.int .i64 xn) := (hd4 _ _ q_right).trans c3_right_0
  have c4_right_1 : w4.cell? ⟨w2.heap.size, 1, none⟩ = some (.int .i64 xd) := (hd4 _ _ q_right).trans c3_right_1
  replace q_t : w.heap.size < w4.heap.size := by omega
  replace q_s : w.heap.size + 1 < w4.heap.size := by omega
  replace q_kk : w.heap.size + 1 + 1 < w4.heap.size := by omega
  replace q_taken : w1.heap.size < w4.heap.size := by omega
  replace q_right : w2.heap.size < w4.heap.size := by omega
  have c4_seen_0 : w4.cell? ⟨w3.heap.size, 0, none⟩ = some (.int .i64 sa) := (hc4 _ _ (by go_size)).trans (by go_simp)
  have c4_seen_1 : w4.cell? ⟨w3.heap.size, 1, none⟩ = some (.int .i64 sb) := (hc4 _ _ (by go_size)).trans (by go_simp)
  have c4_seen_2 : w4.cell? ⟨w3.heap.size, 2, none⟩ = some (.int .i64 sc) := (hc4 _ _ (by go_size)).trans (by go_simp)
  have c4_seen_3 : w4.cell? ⟨w3.heap.size, 3, none⟩ = some (.int .i64 se) := (hc4 _ _ (by go_size)).trans (by go_simp)
  have q_seen : w3.heap.size < w4.heap.size := by omega
  have BW4 : Below w.heap.size w w4 := BW3.trans (B4.mono BW3.size)
  clear hc4 hf4 hb4 hd4 B4 c3_t_0 c3_t_1 c3_s_0 c3_s_1 c3_s_2 c3_s_3 c3_kk_0 c3_kk_1 c3_kk_2 c3_kk_3 c3_taken_0 c3_taken_1 c3_right_0 c3_right_1 BW3
  go_upto_region 5 with fail
  have hb5 : Below w4.heap.size w4 (w4.alloc (Obj.cells #[.int .i64 sa, .int .i64 sb, .int .i64 sc, .int .i64 se] 31)) := by (repeat' (first | (with_reducible exact Below.refl _ _) | (with_reducible assumption) | (with_reducible refine Below.alloc ?_ ?_ _) | (with_reducible refine Below.drew ?_) | (with_reducible refine below_drewN ?_ _) | (with_reducible refine Below.setCell ?_ ?_ _) | (with_reducible refine below_call ?_ ?_ (by assumption)) | go_size))
  have c5_want_0 : (w4.alloc (Obj.cells #[.int .i64 sa, .int .i64 sb, .int .i64 sc, .int .i64 se] 31)).cell? ⟨w4.heap.size, 0, none⟩ = some (.int .i64 sa) := by go_simp
  have c5_want_1 : (w4.alloc (Obj.cells #[.int .i64 sa, .int .i64 sb, .int .i64 sc, .int .i64 se] 31)).cell? ⟨w4.heap.size, 1, none⟩ = some (.int .i64 sb) := by go_simp
  have c5_want_2 : (w4.alloc (Obj.cells #[.int .i64 sa, .int .i64 sb, .int .i64 sc, .int .i64 se] 31)).cell? ⟨w4.heap.size, 2, none⟩ = some (.int .i64 sc) := by go_simp
  have c5_want_3 : (w4.alloc (Obj.cells #[.int .i64 sa, .int .i64 sb, .int .i64 sc, .int .i64 se] 31)).cell? ⟨w4.heap.size, 3, none⟩ = some (.int .i64 se) := by go_simp
  have q_want : w4.heap.size < (w4.alloc (Obj.cells #[.int .i64 sa, .int .i64 sb, .int .i64 sc, .int .i64 se] 31)).heap.size := by go_size
  generalize (w4.alloc (Obj.cells #[.int .i64 sa, .int .i64 sb, .int .i64 sc, .int .i64 se] 31)) = w5 at *
  obtain ⟨hd5, -⟩ := bcell hb5
  have hz5 := hb5.size
  have c5_t_0 : w5.cell? ⟨w.heap.size, 0, none⟩ = some (.int .i64 n1) := (hd5 _ _ q_t).trans c4_t_0
  have c5_t_1 : w5.cell? ⟨w.heap.size, 1, none⟩ = some (.int .i64 d1) := (hd5 _ _ q_t).trans c4_t_1
  have c5_s_0 : w5.cell? ⟨w.heap.size + 1, 0, none⟩ = some (.int .i64 n4) := (hd5 _ _ q_s).trans c4_s_0
  have c5_s_1 : w5.cell? ⟨w.heap.size + 1, 1, none⟩ = some (.int .i64 d4) := (hd5 _ _ q_s).trans c4_s_1
  have c5_s_2 : w5.cell? ⟨w.heap.size + 1, 2, none⟩ = some (.int .i64 x4) := (hd5 _ _ q_s).trans c4_s_2
  have c5_s_3 : w5.cell? ⟨w.heap.size + 1, 3, none⟩ = some (.int .i64 y4) := (hd5 _ _ q_s).trans c4_s_3
  have c5_kk_0 : w5.cell? ⟨w.heap.size + 1 + 1, 0, none⟩ = some (.int .i64 n5) := (hd5 _ _ q_kk).trans c4_kk_0
  have c5_kk_1 : w5.cell? ⟨w.heap.size + 1 + 1, 1, none⟩ = some (.int .i64 d5) := (hd5 _ _ q_kk).trans c4_kk_1
  have c5_kk_2 : w5.cell? ⟨w.heap.size + 1 + 1, 2, none⟩ = some (.int .i64 x5) := (hd5 _ _ q_kk).trans c4_kk_2
  have c5_kk_3 : w5.cell? ⟨w.heap.size + 1 + 1, 3, none⟩ = some (.int .i64 y5) := (hd5 _ _ q_kk).trans c4_kk_3
  have c5_taken_0 : w5.cell? ⟨w1.heap.size, 0, none⟩ = some (.int .i64 xn) := (hd5 _ _ q_taken).trans c4_taken_0
  have c5_taken_1 : w5.cell? ⟨w1.heap.size, 1, none⟩ = some (.int .i64 xd) := (hd5 _ _ q_taken).trans c4_taken_1
  have c5_right_0 : w5.cell? ⟨w2.heap.size, 0, none⟩ = some (.int .i64 xn) := (hd5 _ _ q_right).trans c4_right_0
  have c5_right_1 : w5.cell? ⟨w2.heap.size, 1, none⟩ = some (.int .i64 xd) := (hd5 _ _ q_right).trans c4_right_1
  have c5_seen_0 : w5.cell? ⟨w3.heap.size, 0, none⟩ = some (.int .i64 sa) := (hd5 _ _ q_seen).trans c4_seen_0
  have c5_seen_1 : w5.cell? ⟨w3.heap.size, 1, none⟩ = some (.int .i64 sb) := (hd5 _ _ q_seen).trans c4_seen_1
  have c5_seen_2 : w5.cell? ⟨w3.heap.size, 2, none⟩ = some (.int .i64 sc) := (hd5 _ _ q_seen).trans c4_seen_2
  have c5_seen_3 : w5.cell? ⟨w3.heap.size, 3, none⟩ = some (.int .i64 se) := (hd5 _ _ q_seen).trans c4_seen_3
  replace q_t : w.heap.size < w5.heap.size := by omega
  replace q_s : w.heap.size + 1 < w5.heap.size := by omega
  replace q_kk : w.heap.size + 1 + 1 < w5.heap.size := by omega
  replace q_taken : w1.heap.size < w5.heap.size := by omega
  replace q_right : w2.heap.size < w5.heap.size := by omega
  replace q_seen : w3.heap.size < w5.heap.size := by omega
  have BW5 : Below w.heap.size w w5 := BW4.trans (hb5.mono BW4.size)
  clear hb5 hd5 c4_t_0 c4_t_1 c4_s_0 c4_s_1 c4_s_2 c4_s_3 c4_kk_0 c4_kk_1 c4_kk_2 c4_kk_3 c4_taken_0 c4_taken_1 c4_right_0 c4_right_1 c4_seen_0 c4_seen_1 c4_seen_2 c4_seen_3 BW4
  go_cut [121] from 999 to 999 (fun x wx => x = .bool false ∧ Below w5.heap.size w5 wx)
  case first =>
    as_aux_lemma =>
      cases xo
      · go_wp2_with fail
        go_meet
        case rel => exact ⟨rfl, Below.refl _ _⟩
      · have e := F1.out rfl
        subst e
        go_wp2_with fail
        go_meet
        case rel => exact ⟨rfl, Below.refl _ _⟩
  case rest =>
    obtain ⟨rfl, hb6⟩ := hcut
    obtain ⟨w6, hw6⟩ : ∃ x : World, x = wc := ⟨_, rfl⟩
    subst hw6
    obtain ⟨hc6, hf6⟩ := bcell hb6
    have hz6 := hb6.size
    (try simp only [World.size_alloc, World.size_setCell, World.size_drew] at hz6)
    have B6 : Below w5.heap.size w5 w6 := Below.trans (b := _) (by (repeat' (first | (with_reducible exact Below.refl _ _) | (with_reducible assumption) | (with_reducible refine Below.alloc ?_ ?_ _) | (with_reducible refine Below.drew ?_) | (with_reducible refine below_drewN ?_ _) | (with_reducible refine Below.setCell ?_ ?_ _) | (with_reducible refine below_call ?_ ?_ (by assumption)) | go_size))) (hb6.mono (by first | omega | (simp only [World.size_alloc, World.size_setCell, World.size_drew]; omega)))
    obtain ⟨hd6, -⟩ := bcell B6
    have c6_t_0 : w6.cell? ⟨w.heap.size, 0, none⟩ = some (.int .i64 n1) := (hd6 _ _ q_t).trans c5_t_0
    have c6_t_1 : w6.cell? ⟨w.heap.size, 1, none⟩ = some (.int .i64 d1) := (hd6 _ _ q_t).trans c5_t_1
    have c6_s_0 : w6.cell? ⟨w.heap.size + 1, 0, none⟩ = some (.int .i64 n4) := (hd6 _ _ q_s).trans c5_s_0
    have c6_s_1 : w6.cell? ⟨w.heap.size + 1, 1, none⟩ = some (.int .i64 d4) := (hd6 _ _ q_s).trans c5_s_1
    have c6_s_2 : w6.cell? ⟨w.heap.size + 1, 2, none⟩ = some (.int .i64 x4) := (hd6 _ _ q_s).trans c5_s_2
    have c6_s_3 : w6.cell? ⟨w.heap.size + 1, 3, none⟩ = some (.int .i64 y4) := (hd6 _ _ q_s).trans c5_s_3
    have c6_kk_0 : w6.cell? ⟨w.heap.size + 1 + 1, 0, none⟩ = some (.int .i64 n5) := (hd6 _ _ q_kk).trans c5_kk_0
    have c6_kk_1 : w6.cell? ⟨w.heap.size + 1 + 1, 1, none⟩ = some (.int .i64 d5) := (hd6 _ _ q_kk).trans c5_kk_1
    have c6_kk_2 : w6.cell? ⟨w.heap.size + 1 + 1, 2, none⟩ = some (.int .i64 x5) := (hd6 _ _ q_kk).trans c5_kk_2
    have c6_kk_3 : w6.cell? ⟨w.heap.size + 1 + 1, 3, none⟩ = some (.int .i64 y5) := (hd6 _ _ q_kk).trans c5_kk_3
    have c6_taken_0 : w6.cell? ⟨w1.heap.size, 0, none⟩ = some (.int .i64 xn) := (hd6 _ _ q_taken).trans c5_taken_0
    have c6_taken_1 : w6.cell? ⟨w1.heap.size, 1, none⟩ = some (.int .i64 xd) := (hd6 _ _ q_taken).trans c5_taken_1
    have c6_right_0 : w6.cell? ⟨w2.heap.size, 0, none⟩ = some (.int .i64 xn) := (hd6 _ _ q_right).trans c5_right_0
    have c6_right_1 : w6.cell? ⟨w2.heap.size, 1, none⟩ = some (.int .i64 xd) := (hd6 _ _ q_right).trans c5_right_1
    have c6_seen_0 : w6.cell? ⟨w3.heap.size, 0, none⟩ = some (.int .i64 sa) := (hd6 _ _ q_seen).trans c5_seen_0
    have c6_seen_1 : w6.cell? ⟨w3.heap.size, 1, none⟩ = some (.int .i64 sb) := (hd6 _ _ q_seen).trans c5_seen_1
    have c6_seen_2 : w6.cell? ⟨w3.heap.size, 2, none⟩ = some (.int .i64 sc) := (hd6 _ _ q_seen).trans c5_seen_2
    have c6_seen_3 : w6.cell? ⟨w3.heap.size, 3, none⟩ = some (.int .i64 se) := (hd6 _ _ q_seen).trans c5_seen_3
    have c6_want_0 : w6.cell? ⟨w4.heap.size, 0, none⟩ = some (.int .i64 sa) := (hd6 _ _ q_want).trans c5_want_0
    have c6_want_1 : w6.cell? ⟨w4.heap.size, 1, none⟩ = some (.int .i64 sb) := (hd6 _ _ q_want).trans c5_want_1
    have c6_want_2 : w6.cell? ⟨w4.heap.size, 2, none⟩ = some (.int .i64 sc) := (hd6 _ _ q_want).trans c5_want_2
    have c6_want_3 : w6.cell? ⟨w4.heap.size, 3, none⟩ = some (.int .i64 se) := (hd6 _ _ q_want).trans c5_want_3
    replace q_t : w.heap.size < w6.heap.size := by omega
    replace q_s : w.heap.size + 1 < w6.heap.size := by omega
    replace q_kk : w.heap.size + 1 + 1 < w6.heap.size := by omega
    replace q_taken : w1.heap.size < w6.heap.size := by omega
    replace q_right : w2.heap.size < w6.heap.size := by omega
    replace q_seen : w3.heap.size < w6.heap.size := by omega
    replace q_want : w4.heap.size < w6.heap.size := by omega
    have BW6 : Below w.heap.size w w6 := BW5.trans (B6.mono BW5.size)
    clear hc6 hf6 hb6 hd6 B6 c5_t_0 c5_t_1 c5_s_0 c5_s_1 c5_s_2 c5_s_3 c5_kk_0 c5_kk_1 c5_kk_2 c5_kk_3 c5_taken_0 c5_taken_1 c5_right_0 c5_right_1 c5_seen_0 c5_seen_1 c5_seen_2 c5_seen_3 c5_want_0 c5_want_1 c5_want_2 c5_want_3 BW5
    go_upto_if 122 with fail
    go_cut [] from 999 to 999 (fun wx => Below w6.heap.size w6 wx)
    case first =>
      as_aux_lemma =>
        cases so
        · go_wp2_with fail
          go_meet
          case rel => exact Below.refl _ _
        · obtain ⟨⟨g1, g2, g3, g4, g5⟩, g6, g7, g8, g9, g10⟩ := F2.out rfl
          obtain ⟨LL, hLL⟩ : ∃ l, (twoR a0 sa sb sc se (sc, se, sa, sb)).1 = l := ⟨_, rfl⟩
          have Z1 := Lib.hid (fun W => (show Calls Try.prog 15 #[.int .i64 a0, sn sa sb sc se] W (TurnsOut W LL true) from by have := implTimesAlike_any a0 sa sb sc se W; rw [hLL, g6] at this; exact this))
          have HLL := Lib.hid (show LL.length ≤ 1000000 from by rw [← hLL]; exact twoR_len _ _ _ _ _ _)
          rw [hLL] at g7 g8 g9 g10
          clear hLL g6
          have Z2 := Lib.hid (fun W => (show Calls Try.prog 12 #[.int .i64 a0, sn sa sb sc se] W fun e w' => e = .returned (bbv (true, true)) ∧ Below W.heap.size W w' from by have := implIsTrueSeen_any a0 sa sb sc se W; rw [g2] at this; exact this))
          have Z3 := Lib.hid (fun W => (show Calls Try.prog 13 #[.int .i64 a0, sn sa sb sc se] W fun e w' => e = .returned (rv (n1, d1, true)) ∧ Below W.heap.size W w' from by have := implTimeSeen_any a0 sa sb sc se W; rw [g3] at this; exact this))
          have Z4 := Lib.hid (fun W => (show Calls Try.prog 14 #[sn sa sb sc se] W fun e w' => e = .returned (rs (sc, se, sa, sb, true)) ∧ Below W.heap.size W w' from by have := implExchangeSeen_any sa sb sc se W; rw [g4] at this; exact this))
          have Z5 := Lib.hid (fun W => (show Calls Try.prog 12 #[.int .i64 a0, sn sc se sa sb] W fun e w' => e = .returned (bbv (xo, true)) ∧ Below W.heap.size W w' from by have := implIsTrueSeen_any a0 sc se sa sb W; rw [g5] at this; exact this))
          have G1 := Lib.hid g1
          have G7 := Lib.hid g7
          have G8 := Lib.hid (hasT_yes g8)
          have G9 := Lib.hid g9
          have G10 := Lib.hid g10
          clear g1 g2 g3 g4 g5 g7 g8 g9 g10
          go_wp2_with fail
          refine (Z2.out _).mono ?_
          rintro e7 w7 ⟨rfl, hb7⟩
          obtain ⟨hc7, hf7⟩ := bcell hb7
          have hz7 := hb7.size
          (try simp only [World.size_alloc, World.size_setCell, World.size_drew] at hz7)
          have B7 : Below w6.heap.size w6 w7 := Below.trans (b := _) (by (repeat' (first | (with_reducible exact Below.refl _ _) | (with_reducible assumption) | (with_reducible refine Below.alloc ?_ ?_ _) | (with_reducible refine Below.drew ?_) | (with_reducible refine below_drewN ?_ _) | (with_reducible refine Below.setCell ?_ ?_ _) | (with_reducible refine below_call ?_ ?_ (by assumption)) | go_size))) (hb7.mono (by first | omega | (simp only [World.size_alloc, World.size_setCell, World.size_drew]; omega)))
          obtain ⟨hd7, -⟩ := bcell B7
          have c7_t_0 : w7.cell? ⟨w.heap.size, 0, none⟩ = some (.int .i64 n1) := (hd7 _ _ q_t).trans c6_t_0
          have c7_t_1 : w7.cell? ⟨w.heap.size, 1, none⟩ = some (.int .i64 d1) := (hd7 _ _ q_t).trans c6_t_1
          have c7_s_0 : w7.cell? ⟨w.heap.size + 1, 0, none⟩ = some (.int .i64 n4) := (hd7 _ _ q_s).trans c6_s_0
          have c7_s_1 : w7.cell? ⟨w.heap.size + 1, 1, none⟩ = some (.int .i64 d4) := (hd7 _ _ q_s).trans c6_s_1
          have c7_s_2 : w7.cell? ⟨w.heap.size + 1, 2, none⟩ = some (.int .i64 x4) := (hd7 _ _ q_s).trans c6_s_2
          have c7_s_3 : w7.cell? ⟨w.heap.size + 1, 3, none⟩ = some (.int .i64 y4) := (hd7 _ _ q_s).trans c6_s_3
          have c7_kk_0 : w7.cell? ⟨w.heap.size + 1 + 1, 0, none⟩ = some (.int .i64 n5) := (hd7 _ _ q_kk).trans c6_kk_0
          have c7_kk_1 : w7.cell? ⟨w.heap.size + 1 + 1, 1, none⟩ = some (.int .i64 d5) := (hd7 _ _ q_kk).trans c6_kk_1
          have c7_kk_2 : w7.cell? ⟨w.heap.size + 1 + 1, 2, none⟩ = some (.int .i64 x5) := (hd7 _ _ q_kk).trans c6_kk_2
          have c7_kk_3 : w7.cell? ⟨w.heap.size + 1 + 1, 3, none⟩ = some (.int .i64 y5) := (hd7 _ _ q_kk).trans c6_kk_3
          have c7_taken_0 : w7.cell? ⟨w1.heap.size, 0, none⟩ = some (.int .i64 xn) := (hd7 _ _ q_taken).trans c6_taken_0
          have c7_taken_1 : w7.cell? ⟨w1.heap.size, 1, none⟩ = some (.int .i64 xd) := (hd7 _ _ q_taken).trans c6_taken_1
          have c7_right_0 : w7.cell? ⟨w2.heap.size, 0, none⟩ = some (.int .i64 xn) := (hd7 _ _ q_right).trans c6_right_0
          have c7_right_1 : w7.cell? ⟨w2.heap.size, 1, none⟩ = some (.int .i64 xd) := (hd7 _ _ q_right).trans c6_right_1
          have c7_seen_0 : w7.cell? ⟨w3.heap.size, 0, none⟩ = some (.int .i64 sa) := (hd7 _ _ q_seen).trans c6_seen_0
          have c7_seen_1 : w7.cell? ⟨w3.heap.size, 1, none⟩ = some (.int .i64 sb) := (hd7 _ _ q_seen).trans c6_seen_1
          have c7_seen_2 : w7.cell? ⟨w3.heap.size, 2, none⟩ = some (.int .i64 sc) := (hd7 _ _ q_seen).trans c6_seen_2
          have c7_seen_3 : w7.cell? ⟨w3.heap.size, 3, none⟩ = some (.int .i64 se) := (hd7 _ _ q_seen).trans c6_seen_3
          have c7_want_0 : w7.cell? ⟨w4.heap.size, 0, none⟩ = some (.int .i64 sa) := (hd7 _ _ q_want).trans c6_want_0
          have c7_want_1 : w7.cell? ⟨w4.heap.size, 1, none⟩ = some (.int .i64 sb) := (hd7 _ _ q_want).trans c6_want_1
          have c7_want_2 : w7.cell? ⟨w4.heap.size, 2, none⟩ = some (.int .i64 sc) := (hd7 _ _ q_want).trans c6_want_2
          have c7_want_3 : w7.cell? ⟨w4.heap.size, 3, none⟩ = some (.int .i64 se) := (hd7 _ _ q_want).trans c6_want_3
          replace q_t : w.heap.size < w7.heap.size := by omega
          replace q_s : w.heap.size + 1 < w7.heap.size := by omega
          replace q_kk : w.heap.size + 1 + 1 < w7.heap.size := by omega
          replace q_taken : w1.heap.size < w7.heap.size := by omega
          replace q_right : w2.heap.size < w7.heap.size := by omega
          replace q_seen : w3.heap.size < w7.heap.size := by omega
          replace q_want : w4.heap.size < w7.heap.size := by omega
          have BW7 : Below w.heap.size w w7 := BW6.trans (B7.mono BW6.size)
          have BX7 : Below w6.heap.size w6 w7 := B7
          clear hc7 hf7 hb7 hd7 B7 c6_t_0 c6_t_1 c6_s_0 c6_s_1 c6_s_2 c6_s_3 c6_kk_0 c6_kk_1 c6_kk_2 c6_kk_3 c6_taken_0 c6_taken_1 c6_right_0 c6_right_1 c6_seen_0 c6_seen_1 c6_seen_2 c6_seen_3 c6_want_0 c6_want_1 c6_want_2 c6_want_3 BW6
          go_wp2_with fail
          refine (Z3.out _).mono ?_
          rintro e8 w8 ⟨rfl, hb8⟩
          obtain ⟨hc8, hf8⟩ := bcell hb8
          have hz8 := hb8.size
          (try simp only [World.size_alloc, World.size_setCell, World.size_drew] at hz8)
          have B8 : Below w7.heap.size w7 w8 := Below.trans (b := _) (by (repeat' (first | (with_reducible exact Below.refl _ _) | (with_reducible assumption) | (with_reducible refine Below.alloc ?_ ?_ _) | (with_reducible refine Below.drew ?_) | (with_reducible refine below_drewN ?_ _) | (with_reducible refine Below.setCell ?_ ?_ _) | (with_reducible refine below_call ?_ ?_ (by assumption)) | go_size))) (hb8.mono (by first | omega | (simp only [World.size_alloc, World.size_setCell, World.size_drew]; omega)))
          obtain ⟨hd8, -⟩ := bcell B8
          have c8_t_0 : w8.cell? ⟨w.heap.size, 0, none⟩ = some (.int .i64 n1) := (hd8 _ _ q_t).trans c7_t_0
          have c8_t_1 : w8.cell? ⟨w.heap.size, 1, none⟩ = some (.int .i64 d1) := (hd8 _ _ q_t).trans c7_t_1
          have c8_s_0 : w8.cell? ⟨w.heap.size + 1, 0, none⟩ = some (.int .i64 n4) := (hd8 _ _ q_s).trans c7_s_0
          have c8_s_1 : w8.cell? ⟨w.heap.size + 1, 1, none⟩ = some (.int .i64 d4) := (hd8 _ _ q_s).trans c7_s_1
          have c8_s_2 : w8.cell? ⟨w.heap.size + 1, 2, none⟩ = some (.int .i64 x4) := (hd8 _ _ q_s).trans c7_s_2
          have c8_s_3 : w8.cell? ⟨w.heap.size + 1, 3, none⟩ = some (.int .i64 y4) := (hd8 _ _ q_s).trans c7_s_3
          have c8_kk_0 : w8.cell? ⟨w.heap.size + 1 + 1, 0, none⟩ = some (.int .i64 n5) := (hd8 _ _ q_kk).trans c7_kk_0
          have c8_kk_1 : w8.cell? ⟨w.heap.size + 1 + 1, 1, none⟩ = some (.int .i64 d5) := (hd8 _ _ q_kk).trans c7_kk_1
          have c8_kk_2 : w8.cell? ⟨w.heap.size + 1 + 1, 2, none⟩ = some (.int .i64 x5) := (hd8 _ _ q_kk).trans c7_kk_2
          have c8_kk_3 : w8.cell? ⟨w.heap.size + 1 + 1, 3, none⟩ = some (.int .i64 y5) := (hd8 _ _ q_kk).trans c7_kk_3
          have c8_taken_0 : w8.cell? ⟨w1.heap.size, 0, none⟩ = some (.int .i64 xn) := (hd8 _ _ q_taken).trans c7_taken_0
          have c8_taken_1 : w8.cell? ⟨w1.heap.size, 1, none⟩ = some (.int .i64 xd) := (hd8 _ _ q_taken).trans c7_taken_1
          have c8_right_0 : w8.cell? ⟨w2.heap.size, 0, none⟩ = some (.int .i64 xn) := (hd8 _ _ q_right).trans c7_right_0
          have c8_right_1 : w8.cell? ⟨w2.heap.size, 1, none⟩ = some (.int .i64 xd) := (hd8 _ _ q_right).trans c7_right_1
          have c8_seen_0 : w8.cell? ⟨w3.heap.size, 0, none⟩ = some (.int .i64 sa) := (hd8 _ _ q_seen).trans c7_seen_0
          have c8_seen_1 : w8.cell? ⟨w3.heap.size, 1, none⟩ = some (.int .i64 sb) := (hd8 _ _ q_seen).trans c7_seen_1
          have c8_seen_2 : w8.cell? ⟨w3.heap.size, 2, none⟩ = some (.int .i64 sc) := (hd8 _ _ q_seen).trans c7_seen_2
          have c8_seen_3 : w8.cell? ⟨w3.heap.size, 3, none⟩ = some (.int .i64 se) := (hd8 _ _ q_seen).trans c7_seen_3
          have c8_want_0 : w8.cell? ⟨w4.heap.size, 0, none⟩ = some (.int .i64 sa) := (hd8 _ _ q_want).trans c7_want_0
          have c8_want_1 : w8.cell? ⟨w4.heap.size, 1, none⟩ = some (.int .i64 sb) := (hd8 _ _ q_want).trans c7_want_1
          have c8_want_2 : w8.cell? ⟨w4.heap.size, 2, none⟩ = some (.int .i64 sc) := (hd8 _ _ q_want).trans c7_want_2
          have c8_want_3 : w8.cell? ⟨w4.heap.size, 3, none⟩ = some (.int .i64 se) := (hd8 _ _ q_want).trans c7_want_3
          replace q_t : w.heap.size < w8.heap.size := by omega
          replace q_s : w.heap.size + 1 < w8.heap.size := by omega
          replace q_kk : w.heap.size + 1 + 1 < w8.heap.size := by omega
          replace q_taken : w1.heap.size < w8.heap.size := by omega
          replace q_right : w2.heap.size < w8.heap.size := by omega
          replace q_seen : w3.heap.size < w8.heap.size := by omega
          replace q_want : w4.heap.size < w8.heap.size := by omega
          have BW8 : Below w.heap.size w w8 := BW7.trans (B8.mono BW7.size)
          have BX8 : Below w6.heap.size w6 w8 := BX7.trans (B8.mono BX7.size)
          clear BX7
          clear hc8 hf8 hb8 hd8 B8 c7_t_0 c7_t_1 c7_s_0 c7_s_1 c7_s_2 c7_s_3 c7_kk_0 c7_kk_1 c7_kk_2 c7_kk_3 c7_taken_0 c7_taken_1 c7_right_0 c7_right_1 c7_seen_0 c7_seen_1 c7_seen_2 c7_seen_3 c7_want_0 c7_want_1 c7_want_2 c7_want_3 BW7
          go_wp2_with fail
          refine (Z4.out _).mono ?_
          rintro e9 w9 ⟨rfl, hb9⟩
          obtain ⟨hc9, hf9⟩ := bcell hb9
          have hz9 := hb9.size
          (try simp only [World.size_alloc, World.size_setCell, World.size_drew] at hz9)
          have B9 : Below w8.heap.size w8 w9 := Below.trans (b := _) (by (repeat' (first | (with_reducible exact Below.refl _ _) | (with_reducible assumption) | (with_reducible refine Below.alloc ?_ ?_ _) | (with_reducible refine Below.drew ?_) | (with_reducible refine below_drewN ?_ _) | (with_reducible refine Below.setCell ?_ ?_ _) | (with_reducible refine below_call ?_ ?_ (by assumption)) | go_size))) (hb9.mono (by first | omega | (simp only [World.size_alloc, World.size_setCell, World.size_drew]; omega)))
          obtain ⟨hd9, -⟩ := bcell B9
          have c9_t_0 : w9.cell? ⟨w.heap.size, 0, none⟩ = some (.int .i64 n1) := (hd9 _ _ q_t).trans c8_t_0
          have c9_t_1 : w9.cell? ⟨w.heap.size, 1, none⟩ = some (.int .i64 d1) := (hd9 _ _ q_t).trans c8_t_1
          have c9_s_0 : w9.cell? ⟨w.heap.size + 1, 0, none⟩ = some (.int .i64 n4) := (hd9 _ _ q_s).trans c8_s_0
          have c9_s_1 : w9.cell? ⟨w.heap.size + 1, 1, none⟩ = some (.int .i64 d4) := (hd9 _ _ q_s).trans c8_s_1
          have c9_s_2 : w9.cell? ⟨w.heap.size + 1, 2, none⟩ = some (.int .i64 x4) := (hd9 _ _ q_s).trans c8_s_2
          have c9_s_3 : w9.cell? ⟨w.heap.size + 1, 3, none⟩ = some (.int .i64 y4) := (hd9 _ _ q_s).trans c8_s_3
          have c9_kk_0 : w9.cell? ⟨w.heap.size + 1 + 1, 0, none⟩ = some (.int .i64 n5) := (hd9 _ _ q_kk).trans c8_kk_0
          have c9_kk_1 : w9.cell? ⟨w.heap.size + 1 + 1, 1, none⟩ = some (.int .i64 d5) := (hd9 _ _ q_kk).trans c8_kk_1
          have c9_kk_2 : w9.cell? ⟨w.heap.size + 1 + 1, 2, none⟩ = some (.int .i64 x5) := (hd9 _ _ q_kk).trans c8_kk_2
          have c9_kk_3 : w9.cell? ⟨w.heap.size + 1 + 1, 3, none⟩ = some (.int .i64 y5) := (hd9 _ _ q_kk).trans c8_kk_3
          have c9_taken_0 : w9.cell? ⟨w1.heap.size, 0, none⟩ = some (.int .i64 xn) := (hd9 _ _ q_taken).trans c8_taken_0
          have c9_taken_1 : w9.cell? ⟨w1.heap.size, 1, none⟩ = some (.int .i64 xd) := (hd9 _ _ q_taken).trans c8_taken_1
          have c9_right_0 : w9.cell? ⟨w2.heap.size, 0, none⟩ = some (.int .i64 xn) := (hd9 _ _ q_right).trans c8_right_0
          have c9_right_1 : w9.cell? ⟨w2.heap.size, 1, none⟩ = some (.int .i64 xd) := (hd9 _ _ q_right).trans c8_right_1
          have c9_seen_0 : w9.cell? ⟨w3.heap.size, 0, none⟩ = some (.int .i64 sa) := (hd9 _ _ q_seen).trans c8_seen_0
          have c9_seen_1 : w9.cell? ⟨w3.heap.size, 1, none⟩ = some (.int .i64 sb) := (hd9 _ _ q_seen).trans c8_seen_1
          have c9_seen_2 : w9.cell? ⟨w3.heap.size, 2, none⟩ = some (.int .i64 sc) := (hd9 _ _ q_seen).trans c8_seen_2
          have c9_seen_3 : w9.cell? ⟨w3.heap.size, 3, none⟩ = some (.int .i64 se) := (hd9 _ _ q_seen).trans c8_seen_3
          have c9_want_0 : w9.cell? ⟨w4.heap.size, 0, none⟩ = some (.int .i64 sa) := (hd9 _ _ q_want).trans c8_want_0
          have c9_want_1 : w9.cell? ⟨w4.heap.size, 1, none⟩ = some (.int .i64 sb) := (hd9 _ _ q_want).trans c8_want_1
          have c9_want_2 : w9.cell? ⟨w4.heap.size, 2, none⟩ = some (.int .i64 sc) := (hd9 _ _ q_want).trans c8_want_2
          have c9_want_3 : w9.cell? ⟨w4.heap.size, 3, none⟩ = some (.int .i64 se) := (hd9 _ _ q_want).trans c8_want_3
          replace q_t : w.heap.size < w9.heap.size := by omega
          replace q_s : w.heap.size + 1 < w9.heap.size := by omega
          replace q_kk : w.heap.size + 1 + 1 < w9.heap.size := by omega
          replace q_taken : w1.heap.size < w9.heap.size := by omega
          replace q_right : w2.heap.size < w9.heap.size := by omega
          replace q_seen : w3.heap.size < w9.heap.size := by omega
          replace q_want : w4.heap.size < w9.heap.size := by omega
          have c9_time_0 : w9.cell? ⟨w8.heap.size, 0, none⟩ = some (.int .i64 n1) := (hc9 _ _ (by go_size)).trans (by go_simp)
          have c9_time_1 : w9.cell? ⟨w8.heap.size, 1, none⟩ = some (.int .i64 d1) := (hc9 _ _ (by go_size)).trans (by go_simp)
          have q_time : w8.heap.size < w9.heap.size := by omega
          have BW9 : Below w.heap.size w w9 := BW8.trans (B9.mono BW8.size)
          have BX9 : Below w6.heap.size w6 w9 := BX8.trans (B9.mono BX8.size)
          clear BX8
          clear hc9 hf9 hb9 hd9 B9 c8_t_0 c8_t_1 c8_s_0 c8_s_1 c8_s_2 c8_s_3 c8_kk_0 c8_kk_1 c8_kk_2 c8_kk_3 c8_taken_0 c8_taken_1 c8_right_0 c8_right_1 c8_seen_0 c8_seen_1 c8_seen_2 c8_seen_3 c8_want_0 c8_want_1 c8_want_2 c8_want_3 BW8
          go_wp2_with fail
          refine (Z5.out _).mono ?_
          rintro e10 w10 ⟨rfl, hb10⟩
          obtain ⟨hc10, hf10⟩ := bcell hb10
          have hz10 := hb10.size
          (try simp only [World.size_alloc, World.size_setCell, World.size_drew] at hz10)
          have B10 : Below w9.heap.size w9 w10 := Below.trans (b := _) (by (repeat' (first | (with_reducible exact Below.refl _ _) | (with_reducible assumption) | (with_reducible refine Below.alloc ?_ ?_ _) | (with_reducible refine Below.drew ?_) | (with_reducible refine below_drewN ?_ _) | (with_reducible refine Below.setCell ?_ ?_ _) | (with_reducible refine below_call ?_ ?_ (by assumption)) | go_size))) (hb10.mono (by first | omega | (simp only [World.size_alloc, World.size_setCell, World.size_drew]; omega)))
          obtain ⟨hd10, -⟩ := bcell B10
          have c10_t_0 : w10.cell? ⟨w.heap.size, 0, none⟩ = some (.int .i64 n1) := (hd10 _ _ q_t).trans c9_t_0
          have c10_t_1 : w10.cell? ⟨w.heap.size, 1, none⟩ = some (.int .i64 d1) := (hd10 _ _ q_t).trans c9_t_1
          have c10_s_0 : w10.cell? ⟨w.heap.size + 1, 0, none⟩ = some (.int .i64 n4) := (hd10 _ _ q_s).trans c9_s_0
          have c10_s_1 : w10.cell? ⟨w.heap.size + 1, 1, none⟩ = some (.int .i64 d4) := (hd10 _ _ q_s).trans c9_s_1
          have c10_s_2 : w10.cell? ⟨w.heap.size + 1, 2, none⟩ = some (.int .i64 x4) := (hd10 _ _ q_s).trans c9_s_2
          have c10_s_3 : w10.cell? ⟨w.heap.size + 1, 3, none⟩ = some (.int .i64 y4) := (hd10 _ _ q_s).trans c9_s_3
          have c10_kk_0 : w10.cell? ⟨w.heap.size + 1 + 1, 0, none⟩ = some (.int .i64 n5) := (hd10 _ _ q_kk).trans c9_kk_0
          have c10_kk_1 : w10.cell? ⟨w.heap.size + 1 + 1, 1, none⟩ = some (.int .i64 d5) := (hd10 _ _ q_kk).trans c9_kk_1
          have c10_kk_2 : w10.cell? ⟨w.heap.size + 1 + 1, 2, none⟩ = some (.int .i64 x5) := (hd10 _ _ q_kk).trans c9_kk_2
          have c10_kk_3 : w10.cell? ⟨w.heap.size + 1 + 1, 3, none⟩ = some (.int .i64 y5) := (hd10 _ _ q_kk).trans c9_kk_3
          have c10_taken_0 : w10.cell? ⟨w1.heap.size, 0, none⟩ = some (.int .i64 xn) := (hd10 _ _ q_taken).trans c9_taken_0
          have c10_taken_1 : w10.cell? ⟨w1.heap.size, 1, none⟩ = some (.int .i64 xd) := (hd10 _ _ q_taken).trans c9_taken_1
          have c10_right_0 : w10.cell? ⟨w2.heap.size, 0, none⟩ = some (.int .i64 xn) := (hd10 _ _ q_right).trans c9_right_0
          have c10_right_1 : w10.cell? ⟨w2.heap.size, 1, none⟩ = some (.int .i64 xd) := (hd10 _ _ q_right).trans c9_right_1
          have c10_seen_0 : w10.cell? ⟨w3.heap.size, 0, none⟩ = some (.int .i64 sa) := (hd10 _ _ q_seen).trans c9_seen_0
          have c10_seen_1 : w10.cell? ⟨w3.heap.size, 1, none⟩ = some (.int .i64 sb) := (hd10 _ _ q_seen).trans c9_seen_1
          have c10_seen_2 : w10.cell? ⟨w3.heap.size, 2, none⟩ = some (.int .i64 sc) := (hd10 _ _ q_seen).trans c9_seen_2
          have c10_seen_3 : w10.cell? ⟨w3.heap.size, 3, none⟩ = some (.int .i64 se) := (hd10 _ _ q_seen).trans c9_seen_3
          have c10_want_0 : w10.cell? ⟨w4.heap.size, 0, none⟩ = some (.int .i64 sa) := (hd10 _ _ q_want).trans c9_want_0
          have c10_want_1 : w10.cell? ⟨w4.heap.size, 1, none⟩ = some (.int .i64 sb) := (hd10 _ _ q_want).trans c9_want_1
          have c10_want_2 : w10.cell? ⟨w4.heap.size, 2, none⟩ = some (.int .i64 sc) := (hd10 _ _ q_want).trans c9_want_2
          have c10_want_3 : w10.cell? ⟨w4.heap.size, 3, none⟩ = some (.int .i64 se) := (hd10 _ _ q_want).trans c9_want_3
          have c10_time_0 : w10.cell? ⟨w8.heap.size, 0, none⟩ = some (.int .i64 n1) := (hd10 _ _ q_time).trans c9_time_0
          have c10_time_1 : w10.cell? ⟨w8.heap.size, 1, none⟩ = some (.int .i64 d1) := (hd10 _ _ q_time).trans c9_time_1
          replace q_t : w.heap.size < w10.heap.size := by omega
          replace q_s : w.heap.size + 1 < w10.heap.size := by omega
          replace q_kk : w.heap.size + 1 + 1 < w10.heap.size := by omega
          replace q_taken : w1.heap.size < w10.heap.size := by omega
          replace q_right : w2.heap.size < w10.heap.size := by omega
          replace q_seen : w3.heap.size < w10.heap.size := by omega
          replace q_want : w4.heap.size < w10.heap.size := by omega
          replace q_time : w8.heap.size < w10.heap.size := by omega
          have c10_other_0 : w10.cell? ⟨w9.heap.size, 0, none⟩ = some (.int .i64 sc) := (hc10 _ _ (by go_size)).trans (by go_simp)
          have c10_other_1 : w10.cell? ⟨w9.heap.size, 1, none⟩ = some (.int .i64 se) := (hc10 _ _ (by go_size)).trans (by go_simp)
          have c10_other_2 : w10.cell? ⟨w9.heap.size, 2, none⟩ = some (.int .i64 sa) := (hc10 _ _ (by go_size)).trans (by go_simp)
          have c10_other_3 : w10.cell? ⟨w9.heap.size, 3, none⟩ = some (.int .i64 sb) := (hc10 _ _ (by go_size)).trans (by go_simp)
          have q_other : w9.heap.size < w10.heap.size := by omega
          have BW10 : Below w.heap.size w w10 := BW9.trans (B10.mono BW9.size)
          have BX10 : Below w6.heap.size w6 w10 := BX9.trans (B10.mono BX9.size)
          clear BX9
          clear hc10 hf10 hb10 hd10 B10 c9_t_0 c9_t_1 c9_s_0 c9_s_1 c9_s_2 c9_s_3 c9_kk_0 c9_kk_1 c9_kk_2 c9_kk_3 c9_taken_0 c9_taken_1 c9_right_0 c9_right_1 c9_seen_0 c9_seen_1 c9_seen_2 c9_seen_3 c9_want_0 c9_want_1 c9_want_2 c9_want_3 c9_time_0 c9_time_1 BW9
          go_wp2_with fail
          refine (Z1.out _).mono ?_
          rintro e11 w11 ⟨v_al, rfl, hr11, hb11⟩
          obtain ⟨pa_al, pc_al, rfl, -⟩ := TRow.cells hr11
          have R11_al := Lib.hid hr11
          clear hr11
          obtain ⟨hc11, hf11⟩ := bcell hb11
          have hz11 := hb11.size
          (try simp only [World.size_alloc, World.size_setCell, World.size_drew] at hz11)
          have B11 : Below w10.heap.size w10 w11 := Below.trans (b := _) (by (repeat' (first | (with_reducible exact Below.refl _ _) | (with_reducible assumption) | (with_reducible refine Below.alloc ?_ ?_ _) | (with_reducible refine Below.drew ?_) | (with_reducible refine below_drewN ?_ _) | (with_reducible refine Below.setCell ?_ ?_ _) | (with_reducible refine below_call ?_ ?_ (by assumption)) | go_size))) (hb11.mono (by first | omega | (simp only [World.size_alloc, World.size_setCell, World.size_drew]; omega)))
          obtain ⟨hd11, -⟩ := bcell B11
          have c11_t_0 : w11.cell? ⟨w.heap.size, 0, none⟩ = some (.int .i64 n1) := (hd11 _ _ q_t).trans c10_t_0
          have c11_t_1 : w11.cell? ⟨w.heap.size, 1, none⟩ = some (.int .i64 d1) := (hd11 _ _ q_t).trans c10_t_1
          have c11_s_0 : w11.cell? ⟨w.heap.size + 1, 0, none⟩ = some (.int .i64 n4) := (hd11 _ _ q_s).trans c10_s_0
          have c11_s_1 : w11.cell? ⟨w.heap.size + 1, 1, none⟩ = some (.int .i64 d4) := (hd11 _ _ q_s).trans c10_s_1
          have c11_s_2 : w11.cell? ⟨w.heap.size + 1, 2, none⟩ = some (.int .i64 x4) := (hd11 _ _ q_s).trans c10_s_2
          have c11_s_3 : w11.cell? ⟨w.heap.size + 1, 3, none⟩ = some (.int .i64 y4) := (hd11 _ _ q_s).trans c10_s_3
          have c11_kk_0 : w11.cell? ⟨w.heap.size + 1 + 1, 0, none⟩ = some (.int .i64 n5) := (hd11 _ _ q_kk).trans c10_kk_0
          have c11_kk_1 : w11.cell? ⟨w.heap.size + 1 + 1, 1, none⟩ = some (.int .i64 d5) := (hd11 _ _ q_kk).trans c10_kk_1
          have c11_kk_2 : w11.cell? ⟨w.heap.size + 1 + 1, 2, none⟩ = some (.int .i64 x5) := (hd11 _ _ q_kk).trans c10_kk_2
          have c11_kk_3 : w11.cell? ⟨w.heap.size + 1 + 1, 3, none⟩ = some (.int .i64 y5) := (hd11 _ _ q_kk).trans c10_kk_3
          have c11_taken_0 : w11.cell? ⟨w1.heap.size, 0, none⟩ = some (.int .i64 xn) := (hd11 _ _ q_taken).trans c10_taken_0
          have c11_taken_1 : w11.cell? ⟨w1.heap.size, 1, none⟩ = some (.int .i64 xd) := (hd11 _ _ q_taken).trans c10_taken_1
          have c11_right_0 : w11.cell? ⟨w2.heap.size, 0, none⟩ = some (.int .i64 xn) := (hd11 _ _ q_right).trans c10_right_0
          have c11_right_1 : w11.cell? ⟨w2.heap.size, 1, none⟩ = some (.int .i64 xd) := (hd11 _ _ q_right).trans c10_right_1
          have c11_seen_0 : w11.cell? ⟨w3.heap.size, 0, none⟩ = some (.int .i64 sa) := (hd11 _ _ q_seen).trans c10_seen_0
          have c11_seen_1 : w11.cell? ⟨w3.heap.size, 1, none⟩ = some (.int .i64 sb) := (hd11 _ _ q_seen).trans c10_seen_1
          have c11_seen_2 : w11.cell? ⟨w3.heap.size, 2, none⟩ = some (.int .i64 sc) := (hd11 _ _ q_seen).trans c10_seen_2
          have c11_seen_3 : w11.cell? ⟨w3.heap.size, 3, none⟩ = some (.int .i64 se) := (hd11 _ _ q_seen).trans c10_seen_3
          have c11_want_0 : w11.cell? ⟨w4.heap.size, 0, none⟩ = some (.int .i64 sa) := (hd11 _ _ q_want).trans c10_want_0
          have c11_want_1 : w11.cell? ⟨w4.heap.size, 1, none⟩ = some (.int .i64 sb) := (hd11 _ _ q_want).trans c10_want_1
          have c11_want_2 : w11.cell? ⟨w4.heap.size, 2, none⟩ = some (.int .i64 sc) := (hd11 _ _ q_want).trans c10_want_2
          have c11_want_3 : w11.cell? ⟨w4.heap.size, 3, none⟩ = some (.int .i64 se) := (hd11 _ _ q_want).trans c10_want_3
          have c11_time_0 : w11.cell? ⟨w8.heap.size, 0, none⟩ = some (.int .i64 n1) := (hd11 _ _ q_time).trans c10_time_0
          have c11_time_1 : w11.cell? ⟨w8.heap.size, 1, none⟩ = some (.int .i64 d1) := (hd11 _ _ q_time).trans c10_time_1
          have c11_other_0 : w11.cell? ⟨w9.heap.size, 0, none⟩ = some (.int .i64 sc) := (hd11 _ _ q_other).trans c10_other_0
          have c11_other_1 : w11.cell? ⟨w9.heap.size, 1, none⟩ = some (.int .i64 se) := (hd11 _ _ q_other).trans c10_other_1
          have c11_other_2 : w11.cell? ⟨w9.heap.size, 2, none⟩ = some (.int .i64 sa) := (hd11 _ _ q_other).trans c10_other_2
          have c11_other_3 : w11.cell? ⟨w9.heap.size, 3, none⟩ = some (.int .i64 sb) := (hd11 _ _ q_other).trans c10_other_3
          replace q_t : w.heap.size < w11.heap.size := by omega
          replace q_s : w.heap.size + 1 < w11.heap.size := by omega
          replace q_kk : w.heap.size + 1 + 1 < w11.heap.size := by omega
          replace q_taken : w1.heap.size < w11.heap.size := by omega
          replace q_right : w2.heap.size < w11.heap.size := by omega
          replace q_seen : w3.heap.size < w11.heap.size := by omega
          replace q_want : w4.heap.size < w11.heap.size := by omega
          replace q_time : w8.heap.size < w11.heap.size := by omega
          replace q_other : w9.heap.size < w11.heap.size := by omega
          have BW11 : Below w.heap.size w w11 := BW10.trans (B11.mono BW10.size)
          have BX11 : Below w6.heap.size w6 w11 := BX10.trans (B11.mono BX10.size)
          clear BX10
          clear hc11 hf11 hb11 hd11 B11 c10_t_0 c10_t_1 c10_s_0 c10_s_1 c10_s_2 c10_s_3 c10_kk_0 c10_kk_1 c10_kk_2 c10_kk_3 c10_taken_0 c10_taken_1 c10_right_0 c10_right_1 c10_seen_0 c10_seen_1 c10_seen_2 c10_seen_3 c10_want_0 c10_want_1 c10_want_2 c10_want_3 c10_time_0 c10_time_1 c10_other_0 c10_other_1 c10_other_2 c10_other_3 BW10
          go_wp2_with fail
          refine (isSeen_is sa sb sc se G1.out _).mono ?_
          rintro e12 w12 ⟨rfl, hb12⟩
          obtain ⟨hc12, hf12⟩ := bcell hb12
          have hz12 := hb12.size
          (try simp only [World.size_alloc, World.size_setCell, World.size_drew] at hz12)
          have B12 : Below w11.heap.size w11 w12 := Below.trans (b := _) (by (repeat' (first | (with_reducible exact Below.refl _ _) | (with_reducible assumption) | (with_reducible refine Below.alloc ?_ ?_ _) | (with_reducible refine Below.drew ?_) | (with_reducible refine below_drewN ?_ _) | (with_reducible refine Below.setCell ?_ ?_ _) | (with_reducible refine below_call ?_ ?_ (by assumption)) | go_size))) (hb12.mono (by first | omega | (simp only [World.size_alloc, World.size_setCell, World.size_drew]; omega)))
          obtain ⟨hd12, -⟩ := bcell B12
          have c12_t_0 : w12.cell? ⟨w.heap.size, 0, none⟩ = some (.int .i64 n1) := (hd12 _ _ q_t).trans c11_t_0
          have c12_t_1 : w12.cell? ⟨w.heap.size, 1, none⟩ = some (.int .i64 d1) := (hd12 _ _ q_t).trans c11_t_1
          have c12_s_0 : w12.cell? ⟨w.heap.size + 1, 0, none⟩ = some (.int .i64 n4) := (hd12 _ _ q_s).trans c11_s_0
          have c12_s_1 : w12.cell? ⟨w.heap.size + 1, 1, none⟩ = some (.int .i64 d4) := (hd12 _ _ q_s).trans c11_s_1
          have c12_s_2 : w12.cell? ⟨w.heap.size + 1, 2, none⟩ = some (.int .i64 x4) := (hd12 _ _ q_s).trans c11_s_2
          have c12_s_3 : w12.cell? ⟨w.heap.size + 1, 3, none⟩ = some (.int .i64 y4) := (hd12 _ _ q_s).trans c11_s_3
          have c12_kk_0 : w12.cell? ⟨w.heap.size + 1 + 1, 0, none⟩ = some (.int .i64 n5) := (hd12 _ _ q_kk).trans c11_kk_0
          have c12_kk_1 : w12.cell? ⟨w.heap.size + 1 + 1, 1, none⟩ = some (.int .i64 d5) := (hd12 _ _ q_kk).trans c11_kk_1
          have c12_kk_2 : w12.cell? ⟨w.heap.size + 1 + 1, 2, none⟩ = some (.int .i64 x5) := (hd12 _ _ q_kk).trans c11_kk_2
          have c12_kk_3 : w12.cell? ⟨w.heap.size + 1 + 1, 3, none⟩ = some (.int .i64 y5) := (hd12 _ _ q_kk).trans c11_kk_3
          have c12_taken_0 : w12.cell? ⟨w1.heap.size, 0, none⟩ = some (.int .i64 xn) := (hd12 _ _ q_taken).trans c11_taken_0
          have c12_taken_1 : w12.cell? ⟨w1.heap.size, 1, none⟩ = some (.int .i64 xd) := (hd12 _ _ q_taken).trans c11_taken_1
          have c12_right_0 : w12.cell? ⟨w2.heap.size, 0, none⟩ = some (.int .i64 xn) := (hd12 _ _ q_right).trans c11_right_0
          have c12_right_1 : w12.cell? ⟨w2.heap.size, 1, none⟩ = some (.int .i64 xd) := (hd12 _ _ q_right).trans c11_right_1
          have c12_seen_0 : w12.cell? ⟨w3.heap.size, 0, none⟩ = some (.int .i64 sa) := (hd12 _ _ q_seen).trans c11_seen_0
          have c12_seen_1 : w12.cell? ⟨w3.heap.size, 1, none⟩ = some (.int .i64 sb) := (hd12 _ _ q_seen).trans c11_seen_1
          have c12_seen_2 : w12.cell? ⟨w3.heap.size, 2, none⟩ = some (.int .i64 sc) := (hd12 _ _ q_seen).trans c11_seen_2
          have c12_seen_3 : w12.cell? ⟨w3.heap.size, 3, none⟩ = some (.int .i64 se) := (hd12 _ _ q_seen).trans c11_seen_3
          have c12_want_0 : w12.cell? ⟨w4.heap.size, 0, none⟩ = some (.int .i64 sa) := (hd12 _ _ q_want).trans c11_want_0
          have c12_want_1 : w12.cell? ⟨w4.heap.size, 1, none⟩ = some (.int .i64 sb) := (hd12 _ _ q_want).trans c11_want_1
          have c12_want_2 : w12.cell? ⟨w4.heap.size, 2, none⟩ = some (.int .i64 sc) := (hd12 _ _ q_want).trans c11_want_2
          have c12_want_3 : w12.cell? ⟨w4.heap.size, 3, none⟩ = some (.int .i64 se) := (hd12 _ _ q_want).trans c11_want_3
          have c12_time_0 : w12.cell? ⟨w8.heap.size, 0, none⟩ = some (.int .i64 n1) := (hd12 _ _ q_time).trans c11_time_0
          have c12_time_1 : w12.cell? ⟨w8.heap.size, 1, none⟩ = some (.int .i64 d1) := (hd12 _ _ q_time).trans c11_time_1
          have c12_other_0 : w12.cell? ⟨w9.heap.size, 0, none⟩ = some (.int .i64 sc) := (hd12 _ _ q_other).trans c11_other_0
          have c12_other_1 : w12.cell? ⟨w9.heap.size, 1, none⟩ = some (.int .i64 se) := (hd12 _ _ q_other).trans c11_other_1
          have c12_other_2 : w12.cell? ⟨w9.heap.size, 2, none⟩ = some (.int .i64 sa) := (hd12 _ _ q_other).trans c11_other_2
          have c12_other_3 : w12.cell? ⟨w9.heap.size, 3, none⟩ = some (.int .i64 sb) := (hd12 _ _ q_other).trans c11_other_3
          replace q_t : w.heap.size < w12.heap.size := by omega
          replace q_s : w.heap.size + 1 < w12.heap.size := by omega
          replace q_kk : w.heap.size + 1 + 1 < w12.heap.size := by omega
          replace q_taken : w1.heap.size < w12.heap.size := by omega
          replace q_right : w2.heap.size < w12.heap.size := by omega
          replace q_seen : w3.heap.size < w12.heap.size := by omega
          replace q_want : w4.heap.size < w12.heap.size := by omega
          replace q_time : w8.heap.size < w12.heap.size := by omega
          replace q_other : w9.heap.size < w12.heap.size := by omega
          have R12_al := Lib.hid (TRow.below R11_al.out B12)
          clear R11_al
          have BW12 : Below w.heap.size w w12 := BW11.trans (B12.mono BW11.size)
          have BX12 : Below w6.heap.size w6 w12 := BX11.trans (B12.mono BX11.size)
          clear BX11
          clear hc12 hf12 hb12 hd12 B12 c11_t_0 c11_t_1 c11_s_0 c11_s_1 c11_s_2 c11_s_3 c11_kk_0 c11_kk_1 c11_kk_2 c11_kk_3 c11_taken_0 c11_taken_1 c11_right_0 c11_right_1 c11_seen_0 c11_seen_1 c11_seen_2 c11_seen_3 c11_want_0 c11_want_1 c11_want_2 c11_want_3 c11_time_0 c11_time_1 c11_other_0 c11_other_1 c11_other_2 c11_other_3 BW11
          go_wp2_with fail
          refine (wHas_is LL _ _ _ _ _ G8.out R12_al.out HLL.out).mono ?_
          rintro e13 w13 ⟨rfl, hb13⟩
          obtain ⟨hc13, hf13⟩ := bcell hb13
          have hz13 := hb13.size
          (try simp only [World.size_alloc, World.size_setCell, World.size_drew] at hz13)
          have B13 : Below w12.heap.size w12 w13 := Below.trans (b := _) (by (repeat' (first | (with_reducible exact Below.refl _ _) | (with_reducible assumption) | (with_reducible refine Below.alloc ?_ ?_ _) | (with_reducible refine Below.drew ?_) | (with_reducible refine below_drewN ?_ _) | (with_reducible refine Below.setCell ?_ ?_ _) | (with_reducible refine below_call ?_ ?_ (by assumption)) | go_size))) (hb13.mono (by first | omega | (simp only [World.size_alloc, World.size_setCell, World.size_drew]; omega)))
          obtain ⟨hd13, -⟩ := bcell B13
          have c13_t_0 : w13.cell? ⟨w.heap.size, 0, none⟩ = some (.int .i64 n1) := (hd13 _ _ q_t).trans c12_t_0
          have c13_t_1 : w13.cell? ⟨w.heap.size, 1, none⟩ = some (.int .i64 d1) := (hd13 _ _ q_t).trans c12_t_1
          have c13_s_0 : w13.cell? ⟨w.heap.size + 1, 0, none⟩ = some (.int .i64 n4) := (hd13 _ _ q_s).trans c12_s_0
          have c13_s_1 : w13.cell? ⟨w.heap.size + 1, 1, none⟩ = some (.int .i64 d4) := (hd13 _ _ q_s).trans c12_s_1
          have c13_s_2 : w13.cell? ⟨w.heap.size + 1, 2, none⟩ = some (.int .i64 x4) := (hd13 _ _ q_s).trans c12_s_2
          have c13_s_3 : w13.cell? ⟨w.heap.size + 1, 3, none⟩ = some (.int .i64 y4) := (hd13 _ _ q_s).trans c12_s_3
          have c13_kk_0 : w13.cell? ⟨w.heap.size + 1 + 1, 0, none⟩ = some (.int .i64 n5) := (hd13 _ _ q_kk).trans c12_kk_0
          have c13_kk_1 : w13.cell? ⟨w.heap.size + 1 + 1, 1, none⟩ = some (.int .i64 d5) := (hd13 _ _ q_kk).trans c12_kk_1
          have c13_kk_2 : w13.cell? ⟨w.heap.size + 1 + 1, 2, none⟩ = some (.int .i64 x5) := (hd13 _ _ q_kk).trans c12_kk_2
          have c13_kk_3 : w13.cell? ⟨w.heap.size + 1 + 1, 3, none⟩ = some (.int .i64 y5) := (hd13 _ _ q_kk).trans c12_kk_3
          have c13_taken_0 : w13.cell? ⟨w1.heap.size, 0, none⟩ = some (.int .i64 xn) := (hd13 _ _ q_taken).trans c12_taken_0
          have c13_taken_1 : w13.cell? ⟨w1.heap.size, 1, none⟩ = some (.int .i64 xd) := (hd13 _ _ q_taken).trans c12_taken_1
          have c13_right_0 : w13.cell? ⟨w2.heap.size, 0, none⟩ = some (.int .i64 xn) := (hd13 _ _ q_right).trans c12_right_0
          have c13_right_1 : w13.cell? ⟨w2.heap.size, 1, none⟩ = some (.int .i64 xd) := (hd13 _ _ q_right).trans c12_right_1
          have c13_seen_0 : w13.cell? ⟨w3.heap.size, 0, none⟩ = some (.int .i64 sa) := (hd13 _ _ q_seen).trans c12_seen_0
          have c13_seen_1 : w13.cell? ⟨w3.heap.size, 1, none⟩ = some (.int .i64 sb) := (hd13 _ _ q_seen).trans c12_seen_1
          have c13_seen_2 : w13.cell? ⟨w3.heap.size, 2, none⟩ = some (.int .i64 sc) := (hd13 _ _ q_seen).trans c12_seen_2
          have c13_seen_3 : w13.cell? ⟨w3.heap.size, 3, none⟩ = some (.int .i64 se) := (hd13 _ _ q_seen).trans c12_seen_3
          have c13_want_0 : w13.cell? ⟨w4.heap.size, 0, none⟩ = some (.int .i64 sa) := (hd13 _ _ q_want).trans c12_want_0
          have c13_want_1 : w13.cell? ⟨w4.heap.size, 1, none⟩ = some (.int .i64 sb) := (hd13 _ _ q_want).trans c12_want_1
          have c13_want_2 : w13.cell? ⟨w4.heap.size, 2, none⟩ = some (.int .i64 sc) := (hd13 _ _ q_want).trans c12_want_2
          have c13_want_3 : w13.cell? ⟨w4.heap.size, 3, none⟩ = some (.int .i64 se) := (hd13 _ _ q_want).trans c12_want_3
          have c13_time_0 : w13.cell? ⟨w8.heap.size, 0, none⟩ = some (.int .i64 n1) := (hd13 _ _ q_time).trans c12_time_0
          have c13_time_1 : w13.cell? ⟨w8.heap.size, 1, none⟩ = some (.int .i64 d1) := (hd13 _ _ q_time).trans c12_time_1
          have c13_other_0 : w13.cell? ⟨w9.heap.size, 0, none⟩ = some (.int .i64 sc) := (hd13 _ _ q_other).trans c12_other_0
          have c13_other_1 : w13.cell? ⟨w9.heap.size, 1, none⟩ = some (.int .i64 se) := (hd13 _ _ q_other).trans c12_other_1
          have c13_other_2 : w13.cell? ⟨w9.heap.size, 2, none⟩ = some (.int .i64 sa) := (hd13 _ _ q_other).trans c12_other_2
          have c13_other_3 : w13.cell? ⟨w9.heap.size, 3, none⟩ = some (.int .i64 sb) := (hd13 _ _ q_other).trans c12_other_3
          replace q_t : w.heap.size < w13.heap.size := by omega
          replace q_s : w.heap.size + 1 < w13.heap.size := by omega
          replace q_kk : w.heap.size + 1 + 1 < w13.heap.size := by omega
          replace q_taken : w1.heap.size < w13.heap.size := by omega
          replace q_right : w2.heap.size < w13.heap.size := by omega
          replace q_seen : w3.heap.size < w13.heap.size := by omega
          replace q_want : w4.heap.size < w13.heap.size := by omega
          replace q_time : w8.heap.size < w13.heap.size := by omega
          replace q_other : w9.heap.size < w13.heap.size := by omega
          have R13_al := Lib.hid (TRow.below R12_al.out B13)
          clear R12_al
          have BW13 : Below w.heap.size w w13 := BW12.trans (B13.mono BW12.size)
          have BX13 : Below w6.heap.size w6 w13 := BX12.trans (B13.mono BX12.size)
          clear BX12
          clear hc13 hf13 hb13 hd13 B13 c12_t_0 c12_t_1 c12_s_0 c12_s_1 c12_s_2 c12_s_3 c12_kk_0 c12_kk_1 c12_kk_2 c12_kk_3 c12_taken_0 c12_taken_1 c12_right_0 c12_right_1 c12_seen_0 c12_seen_1 c12_seen_2 c12_seen_3 c12_want_0 c12_want_1 c12_want_2 c12_want_3 c12_time_0 c12_time_1 c12_other_0 c12_other_1 c12_other_2 c12_other_3 BW12
          go_wp2_with fail
          refine (wRises_yes LL _ _ _ R13_al.out HLL.out G7.out).mono ?_
          rintro e14 w14 ⟨rfl, hb14⟩
          obtain ⟨hc14, hf14⟩ := bcell hb14
          have hz14 := hb14.size
          (try simp only [World.size_alloc, World.size_setCell, World.size_drew] at hz14)
          have B14 : Below w13.heap.size w13 w14 := Below.trans (b := _) (by (repeat' (first | (with_reducible exact Below.refl _ _) | (with_reducible assumption) | (with_reducible refine Below.alloc ?_ ?_ _) | (with_reducible refine Below.drew ?_) | (with_reducible refine below_drewN ?_ _) | (with_reducible refine Below.setCell ?_ ?_ _) | (with_reducible refine below_call ?_ ?_ (by assumption)) | go_size))) (hb14.mono (by first | omega | (simp only [World.size_alloc, World.size_setCell, World.size_drew]; omega)))
          obtain ⟨hd14, -⟩ := bcell B14
          have c14_t_0 : w14.cell? ⟨w.heap.size, 0, none⟩ = some (.int .i64 n1) := (hd14 _ _ q_t).trans c13_t_0
          have c14_t_1 : w14.cell? ⟨w.heap.size, 1, none⟩ = some (.int .i64 d1) := (hd14 _ _ q_t).trans c13_t_1
          have c14_s_0 : w14.cell? ⟨w.heap.size + 1, 0, none⟩ = some (.int .i64 n4) := (hd14 _ _ q_s).trans c13_s_0
          have c14_s_1 : w14.cell? ⟨w.heap.size + 1, 1, none⟩ = some (.int .i64 d4) := (hd14 _ _ q_s).trans c13_s_1
          have c14_s_2 : w14.cell? ⟨w.heap.size + 1, 2, none⟩ = some (.int .i64 x4) := (hd14 _ _ q_s).trans c13_s_2
          have c14_s_3 : w14.cell? ⟨w.heap.size + 1, 3, none⟩ = some (.int .i64 y4) := (hd14 _ _ q_s).trans c13_s_3
          have c14_kk_0 : w14.cell? ⟨w.heap.size + 1 + 1, 0, none⟩ = some (.int .i64 n5) := (hd14 _ _ q_kk).trans c13_kk_0
          have c14_kk_1 : w14.cell? ⟨w.heap.size + 1 + 1, 1, none⟩ = some (.int .i64 d5) := (hd14 _ _ q_kk).trans c13_kk_1
          have c14_kk_2 : w14.cell? ⟨w.heap.size + 1 + 1, 2, none⟩ = some (.int .i64 x5) := (hd14 _ _ q_kk).trans c13_kk_2
          have c14_kk_3 : w14.cell? ⟨w.heap.size + 1 + 1, 3, none⟩ = some (.int .i64 y5) := (hd14 _ _ q_kk).trans c13_kk_3
          have c14_taken_0 : w14.cell? ⟨w1.heap.size, 0, none⟩ = some (.int .i64 xn) := (hd14 _ _ q_taken).trans c13_taken_0
          have c14_taken_1 : w14.cell? ⟨w1.heap.size, 1, none⟩ = some (.int .i64 xd) := (hd14 _ _ q_taken).trans c13_taken_1
          have c14_right_0 : w14.cell? ⟨w2.heap.size, 0, none⟩ = some (.int .i64 xn) := (hd14 _ _ q_right).trans c13_right_0
          have c14_right_1 : w14.cell? ⟨w2.heap.size, 1, none⟩ = some (.int .i64 xd) := (hd14 _ _ q_right).trans c13_right_1
          have c14_seen_0 : w14.cell? ⟨w3.heap.size, 0, none⟩ = some (.int .i64 sa) := (hd14 _ _ q_seen).trans c13_seen_0
          have c14_seen_1 : w14.cell? ⟨w3.heap.size, 1, none⟩ = some (.int .i64 sb) := (hd14 _ _ q_seen).trans c13_seen_1
          have c14_seen_2 : w14.cell? ⟨w3.heap.size, 2, none⟩ = some (.int .i64 sc) := (hd14 _ _ q_seen).trans c13_seen_2
          have c14_seen_3 : w14.cell? ⟨w3.heap.size, 3, none⟩ = some (.int .i64 se) := (hd14 _ _ q_seen).trans c13_seen_3
          have c14_want_0 : w14.cell? ⟨w4.heap.size, 0, none⟩ = some (.int .i64 sa) := (hd14 _ _ q_want).trans c13_want_0
          have c14_want_1 : w14.cell? ⟨w4.heap.size, 1, none⟩ = some (.int .i64 sb) := (hd14 _ _ q_want).trans c13_want_1
          have c14_want_2 : w14.cell? ⟨w4.heap.size, 2, none⟩ = some (.int .i64 sc) := (hd14 _ _ q_want).trans c13_want_2
          have c14_want_3 : w14.cell? ⟨w4.heap.size, 3, none⟩ = some (.int .i64 se) := (hd14 _ _ q_want).trans c13_want_3
          have c14_time_0 : w14.cell? ⟨w8.heap.size, 0, none⟩ = some (.int .i64 n1) := (hd14 _ _ q_time).trans c13_time_0
          have c14_time_1 : w14.cell? ⟨w8.heap.size, 1, none⟩ = some (.int .i64 d1) := (hd14 _ _ q_time).trans c13_time_1
          have c14_other_0 : w14.cell? ⟨w9.heap.size, 0, none⟩ = some (.int .i64 sc) := (hd14 _ _ q_other).trans c13_other_0
          have c14_other_1 : w14.cell? ⟨w9.heap.size, 1, none⟩ = some (.int .i64 se) := (hd14 _ _ q_other).trans c13_other_1
          have c14_other_2 : w14.cell? ⟨w9.heap.size, 2, none⟩ = some (.int .i64 sa) := (hd14 _ _ q_other).trans c13_other_2
          have c14_other_3 : w14.cell? ⟨w9.heap.size, 3, none⟩ = some (.int .i64 sb) := (hd14 _ _ q_other).trans c13_other_3
          replace q_t : w.heap.size < w14.heap.size := by omega
          replace q_s : w.heap.size + 1 < w14.heap.size := by omega
          replace q_kk : w.heap.size + 1 + 1 < w14.heap.size := by omega
          replace q_taken : w1.heap.size < w14.heap.size := by omega
          replace q_right : w2.heap.size < w14.heap.size := by omega
          replace q_seen : w3.heap.size < w14.heap.size := by omega
          replace q_want : w4.heap.size < w14.heap.size := by omega
          replace q_time : w8.heap.size < w14.heap.size := by omega
          replace q_other : w9.heap.size < w14.heap.size := by omega
          have R14_al := Lib.hid (TRow.below R13_al.out B14)
          clear R13_al
          have BW14 : Below w.heap.size w w14 := BW13.trans (B14.mono BW13.size)
          have BX14 : Below w6.heap.size w6 w14 := BX13.trans (B14.mono BX13.size)
          clear BX13
          clear hc14 hf14 hb14 hd14 B14 c13_t_0 c13_t_1 c13_s_0 c13_s_1 c13_s_2 c13_s_3 c13_kk_0 c13_kk_1 c13_kk_2 c13_kk_3 c13_taken_0 c13_taken_1 c13_right_0 c13_right_1 c13_seen_0 c13_seen_1 c13_seen_2 c13_seen_3 c13_want_0 c13_want_1 c13_want_2 c13_want_3 c13_time_0 c13_time_1 c13_other_0 c13_other_1 c13_other_2 c13_other_3 BW13
          obtain ⟨mb, hmb⟩ : ∃ b, b = (xo && !eqT xn xd n1 d1) := ⟨_, rfl⟩
          have HMB := Lib.hid hmb
          clear hmb
          go_upto_region 16 with fail
          go_cut [205] from 999 to 999 (fun x wx => x = .bool mb ∧ Below w14.heap.size w14 wx)
          case first =>
            as_aux_lemma =>
              have e := HMB.out
              cases xo
              · simp only [Bool.false_and] at e
                subst e
                go_wp2_with fail
                go_meet
                case rel => exact ⟨rfl, Below.refl _ _⟩
              · simp only [Bool.true_and] at e
                subst e
                go_wp2_with fail
                go_meet
                case rel => exact ⟨rfl, Below.refl _ _⟩
          case rest =>
            obtain ⟨rfl, hb15⟩ := hcut
            obtain ⟨w15, hw15⟩ : ∃ x : World, x = wc := ⟨_, rfl⟩
            subst hw15
            obtain ⟨hc15, hf15⟩ := bcell hb15
            have hz15 := hb15.size
            (try simp only [World.size_alloc, World.size_setCell, World.size_drew] at hz15)
            have B15 : Below w14.heap.size w14 w15 := Below.trans (b := _) (by (repeat' (first | (with_reducible exact Below.refl _ _) | (with_reducible assumption) | (with_reducible refine Below.alloc ?_ ?_ _) | (with_reducible refine Below.drew ?_) | (with_reducible refine below_drewN ?_ _) | (with_reducible refine Below.setCell ?_ ?_ _) | (with_reducible refine below_call ?_ ?_ (by assumption)) | go_size))) (hb15.mono (by first | omega | (simp only [World.size_alloc, World.size_setCell, World.size_drew]; omega)))
            obtain ⟨hd15, -⟩ := bcell B15
            have c15_t_0 : w15.cell? ⟨w.heap.size, 0, none⟩ = some (.int .i64 n1) := (hd15 _ _ q_t).trans c14_t_0
            have c15_t_1 : w15.cell? ⟨w.heap.size, 1, none⟩ = some (.int .i64 d1) := (hd15 _ _ q_t).trans c14_t_1
            have c15_s_0 : w15.cell? ⟨w.heap.size + 1, 0, none⟩ = some (.int .i64 n4) := (hd15 _ _ q_s).trans c14_s_0
            have c15_s_1 : w15.cell? ⟨w.heap.size + 1, 1, none⟩ = some (.int .i64 d4) := (hd15 _ _ q_s).trans c14_s_1
            have c15_s_2 : w15.cell? ⟨w.heap.size + 1, 2, none⟩ = some (.int .i64 x4) := (hd15 _ _ q_s).trans c14_s_2
            have c15_s_3 : w15.cell? ⟨w.heap.size + 1, 3, none⟩ = some (.int .i64 y4) := (hd15 _ _ q_s).trans c14_s_3
            have c15_kk_0 : w15.cell? ⟨w.heap.size + 1 + 1, 0, none⟩ = some (.int .i64 n5) := (hd15 _ _ q_kk).trans c14_kk_0
            have c15_kk_1 : w15.cell? ⟨w.heap.size + 1 + 1, 1, none⟩ = some (.int .i64 d5) := (hd15 _ _ q_kk).trans c14_kk_1
            have c15_kk_2 : w15.cell? ⟨w.heap.size + 1 + 1, 2, none⟩ = some (.int .i64 x5) := (hd15 _ _ q_kk).trans c14_kk_2
            have c15_kk_3 : w15.cell? ⟨w.heap.size + 1 + 1, 3, none⟩ = some (.int .i64 y5) := (hd15 _ _ q_kk).trans c14_kk_3
            have c15_taken_0 : w15.cell? ⟨w1.heap.size, 0, none⟩ = some (.int .i64 xn) := (hd15 _ _ q_taken).trans c14_taken_0
            have c15_taken_1 : w15.cell? ⟨w1.heap.size, 1, none⟩ = some (.int .i64 xd) := (hd15 _ _ q_taken).trans c14_taken_1
            have c15_right_0 : w15.cell? ⟨w2.heap.size, 0, none⟩ = some (.int .i64 xn) := (hd15 _ _ q_right).trans c14_right_0
            have c15_right_1 : w15.cell? ⟨w2.heap.size, 1, none⟩ = some (.int .i64 xd) := (hd15 _ _ q_right).trans c14_right_1
            have c15_seen_0 : w15.cell? ⟨w3.heap.size, 0, none⟩ = some (.int .i64 sa) := (hd15 _ _ q_seen).trans c14_seen_0
            have c15_seen_1 : w15.cell? ⟨w3.heap.size, 1, none⟩ = some (.int .i64 sb) := (hd15 _ _ q_seen).trans c14_seen_1
            have c15_seen_2 : w15.cell? ⟨w3.heap.size, 2, none⟩ = some (.int .i64 sc) := (hd15 _ _ q_seen).trans c14_seen_2
            have c15_seen_3 : w15.cell? ⟨w3.heap.size, 3, none⟩ = some (.int .i64 se) := (hd15 _ _ q_seen).trans c14_seen_3
            have c15_want_0 : w15.cell? ⟨w4.heap.size, 0, none⟩ = some (.int .i64 sa) := (hd15 _ _ q_want).trans c14_want_0
            have c15_want_1 : w15.cell? ⟨w4.heap.size, 1, none⟩ = some (.int .i64 sb) := (hd15 _ _ q_want).trans c14_want_1
            have c15_want_2 : w15.cell? ⟨w4.heap.size, 2, none⟩ = some (.int .i64 sc) := (hd15 _ _ q_want).trans c14_want_2
            have c15_want_3 : w15.cell? ⟨w4.heap.size, 3, none⟩ = some (.int .i64 se) := (hd15 _ _ q_want).trans c14_want_3
            have c15_time_0 : w15.cell? ⟨w8.heap.size, 0, none⟩ = some (.int .i64 n1) := (hd15 _ _ q_time).trans c14_time_0
            have c15_time_1 : w15.cell? ⟨w8.heap.size, 1, none⟩ = some (.int .i64 d1) := (hd15 _ _ q_time).trans c14_time_1
            have c15_other_0 : w15.cell? ⟨w9.heap.size, 0, none⟩ = some (.int .i64 sc) := (hd15 _ _ q_other).trans c14_other_0
            have c15_other_1 : w15.cell? ⟨w9.heap.size, 1, none⟩ = some (.int .i64 se) := (hd15 _ _ q_other).trans c14_other_1
            have c15_other_2 : w15.cell? ⟨w9.heap.size, 2, none⟩ = some (.int .i64 sa) := (hd15 _ _ q_other).trans c14_other_2
            have c15_other_3 : w15.cell? ⟨w9.heap.size, 3, none⟩ = some (.int .i64 sb) := (hd15 _ _ q_other).trans c14_other_3
            replace q_t : w.heap.size < w15.heap.size := by omega
            replace q_s : w.heap.size + 1 < w15.heap.size := by omega
            replace q_kk : w.heap.size + 1 + 1 < w15.heap.size := by omega
            replace q_taken : w1.heap.size < w15.heap.size := by omega
            replace q_right : w2.heap.size < w15.heap.size := by omega
            replace q_seen : w3.heap.size < w15.heap.size := by omega
            replace q_want : w4.heap.size < w15.heap.size := by omega
            replace q_time : w8.heap.size < w15.heap.size := by omega
            replace q_other : w9.heap.size < w15.heap.size := by omega
            have R15_al := Lib.hid (TRow.below R14_al.out B15)
            clear R14_al
            have BW15 : Below w.heap.size w w15 := BW14.trans (B15.mono BW14.size)
            have BX15 : Below w6.heap.size w6 w15 := BX14.trans (B15.mono BX14.size)
            clear BX14
            clear hc15 hf15 hb15 hd15 B15 c14_t_0 c14_t_1 c14_s_0 c14_s_1 c14_s_2 c14_s_3 c14_kk_0 c14_kk_1 c14_kk_2 c14_kk_3 c14_taken_0 c14_taken_1 c14_right_0 c14_right_1 c14_seen_0 c14_seen_1 c14_seen_2 c14_seen_3 c14_want_0 c14_want_1 c14_want_2 c14_want_3 c14_time_0 c14_time_1 c14_other_0 c14_other_1 c14_other_2 c14_other_3 BW14
            obtain ⟨mv, hmv⟩ : ∃ v : Int, v = if mb = true then 2 else 1 := ⟨_, rfl⟩
            have HML := Lib.hid (show ((LL.length : Int) != mv) = false from by
              rw [hmv, HMB.out]
              cases xo
              · rw [G9.out rfl]; rfl
              · rw [(G10.out rfl).2]
                cases eqT xn xd n1 d1 <;> rfl)
            have HMV := Lib.hid hmv
            clear hmv
            go_upto_if 205 with fail
            go_cut [31] from 999 to 999 (fun x wx => x = .int .i64 mv ∧ Below w15.heap.size w15 wx)
            case first =>
              as_aux_lemma =>
                have e := HMV.out
                cases mb
                · simp at e
                  subst e
                  go_wp2_with fail
                  go_meet
                  case rel => exact ⟨rfl, Below.refl _ _⟩
                · simp at e
                  subst e
                  go_wp2_with fail
                  go_meet
                  case rel => exact ⟨rfl, Below.refl _ _⟩
            case rest =>
              obtain ⟨rfl, hb16⟩ := hcut
              obtain ⟨w16, hw16⟩ : ∃ x : World, x = wc := ⟨_, rfl⟩
              subst hw16
              obtain ⟨hc16, hf16⟩ := bcell hb16
              have hz16 := hb16.size
              (try simp only [World.size_alloc, World.size_setCell, World.size_drew] at hz16)
              have B16 : Below w15.heap.size w15 w16 := Below.trans (b := _) (by (repeat' (first | (with_reducible exact Below.refl _ _) | (with_reducible assumption) | (with_reducible refine Below.alloc ?_ ?_ _) | (with_reducible refine Below.drew ?_) | (with_reducible refine below_drewN ?_ _) | (with_reducible refine Below.setCell ?_ ?_ _) | (with_reducible refine below_call ?_ ?_ (by assumption)) | go_size))) (hb16.mono (by first | omega | (simp only [World.size_alloc, World.size_setCell, World.size_drew]; omega)))
              obtain ⟨hd16, -⟩ := bcell B16
              have c16_t_0 : w16.cell? ⟨w.heap.size, 0, none⟩ = some (.int .i64 n1) := (hd16 _ _ q_t).trans c15_t_0
              have c16_t_1 : w16.cell? ⟨w.heap.size, 1, none⟩ = some (.int .i64 d1) := (hd16 _ _ q_t).trans c15_t_1
              have c16_s_0 : w16.cell? ⟨w.heap.size + 1, 0, none⟩ = some (.int .i64 n4) := (hd16 _ _ q_s).trans c15_s_0
              have c16_s_1 : w16.cell? ⟨w.heap.size + 1, 1, none⟩ = some (.int .i64 d4) := (hd16 _ _ q_s).trans c15_s_1
              have c16_s_2 : w16.cell? ⟨w.heap.size + 1, 2, none⟩ = some (.int .i64 x4) := (hd16 _ _ q_s).trans c15_s_2
              have c16_s_3 : w16.cell? ⟨w.heap.size + 1, 3, none⟩ = some (.int .i64 y4) := (hd16 _ _ q_s).trans c15_s_3
              have c16_kk_0 : w16.cell? ⟨w.heap.size + 1 + 1, 0, none⟩ = some (.int .i64 n5) := (hd16 _ _ q_kk).trans c15_kk_0
              have c16_kk_1 : w16.cell? ⟨w.heap.size + 1 + 1, 1, none⟩ = some (.int .i64 d5) := (hd16 _ _ q_kk).trans c15_kk_1
              have c16_kk_2 : w16.cell? ⟨w.heap.size + 1 + 1, 2, none⟩ = some (.int .i64 x5) := (hd16 _ _ q_kk).trans c15_kk_2
              have c16_kk_3 : w16.cell? ⟨w.heap.size + 1 + 1, 3, none⟩ = some (.int .i64 y5) := (hd16 _ _ q_kk).trans c15_kk_3
              have c16_taken_0 : w16.cell? ⟨w1.heap.size, 0, none⟩ = some (.int .i64 xn) := (hd16 _ _ q_taken).trans c15_taken_0
              have c16_taken_1 : w16.cell? ⟨w1.heap.size, 1, none⟩ = some (.int .i64 xd) := (hd16 _ _ q_taken).trans c15_taken_1
              have c16_right_0 : w16.cell? ⟨w2.heap.size, 0, none⟩ = some (.int .i64 xn) := (hd16 _ _ q_right).trans c15_right_0
              have c16_right_1 : w16.cell? ⟨w2.heap.size, 1, none⟩ = some (.int .i64 xd) := (hd16 _ _ q_right).trans c15_right_1
              have c16_seen_0 : w16.cell? ⟨w3.heap.size, 0, none⟩ = some (.int .i64 sa) := (hd16 _ _ q_seen).trans c15_seen_0
              have c16_seen_1 : w16.cell? ⟨w3.heap.size, 1, none⟩ = some (.int .i64 sb) := (hd16 _ _ q_seen).trans c15_seen_1
              have c16_seen_2 : w16.cell? ⟨w3.heap.size, 2, none⟩ = some (.int .i64 sc) := (hd16 _ _ q_seen).trans c15_seen_2
              have c16_seen_3 : w16.cell? ⟨w3.heap.size, 3, none⟩ = some (.int .i64 se) := (hd16 _ _ q_seen).trans c15_seen_3
              have c16_want_0 : w16.cell? ⟨w4.heap.size, 0, none⟩ = some (.int .i64 sa) := (hd16 _ _ q_want).trans c15_want_0
              have c16_want_1 : w16.cell? ⟨w4.heap.size, 1, none⟩ = some (.int .i64 sb) := (hd16 _ _ q_want).trans c15_want_1
              have c16_want_2 : w16.cell? ⟨w4.heap.size, 2, none⟩ = some (.int .i64 sc) := (hd16 _ _ q_want).trans c15_want_2
              have c16_want_3 : w16.cell? ⟨w4.heap.size, 3, none⟩ = some (.int .i64 se) := (hd16 _ _ q_want).trans c15_want_3
              have c16_time_0 : w16.cell? ⟨w8.heap.size, 0, none⟩ = some (.int .i64 n1) := (hd16 _ _ q_time).trans c15_time_0
              have c16_time_1 : w16.cell? ⟨w8.heap.size, 1, none⟩ = some (.int .i64 d1) := (hd16 _ _ q_time).trans c15_time_1
              have c16_other_0 : w16.cell? ⟨w9.heap.size, 0, none⟩ = some (.int .i64 sc) := (hd16 _ _ q_other).trans c15_other_0
              have c16_other_1 : w16.cell? ⟨w9.heap.size, 1, none⟩ = some (.int .i64 se) := (hd16 _ _ q_other).trans c15_other_1
              have c16_other_2 : w16.cell? ⟨w9.heap.size, 2, none⟩ = some (.int .i64 sa) := (hd16 _ _ q_other).trans c15_other_2
              have c16_other_3 : w16.cell? ⟨w9.heap.size, 3, none⟩ = some (.int .i64 sb) := (hd16 _ _ q_other).trans c15_other_3
              replace q_t : w.heap.size < w16.heap.size := by omega
              replace q_s : w.heap.size + 1 < w16.heap.size := by omega
              replace q_kk : w.heap.size + 1 + 1 < w16.heap.size := by omega
              replace q_taken : w1.heap.size < w16.heap.size := by omega
              replace q_right : w2.heap.size < w16.heap.size := by omega
              replace q_seen : w3.heap.size < w16.heap.size := by omega
              replace q_want : w4.heap.size < w16.heap.size := by omega
              replace q_time : w8.heap.size < w16.heap.size := by omega
              replace q_other : w9.heap.size < w16.heap.size := by omega
              have R16_al := Lib.hid (TRow.below R15_al.out B16)
              clear R15_al
              have BW16 : Below w.heap.size w w16 := BW15.trans (B16.mono BW15.size)
              have BX16 : Below w6.heap.size w6 w16 := BX15.trans (B16.mono BX15.size)
              clear BX15
              clear hc16 hf16 hb16 hd16 B16 c15_t_0 c15_t_1 c15_s_0 c15_s_1 c15_s_2 c15_s_3 c15_kk_0 c15_kk_1 c15_kk_2 c15_kk_3 c15_taken_0 c15_taken_1 c15_right_0 c15_right_1 c15_seen_0 c15_seen_1 c15_seen_2 c15_seen_3 c15_want_0 c15_want_1 c15_want_2 c15_want_3 c15_time_0 c15_time_1 c15_other_0 c15_other_1 c15_other_2 c15_other_3 BW15
              go_upto_region 18 with fail
              go_cut [218] from 999 to 999 (fun x wx => x = .bool false ∧ Below w16.heap.size w16 wx)
              case first =>
                as_aux_lemma =>
                  have hml := HML.out
                  cases xo
                  · go_wp2_with fail
                    go_meet
                    case rel => exact ⟨rfl, Below.refl _ _⟩
                  · have h10 := Lib.hid (hasT_yes (G10.out rfl).1)
                    go_wp2_with fail
                    refine (wHas_is LL _ _ _ _ _ h10.out R16_al.out HLL.out).mono ?_
                    rintro e17 w17 ⟨rfl, hb17⟩
                    obtain ⟨hc17, hf17⟩ := bcell hb17
                    have hz17 := hb17.size
                    (try simp only [World.size_alloc, World.size_setCell, World.size_drew] at hz17)
                    have B17 : Below w16.heap.size w16 w17 := Below.trans (b := _) (by (repeat' (first | (with_reducible exact Below.refl _ _) | (with_reducible assumption) | (with_reducible refine Below.alloc ?_ ?_ _) | (with_reducible refine Below.drew ?_) | (with_reducible refine below_drewN ?_ _) | (with_reducible refine Below.setCell ?_ ?_ _) | (with_reducible refine below_call ?_ ?_ (by assumption)) | go_size))) (hb17.mono (by first | omega | (simp only [World.size_alloc, World.size_setCell, World.size_drew]; omega)))
                    obtain ⟨hd17, -⟩ := bcell B17
                    have c17_t_0 : w17.cell? ⟨w.heap.size, 0, none⟩ = some (.int .i64 n1) := (hd17 _ _ q_t).trans c16_t_0
                    have c17_t_1 : w17.cell? ⟨w.heap.size, 1, none⟩ = some (.int .i64 d1) := (hd17 _ _ q_t).trans c16_t_1
                    have c17_s_0 : w17.cell? ⟨w.heap.size + 1, 0, none⟩ = some (.int .i64 n4) := (hd17 _ _ q_s).trans c16_s_0
                    have c17_s_1 : w17.cell? ⟨w.heap.size + 1, 1, none⟩ = some (.int .i64 d4) := (hd17 _ _ q_s).trans c16_s_1
                    have c17_s_2 : w17.cell? ⟨w.heap.size + 1, 2, none⟩ = some (.int .i64 x4) := (hd17 _ _ q_s).trans c16_s_2
                    have c17_s_3 : w17.cell? ⟨w.heap.size + 1, 3, none⟩ = some (.int .i64 y4) := (hd17 _ _ q_s).trans c16_s_3
                    have c17_kk_0 : w17.cell? ⟨w.heap.size + 1 + 1, 0, none⟩ = some (.int .i64 n5) := (hd17 _ _ q_kk).trans c16_kk_0
                    have c17_kk_1 : w17.cell? ⟨w.heap.size + 1 + 1, 1, none⟩ = some (.int .i64 d5) := (hd17 _ _ q_kk).trans c16_kk_1
                    have c17_kk_2 : w17.cell? ⟨w.heap.size + 1 + 1, 2, none⟩ = some (.int .i64 x5) := (hd17 _ _ q_kk).trans c16_kk_2
                    have c17_kk_3 : w17.cell? ⟨w.heap.size + 1 + 1, 3, none⟩ = some (.int .i64 y5) := (hd17 _ _ q_kk).trans c16_kk_3
                    have c17_taken_0 : w17.cell? ⟨w1.heap.size, 0, none⟩ = some (.int .i64 xn) := (hd17 _ _ q_taken).trans c16_taken_0
                    have c17_taken_1 : w17.cell? ⟨w1.heap.size, 1, none⟩ = some (.int .i64 xd) := (hd17 _ _ q_taken).trans c16_taken_1
                    have c17_right_0 : w17.cell? ⟨w2.heap.size, 0, none⟩ = some (.int .i64 xn) := (hd17 _ _ q_right).trans c16_right_0
                    have c17_right_1 : w17.cell? ⟨w2.heap.size, 1, none⟩ = some (.int .i64 xd) := (hd17 _ _ q_right).trans c16_right_1
                    have c17_seen_0 : w17.cell? ⟨w3.heap.size, 0, none⟩ = some (.int .i64 sa) := (hd17 _ _ q_seen).trans c16_seen_0
                    have c17_seen_1 : w17.cell? ⟨w3.heap.size, 1, none⟩ = some (.int .i64 sb) := (hd17 _ _ q_seen).trans c16_seen_1
                    have c17_seen_2 : w17.cell? ⟨w3.heap.size, 2, none⟩ = some (.int .i64 sc) := (hd17 _ _ q_seen).trans c16_seen_2
                    have c17_seen_3 : w17.cell? ⟨w3.heap.size, 3, none⟩ = some (.int .i64 se) := (hd17 _ _ q_seen).trans c16_seen_3
                    have c17_want_0 : w17.cell? ⟨w4.heap.size, 0, none⟩ = some (.int .i64 sa) := (hd17 _ _ q_want).trans c16_want_0
                    have c17_want_1 : w17.cell? ⟨w4.heap.size, 1, none⟩ = some (.int .i64 sb) := (hd17 _ _ q_want).trans c16_want_1
                    have c17_want_2 : w17.cell? ⟨w4.heap.size, 2, none⟩ = some (.int .i64 sc) := (hd17 _ _ q_want).trans c16_want_2
                    have c17_want_3 : w17.cell? ⟨w4.heap.size, 3, none⟩ = some (.int .i64 se) := (hd17 _ _ q_want).trans c16_want_3
                    have c17_time_0 : w17.cell? ⟨w8.heap.size, 0, none⟩ = some (.int .i64 n1) := (hd17 _ _ q_time).trans c16_time_0
                    have c17_time_1 : w17.cell? ⟨w8.heap.size, 1, none⟩ = some (.int .i64 d1) := (hd17 _ _ q_time).trans c16_time_1
                    have c17_other_0 : w17.cell? ⟨w9.heap.size, 0, none⟩ = some (.int .i64 sc) := (hd17 _ _ q_other).trans c16_other_0
                    have c17_other_1 : w17.cell? ⟨w9.heap.size, 1, none⟩ = some (.int .i64 se) := (hd17 _ _ q_other).trans c16_other_1
                    have c17_other_2 : w17.cell? ⟨w9.heap.size, 2, none⟩ = some (.int .i64 sa) := (hd17 _ _ q_other).trans c16_other_2
                    have c17_other_3 : w17.cell? ⟨w9.heap.size, 3, none⟩ = some (.int .i64 sb) := (hd17 _ _ q_other).trans c16_other_3
                    replace q_t : w.heap.size < w17.heap.size := by omega
                    replace q_s : w.heap.size + 1 < w17.heap.size := by omega
                    replace q_kk : w.heap.size + 1 + 1 < w17.heap.size := by omega
                    replace q_taken : w1.heap.size < w17.heap.size := by omega
                    replace q_right : w2.heap.size < w17.heap.size := by omega
                    replace q_seen : w3.heap.size < w17.heap.size := by omega
                    replace q_want : w4.heap.size < w17.heap.size := by omega
                    replace q_time : w8.heap.size < w17.heap.size := by omega
                    replace q_other : w9.heap.size < w17.heap.size := by omega
                    have R17_al := Lib.hid (TRow.below R16_al.out B17)
                    clear R16_al
                    have BW17 : Below w.heap.size w w17 := BW16.trans (B17.mono BW16.size)
                    have BX17 : Below w16.heap.size w16 w17 := B17
                    clear hc17 hf17 hb17 hd17 B17 c16_t_0 c16_t_1 c16_s_0 c16_s_1 c16_s_2 c16_s_3 c16_kk_0 c16_kk_1 c16_kk_2 c16_kk_3 c16_taken_0 c16_taken_1 c16_right_0 c16_right_1 c16_seen_0 c16_seen_1 c16_seen_2 c16_seen_3 c16_want_0 c16_want_1 c16_want_2 c16_want_3 c16_time_0 c16_time_1 c16_other_0 c16_other_1 c16_other_2 c16_other_3 BW16
                    go_wp2_with fail
                    go_meet
                    case rel => exact ⟨rfl, BX17⟩
              case rest =>
                obtain ⟨rfl, hb17⟩ := hcut
                obtain ⟨w17, hw17⟩ : ∃ x : World, x = wc := ⟨_, rfl⟩
                subst hw17
                obtain ⟨hc17, hf17⟩ := bcell hb17
                have hz17 := hb17.size
                (try simp only [World.size_alloc, World.size_setCell, World.size_drew] at hz17)
                have B17 : Below w16.heap.size w16 w17 := Below.trans (b := _) (by (repeat' (first | (with_reducible exact Below.refl _ _) | (with_reducible assumption) | (with_reducible refine Below.alloc ?_ ?_ _) | (with_reducible refine Below.drew ?_) | (with_reducible refine below_drewN ?_ _) | (with_reducible refine Below.setCell ?_ ?_ _) | (with_reducible refine below_call ?_ ?_ (by assumption)) | go_size))) (hb17.mono (by first | omega | (simp only [World.size_alloc, World.size_setCell, World.size_drew]; omega)))
                obtain ⟨hd17, -⟩ := bcell B17
                have c17_t_0 : w17.cell? ⟨w.heap.size, 0, none⟩ = some (.int .i64 n1) := (hd17 _ _ q_t).trans c16_t_0
                have c17_t_1 : w17.cell? ⟨w.heap.size, 1, none⟩ = some (.int .i64 d1) := (hd17 _ _ q_t).trans c16_t_1
                have c17_s_0 : w17.cell? ⟨w.heap.size + 1, 0, none⟩ = some (.int .i64 n4) := (hd17 _ _ q_s).trans c16_s_0
                have c17_s_1 : w17.cell? ⟨w.heap.size + 1, 1, none⟩ = some (.int .i64 d4) := (hd17 _ _ q_s).trans c16_s_1
                have c17_s_2 : w17.cell? ⟨w.heap.size + 1, 2, none⟩ = some (.int .i64 x4) := (hd17 _ _ q_s).trans c16_s_2
                have c17_s_3 : w17.cell? ⟨w.heap.size + 1, 3, none⟩ = some (.int .i64 y4) := (hd17 _ _ q_s).trans c16_s_3
                have c17_kk_0 : w17.cell? ⟨w.heap.size + 1 + 1, 0, none⟩ = some (.int .i64 n5) := (hd17 _ _ q_kk).trans c16_kk_0
                have c17_kk_1 : w17.cell? ⟨w.heap.size + 1 + 1, 1, none⟩ = some (.int .i64 d5) := (hd17 _ _ q_kk).trans c16_kk_1
                have c17_kk_2 : w17.cell? ⟨w.heap.size + 1 + 1, 2, none⟩ = some (.int .i64 x5) := (hd17 _ _ q_kk).trans c16_kk_2
                have c17_kk_3 : w17.cell? ⟨w.heap.size + 1 + 1, 3, none⟩ = some (.int .i64 y5) := (hd17 _ _ q_kk).trans c16_kk_3
                have c17_taken_0 : w17.cell? ⟨w1.heap.size, 0, none⟩ = some (.int .i64 xn) := (hd17 _ _ q_taken).trans c16_taken_0
                have c17_taken_1 : w17.cell? ⟨w1.heap.size, 1, none⟩ = some (.int .i64 xd) := (hd17 _ _ q_taken).trans c16_taken_1
                have c17_right_0 : w17.cell? ⟨w2.heap.size, 0, none⟩ = some (.int .i64 xn) := (hd17 _ _ q_right).trans c16_right_0
                have c17_right_1 : w17.cell? ⟨w2.heap.size, 1, none⟩ = some (.int .i64 xd) := (hd17 _ _ q_right).trans c16_right_1
                have c17_seen_0 : w17.cell? ⟨w3.heap.size, 0, none⟩ = some (.int .i64 sa) := (hd17 _ _ q_seen).trans c16_seen_0
                have c17_seen_1 : w17.cell? ⟨w3.heap.size, 1, none⟩ = some (.int .i64 sb) := (hd17 _ _ q_seen).trans c16_seen_1
                have c17_seen_2 : w17.cell? ⟨w3.heap.size, 2, none⟩ = some (.int .i64 sc) := (hd17 _ _ q_seen).trans c16_seen_2
                have c17_seen_3 : w17.cell? ⟨w3.heap.size, 3, none⟩ = some (.int .i64 se) := (hd17 _ _ q_seen).trans c16_seen_3
                have c17_want_0 : w17.cell? ⟨w4.heap.size, 0, none⟩ = some (.int .i64 sa) := (hd17 _ _ q_want).trans c16_want_0
                have c17_want_1 : w17.cell? ⟨w4.heap.size, 1, none⟩ = some (.int .i64 sb) := (hd17 _ _ q_want).trans c16_want_1
                have c17_want_2 : w17.cell? ⟨w4.heap.size, 2, none⟩ = some (.int .i64 sc) := (hd17 _ _ q_want).trans c16_want_2
                have c17_want_3 : w17.cell? ⟨w4.heap.size, 3, none⟩ = some (.int .i64 se) := (hd17 _ _ q_want).trans c16_want_3
                have c17_time_0 : w17.cell? ⟨w8.heap.size, 0, none⟩ = some (.int .i64 n1) := (hd17 _ _ q_time).trans c16_time_0
                have c17_time_1 : w17.cell? ⟨w8.heap.size, 1, none⟩ = some (.int .i64 d1) := (hd17 _ _ q_time).trans c16_time_1
                have c17_other_0 : w17.cell? ⟨w9.heap.size, 0, none⟩ = some (.int .i64 sc) := (hd17 _ _ q_other).trans c16_other_0
                have c17_other_1 : w17.cell? ⟨w9.heap.size, 1, none⟩ = some (.int .i64 se) := (hd17 _ _ q_other).trans c16_other_1
                have c17_other_2 : w17.cell? ⟨w9.heap.size, 2, none⟩ = some (.int .i64 sa) := (hd17 _ _ q_other).trans c16_other_2
                have c17_other_3 : w17.cell? ⟨w9.heap.size, 3, none⟩ = some (.int .i64 sb) := (hd17 _ _ q_other).trans c16_other_3
                replace q_t : w.heap.size < w17.heap.size := by omega
                replace q_s : w.heap.size + 1 < w17.heap.size := by omega
                replace q_kk : w.heap.size + 1 + 1 < w17.heap.size := by omega
                replace q_taken : w1.heap.size < w17.heap.size := by omega
                replace q_right : w2.heap.size < w17.heap.size := by omega
                replace q_seen : w3.heap.size < w17.heap.size := by omega
                replace q_want : w4.heap.size < w17.heap.size := by omega
                replace q_time : w8.heap.size < w17.heap.size := by omega
                replace q_other : w9.heap.size < w17.heap.size := by omega
                have R17_al := Lib.hid (TRow.below R16_al.out B17)
                clear R16_al
                have BW17 : Below w.heap.size w w17 := BW16.trans (B17.mono BW16.size)
                have BX17 : Below w6.heap.size w6 w17 := BX16.trans (B17.mono BX16.size)
                clear BX16
                clear hc17 hf17 hb17 hd17 B17 c16_t_0 c16_t_1 c16_s_0 c16_s_1 c16_s_2 c16_s_3 c16_kk_0 c16_kk_1 c16_kk_2 c16_kk_3 c16_taken_0 c16_taken_1 c16_right_0 c16_right_1 c16_seen_0 c16_seen_1 c16_seen_2 c16_seen_3 c16_want_0 c16_want_1 c16_want_2 c16_want_3 c16_time_0 c16_time_1 c16_other_0 c16_other_1 c16_other_2 c16_other_3 BW16
                have hrelB := BX17
                go_wp2_with fail
                go_meet
                case rel => exact hrelB
    case rest =>
      have hb7 := hcut
      obtain ⟨w7, hw7⟩ : ∃ x : World, x = wc := ⟨_, rfl⟩
      subst hw7
      obtain ⟨hc7, hf7⟩ := bcell hb7
      have hz7 := hb7.size
      (try simp only [World.size_alloc, World.size_setCell, World.size_drew] at hz7)
      have B7 : Below w6.heap.size w6 w7 := Below.trans (b := _) (by (repeat' (first | (with_reducible exact Below.refl _ _) | (with_reducible assumption) | (with_reducible refine Below.alloc ?_ ?_ _) | (with_reducible refine Below.drew ?_) | (with_reducible refine below_drewN ?_ _) | (with_reducible refine Below.setCell ?_ ?_ _) | (with_reducible refine below_call ?_ ?_ (by assumption)) | go_size))) (hb7.mono (by first | omega | (simp only [World.size_alloc, World.size_setCell, World.size_drew]; omega)))
      obtain ⟨hd7, -⟩ := bcell B7
      have c7_t_0 : w7.cell? ⟨w.heap.size, 0, none⟩ = some (.int .i64 n1) := (hd7 _ _ q_t).trans c6_t_0
      have c7_t_1 : w7.cell? ⟨w.heap.size, 1, none⟩ = some (.int .i64 d1) := (hd7 _ _ q_t).trans c6_t_1
      have c7_s_0 : w7.cell? ⟨w.heap.size + 1, 0, none⟩ = some (.int .i64 n4) := (hd7 _ _ q_s).trans c6_s_0
      have c7_s_1 : w7.cell? ⟨w.heap.size + 1, 1, none⟩ = some (.int .i64 d4) := (hd7 _ _ q_s).trans c6_s_1
      have c7_s_2 : w7.cell? ⟨w.heap.size + 1, 2, none⟩ = some (.int .i64 x4) := (hd7 _ _ q_s).trans c6_s_2
      have c7_s_3 : w7.cell? ⟨w.heap.size + 1, 3, none⟩ = some (.int .i64 y4) := (hd7 _ _ q_s).trans c6_s_3
      have c7_kk_0 : w7.cell? ⟨w.heap.size + 1 + 1, 0, none⟩ = some (.int .i64 n5) := (hd7 _ _ q_kk).trans c6_kk_0
      have c7_kk_1 : w7.cell? ⟨w.heap.size + 1 + 1, 1, none⟩ = some (.int .i64 d5) := (hd7 _ _ q_kk).trans c6_kk_1
      have c7_kk_2 : w7.cell? ⟨w.heap.size + 1 + 1, 2, none⟩ = some (.int .i64 x5) := (hd7 _ _ q_kk).trans c6_kk_2
      have c7_kk_3 : w7.cell? ⟨w.heap.size + 1 + 1, 3, none⟩ = some (.int .i64 y5) := (hd7 _ _ q_kk).trans c6_kk_3
      have c7_taken_0 : w7.cell? ⟨w1.heap.size, 0, none⟩ = some (.int .i64 xn) := (hd7 _ _ q_taken).trans c6_taken_0
      have c7_taken_1 : w7.cell? ⟨w1.heap.size, 1, none⟩ = some (.int .i64 xd) := (hd7 _ _ q_taken).trans c6_taken_1
      have c7_right_0 : w7.cell? ⟨w2.heap.size, 0, none⟩ = some (.int .i64 xn) := (hd7 _ _ q_right).trans c6_right_0
      have c7_right_1 : w7.cell? ⟨w2.heap.size, 1, none⟩ = some (.int .i64 xd) := (hd7 _ _ q_right).trans c6_right_1
      have c7_seen_0 : w7.cell? ⟨w3.heap.size, 0, none⟩ = some (.int .i64 sa) := (hd7 _ _ q_seen).trans c6_seen_0
      have c7_seen_1 : w7.cell? ⟨w3.heap.size, 1, none⟩ = some (.int .i64 sb) := (hd7 _ _ q_seen).trans c6_seen_1
      have c7_seen_2 : w7.cell? ⟨w3.heap.size, 2, none⟩ = some (.int .i64 sc) := (hd7 _ _ q_seen).trans c6_seen_2
      have c7_seen_3 : w7.cell? ⟨w3.heap.size, 3, none⟩ = some (.int .i64 se) := (hd7 _ _ q_seen).trans c6_seen_3
      have c7_want_0 : w7.cell? ⟨w4.heap.size, 0, none⟩ = some (.int .i64 sa) := (hd7 _ _ q_want).trans c6_want_0
      have c7_want_1 : w7.cell? ⟨w4.heap.size, 1, none⟩ = some (.int .i64 sb) := (hd7 _ _ q_want).trans c6_want_1
      have c7_want_2 : w7.cell? ⟨w4.heap.size, 2, none⟩ = some (.int .i64 sc) := (hd7 _ _ q_want).trans c6_want_2
      have c7_want_3 : w7.cell? ⟨w4.heap.size, 3, none⟩ = some (.int .i64 se) := (hd7 _ _ q_want).trans c6_want_3
      replace q_t : w.heap.size < w7.heap.size := by omega
      replace q_s : w.heap.size + 1 < w7.heap.size := by omega
      replace q_kk : w.heap.size + 1 + 1 < w7.heap.size := by omega
      replace q_taken : w1.heap.size < w7.heap.size := by omega
      replace q_right : w2.heap.size < w7.heap.size := by omega
      replace q_seen : w3.heap.size < w7.heap.size := by omega
      replace q_want : w4.heap.size < w7.heap.size := by omega
      have BW7 : Below w.heap.size w w7 := BW6.trans (B7.mono BW6.size)
      clear hc7 hf7 hb7 hd7 B7 c6_t_0 c6_t_1 c6_s_0 c6_s_1 c6_s_2 c6_s_3 c6_kk_0 c6_kk_1 c6_kk_2 c6_kk_3 c6_taken_0 c6_taken_1 c6_right_0 c6_right_1 c6_seen_0 c6_seen_1 c6_seen_2 c6_seen_3 c6_want_0 c6_want_1 c6_want_2 c6_want_3 BW6
      go_upto_if 219 with fail
      go_cut [] from 999 to 999 (fun wx => Below w7.heap.size w7 wx)
      case first =>
        as_aux_lemma =>
          cases xo
          · go_wp2_with fail
            go_meet
            case rel => exact Below.refl _ _
          · obtain ⟨h1, h2⟩ := F3.out rfl
            obtain ⟨hh, hg⟩ := F4.out rfl
            obtain ⟨d1', d2', -, -⟩ := goodB_bd hg
            have hq := hh_bd hh
            have Z1 := Lib.hid (fun W => (show Calls Try.prog 8 #[.int .i64 a0, tv xn xd] W fun e w' => e = .returned (rv (n1, d1, true)) ∧ Below W.heap.size W w' from by have := implExchangedTime_any a0 xn xd W; rw [h1] at this; exact this))
            have hr : (a0 * a0 - 1).tmod d1 = 0 := Int.tmod_eq_zero_of_dvd h2
            clear h1 h2 hg
            obtain ⟨hp, hhp⟩ : ∃ x, a0 * a0 = x := ⟨_, rfl⟩
            rw [hhp] at hr hq
            have HHP := Lib.hid hhp
            clear hhp
            go_wp2_with fail
            refine (Z1.out _).mono ?_
            rintro e8 w8 ⟨rfl, hb8⟩
            obtain ⟨hc8, hf8⟩ := bcell hb8
            have hz8 := hb8.size
            (try simp only [World.size_alloc, World.size_setCell, World.size_drew] at hz8)
            have B8 : Below w7.heap.size w7 w8 := Below.trans (b := _) (by (repeat' (first | (with_reducible exact Below.refl _ _) | (with_reducible assumption) | (with_reducible refine Below.alloc ?_ ?_ _) | (with_reducible refine Below.drew ?_) | (with_reducible refine below_drewN ?_ _) | (with_reducible refine Below.setCell ?_ ?_ _) | (with_reducible refine below_call ?_ ?_ (by assumption)) | go_size))) (hb8.mono (by first | omega | (simp only [World.size_alloc, World.size_setCell, World.size_drew]; omega)))
            obtain ⟨hd8, -⟩ := bcell B8
            have c8_t_0 : w8.cell? ⟨w.heap.size, 0, none⟩ = some (.int .i64 n1) := (hd8 _ _ q_t).trans c7_t_0
            have c8_t_1 : w8.cell? ⟨w.heap.size, 1, none⟩ = some (.int .i64 d1) := (hd8 _ _ q_t).trans c7_t_1
            have c8_s_0 : w8.cell? ⟨w.heap.size + 1, 0, none⟩ = some (.int .i64 n4) := (hd8 _ _ q_s).trans c7_s_0
            have c8_s_1 : w8.cell? ⟨w.heap.size + 1, 1, none⟩ = some (.int .i64 d4) := (hd8 _ _ q_s).trans c7_s_1
            have c8_s_2 : w8.cell? ⟨w.heap.size + 1, 2, none⟩ = some (.int .i64 x4) := (hd8 _ _ q_s).trans c7_s_2
            have c8_s_3 : w8.cell? ⟨w.heap.size + 1, 3, none⟩ = some (.int .i64 y4) := (hd8 _ _ q_s).trans c7_s_3
            have c8_kk_0 : w8.cell? ⟨w.heap.size + 1 + 1, 0, none⟩ = some (.int .i64 n5) := (hd8 _ _ q_kk).trans c7_kk_0
            have c8_kk_1 : w8.cell? ⟨w.heap.size + 1 + 1, 1, none⟩ = some (.int .i64 d5) := (hd8 _ _ q_kk).trans c7_kk_1
            have c8_kk_2 : w8.cell? ⟨w.heap.size + 1 + 1, 2, none⟩ = some (.int .i64 x5) := (hd8 _ _ q_kk).trans c7_kk_2
            have c8_kk_3 : w8.cell? ⟨w.heap.size + 1 + 1, 3, none⟩ = some (.int .i64 y5) := (hd8 _ _ q_kk).trans c7_kk_3
            have c8_taken_0 : w8.cell? ⟨w1.heap.size, 0, none⟩ = some (.int .i64 xn) := (hd8 _ _ q_taken).trans c7_taken_0
            have c8_taken_1 : w8.cell? ⟨w1.heap.size, 1, none⟩ = some (.int .i64 xd) := (hd8 _ _ q_taken).trans c7_taken_1
            have c8_right_0 : w8.cell? ⟨w2.heap.size, 0, none⟩ = some (.int .i64 xn) := (hd8 _ _ q_right).trans c7_right_0
            have c8_right_1 : w8.cell? ⟨w2.heap.size, 1, none⟩ = some (.int .i64 xd) := (hd8 _ _ q_right).trans c7_right_1
            have c8_seen_0 : w8.cell? ⟨w3.heap.size, 0, none⟩ = some (.int .i64 sa) := (hd8 _ _ q_seen).trans c7_seen_0
            have c8_seen_1 : w8.cell? ⟨w3.heap.size, 1, none⟩ = some (.int .i64 sb) := (hd8 _ _ q_seen).trans c7_seen_1
            have c8_seen_2 : w8.cell? ⟨w3.heap.size, 2, none⟩ = some (.int .i64 sc) := (hd8 _ _ q_seen).trans c7_seen_2
            have c8_seen_3 : w8.cell? ⟨w3.heap.size, 3, none⟩ = some (.int .i64 se) := (hd8 _ _ q_seen).trans c7_seen_3
            have c8_want_0 : w8.cell? ⟨w4.heap.size, 0, none⟩ = some (.int .i64 sa) := (hd8 _ _ q_want).trans c7_want_0
            have c8_want_1 : w8.cell? ⟨w4.heap.size, 1, none⟩ = some (.int .i64 sb) := (hd8 _ _ q_want).trans c7_want_1
            have c8_want_2 : w8.cell? ⟨w4.heap.size, 2, none⟩ = some (.int .i64 sc) := (hd8 _ _ q_want).trans c7_want_2
            have c8_want_3 : w8.cell? ⟨w4.heap.size, 3, none⟩ = some (.int .i64 se) := (hd8 _ _ q_want).trans c7_want_3
            replace q_t : w.heap.size < w8.heap.size := by omega
            replace q_s : w.heap.size + 1 < w8.heap.size := by omega
            replace q_kk : w.heap.size + 1 + 1 < w8.heap.size := by omega
            replace q_taken : w1.heap.size < w8.heap.size := by omega
            replace q_right : w2.heap.size < w8.heap.size := by omega
            replace q_seen : w3.heap.size < w8.heap.size := by omega
            replace q_want : w4.heap.size < w8.heap.size := by omega
            have BW8 : Below w.heap.size w w8 := BW7.trans (B8.mono BW7.size)
            have BX8 : Below w7.heap.size w7 w8 := B8
            clear hc8 hf8 hb8 hd8 B8 c7_t_0 c7_t_1 c7_s_0 c7_s_1 c7_s_2 c7_s_3 c7_kk_0 c7_kk_1 c7_kk_2 c7_kk_3 c7_taken_0 c7_taken_1 c7_right_0 c7_right_1 c7_seen_0 c7_seen_1 c7_seen_2 c7_seen_3 c7_want_0 c7_want_1 c7_want_2 c7_want_3 BW7
            go_upto_region 22 with fail
            have hb9 : Below w8.heap.size w8 (w8.alloc (Obj.cells #[.int .i64 n1, .int .i64 d1] 25)) := by (repeat' (first | (with_reducible exact Below.refl _ _) | (with_reducible assumption) | (with_reducible refine Below.alloc ?_ ?_ _) | (with_reducible refine Below.drew ?_) | (with_reducible refine below_drewN ?_ _) | (with_reducible refine Below.setCell ?_ ?_ _) | (with_reducible refine below_call ?_ ?_ (by assumption)) | go_size))
            have c9_home_0 : (w8.alloc (Obj.cells #[.int .i64 n1, .int .i64 d1] 25)).cell? ⟨w8.heap.size, 0, none⟩ = some (.int .i64 n1) := by go_simp
            have c9_home_1 : (w8.alloc (Obj.cells #[.int .i64 n1, .int .i64 d1] 25)).cell? ⟨w8.heap.size, 1, none⟩ = some (.int .i64 d1) := by go_simp
            have q_home : w8.heap.size < (w8.alloc (Obj.cells #[.int .i64 n1, .int .i64 d1] 25)).heap.size := by go_size
            generalize (w8.alloc (Obj.cells #[.int .i64 n1, .int .i64 d1] 25)) = w9 at *
            obtain ⟨hd9, -⟩ := bcell hb9
            have hz9 := hb9.size
            have c9_t_0 : w9.cell? ⟨w.heap.size, 0, none⟩ = some (.int .i64 n1) := (hd9 _ _ q_t).trans c8_t_0
            have c9_t_1 : w9.cell? ⟨w.heap.size, 1, none⟩ = some (.int .i64 d1) := (hd9 _ _ q_t).trans c8_t_1
            have c9_s_0 : w9.cell? ⟨w.heap.size + 1, 0, none⟩ = some (.int .i64 n4) := (hd9 _ _ q_s).trans c8_s_0
            have c9_s_1 : w9.cell? ⟨w.heap.size + 1, 1, none⟩ = some (.int .i64 d4) := (hd9 _ _ q_s).trans c8_s_1
            have c9_s_2 : w9.cell? ⟨w.heap.size + 1, 2, none⟩ = some (.int .i64 x4) := (hd9 _ _ q_s).trans c8_s_2
            have c9_s_3 : w9.cell? ⟨w.heap.size + 1, 3, none⟩ = some (.int .i64 y4) := (hd9 _ _ q_s).trans c8_s_3
            have c9_kk_0 : w9.cell? ⟨w.heap.size + 1 + 1, 0, none⟩ = some (.int .i64 n5) := (hd9 _ _ q_kk).trans c8_kk_0
            have c9_kk_1 : w9.cell? ⟨w.heap.size + 1 + 1, 1, none⟩ = some (.int .i64 d5) := (hd9 _ _ q_kk).trans c8_kk_1
            have c9_kk_2 : w9.cell? ⟨w.heap.size + 1 + 1, 2, none⟩ = some (.int .i64 x5) := (hd9 _ _ q_kk).trans c8_kk_2
            have c9_kk_3 : w9.cell? ⟨w.heap.size + 1 + 1, 3, none⟩ = some (.int .i64 y5) := (hd9 _ _ q_kk).trans c8_kk_3
            have c9_taken_0 : w9.cell? ⟨w1.heap.size, 0, none⟩ = some (.int .i64 xn) := (hd9 _ _ q_taken).trans c8_taken_0
            have c9_taken_1 : w9.cell? ⟨w1.heap.size, 1, none⟩ = some (.int .i64 xd) := (hd9 _ _ q_taken).trans c8_taken_1
            have c9_right_0 : w9.cell? ⟨w2.heap.size, 0, none⟩ = some (.int .i64 xn) := (hd9 _ _ q_right).trans c8_right_0
            have c9_right_1 : w9.cell? ⟨w2.heap.size, 1, none⟩ = some (.int .i64 xd) := (hd9 _ _ q_right).trans c8_right_1
            have c9_seen_0 : w9.cell? ⟨w3.heap.size, 0, none⟩ = some (.int .i64 sa) := (hd9 _ _ q_seen).trans c8_seen_0
            have c9_seen_1 : w9.cell? ⟨w3.heap.size, 1, none⟩ = some (.int .i64 sb) := (hd9 _ _ q_seen).trans c8_seen_1
            have c9_seen_2 : w9.cell? ⟨w3.heap.size, 2, none⟩ = some (.int .i64 sc) := (hd9 _ _ q_seen).trans c8_seen_2
            have c9_seen_3 : w9.cell? ⟨w3.heap.size, 3, none⟩ = some (.int .i64 se) := (hd9 _ _ q_seen).trans c8_seen_3
            have c9_want_0 : w9.cell? ⟨w4.heap.size, 0, none⟩ = some (.int .i64 sa) := (hd9 _ _ q_want).trans c8_want_0
            have c9_want_1 : w9.cell? ⟨w4.heap.size, 1, none⟩ = some (.int .i64 sb) := (hd9 _ _ q_want).trans c8_want_1
            have c9_want_2 : w9.cell? ⟨w4.heap.size, 2, none⟩ = some (.int .i64 sc) := (hd9 _ _ q_want).trans c8_want_2
            have c9_want_3 : w9.cell? ⟨w4.heap.size, 3, none⟩ = some (.int .i64 se) := (hd9 _ _ q_want).trans c8_want_3
            replace q_t : w.heap.size < w9.heap.size := by omega
            replace q_s : w.heap.size + 1 < w9.heap.size := by omega
            replace q_kk : w.heap.size + 1 + 1 < w9.heap.size := by omega
            replace q_taken : w1.heap.size < w9.heap.size := by omega
            replace q_right : w2.heap.size < w9.heap.size := by omega
            replace q_seen : w3.heap.size < w9.heap.size := by omega
            replace q_want : w4.heap.size < w9.heap.size := by omega
            have BW9 : Below w.heap.size w w9 := BW8.trans (hb9.mono BW8.size)
            have BX9 : Below w7.heap.size w7 w9 := BX8.trans (hb9.mono BX8.size)
            clear BX8
            clear hb9 hd9 c8_t_0 c8_t_1 c8_s_0 c8_s_1 c8_s_2 c8_s_3 c8_kk_0 c8_kk_1 c8_kk_2 c8_kk_3 c8_taken_0 c8_taken_1 c8_right_0 c8_right_1 c8_seen_0 c8_seen_1 c8_seen_2 c8_seen_3 c8_want_0 c8_want_1 c8_want_2 c8_want_3 BW8
            have hhp := HHP.out
            have hw1 : IntKind.i64.wrap (a0 * a0) = hp := by rw [hhp, IntKind.wrap_i64]; omega
            have hw2 : IntKind.i64.wrap (hp - 1) = hp - 1 := by rw [IntKind.wrap_i64]; omega
            have hw3 : IntKind.i64.wrap ((hp - 1).tmod d1) = 0 := by rw [hr]; rfl
            have hd0 : ¬ d1 = 0 := by omega
            clear hhp
            have hrelB := BX9
            go_wp2_with fail
            go_meet
            case rel => exact hrelB
      case rest =>
        have hb8 := hcut
        obtain ⟨w8, hw8⟩ : ∃ x : World, x = wc := ⟨_, rfl⟩
        subst hw8
        obtain ⟨hc8, hf8⟩ := bcell hb8
        have hz8 := hb8.size
        (try simp only [World.size_alloc, World.size_setCell, World.size_drew] at hz8)
        have B8 : Below w7.heap.size w7 w8 := Below.trans (b := _) (by (repeat' (first | (with_reducible exact Below.refl _ _) | (with_reducible assumption) | (with_reducible refine Below.alloc ?_ ?_ _) | (with_reducible refine Below.drew ?_) | (with_reducible refine below_drewN ?_ _) | (with_reducible refine Below.setCell ?_ ?_ _) | (with_reducible refine below_call ?_ ?_ (by assumption)) | go_size))) (hb8.mono (by first | omega | (simp only [World.size_alloc, World.size_setCell, World.size_drew]; omega)))
        obtain ⟨hd8, -⟩ := bcell B8
        have c8_t_0 : w8.cell? ⟨w.heap.size, 0, none⟩ = some (.int .i64 n1) := (hd8 _ _ q_t).trans c7_t_0
        have c8_t_1 : w8.cell? ⟨w.heap.size, 1, none⟩ = some (.int .i64 d1) := (hd8 _ _ q_t).trans c7_t_1
        have c8_s_0 : w8.cell? ⟨w.heap.size + 1, 0, none⟩ = some (.int .i64 n4) := (hd8 _ _ q_s).trans c7_s_0
        have c8_s_1 : w8.cell? ⟨w.heap.size + 1, 1, none⟩ = some (.int .i64 d4) := (hd8 _ _ q_s).trans c7_s_1
        have c8_s_2 : w8.cell? ⟨w.heap.size + 1, 2, none⟩ = some (.int .i64 x4) := (hd8 _ _ q_s).trans c7_s_2
        have c8_s_3 : w8.cell? ⟨w.heap.size + 1, 3, none⟩ = some (.int .i64 y4) := (hd8 _ _ q_s).trans c7_s_3
        have c8_kk_0 : w8.cell? ⟨w.heap.size + 1 + 1, 0, none⟩ = some (.int .i64 n5) := (hd8 _ _ q_kk).trans c7_kk_0
        have c8_kk_1 : w8.cell? ⟨w.heap.size + 1 + 1, 1, none⟩ = some (.int .i64 d5) := (hd8 _ _ q_kk).trans c7_kk_1
        have c8_kk_2 : w8.cell? ⟨w.heap.size + 1 + 1, 2, none⟩ = some (.int .i64 x5) := (hd8 _ _ q_kk).trans c7_kk_2
        have c8_kk_3 : w8.cell? ⟨w.heap.size + 1 + 1, 3, none⟩ = some (.int .i64 y5) := (hd8 _ _ q_kk).trans c7_kk_3
        have c8_taken_0 : w8.cell? ⟨w1.heap.size, 0, none⟩ = some (.int .i64 xn) := (hd8 _ _ q_taken).trans c7_taken_0
        have c8_taken_1 : w8.cell? ⟨w1.heap.size, 1, none⟩ = some (.int .i64 xd) := (hd8 _ _ q_taken).trans c7_taken_1
        have c8_right_0 : w8.cell? ⟨w2.heap.size, 0, none⟩ = some (.int .i64 xn) := (hd8 _ _ q_right).trans c7_right_0
        have c8_right_1 : w8.cell? ⟨w2.heap.size, 1, none⟩ = some (.int .i64 xd) := (hd8 _ _ q_right).trans c7_right_1
        have c8_seen_0 : w8.cell? ⟨w3.heap.size, 0, none⟩ = some (.int .i64 sa) := (hd8 _ _ q_seen).trans c7_seen_0
        have c8_seen_1 : w8.cell? ⟨w3.heap.size, 1, none⟩ = some (.int .i64 sb) := (hd8 _ _ q_seen).trans c7_seen_1
        have c8_seen_2 : w8.cell? ⟨w3.heap.size, 2, none⟩ = some (.int .i64 sc) := (hd8 _ _ q_seen).trans c7_seen_2
        have c8_seen_3 : w8.cell? ⟨w3.heap.size, 3, none⟩ = some (.int .i64 se) := (hd8 _ _ q_seen).trans c7_seen_3
        have c8_want_0 : w8.cell? ⟨w4.heap.size, 0, none⟩ = some (.int .i64 sa) := (hd8 _ _ q_want).trans c7_want_0
        have c8_want_1 : w8.cell? ⟨w4.heap.size, 1, none⟩ = some (.int .i64 sb) := (hd8 _ _ q_want).trans c7_want_1
        have c8_want_2 : w8.cell? ⟨w4.heap.size, 2, none⟩ = some (.int .i64 sc) := (hd8 _ _ q_want).trans c7_want_2
        have c8_want_3 : w8.cell? ⟨w4.heap.size, 3, none⟩ = some (.int .i64 se) := (hd8 _ _ q_want).trans c7_want_3
        replace q_t : w.heap.size < w8.heap.size := by omega
        replace q_s : w.heap.size + 1 < w8.heap.size := by omega
        replace q_kk : w.heap.size + 1 + 1 < w8.heap.size := by omega
        replace q_taken : w1.heap.size < w8.heap.size := by omega
        replace q_right : w2.heap.size < w8.heap.size := by omega
        replace q_seen : w3.heap.size < w8.heap.size := by omega
        replace q_want : w4.heap.size < w8.heap.size := by omega
        have BW8 : Below w.heap.size w w8 := BW7.trans (B8.mono BW7.size)
        clear hc8 hf8 hb8 hd8 B8 c7_t_0 c7_t_1 c7_s_0 c7_s_1 c7_s_2 c7_s_3 c7_kk_0 c7_kk_1 c7_kk_2 c7_kk_3 c7_taken_0 c7_taken_1 c7_right_0 c7_right_1 c7_seen_0 c7_seen_1 c7_seen_2 c7_seen_3 c7_want_0 c7_want_1 c7_want_2 c7_want_3 BW7
        go_wp2_with fail
        refine (C5.out _).mono ?_
        rintro e9 w9 ⟨v_all, rfl, hr9, hb9⟩
        obtain ⟨pa_all, pc_all, rfl, -⟩ := TRow.cells hr9
        have R9_all := Lib.hid hr9
        clear hr9
        obtain ⟨hc9, hf9⟩ := bcell hb9
        have hz9 := hb9.size
        (try simp only [World.size_alloc, World.size_setCell, World.size_drew] at hz9)
        have B9 : Below w8.heap.size w8 w9 := Below.trans (b := _) (by (repeat' (first | (with_reducible exact Below.refl _ _) | (with_reducible assumption) | (with_reducible refine Below.alloc ?_ ?_ _) | (with_reducible refine Below.drew ?_) | (with_reducible refine below_drewN ?_ _) | (with_reducible refine Below.setCell ?_ ?_ _) | (with_reducible refine below_call ?_ ?_ (by assumption)) | go_size))) (hb9.mono (by first | omega | (simp only [World.size_alloc, World.size_setCell, World.size_drew]; omega)))
        obtain ⟨hd9, -⟩ := bcell B9
        have c9_t_0 : w9.cell? ⟨w.heap.size, 0, none⟩ = some (.int .i64 n1) := (hd9 _ _ q_t).trans c8_t_0
        have c9_t_1 : w9.cell? ⟨w.heap.size, 1, none⟩ = some (.int .i64 d1) := (hd9 _ _ q_t).trans c8_t_1
        have c9_s_0 : w9.cell? ⟨w.heap.size + 1, 0, none⟩ = some (.int .i64 n4) := (hd9 _ _ q_s).trans c8_s_0
        have c9_s_1 : w9.cell? ⟨w.heap.size + 1, 1, none⟩ = some (.int .i64 d4) := (hd9 _ _ q_s).trans c8_s_1
        have c9_s_2 : w9.cell? ⟨w.heap.size + 1, 2, none⟩ = some (.int .i64 x4) := (hd9 _ _ q_s).trans c8_s_2
        have c9_s_3 : w9.cell? ⟨w.heap.size + 1, 3, none⟩ = some (.int .i64 y4) := (hd9 _ _ q_s).trans c8_s_3
        have c9_kk_0 : w9.cell? ⟨w.heap.size + 1 + 1, 0, none⟩ = some (.int .i64 n5) := (hd9 _ _ q_kk).trans c8_kk_0
        have c9_kk_1 : w9.cell? ⟨w.heap.size + 1 + 1, 1, none⟩ = some (.int .i64 d5) := (hd9 _ _ q_kk).trans c8_kk_1
        have c9_kk_2 : w9.cell? ⟨w.heap.size + 1 + 1, 2, none⟩ = some (.int .i64 x5) := (hd9 _ _ q_kk).trans c8_kk_2
        have c9_kk_3 : w9.cell? ⟨w.heap.size + 1 + 1, 3, none⟩ = some (.int .i64 y5) := (hd9 _ _ q_kk).trans c8_kk_3
        have c9_taken_0 : w9.cell? ⟨w1.heap.size, 0, none⟩ = some (.int .i64 xn) := (hd9 _ _ q_taken).trans c8_taken_0
        have c9_taken_1 : w9.cell? ⟨w1.heap.size, 1, none⟩ = some (.int .i64 xd) := (hd9 _ _ q_taken).trans c8_taken_1
        have c9_right_0 : w9.cell? ⟨w2.heap.size, 0, none⟩ = some (.int .i64 xn) := (hd9 _ _ q_right).trans c8_right_0
        have c9_right_1 : w9.cell? ⟨w2.heap.size, 1, none⟩ = some (.int .i64 xd) := (hd9 _ _ q_right).trans c8_right_1
        have c9_seen_0 : w9.cell? ⟨w3.heap.size, 0, none⟩ = some (.int .i64 sa) := (hd9 _ _ q_seen).trans c8_seen_0
        have c9_seen_1 : w9.cell? ⟨w3.heap.size, 1, none⟩ = some (.int .i64 sb) := (hd9 _ _ q_seen).trans c8_seen_1
        have c9_seen_2 : w9.cell? ⟨w3.heap.size, 2, none⟩ = some (.int .i64 sc) := (hd9 _ _ q_seen).trans c8_seen_2
        have c9_seen_3 : w9.cell? ⟨w3.heap.size, 3, none⟩ = some (.int .i64 se) := (hd9 _ _ q_seen).trans c8_seen_3
        have c9_want_0 : w9.cell? ⟨w4.heap.size, 0, none⟩ = some (.int .i64 sa) := (hd9 _ _ q_want).trans c8_want_0
        have c9_want_1 : w9.cell? ⟨w4.heap.size, 1, none⟩ = some (.int .i64 sb) := (hd9 _ _ q_want).trans c8_want_1
        have c9_want_2 : w9.cell? ⟨w4.heap.size, 2, none⟩ = some (.int .i64 sc) := (hd9 _ _ q_want).trans c8_want_2
        have c9_want_3 : w9.cell? ⟨w4.heap.size, 3, none⟩ = some (.int .i64 se) := (hd9 _ _ q_want).trans c8_want_3
        replace q_t : w.heap.size < w9.heap.size := by omega
        replace q_s : w.heap.size + 1 < w9.heap.size := by omega
        replace q_kk : w.heap.size + 1 + 1 < w9.heap.size := by omega
        replace q_taken : w1.heap.size < w9.heap.size := by omega
        replace q_right : w2.heap.size < w9.heap.size := by omega
        replace q_seen : w3.heap.size < w9.heap.size := by omega
        replace q_want : w4.heap.size < w9.heap.size := by omega
        have BW9 : Below w.heap.size w w9 := BW8.trans (B9.mono BW8.size)
        clear hc9 hf9 hb9 hd9 B9 c8_t_0 c8_t_1 c8_s_0 c8_s_1 c8_s_2 c8_s_3 c8_kk_0 c8_kk_1 c8_kk_2 c8_kk_3 c8_taken_0 c8_taken_1 c8_right_0 c8_right_1 c8_seen_0 c8_seen_1 c8_seen_2 c8_seen_3 c8_want_0 c8_want_1 c8_want_2 c8_want_3 BW8
        go_wp2_with fail
        refine (C6.out _).mono ?_
        rintro e10 w10 ⟨v_model, rfl, hr10, hb10⟩
        obtain ⟨pa_model, pc_model, rfl, -⟩ := TRow.cells hr10
        have R10_model := Lib.hid hr10
        clear hr10
        obtain ⟨hc10, hf10⟩ := bcell hb10
        have hz10 := hb10.size
        (try simp only [World.size_alloc, World.size_setCell, World.size_drew] at hz10)
        have B10 : Below w9.heap.size w9 w10 := Below.trans (b := _) (by (repeat' (first | (with_reducible exact Below.refl _ _) | (with_reducible assumption) | (with_reducible refine Below.alloc ?_ ?_ _) | (with_reducible refine Below.drew ?_) | (with_reducible refine below_drewN ?_ _) | (with_reducible refine Below.setCell ?_ ?_ _) | (with_reducible refine below_call ?_ ?_ (by assumption)) | go_size))) (hb10.mono (by first | omega | (simp only [World.size_alloc, World.size_setCell, World.size_drew]; omega)))
        obtain ⟨hd10, -⟩ := bcell B10
        have c10_t_0 : w10.cell? ⟨w.heap.size, 0, none⟩ = some (.int .i64 n1) := (hd10 _ _ q_t).trans c9_t_0
        have c10_t_1 : w10.cell? ⟨w.heap.size, 1, none⟩ = some (.int .i64 d1) := (hd10 _ _ q_t).trans c9_t_1
        have c10_s_0 : w10.cell? ⟨w.heap.size + 1, 0, none⟩ = some (.int .i64 n4) := (hd10 _ _ q_s).trans c9_s_0
        have c10_s_1 : w10.cell? ⟨w.heap.size + 1, 1, none⟩ = some (.int .i64 d4) := (hd10 _ _ q_s).trans c9_s_1
        have c10_s_2 : w10.cell? ⟨w.heap.size + 1, 2, none⟩ = some (.int .i64 x4) := (hd10 _ _ q_s).trans c9_s_2
        have c10_s_3 : w10.cell? ⟨w.heap.size + 1, 3, none⟩ = some (.int .i64 y4) := (hd10 _ _ q_s).trans c9_s_3
        have c10_kk_0 : w10.cell? ⟨w.heap.size + 1 + 1, 0, none⟩ = some (.int .i64 n5) := (hd10 _ _ q_kk).trans c9_kk_0
        have c10_kk_1 : w10.cell? ⟨w.heap.size + 1 + 1, 1, none⟩ = some (.int .i64 d5) := (hd10 _ _ q_kk).trans c9_kk_1
        have c10_kk_2 : w10.cell? ⟨w.heap.size + 1 + 1, 2, none⟩ = some (.int .i64 x5) := (hd10 _ _ q_kk).trans c9_kk_2
        have c10_kk_3 : w10.cell? ⟨w.heap.size + 1 + 1, 3, none⟩ = some (.int .i64 y5) := (hd10 _ _ q_kk).trans c9_kk_3
        have c10_taken_0 : w10.cell? ⟨w1.heap.size, 0, none⟩ = some (.int .i64 xn) := (hd10 _ _ q_taken).trans c9_taken_0
        have c10_taken_1 : w10.cell? ⟨w1.heap.size, 1, none⟩ = some (.int .i64 xd) := (hd10 _ _ q_taken).trans c9_taken_1
        have c10_right_0 : w10.cell? ⟨w2.heap.size, 0, none⟩ = some (.int .i64 xn) := (hd10 _ _ q_right).trans c9_right_0
        have c10_right_1 : w10.cell? ⟨w2.heap.size, 1, none⟩ = some (.int .i64 xd) := (hd10 _ _ q_right).trans c9_right_1
        have c10_seen_0 : w10.cell? ⟨w3.heap.size, 0, none⟩ = some (.int .i64 sa) := (hd10 _ _ q_seen).trans c9_seen_0
        have c10_seen_1 : w10.cell? ⟨w3.heap.size, 1, none⟩ = some (.int .i64 sb) := (hd10 _ _ q_seen).trans c9_seen_1
        have c10_seen_2 : w10.cell? ⟨w3.heap.size, 2, none⟩ = some (.int .i64 sc) := (hd10 _ _ q_seen).trans c9_seen_2
        have c10_seen_3 : w10.cell? ⟨w3.heap.size, 3, none⟩ = some (.int .i64 se) := (hd10 _ _ q_seen).trans c9_seen_3
        have c10_want_0 : w10.cell? ⟨w4.heap.size, 0, none⟩ = some (.int .i64 sa) := (hd10 _ _ q_want).trans c9_want_0
        have c10_want_1 : w10.cell? ⟨w4.heap.size, 1, none⟩ = some (.int .i64 sb) := (hd10 _ _ q_want).trans c9_want_1
        have c10_want_2 : w10.cell? ⟨w4.heap.size, 2, none⟩ = some (.int .i64 sc) := (hd10 _ _ q_want).trans c9_want_2
        have c10_want_3 : w10.cell? ⟨w4.heap.size, 3, none⟩ = some (.int .i64 se) := (hd10 _ _ q_want).trans c9_want_3
        replace q_t : w.heap.size < w10.heap.size := by omega
        replace q_s : w.heap.size + 1 < w10.heap.size := by omega
        replace q_kk : w.heap.size + 1 + 1 < w10.heap.size := by omega
        replace q_taken : w1.heap.size < w10.heap.size := by omega
        replace q_right : w2.heap.size < w10.heap.size := by omega
        replace q_seen : w3.heap.size < w10.heap.size := by omega
        replace q_want : w4.heap.size < w10.heap.size := by omega
        have R10_all := Lib.hid (TRow.below R9_all.out B10)
        clear R9_all
        have BW10 : Below w.heap.size w w10 := BW9.trans (B10.mono BW9.size)
        clear hc10 hf10 hb10 hd10 B10 c9_t_0 c9_t_1 c9_s_0 c9_s_1 c9_s_2 c9_s_3 c9_kk_0 c9_kk_1 c9_kk_2 c9_kk_3 c9_taken_0 c9_taken_1 c9_right_0 c9_right_1 c9_seen_0 c9_seen_1 c9_seen_2 c9_seen_3 c9_want_0 c9_want_1 c9_want_2 c9_want_3 BW9
        go_wp2_with fail
        refine (C7.out _).mono ?_
        rintro e11 w11 ⟨rfl, hb11⟩
        obtain ⟨hc11, hf11⟩ := bcell hb11
        have hz11 := hb11.size
        (try simp only [World.size_alloc, World.size_setCell, World.size_drew] at hz11)
        have B11 : Below w10.heap.size w10 w11 := Below.trans (b := _) (by (repeat' (first | (with_reducible exact Below.refl _ _) | (with_reducible assumption) | (with_reducible refine Below.alloc ?_ ?_ _) | (with_reducible refine Below.drew ?_) | (with_reducible refine below_drewN ?_ _) | (with_reducible refine Below.setCell ?_ ?_ _) | (with_reducible refine below_call ?_ ?_ (by assumption)) | go_size))) (hb11.mono (by first | omega | (simp only [World.size_alloc, World.size_setCell, World.size_drew]; omega)))
        obtain ⟨hd11, -⟩ := bcell B11
        have c11_t_0 : w11.cell? ⟨w.heap.size, 0, none⟩ = some (.int .i64 n1) := (hd11 _ _ q_t).trans c10_t_0
        have c11_t_1 : w11.cell? ⟨w.heap.size, 1, none⟩ = some (.int .i64 d1) := (hd11 _ _ q_t).trans c10_t_1
        have c11_s_0 : w11.cell? ⟨w.heap.size + 1, 0, none⟩ = some (.int .i64 n4) := (hd11 _ _ q_s).trans c10_s_0
        have c11_s_1 : w11.cell? ⟨w.heap.size + 1, 1, none⟩ = some (.int .i64 d4) := (hd11 _ _ q_s).trans c10_s_1
        have c11_s_2 : w11.cell? ⟨w.heap.size + 1, 2, none⟩ = some (.int .i64 x4) := (hd11 _ _ q_s).trans c10_s_2
        have c11_s_3 : w11.cell? ⟨w.heap.size + 1, 3, none⟩ = some (.int .i64 y4) := (hd11 _ _ q_s).trans c10_s_3
        have c11_kk_0 : w11.cell? ⟨w.heap.size + 1 + 1, 0, none⟩ = some (.int .i64 n5) := (hd11 _ _ q_kk).trans c10_kk_0
        have c11_kk_1 : w11.cell? ⟨w.heap.size + 1 + 1, 1, none⟩ = some (.int .i64 d5) := (hd11 _ _ q_kk).trans c10_kk_1
        have c11_kk_2 : w11.cell? ⟨w.heap.size + 1 + 1, 2, none⟩ = some (.int .i64 x5) := (hd11 _ _ q_kk).trans c10_kk_2
        have c11_kk_3 : w11.cell? ⟨w.heap.size + 1 + 1, 3, none⟩ = some (.int .i64 y5) := (hd11 _ _ q_kk).trans c10_kk_3
        have c11_taken_0 : w11.cell? ⟨w1.heap.size, 0, none⟩ = some (.int .i64 xn) := (hd11 _ _ q_taken).trans c10_taken_0
        have c11_taken_1 : w11.cell? ⟨w1.heap.size, 1, none⟩ = some (.int .i64 xd) := (hd11 _ _ q_taken).trans c10_taken_1
        have c11_right_0 : w11.cell? ⟨w2.heap.size, 0, none⟩ = some (.int .i64 xn) := (hd11 _ _ q_right).trans c10_right_0
        have c11_right_1 : w11.cell? ⟨w2.heap.size, 1, none⟩ = some (.int .i64 xd) := (hd11 _ _ q_right).trans c10_right_1
        have c11_seen_0 : w11.cell? ⟨w3.heap.size, 0, none⟩ = some (.int .i64 sa) := (hd11 _ _ q_seen).trans c10_seen_0
        have c11_seen_1 : w11.cell? ⟨w3.heap.size, 1, none⟩ = some (.int .i64 sb) := (hd11 _ _ q_seen).trans c10_seen_1
        have c11_seen_2 : w11.cell? ⟨w3.heap.size, 2, none⟩ = some (.int .i64 sc) := (hd11 _ _ q_seen).trans c10_seen_2
        have c11_seen_3 : w11.cell? ⟨w3.heap.size, 3, none⟩ = some (.int .i64 se) := (hd11 _ _ q_seen).trans c10_seen_3
        have c11_want_0 : w11.cell? ⟨w4.heap.size, 0, none⟩ = some (.int .i64 sa) := (hd11 _ _ q_want).trans c10_want_0
        have c11_want_1 : w11.cell? ⟨w4.heap.size, 1, none⟩ = some (.int .i64 sb) := (hd11 _ _ q_want).trans c10_want_1
        have c11_want_2 : w11.cell? ⟨w4.heap.size, 2, none⟩ = some (.int .i64 sc) := (hd11 _ _ q_want).trans c10_want_2
        have c11_want_3 : w11.cell? ⟨w4.heap.size, 3, none⟩ = some (.int .i64 se) := (hd11 _ _ q_want).trans c10_want_3
        replace q_t : w.heap.size < w11.heap.size := by omega
        replace q_s : w.heap.size + 1 < w11.heap.size := by omega
        replace q_kk : w.heap.size + 1 + 1 < w11.heap.size := by omega
        replace q_taken : w1.heap.size < w11.heap.size := by omega
        replace q_right : w2.heap.size < w11.heap.size := by omega
        replace q_seen : w3.heap.size < w11.heap.size := by omega
        replace q_want : w4.heap.size < w11.heap.size := by omega
        have R11_all := Lib.hid (TRow.below R10_all.out B11)
        clear R10_all
        have R11_model := Lib.hid (TRow.below R10_model.out B11)
        clear R10_model
        have BW11 : Below w.heap.size w w11 := BW10.trans (B11.mono BW10.size)
        clear hc11 hf11 hb11 hd11 B11 c10_t_0 c10_t_1 c10_s_0 c10_s_1 c10_s_2 c10_s_3 c10_kk_0 c10_kk_1 c10_kk_2 c10_kk_3 c10_taken_0 c10_taken_1 c10_right_0 c10_right_1 c10_seen_0 c10_seen_1 c10_seen_2 c10_seen_3 c10_want_0 c10_want_1 c10_want_2 c10_want_3 BW10
        go_wp2_with fail
        refine (C8.out _).mono ?_
        rintro e12 w12 ⟨rfl, hb12⟩
        obtain ⟨hc12, hf12⟩ := bcell hb12
        have hz12 := hb12.size
        (try simp only [World.size_alloc, World.size_setCell, World.size_drew] at hz12)
        have B12 : Below w11.heap.size w11 w12 := Below.trans (b := _) (by (repeat' (first | (with_reducible exact Below.refl _ _) | (with_reducible assumption) | (with_reducible refine Below.alloc ?_ ?_ _) | (with_reducible refine Below.drew ?_) | (with_reducible refine below_drewN ?_ _) | (with_reducible refine Below.setCell ?_ ?_ _) | (with_reducible refine below_call ?_ ?_ (by assumption)) | go_size))) (hb12.mono (by first | omega | (simp only [World.size_alloc, World.size_setCell, World.size_drew]; omega)))
        obtain ⟨hd12, -⟩ := bcell B12
        have c12_t_0 : w12.cell? ⟨w.heap.size, 0, none⟩ = some (.int .i64 n1) := (hd12 _ _ q_t).trans c11_t_0
        have c12_t_1 : w12.cell? ⟨w.heap.size, 1, none⟩ = some (.int .i64 d1) := (hd12 _ _ q_t).trans c11_t_1
        have c12_s_0 : w12.cell? ⟨w.heap.size + 1, 0, none⟩ = some (.int .i64 n4) := (hd12 _ _ q_s).trans c11_s_0
        have c12_s_1 : w12.cell? ⟨w.heap.size + 1, 1, none⟩ = some (.int .i64 d4) := (hd12 _ _ q_s).trans c11_s_1
        have c12_s_2 : w12.cell? ⟨w.heap.size + 1, 2, none⟩ = some (.int .i64 x4) := (hd12 _ _ q_s).trans c11_s_2
        have c12_s_3 : w12.cell? ⟨w.heap.size + 1, 3, none⟩ = some (.int .i64 y4) := (hd12 _ _ q_s).trans c11_s_3
        have c12_kk_0 : w12.cell? ⟨w.heap.size + 1 + 1, 0, none⟩ = some (.int .i64 n5) := (hd12 _ _ q_kk).trans c11_kk_0
        have c12_kk_1 : w12.cell? ⟨w.heap.size + 1 + 1, 1, none⟩ = some (.int .i64 d5) := (hd12 _ _ q_kk).trans c11_kk_1
        have c12_kk_2 : w12.cell? ⟨w.heap.size + 1 + 1, 2, none⟩ = some (.int .i64 x5) := (hd12 _ _ q_kk).trans c11_kk_2
        have c12_kk_3 : w12.cell? ⟨w.heap.size + 1 + 1, 3, none⟩ = some (.int .i64 y5) := (hd12 _ _ q_kk).trans c11_kk_3
        have c12_taken_0 : w12.cell? ⟨w1.heap.size, 0, none⟩ = some (.int .i64 xn) := (hd12 _ _ q_taken).trans c11_taken_0
        have c12_taken_1 : w12.cell? ⟨w1.heap.size, 1, none⟩ = some (.int .i64 xd) := (hd12 _ _ q_taken).trans c11_taken_1
        have c12_right_0 : w12.cell? ⟨w2.heap.size, 0, none⟩ = some (.int .i64 xn) := (hd12 _ _ q_right).trans c11_right_0
        have c12_right_1 : w12.cell? ⟨w2.heap.size, 1, none⟩ = some (.int .i64 xd) := (hd12 _ _ q_right).trans c11_right_1
        have c12_seen_0 : w12.cell? ⟨w3.heap.size, 0, none⟩ = some (.int .i64 sa) := (hd12 _ _ q_seen).trans c11_seen_0
        have c12_seen_1 : w12.cell? ⟨w3.heap.size, 1, none⟩ = some (.int .i64 sb) := (hd12 _ _ q_seen).trans c11_seen_1
        have c12_seen_2 : w12.cell? ⟨w3.heap.size, 2, none⟩ = some (.int .i64 sc) := (hd12 _ _ q_seen).trans c11_seen_2
        have c12_seen_3 : w12.cell? ⟨w3.heap.size, 3, none⟩ = some (.int .i64 se) := (hd12 _ _ q_seen).trans c11_seen_3
        have c12_want_0 : w12.cell? ⟨w4.heap.size, 0, none⟩ = some (.int .i64 sa) := (hd12 _ _ q_want).trans c11_want_0
        have c12_want_1 : w12.cell? ⟨w4.heap.size, 1, none⟩ = some (.int .i64 sb) := (hd12 _ _ q_want).trans c11_want_1
        have c12_want_2 : w12.cell? ⟨w4.heap.size, 2, none⟩ = some (.int .i64 sc) := (hd12 _ _ q_want).trans c11_want_2
        have c12_want_3 : w12.cell? ⟨w4.heap.size, 3, none⟩ = some (.int .i64 se) := (hd12 _ _ q_want).trans c11_want_3
        replace q_t : w.heap.size < w12.heap.size := by omega
        replace q_s : w.heap.size + 1 < w12.heap.size := by omega
        replace q_kk : w.heap.size + 1 + 1 < w12.heap.size := by omega
        replace q_taken : w1.heap.size < w12.heap.size := by omega
        replace q_right : w2.heap.size < w12.heap.size := by omega
        replace q_seen : w3.heap.size < w12.heap.size := by omega
        replace q_want : w4.heap.size < w12.heap.size := by omega
        have R12_all := Lib.hid (TRow.below R11_all.out B12)
        clear R11_all
        have R12_model := Lib.hid (TRow.below R11_model.out B12)
        clear R11_model
        have BW12 : Below w.heap.size w w12 := BW11.trans (B12.mono BW11.size)
        clear hc12 hf12 hb12 hd12 B12 c11_t_0 c11_t_1 c11_s_0 c11_s_1 c11_s_2 c11_s_3 c11_kk_0 c11_kk_1 c11_kk_2 c11_kk_3 c11_taken_0 c11_taken_1 c11_right_0 c11_right_1 c11_seen_0 c11_seen_1 c11_seen_2 c11_seen_3 c11_want_0 c11_want_1 c11_want_2 c11_want_3 BW11
        go_wp2_with fail
        refine (C9.out _).mono ?_
        rintro e13 w13 ⟨v_mir, rfl, hr13, hb13⟩
        obtain ⟨pa_mir, pc_mir, rfl, -⟩ := TRow.cells hr13
        have R13_mir := Lib.hid hr13
        clear hr13
        obtain ⟨hc13, hf13⟩ := bcell hb13
        have hz13 := hb13.size
        (try simp only [World.size_alloc, World.size_setCell, World.size_drew] at hz13)
        have B13 : Below w12.heap.size w12 w13 := Below.trans (b := _) (by (repeat' (first | (with_reducible exact Below.refl _ _) | (with_reducible assumption) | (with_reducible refine Below.alloc ?_ ?_ _) | (with_reducible refine Below.drew ?_) | (with_reducible refine below_drewN ?_ _) | (with_reducible refine Below.setCell ?_ ?_ _) | (with_reducible refine below_call ?_ ?_ (by assumption)) | go_size))) (hb13.mono (by first | omega | (simp only [World.size_alloc, World.size_setCell, World.size_drew]; omega)))
        obtain ⟨hd13, -⟩ := bcell B13
        have c13_t_0 : w13.cell? ⟨w.heap.size, 0, none⟩ = some (.int .i64 n1) := (hd13 _ _ q_t).trans c12_t_0
        have c13_t_1 : w13.cell? ⟨w.heap.size, 1, none⟩ = some (.int .i64 d1) := (hd13 _ _ q_t).trans c12_t_1
        have c13_s_0 : w13.cell? ⟨w.heap.size + 1, 0, none⟩ = some (.int .i64 n4) := (hd13 _ _ q_s).trans c12_s_0
        have c13_s_1 : w13.cell? ⟨w.heap.size + 1, 1, none⟩ = some (.int .i64 d4) := (hd13 _ _ q_s).trans c12_s_1
        have c13_s_2 : w13.cell? ⟨w.heap.size + 1, 2, none⟩ = some (.int .i64 x4) := (hd13 _ _ q_s).trans c12_s_2
        have c13_s_3 : w13.cell? ⟨w.heap.size + 1, 3, none⟩ = some (.int .i64 y4) := (hd13 _ _ q_s).trans c12_s_3
        have c13_kk_0 : w13.cell? ⟨w.heap.size + 1 + 1, 0, none⟩ = some (.int .i64 n5) := (hd13 _ _ q_kk).trans c12_kk_0
        have c13_kk_1 : w13.cell? ⟨w.heap.size + 1 + 1, 1, none⟩ = some (.int .i64 d5) := (hd13 _ _ q_kk).trans c12_kk_1
        have c13_kk_2 : w13.cell? ⟨w.heap.size + 1 + 1, 2, none⟩ = some (.int .i64 x5) := (hd13 _ _ q_kk).trans c12_kk_2
        have c13_kk_3 : w13.cell? ⟨w.heap.size + 1 + 1, 3, none⟩ = some (.int .i64 y5) := (hd13 _ _ q_kk).trans c12_kk_3
        have c13_taken_0 : w13.cell? ⟨w1.heap.size, 0, none⟩ = some (.int .i64 xn) := (hd13 _ _ q_taken).trans c12_taken_0
        have c13_taken_1 : w13.cell? ⟨w1.heap.size, 1, none⟩ = some (.int .i64 xd) := (hd13 _ _ q_taken).trans c12_taken_1
        have c13_right_0 : w13.cell? ⟨w2.heap.size, 0, none⟩ = some (.int .i64 xn) := (hd13 _ _ q_right).trans c12_right_0
        have c13_right_1 : w13.cell? ⟨w2.heap.size, 1, none⟩ = some (.int .i64 xd) := (hd13 _ _ q_right).trans c12_right_1
        have c13_seen_0 : w13.cell? ⟨w3.heap.size, 0, none⟩ = some (.int .i64 sa) := (hd13 _ _ q_seen).trans c12_seen_0
        have c13_seen_1 : w13.cell? ⟨w3.heap.size, 1, none⟩ = some (.int .i64 sb) := (hd13 _ _ q_seen).trans c12_seen_1
        have c13_seen_2 : w13.cell? ⟨w3.heap.size, 2, none⟩ = some (.int .i64 sc) := (hd13 _ _ q_seen).trans c12_seen_2
        have c13_seen_3 : w13.cell? ⟨w3.heap.size, 3, none⟩ = some (.int .i64 se) := (hd13 _ _ q_seen).trans c12_seen_3
        have c13_want_0 : w13.cell? ⟨w4.heap.size, 0, none⟩ = some (.int .i64 sa) := (hd13 _ _ q_want).trans c12_want_0
        have c13_want_1 : w13.cell? ⟨w4.heap.size, 1, none⟩ = some (.int .i64 sb) := (hd13 _ _ q_want).trans c12_want_1
        have c13_want_2 : w13.cell? ⟨w4.heap.size, 2, none⟩ = some (.int .i64 sc) := (hd13 _ _ q_want).trans c12_want_2
        have c13_want_3 : w13.cell? ⟨w4.heap.size, 3, none⟩ = some (.int .i64 se) := (hd13 _ _ q_want).trans c12_want_3
        replace q_t : w.heap.size < w13.heap.size := by omega
        replace q_s : w.heap.size + 1 < w13.heap.size := by omega
        replace q_kk : w.heap.size + 1 + 1 < w13.heap.size := by omega
        replace q_taken : w1.heap.size < w13.heap.size := by omega
        replace q_right : w2.heap.size < w13.heap.size := by omega
        replace q_seen : w3.heap.size < w13.heap.size := by omega
        replace q_want : w4.heap.size < w13.heap.size := by omega
        have R13_all := Lib.hid (TRow.below R12_all.out B13)
        clear R12_all
        have R13_model := Lib.hid (TRow.below R12_model.out B13)
        clear R12_model
        have BW13 : Below w.heap.size w w13 := BW12.trans (B13.mono BW12.size)
        clear hc13 hf13 hb13 hd13 B13 c12_t_0 c12_t_1 c12_s_0 c12_s_1 c12_s_2 c12_s_3 c12_kk_0 c12_kk_1 c12_kk_2 c12_kk_3 c12_taken_0 c12_taken_1 c12_right_0 c12_right_1 c12_seen_0 c12_seen_1 c12_seen_2 c12_seen_3 c12_want_0 c12_want_1 c12_want_2 c12_want_3 BW12
        go_wp2_with fail
        refine (C10.out _).mono ?_
        rintro e14 w14 ⟨v_due, rfl, hr14, hb14⟩
        obtain ⟨pa_due, pc_due, rfl, -⟩ := TRow.cells hr14
        have R14_due := Lib.hid hr14
        clear hr14
        obtain ⟨hc14, hf14⟩ := bcell hb14
        have hz14 := hb14.size
        (try simp only [World.size_alloc, World.size_setCell, World.size_drew] at hz14)
        have B14 : Below w13.heap.size w13 w14 := Below.trans (b := _) (by (repeat' (first | (with_reducible exact Below.refl _ _) | (with_reducible assumption) | (with_reducible refine Below.alloc ?_ ?_ _) | (with_reducible refine Below.drew ?_) | (with_reducible refine below_drewN ?_ _) | (with_reducible refine Below.setCell ?_ ?_ _) | (with_reducible refine below_call ?_ ?_ (by assumption)) | go_size))) (hb14.mono (by first | omega | (simp only [World.size_alloc, World.size_setCell, World.size_drew]; omega)))
        obtain ⟨hd14, -⟩ := bcell B14
        have c14_t_0 : w14.cell? ⟨w.heap.size, 0, none⟩ = some (.int .i64 n1) := (hd14 _ _ q_t).trans c13_t_0
        have c14_t_1 : w14.cell? ⟨w.heap.size, 1, none⟩ = some (.int .i64 d1) := (hd14 _ _ q_t).trans c13_t_1
        have c14_s_0 : w14.cell? ⟨w.heap.size + 1, 0, none⟩ = some (.int .i64 n4) := (hd14 _ _ q_s).trans c13_s_0
        have c14_s_1 : w14.cell? ⟨w.heap.size + 1, 1, none⟩ = some (.int .i64 d4) := (hd14 _ _ q_s).trans c13_s_1
        have c14_s_2 : w14.cell? ⟨w.heap.size + 1, 2, none⟩ = some (.int .i64 x4) := (hd14 _ _ q_s).trans c13_s_2
        have c14_s_3 : w14.cell? ⟨w.heap.size + 1, 3, none⟩ = some (.int .i64 y4) := (hd14 _ _ q_s).trans c13_s_3
        have c14_kk_0 : w14.cell? ⟨w.heap.size + 1 + 1, 0, none⟩ = some (.int .i64 n5) := (hd14 _ _ q_kk).trans c13_kk_0
        have c14_kk_1 : w14.cell? ⟨w.heap.size + 1 + 1, 1, none⟩ = some (.int .i64 d5) := (hd14 _ _ q_kk).trans c13_kk_1
        have c14_kk_2 : w14.cell? ⟨w.heap.size + 1 + 1, 2, none⟩ = some (.int .i64 x5) := (hd14 _ _ q_kk).trans c13_kk_2
        have c14_kk_3 : w14.cell? ⟨w.heap.size + 1 + 1, 3, none⟩ = some (.int .i64 y5) := (hd14 _ _ q_kk).trans c13_kk_3
        have c14_taken_0 : w14.cell? ⟨w1.heap.size, 0, none⟩ = some (.int .i64 xn) := (hd14 _ _ q_taken).trans c13_taken_0
        have c14_taken_1 : w14.cell? ⟨w1.heap.size, 1, none⟩ = some (.int .i64 xd) := (hd14 _ _ q_taken).trans c13_taken_1
        have c14_right_0 : w14.cell? ⟨w2.heap.size, 0, none⟩ = some (.int .i64 xn) := (hd14 _ _ q_right).trans c13_right_0
        have c14_right_1 : w14.cell? ⟨w2.heap.size, 1, none⟩ = some (.int .i64 xd) := (hd14 _ _ q_right).trans c13_right_1
        have c14_seen_0 : w14.cell? ⟨w3.heap.size, 0, none⟩ = some (.int .i64 sa) := (hd14 _ _ q_seen).trans c13_seen_0
        have c14_seen_1 : w14.cell? ⟨w3.heap.size, 1, none⟩ = some (.int .i64 sb) := (hd14 _ _ q_seen).trans c13_seen_1
        have c14_seen_2 : w14.cell? ⟨w3.heap.size, 2, none⟩ = some (.int .i64 sc) := (hd14 _ _ q_seen).trans c13_seen_2
        have c14_seen_3 : w14.cell? ⟨w3.heap.size, 3, none⟩ = some (.int .i64 se) := (hd14 _ _ q_seen).trans c13_seen_3
        have c14_want_0 : w14.cell? ⟨w4.heap.size, 0, none⟩ = some (.int .i64 sa) := (hd14 _ _ q_want).trans c13_want_0
        have c14_want_1 : w14.cell? ⟨w4.heap.size, 1, none⟩ = some (.int .i64 sb) := (hd14 _ _ q_want).trans c13_want_1
        have c14_want_2 : w14.cell? ⟨w4.heap.size, 2, none⟩ = some (.int .i64 sc) := (hd14 _ _ q_want).trans c13_want_2
        have c14_want_3 : w14.cell? ⟨w4.heap.size, 3, none⟩ = some (.int .i64 se) := (hd14 _ _ q_want).trans c13_want_3
        replace q_t : w.heap.size < w14.heap.size := by omega
        replace q_s : w.heap.size + 1 < w14.heap.size := by omega
        replace q_kk : w.heap.size + 1 + 1 < w14.heap.size := by omega
        replace q_taken : w1.heap.size < w14.heap.size := by omega
        replace q_right : w2.heap.size < w14.heap.size := by omega
        replace q_seen : w3.heap.size < w14.heap.size := by omega
        replace q_want : w4.heap.size < w14.heap.size := by omega
        have R14_all := Lib.hid (TRow.below R13_all.out B14)
        clear R13_all
        have R14_model := Lib.hid (TRow.below R13_model.out B14)
        clear R13_model
        have R14_mir := Lib.hid (TRow.below R13_mir.out B14)
        clear R13_mir
        have BW14 : Below w.heap.size w w14 := BW13.trans (B14.mono BW13.size)
        clear hc14 hf14 hb14 hd14 B14 c13_t_0 c13_t_1 c13_s_0 c13_s_1 c13_s_2 c13_s_3 c13_kk_0 c13_kk_1 c13_kk_2 c13_kk_3 c13_taken_0 c13_taken_1 c13_right_0 c13_right_1 c13_seen_0 c13_seen_1 c13_seen_2 c13_seen_3 c13_want_0 c13_want_1 c13_want_2 c13_want_3 BW13
        go_wp2_with fail
        refine (wTurns_same LA _ _ _ _ _ R14_all.out R14_model.out HLA.out).mono ?_
        rintro e15 w15 ⟨rfl, hb15⟩
        obtain ⟨hc15, hf15⟩ := bcell hb15
        have hz15 := hb15.size
        (try simp only [World.size_alloc, World.size_setCell, World.size_drew] at hz15)
        have B15 : Below w14.heap.size w14 w15 := Below.trans (b := _) (by (repeat' (first | (with_reducible exact Below.refl _ _) | (with_reducible assumption) | (with_reducible refine Below.alloc ?_ ?_ _) | (with_reducible refine Below.drew ?_) | (with_reducible refine below_drewN ?_ _) | (with_reducible refine Below.setCell ?_ ?_ _) | (with_reducible refine below_call ?_ ?_ (by assumption)) | go_size))) (hb15.mono (by first | omega | (simp only [World.size_alloc, World.size_setCell, World.size_drew]; omega)))
        obtain ⟨hd15, -⟩ := bcell B15
        have c15_t_0 : w15.cell? ⟨w.heap.size, 0, none⟩ = some (.int .i64 n1) := (hd15 _ _ q_t).trans c14_t_0
        have c15_t_1 : w15.cell? ⟨w.heap.size, 1, none⟩ = some (.int .i64 d1) := (hd15 _ _ q_t).trans c14_t_1
        have c15_s_0 : w15.cell? ⟨w.heap.size + 1, 0, none⟩ = some (.int .i64 n4) := (hd15 _ _ q_s).trans c14_s_0
        have c15_s_1 : w15.cell? ⟨w.heap.size + 1, 1, none⟩ = some (.int .i64 d4) := (hd15 _ _ q_s).trans c14_s_1
        have c15_s_2 : w15.cell? ⟨w.heap.size + 1, 2, none⟩ = some (.int .i64 x4) := (hd15 _ _ q_s).trans c14_s_2
        have c15_s_3 : w15.cell? ⟨w.heap.size + 1, 3, none⟩ = some (.int .i64 y4) := (hd15 _ _ q_s).trans c14_s_3
        have c15_kk_0 : w15.cell? ⟨w.heap.size + 1 + 1, 0, none⟩ = some (.int .i64 n5) := (hd15 _ _ q_kk).trans c14_kk_0
        have c15_kk_1 : w15.cell? ⟨w.heap.size + 1 + 1, 1, none⟩ = some (.int .i64 d5) := (hd15 _ _ q_kk).trans c14_kk_1
        have c15_kk_2 : w15.cell? ⟨w.heap.size + 1 + 1, 2, none⟩ = some (.int .i64 x5) := (hd15 _ _ q_kk).trans c14_kk_2
        have c15_kk_3 : w15.cell? ⟨w.heap.size + 1 + 1, 3, none⟩ = some (.int .i64 y5) := (hd15 _ _ q_kk).trans c14_kk_3
        have c15_taken_0 : w15.cell? ⟨w1.heap.size, 0, none⟩ = some (.int .i64 xn) := (hd15 _ _ q_taken).trans c14_taken_0
        have c15_taken_1 : w15.cell? ⟨w1.heap.size, 1, none⟩ = some (.int .i64 xd) := (hd15 _ _ q_taken).trans c14_taken_1
        have c15_right_0 : w15.cell? ⟨w2.heap.size, 0, none⟩ = some (.int .i64 xn) := (hd15 _ _ q_right).trans c14_right_0
        have c15_right_1 : w15.cell? ⟨w2.heap.size, 1, none⟩ = some (.int .i64 xd) := (hd15 _ _ q_right).trans c14_right_1
        have c15_seen_0 : w15.cell? ⟨w3.heap.size, 0, none⟩ = some (.int .i64 sa) := (hd15 _ _ q_seen).trans c14_seen_0
        have c15_seen_1 : w15.cell? ⟨w3.heap.size, 1, none⟩ = some (.int .i64 sb) := (hd15 _ _ q_seen).trans c14_seen_1
        have c15_seen_2 : w15.cell? ⟨w3.heap.size, 2, none⟩ = some (.int .i64 sc) := (hd15 _ _ q_seen).trans c14_seen_2
        have c15_seen_3 : w15.cell? ⟨w3.heap.size, 3, none⟩ = some (.int .i64 se) := (hd15 _ _ q_seen).trans c14_seen_3
        have c15_want_0 : w15.cell? ⟨w4.heap.size, 0, none⟩ = some (.int .i64 sa) := (hd15 _ _ q_want).trans c14_want_0
        have c15_want_1 : w15.cell? ⟨w4.heap.size, 1, none⟩ = some (.int .i64 sb) := (hd15 _ _ q_want).trans c14_want_1
        have c15_want_2 : w15.cell? ⟨w4.heap.size, 2, none⟩ = some (.int .i64 sc) := (hd15 _ _ q_want).trans c14_want_2
        have c15_want_3 : w15.cell? ⟨w4.heap.size, 3, none⟩ = some (.int .i64 se) := (hd15 _ _ q_want).trans c14_want_3
        replace q_t : w.heap.size < w15.heap.size := by omega
        replace q_s : w.heap.size + 1 < w15.heap.size := by omega
        replace q_kk : w.heap.size + 1 + 1 < w15.heap.size := by omega
        replace q_taken : w1.heap.size < w15.heap.size := by omega
        replace q_right : w2.heap.size < w15.heap.size := by omega
        replace q_seen : w3.heap.size < w15.heap.size := by omega
        replace q_want : w4.heap.size < w15.heap.size := by omega
        have R15_all := Lib.hid (TRow.below R14_all.out B15)
        clear R14_all
        have R15_model := Lib.hid (TRow.below R14_model.out B15)
        clear R14_model
        have R15_mir := Lib.hid (TRow.below R14_mir.out B15)
        clear R14_mir
        have R15_due := Lib.hid (TRow.below R14_due.out B15)
        clear R14_due
        have BW15 : Below w.heap.size w w15 := BW14.trans (B15.mono BW14.size)
        clear hc15 hf15 hb15 hd15 B15 c14_t_0 c14_t_1 c14_s_0 c14_s_1 c14_s_2 c14_s_3 c14_kk_0 c14_kk_1 c14_kk_2 c14_kk_3 c14_taken_0 c14_taken_1 c14_right_0 c14_right_1 c14_seen_0 c14_seen_1 c14_seen_2 c14_seen_3 c14_want_0 c14_want_1 c14_want_2 c14_want_3 BW14
        go_wp2_with fail
        refine (wTurns_same LO _ _ _ _ _ R15_mir.out R15_due.out HLO.out).mono ?_
        rintro e16 w16 ⟨rfl, hb16⟩
        obtain ⟨hc16, hf16⟩ := bcell hb16
        have hz16 := hb16.size
        (try simp only [World.size_alloc, World.size_setCell, World.size_drew] at hz16)
        have B16 : Below w15.heap.size w15 w16 := Below.trans (b := _) (by (repeat' (first | (with_reducible exact Below.refl _ _) | (with_reducible assumption) | (with_reducible refine Below.alloc ?_ ?_ _) | (with_reducible refine Below.drew ?_) | (with_reducible refine below_drewN ?_ _) | (with_reducible refine Below.setCell ?_ ?_ _) | (with_reducible refine below_call ?_ ?_ (by assumption)) | go_size))) (hb16.mono (by first | omega | (simp only [World.size_alloc, World.size_setCell, World.size_drew]; omega)))
        obtain ⟨hd16, -⟩ := bcell B16
        have c16_t_0 : w16.cell? ⟨w.heap.size, 0, none⟩ = some (.int .i64 n1) := (hd16 _ _ q_t).trans c15_t_0
        have c16_t_1 : w16.cell? ⟨w.heap.size, 1, none⟩ = some (.int .i64 d1) := (hd16 _ _ q_t).trans c15_t_1
        have c16_s_0 : w16.cell? ⟨w.heap.size + 1, 0, none⟩ = some (.int .i64 n4) := (hd16 _ _ q_s).trans c15_s_0
        have c16_s_1 : w16.cell? ⟨w.heap.size + 1, 1, none⟩ = some (.int .i64 d4) := (hd16 _ _ q_s).trans c15_s_1
        have c16_s_2 : w16.cell? ⟨w.heap.size + 1, 2, none⟩ = some (.int .i64 x4) := (hd16 _ _ q_s).trans c15_s_2
        have c16_s_3 : w16.cell? ⟨w.heap.size + 1, 3, none⟩ = some (.int .i64 y4) := (hd16 _ _ q_s).trans c15_s_3
        have c16_kk_0 : w16.cell? ⟨w.heap.size + 1 + 1, 0, none⟩ = some (.int .i64 n5) := (hd16 _ _ q_kk).trans c15_kk_0
        have c16_kk_1 : w16.cell? ⟨w.heap.size + 1 + 1, 1, none⟩ = some (.int .i64 d5) := (hd16 _ _ q_kk).trans c15_kk_1
        have c16_kk_2 : w16.cell? ⟨w.heap.size + 1 + 1, 2, none⟩ = some (.int .i64 x5) := (hd16 _ _ q_kk).trans c15_kk_2
        have c16_kk_3 : w16.cell? ⟨w.heap.size + 1 + 1, 3, none⟩ = some (.int .i64 y5) := (hd16 _ _ q_kk).trans c15_kk_3
        have c16_taken_0 : w16.cell? ⟨w1.heap.size, 0, none⟩ = some (.int .i64 xn) := (hd16 _ _ q_taken).trans c15_taken_0
        have c16_taken_1 : w16.cell? ⟨w1.heap.size, 1, none⟩ = some (.int .i64 xd) := (hd16 _ _ q_taken).trans c15_taken_1
        have c16_right_0 : w16.cell? ⟨w2.heap.size, 0, none⟩ = some (.int .i64 xn) := (hd16 _ _ q_right).trans c15_right_0
        have c16_right_1 : w16.cell? ⟨w2.heap.size, 1, none⟩ = some (.int .i64 xd) := (hd16 _ _ q_right).trans c15_right_1
        have c16_seen_0 : w16.cell? ⟨w3.heap.size, 0, none⟩ = some (.int .i64 sa) := (hd16 _ _ q_seen).trans c15_seen_0
        have c16_seen_1 : w16.cell? ⟨w3.heap.size, 1, none⟩ = some (.int .i64 sb) := (hd16 _ _ q_seen).trans c15_seen_1
        have c16_seen_2 : w16.cell? ⟨w3.heap.size, 2, none⟩ = some (.int .i64 sc) := (hd16 _ _ q_seen).trans c15_seen_2
        have c16_seen_3 : w16.cell? ⟨w3.heap.size, 3, none⟩ = some (.int .i64 se) := (hd16 _ _ q_seen).trans c15_seen_3
        have c16_want_0 : w16.cell? ⟨w4.heap.size, 0, none⟩ = some (.int .i64 sa) := (hd16 _ _ q_want).trans c15_want_0
        have c16_want_1 : w16.cell? ⟨w4.heap.size, 1, none⟩ = some (.int .i64 sb) := (hd16 _ _ q_want).trans c15_want_1
        have c16_want_2 : w16.cell? ⟨w4.heap.size, 2, none⟩ = some (.int .i64 sc) := (hd16 _ _ q_want).trans c15_want_2
        have c16_want_3 : w16.cell? ⟨w4.heap.size, 3, none⟩ = some (.int .i64 se) := (hd16 _ _ q_want).trans c15_want_3
        replace q_t : w.heap.size < w16.heap.size := by omega
        replace q_s : w.heap.size + 1 < w16.heap.size := by omega
        replace q_kk : w.heap.size + 1 + 1 < w16.heap.size := by omega
        replace q_taken : w1.heap.size < w16.heap.size := by omega
        replace q_right : w2.heap.size < w16.heap.size := by omega
        replace q_seen : w3.heap.size < w16.heap.size := by omega
        replace q_want : w4.heap.size < w16.heap.size := by omega
        have R16_all := Lib.hid (TRow.below R15_all.out B16)
        clear R15_all
        have R16_model := Lib.hid (TRow.below R15_model.out B16)
        clear R15_model
        have R16_mir := Lib.hid (TRow.below R15_mir.out B16)
        clear R15_mir
        have R16_due := Lib.hid (TRow.below R15_due.out B16)
        clear R15_due
        have BW16 : Below w.heap.size w w16 := BW15.trans (B16.mono BW15.size)
        clear hc16 hf16 hb16 hd16 B16 c15_t_0 c15_t_1 c15_s_0 c15_s_1 c15_s_2 c15_s_3 c15_kk_0 c15_kk_1 c15_kk_2 c15_kk_3 c15_taken_0 c15_taken_1 c15_right_0 c15_right_1 c15_seen_0 c15_seen_1 c15_seen_2 c15_seen_3 c15_want_0 c15_want_1 c15_want_2 c15_want_3 BW15
        go_upto_if 313 with fail
        go_cut [] from 999 to 999 (fun wx => Below w16.heap.size w16 wx)
        case first =>
          as_aux_lemma =>
            cases co
            · go_wp2_with fail
              go_meet
              case rel => exact Below.refl _ _
            · obtain ⟨hh, hla, hlo, hcv⟩ := F5.out rfl
              have hq := hh_bd hh
              obtain ⟨N, hN⟩ : ∃ N, a2 * a2 - 1 = N := ⟨_, rfl⟩
              rw [hN] at hla hcv
              have hNb : 3 ≤ N ∧ N ≤ 575 := by omega
              have HN := Lib.hid hN
              have HGA := Lib.hid (fun (j : Nat) (h : j < LA.length) => (show LA.getD j (0, 0) = (lowNum j N, lowDen j N) from by subst hla; exact evL_get h))
              have HLL := Lib.hid (show (LA.length : Int) = N from by subst hla; simp [evL]; omega)
              have HL2 := Lib.hid (show LO.length = 2 from by rw [hlo]; rfl)
              have HRA := Lib.hid (show Rises LA from by rw [hla]; exact ev_rises (by omega) (by omega))
              have HRO := Lib.hid (show Rises LO from by rw [hlo]; exact ev_rises (by omega) (by omega))
              have HOO := Lib.hid (fun x (hx : x ∈ LO) => own_ok hh (by rw [← hlo]; exact hx))
              have HU := Lib.hid (show uns a2 LA.length = cv from by rw [hcv, ← hN, ← uns_all hh]; congr 1; have := HLL.out; omega)
              have HX := Lib.hid (fun (k : Nat) => (show exTimeT a2 (lowNum k N) (lowDen k N) = (lowNum (k * a2) N, lowDen (k * a2) N, true) ∧ eqT (lowNum (k * a2) N) (lowDen (k * a2) N) (lowNum k N) (lowDen k N) = decide ((a2 + 1) ∣ (k : Int)) from by have e1 := ev_ex (k := (k : Int)) hh; have e2 := ev_self (k := (k : Int)) hh; rw [hN] at e1 e2; exact ⟨e1, e2⟩))
              clear hla hlo hcv hN
              go_wp2_with fail
              go_loopw [46, 316] (fun u i wr => ∃ k : Nat, k ≤ LA.length ∧ i = .int .i64 (k : Int) ∧ u = .int .i64 (uns a2 k) ∧ Below w16.heap.size w16 wr) (fun _ i _ => LA.length - (RowKit.intOf i).toNat)
              case atStart => exact ⟨0, Nat.zero_le _, rfl, rfl, Below.refl _ _⟩
              case round =>
                obtain ⟨k, hk, rfl, rfl, hb17⟩ := hrel
                obtain ⟨w17, hw17⟩ : ∃ x : World, x = wr := ⟨_, rfl⟩
                subst hw17
                have hb17' := hb17
                obtain ⟨hc17, hf17⟩ := bcell hb17
                have hz17 := hb17.size
                (try simp only [World.size_alloc, World.size_setCell, World.size_drew] at hz17)
                have B17 : Below w16.heap.size w16 w17 := Below.trans (b := _) (by (repeat' (first | (with_reducible exact Below.refl _ _) | (with_reducible assumption) | (with_reducible refine Below.alloc ?_ ?_ _) | (with_reducible refine Below.drew ?_) | (with_reducible refine below_drewN ?_ _) | (with_reducible refine Below.setCell ?_ ?_ _) | (with_reducible refine below_call ?_ ?_ (by assumption)) | go_size))) (hb17.mono (by first | omega | (simp only [World.size_alloc, World.size_setCell, World.size_drew]; omega)))
                obtain ⟨hd17, -⟩ := bcell B17
                have c17_t_0 : w17.cell? ⟨w.heap.size, 0, none⟩ = some (.int .i64 n1) := (hd17 _ _ q_t).trans c16_t_0
                have c17_t_1 : w17.cell? ⟨w.heap.size, 1, none⟩ = some (.int .i64 d1) := (hd17 _ _ q_t).trans c16_t_1
                have c17_s_0 : w17.cell? ⟨w.heap.size + 1, 0, none⟩ = some (.int .i64 n4) := (hd17 _ _ q_s).trans c16_s_0
                have c17_s_1 : w17.cell? ⟨w.heap.size + 1, 1, none⟩ = some (.int .i64 d4) := (hd17 _ _ q_s).trans c16_s_1
                have c17_s_2 : w17.cell? ⟨w.heap.size + 1, 2, none⟩ = some (.int .i64 x4) := (hd17 _ _ q_s).trans c16_s_2
                have c17_s_3 : w17.cell? ⟨w.heap.size + 1, 3, none⟩ = some (.int .i64 y4) := (hd17 _ _ q_s).trans c16_s_3
                have c17_kk_0 : w17.cell? ⟨w.heap.size + 1 + 1, 0, none⟩ = some (.int .i64 n5) := (hd17 _ _ q_kk).trans c16_kk_0
                have c17_kk_1 : w17.cell? ⟨w.heap.size + 1 + 1, 1, none⟩ = some (.int .i64 d5) := (hd17 _ _ q_kk).trans c16_kk_1
                have c17_kk_2 : w17.cell? ⟨w.heap.size + 1 + 1, 2, none⟩ = some (.int .i64 x5) := (hd17 _ _ q_kk).trans c16_kk_2
                have c17_kk_3 : w17.cell? ⟨w.heap.size + 1 + 1, 3, none⟩ = some (.int .i64 y5) := (hd17 _ _ q_kk).trans c16_kk_3
                have c17_taken_0 : w17.cell? ⟨w1.heap.size, 0, none⟩ = some (.int .i64 xn) := (hd17 _ _ q_taken).trans c16_taken_0
                have c17_taken_1 : w17.cell? ⟨w1.heap.size, 1, none⟩ = some (.int .i64 xd) := (hd17 _ _ q_taken).trans c16_taken_1
                have c17_right_0 : w17.cell? ⟨w2.heap.size, 0, none⟩ = some (.int .i64 xn) := (hd17 _ _ q_right).trans c16_right_0
                have c17_right_1 : w17.cell? ⟨w2.heap.size, 1, none⟩ = some (.int .i64 xd) := (hd17 _ _ q_right).trans c16_right_1
                have c17_seen_0 : w17.cell? ⟨w3.heap.size, 0, none⟩ = some (.int .i64 sa) := (hd17 _ _ q_seen).trans c16_seen_0
                have c17_seen_1 : w17.cell? ⟨w3.heap.size, 1, none⟩ = some (.int .i64 sb) := (hd17 _ _ q_seen).trans c16_seen_1
                have c17_seen_2 : w17.cell? ⟨w3.heap.size, 2, none⟩ = some (.int .i64 sc) := (hd17 _ _ q_seen).trans c16_seen_2
                have c17_seen_3 : w17.cell? ⟨w3.heap.size, 3, none⟩ = some (.int .i64 se) := (hd17 _ _ q_seen).trans c16_seen_3
                have c17_want_0 : w17.cell? ⟨w4.heap.size, 0, none⟩ = some (.int .i64 sa) := (hd17 _ _ q_want).trans c16_want_0
                have c17_want_1 : w17.cell? ⟨w4.heap.size, 1, none⟩ = some (.int .i64 sb) := (hd17 _ _ q_want).trans c16_want_1
                have c17_want_2 : w17.cell? ⟨w4.heap.size, 2, none⟩ = some (.int .i64 sc) := (hd17 _ _ q_want).trans c16_want_2
                have c17_want_3 : w17.cell? ⟨w4.heap.size, 3, none⟩ = some (.int .i64 se) := (hd17 _ _ q_want).trans c16_want_3
                replace q_t : w.heap.size < w17.heap.size := by omega
                replace q_s : w.heap.size + 1 < w17.heap.size := by omega
                replace q_kk : w.heap.size + 1 + 1 < w17.heap.size := by omega
                replace q_taken : w1.heap.size < w17.heap.size := by omega
                replace q_right : w2.heap.size < w17.heap.size := by omega
                replace q_seen : w3.heap.size < w17.heap.size := by omega
                replace q_want : w4.heap.size < w17.heap.size := by omega
                have R17_all := Lib.hid (TRow.below R16_all.out B17)
                clear R16_all
                have R17_model := Lib.hid (TRow.below R16_model.out B17)
                clear R16_model
                have R17_mir := Lib.hid (TRow.below R16_mir.out B17)
                clear R16_mir
                have R17_due := Lib.hid (TRow.below R16_due.out B17)
                clear R16_due
                have BW17 : Below w.heap.size w w17 := BW16.trans (B17.mono BW16.size)
                have BX17 : Below w16.heap.size w16 w17 := B17
                clear hc17 hf17 hb17 hd17 B17 c16_t_0 c16_t_1 c16_s_0 c16_s_1 c16_s_2 c16_s_3 c16_kk_0 c16_kk_1 c16_kk_2 c16_kk_3 c16_taken_0 c16_taken_1 c16_right_0 c16_right_1 c16_seen_0 c16_seen_1 c16_seen_2 c16_seen_3 c16_want_0 c16_want_1 c16_want_2 c16_want_3 BW16
                have i0 : (0 : Int) ≤ (k : Int) := Int.natCast_nonneg _
                have hlm : (LA.length : Int) ≤ 575 := by have := HLL.out; omega
                by_cases hlt : k < LA.length
                · have i1 : (k : Int) < (LA.length : Int) := by omega
                  obtain ⟨hx1, hx2⟩ := HX.out k
                  have hget := HGA.out k hlt
                  obtain ⟨pa, pc, hpv, hl1, hl2, hcell⟩ := TRow.cells R17_all.out
                  simp only [Value.slice.injEq] at hpv
                  obtain ⟨hp1, -, hp2⟩ := hpv
                  subst hp1
                  subst hp2
                  obtain ⟨ga, rfl, u1, u2, u3, u4⟩ := hcell k hlt
                  rw [hget] at u3 u4
                  simp only at u3 u4
                  clear hget hcell hl1 hl2 u1
                  generalize lowNum (k : Int) N = p1 at *
                  generalize lowDen (k : Int) N = p2 at *
                  generalize lowNum ((k : Int) * a2) N = p3 at *
                  generalize lowDen ((k : Int) * a2) N = p4 at *
                  have Z1 := Lib.hid (fun W => (show Calls Try.prog 8 #[.int .i64 a2, tv p1 p2] W fun e w' => e = .returned (rv (p3, p4, true)) ∧ Below W.heap.size W w' from by have := implExchangedTime_any a2 p1 p2 W; rw [hx1] at this; exact this))
                  clear hx1
                  have hu := uns_le (h := a2) k
                  have hus : uns a2 (k + 1) = if (a2 + 1) ∣ (k : Int) then uns a2 k else uns a2 k + 1 := rfl
                  have HUS := Lib.hid hus
                  have HX2 := Lib.hid hx2
                  clear hus hx2
                  go_wp2_with fail
                  refine (Z1.out _).mono ?_
                  rintro e18 w18 ⟨rfl, hb18⟩
                  obtain ⟨hc18, hf18⟩ := bcell hb18
                  have hz18 := hb18.size
                  (try simp only [World.size_alloc, World.size_setCell, World.size_drew] at hz18)
                  have B18 : Below w17.heap.size w17 w18 := Below.trans (b := _) (by (repeat' (first | (with_reducible exact Below.refl _ _) | (with_reducible assumption) | (with_reducible refine Below.alloc ?_ ?_ _) | (with_reducible refine Below.drew ?_) | (with_reducible refine below_drewN ?_ _) | (with_reducible refine Below.setCell ?_ ?_ _) | (with_reducible refine below_call ?_ ?_ (by assumption)) | go_size))) (hb18.mono (by first | omega | (simp only [World.size_alloc, World.size_setCell, World.size_drew]; omega)))
                  obtain ⟨hd18, -⟩ := bcell B18
                  have c18_t_0 : w18.cell? ⟨w.heap.size, 0, none⟩ = some (.int .i64 n1) := (hd18 _ _ q_t).trans c17_t_0
                  have c18_t_1 : w18.cell? ⟨w.heap.size, 1, none⟩ = some (.int .i64 d1) := (hd18 _ _ q_t).trans c17_t_1
                  have c18_s_0 : w18.cell? ⟨w.heap.size + 1, 0, none⟩ = some (.int .i64 n4) := (hd18 _ _ q_s).trans c17_s_0
                  have c18_s_1 : w18.cell? ⟨w.heap.size + 1, 1, none⟩ = some (.int .i64 d4) := (hd18 _ _ q_s).trans c17_s_1
                  have c18_s_2 : w18.cell? ⟨w.heap.size + 1, 2, none⟩ = some (.int .i64 x4) := (hd18 _ _ q_s).trans c17_s_2
                  have c18_s_3 : w18.cell? ⟨w.heap.size + 1, 3, none⟩ = some (.int .i64 y4) := (hd18 _ _ q_s).trans c17_s_3
                  have c18_kk_0 : w18.cell? ⟨w.heap.size + 1 + 1, 0, none⟩ = some (.int .i64 n5) := (hd18 _ _ q_kk).trans c17_kk_0
                  have c18_kk_1 : w18.cell? ⟨w.heap.size + 1 + 1, 1, none⟩ = some (.int .i64 d5) := (hd18 _ _ q_kk).trans c17_kk_1
                  have c18_kk_2 : w18.cell? ⟨w.heap.size + 1 + 1, 2, none⟩ = some (.int .i64 x5) := (hd18 _ _ q_kk).trans c17_kk_2
                  have c18_kk_3 : w18.cell? ⟨w.heap.size + 1 + 1, 3, none⟩ = some (.int .i64 y5) := (hd18 _ _ q_kk).trans c17_kk_3
                  have c18_taken_0 : w18.cell? ⟨w1.heap.size, 0, none⟩ = some (.int .i64 xn) := (hd18 _ _ q_taken).trans c17_taken_0
                  have c18_taken_1 : w18.cell? ⟨w1.heap.size, 1, none⟩ = some (.int .i64 xd) := (hd18 _ _ q_taken).trans c17_taken_1
                  have c18_right_0 : w18.cell? ⟨w2.heap.size, 0, none⟩ = some (.int .i64 xn) := (hd18 _ _ q_right).trans c17_right_0
                  have c18_right_1 : w18.cell? ⟨w2.heap.size, 1, none⟩ = some (.int .i64 xd) := (hd18 _ _ q_right).trans c17_right_1
                  have c18_seen_0 : w18.cell? ⟨w3.heap.size, 0, none⟩ = some (.int .i64 sa) := (hd18 _ _ q_seen).trans c17_seen_0
                  have c18_seen_1 : w18.cell? ⟨w3.heap.size, 1, none⟩ = some (.int .i64 sb) := (hd18 _ _ q_seen).trans c17_seen_1
                  have c18_seen_2 : w18.cell? ⟨w3.heap.size, 2, none⟩ = some (.int .i64 sc) := (hd18 _ _ q_seen).trans c17_seen_2
                  have c18_seen_3 : w18.cell? ⟨w3.heap.size, 3, none⟩ = some (.int .i64 se) := (hd18 _ _ q_seen).trans c17_seen_3
                  have c18_want_0 : w18.cell? ⟨w4.heap.size, 0, none⟩ = some (.int .i64 sa) := (hd18 _ _ q_want).trans c17_want_0
                  have c18_want_1 : w18.cell? ⟨w4.heap.size, 1, none⟩ = some (.int .i64 sb) := (hd18 _ _ q_want).trans c17_want_1
                  have c18_want_2 : w18.cell? ⟨w4.heap.size, 2, none⟩ = some (.int .i64 sc) := (hd18 _ _ q_want).trans c17_want_2
                  have c18_want_3 : w18.cell? ⟨w4.heap.size, 3, none⟩ = some (.int .i64 se) := (hd18 _ _ q_want).trans c17_want_3
                  replace q_t : w.heap.size < w18.heap.size := by omega
                  replace q_s : w.heap.size + 1 < w18.heap.size := by omega
                  replace q_kk : w.heap.size + 1 + 1 < w18.heap.size := by omega
                  replace q_taken : w1.heap.size < w18.heap.size := by omega
                  replace q_right : w2.heap.size < w18.heap.size := by omega
                  replace q_seen : w3.heap.size < w18.heap.size := by omega
                  replace q_want : w4.heap.size < w18.heap.size := by omega
                  have c18_x_0 : w18.cell? ⟨w17.heap.size, 0, none⟩ = some (.int .i64 p1) := (hc18 _ _ (by go_size)).trans (by go_simp)
                  have c18_x_1 : w18.cell? ⟨w17.heap.size, 1, none⟩ = some (.int .i64 p2) := (hc18 _ _ (by go_size)).trans (by go_simp)
                  have q_x : w17.heap.size < w18.heap.size := by omega
                  have R18_all := Lib.hid (TRow.below R17_all.out B18)
                  clear R17_all
                  have R18_model := Lib.hid (TRow.below R17_model.out B18)
                  clear R17_model
                  have R18_mir := Lib.hid (TRow.below R17_mir.out B18)
                  clear R17_mir
                  have R18_due := Lib.hid (TRow.below R17_due.out B18)
                  clear R17_due
                  have BW18 : Below w.heap.size w w18 := BW17.trans (B18.mono BW17.size)
                  have BX18 : Below w17.heap.size w17 w18 := B18
                  clear hc18 hf18 hb18 hd18 B18 c17_t_0 c17_t_1 c17_s_0 c17_s_1 c17_s_2 c17_s_3 c17_kk_0 c17_kk_1 c17_kk_2 c17_kk_3 c17_taken_0 c17_taken_1 c17_right_0 c17_right_1 c17_seen_0 c17_seen_1 c17_seen_2 c17_seen_3 c17_want_0 c17_want_1 c17_want_2 c17_want_3 BW17
                  go_upto_region 40 with fail
                  have hb19 : Below w18.heap.size w18 (w18.alloc (Obj.cells #[.int .i64 p3, .int .i64 p4] 25)) := by (repeat' (first | (with_reducible exact Below.refl _ _) | (with_reducible assumption) | (with_reducible refine Below.alloc ?_ ?_ _) | (with_reducible refine Below.drew ?_) | (with_reducible refine below_drewN ?_ _) | (with_reducible refine Below.setCell ?_ ?_ _) | (with_reducible refine below_call ?_ ?_ (by assumption)) | go_size))
                  have c19_other_0 : (w18.alloc (Obj.cells #[.int .i64 p3, .int .i64 p4] 25)).cell? ⟨w18.heap.size, 0, none⟩ = some (.int .i64 p3) := by go_simp
                  have c19_other_1 : (w18.alloc (Obj.cells #[.int .i64 p3, .int .i64 p4] 25)).cell? ⟨w18.heap.size, 1, none⟩ = some (.int .i64 p4) := by go_simp
                  have q_other : w18.heap.size < (w18.alloc (Obj.cells #[.int .i64 p3, .int .i64 p4] 25)).heap.size := by go_size
                  generalize (w18.alloc (Obj.cells #[.int .i64 p3, .int .i64 p4] 25)) = w19 at *
                  obtain ⟨hd19, -⟩ := bcell hb19
                  have hz19 := hb19.size
                  have c19_t_0 : w19.cell? ⟨w.heap.size, 0, none⟩ = some (.int .i64 n1) := (hd19 _ _ q_t).trans c18_t_0
                  have c19_t_1 : w19.cell? ⟨w.heap.size, 1, none⟩ = some (.int .i64 d1) := (hd19 _ _ q_t).trans c18_t_1
                  have c19_s_0 : w19.cell? ⟨w.heap.size + 1, 0, none⟩ = some (.int .i64 n4) := (hd19 _ _ q_s).trans c18_s_0
                  have c19_s_1 : w19.cell? ⟨w.heap.size + 1, 1, none⟩ = some (.int .i64 d4) := (hd19 _ _ q_s).trans c18_s_1
                  have c19_s_2 : w19.cell? ⟨w.heap.size + 1, 2, none⟩ = some (.int .i64 x4) := (hd19 _ _ q_s).trans c18_s_2
                  have c19_s_3 : w19.cell? ⟨w.heap.size + 1, 3, none⟩ = some (.int .i64 y4) := (hd19 _ _ q_s).trans c18_s_3
                  have c19_kk_0 : w19.cell? ⟨w.heap.size + 1 + 1, 0, none⟩ = some (.int .i64 n5) := (hd19 _ _ q_kk).trans c18_kk_0
                  have c19_kk_1 : w19.cell? ⟨w.heap.size + 1 + 1, 1, none⟩ = some (.int .i64 d5) := (hd19 _ _ q_kk).trans c18_kk_1
                  have c19_kk_2 : w19.cell? ⟨w.heap.size + 1 + 1, 2, none⟩ = some (.int .i64 x5) := (hd19 _ _ q_kk).trans c18_kk_2
                  have c19_kk_3 : w19.cell? ⟨w.heap.size + 1 + 1, 3, none⟩ = some (.int .i64 y5) := (hd19 _ _ q_kk).trans c18_kk_3
                  have c19_taken_0 : w19.cell? ⟨w1.heap.size, 0, none⟩ = some (.int .i64 xn) := (hd19 _ _ q_taken).trans c18_taken_0
                  have c19_taken_1 : w19.cell? ⟨w1.heap.size, 1, none⟩ = some (.int .i64 xd) := (hd19 _ _ q_taken).trans c18_taken_1
                  have c19_right_0 : w19.cell? ⟨w2.heap.size, 0, none⟩ = some (.int .i64 xn) := (hd19 _ _ q_right).trans c18_right_0
                  have c19_right_1 : w19.cell? ⟨w2.heap.size, 1, none⟩ = some (.int .i64 xd) := (hd19 _ _ q_right).trans c18_right_1
                  have c19_seen_0 : w19.cell? ⟨w3.heap.size, 0, none⟩ = some (.int .i64 sa) := (hd19 _ _ q_seen).trans c18_seen_0
                  have c19_seen_1 : w19.cell? ⟨w3.heap.size, 1, none⟩ = some (.int .i64 sb) := (hd19 _ _ q_seen).trans c18_seen_1
                  have c19_seen_2 : w19.cell? ⟨w3.heap.size, 2, none⟩ = some (.int .i64 sc) := (hd19 _ _ q_seen).trans c18_seen_2
                  have c19_seen_3 : w19.cell? ⟨w3.heap.size, 3, none⟩ = some (.int .i64 se) := (hd19 _ _ q_seen).trans c18_seen_3
                  have c19_want_0 : w19.cell? ⟨w4.heap.size, 0, none⟩ = some (.int .i64 sa) := (hd19 _ _ q_want).trans c18_want_0
                  have c19_want_1 : w19.cell? ⟨w4.heap.size, 1, none⟩ = some (.int .i64 sb) := (hd19 _ _ q_want).trans c18_want_1
                  have c19_want_2 : w19.cell? ⟨w4.heap.size, 2, none⟩ = some (.int .i64 sc) := (hd19 _ _ q_want).trans c18_want_2
                  have c19_want_3 : w19.cell? ⟨w4.heap.size, 3, none⟩ = some (.int .i64 se) := (hd19 _ _ q_want).trans c18_want_3
                  have c19_x_0 : w19.cell? ⟨w17.heap.size, 0, none⟩ = some (.int .i64 p1) := (hd19 _ _ q_x).trans c18_x_0
                  have c19_x_1 : w19.cell? ⟨w17.heap.size, 1, none⟩ = some (.int .i64 p2) := (hd19 _ _ q_x).trans c18_x_1
                  replace q_t : w.heap.size < w19.heap.size := by omega
                  replace q_s : w.heap.size + 1 < w19.heap.size := by omega
                  replace q_kk : w.heap.size + 1 + 1 < w19.heap.size := by omega
                  replace q_taken : w1.heap.size < w19.heap.size := by omega
                  replace q_right : w2.heap.size < w19.heap.size := by omega
                  replace q_seen : w3.heap.size < w19.heap.size := by omega
                  replace q_want : w4.heap.size < w19.heap.size := by omega
                  replace q_x : w17.heap.size < w19.heap.size := by omega
                  have R19_all := Lib.hid (TRow.below R18_all.out hb19)
                  clear R18_all
                  have R19_model := Lib.hid (TRow.below R18_model.out hb19)
                  clear R18_model
                  have R19_mir := Lib.hid (TRow.below R18_mir.out hb19)
                  clear R18_mir
                  have R19_due := Lib.hid (TRow.below R18_due.out hb19)
                  clear R18_due
                  have BW19 : Below w.heap.size w w19 := BW18.trans (hb19.mono BW18.size)
                  have BX19 : Below w17.heap.size w17 w19 := BX18.trans (hb19.mono BX18.size)
                  clear BX18
                  clear hb19 hd19 c18_t_0 c18_t_1 c18_s_0 c18_s_1 c18_s_2 c18_s_3 c18_kk_0 c18_kk_1 c18_kk_2 c18_kk_3 c18_taken_0 c18_taken_1 c18_right_0 c18_right_1 c18_seen_0 c18_seen_1 c18_seen_2 c18_seen_3 c18_want_0 c18_want_1 c18_want_2 c18_want_3 c18_x_0 c18_x_1 BW18
                  by_cases hdv : (a2 + 1) ∣ (k : Int)
                  · have he : eqT p3 p4 p1 p2 = true := HX2.out.trans (decide_eq_true hdv)
                    have hus : uns a2 (k + 1) = uns a2 k := HUS.out.trans (if_pos hdv)
                    have HUU := Lib.hid hus
                    clear hus
                    go_wp2_with fail
                    go_roundw
                    case rel => exact ⟨k + 1, by omega, by go_num, by rw [HUU.out], hb17'.trans (BX19.mono hb17'.size)⟩
                    case measure => simp [RowKit.intOf]; omega
                  · have he : eqT p3 p4 p1 p2 = false := HX2.out.trans (decide_eq_false hdv)
                    have hus : uns a2 (k + 1) = uns a2 k + 1 := HUS.out.trans (if_neg hdv)
                    have HUU := Lib.hid hus
                    clear hus
                    go_wp2_with fail
                    go_roundw
                    case rel => exact ⟨k + 1, by omega, by go_num, by rw [HUU.out], hb17'.trans (BX19.mono hb17'.size)⟩
                    case measure => simp [RowKit.intOf]; omega
                obtain rfl : k = LA.length := by omega
                rw [HU.out]
                have hll := HLL.out
                have hnn := HN.out
                have hw1 : IntKind.i64.wrap (a2 * a2) = a2 * a2 := by rw [IntKind.wrap_i64]; omega
                have hw2 : IntKind.i64.wrap (a2 * a2 - 1) = N := by rw [hnn, IntKind.wrap_i64]; omega
                have hlen : ((LA.length : Int) != N) = false := by rw [hll]; simp
                have HLLx := Lib.hid hll
                clear hll hnn hk
                go_wp2_with fail
                refine (wRises_yes LA _ _ _ R17_all.out HLA.out HRA.out).mono ?_
                rintro e18 w18 ⟨rfl, hb18⟩
                obtain ⟨hc18, hf18⟩ := bcell hb18
                have hz18 := hb18.size
                (try simp only [World.size_alloc, World.size_setCell, World.size_drew] at hz18)
                have B18 : Below w17.heap.size w17 w18 := Below.trans (b := _) (by (repeat' (first | (with_reducible exact Below.refl _ _) | (with_reducible assumption) | (with_reducible refine Below.alloc ?_ ?_ _) | (with_reducible refine Below.drew ?_) | (with_reducible refine below_drewN ?_ _) | (with_reducible refine Below.setCell ?_ ?_ _) | (with_reducible refine below_call ?_ ?_ (by assumption)) | go_size))) (hb18.mono (by first | omega | (simp only [World.size_alloc, World.size_setCell, World.size_drew]; omega)))
                obtain ⟨hd18, -⟩ := bcell B18
                have c18_t_0 : w18.cell? ⟨w.heap.size, 0, none⟩ = some (.int .i64 n1) := (hd18 _ _ q_t).trans c17_t_0
                have c18_t_1 : w18.cell? ⟨w.heap.size, 1, none⟩ = some (.int .i64 d1) := (hd18 _ _ q_t).trans c17_t_1
                have c18_s_0 : w18.cell? ⟨w.heap.size + 1, 0, none⟩ = some (.int .i64 n4) := (hd18 _ _ q_s).trans c17_s_0
                have c18_s_1 : w18.cell? ⟨w.heap.size + 1, 1, none⟩ = some (.int .i64 d4) := (hd18 _ _ q_s).trans c17_s_1
                have c18_s_2 : w18.cell? ⟨w.heap.size + 1, 2, none⟩ = some (.int .i64 x4) := (hd18 _ _ q_s).trans c17_s_2
                have c18_s_3 : w18.cell? ⟨w.heap.size + 1, 3, none⟩ = some (.int .i64 y4) := (hd18 _ _ q_s).trans c17_s_3
                have c18_kk_0 : w18.cell? ⟨w.heap.size + 1 + 1, 0, none⟩ = some (.int .i64 n5) := (hd18 _ _ q_kk).trans c17_kk_0
                have c18_kk_1 : w18.cell? ⟨w.heap.size + 1 + 1, 1, none⟩ = some (.int .i64 d5) := (hd18 _ _ q_kk).trans c17_kk_1
                have c18_kk_2 : w18.cell? ⟨w.heap.size + 1 + 1, 2, none⟩ = some (.int .i64 x5) := (hd18 _ _ q_kk).trans c17_kk_2
                have c18_kk_3 : w18.cell? ⟨w.heap.size + 1 + 1, 3, none⟩ = some (.int .i64 y5) := (hd18 _ _ q_kk).trans c17_kk_3
                have c18_taken_0 : w18.cell? ⟨w1.heap.size, 0, none⟩ = some (.int .i64 xn) := (hd18 _ _ q_taken).trans c17_taken_0
                have c18_taken_1 : w18.cell? ⟨w1.heap.size, 1, none⟩ = some (.int .i64 xd) := (hd18 _ _ q_taken).trans c17_taken_1
                have c18_right_0 : w18.cell? ⟨w2.heap.size, 0, none⟩ = some (.int .i64 xn) := (hd18 _ _ q_right).trans c17_right_0
                have c18_right_1 : w18.cell? ⟨w2.heap.size, 1, none⟩ = some (.int .i64 xd) := (hd18 _ _ q_right).trans c17_right_1
                have c18_seen_0 : w18.cell? ⟨w3.heap.size, 0, none⟩ = some (.int .i64 sa) := (hd18 _ _ q_seen).trans c17_seen_0
                have c18_seen_1 : w18.cell? ⟨w3.heap.size, 1, none⟩ = some (.int .i64 sb) := (hd18 _ _ q_seen).trans c17_seen_1
                have c18_seen_2 : w18.cell? ⟨w3.heap.size, 2, none⟩ = some (.int .i64 sc) := (hd18 _ _ q_seen).trans c17_seen_2
                have c18_seen_3 : w18.cell? ⟨w3.heap.size, 3, none⟩ = some (.int .i64 se) := (hd18 _ _ q_seen).trans c17_seen_3
                have c18_want_0 : w18.cell? ⟨w4.heap.size, 0, none⟩ = some (.int .i64 sa) := (hd18 _ _ q_want).trans c17_want_0
                have c18_want_1 : w18.cell? ⟨w4.heap.size, 1, none⟩ = some (.int .i64 sb) := (hd18 _ _ q_want).trans c17_want_1
                have c18_want_2 : w18.cell? ⟨w4.heap.size, 2, none⟩ = some (.int .i64 sc) := (hd18 _ _ q_want).trans c17_want_2
                have c18_want_3 : w18.cell? ⟨w4.heap.size, 3, none⟩ = some (.int .i64 se) := (hd18 _ _ q_want).trans c17_want_3
                replace q_t : w.heap.size < w18.heap.size := by omega
                replace q_s : w.heap.size + 1 < w18.heap.size := by omega
                replace q_kk : w.heap.size + 1 + 1 < w18.heap.size := by omega
                replace q_taken : w1.heap.size < w18.heap.size := by omega
                replace q_right : w2.heap.size < w18.heap.size := by omega
                replace q_seen : w3.heap.size < w18.heap.size := by omega
                replace q_want : w4.heap.size < w18.heap.size := by omega
                have R18_all := Lib.hid (TRow.below R17_all.out B18)
                clear R17_all
                have R18_model := Lib.hid (TRow.below R17_model.out B18)
                clear R17_model
                have R18_mir := Lib.hid (TRow.below R17_mir.out B18)
                clear R17_mir
                have R18_due := Lib.hid (TRow.below R17_due.out B18)
                clear R17_due
                have BW18 : Below w.heap.size w w18 := BW17.trans (B18.mono BW17.size)
                have BX18 : Below w16.heap.size w16 w18 := BX17.trans (B18.mono BX17.size)
                clear BX17
                clear hc18 hf18 hb18 hd18 B18 c17_t_0 c17_t_1 c17_s_0 c17_s_1 c17_s_2 c17_s_3 c17_kk_0 c17_kk_1 c17_kk_2 c17_kk_3 c17_taken_0 c17_taken_1 c17_right_0 c17_right_1 c17_seen_0 c17_seen_1 c17_seen_2 c17_seen_3 c17_want_0 c17_want_1 c17_want_2 c17_want_3 BW17
                go_wp2_with fail
                go_loopw [353] (fun i wr => ∃ k : Nat, k ≤ LO.length ∧ i = .int .i64 (k : Int) ∧ Below w18.heap.size w18 wr) (fun i _ => LO.length - (RowKit.intOf i).toNat)
                case atStart => exact ⟨0, Nat.zero_le _, rfl, Below.refl _ _⟩
                case round =>
                  obtain ⟨k, hk, rfl, hb19⟩ := hrel
                  have hb19' := hb19
                  obtain ⟨w19, hw19⟩ : ∃ x : World, x = wr := ⟨_, rfl⟩
                  subst hw19
                  obtain ⟨hc19, hf19⟩ := bcell hb19
                  have hz19 := hb19.size
                  (try simp only [World.size_alloc, World.size_setCell, World.size_drew] at hz19)
                  have B19 : Below w18.heap.size w18 w19 := Below.trans (b := _) (by (repeat' (first | (with_reducible exact Below.refl _ _) | (with_reducible assumption) | (with_reducible refine Below.alloc ?_ ?_ _) | (with_reducible refine Below.drew ?_) | (with_reducible refine below_drewN ?_ _) | (with_reducible refine Below.setCell ?_ ?_ _) | (with_reducible refine below_call ?_ ?_ (by assumption)) | go_size))) (hb19.mono (by first | omega | (simp only [World.size_alloc, World.size_setCell, World.size_drew]; omega)))
                  obtain ⟨hd19, -⟩ := bcell B19
                  have c19_t_0 : w19.cell? ⟨w.heap.size, 0, none⟩ = some (.int .i64 n1) := (hd19 _ _ q_t).trans c18_t_0
                  have c19_t_1 : w19.cell? ⟨w.heap.size, 1, none⟩ = some (.int .i64 d1) := (hd19 _ _ q_t).trans c18_t_1
                  have c19_s_0 : w19.cell? ⟨w.heap.size + 1, 0, none⟩ = some (.int .i64 n4) := (hd19 _ _ q_s).trans c18_s_0
                  have c19_s_1 : w19.cell? ⟨w.heap.size + 1, 1, none⟩ = some (.int .i64 d4) := (hd19 _ _ q_s).trans c18_s_1
                  have c19_s_2 : w19.cell? ⟨w.heap.size + 1, 2, none⟩ = some (.int .i64 x4) := (hd19 _ _ q_s).trans c18_s_2
                  have c19_s_3 : w19.cell? ⟨w.heap.size + 1, 3, none⟩ = some (.int .i64 y4) := (hd19 _ _ q_s).trans c18_s_3
                  have c19_kk_0 : w19.cell? ⟨w.heap.size + 1 + 1, 0, none⟩ = some (.int .i64 n5) := (hd19 _ _ q_kk).trans c18_kk_0
                  have c19_kk_1 : w19.cell? ⟨w.heap.size + 1 + 1, 1, none⟩ = some (.int .i64 d5) := (hd19 _ _ q_kk).trans c18_kk_1
                  have c19_kk_2 : w19.cell? ⟨w.heap.size + 1 + 1, 2, none⟩ = some (.int .i64 x5) := (hd19 _ _ q_kk).trans c18_kk_2
                  have c19_kk_3 : w19.cell? ⟨w.heap.size + 1 + 1, 3, none⟩ = some (.int .i64 y5) := (hd19 _ _ q_kk).trans c18_kk_3
                  have c19_taken_0 : w19.cell? ⟨w1.heap.size, 0, none⟩ = some (.int .i64 xn) := (hd19 _ _ q_taken).trans c18_taken_0
                  have c19_taken_1 : w19.cell? ⟨w1.heap.size, 1, none⟩ = some (.int .i64 xd) := (hd19 _ _ q_taken).trans c18_taken_1
                  have c19_right_0 : w19.cell? ⟨w2.heap.size, 0, none⟩ = some (.int .i64 xn) := (hd19 _ _ q_right).trans c18_right_0
                  have c19_right_1 : w19.cell? ⟨w2.heap.size, 1, none⟩ = some (.int .i64 xd) := (hd19 _ _ q_right).trans c18_right_1
                  have c19_seen_0 : w19.cell? ⟨w3.heap.size, 0, none⟩ = some (.int .i64 sa) := (hd19 _ _ q_seen).trans c18_seen_0
                  have c19_seen_1 : w19.cell? ⟨w3.heap.size, 1, none⟩ = some (.int .i64 sb) := (hd19 _ _ q_seen).trans c18_seen_1
                  have c19_seen_2 : w19.cell? ⟨w3.heap.size, 2, none⟩ = some (.int .i64 sc) := (hd19 _ _ q_seen).trans c18_seen_2
                  have c19_seen_3 : w19.cell? ⟨w3.heap.size, 3, none⟩ = some (.int .i64 se) := (hd19 _ _ q_seen).trans c18_seen_3
                  have c19_want_0 : w19.cell? ⟨w4.heap.size, 0, none⟩ = some (.int .i64 sa) := (hd19 _ _ q_want).trans c18_want_0
                  have c19_want_1 : w19.cell? ⟨w4.heap.size, 1, none⟩ = some (.int .i64 sb) := (hd19 _ _ q_want).trans c18_want_1
                  have c19_want_2 : w19.cell? ⟨w4.heap.size, 2, none⟩ = some (.int .i64 sc) := (hd19 _ _ q_want).trans c18_want_2
                  have c19_want_3 : w19.cell? ⟨w4.heap.size, 3, none⟩ = some (.int .i64 se) := (hd19 _ _ q_want).trans c18_want_3
                  replace q_t : w.heap.size < w19.heap.size := by omega
                  replace q_s : w.heap.size + 1 < w19.heap.size := by omega
                  replace q_kk : w.heap.size + 1 + 1 < w19.heap.size := by omega
                  replace q_taken : w1.heap.size < w19.heap.size := by omega
                  replace q_right : w2.heap.size < w19.heap.size := by omega
                  replace q_seen : w3.heap.size < w19.heap.size := by omega
                  replace q_want : w4.heap.size < w19.heap.size := by omega
                  have R19_all := Lib.hid (TRow.below R18_all.out B19)
                  clear R18_all
                  have R19_model := Lib.hid (TRow.below R18_model.out B19)
                  clear R18_model
                  have R19_mir := Lib.hid (TRow.below R18_mir.out B19)
                  clear R18_mir
                  have R19_due := Lib.hid (TRow.below R18_due.out B19)
                  clear R18_due
                  have BW19 : Below w.heap.size w w19 := BW18.trans (B19.mono BW18.size)
                  have BX19 : Below w16.heap.size w16 w19 := BX18.trans (B19.mono BX18.size)
                  clear BX18
                  clear hc19 hf19 hb19 hd19 B19 c18_t_0 c18_t_1 c18_s_0 c18_s_1 c18_s_2 c18_s_3 c18_kk_0 c18_kk_1 c18_kk_2 c18_kk_3 c18_taken_0 c18_taken_1 c18_right_0 c18_right_1 c18_seen_0 c18_seen_1 c18_seen_2 c18_seen_3 c18_want_0 c18_want_1 c18_want_2 c18_want_3 BW18
                  have i0 : (0 : Int) ≤ (k : Int) := Int.natCast_nonneg _
                  have hlb : (LO.length : Int) ≤ 2 := by have := HL2.out; omega
                  have HLM := HL2
                  by_cases hlt : k < LO.length
                  · have i1 : (k : Int) < (LO.length : Int) := by omega
                    have hmem : LO.getD k (0, 0) ∈ LO := by rw [List.getD_eq_getElem?_getD, List.getElem?_eq_getElem hlt]; exact List.getElem_mem hlt
                    obtain ⟨ho1, ho2⟩ := HOO.out _ hmem
                    obtain ⟨pa, pc, hpv, hl1, hl2, hcell⟩ := TRow.cells R19_mir.out
                    simp only [Value.slice.injEq] at hpv
                    obtain ⟨hp1, -, hp2⟩ := hpv
                    subst hp1
                    subst hp2
                    obtain ⟨ga, rfl, u1, u2, u3, u4⟩ := hcell k hlt
                    clear hcell hl1 hl2 u1 hmem
                    generalize LO.getD k (0, 0) = x at *
                    obtain ⟨p1, p2⟩ := x
                    simp only at u3 u4 ho1 ho2
                    obtain ⟨s1, s2, s3, s4, s5, hs⟩ : ∃ a b c e o, seenOfT a2 p1 p2 = (a, b, c, e, o) := ⟨_, _, _, _, _, rfl⟩
                    rw [hs] at ho1 ho2
                    simp only at ho1 ho2
                    subst ho1
                    have Z1 := Lib.hid (fun W => (show Calls Try.prog 10 #[.int .i64 a2, tv p1 p2] W fun e w' => e = .returned (rs (s1, s2, s3, s4, true)) ∧ Below W.heap.size W w' from by have := implSeenOf_any a2 p1 p2 W; rw [hs] at this; exact this))
                    have Z2 := Lib.hid (fun W => (show Calls Try.prog 27 #[sn s1 s2 s3 s4] W fun e w' => e = .returned (rs (s1, s2, s3, s4, true)) ∧ Below W.heap.size W w' from by have := implMirrorSeen_any s1 s2 s3 s4 W; rw [ho2] at this; exact this))
                    clear hs ho2
                    go_wp2_with fail
                    refine (Z1.out _).mono ?_
                    rintro e20 w20 ⟨rfl, hb20⟩
                    obtain ⟨hc20, hf20⟩ := bcell hb20
                    have hz20 := hb20.size
                    (try simp only [World.size_alloc, World.size_setCell, World.size_drew] at hz20)
                    have B20 : Below w19.heap.size w19 w20 := Below.trans (b := _) (by (repeat' (first | (with_reducible exact Below.refl _ _) | (with_reducible assumption) | (with_reducible refine Below.alloc ?_ ?_ _) | (with_reducible refine Below.drew ?_) | (with_reducible refine below_drewN ?_ _) | (with_reducible refine Below.setCell ?_ ?_ _) | (with_reducible refine below_call ?_ ?_ (by assumption)) | go_size))) (hb20.mono (by first | omega | (simp only [World.size_alloc, World.size_setCell, World.size_drew]; omega)))
                    obtain ⟨hd20, -⟩ := bcell B20
                    have c20_t_0 : w20.cell? ⟨w.heap.size, 0, none⟩ = some (.int .i64 n1) := (hd20 _ _ q_t).trans c19_t_0
                    have c20_t_1 : w20.cell? ⟨w.heap.size, 1, none⟩ = some (.int .i64 d1) := (hd20 _ _ q_t).trans c19_t_1
                    have c20_s_0 : w20.cell? ⟨w.heap.size + 1, 0, none⟩ = some (.int .i64 n4) := (hd20 _ _ q_s).trans c19_s_0
                    have c20_s_1 : w20.cell? ⟨w.heap.size + 1, 1, none⟩ = some (.int .i64 d4) := (hd20 _ _ q_s).trans c19_s_1
                    have c20_s_2 : w20.cell? ⟨w.heap.size + 1, 2, none⟩ = some (.int .i64 x4) := (hd20 _ _ q_s).trans c19_s_2
                    have c20_s_3 : w20.cell? ⟨w.heap.size + 1, 3, none⟩ = some (.int .i64 y4) := (hd20 _ _ q_s).trans c19_s_3
                    have c20_kk_0 : w20.cell? ⟨w.heap.size + 1 + 1, 0, none⟩ = some (.int .i64 n5) := (hd20 _ _ q_kk).trans c19_kk_0
                    have c20_kk_1 : w20.cell? ⟨w.heap.size + 1 + 1, 1, none⟩ = some (.int .i64 d5) := (hd20 _ _ q_kk).trans c19_kk_1
                    have c20_kk_2 : w20.cell? ⟨w.heap.size + 1 + 1, 2, none⟩ = some (.int .i64 x5) := (hd20 _ _ q_kk).trans c19_kk_2
                    have c20_kk_3 : w20.cell? ⟨w.heap.size + 1 + 1, 3, none⟩ = some (.int .i64 y5) := (hd20 _ _ q_kk).trans c19_kk_3
                    have c20_taken_0 : w20.cell? ⟨w1.heap.size, 0, none⟩ = some (.int .i64 xn) := (hd20 _ _ q_taken).trans c19_taken_0
                    have c20_taken_1 : w20.cell? ⟨w1.heap.size, 1, none⟩ = some (.int .i64 xd) := (hd20 _ _ q_taken).trans c19_taken_1
                    have c20_right_0 : w20.cell? ⟨w2.heap.size, 0, none⟩ = some (.int .i64 xn) := (hd20 _ _ q_right).trans c19_right_0
                    have c20_right_1 : w20.cell? ⟨w2.heap.size, 1, none⟩ = some (.int .i64 xd) := (hd20 _ _ q_right).trans c19_right_1
                    have c20_seen_0 : w20.cell? ⟨w3.heap.size, 0, none⟩ = some (.int .i64 sa) := (hd20 _ _ q_seen).trans c19_seen_0
                    have c20_seen_1 : w20.cell? ⟨w3.heap.size, 1, none⟩ = some (.int .i64 sb) := (hd20 _ _ q_seen).trans c19_seen_1
                    have c20_seen_2 : w20.cell? ⟨w3.heap.size, 2, none⟩ = some (.int .i64 sc) := (hd20 _ _ q_seen).trans c19_seen_2
                    have c20_seen_3 : w20.cell? ⟨w3.heap.size, 3, none⟩ = some (.int .i64 se) := (hd20 _ _ q_seen).trans c19_seen_3
                    have c20_want_0 : w20.cell? ⟨w4.heap.size, 0, none⟩ = some (.int .i64 sa) := (hd20 _ _ q_want).trans c19_want_0
                    have c20_want_1 : w20.cell? ⟨w4.heap.size, 1, none⟩ = some (.int .i64 sb) := (hd20 _ _ q_want).trans c19_want_1
                    have c20_want_2 : w20.cell? ⟨w4.heap.size, 2, none⟩ = some (.int .i64 sc) := (hd20 _ _ q_want).trans c19_want_2
                    have c20_want_3 : w20.cell? ⟨w4.heap.size, 3, none⟩ = some (.int .i64 se) := (hd20 _ _ q_want).trans c19_want_3
                    replace q_t : w.heap.size < w20.heap.size := by omega
                    replace q_s : w.heap.size + 1 < w20.heap.size := by omega
                    replace q_kk : w.heap.size + 1 + 1 < w20.heap.size := by omega
                    replace q_taken : w1.heap.size < w20.heap.size := by omega
                    replace q_right : w2.heap.size < w20.heap.size := by omega
                    replace q_seen : w3.heap.size < w20.heap.size := by omega
                    replace q_want : w4.heap.size < w20.heap.size := by omega
                    have c20_x_0 : w20.cell? ⟨w19.heap.size, 0, none⟩ = some (.int .i64 p1) := (hc20 _ _ (by go_size)).trans (by go_simp)
                    have c20_x_1 : w20.cell? ⟨w19.heap.size, 1, none⟩ = some (.int .i64 p2) := (hc20 _ _ (by go_size)).trans (by go_simp)
                    have q_x : w19.heap.size < w20.heap.size := by omega
                    have R20_all := Lib.hid (TRow.below R19_all.out B20)
                    clear R19_all
                    have R20_model := Lib.hid (TRow.below R19_model.out B20)
                    clear R19_model
                    have R20_mir := Lib.hid (TRow.below R19_mir.out B20)
                    clear R19_mir
                    have R20_due := Lib.hid (TRow.below R19_due.out B20)
                    clear R19_due
                    have BW20 : Below w.heap.size w w20 := BW19.trans (B20.mono BW19.size)
                    have BX20 : Below w19.heap.size w19 w20 := B20
                    clear hc20 hf20 hb20 hd20 B20 c19_t_0 c19_t_1 c19_s_0 c19_s_1 c19_s_2 c19_s_3 c19_kk_0 c19_kk_1 c19_kk_2 c19_kk_3 c19_taken_0 c19_taken_1 c19_right_0 c19_right_1 c19_seen_0 c19_seen_1 c19_seen_2 c19_seen_3 c19_want_0 c19_want_1 c19_want_2 c19_want_3 BW19
                    go_wp2_with fail
                    refine (Z2.out _).mono ?_
                    rintro e21 w21 ⟨rfl, hb21⟩
                    obtain ⟨hc21, hf21⟩ := bcell hb21
                    have hz21 := hb21.size
                    (try simp only [World.size_alloc, World.size_setCell, World.size_drew] at hz21)
                    have B21 : Below w20.heap.size w20 w21 := Below.trans (b := _) (by (repeat' (first | (with_reducible exact Below.refl _ _) | (with_reducible assumption) | (with_reducible refine Below.alloc ?_ ?_ _) | (with_reducible refine Below.drew ?_) | (with_reducible refine below_drewN ?_ _) | (with_reducible refine Below.setCell ?_ ?_ _) | (with_reducible refine below_call ?_ ?_ (by assumption)) | go_size))) (hb21.mono (by first | omega | (simp only [World.size_alloc, World.size_setCell, World.size_drew]; omega)))
                    obtain ⟨hd21, -⟩ := bcell B21
                    have c21_t_0 : w21.cell? ⟨w.heap.size, 0, none⟩ = some (.int .i64 n1) := (hd21 _ _ q_t).trans c20_t_0
                    have c21_t_1 : w21.cell? ⟨w.heap.size, 1, none⟩ = some (.int .i64 d1) := (hd21 _ _ q_t).trans c20_t_1
                    have c21_s_0 : w21.cell? ⟨w.heap.size + 1, 0, none⟩ = some (.int .i64 n4) := (hd21 _ _ q_s).trans c20_s_0
                    have c21_s_1 : w21.cell? ⟨w.heap.size + 1, 1, none⟩ = some (.int .i64 d4) := (hd21 _ _ q_s).trans c20_s_1
                    have c21_s_2 : w21.cell? ⟨w.heap.size + 1, 2, none⟩ = some (.int .i64 x4) := (hd21 _ _ q_s).trans c20_s_2
                    have c21_s_3 : w21.cell? ⟨w.heap.size + 1, 3, none⟩ = some (.int .i64 y4) := (hd21 _ _ q_s).trans c20_s_3
                    have c21_kk_0 : w21.cell? ⟨w.heap.size + 1 + 1, 0, none⟩ = some (.int .i64 n5) := (hd21 _ _ q_kk).trans c20_kk_0
                    have c21_kk_1 : w21.cell? ⟨w.heap.size + 1 + 1, 1, none⟩ = some (.int .i64 d5) := (hd21 _ _ q_kk).trans c20_kk_1
                    have c21_kk_2 : w21.cell? ⟨w.heap.size + 1 + 1, 2, none⟩ = some (.int .i64 x5) := (hd21 _ _ q_kk).trans c20_kk_2
                    have c21_kk_3 : w21.cell? ⟨w.heap.size + 1 + 1, 3, none⟩ = some (.int .i64 y5) := (hd21 _ _ q_kk).trans c20_kk_3
                    have c21_taken_0 : w21.cell? ⟨w1.heap.size, 0, none⟩ = some (.int .i64 xn) := (hd21 _ _ q_taken).trans c20_taken_0
                    have c21_taken_1 : w21.cell? ⟨w1.heap.size, 1, none⟩ = some (.int .i64 xd) := (hd21 _ _ q_taken).trans c20_taken_1
                    have c21_right_0 : w21.cell? ⟨w2.heap.size, 0, none⟩ = some (.int .i64 xn) := (hd21 _ _ q_right).trans c20_right_0
                    have c21_right_1 : w21.cell? ⟨w2.heap.size, 1, none⟩ = some (.int .i64 xd) := (hd21 _ _ q_right).trans c20_right_1
                    have c21_seen_0 : w21.cell? ⟨w3.heap.size, 0, none⟩ = some (.int .i64 sa) := (hd21 _ _ q_seen).trans c20_seen_0
                    have c21_seen_1 : w21.cell? ⟨w3.heap.size, 1, none⟩ = some (.int .i64 sb) := (hd21 _ _ q_seen).trans c20_seen_1
                    have c21_seen_2 : w21.cell? ⟨w3.heap.size, 2, none⟩ = some (.int .i64 sc) := (hd21 _ _ q_seen).trans c20_seen_2
                    have c21_seen_3 : w21.cell? ⟨w3.heap.size, 3, none⟩ = some (.int .i64 se) := (hd21 _ _ q_seen).trans c20_seen_3
                    have c21_want_0 : w21.cell? ⟨w4.heap.size, 0, none⟩ = some (.int .i64 sa) := (hd21 _ _ q_want).trans c20_want_0
                    have c21_want_1 : w21.cell? ⟨w4.heap.size, 1, none⟩ = some (.int .i64 sb) := (hd21 _ _ q_want).trans c20_want_1
                    have c21_want_2 : w21.cell? ⟨w4.heap.size, 2, none⟩ = some (.int .i64 sc) := (hd21 _ _ q_want).trans c20_want_2
                    have c21_want_3 : w21.cell? ⟨w4.heap.size, 3, none⟩ = some (.int .i64 se) := (hd21 _ _ q_want).trans c20_want_3
                    have c21_x_0 : w21.cell? ⟨w19.heap.size, 0, none⟩ = some (.int .i64 p1) := (hd21 _ _ q_x).trans c20_x_0
                    have c21_x_1 : w21.cell? ⟨w19.heap.size, 1, none⟩ = some (.int .i64 p2) := (hd21 _ _ q_x).trans c20_x_1
                    replace q_t : w.heap.size < w21.heap.size := by omega
                    replace q_s : w.heap.size + 1 < w21.heap.size := by omega
                    replace q_kk : w.heap.size + 1 + 1 < w21.heap.size := by omega
                    replace q_taken : w1.heap.size < w21.heap.size := by omega
                    replace q_right : w2.heap.size < w21.heap.size := by omega
                    replace q_seen : w3.heap.size < w21.heap.size := by omega
                    replace q_want : w4.heap.size < w21.heap.size := by omega
                    replace q_x : w19.heap.size < w21.heap.size := by omega
                    have c21_seen2_0 : w21.cell? ⟨w20.heap.size, 0, none⟩ = some (.int .i64 s1) := (hc21 _ _ (by go_size)).trans (by go_simp)
                    have c21_seen2_1 : w21.cell? ⟨w20.heap.size, 1, none⟩ = some (.int .i64 s2) := (hc21 _ _ (by go_size)).trans (by go_simp)
                    have c21_seen2_2 : w21.cell? ⟨w20.heap.size, 2, none⟩ = some (.int .i64 s3) := (hc21 _ _ (by go_size)).trans (by go_simp)
                    have c21_seen2_3 : w21.cell? ⟨w20.heap.size, 3, none⟩ = some (.int .i64 s4) := (hc21 _ _ (by go_size)).trans (by go_simp)
                    have q_seen2 : w20.heap.size < w21.heap.size := by omega
                    have R21_all := Lib.hid (TRow.below R20_all.out B21)
                    clear R20_all
                    have R21_model := Lib.hid (TRow.below R20_model.out B21)
                    clear R20_model
                    have R21_mir := Lib.hid (TRow.below R20_mir.out B21)
                    clear R20_mir
                    have R21_due := Lib.hid (TRow.below R20_due.out B21)
                    clear R20_due
                    have BW21 : Below w.heap.size w w21 := BW20.trans (B21.mono BW20.size)
                    have BX21 : Below w19.heap.size w19 w21 := BX20.trans (B21.mono BX20.size)
                    clear BX20
                    clear hc21 hf21 hb21 hd21 B21 c20_t_0 c20_t_1 c20_s_0 c20_s_1 c20_s_2 c20_s_3 c20_kk_0 c20_kk_1 c20_kk_2 c20_kk_3 c20_taken_0 c20_taken_1 c20_right_0 c20_right_1 c20_seen_0 c20_seen_1 c20_seen_2 c20_seen_3 c20_want_0 c20_want_1 c20_want_2 c20_want_3 c20_x_0 c20_x_1 BW20
                    go_upto_region 50 with fail
                    have hb22 : Below w21.heap.size w21 (w21.alloc (Obj.cells #[.int .i64 s1, .int .i64 s2, .int .i64 s3, .int .i64 s4] 31)) := by (repeat' (first | (with_reducible exact Below.refl _ _) | (with_reducible assumption) | (with_reducible refine Below.alloc ?_ ?_ _) | (with_reducible refine Below.drew ?_) | (with_reducible refine below_drewN ?_ _) | (with_reducible refine Below.setCell ?_ ?_ _) | (with_reducible refine below_call ?_ ?_ (by assumption)) | go_size))
                    have c22_glass_0 : (w21.alloc (Obj.cells #[.int .i64 s1, .int .i64 s2, .int .i64 s3, .int .i64 s4] 31)).cell? ⟨w21.heap.size, 0, none⟩ = some (.int .i64 s1) := by go_simp
                    have c22_glass_1 : (w21.alloc (Obj.cells #[.int .i64 s1, .int .i64 s2, .int .i64 s3, .int .i64 s4] 31)).cell? ⟨w21.heap.size, 1, none⟩ = some (.int .i64 s2) := by go_simp
                    have c22_glass_2 : (w21.alloc (Obj.cells #[.int .i64 s1, .int .i64 s2, .int .i64 s3, .int .i64 s4] 31)).cell? ⟨w21.heap.size, 2, none⟩ = some (.int .i64 s3) := by go_simp
                    have c22_glass_3 : (w21.alloc (Obj.cells #[.int .i64 s1, .int .i64 s2, .int .i64 s3, .int .i64 s4] 31)).cell? ⟨w21.heap.size, 3, none⟩ = some (.int .i64 s4) := by go_simp
                    have q_glass : w21.heap.size < (w21.alloc (Obj.cells #[.int .i64 s1, .int .i64 s2, .int .i64 s3, .int .i64 s4] 31)).heap.size := by go_size
                    generalize (w21.alloc (Obj.cells #[.int .i64 s1, .int .i64 s2, .int .i64 s3, .int .i64 s4] 31)) = w22 at *
                    obtain ⟨hd22, -⟩ := bcell hb22
                    have hz22 := hb22.size
                    have c22_t_0 : w22.cell? ⟨w.heap.size, 0, none⟩ = some (.int .i64 n1) := (hd22 _ _ q_t).trans c21_t_0
                    have c22_t_1 : w22.cell? ⟨w.heap.size, 1, none⟩ = some (.int .i64 d1) := (hd22 _ _ q_t).trans c21_t_1
                    have c22_s_0 : w22.cell? ⟨w.heap.size + 1, 0, none⟩ = some (.int .i64 n4) := (hd22 _ _ q_s).trans c21_s_0
                    have c22_s_1 : w22.cell? ⟨w.heap.size + 1, 1, none⟩ = some (.int .i64 d4) := (hd22 _ _ q_s).trans c21_s_1
                    have c22_s_2 : w22.cell? ⟨w.heap.size + 1, 2, none⟩ = some (.int .i64 x4) := (hd22 _ _ q_s).trans c21_s_2
                    have c22_s_3 : w22.cell? ⟨w.heap.size + 1, 3, none⟩ = some (.int .i64 y4) := (hd22 _ _ q_s).trans c21_s_3
                    have c22_kk_0 : w22.cell? ⟨w.heap.size + 1 + 1, 0, none⟩ = some (.int .i64 n5) := (hd22 _ _ q_kk).trans c21_kk_0
                    have c22_kk_1 : w22.cell? ⟨w.heap.size + 1 + 1, 1, none⟩ = some (.int .i64 d5) := (hd22 _ _ q_kk).trans c21_kk_1
                    have c22_kk_2 : w22.cell? ⟨w.heap.size + 1 + 1, 2, none⟩ = some (.int .i64 x5) := (hd22 _ _ q_kk).trans c21_kk_2
                    have c22_kk_3 : w22.cell? ⟨w.heap.size + 1 + 1, 3, none⟩ = some (.int .i64 y5) := (hd22 _ _ q_kk).trans c21_kk_3
                    have c22_taken_0 : w22.cell? ⟨w1.heap.size, 0, none⟩ = some (.int .i64 xn) := (hd22 _ _ q_taken).trans c21_taken_0
                    have c22_taken_1 : w22.cell? ⟨w1.heap.size, 1, none⟩ = some (.int .i64 xd) := (hd22 _ _ q_taken).trans c21_taken_1
                    have c22_right_0 : w22.cell? ⟨w2.heap.size, 0, none⟩ = some (.int .i64 xn) := (hd22 _ _ q_right).trans c21_right_0
                    have c22_right_1 : w22.cell? ⟨w2.heap.size, 1, none⟩ = some (.int .i64 xd) := (hd22 _ _ q_right).trans c21_right_1
                    have c22_seen_0 : w22.cell? ⟨w3.heap.size, 0, none⟩ = some (.int .i64 sa) := (hd22 _ _ q_seen).trans c21_seen_0
                    have c22_seen_1 : w22.cell? ⟨w3.heap.size, 1, none⟩ = some (.int .i64 sb) := (hd22 _ _ q_seen).trans c21_seen_1
                    have c22_seen_2 : w22.cell? ⟨w3.heap.size, 2, none⟩ = some (.int .i64 sc) := (hd22 _ _ q_seen).trans c21_seen_2
                    have c22_seen_3 : w22.cell? ⟨w3.heap.size, 3, none⟩ = some (.int .i64 se) := (hd22 _ _ q_seen).trans c21_seen_3
                    have c22_want_0 : w22.cell? ⟨w4.heap.size, 0, none⟩ = some (.int .i64 sa) := (hd22 _ _ q_want).trans c21_want_0
                    have c22_want_1 : w22.cell? ⟨w4.heap.size, 1, none⟩ = some (.int .i64 sb) := (hd22 _ _ q_want).trans c21_want_1
                    have c22_want_2 : w22.cell? ⟨w4.heap.size, 2, none⟩ = some (.int .i64 sc) := (hd22 _ _ q_want).trans c21_want_2
                    have c22_want_3 : w22.cell? ⟨w4.heap.size, 3, none⟩ = some (.int .i64 se) := (hd22 _ _ q_want).trans c21_want_3
                    have c22_x_0 : w22.cell? ⟨w19.heap.size, 0, none⟩ = some (.int .i64 p1) := (hd22 _ _ q_x).trans c21_x_0
                    have c22_x_1 : w22.cell? ⟨w19.heap.size, 1, none⟩ = some (.int .i64 p2) := (hd22 _ _ q_x).trans c21_x_1
                    have c22_seen2_0 : w22.cell? ⟨w20.heap.size, 0, none⟩ = some (.int .i64 s1) := (hd22 _ _ q_seen2).trans c21_seen2_0
                    have c22_seen2_1 : w22.cell? ⟨w20.heap.size, 1, none⟩ = some (.int .i64 s2) := (hd22 _ _ q_seen2).trans c21_seen2_1
                    have c22_seen2_2 : w22.cell? ⟨w20.heap.size, 2, none⟩ = some (.int .i64 s3) := (hd22 _ _ q_seen2).trans c21_seen2_2
                    have c22_seen2_3 : w22.cell? ⟨w20.heap.size, 3, none⟩ = some (.int .i64 s4) := (hd22 _ _ q_seen2).trans c21_seen2_3
                    replace q_t : w.heap.size < w22.heap.size := by omega
                    replace q_s : w.heap.size + 1 < w22.heap.size := by omega
                    replace q_kk : w.heap.size + 1 + 1 < w22.heap.size := by omega
                    replace q_taken : w1.heap.size < w22.heap.size := by omega
                    replace q_right : w2.heap.size < w22.heap.size := by omega
                    replace q_seen : w3.heap.size < w22.heap.size := by omega
                    replace q_want : w4.heap.size < w22.heap.size := by omega
                    replace q_x : w19.heap.size < w22.heap.size := by omega
                    replace q_seen2 : w20.heap.size < w22.heap.size := by omega
                    have R22_all := Lib.hid (TRow.below R21_all.out hb22)
                    clear R21_all
                    have R22_model := Lib.hid (TRow.below R21_model.out hb22)
                    clear R21_model
                    have R22_mir := Lib.hid (TRow.below R21_mir.out hb22)
                    clear R21_mir
                    have R22_due := Lib.hid (TRow.below R21_due.out hb22)
                    clear R21_due
                    have BW22 : Below w.heap.size w w22 := BW21.trans (hb22.mono BW21.size)
                    have BX22 : Below w19.heap.size w19 w22 := BX21.trans (hb22.mono BX21.size)
                    clear BX21
                    clear hb22 hd22 c21_t_0 c21_t_1 c21_s_0 c21_s_1 c21_s_2 c21_s_3 c21_kk_0 c21_kk_1 c21_kk_2 c21_kk_3 c21_taken_0 c21_taken_1 c21_right_0 c21_right_1 c21_seen_0 c21_seen_1 c21_seen_2 c21_seen_3 c21_want_0 c21_want_1 c21_want_2 c21_want_3 c21_x_0 c21_x_1 c21_seen2_0 c21_seen2_1 c21_seen2_2 c21_seen2_3 BW21
                    go_wp2_with fail
                    go_roundw
                    case rel => exact ⟨k + 1, by omega, by go_num, hb19'.trans (BX22.mono hb19'.size)⟩
                    case measure => simp [RowKit.intOf]; omega
                  skip
                  go_wp2_with fail
                  refine (wRises_yes LO _ _ _ R19_mir.out HLO.out HRO.out).mono ?_
                  rintro e20 w20 ⟨rfl, hb20⟩
                  obtain ⟨hc20, hf20⟩ := bcell hb20
                  have hz20 := hb20.size
                  (try simp only [World.size_alloc, World.size_setCell, World.size_drew] at hz20)
                  have B20 : Below w19.heap.size w19 w20 := Below.trans (b := _) (by (repeat' (first | (with_reducible exact Below.refl _ _) | (with_reducible assumption) | (with_reducible refine Below.alloc ?_ ?_ _) | (with_reducible refine Below.drew ?_) | (with_reducible refine below_drewN ?_ _) | (with_reducible refine Below.setCell ?_ ?_ _) | (with_reducible refine below_call ?_ ?_ (by assumption)) | go_size))) (hb20.mono (by first | omega | (simp only [World.size_alloc, World.size_setCell, World.size_drew]; omega)))
                  obtain ⟨hd20, -⟩ := bcell B20
                  have c20_t_0 : w20.cell? ⟨w.heap.size, 0, none⟩ = some (.int .i64 n1) := (hd20 _ _ q_t).trans c19_t_0
                  have c20_t_1 : w20.cell? ⟨w.heap.size, 1, none⟩ = some (.int .i64 d1) := (hd20 _ _ q_t).trans c19_t_1
                  have c20_s_0 : w20.cell? ⟨w.heap.size + 1, 0, none⟩ = some (.int .i64 n4) := (hd20 _ _ q_s).trans c19_s_0
                  have c20_s_1 : w20.cell? ⟨w.heap.size + 1, 1, none⟩ = some (.int .i64 d4) := (hd20 _ _ q_s).trans c19_s_1
                  have c20_s_2 : w20.cell? ⟨w.heap.size + 1, 2, none⟩ = some (.int .i64 x4) := (hd20 _ _ q_s).trans c19_s_2
                  have c20_s_3 : w20.cell? ⟨w.heap.size + 1, 3, none⟩ = some (.int .i64 y4) := (hd20 _ _ q_s).trans c19_s_3
                  have c20_kk_0 : w20.cell? ⟨w.heap.size + 1 + 1, 0, none⟩ = some (.int .i64 n5) := (hd20 _ _ q_kk).trans c19_kk_0
                  have c20_kk_1 : w20.cell? ⟨w.heap.size + 1 + 1, 1, none⟩ = some (.int .i64 d5) := (hd20 _ _ q_kk).trans c19_kk_1
                  have c20_kk_2 : w20.cell? ⟨w.heap.size + 1 + 1, 2, none⟩ = some (.int .i64 x5) := (hd20 _ _ q_kk).trans c19_kk_2
                  have c20_kk_3 : w20.cell? ⟨w.heap.size + 1 + 1, 3, none⟩ = some (.int .i64 y5) := (hd20 _ _ q_kk).trans c19_kk_3
                  have c20_taken_0 : w20.cell? ⟨w1.heap.size, 0, none⟩ = some (.int .i64 xn) := (hd20 _ _ q_taken).trans c19_taken_0
                  have c20_taken_1 : w20.cell? ⟨w1.heap.size, 1, none⟩ = some (.int .i64 xd) := (hd20 _ _ q_taken).trans c19_taken_1
                  have c20_right_0 : w20.cell? ⟨w2.heap.size, 0, none⟩ = some (.int .i64 xn) := (hd20 _ _ q_right).trans c19_right_0
                  have c20_right_1 : w20.cell? ⟨w2.heap.size, 1, none⟩ = some (.int .i64 xd) := (hd20 _ _ q_right).trans c19_right_1
                  have c20_seen_0 : w20.cell? ⟨w3.heap.size, 0, none⟩ = some (.int .i64 sa) := (hd20 _ _ q_seen).trans c19_seen_0
                  have c20_seen_1 : w20.cell? ⟨w3.heap.size, 1, none⟩ = some (.int .i64 sb) := (hd20 _ _ q_seen).trans c19_seen_1
                  have c20_seen_2 : w20.cell? ⟨w3.heap.size, 2, none⟩ = some (.int .i64 sc) := (hd20 _ _ q_seen).trans c19_seen_2
                  have c20_seen_3 : w20.cell? ⟨w3.heap.size, 3, none⟩ = some (.int .i64 se) := (hd20 _ _ q_seen).trans c19_seen_3
                  have c20_want_0 : w20.cell? ⟨w4.heap.size, 0, none⟩ = some (.int .i64 sa) := (hd20 _ _ q_want).trans c19_want_0
                  have c20_want_1 : w20.cell? ⟨w4.heap.size, 1, none⟩ = some (.int .i64 sb) := (hd20 _ _ q_want).trans c19_want_1
                  have c20_want_2 : w20.cell? ⟨w4.heap.size, 2, none⟩ = some (.int .i64 sc) := (hd20 _ _ q_want).trans c19_want_2
                  have c20_want_3 : w20.cell? ⟨w4.heap.size, 3, none⟩ = some (.int .i64 se) := (hd20 _ _ q_want).trans c19_want_3
                  replace q_t : w.heap.size < w20.heap.size := by omega
                  replace q_s : w.heap.size + 1 < w20.heap.size := by omega
                  replace q_kk : w.heap.size + 1 + 1 < w20.heap.size := by omega
                  replace q_taken : w1.heap.size < w20.heap.size := by omega
                  replace q_right : w2.heap.size < w20.heap.size := by omega
                  replace q_seen : w3.heap.size < w20.heap.size := by omega
                  replace q_want : w4.heap.size < w20.heap.size := by omega
                  have R20_all := Lib.hid (TRow.below R19_all.out B20)
                  clear R19_all
                  have R20_model := Lib.hid (TRow.below R19_model.out B20)
                  clear R19_model
                  have R20_mir := Lib.hid (TRow.below R19_mir.out B20)
                  clear R19_mir
                  have R20_due := Lib.hid (TRow.below R19_due.out B20)
                  clear R19_due
                  have BW20 : Below w.heap.size w w20 := BW19.trans (B20.mono BW19.size)
                  have BX20 : Below w16.heap.size w16 w20 := BX19.trans (B20.mono BX19.size)
                  clear BX19
                  clear hc20 hf20 hb20 hd20 B20 c19_t_0 c19_t_1 c19_s_0 c19_s_1 c19_s_2 c19_s_3 c19_kk_0 c19_kk_1 c19_kk_2 c19_kk_3 c19_taken_0 c19_taken_1 c19_right_0 c19_right_1 c19_seen_0 c19_seen_1 c19_seen_2 c19_seen_3 c19_want_0 c19_want_1 c19_want_2 c19_want_3 BW19
                  have hl2 : ((LO.length : Int) != 2) = false := by rw [HLM.out]; rfl
                  have hrelB := BX20
                  go_wp2_with fail
                  go_meet
                  case rel => exact hrelB
        case rest =>
          have hb17 := hcut
          obtain ⟨w17, hw17⟩ : ∃ x : World, x = wc := ⟨_, rfl⟩
          subst hw17
          obtain ⟨hc17, hf17⟩ := bcell hb17
          have hz17 := hb17.size
          (try simp only [World.size_alloc, World.size_setCell, World.size_drew] at hz17)
          have B17 : Below w16.heap.size w16 w17 := Below.trans (b := _) (by (repeat' (first | (with_reducible exact Below.refl _ _) | (with_reducible assumption) | (with_reducible refine Below.alloc ?_ ?_ _) | (with_reducible refine Below.drew ?_) | (with_reducible refine below_drewN ?_ _) | (with_reducible refine Below.setCell ?_ ?_ _) | (with_reducible refine below_call ?_ ?_ (by assumption)) | go_size))) (hb17.mono (by first | omega | (simp only [World.size_alloc, World.size_setCell, World.size_drew]; omega)))
          obtain ⟨hd17, -⟩ := bcell B17
          have c17_t_0 : w17.cell? ⟨w.heap.size, 0, none⟩ = some (.int .i64 n1) := (hd17 _ _ q_t).trans c16_t_0
          have c17_t_1 : w17.cell? ⟨w.heap.size, 1, none⟩ = some (.int .i64 d1) := (hd17 _ _ q_t).trans c16_t_1
          have c17_s_0 : w17.cell? ⟨w.heap.size + 1, 0, none⟩ = some (.int .i64 n4) := (hd17 _ _ q_s).trans c16_s_0
          have c17_s_1 : w17.cell? ⟨w.heap.size + 1, 1, none⟩ = some (.int .i64 d4) := (hd17 _ _ q_s).trans c16_s_1
          have c17_s_2 : w17.cell? ⟨w.heap.size + 1, 2, none⟩ = some (.int .i64 x4) := (hd17 _ _ q_s).trans c16_s_2
          have c17_s_3 : w17.cell? ⟨w.heap.size + 1, 3, none⟩ = some (.int .i64 y4) := (hd17 _ _ q_s).trans c16_s_3
          have c17_kk_0 : w17.cell? ⟨w.heap.size + 1 + 1, 0, none⟩ = some (.int .i64 n5) := (hd17 _ _ q_kk).trans c16_kk_0
          have c17_kk_1 : w17.cell? ⟨w.heap.size + 1 + 1, 1, none⟩ = some (.int .i64 d5) := (hd17 _ _ q_kk).trans c16_kk_1
          have c17_kk_2 : w17.cell? ⟨w.heap.size + 1 + 1, 2, none⟩ = some (.int .i64 x5) := (hd17 _ _ q_kk).trans c16_kk_2
          have c17_kk_3 : w17.cell? ⟨w.heap.size + 1 + 1, 3, none⟩ = some (.int .i64 y5) := (hd17 _ _ q_kk).trans c16_kk_3
          have c17_taken_0 : w17.cell? ⟨w1.heap.size, 0, none⟩ = some (.int .i64 xn) := (hd17 _ _ q_taken).trans c16_taken_0
          have c17_taken_1 : w17.cell? ⟨w1.heap.size, 1, none⟩ = some (.int .i64 xd) := (hd17 _ _ q_taken).trans c16_taken_1
          have c17_right_0 : w17.cell? ⟨w2.heap.size, 0, none⟩ = some (.int .i64 xn) := (hd17 _ _ q_right).trans c16_right_0
          have c17_right_1 : w17.cell? ⟨w2.heap.size, 1, none⟩ = some (.int .i64 xd) := (hd17 _ _ q_right).trans c16_right_1
          have c17_seen_0 : w17.cell? ⟨w3.heap.size, 0, none⟩ = some (.int .i64 sa) := (hd17 _ _ q_seen).trans c16_seen_0
          have c17_seen_1 : w17.cell? ⟨w3.heap.size, 1, none⟩ = some (.int .i64 sb) := (hd17 _ _ q_seen).trans c16_seen_1
          have c17_seen_2 : w17.cell? ⟨w3.heap.size, 2, none⟩ = some (.int .i64 sc) := (hd17 _ _ q_seen).trans c16_seen_2
          have c17_seen_3 : w17.cell? ⟨w3.heap.size, 3, none⟩ = some (.int .i64 se) := (hd17 _ _ q_seen).trans c16_seen_3
          have c17_want_0 : w17.cell? ⟨w4.heap.size, 0, none⟩ = some (.int .i64 sa) := (hd17 _ _ q_want).trans c16_want_0
          have c17_want_1 : w17.cell? ⟨w4.heap.size, 1, none⟩ = some (.int .i64 sb) := (hd17 _ _ q_want).trans c16_want_1
          have c17_want_2 : w17.cell? ⟨w4.heap.size, 2, none⟩ = some (.int .i64 sc) := (hd17 _ _ q_want).trans c16_want_2
          have c17_want_3 : w17.cell? ⟨w4.heap.size, 3, none⟩ = some (.int .i64 se) := (hd17 _ _ q_want).trans c16_want_3
          replace q_t : w.heap.size < w17.heap.size := by omega
          replace q_s : w.heap.size + 1 < w17.heap.size := by omega
          replace q_kk : w.heap.size + 1 + 1 < w17.heap.size := by omega
          replace q_taken : w1.heap.size < w17.heap.size := by omega
          replace q_right : w2.heap.size < w17.heap.size := by omega
          replace q_seen : w3.heap.size < w17.heap.size := by omega
          replace q_want : w4.heap.size < w17.heap.size := by omega
          have R17_all := Lib.hid (TRow.below R16_all.out B17)
          clear R16_all
          have R17_model := Lib.hid (TRow.below R16_model.out B17)
          clear R16_model
          have R17_mir := Lib.hid (TRow.below R16_mir.out B17)
          clear R16_mir
          have R17_due := Lib.hid (TRow.below R16_due.out B17)
          clear R16_due
          have BW17 : Below w.heap.size w w17 := BW16.trans (B17.mono BW16.size)
          clear hc17 hf17 hb17 hd17 B17 c16_t_0 c16_t_1 c16_s_0 c16_s_1 c16_s_2 c16_s_3 c16_kk_0 c16_kk_1 c16_kk_2 c16_kk_3 c16_taken_0 c16_taken_1 c16_right_0 c16_right_1 c16_seen_0 c16_seen_1 c16_seen_2 c16_seen_3 c16_want_0 c16_want_1 c16_want_2 c16_want_3 BW16
          go_wp2_with fail
          refine (C11.out _).mono ?_
          rintro e18 w18 ⟨rfl, hb18⟩
          obtain ⟨hc18, hf18⟩ := bcell hb18
          have hz18 := hb18.size
          (try simp only [World.size_alloc, World.size_setCell, World.size_drew] at hz18)
          have B18 : Below w17.heap.size w17 w18 := Below.trans (b := _) (by (repeat' (first | (with_reducible exact Below.refl _ _) | (with_reducible assumption) | (with_reducible refine Below.alloc ?_ ?_ _) | (with_reducible refine Below.drew ?_) | (with_reducible refine below_drewN ?_ _) | (with_reducible refine Below.setCell ?_ ?_ _) | (with_reducible refine below_call ?_ ?_ (by assumption)) | go_size))) (hb18.mono (by first | omega | (simp only [World.size_alloc, World.size_setCell, World.size_drew]; omega)))
          obtain ⟨hd18, -⟩ := bcell B18
          have c18_t_0 : w18.cell? ⟨w.heap.size, 0, none⟩ = some (.int .i64 n1) := (hd18 _ _ q_t).trans c17_t_0
          have c18_t_1 : w18.cell? ⟨w.heap.size, 1, none⟩ = some (.int .i64 d1) := (hd18 _ _ q_t).trans c17_t_1
          have c18_s_0 : w18.cell? ⟨w.heap.size + 1, 0, none⟩ = some (.int .i64 n4) := (hd18 _ _ q_s).trans c17_s_0
          have c18_s_1 : w18.cell? ⟨w.heap.size + 1, 1, none⟩ = some (.int .i64 d4) := (hd18 _ _ q_s).trans c17_s_1
          have c18_s_2 : w18.cell? ⟨w.heap.size + 1, 2, none⟩ = some (.int .i64 x4) := (hd18 _ _ q_s).trans c17_s_2
          have c18_s_3 : w18.cell? ⟨w.heap.size + 1, 3, none⟩ = some (.int .i64 y4) := (hd18 _ _ q_s).trans c17_s_3
          have c18_kk_0 : w18.cell? ⟨w.heap.size + 1 + 1, 0, none⟩ = some (.int .i64 n5) := (hd18 _ _ q_kk).trans c17_kk_0
          have c18_kk_1 : w18.cell? ⟨w.heap.size + 1 + 1, 1, none⟩ = some (.int .i64 d5) := (hd18 _ _ q_kk).trans c17_kk_1
          have c18_kk_2 : w18.cell? ⟨w.heap.size + 1 + 1, 2, none⟩ = some (.int .i64 x5) := (hd18 _ _ q_kk).trans c17_kk_2
          have c18_kk_3 : w18.cell? ⟨w.heap.size + 1 + 1, 3, none⟩ = some (.int .i64 y5) := (hd18 _ _ q_kk).trans c17_kk_3
          have c18_taken_0 : w18.cell? ⟨w1.heap.size, 0, none⟩ = some (.int .i64 xn) := (hd18 _ _ q_taken).trans c17_taken_0
          have c18_taken_1 : w18.cell? ⟨w1.heap.size, 1, none⟩ = some (.int .i64 xd) := (hd18 _ _ q_taken).trans c17_taken_1
          have c18_right_0 : w18.cell? ⟨w2.heap.size, 0, none⟩ = some (.int .i64 xn) := (hd18 _ _ q_right).trans c17_right_0
          have c18_right_1 : w18.cell? ⟨w2.heap.size, 1, none⟩ = some (.int .i64 xd) := (hd18 _ _ q_right).trans c17_right_1
          have c18_seen_0 : w18.cell? ⟨w3.heap.size, 0, none⟩ = some (.int .i64 sa) := (hd18 _ _ q_seen).trans c17_seen_0
          have c18_seen_1 : w18.cell? ⟨w3.heap.size, 1, none⟩ = some (.int .i64 sb) := (hd18 _ _ q_seen).trans c17_seen_1
          have c18_seen_2 : w18.cell? ⟨w3.heap.size, 2, none⟩ = some (.int .i64 sc) := (hd18 _ _ q_seen).trans c17_seen_2
          have c18_seen_3 : w18.cell? ⟨w3.heap.size, 3, none⟩ = some (.int .i64 se) := (hd18 _ _ q_seen).trans c17_seen_3
          have c18_want_0 : w18.cell? ⟨w4.heap.size, 0, none⟩ = some (.int .i64 sa) := (hd18 _ _ q_want).trans c17_want_0
          have c18_want_1 : w18.cell? ⟨w4.heap.size, 1, none⟩ = some (.int .i64 sb) := (hd18 _ _ q_want).trans c17_want_1
          have c18_want_2 : w18.cell? ⟨w4.heap.size, 2, none⟩ = some (.int .i64 sc) := (hd18 _ _ q_want).trans c17_want_2
          have c18_want_3 : w18.cell? ⟨w4.heap.size, 3, none⟩ = some (.int .i64 se) := (hd18 _ _ q_want).trans c17_want_3
          replace q_t : w.heap.size < w18.heap.size := by omega
          replace q_s : w.heap.size + 1 < w18.heap.size := by omega
          replace q_kk : w.heap.size + 1 + 1 < w18.heap.size := by omega
          replace q_taken : w1.heap.size < w18.heap.size := by omega
          replace q_right : w2.heap.size < w18.heap.size := by omega
          replace q_seen : w3.heap.size < w18.heap.size := by omega
          replace q_want : w4.heap.size < w18.heap.size := by omega
          have R18_all := Lib.hid (TRow.below R17_all.out B18)
          clear R17_all
          have R18_model := Lib.hid (TRow.below R17_model.out B18)
          clear R17_model
          have R18_mir := Lib.hid (TRow.below R17_mir.out B18)
          clear R17_mir
          have R18_due := Lib.hid (TRow.below R17_due.out B18)
          clear R17_due
          have BW18 : Below w.heap.size w w18 := BW17.trans (B18.mono BW17.size)
          clear hc18 hf18 hb18 hd18 B18 c17_t_0 c17_t_1 c17_s_0 c17_s_1 c17_s_2 c17_s_3 c17_kk_0 c17_kk_1 c17_kk_2 c17_kk_3 c17_taken_0 c17_taken_1 c17_right_0 c17_right_1 c17_seen_0 c17_seen_1 c17_seen_2 c17_seen_3 c17_want_0 c17_want_1 c17_want_2 c17_want_3 BW17
          go_wp2_with fail
          refine (C12.out _).mono ?_
          rintro e19 w19 ⟨rfl, hb19⟩
          obtain ⟨hc19, hf19⟩ := bcell hb19
          have hz19 := hb19.size
          (try simp only [World.size_alloc, World.size_setCell, World.size_drew] at hz19)
          have B19 : Below w18.heap.size w18 w19 := Below.trans (b := _) (by (repeat' (first | (with_reducible exact Below.refl _ _) | (with_reducible assumption) | (with_reducible refine Below.alloc ?_ ?_ _) | (with_reducible refine Below.drew ?_) | (with_reducible refine below_drewN ?_ _) | (with_reducible refine Below.setCell ?_ ?_ _) | (with_reducible refine below_call ?_ ?_ (by assumption)) | go_size))) (hb19.mono (by first | omega | (simp only [World.size_alloc, World.size_setCell, World.size_drew]; omega)))
          obtain ⟨hd19, -⟩ := bcell B19
          have c19_t_0 : w19.cell? ⟨w.heap.size, 0, none⟩ = some (.int .i64 n1) := (hd19 _ _ q_t).trans c18_t_0
          have c19_t_1 : w19.cell? ⟨w.heap.size, 1, none⟩ = some (.int .i64 d1) := (hd19 _ _ q_t).trans c18_t_1
          have c19_s_0 : w19.cell? ⟨w.heap.size + 1, 0, none⟩ = some (.int .i64 n4) := (hd19 _ _ q_s).trans c18_s_0
          have c19_s_1 : w19.cell? ⟨w.heap.size + 1, 1, none⟩ = some (.int .i64 d4) := (hd19 _ _ q_s).trans c18_s_1
          have c19_s_2 : w19.cell? ⟨w.heap.size + 1, 2, none⟩ = some (.int .i64 x4) := (hd19 _ _ q_s).trans c18_s_2
          have c19_s_3 : w19.cell? ⟨w.heap.size + 1, 3, none⟩ = some (.int .i64 y4) := (hd19 _ _ q_s).trans c18_s_3
          have c19_kk_0 : w19.cell? ⟨w.heap.size + 1 + 1, 0, none⟩ = some (.int .i64 n5) := (hd19 _ _ q_kk).trans c18_kk_0
          have c19_kk_1 : w19.cell? ⟨w.heap.size + 1 + 1, 1, none⟩ = some (.int .i64 d5) := (hd19 _ _ q_kk).trans c18_kk_1
          have c19_kk_2 : w19.cell? ⟨w.heap.size + 1 + 1, 2, none⟩ = some (.int .i64 x5) := (hd19 _ _ q_kk).trans c18_kk_2
          have c19_kk_3 : w19.cell? ⟨w.heap.size + 1 + 1, 3, none⟩ = some (.int .i64 y5) := (hd19 _ _ q_kk).trans c18_kk_3
          have c19_taken_0 : w19.cell? ⟨w1.heap.size, 0, none⟩ = some (.int .i64 xn) := (hd19 _ _ q_taken).trans c18_taken_0
          have c19_taken_1 : w19.cell? ⟨w1.heap.size, 1, none⟩ = some (.int .i64 xd) := (hd19 _ _ q_taken).trans c18_taken_1
          have c19_right_0 : w19.cell? ⟨w2.heap.size, 0, none⟩ = some (.int .i64 xn) := (hd19 _ _ q_right).trans c18_right_0
          have c19_right_1 : w19.cell? ⟨w2.heap.size, 1, none⟩ = some (.int .i64 xd) := (hd19 _ _ q_right).trans c18_right_1
          have c19_seen_0 : w19.cell? ⟨w3.heap.size, 0, none⟩ = some (.int .i64 sa) := (hd19 _ _ q_seen).trans c18_seen_0
          have c19_seen_1 : w19.cell? ⟨w3.heap.size, 1, none⟩ = some (.int .i64 sb) := (hd19 _ _ q_seen).trans c18_seen_1
          have c19_seen_2 : w19.cell? ⟨w3.heap.size, 2, none⟩ = some (.int .i64 sc) := (hd19 _ _ q_seen).trans c18_seen_2
          have c19_seen_3 : w19.cell? ⟨w3.heap.size, 3, none⟩ = some (.int .i64 se) := (hd19 _ _ q_seen).trans c18_seen_3
          have c19_want_0 : w19.cell? ⟨w4.heap.size, 0, none⟩ = some (.int .i64 sa) := (hd19 _ _ q_want).trans c18_want_0
          have c19_want_1 : w19.cell? ⟨w4.heap.size, 1, none⟩ = some (.int .i64 sb) := (hd19 _ _ q_want).trans c18_want_1
          have c19_want_2 : w19.cell? ⟨w4.heap.size, 2, none⟩ = some (.int .i64 sc) := (hd19 _ _ q_want).trans c18_want_2
          have c19_want_3 : w19.cell? ⟨w4.heap.size, 3, none⟩ = some (.int .i64 se) := (hd19 _ _ q_want).trans c18_want_3
          replace q_t : w.heap.size < w19.heap.size := by omega
          replace q_s : w.heap.size + 1 < w19.heap.size := by omega
          replace q_kk : w.heap.size + 1 + 1 < w19.heap.size := by omega
          replace q_taken : w1.heap.size < w19.heap.size := by omega
          replace q_right : w2.heap.size < w19.heap.size := by omega
          replace q_seen : w3.heap.size < w19.heap.size := by omega
          replace q_want : w4.heap.size < w19.heap.size := by omega
          have c19_tm2_0 : w19.cell? ⟨w18.heap.size, 0, none⟩ = some (.int .i64 qn) := (hc19 _ _ (by go_size)).trans (by go_simp)
          have c19_tm2_1 : w19.cell? ⟨w18.heap.size, 1, none⟩ = some (.int .i64 qd) := (hc19 _ _ (by go_size)).trans (by go_simp)
          have q_tm2 : w18.heap.size < w19.heap.size := by omega
          have R19_all := Lib.hid (TRow.below R18_all.out B19)
          clear R18_all
          have R19_model := Lib.hid (TRow.below R18_model.out B19)
          clear R18_model
          have R19_mir := Lib.hid (TRow.below R18_mir.out B19)
          clear R18_mir
          have R19_due := Lib.hid (TRow.below R18_due.out B19)
          clear R18_due
          have BW19 : Below w.heap.size w w19 := BW18.trans (B19.mono BW18.size)
          clear hc19 hf19 hb19 hd19 B19 c18_t_0 c18_t_1 c18_s_0 c18_s_1 c18_s_2 c18_s_3 c18_kk_0 c18_kk_1 c18_kk_2 c18_kk_3 c18_taken_0 c18_taken_1 c18_right_0 c18_right_1 c18_seen_0 c18_seen_1 c18_seen_2 c18_seen_3 c18_want_0 c18_want_1 c18_want_2 c18_want_3 BW18
          go_wp2_with fail
          refine (C13.out _).mono ?_
          rintro e20 w20 ⟨rfl, hb20⟩
          obtain ⟨hc20, hf20⟩ := bcell hb20
          have hz20 := hb20.size
          (try simp only [World.size_alloc, World.size_setCell, World.size_drew] at hz20)
          have B20 : Below w19.heap.size w19 w20 := Below.trans (b := _) (by (repeat' (first | (with_reducible exact Below.refl _ _) | (with_reducible assumption) | (with_reducible refine Below.alloc ?_ ?_ _) | (with_reducible refine Below.drew ?_) | (with_reducible refine below_drewN ?_ _) | (with_reducible refine Below.setCell ?_ ?_ _) | (with_reducible refine below_call ?_ ?_ (by assumption)) | go_size))) (hb20.mono (by first | omega | (simp only [World.size_alloc, World.size_setCell, World.size_drew]; omega)))
          obtain ⟨hd20, -⟩ := bcell B20
          have c20_t_0 : w20.cell? ⟨w.heap.size, 0, none⟩ = some (.int .i64 n1) := (hd20 _ _ q_t).trans c19_t_0
          have c20_t_1 : w20.cell? ⟨w.heap.size, 1, none⟩ = some (.int .i64 d1) := (hd20 _ _ q_t).trans c19_t_1
          have c20_s_0 : w20.cell? ⟨w.heap.size + 1, 0, none⟩ = some (.int .i64 n4) := (hd20 _ _ q_s).trans c19_s_0
          have c20_s_1 : w20.cell? ⟨w.heap.size + 1, 1, none⟩ = some (.int .i64 d4) := (hd20 _ _ q_s).trans c19_s_1
          have c20_s_2 : w20.cell? ⟨w.heap.size + 1, 2, none⟩ = some (.int .i64 x4) := (hd20 _ _ q_s).trans c19_s_2
          have c20_s_3 : w20.cell? ⟨w.heap.size + 1, 3, none⟩ = some (.int .i64 y4) := (hd20 _ _ q_s).trans c19_s_3
          have c20_kk_0 : w20.cell? ⟨w.heap.size + 1 + 1, 0, none⟩ = some (.int .i64 n5) := (hd20 _ _ q_kk).trans c19_kk_0
          have c20_kk_1 : w20.cell? ⟨w.heap.size + 1 + 1, 1, none⟩ = some (.int .i64 d5) := (hd20 _ _ q_kk).trans c19_kk_1
          have c20_kk_2 : w20.cell? ⟨w.heap.size + 1 + 1, 2, none⟩ = some (.int .i64 x5) := (hd20 _ _ q_kk).trans c19_kk_2
          have c20_kk_3 : w20.cell? ⟨w.heap.size + 1 + 1, 3, none⟩ = some (.int .i64 y5) := (hd20 _ _ q_kk).trans c19_kk_3
          have c20_taken_0 : w20.cell? ⟨w1.heap.size, 0, none⟩ = some (.int .i64 xn) := (hd20 _ _ q_taken).trans c19_taken_0
          have c20_taken_1 : w20.cell? ⟨w1.heap.size, 1, none⟩ = some (.int .i64 xd) := (hd20 _ _ q_taken).trans c19_taken_1
          have c20_right_0 : w20.cell? ⟨w2.heap.size, 0, none⟩ = some (.int .i64 xn) := (hd20 _ _ q_right).trans c19_right_0
          have c20_right_1 : w20.cell? ⟨w2.heap.size, 1, none⟩ = some (.int .i64 xd) := (hd20 _ _ q_right).trans c19_right_1
          have c20_seen_0 : w20.cell? ⟨w3.heap.size, 0, none⟩ = some (.int .i64 sa) := (hd20 _ _ q_seen).trans c19_seen_0
          have c20_seen_1 : w20.cell? ⟨w3.heap.size, 1, none⟩ = some (.int .i64 sb) := (hd20 _ _ q_seen).trans c19_seen_1
          have c20_seen_2 : w20.cell? ⟨w3.heap.size, 2, none⟩ = some (.int .i64 sc) := (hd20 _ _ q_seen).trans c19_seen_2
          have c20_seen_3 : w20.cell? ⟨w3.heap.size, 3, none⟩ = some (.int .i64 se) := (hd20 _ _ q_seen).trans c19_seen_3
          have c20_want_0 : w20.cell? ⟨w4.heap.size, 0, none⟩ = some (.int .i64 sa) := (hd20 _ _ q_want).trans c19_want_0
          have c20_want_1 : w20.cell? ⟨w4.heap.size, 1, none⟩ = some (.int .i64 sb) := (hd20 _ _ q_want).trans c19_want_1
          have c20_want_2 : w20.cell? ⟨w4.heap.size, 2, none⟩ = some (.int .i64 sc) := (hd20 _ _ q_want).trans c19_want_2
          have c20_want_3 : w20.cell? ⟨w4.heap.size, 3, none⟩ = some (.int .i64 se) := (hd20 _ _ q_want).trans c19_want_3
          have c20_tm2_0 : w20.cell? ⟨w18.heap.size, 0, none⟩ = some (.int .i64 qn) := (hd20 _ _ q_tm2).trans c19_tm2_0
          have c20_tm2_1 : w20.cell? ⟨w18.heap.size, 1, none⟩ = some (.int .i64 qd) := (hd20 _ _ q_tm2).trans c19_tm2_1
          replace q_t : w.heap.size < w20.heap.size := by omega
          replace q_s : w.heap.size + 1 < w20.heap.size := by omega
          replace q_kk : w.heap.size + 1 + 1 < w20.heap.size := by omega
          replace q_taken : w1.heap.size < w20.heap.size := by omega
          replace q_right : w2.heap.size < w20.heap.size := by omega
          replace q_seen : w3.heap.size < w20.heap.size := by omega
          replace q_want : w4.heap.size < w20.heap.size := by omega
          replace q_tm2 : w18.heap.size < w20.heap.size := by omega
          have c20_number_0 : w20.cell? ⟨w19.heap.size, 0, none⟩ = some (.int .i64 qn) := (hc20 _ _ (by go_size)).trans (by go_simp)
          have c20_number_1 : w20.cell? ⟨w19.heap.size, 1, none⟩ = some (.int .i64 qd) := (hc20 _ _ (by go_size)).trans (by go_simp)
          have q_number : w19.heap.size < w20.heap.size := by omega
          have R20_all := Lib.hid (TRow.below R19_all.out B20)
          clear R19_all
          have R20_model := Lib.hid (TRow.below R19_model.out B20)
          clear R19_model
          have R20_mir := Lib.hid (TRow.below R19_mir.out B20)
          clear R19_mir
          have R20_due := Lib.hid (TRow.below R19_due.out B20)
          clear R19_due
          have BW20 : Below w.heap.size w w20 := BW19.trans (B20.mono BW19.size)
          clear hc20 hf20 hb20 hd20 B20 c19_t_0 c19_t_1 c19_s_0 c19_s_1 c19_s_2 c19_s_3 c19_kk_0 c19_kk_1 c19_kk_2 c19_kk_3 c19_taken_0 c19_taken_1 c19_right_0 c19_right_1 c19_seen_0 c19_seen_1 c19_seen_2 c19_seen_3 c19_want_0 c19_want_1 c19_want_2 c19_want_3 c19_tm2_0 c19_tm2_1 BW19
          go_wp2_with fail
          refine (C14.out _).mono ?_
          rintro e21 w21 ⟨rfl, hb21⟩
          obtain ⟨hc21, hf21⟩ := bcell hb21
          have hz21 := hb21.size
          (try simp only [World.size_alloc, World.size_setCell, World.size_drew] at hz21)
          have B21 : Below w20.heap.size w20 w21 := Below.trans (b := _) (by (repeat' (first | (with_reducible exact Below.refl _ _) | (with_reducible assumption) | (with_reducible refine Below.alloc ?_ ?_ _) | (with_reducible refine Below.drew ?_) | (with_reducible refine below_drewN ?_ _) | (with_reducible refine Below.setCell ?_ ?_ _) | (with_reducible refine below_call ?_ ?_ (by assumption)) | go_size))) (hb21.mono (by first | omega | (simp only [World.size_alloc, World.size_setCell, World.size_drew]; omega)))
          obtain ⟨hd21, -⟩ := bcell B21
          have c21_t_0 : w21.cell? ⟨w.heap.size, 0, none⟩ = some (.int .i64 n1) := (hd21 _ _ q_t).trans c20_t_0
          have c21_t_1 : w21.cell? ⟨w.heap.size, 1, none⟩ = some (.int .i64 d1) := (hd21 _ _ q_t).trans c20_t_1
          have c21_s_0 : w21.cell? ⟨w.heap.size + 1, 0, none⟩ = some (.int .i64 n4) := (hd21 _ _ q_s).trans c20_s_0
          have c21_s_1 : w21.cell? ⟨w.heap.size + 1, 1, none⟩ = some (.int .i64 d4) := (hd21 _ _ q_s).trans c20_s_1
          have c21_s_2 : w21.cell? ⟨w.heap.size + 1, 2, none⟩ = some (.int .i64 x4) := (hd21 _ _ q_s).trans c20_s_2
          have c21_s_3 : w21.cell? ⟨w.heap.size + 1, 3, none⟩ = some (.int .i64 y4) := (hd21 _ _ q_s).trans c20_s_3
          have c21_kk_0 : w21.cell? ⟨w.heap.size + 1 + 1, 0, none⟩ = some (.int .i64 n5) := (hd21 _ _ q_kk).trans c20_kk_0
          have c21_kk_1 : w21.cell? ⟨w.heap.size + 1 + 1, 1, none⟩ = some (.int .i64 d5) := (hd21 _ _ q_kk).trans c20_kk_1
          have c21_kk_2 : w21.cell? ⟨w.heap.size + 1 + 1, 2, none⟩ = some (.int .i64 x5) := (hd21 _ _ q_kk).trans c20_kk_2
          have c21_kk_3 : w21.cell? ⟨w.heap.size + 1 + 1, 3, none⟩ = some (.int .i64 y5) := (hd21 _ _ q_kk).trans c20_kk_3
          have c21_taken_0 : w21.cell? ⟨w1.heap.size, 0, none⟩ = some (.int .i64 xn) := (hd21 _ _ q_taken).trans c20_taken_0
          have c21_taken_1 : w21.cell? ⟨w1.heap.size, 1, none⟩ = some (.int .i64 xd) := (hd21 _ _ q_taken).trans c20_taken_1
          have c21_right_0 : w21.cell? ⟨w2.heap.size, 0, none⟩ = some (.int .i64 xn) := (hd21 _ _ q_right).trans c20_right_0
          have c21_right_1 : w21.cell? ⟨w2.heap.size, 1, none⟩ = some (.int .i64 xd) := (hd21 _ _ q_right).trans c20_right_1
          have c21_seen_0 : w21.cell? ⟨w3.heap.size, 0, none⟩ = some (.int .i64 sa) := (hd21 _ _ q_seen).trans c20_seen_0
          have c21_seen_1 : w21.cell? ⟨w3.heap.size, 1, none⟩ = some (.int .i64 sb) := (hd21 _ _ q_seen).trans c20_seen_1
          have c21_seen_2 : w21.cell? ⟨w3.heap.size, 2, none⟩ = some (.int .i64 sc) := (hd21 _ _ q_seen).trans c20_seen_2
          have c21_seen_3 : w21.cell? ⟨w3.heap.size, 3, none⟩ = some (.int .i64 se) := (hd21 _ _ q_seen).trans c20_seen_3
          have c21_want_0 : w21.cell? ⟨w4.heap.size, 0, none⟩ = some (.int .i64 sa) := (hd21 _ _ q_want).trans c20_want_0
          have c21_want_1 : w21.cell? ⟨w4.heap.size, 1, none⟩ = some (.int .i64 sb) := (hd21 _ _ q_want).trans c20_want_1
          have c21_want_2 : w21.cell? ⟨w4.heap.size, 2, none⟩ = some (.int .i64 sc) := (hd21 _ _ q_want).trans c20_want_2
          have c21_want_3 : w21.cell? ⟨w4.heap.size, 3, none⟩ = some (.int .i64 se) := (hd21 _ _ q_want).trans c20_want_3
          have c21_tm2_0 : w21.cell? ⟨w18.heap.size, 0, none⟩ = some (.int .i64 qn) := (hd21 _ _ q_tm2).trans c20_tm2_0
          have c21_tm2_1 : w21.cell? ⟨w18.heap.size, 1, none⟩ = some (.int .i64 qd) := (hd21 _ _ q_tm2).trans c20_tm2_1
          have c21_number_0 : w21.cell? ⟨w19.heap.size, 0, none⟩ = some (.int .i64 qn) := (hd21 _ _ q_number).trans c20_number_0
          have c21_number_1 : w21.cell? ⟨w19.heap.size, 1, none⟩ = some (.int .i64 qd) := (hd21 _ _ q_number).trans c20_number_1
          replace q_t : w.heap.size < w21.heap.size := by omega
          replace q_s : w.heap.size + 1 < w21.heap.size := by omega
          replace q_kk : w.heap.size + 1 + 1 < w21.heap.size := by omega
          replace q_taken : w1.heap.size < w21.heap.size := by omega
          replace q_right : w2.heap.size < w21.heap.size := by omega
          replace q_seen : w3.heap.size < w21.heap.size := by omega
          replace q_want : w4.heap.size < w21.heap.size := by omega
          replace q_tm2 : w18.heap.size < w21.heap.size := by omega
          replace q_number : w19.heap.size < w21.heap.size := by omega
          have R21_all := Lib.hid (TRow.below R20_all.out B21)
          clear R20_all
          have R21_model := Lib.hid (TRow.below R20_model.out B21)
          clear R20_model
          have R21_mir := Lib.hid (TRow.below R20_mir.out B21)
          clear R20_mir
          have R21_due := Lib.hid (TRow.below R20_due.out B21)
          clear R20_due
          have BW21 : Below w.heap.size w w21 := BW20.trans (B21.mono BW20.size)
          clear hc21 hf21 hb21 hd21 B21 c20_t_0 c20_t_1 c20_s_0 c20_s_1 c20_s_2 c20_s_3 c20_kk_0 c20_kk_1 c20_kk_2 c20_kk_3 c20_taken_0 c20_taken_1 c20_right_0 c20_right_1 c20_seen_0 c20_seen_1 c20_seen_2 c20_seen_3 c20_want_0 c20_want_1 c20_want_2 c20_want_3 c20_tm2_0 c20_tm2_1 c20_number_0 c20_number_1 BW20
          go_wp2_with fail
          refine (C15.out _).mono ?_
          rintro e22 w22 ⟨v_al2, rfl, hr22, hb22⟩
          obtain ⟨pa_al2, pc_al2, rfl, -⟩ := TRow.cells hr22
          have R22_al2 := Lib.hid hr22
          clear hr22
          obtain ⟨hc22, hf22⟩ := bcell hb22
          have hz22 := hb22.size
          (try simp only [World.size_alloc, World.size_setCell, World.size_drew] at hz22)
          have B22 : Below w21.heap.size w21 w22 := Below.trans (b := _) (by (repeat' (first | (with_reducible exact Below.refl _ _) | (with_reducible assumption) | (with_reducible refine Below.alloc ?_ ?_ _) | (with_reducible refine Below.drew ?_) | (with_reducible refine below_drewN ?_ _) | (with_reducible refine Below.setCell ?_ ?_ _) | (with_reducible refine below_call ?_ ?_ (by assumption)) | go_size))) (hb22.mono (by first | omega | (simp only [World.size_alloc, World.size_setCell, World.size_drew]; omega)))
          obtain ⟨hd22, -⟩ := bcell B22
          have c22_t_0 : w22.cell? ⟨w.heap.size, 0, none⟩ = some (.int .i64 n1) := (hd22 _ _ q_t).trans c21_t_0
          have c22_t_1 : w22.cell? ⟨w.heap.size, 1, none⟩ = some (.int .i64 d1) := (hd22 _ _ q_t).trans c21_t_1
          have c22_s_0 : w22.cell? ⟨w.heap.size + 1, 0, none⟩ = some (.int .i64 n4) := (hd22 _ _ q_s).trans c21_s_0
          have c22_s_1 : w22.cell? ⟨w.heap.size + 1, 1, none⟩ = some (.int .i64 d4) := (hd22 _ _ q_s).trans c21_s_1
          have c22_s_2 : w22.cell? ⟨w.heap.size + 1, 2, none⟩ = some (.int .i64 x4) := (hd22 _ _ q_s).trans c21_s_2
          have c22_s_3 : w22.cell? ⟨w.heap.size + 1, 3, none⟩ = some (.int .i64 y4) := (hd22 _ _ q_s).trans c21_s_3
          have c22_kk_0 : w22.cell? ⟨w.heap.size + 1 + 1, 0, none⟩ = some (.int .i64 n5) := (hd22 _ _ q_kk).trans c21_kk_0
          have c22_kk_1 : w22.cell? ⟨w.heap.size + 1 + 1, 1, none⟩ = some (.int .i64 d5) := (hd22 _ _ q_kk).trans c21_kk_1
          have c22_kk_2 : w22.cell? ⟨w.heap.size + 1 + 1, 2, none⟩ = some (.int .i64 x5) := (hd22 _ _ q_kk).trans c21_kk_2
          have c22_kk_3 : w22.cell? ⟨w.heap.size + 1 + 1, 3, none⟩ = some (.int .i64 y5) := (hd22 _ _ q_kk).trans c21_kk_3
          have c22_taken_0 : w22.cell? ⟨w1.heap.size, 0, none⟩ = some (.int .i64 xn) := (hd22 _ _ q_taken).trans c21_taken_0
          have c22_taken_1 : w22.cell? ⟨w1.heap.size, 1, none⟩ = some (.int .i64 xd) := (hd22 _ _ q_taken).trans c21_taken_1
          have c22_right_0 : w22.cell? ⟨w2.heap.size, 0, none⟩ = some (.int .i64 xn) := (hd22 _ _ q_right).trans c21_right_0
          have c22_right_1 : w22.cell? ⟨w2.heap.size, 1, none⟩ = some (.int .i64 xd) := (hd22 _ _ q_right).trans c21_right_1
          have c22_seen_0 : w22.cell? ⟨w3.heap.size, 0, none⟩ = some (.int .i64 sa) := (hd22 _ _ q_seen).trans c21_seen_0
          have c22_seen_1 : w22.cell? ⟨w3.heap.size, 1, none⟩ = some (.int .i64 sb) := (hd22 _ _ q_seen).trans c21_seen_1
          have c22_seen_2 : w22.cell? ⟨w3.heap.size, 2, none⟩ = some (.int .i64 sc) := (hd22 _ _ q_seen).trans c21_seen_2
          have c22_seen_3 : w22.cell? ⟨w3.heap.size, 3, none⟩ = some (.int .i64 se) := (hd22 _ _ q_seen).trans c21_seen_3
          have c22_want_0 : w22.cell? ⟨w4.heap.size, 0, none⟩ = some (.int .i64 sa) := (hd22 _ _ q_want).trans c21_want_0
          have c22_want_1 : w22.cell? ⟨w4.heap.size, 1, none⟩ = some (.int .i64 sb) := (hd22 _ _ q_want).trans c21_want_1
          have c22_want_2 : w22.cell? ⟨w4.heap.size, 2, none⟩ = some (.int .i64 sc) := (hd22 _ _ q_want).trans c21_want_2
          have c22_want_3 : w22.cell? ⟨w4.heap.size, 3, none⟩ = some (.int .i64 se) := (hd22 _ _ q_want).trans c21_want_3
          have c22_tm2_0 : w22.cell? ⟨w18.heap.size, 0, none⟩ = some (.int .i64 qn) := (hd22 _ _ q_tm2).trans c21_tm2_0
          have c22_tm2_1 : w22.cell? ⟨w18.heap.size, 1, none⟩ = some (.int .i64 qd) := (hd22 _ _ q_tm2).trans c21_tm2_1
          have c22_number_0 : w22.cell? ⟨w19.heap.size, 0, none⟩ = some (.int .i64 qn) := (hd22 _ _ q_number).trans c21_number_0
          have c22_number_1 : w22.cell? ⟨w19.heap.size, 1, none⟩ = some (.int .i64 qd) := (hd22 _ _ q_number).trans c21_number_1
          replace q_t : w.heap.size < w22.heap.size := by omega
          replace q_s : w.heap.size + 1 < w22.heap.size := by omega
          replace q_kk : w.heap.size + 1 + 1 < w22.heap.size := by omega
          replace q_taken : w1.heap.size < w22.heap.size := by omega
          replace q_right : w2.heap.size < w22.heap.size := by omega
          replace q_seen : w3.heap.size < w22.heap.size := by omega
          replace q_want : w4.heap.size < w22.heap.size := by omega
          replace q_tm2 : w18.heap.size < w22.heap.size := by omega
          replace q_number : w19.heap.size < w22.heap.size := by omega
          have R22_all := Lib.hid (TRow.below R21_all.out B22)
          clear R21_all
          have R22_model := Lib.hid (TRow.below R21_model.out B22)
          clear R21_model
          have R22_mir := Lib.hid (TRow.below R21_mir.out B22)
          clear R21_mir
          have R22_due := Lib.hid (TRow.below R21_due.out B22)
          clear R21_due
          have BW22 : Below w.heap.size w w22 := BW21.trans (B22.mono BW21.size)
          clear hc22 hf22 hb22 hd22 B22 c21_t_0 c21_t_1 c21_s_0 c21_s_1 c21_s_2 c21_s_3 c21_kk_0 c21_kk_1 c21_kk_2 c21_kk_3 c21_taken_0 c21_taken_1 c21_right_0 c21_right_1 c21_seen_0 c21_seen_1 c21_seen_2 c21_seen_3 c21_want_0 c21_want_1 c21_want_2 c21_want_3 c21_tm2_0 c21_tm2_1 c21_number_0 c21_number_1 BW21
          go_wp2_with fail
          refine (C16.out _).mono ?_
          rintro e23 w23 ⟨v_list, rfl, hr23, hb23⟩
          obtain ⟨pa_list, pc_list, rfl, -⟩ := TRow.cells hr23
          have R23_list := Lib.hid hr23
          clear hr23
          obtain ⟨hc23, hf23⟩ := bcell hb23
          have hz23 := hb23.size
          (try simp only [World.size_alloc, World.size_setCell, World.size_drew] at hz23)
          have B23 : Below w22.heap.size w22 w23 := Below.trans (b := _) (by (repeat' (first | (with_reducible exact Below.refl _ _) | (with_reducible assumption) | (with_reducible refine Below.alloc ?_ ?_ _) | (with_reducible refine Below.drew ?_) | (with_reducible refine below_drewN ?_ _) | (with_reducible refine Below.setCell ?_ ?_ _) | (with_reducible refine below_call ?_ ?_ (by assumption)) | go_size))) (hb23.mono (by first | omega | (simp only [World.size_alloc, World.size_setCell, World.size_drew]; omega)))
          obtain ⟨hd23, -⟩ := bcell B23
          have c23_t_0 : w23.cell? ⟨w.heap.size, 0, none⟩ = some (.int .i64 n1) := (hd23 _ _ q_t).trans c22_t_0
          have c23_t_1 : w23.cell? ⟨w.heap.size, 1, none⟩ = some (.int .i64 d1) := (hd23 _ _ q_t).trans c22_t_1
          have c23_s_0 : w23.cell? ⟨w.heap.size + 1, 0, none⟩ = some (.int .i64 n4) := (hd23 _ _ q_s).trans c22_s_0
          have c23_s_1 : w23.cell? ⟨w.heap.size + 1, 1, none⟩ = some (.int .i64 d4) := (hd23 _ _ q_s).trans c22_s_1
          have c23_s_2 : w23.cell? ⟨w.heap.size + 1, 2, none⟩ = some (.int .i64 x4) := (hd23 _ _ q_s).trans c22_s_2
          have c23_s_3 : w23.cell? ⟨w.heap.size + 1, 3, none⟩ = some (.int .i64 y4) := (hd23 _ _ q_s).trans c22_s_3
          have c23_kk_0 : w23.cell? ⟨w.heap.size + 1 + 1, 0, none⟩ = some (.int .i64 n5) := (hd23 _ _ q_kk).trans c22_kk_0
          have c23_kk_1 : w23.cell? ⟨w.heap.size + 1 + 1, 1, none⟩ = some (.int .i64 d5) := (hd23 _ _ q_kk).trans c22_kk_1
          have c23_kk_2 : w23.cell? ⟨w.heap.size + 1 + 1, 2, none⟩ = some (.int .i64 x5) := (hd23 _ _ q_kk).trans c22_kk_2
          have c23_kk_3 : w23.cell? ⟨w.heap.size + 1 + 1, 3, none⟩ = some (.int .i64 y5) := (hd23 _ _ q_kk).trans c22_kk_3
          have c23_taken_0 : w23.cell? ⟨w1.heap.size, 0, none⟩ = some (.int .i64 xn) := (hd23 _ _ q_taken).trans c22_taken_0
          have c23_taken_1 : w23.cell? ⟨w1.heap.size, 1, none⟩ = some (.int .i64 xd) := (hd23 _ _ q_taken).trans c22_taken_1
          have c23_right_0 : w23.cell? ⟨w2.heap.size, 0, none⟩ = some (.int .i64 xn) := (hd23 _ _ q_right).trans c22_right_0
          have c23_right_1 : w23.cell? ⟨w2.heap.size, 1, none⟩ = some (.int .i64 xd) := (hd23 _ _ q_right).trans c22_right_1
          have c23_seen_0 : w23.cell? ⟨w3.heap.size, 0, none⟩ = some (.int .i64 sa) := (hd23 _ _ q_seen).trans c22_seen_0
          have c23_seen_1 : w23.cell? ⟨w3.heap.size, 1, none⟩ = some (.int .i64 sb) := (hd23 _ _ q_seen).trans c22_seen_1
          have c23_seen_2 : w23.cell? ⟨w3.heap.size, 2, none⟩ = some (.int .i64 sc) := (hd23 _ _ q_seen).trans c22_seen_2
          have c23_seen_3 : w23.cell? ⟨w3.heap.size, 3, none⟩ = some (.int .i64 se) := (hd23 _ _ q_seen).trans c22_seen_3
          have c23_want_0 : w23.cell? ⟨w4.heap.size, 0, none⟩ = some (.int .i64 sa) := (hd23 _ _ q_want).trans c22_want_0
          have c23_want_1 : w23.cell? ⟨w4.heap.size, 1, none⟩ = some (.int .i64 sb) := (hd23 _ _ q_want).trans c22_want_1
          have c23_want_2 : w23.cell? ⟨w4.heap.size, 2, none⟩ = some (.int .i64 sc) := (hd23 _ _ q_want).trans c22_want_2
          have c23_want_3 : w23.cell? ⟨w4.heap.size, 3, none⟩ = some (.int .i64 se) := (hd23 _ _ q_want).trans c22_want_3
          have c23_tm2_0 : w23.cell? ⟨w18.heap.size, 0, none⟩ = some (.int .i64 qn) := (hd23 _ _ q_tm2).trans c22_tm2_0
          have c23_tm2_1 : w23.cell? ⟨w18.heap.size, 1, none⟩ = some (.int .i64 qd) := (hd23 _ _ q_tm2).trans c22_tm2_1
          have c23_number_0 : w23.cell? ⟨w19.heap.size, 0, none⟩ = some (.int .i64 qn) := (hd23 _ _ q_number).trans c22_number_0
          have c23_number_1 : w23.cell? ⟨w19.heap.size, 1, none⟩ = some (.int .i64 qd) := (hd23 _ _ q_number).trans c22_number_1
          replace q_t : w.heap.size < w23.heap.size := by omega
          replace q_s : w.heap.size + 1 < w23.heap.size := by omega
          replace q_kk : w.heap.size + 1 + 1 < w23.heap.size := by omega
          replace q_taken : w1.heap.size < w23.heap.size := by omega
          replace q_right : w2.heap.size < w23.heap.size := by omega
          replace q_seen : w3.heap.size < w23.heap.size := by omega
          replace q_want : w4.heap.size < w23.heap.size := by omega
          replace q_tm2 : w18.heap.size < w23.heap.size := by omega
          replace q_number : w19.heap.size < w23.heap.size := by omega
          have R23_all := Lib.hid (TRow.below R22_all.out B23)
          clear R22_all
          have R23_model := Lib.hid (TRow.below R22_model.out B23)
          clear R22_model
          have R23_mir := Lib.hid (TRow.below R22_mir.out B23)
          clear R22_mir
          have R23_due := Lib.hid (TRow.below R22_due.out B23)
          clear R22_due
          have R23_al2 := Lib.hid (TRow.below R22_al2.out B23)
          clear R22_al2
          have BW23 : Below w.heap.size w w23 := BW22.trans (B23.mono BW22.size)
          clear hc23 hf23 hb23 hd23 B23 c22_t_0 c22_t_1 c22_s_0 c22_s_1 c22_s_2 c22_s_3 c22_kk_0 c22_kk_1 c22_kk_2 c22_kk_3 c22_taken_0 c22_taken_1 c22_right_0 c22_right_1 c22_seen_0 c22_seen_1 c22_seen_2 c22_seen_3 c22_want_0 c22_want_1 c22_want_2 c22_want_3 c22_tm2_0 c22_tm2_1 c22_number_0 c22_number_1 BW22
          go_upto_region 61 with fail
          go_cut [465] from 999 to 999 (fun x wx => x = .bool false ∧ Below w23.heap.size w23 wx)
          case first =>
            as_aux_lemma =>
              go_wp2_with fail
              refine (wTurns_same LT _ _ _ _ _ R23_al2.out R23_list.out HLT.out).mono ?_
              rintro e24 w24 ⟨rfl, hb24⟩
              obtain ⟨hc24, hf24⟩ := bcell hb24
              have hz24 := hb24.size
              (try simp only [World.size_alloc, World.size_setCell, World.size_drew] at hz24)
              have B24 : Below w23.heap.size w23 w24 := Below.trans (b := _) (by (repeat' (first | (with_reducible exact Below.refl _ _) | (with_reducible assumption) | (with_reducible refine Below.alloc ?_ ?_ _) | (with_reducible refine Below.drew ?_) | (with_reducible refine below_drewN ?_ _) | (with_reducible refine Below.setCell ?_ ?_ _) | (with_reducible refine below_call ?_ ?_ (by assumption)) | go_size))) (hb24.mono (by first | omega | (simp only [World.size_alloc, World.size_setCell, World.size_drew]; omega)))
              obtain ⟨hd24, -⟩ := bcell B24
              have c24_t_0 : w24.cell? ⟨w.heap.size, 0, none⟩ = some (.int .i64 n1) := (hd24 _ _ q_t).trans c23_t_0
              have c24_t_1 : w24.cell? ⟨w.heap.size, 1, none⟩ = some (.int .i64 d1) := (hd24 _ _ q_t).trans c23_t_1
              have c24_s_0 : w24.cell? ⟨w.heap.size + 1, 0, none⟩ = some (.int .i64 n4) := (hd24 _ _ q_s).trans c23_s_0
              have c24_s_1 : w24.cell? ⟨w.heap.size + 1, 1, none⟩ = some (.int .i64 d4) := (hd24 _ _ q_s).trans c23_s_1
              have c24_s_2 : w24.cell? ⟨w.heap.size + 1, 2, none⟩ = some (.int .i64 x4) := (hd24 _ _ q_s).trans c23_s_2
              have c24_s_3 : w24.cell? ⟨w.heap.size + 1, 3, none⟩ = some (.int .i64 y4) := (hd24 _ _ q_s).trans c23_s_3
              have c24_kk_0 : w24.cell? ⟨w.heap.size + 1 + 1, 0, none⟩ = some (.int .i64 n5) := (hd24 _ _ q_kk).trans c23_kk_0
              have c24_kk_1 : w24.cell? ⟨w.heap.size + 1 + 1, 1, none⟩ = some (.int .i64 d5) := (hd24 _ _ q_kk).trans c23_kk_1
              have c24_kk_2 : w24.cell? ⟨w.heap.size + 1 + 1, 2, none⟩ = some (.int .i64 x5) := (hd24 _ _ q_kk).trans c23_kk_2
              have c24_kk_3 : w24.cell? ⟨w.heap.size + 1 + 1, 3, none⟩ = some (.int .i64 y5) := (hd24 _ _ q_kk).trans c23_kk_3
              have c24_taken_0 : w24.cell? ⟨w1.heap.size, 0, none⟩ = some (.int .i64 xn) := (hd24 _ _ q_taken).trans c23_taken_0
              have c24_taken_1 : w24.cell? ⟨w1.heap.size, 1, none⟩ = some (.int .i64 xd) := (hd24 _ _ q_taken).trans c23_taken_1
              have c24_right_0 : w24.cell? ⟨w2.heap.size, 0, none⟩ = some (.int .i64 xn) := (hd24 _ _ q_right).trans c23_right_0
              have c24_right_1 : w24.cell? ⟨w2.heap.size, 1, none⟩ = some (.int .i64 xd) := (hd24 _ _ q_right).trans c23_right_1
              have c24_seen_0 : w24.cell? ⟨w3.heap.size, 0, none⟩ = some (.int .i64 sa) := (hd24 _ _ q_seen).trans c23_seen_0
              have c24_seen_1 : w24.cell? ⟨w3.heap.size, 1, none⟩ = some (.int .i64 sb) := (hd24 _ _ q_seen).trans c23_seen_1
              have c24_seen_2 : w24.cell? ⟨w3.heap.size, 2, none⟩ = some (.int .i64 sc) := (hd24 _ _ q_seen).trans c23_seen_2
              have c24_seen_3 : w24.cell? ⟨w3.heap.size, 3, none⟩ = some (.int .i64 se) := (hd24 _ _ q_seen).trans c23_seen_3
              have c24_want_0 : w24.cell? ⟨w4.heap.size, 0, none⟩ = some (.int .i64 sa) := (hd24 _ _ q_want).trans c23_want_0
              have c24_want_1 : w24.cell? ⟨w4.heap.size, 1, none⟩ = some (.int .i64 sb) := (hd24 _ _ q_want).trans c23_want_1
              have c24_want_2 : w24.cell? ⟨w4.heap.size, 2, none⟩ = some (.int .i64 sc) := (hd24 _ _ q_want).trans c23_want_2
              have c24_want_3 : w24.cell? ⟨w4.heap.size, 3, none⟩ = some (.int .i64 se) := (hd24 _ _ q_want).trans c23_want_3
              have c24_tm2_0 : w24.cell? ⟨w18.heap.size, 0, none⟩ = some (.int .i64 qn) := (hd24 _ _ q_tm2).trans c23_tm2_0
              have c24_tm2_1 : w24.cell? ⟨w18.heap.size, 1, none⟩ = some (.int .i64 qd) := (hd24 _ _ q_tm2).trans c23_tm2_1
              have c24_number_0 : w24.cell? ⟨w19.heap.size, 0, none⟩ = some (.int .i64 qn) := (hd24 _ _ q_number).trans c23_number_0
              have c24_number_1 : w24.cell? ⟨w19.heap.size, 1, none⟩ = some (.int .i64 qd) := (hd24 _ _ q_number).trans c23_number_1
              replace q_t : w.heap.size < w24.heap.size := by omega
              replace q_s : w.heap.size + 1 < w24.heap.size := by omega
              replace q_kk : w.heap.size + 1 + 1 < w24.heap.size := by omega
              replace q_taken : w1.heap.size < w24.heap.size := by omega
              replace q_right : w2.heap.size < w24.heap.size := by omega
              replace q_seen : w3.heap.size < w24.heap.size := by omega
              replace q_want : w4.heap.size < w24.heap.size := by omega
              replace q_tm2 : w18.heap.size < w24.heap.size := by omega
              replace q_number : w19.heap.size < w24.heap.size := by omega
              have R24_all := Lib.hid (TRow.below R23_all.out B24)
              clear R23_all
              have R24_model := Lib.hid (TRow.below R23_model.out B24)
              clear R23_model
              have R24_mir := Lib.hid (TRow.below R23_mir.out B24)
              clear R23_mir
              have R24_due := Lib.hid (TRow.below R23_due.out B24)
              clear R23_due
              have R24_al2 := Lib.hid (TRow.below R23_al2.out B24)
              clear R23_al2
              have R24_list := Lib.hid (TRow.below R23_list.out B24)
              clear R23_list
              have BW24 : Below w.heap.size w w24 := BW23.trans (B24.mono BW23.size)
              have BX24 : Below w23.heap.size w23 w24 := B24
              clear hc24 hf24 hb24 hd24 B24 c23_t_0 c23_t_1 c23_s_0 c23_s_1 c23_s_2 c23_s_3 c23_kk_0 c23_kk_1 c23_kk_2 c23_kk_3 c23_taken_0 c23_taken_1 c23_right_0 c23_right_1 c23_seen_0 c23_seen_1 c23_seen_2 c23_seen_3 c23_want_0 c23_want_1 c23_want_2 c23_want_3 c23_tm2_0 c23_tm2_1 c23_number_0 c23_number_1 BW23
              have e1 := HQ.out
              have e2 := HT.out
              subst e1
              subst e2
              clear HQ HT
              cases lo
              · go_wp2_with fail
                go_meet
                case rel => exact ⟨rfl, BX24⟩
              · go_wp2_with fail
                go_meet
                case rel => exact ⟨rfl, BX24⟩
          case rest =>
            obtain ⟨rfl, hb24⟩ := hcut
            obtain ⟨w24, hw24⟩ : ∃ x : World, x = wc := ⟨_, rfl⟩
            subst hw24
            obtain ⟨hc24, hf24⟩ := bcell hb24
            have hz24 := hb24.size
            (try simp only [World.size_alloc, World.size_setCell, World.size_drew] at hz24)
            have B24 : Below w23.heap.size w23 w24 := Below.trans (b := _) (by (repeat' (first | (with_reducible exact Below.refl _ _) | (with_reducible assumption) | (with_reducible refine Below.alloc ?_ ?_ _) | (with_reducible refine Below.drew ?_) | (with_reducible refine below_drewN ?_ _) | (with_reducible refine Below.setCell ?_ ?_ _) | (with_reducible refine below_call ?_ ?_ (by assumption)) | go_size))) (hb24.mono (by first | omega | (simp only [World.size_alloc, World.size_setCell, World.size_drew]; omega)))
            obtain ⟨hd24, -⟩ := bcell B24
            have c24_t_0 : w24.cell? ⟨w.heap.size, 0, none⟩ = some (.int .i64 n1) := (hd24 _ _ q_t).trans c23_t_0
            have c24_t_1 : w24.cell? ⟨w.heap.size, 1, none⟩ = some (.int .i64 d1) := (hd24 _ _ q_t).trans c23_t_1
            have c24_s_0 : w24.cell? ⟨w.heap.size + 1, 0, none⟩ = some (.int .i64 n4) := (hd24 _ _ q_s).trans c23_s_0
            have c24_s_1 : w24.cell? ⟨w.heap.size + 1, 1, none⟩ = some (.int .i64 d4) := (hd24 _ _ q_s).trans c23_s_1
            have c24_s_2 : w24.cell? ⟨w.heap.size + 1, 2, none⟩ = some (.int .i64 x4) := (hd24 _ _ q_s).trans c23_s_2
            have c24_s_3 : w24.cell? ⟨w.heap.size + 1, 3, none⟩ = some (.int .i64 y4) := (hd24 _ _ q_s).trans c23_s_3
            have c24_kk_0 : w24.cell? ⟨w.heap.size + 1 + 1, 0, none⟩ = some (.int .i64 n5) := (hd24 _ _ q_kk).trans c23_kk_0
            have c24_kk_1 : w24.cell? ⟨w.heap.size + 1 + 1, 1, none⟩ = some (.int .i64 d5) := (hd24 _ _ q_kk).trans c23_kk_1
            have c24_kk_2 : w24.cell? ⟨w.heap.size + 1 + 1, 2, none⟩ = some (.int .i64 x5) := (hd24 _ _ q_kk).trans c23_kk_2
            have c24_kk_3 : w24.cell? ⟨w.heap.size + 1 + 1, 3, none⟩ = some (.int .i64 y5) := (hd24 _ _ q_kk).trans c23_kk_3
            have c24_taken_0 : w24.cell? ⟨w1.heap.size, 0, none⟩ = some (.int .i64 xn) := (hd24 _ _ q_taken).trans c23_taken_0
            have c24_taken_1 : w24.cell? ⟨w1.heap.size, 1, none⟩ = some (.int .i64 xd) := (hd24 _ _ q_taken).trans c23_taken_1
            have c24_right_0 : w24.cell? ⟨w2.heap.size, 0, none⟩ = some (.int .i64 xn) := (hd24 _ _ q_right).trans c23_right_0
            have c24_right_1 : w24.cell? ⟨w2.heap.size, 1, none⟩ = some (.int .i64 xd) := (hd24 _ _ q_right).trans c23_right_1
            have c24_seen_0 : w24.cell? ⟨w3.heap.size, 0, none⟩ = some (.int .i64 sa) := (hd24 _ _ q_seen).trans c23_seen_0
            have c24_seen_1 : w24.cell? ⟨w3.heap.size, 1, none⟩ = some (.int .i64 sb) := (hd24 _ _ q_seen).trans c23_seen_1
            have c24_seen_2 : w24.cell? ⟨w3.heap.size, 2, none⟩ = some (.int .i64 sc) := (hd24 _ _ q_seen).trans c23_seen_2
            have c24_seen_3 : w24.cell? ⟨w3.heap.size, 3, none⟩ = some (.int .i64 se) := (hd24 _ _ q_seen).trans c23_seen_3
            have c24_want_0 : w24.cell? ⟨w4.heap.size, 0, none⟩ = some (.int .i64 sa) := (hd24 _ _ q_want).trans c23_want_0
            have c24_want_1 : w24.cell? ⟨w4.heap.size, 1, none⟩ = some (.int .i64 sb) := (hd24 _ _ q_want).trans c23_want_1
            have c24_want_2 : w24.cell? ⟨w4.heap.size, 2, none⟩ = some (.int .i64 sc) := (hd24 _ _ q_want).trans c23_want_2
            have c24_want_3 : w24.cell? ⟨w4.heap.size, 3, none⟩ = some (.int .i64 se) := (hd24 _ _ q_want).trans c23_want_3
            have c24_tm2_0 : w24.cell? ⟨w18.heap.size, 0, none⟩ = some (.int .i64 qn) := (hd24 _ _ q_tm2).trans c23_tm2_0
            have c24_tm2_1 : w24.cell? ⟨w18.heap.size, 1, none⟩ = some (.int .i64 qd) := (hd24 _ _ q_tm2).trans c23_tm2_1
            have c24_number_0 : w24.cell? ⟨w19.heap.size, 0, none⟩ = some (.int .i64 qn) := (hd24 _ _ q_number).trans c23_number_0
            have c24_number_1 : w24.cell? ⟨w19.heap.size, 1, none⟩ = some (.int .i64 qd) := (hd24 _ _ q_number).trans c23_number_1
            replace q_t : w.heap.size < w24.heap.size := by omega
            replace q_s : w.heap.size + 1 < w24.heap.size := by omega
            replace q_kk : w.heap.size + 1 + 1 < w24.heap.size := by omega
            replace q_taken : w1.heap.size < w24.heap.size := by omega
            replace q_right : w2.heap.size < w24.heap.size := by omega
            replace q_seen : w3.heap.size < w24.heap.size := by omega
            replace q_want : w4.heap.size < w24.heap.size := by omega
            replace q_tm2 : w18.heap.size < w24.heap.size := by omega
            replace q_number : w19.heap.size < w24.heap.size := by omega
            have R24_all := Lib.hid (TRow.below R23_all.out B24)
            clear R23_all
            have R24_model := Lib.hid (TRow.below R23_model.out B24)
            clear R23_model
            have R24_mir := Lib.hid (TRow.below R23_mir.out B24)
            clear R23_mir
            have R24_due := Lib.hid (TRow.below R23_due.out B24)
            clear R23_due
            have R24_al2 := Lib.hid (TRow.below R23_al2.out B24)
            clear R23_al2
            have R24_list := Lib.hid (TRow.below R23_list.out B24)
            clear R23_list
            have BW24 : Below w.heap.size w w24 := BW23.trans (B24.mono BW23.size)
            clear hc24 hf24 hb24 hd24 B24 c23_t_0 c23_t_1 c23_s_0 c23_s_1 c23_s_2 c23_s_3 c23_kk_0 c23_kk_1 c23_kk_2 c23_kk_3 c23_taken_0 c23_taken_1 c23_right_0 c23_right_1 c23_seen_0 c23_seen_1 c23_seen_2 c23_seen_3 c23_want_0 c23_want_1 c23_want_2 c23_want_3 c23_tm2_0 c23_tm2_1 c23_number_0 c23_number_1 BW23
            go_wp2_with fail
            refine (C17.out _).mono ?_
            rintro e25 w25 ⟨rfl, hb25⟩
            obtain ⟨hc25, hf25⟩ := bcell hb25
            have hz25 := hb25.size
            (try simp only [World.size_alloc, World.size_setCell, World.size_drew] at hz25)
            have B25 : Below w24.heap.size w24 w25 := Below.trans (b := _) (by (repeat' (first | (with_reducible exact Below.refl _ _) | (with_reducible assumption) | (with_reducible refine Below.alloc ?_ ?_ _) | (with_reducible refine Below.drew ?_) | (with_reducible refine below_drewN ?_ _) | (with_reducible refine Below.setCell ?_ ?_ _) | (with_reducible refine below_call ?_ ?_ (by assumption)) | go_size))) (hb25.mono (by first | omega | (simp only [World.size_alloc, World.size_setCell, World.size_drew]; omega)))
            obtain ⟨hd25, -⟩ := bcell B25
            have c25_t_0 : w25.cell? ⟨w.heap.size, 0, none⟩ = some (.int .i64 n1) := (hd25 _ _ q_t).trans c24_t_0
            have c25_t_1 : w25.cell? ⟨w.heap.size, 1, none⟩ = some (.int .i64 d1) := (hd25 _ _ q_t).trans c24_t_1
            have c25_s_0 : w25.cell? ⟨w.heap.size + 1, 0, none⟩ = some (.int .i64 n4) := (hd25 _ _ q_s).trans c24_s_0
            have c25_s_1 : w25.cell? ⟨w.heap.size + 1, 1, none⟩ = some (.int .i64 d4) := (hd25 _ _ q_s).trans c24_s_1
            have c25_s_2 : w25.cell? ⟨w.heap.size + 1, 2, none⟩ = some (.int .i64 x4) := (hd25 _ _ q_s).trans c24_s_2
            have c25_s_3 : w25.cell? ⟨w.heap.size + 1, 3, none⟩ = some (.int .i64 y4) := (hd25 _ _ q_s).trans c24_s_3
            have c25_kk_0 : w25.cell? ⟨w.heap.size + 1 + 1, 0, none⟩ = some (.int .i64 n5) := (hd25 _ _ q_kk).trans c24_kk_0
            have c25_kk_1 : w25.cell? ⟨w.heap.size + 1 + 1, 1, none⟩ = some (.int .i64 d5) := (hd25 _ _ q_kk).trans c24_kk_1
            have c25_kk_2 : w25.cell? ⟨w.heap.size + 1 + 1, 2, none⟩ = some (.int .i64 x5) := (hd25 _ _ q_kk).trans c24_kk_2
            have c25_kk_3 : w25.cell? ⟨w.heap.size + 1 + 1, 3, none⟩ = some (.int .i64 y5) := (hd25 _ _ q_kk).trans c24_kk_3
            have c25_taken_0 : w25.cell? ⟨w1.heap.size, 0, none⟩ = some (.int .i64 xn) := (hd25 _ _ q_taken).trans c24_taken_0
            have c25_taken_1 : w25.cell? ⟨w1.heap.size, 1, none⟩ = some (.int .i64 xd) := (hd25 _ _ q_taken).trans c24_taken_1
            have c25_right_0 : w25.cell? ⟨w2.heap.size, 0, none⟩ = some (.int .i64 xn) := (hd25 _ _ q_right).trans c24_right_0
            have c25_right_1 : w25.cell? ⟨w2.heap.size, 1, none⟩ = some (.int .i64 xd) := (hd25 _ _ q_right).trans c24_right_1
            have c25_seen_0 : w25.cell? ⟨w3.heap.size, 0, none⟩ = some (.int .i64 sa) := (hd25 _ _ q_seen).trans c24_seen_0
            have c25_seen_1 : w25.cell? ⟨w3.heap.size, 1, none⟩ = some (.int .i64 sb) := (hd25 _ _ q_seen).trans c24_seen_1
            have c25_seen_2 : w25.cell? ⟨w3.heap.size, 2, none⟩ = some (.int .i64 sc) := (hd25 _ _ q_seen).trans c24_seen_2
            have c25_seen_3 : w25.cell? ⟨w3.heap.size, 3, none⟩ = some (.int .i64 se) := (hd25 _ _ q_seen).trans c24_seen_3
            have c25_want_0 : w25.cell? ⟨w4.heap.size, 0, none⟩ = some (.int .i64 sa) := (hd25 _ _ q_want).trans c24_want_0
            have c25_want_1 : w25.cell? ⟨w4.heap.size, 1, none⟩ = some (.int .i64 sb) := (hd25 _ _ q_want).trans c24_want_1
            have c25_want_2 : w25.cell? ⟨w4.heap.size, 2, none⟩ = some (.int .i64 sc) := (hd25 _ _ q_want).trans c24_want_2
            have c25_want_3 : w25.cell? ⟨w4.heap.size, 3, none⟩ = some (.int .i64 se) := (hd25 _ _ q_want).trans c24_want_3
            have c25_tm2_0 : w25.cell? ⟨w18.heap.size, 0, none⟩ = some (.int .i64 qn) := (hd25 _ _ q_tm2).trans c24_tm2_0
            have c25_tm2_1 : w25.cell? ⟨w18.heap.size, 1, none⟩ = some (.int .i64 qd) := (hd25 _ _ q_tm2).trans c24_tm2_1
            have c25_number_0 : w25.cell? ⟨w19.heap.size, 0, none⟩ = some (.int .i64 qn) := (hd25 _ _ q_number).trans c24_number_0
            have c25_number_1 : w25.cell? ⟨w19.heap.size, 1, none⟩ = some (.int .i64 qd) := (hd25 _ _ q_number).trans c24_number_1
            replace q_t : w.heap.size < w25.heap.size := by omega
            replace q_s : w.heap.size + 1 < w25.heap.size := by omega
            replace q_kk : w.heap.size + 1 + 1 < w25.heap.size := by omega
            replace q_taken : w1.heap.size < w25.heap.size := by omega
            replace q_right : w2.heap.size < w25.heap.size := by omega
            replace q_seen : w3.heap.size < w25.heap.size := by omega
            replace q_want : w4.heap.size < w25.heap.size := by omega
            replace q_tm2 : w18.heap.size < w25.heap.size := by omega
            replace q_number : w19.heap.size < w25.heap.size := by omega
            have R25_all := Lib.hid (TRow.below R24_all.out B25)
            clear R24_all
            have R25_model := Lib.hid (TRow.below R24_model.out B25)
            clear R24_model
            have R25_mir := Lib.hid (TRow.below R24_mir.out B25)
            clear R24_mir
            have R25_due := Lib.hid (TRow.below R24_due.out B25)
            clear R24_due
            have R25_al2 := Lib.hid (TRow.below R24_al2.out B25)
            clear R24_al2
            have R25_list := Lib.hid (TRow.below R24_list.out B25)
            clear R24_list
            have BW25 : Below w.heap.size w w25 := BW24.trans (B25.mono BW24.size)
            clear hc25 hf25 hb25 hd25 B25 c24_t_0 c24_t_1 c24_s_0 c24_s_1 c24_s_2 c24_s_3 c24_kk_0 c24_kk_1 c24_kk_2 c24_kk_3 c24_taken_0 c24_taken_1 c24_right_0 c24_right_1 c24_seen_0 c24_seen_1 c24_seen_2 c24_seen_3 c24_want_0 c24_want_1 c24_want_2 c24_want_3 c24_tm2_0 c24_tm2_1 c24_number_0 c24_number_1 BW24
            go_wp2_with fail
            refine (C18.out _).mono ?_
            rintro e26 w26 ⟨rfl, hb26⟩
            obtain ⟨hc26, hf26⟩ := bcell hb26
            have hz26 := hb26.size
            (try simp only [World.size_alloc, World.size_setCell, World.size_drew] at hz26)
            have B26 : Below w25.heap.size w25 w26 := Below.trans (b := _) (by (repeat' (first | (with_reducible exact Below.refl _ _) | (with_reducible assumption) | (with_reducible refine Below.alloc ?_ ?_ _) | (with_reducible refine Below.drew ?_) | (with_reducible refine below_drewN ?_ _) | (with_reducible refine Below.setCell ?_ ?_ _) | (with_reducible refine below_call ?_ ?_ (by assumption)) | go_size))) (hb26.mono (by first | omega | (simp only [World.size_alloc, World.size_setCell, World.size_drew]; omega)))
            obtain ⟨hd26, -⟩ := bcell B26
            have c26_t_0 : w26.cell? ⟨w.heap.size, 0, none⟩ = some (.int .i64 n1) := (hd26 _ _ q_t).trans c25_t_0
            have c26_t_1 : w26.cell? ⟨w.heap.size, 1, none⟩ = some (.int .i64 d1) := (hd26 _ _ q_t).trans c25_t_1
            have c26_s_0 : w26.cell? ⟨w.heap.size + 1, 0, none⟩ = some (.int .i64 n4) := (hd26 _ _ q_s).trans c25_s_0
            have c26_s_1 : w26.cell? ⟨w.heap.size + 1, 1, none⟩ = some (.int .i64 d4) := (hd26 _ _ q_s).trans c25_s_1
            have c26_s_2 : w26.cell? ⟨w.heap.size + 1, 2, none⟩ = some (.int .i64 x4) := (hd26 _ _ q_s).trans c25_s_2
            have c26_s_3 : w26.cell? ⟨w.heap.size + 1, 3, none⟩ = some (.int .i64 y4) := (hd26 _ _ q_s).trans c25_s_3
            have c26_kk_0 : w26.cell? ⟨w.heap.size + 1 + 1, 0, none⟩ = some (.int .i64 n5) := (hd26 _ _ q_kk).trans c25_kk_0
            have c26_kk_1 : w26.cell? ⟨w.heap.size + 1 + 1, 1, none⟩ = some (.int .i64 d5) := (hd26 _ _ q_kk).trans c25_kk_1
            have c26_kk_2 : w26.cell? ⟨w.heap.size + 1 + 1, 2, none⟩ = some (.int .i64 x5) := (hd26 _ _ q_kk).trans c25_kk_2
            have c26_kk_3 : w26.cell? ⟨w.heap.size + 1 + 1, 3, none⟩ = some (.int .i64 y5) := (hd26 _ _ q_kk).trans c25_kk_3
            have c26_taken_0 : w26.cell? ⟨w1.heap.size, 0, none⟩ = some (.int .i64 xn) := (hd26 _ _ q_taken).trans c25_taken_0
            have c26_taken_1 : w26.cell? ⟨w1.heap.size, 1, none⟩ = some (.int .i64 xd) := (hd26 _ _ q_taken).trans c25_taken_1
            have c26_right_0 : w26.cell? ⟨w2.heap.size, 0, none⟩ = some (.int .i64 xn) := (hd26 _ _ q_right).trans c25_right_0
            have c26_right_1 : w26.cell? ⟨w2.heap.size, 1, none⟩ = some (.int .i64 xd) := (hd26 _ _ q_right).trans c25_right_1
            have c26_seen_0 : w26.cell? ⟨w3.heap.size, 0, none⟩ = some (.int .i64 sa) := (hd26 _ _ q_seen).trans c25_seen_0
            have c26_seen_1 : w26.cell? ⟨w3.heap.size, 1, none⟩ = some (.int .i64 sb) := (hd26 _ _ q_seen).trans c25_seen_1
            have c26_seen_2 : w26.cell? ⟨w3.heap.size, 2, none⟩ = some (.int .i64 sc) := (hd26 _ _ q_seen).trans c25_seen_2
            have c26_seen_3 : w26.cell? ⟨w3.heap.size, 3, none⟩ = some (.int .i64 se) := (hd26 _ _ q_seen).trans c25_seen_3
            have c26_want_0 : w26.cell? ⟨w4.heap.size, 0, none⟩ = some (.int .i64 sa) := (hd26 _ _ q_want).trans c25_want_0
            have c26_want_1 : w26.cell? ⟨w4.heap.size, 1, none⟩ = some (.int .i64 sb) := (hd26 _ _ q_want).trans c25_want_1
            have c26_want_2 : w26.cell? ⟨w4.heap.size, 2, none⟩ = some (.int .i64 sc) := (hd26 _ _ q_want).trans c25_want_2
            have c26_want_3 : w26.cell? ⟨w4.heap.size, 3, none⟩ = some (.int .i64 se) := (hd26 _ _ q_want).trans c25_want_3
            have c26_tm2_0 : w26.cell? ⟨w18.heap.size, 0, none⟩ = some (.int .i64 qn) := (hd26 _ _ q_tm2).trans c25_tm2_0
            have c26_tm2_1 : w26.cell? ⟨w18.heap.size, 1, none⟩ = some (.int .i64 qd) := (hd26 _ _ q_tm2).trans c25_tm2_1
            have c26_number_0 : w26.cell? ⟨w19.heap.size, 0, none⟩ = some (.int .i64 qn) := (hd26 _ _ q_number).trans c25_number_0
            have c26_number_1 : w26.cell? ⟨w19.heap.size, 1, none⟩ = some (.int .i64 qd) := (hd26 _ _ q_number).trans c25_number_1
            replace q_t : w.heap.size < w26.heap.size := by omega
            replace q_s : w.heap.size + 1 < w26.heap.size := by omega
            replace q_kk : w.heap.size + 1 + 1 < w26.heap.size := by omega
            replace q_taken : w1.heap.size < w26.heap.size := by omega
            replace q_right : w2.heap.size < w26.heap.size := by omega
            replace q_seen : w3.heap.size < w26.heap.size := by omega
            replace q_want : w4.heap.size < w26.heap.size := by omega
            replace q_tm2 : w18.heap.size < w26.heap.size := by omega
            replace q_number : w19.heap.size < w26.heap.size := by omega
            have c26_exch_0 : w26.cell? ⟨w25.heap.size, 0, none⟩ = some (.int .i64 ea) := (hc26 _ _ (by go_size)).trans (by go_simp)
            have c26_exch_1 : w26.cell? ⟨w25.heap.size, 1, none⟩ = some (.int .i64 eb) := (hc26 _ _ (by go_size)).trans (by go_simp)
            have c26_exch_2 : w26.cell? ⟨w25.heap.size, 2, none⟩ = some (.int .i64 ec) := (hc26 _ _ (by go_size)).trans (by go_simp)
            have c26_exch_3 : w26.cell? ⟨w25.heap.size, 3, none⟩ = some (.int .i64 ed) := (hc26 _ _ (by go_size)).trans (by go_simp)
            have q_exch : w25.heap.size < w26.heap.size := by omega
            have R26_all := Lib.hid (TRow.below R25_all.out B26)
            clear R25_all
            have R26_model := Lib.hid (TRow.below R25_model.out B26)
            clear R25_model
            have R26_mir := Lib.hid (TRow.below R25_mir.out B26)
            clear R25_mir
            have R26_due := Lib.hid (TRow.below R25_due.out B26)
            clear R25_due
            have R26_al2 := Lib.hid (TRow.below R25_al2.out B26)
            clear R25_al2
            have R26_list := Lib.hid (TRow.below R25_list.out B26)
            clear R25_list
            have BW26 : Below w.heap.size w w26 := BW25.trans (B26.mono BW25.size)
            clear hc26 hf26 hb26 hd26 B26 c25_t_0 c25_t_1 c25_s_0 c25_s_1 c25_s_2 c25_s_3 c25_kk_0 c25_kk_1 c25_kk_2 c25_kk_3 c25_taken_0 c25_taken_1 c25_right_0 c25_right_1 c25_seen_0 c25_seen_1 c25_seen_2 c25_seen_3 c25_want_0 c25_want_1 c25_want_2 c25_want_3 c25_tm2_0 c25_tm2_1 c25_number_0 c25_number_1 BW25
            go_upto_region 65 with fail
            have hb27 : Below w26.heap.size w26 (w26.alloc (Obj.cells #[.int .i64 ea, .int .i64 eb, .int .i64 ec, .int .i64 ed] 31)) := by (repeat' (first | (with_reducible exact Below.refl _ _) | (with_reducible assumption) | (with_reducible refine Below.alloc ?_ ?_ _) | (with_reducible refine Below.drew ?_) | (with_reducible refine below_drewN ?_ _) | (with_reducible refine Below.setCell ?_ ?_ _) | (with_reducible refine below_call ?_ ?_ (by assumption)) | go_size))
            have c27_rows_0 : (w26.alloc (Obj.cells #[.int .i64 ea, .int .i64 eb, .int .i64 ec, .int .i64 ed] 31)).cell? ⟨w26.heap.size, 0, none⟩ = some (.int .i64 ea) := by go_simp
            have c27_rows_1 : (w26.alloc (Obj.cells #[.int .i64 ea, .int .i64 eb, .int .i64 ec, .int .i64 ed] 31)).cell? ⟨w26.heap.size, 1, none⟩ = some (.int .i64 eb) := by go_simp
            have c27_rows_2 : (w26.alloc (Obj.cells #[.int .i64 ea, .int .i64 eb, .int .i64 ec, .int .i64 ed] 31)).cell? ⟨w26.heap.size, 2, none⟩ = some (.int .i64 ec) := by go_simp
            have c27_rows_3 : (w26.alloc (Obj.cells #[.int .i64 ea, .int .i64 eb, .int .i64 ec, .int .i64 ed] 31)).cell? ⟨w26.heap.size, 3, none⟩ = some (.int .i64 ed) := by go_simp
            have q_rows : w26.heap.size < (w26.alloc (Obj.cells #[.int .i64 ea, .int .i64 eb, .int .i64 ec, .int .i64 ed] 31)).heap.size := by go_size
            generalize (w26.alloc (Obj.cells #[.int .i64 ea, .int .i64 eb, .int .i64 ec, .int .i64 ed] 31)) = w27 at *
            obtain ⟨hd27, -⟩ := bcell hb27
            have hz27 := hb27.size
            have c27_t_0 : w27.cell? ⟨w.heap.size, 0, none⟩ = some (.int .i64 n1) := (hd27 _ _ q_t).trans c26_t_0
            have c27_t_1 : w27.cell? ⟨w.heap.size, 1, none⟩ = some (.int .i64 d1) := (hd27 _ _ q_t).trans c26_t_1
            have c27_s_0 : w27.cell? ⟨w.heap.size + 1, 0, none⟩ = some (.int .i64 n4) := (hd27 _ _ q_s).trans c26_s_0
            have c27_s_1 : w27.cell? ⟨w.heap.size + 1, 1, none⟩ = some (.int .i64 d4) := (hd27 _ _ q_s).trans c26_s_1
            have c27_s_2 : w27.cell? ⟨w.heap.size + 1, 2, none⟩ = some (.int .i64 x4) := (hd27 _ _ q_s).trans c26_s_2
            have c27_s_3 : w27.cell? ⟨w.heap.size + 1, 3, none⟩ = some (.int .i64 y4) := (hd27 _ _ q_s).trans c26_s_3
            have c27_kk_0 : w27.cell? ⟨w.heap.size + 1 + 1, 0, none⟩ = some (.int .i64 n5) := (hd27 _ _ q_kk).trans c26_kk_0
            have c27_kk_1 : w27.cell? ⟨w.heap.size + 1 + 1, 1, none⟩ = some (.int .i64 d5) := (hd27 _ _ q_kk).trans c26_kk_1
            have c27_kk_2 : w27.cell? ⟨w.heap.size + 1 + 1, 2, none⟩ = some (.int .i64 x5) := (hd27 _ _ q_kk).trans c26_kk_2
            have c27_kk_3 : w27.cell? ⟨w.heap.size + 1 + 1, 3, none⟩ = some (.int .i64 y5) := (hd27 _ _ q_kk).trans c26_kk_3
            have c27_taken_0 : w27.cell? ⟨w1.heap.size, 0, none⟩ = some (.int .i64 xn) := (hd27 _ _ q_taken).trans c26_taken_0
            have c27_taken_1 : w27.cell? ⟨w1.heap.size, 1, none⟩ = some (.int .i64 xd) := (hd27 _ _ q_taken).trans c26_taken_1
            have c27_right_0 : w27.cell? ⟨w2.heap.size, 0, none⟩ = some (.int .i64 xn) := (hd27 _ _ q_right).trans c26_right_0
            have c27_right_1 : w27.cell? ⟨w2.heap.size, 1, none⟩ = some (.int .i64 xd) := (hd27 _ _ q_right).trans c26_right_1
            have c27_seen_0 : w27.cell? ⟨w3.heap.size, 0, none⟩ = some (.int .i64 sa) := (hd27 _ _ q_seen).trans c26_seen_0
            have c27_seen_1 : w27.cell? ⟨w3.heap.size, 1, none⟩ = some (.int .i64 sb) := (hd27 _ _ q_seen).trans c26_seen_1
            have c27_seen_2 : w27.cell? ⟨w3.heap.size, 2, none⟩ = some (.int .i64 sc) := (hd27 _ _ q_seen).trans c26_seen_2
            have c27_seen_3 : w27.cell? ⟨w3.heap.size, 3, none⟩ = some (.int .i64 se) := (hd27 _ _ q_seen).trans c26_seen_3
            have c27_want_0 : w27.cell? ⟨w4.heap.size, 0, none⟩ = some (.int .i64 sa) := (hd27 _ _ q_want).trans c26_want_0
            have c27_want_1 : w27.cell? ⟨w4.heap.size, 1, none⟩ = some (.int .i64 sb) := (hd27 _ _ q_want).trans c26_want_1
            have c27_want_2 : w27.cell? ⟨w4.heap.size, 2, none⟩ = some (.int .i64 sc) := (hd27 _ _ q_want).trans c26_want_2
            have c27_want_3 : w27.cell? ⟨w4.heap.size, 3, none⟩ = some (.int .i64 se) := (hd27 _ _ q_want).trans c26_want_3
            have c27_tm2_0 : w27.cell? ⟨w18.heap.size, 0, none⟩ = some (.int .i64 qn) := (hd27 _ _ q_tm2).trans c26_tm2_0
            have c27_tm2_1 : w27.cell? ⟨w18.heap.size, 1, none⟩ = some (.int .i64 qd) := (hd27 _ _ q_tm2).trans c26_tm2_1
            have c27_number_0 : w27.cell? ⟨w19.heap.size, 0, none⟩ = some (.int .i64 qn) := (hd27 _ _ q_number).trans c26_number_0
            have c27_number_1 : w27.cell? ⟨w19.heap.size, 1, none⟩ = some (.int .i64 qd) := (hd27 _ _ q_number).trans c26_number_1
            have c27_exch_0 : w27.cell? ⟨w25.heap.size, 0, none⟩ = some (.int .i64 ea) := (hd27 _ _ q_exch).trans c26_exch_0
            have c27_exch_1 : w27.cell? ⟨w25.heap.size, 1, none⟩ = some (.int .i64 eb) := (hd27 _ _ q_exch).trans c26_exch_1
            have c27_exch_2 : w27.cell? ⟨w25.heap.size, 2, none⟩ = some (.int .i64 ec) := (hd27 _ _ q_exch).trans c26_exch_2
            have c27_exch_3 : w27.cell? ⟨w25.heap.size, 3, none⟩ = some (.int .i64 ed) := (hd27 _ _ q_exch).trans c26_exch_3
            replace q_t : w.heap.size < w27.heap.size := by omega
            replace q_s : w.heap.size + 1 < w27.heap.size := by omega
            replace q_kk : w.heap.size + 1 + 1 < w27.heap.size := by omega
            replace q_taken : w1.heap.size < w27.heap.size := by omega
            replace q_right : w2.heap.size < w27.heap.size := by omega
            replace q_seen : w3.heap.size < w27.heap.size := by omega
            replace q_want : w4.heap.size < w27.heap.size := by omega
            replace q_tm2 : w18.heap.size < w27.heap.size := by omega
            replace q_number : w19.heap.size < w27.heap.size := by omega
            replace q_exch : w25.heap.size < w27.heap.size := by omega
            have R27_all := Lib.hid (TRow.below R26_all.out hb27)
            clear R26_all
            have R27_model := Lib.hid (TRow.below R26_model.out hb27)
            clear R26_model
            have R27_mir := Lib.hid (TRow.below R26_mir.out hb27)
            clear R26_mir
            have R27_due := Lib.hid (TRow.below R26_due.out hb27)
            clear R26_due
            have R27_al2 := Lib.hid (TRow.below R26_al2.out hb27)
            clear R26_al2
            have R27_list := Lib.hid (TRow.below R26_list.out hb27)
            clear R26_list
            have BW27 : Below w.heap.size w w27 := BW26.trans (hb27.mono BW26.size)
            clear hb27 hd27 c26_t_0 c26_t_1 c26_s_0 c26_s_1 c26_s_2 c26_s_3 c26_kk_0 c26_kk_1 c26_kk_2 c26_kk_3 c26_taken_0 c26_taken_1 c26_right_0 c26_right_1 c26_seen_0 c26_seen_1 c26_seen_2 c26_seen_3 c26_want_0 c26_want_1 c26_want_2 c26_want_3 c26_tm2_0 c26_tm2_1 c26_number_0 c26_number_1 c26_exch_0 c26_exch_1 c26_exch_2 c26_exch_3 BW26
            go_cut [496] from 999 to 999 (fun x wx => x = .bool false ∧ Below w27.heap.size w27 wx)
            case first =>
              as_aux_lemma =>
                refine wp_region_below (by kernel_rfl) (by kernel_rfl) ?_
                (apply wpB_take (hw := rfl); (intro wq hq; obtain ⟨hcq, hfq⟩ := bcell hq; unfold atB; go_simp; exact ⟨rfl, rfl⟩); (rw [put_lit]; dsimp only [List.set]))
                (apply wpB_take (hw := rfl); (intro wq hq; obtain ⟨hcq, hfq⟩ := bcell hq; unfold atB; go_simp; exact ⟨rfl, rfl⟩); (rw [put_lit]; dsimp only [List.set]))
                (apply wpB_take (hw := rfl); (intro wq hq; obtain ⟨hcq, hfq⟩ := bcell hq; unfold atB; go_simp; exact ⟨rfl, rfl⟩); (rw [put_lit]; dsimp only [List.set]))
                (apply wpB_take (hw := rfl); (intro wq hq; obtain ⟨hcq, hfq⟩ := bcell hq; unfold atB; go_simp; exact ⟨rfl, rfl⟩); (rw [put_lit]; dsimp only [List.set]))
                (apply wpB_take (hw := rfl); (intro wq hq; obtain ⟨hcq, hfq⟩ := bcell hq; unfold atB; go_simp; exact ⟨rfl, rfl⟩); (rw [put_lit]; dsimp only [List.set]))
                (apply wpB_take (hw := rfl); (intro wq hq; obtain ⟨hcq, hfq⟩ := bcell hq; unfold atB; go_simp; exact ⟨rfl, rfl⟩); (rw [put_lit]; dsimp only [List.set]))
                (apply wpB_take (hw := rfl); (intro wq hq; obtain ⟨hcq, hfq⟩ := bcell hq; unfold atB; go_simp; exact ⟨rfl, rfl⟩); (rw [put_lit]; dsimp only [List.set]))
                (apply wpB_take (hw := rfl); (intro wq hq; obtain ⟨hcq, hfq⟩ := bcell hq; unfold atB; go_simp; exact ⟨rfl, rfl⟩); (rw [put_lit]; dsimp only [List.set]))
                (apply wpB_take (hw := rfl); (intro wq hq; obtain ⟨hcq, hfq⟩ := bcell hq; unfold atB; go_simp; exact ⟨rfl, rfl⟩); (rw [put_lit]; dsimp only [List.set]))
                (apply wpB_take (hw := rfl); (intro wq hq; obtain ⟨hcq, hfq⟩ := bcell hq; unfold atB; go_simp; exact ⟨rfl, rfl⟩); (rw [put_lit]; dsimp only [List.set]))
                (apply wpB_take (hw := rfl); (intro wq hq; obtain ⟨hcq, hfq⟩ := bcell hq; unfold atB; go_simp; exact ⟨rfl, rfl⟩); (rw [put_lit]; dsimp only [List.set]))
                (apply wpB_take (hw := rfl); (intro wq hq; unfold atB; go_simp; exact ⟨rfl, isSeen_is n5 d5 x5 y5 HE.out _⟩); (rw [put_lit]; dsimp only [List.set]))
                (apply wpB_take (hw := rfl); (intro wq hq; obtain ⟨hcq, hfq⟩ := bcell hq; unfold atB; go_simp; exact ⟨rfl, rfl⟩); (rw [put_lit]; dsimp only [List.set]))
                (apply wpB_take (hw := rfl); (intro wq hq; obtain ⟨hcq, hfq⟩ := bcell hq; unfold atB; go_simp; exact ⟨rfl, rfl⟩); (rw [put_lit]; dsimp only [List.set]))
                (apply wpB_take (hw := rfl); (intro wq hq; obtain ⟨hcq, hfq⟩ := bcell hq; unfold atB; go_simp; exact ⟨rfl, rfl⟩); (rw [put_lit]; dsimp only [List.set]))
                (apply wpB_take (hw := rfl); (intro wq hq; obtain ⟨hcq, hfq⟩ := bcell hq; unfold atB; go_simp; exact ⟨rfl, rfl⟩); (rw [put_lit]; dsimp only [List.set]))
                (apply wpB_take (hw := rfl); (intro wq hq; unfold atB; go_simp; exact ⟨rfl, isSeen_is n5 d5 x5 y5 HE.out _⟩); (rw [put_lit]; dsimp only [List.set]))
                (apply wpB_take (hw := rfl); (intro wq hq; obtain ⟨hcq, hfq⟩ := bcell hq; unfold atB; go_simp; exact ⟨rfl, rfl⟩); (rw [put_lit]; dsimp only [List.set]))
                (apply wpB_take (hw := rfl); (intro wq hq; unfold atB; go_simp; exact ⟨rfl, specIsSeen_is n5 d5 x5 y5 HE.out kd5 ky5 _⟩); (rw [put_lit]; dsimp only [List.set]))
                (apply wpB_take (hw := rfl); (intro wq hq; obtain ⟨hcq, hfq⟩ := bcell hq; unfold atB; go_simp; exact ⟨rfl, rfl⟩); (rw [put_lit]; dsimp only [List.set]))
                (apply wpB_take (hw := rfl); (intro wq hq; obtain ⟨hcq, hfq⟩ := bcell hq; unfold atB; go_simp; exact ⟨rfl, rfl⟩); (rw [put_lit]; dsimp only [List.set]))
                refine fun wx hbx => ?_
                simp only [Exit.then]
                refine (by assumption : ∀ (a' : Act) (w' : World), Met _ a' w' → _) _ _ ?_
                go_meet
                case rel => exact ⟨rfl, hbx⟩
            case rest =>
              obtain ⟨rfl, hb28⟩ := hcut
              obtain ⟨w28, hw28⟩ : ∃ x : World, x = wc := ⟨_, rfl⟩
              subst hw28
              obtain ⟨hc28, hf28⟩ := bcell hb28
              have hz28 := hb28.size
              (try simp only [World.size_alloc, World.size_setCell, World.size_drew] at hz28)
              have B28 : Below w27.heap.size w27 w28 := Below.trans (b := _) (by (repeat' (first | (with_reducible exact Below.refl _ _) | (with_reducible assumption) | (with_reducible refine Below.alloc ?_ ?_ _) | (with_reducible refine Below.drew ?_) | (with_reducible refine below_drewN ?_ _) | (with_reducible refine Below.setCell ?_ ?_ _) | (with_reducible refine below_call ?_ ?_ (by assumption)) | go_size))) (hb28.mono (by first | omega | (simp only [World.size_alloc, World.size_setCell, World.size_drew]; omega)))
              obtain ⟨hd28, -⟩ := bcell B28
              have c28_t_0 : w28.cell? ⟨w.heap.size, 0, none⟩ = some (.int .i64 n1) := (hd28 _ _ q_t).trans c27_t_0
              have c28_t_1 : w28.cell? ⟨w.heap.size, 1, none⟩ = some (.int .i64 d1) := (hd28 _ _ q_t).trans c27_t_1
              have c28_s_0 : w28.cell? ⟨w.heap.size + 1, 0, none⟩ = some (.int .i64 n4) := (hd28 _ _ q_s).trans c27_s_0
              have c28_s_1 : w28.cell? ⟨w.heap.size + 1, 1, none⟩ = some (.int .i64 d4) := (hd28 _ _ q_s).trans c27_s_1
              have c28_s_2 : w28.cell? ⟨w.heap.size + 1, 2, none⟩ = some (.int .i64 x4) := (hd28 _ _ q_s).trans c27_s_2
              have c28_s_3 : w28.cell? ⟨w.heap.size + 1, 3, none⟩ = some (.int .i64 y4) := (hd28 _ _ q_s).trans c27_s_3
              have c28_kk_0 : w28.cell? ⟨w.heap.size + 1 + 1, 0, none⟩ = some (.int .i64 n5) := (hd28 _ _ q_kk).trans c27_kk_0
              have c28_kk_1 : w28.cell? ⟨w.heap.size + 1 + 1, 1, none⟩ = some (.int .i64 d5) := (hd28 _ _ q_kk).trans c27_kk_1
              have c28_kk_2 : w28.cell? ⟨w.heap.size + 1 + 1, 2, none⟩ = some (.int .i64 x5) := (hd28 _ _ q_kk).trans c27_kk_2
              have c28_kk_3 : w28.cell? ⟨w.heap.size + 1 + 1, 3, none⟩ = some (.int .i64 y5) := (hd28 _ _ q_kk).trans c27_kk_3
              have c28_taken_0 : w28.cell? ⟨w1.heap.size, 0, none⟩ = some (.int .i64 xn) := (hd28 _ _ q_taken).trans c27_taken_0
              have c28_taken_1 : w28.cell? ⟨w1.heap.size, 1, none⟩ = some (.int .i64 xd) := (hd28 _ _ q_taken).trans c27_taken_1
              have c28_right_0 : w28.cell? ⟨w2.heap.size, 0, none⟩ = some (.int .i64 xn) := (hd28 _ _ q_right).trans c27_right_0
              have c28_right_1 : w28.cell? ⟨w2.heap.size, 1, none⟩ = some (.int .i64 xd) := (hd28 _ _ q_right).trans c27_right_1
              have c28_seen_0 : w28.cell? ⟨w3.heap.size, 0, none⟩ = some (.int .i64 sa) := (hd28 _ _ q_seen).trans c27_seen_0
              have c28_seen_1 : w28.cell? ⟨w3.heap.size, 1, none⟩ = some (.int .i64 sb) := (hd28 _ _ q_seen).trans c27_seen_1
              have c28_seen_2 : w28.cell? ⟨w3.heap.size, 2, none⟩ = some (.int .i64 sc) := (hd28 _ _ q_seen).trans c27_seen_2
              have c28_seen_3 : w28.cell? ⟨w3.heap.size, 3, none⟩ = some (.int .i64 se) := (hd28 _ _ q_seen).trans c27_seen_3
              have c28_want_0 : w28.cell? ⟨w4.heap.size, 0, none⟩ = some (.int .i64 sa) := (hd28 _ _ q_want).trans c27_want_0
              have c28_want_1 : w28.cell? ⟨w4.heap.size, 1, none⟩ = some (.int .i64 sb) := (hd28 _ _ q_want).trans c27_want_1
              have c28_want_2 : w28.cell? ⟨w4.heap.size, 2, none⟩ = some (.int .i64 sc) := (hd28 _ _ q_want).trans c27_want_2
              have c28_want_3 : w28.cell? ⟨w4.heap.size, 3, none⟩ = some (.int .i64 se) := (hd28 _ _ q_want).trans c27_want_3
              have c28_tm2_0 : w28.cell? ⟨w18.heap.size, 0, none⟩ = some (.int .i64 qn) := (hd28 _ _ q_tm2).trans c27_tm2_0
              have c28_tm2_1 : w28.cell? ⟨w18.heap.size, 1, none⟩ = some (.int .i64 qd) := (hd28 _ _ q_tm2).trans c27_tm2_1
              have c28_number_0 : w28.cell? ⟨w19.heap.size, 0, none⟩ = some (.int .i64 qn) := (hd28 _ _ q_number).trans c27_number_0
              have c28_number_1 : w28.cell? ⟨w19.heap.size, 1, none⟩ = some (.int .i64 qd) := (hd28 _ _ q_number).trans c27_number_1
              have c28_exch_0 : w28.cell? ⟨w25.heap.size, 0, none⟩ = some (.int .i64 ea) := (hd28 _ _ q_exch).trans c27_exch_0
              have c28_exch_1 : w28.cell? ⟨w25.heap.size, 1, none⟩ = some (.int .i64 eb) := (hd28 _ _ q_exch).trans c27_exch_1
              have c28_exch_2 : w28.cell? ⟨w25.heap.size, 2, none⟩ = some (.int .i64 ec) := (hd28 _ _ q_exch).trans c27_exch_2
              have c28_exch_3 : w28.cell? ⟨w25.heap.size, 3, none⟩ = some (.int .i64 ed) := (hd28 _ _ q_exch).trans c27_exch_3
              have c28_rows_0 : w28.cell? ⟨w26.heap.size, 0, none⟩ = some (.int .i64 ea) := (hd28 _ _ q_rows).trans c27_rows_0
              have c28_rows_1 : w28.cell? ⟨w26.heap.size, 1, none⟩ = some (.int .i64 eb) := (hd28 _ _ q_rows).trans c27_rows_1
              have c28_rows_2 : w28.cell? ⟨w26.heap.size, 2, none⟩ = some (.int .i64 ec) := (hd28 _ _ q_rows).trans c27_rows_2
              have c28_rows_3 : w28.cell? ⟨w26.heap.size, 3, none⟩ = some (.int .i64 ed) := (hd28 _ _ q_rows).trans c27_rows_3
              replace q_t : w.heap.size < w28.heap.size := by omega
              replace q_s : w.heap.size + 1 < w28.heap.size := by omega
              replace q_kk : w.heap.size + 1 + 1 < w28.heap.size := by omega
              replace q_taken : w1.heap.size < w28.heap.size := by omega
              replace q_right : w2.heap.size < w28.heap.size := by omega
              replace q_seen : w3.heap.size < w28.heap.size := by omega
              replace q_want : w4.heap.size < w28.heap.size := by omega
              replace q_tm2 : w18.heap.size < w28.heap.size := by omega
              replace q_number : w19.heap.size < w28.heap.size := by omega
              replace q_exch : w25.heap.size < w28.heap.size := by omega
              replace q_rows : w26.heap.size < w28.heap.size := by omega
              have R28_all := Lib.hid (TRow.below R27_all.out B28)
              clear R27_all
              have R28_model := Lib.hid (TRow.below R27_model.out B28)
              clear R27_model
              have R28_mir := Lib.hid (TRow.below R27_mir.out B28)
              clear R27_mir
              have R28_due := Lib.hid (TRow.below R27_due.out B28)
              clear R27_due
              have R28_al2 := Lib.hid (TRow.below R27_al2.out B28)
              clear R27_al2
              have R28_list := Lib.hid (TRow.below R27_list.out B28)
              clear R27_list
              have BW28 : Below w.heap.size w w28 := BW27.trans (B28.mono BW27.size)
              clear hc28 hf28 hb28 hd28 B28 c27_t_0 c27_t_1 c27_s_0 c27_s_1 c27_s_2 c27_s_3 c27_kk_0 c27_kk_1 c27_kk_2 c27_kk_3 c27_taken_0 c27_taken_1 c27_right_0 c27_right_1 c27_seen_0 c27_seen_1 c27_seen_2 c27_seen_3 c27_want_0 c27_want_1 c27_want_2 c27_want_3 c27_tm2_0 c27_tm2_1 c27_number_0 c27_number_1 c27_exch_0 c27_exch_1 c27_exch_2 c27_exch_3 c27_rows_0 c27_rows_1 c27_rows_2 c27_rows_3 BW27
              go_wp2
              go_ret
              exact ⟨rfl, BW28⟩

set_option maxRecDepth 100000 in
theorem lifted (os : Os) (started : os.Started) (H : Type) (enc : TypeId × Value → H) :
    ReturnsInHanded {} Try.checked os 4 .any (Rows.fnSeenTrueOfAllSpec.pre6 enc Try.prog Try.f4 Rows.fnSeenTrueOfAllRow.domain false) (Rows.fnSeenTrueOfAllSpec.post enc Try.prog Try.f4 false true false false) := by
  refine returnsInHanded_of_change (C := Try.checked) Try.own started (by kernel_rfl) Try.func4
    (ChangeSpec.witness6 (enc := enc) (C := Try.checked) false ⟨#[], #[.int .i64 0, .agg #[.int .i64 0, .int .i64 0], .int .i64 0, .int .i64 0, .agg #[.int .i64 0, .int .i64 0, .int .i64 0, .int .i64 0], .agg #[.int .i64 0, .int .i64 0, .int .i64 0, .int .i64 0]], []⟩ 8 (by kernel_rfl) (by kernel_rfl) (by kernel_rfl) (by kernel_rfl)) ?_
  intro W base args ds gs before hval0 hW hcnd _
  have hval : ∀ (j : Nat) t v, Try.f4.params[j]? = some t → args[j]? = some v → Value.okWide Try.prog W .any base t v := hval0
  have hW' := hW
  obtain ⟨p, q, hA0, hV, rfl, hfz, hnd⟩ := hW
  have hA : DataW.TrodAll enc Try.prog W 0 (fun _ => true) true Try.f4.params.toList args.toList ds p := hA0
  rw [Try.params4] at hA hval
  obtain ⟨v0, vs0, d_0, ds0, p0, q0, hargs, rfl, rfl, h0, r0⟩ := trodAll_cons hA
  obtain ⟨v1, vs1, d_1, ds1, p1, q1, rfl, rfl, rfl, h1, r1⟩ := trodAll_cons r0
  obtain ⟨v2, vs2, d_2, ds2, p2, q2, rfl, rfl, rfl, h2, r2⟩ := trodAll_cons r1
  obtain ⟨v3, vs3, d_3, ds3, p3, q3, rfl, rfl, rfl, h3, r3⟩ := trodAll_cons r2
  obtain ⟨v4, vs4, d_4, ds4, p4, q4, rfl, rfl, rfl, h4, r4⟩ := trodAll_cons r3
  obtain ⟨v5, vs5, d_5, ds5, p5, q5, rfl, rfl, rfl, h5, r5⟩ := trodAll_cons r4
  obtain ⟨rfl, rfl, rfl⟩ := trodAll_nil r5
  obtain rfl : args = #[v0, v1, v2, v3, v4, v5] := by cases args; simp_all
  obtain ⟨rfl, rfl⟩ := trodVars_none hV
  obtain ⟨a0, rfl, rfl, rfl, w0⟩ := open_int Try.underlying3 (hval 0 3 v0 rfl rfl) h0
  obtain ⟨n1, d1, rfl, rfl, rfl, wn1, wd1⟩ := open_iturn (hval 1 25 v1 rfl rfl) h1
  obtain ⟨a2, rfl, rfl, rfl, w2⟩ := open_int Try.underlying3 (hval 2 3 v2 rfl rfl) h2
  obtain ⟨a3, rfl, rfl, rfl, w3⟩ := open_int Try.underlying3 (hval 3 3 v3 rfl rfl) h3
  obtain ⟨n4, d4, x4, y4, rfl, rfl, rfl, wn4, wd4, wx4, wy4⟩ := open_iseen (hval 4 31 v4 rfl rfl) h4
  obtain ⟨n5, d5, x5, y5, rfl, rfl, rfl, wn5, wd5, wx5, wy5⟩ := open_iseen (hval 5 31 v5 rfl rfl) h5
  clear hA0 hval0
  refine (walk a0 n1 d1 a2 a3 n4 d4 x4 y4 n5 d5 x5 y5 (i64_of_wf w0) (i64_of_wf wn1) (i64_of_wf wd1) (i64_of_wf w2) (i64_of_wf w3) (i64_of_wf wn4) (i64_of_wf wd4) (i64_of_wf wx4) (i64_of_wf wy4) (i64_of_wf wn5) (i64_of_wf wd5) (i64_of_wf wx5) (i64_of_wf wy5) W).mono fun e W' ⟨he, bel⟩ => ?_
  subst he
  exact ⟨_, rfl, _, _, _, [], _, [], hW', trodAll_mk1 (shut_bool Try.underlying4 _), (trodAll_cons_mk (shut_int Try.underlying3 w0) (trodAll_cons_mk (shut_iturn wn1 wd1) (trodAll_cons_mk (shut_int Try.underlying3 w2) (trodAll_cons_mk (shut_int Try.underlying3 w3) (trodAll_cons_mk (shut_iseen wn4 wd4 wx4 wy4) (trodAll_cons_mk (shut_iseen wn5 wd5 wx5 wy5) trodAll_mk0)))))), rfl, bel.frame _, fun h => by cases h⟩

theorem closed : joinedFacts Try.prog 4 Try.f4 Rows.fnSeenTrueOfAllSpec Rows.fnSeenTrueOfAllRow = true := by
  unfold joinedFacts
  rw [Try.fMake, Try.fEnter, Try.fLifts, Try.fMaps, Try.fLaid, Try.fHeard, Try.fKeys]
  kernel_rfl
theorem over : Rows.fnSeenTrueOfAllRow.holds Try.pinned (OpenSpec.ofChange Rows.fnSeenTrueOfAllSpec) :=
  OpenClaim.holds_of_wide 4 Try.f4 rfl rfl rfl rfl rfl rfl rfl ⟨rfl, rfl, rfl, rfl, rfl⟩ rfl rfl rfl rfl rfl (by kernel_rfl) Try.func4
    closed (of_decide_eq_true (by kernel_rfl)) (by unfold Func.isWrapper; first | (rw [if_pos (by decide +kernel)]; kernel_rfl) | (rw [if_neg (by decide +kernel)]; exact ⟨rfl, rfl⟩))
    (fun os started H enc _ => lifted os started H enc)

end Go.Proofs.Yticdmochedadbaa.fnSeenTrueOfAll
namespace Go.Proofs.Yticdmochedadbaa
/-- The statement. -/
theorem fnSeenTrueOfAll_proved : Rows.FnSeenTrueOfAllSaid := fnSeenTrueOfAll.over
#print axioms fnSeenTrueOfAll_proved
end Go.Proofs.Yticdmochedadbaa
