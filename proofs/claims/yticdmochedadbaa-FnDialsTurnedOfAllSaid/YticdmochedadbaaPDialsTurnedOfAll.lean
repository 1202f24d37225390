/- FnDialsTurnedOfAll: called with any arguments, the law returns true, and its arguments read behind the call as before. Conditions: none but the row's own. -/
import Derived.Test.YticdmochedadbaaFacts
import Derived.Test.YticdmochedadbaaRowI
import Derived.Test.YticdmochedadbaaRowN
import Derived.Test.YticdmochedadbaaTa0
import Derived.Test.YticdmochedadbaaTaE
import Derived.Test.YticdmochedadbaaDlT
import Derived.Test.YticdmochedadbaaSeen8
import Derived.Test.YticdmochedadbaaLate
import Derived.Test.YticdmochedadbaaLate4
import Derived.Deep.DeepCutAuto
set_option linter.unusedSimpArgs false
set_option linter.unusedVariables false
set_option maxRecDepth 100000
namespace Go.Proofs.Yticdmochedadbaa.fnDialsTurnedOfAll
open Go.ChangeShapes Go.WideShapes Go.ChangeAt Go.RowKit
attribute [local go_sem ↓] Go.wp_at_zero Go.wp_at_succ run_neq_same run_neq_turn run_eql_turn run_neq_sameSeen run_neq_seen

set_option maxHeartbeats 16000000 in
theorem walk (a0 : Int) (n1 d1 x1 y1 : Int) (a2 : Int) (n3 d3 : Int) (a4 : Int) (n5 d5 x5 y5 : Int) (n6 d6 x6 y6 : Int) (n7 d7 x7 y7 : Int) (n8 d8 : Int) (k0 : I64 a0) (kn1 : I64 n1) (kd1 : I64 d1) (kx1 : I64 x1) (ky1 : I64 y1) (k2 : I64 a2) (kn3 : I64 n3) (kd3 : I64 d3) (k4 : I64 a4) (kn5 : I64 n5) (kd5 : I64 d5) (kx5 : I64 x5) (ky5 : I64 y5) (kn6 : I64 n6) (kd6 : I64 d6) (kx6 : I64 x6) (ky6 : I64 y6) (kn7 : I64 n7) (kd7 : I64 d7) (kx7 : I64 x7) (ky7 : I64 y7) (kn8 : I64 n8) (kd8 : I64 d8) (w : World) :
    Calls Try.prog 5 #[.int .i64 a0, sn n1 d1 x1 y1, .int .i64 a2, tv n3 d3, .int .i64 a4, sn n5 d5 x5 y5, sn n6 d6 x6 y6, sn n7 d7 x7 y7, tv n8 d8] w fun e w' => e = .returned (.bool true) ∧ Below w.heap.size w w' := by
  obtain ⟨TS, tok, hTS⟩ : ∃ l o, turR a0 n1 d1 x1 y1 = (l, o) := ⟨_, _, rfl⟩
  obtain ⟨TD, dok, hTD⟩ : ∃ l o, tdR (turR a0 n1 d1 x1 y1) n1 d1 = (l, o) := ⟨_, _, rfl⟩
  have C1 := Lib.hid (fun W => (show Calls Try.prog 35 #[.int .i64 a0, sn n1 d1 x1 y1] W (TurnsOut W TS tok) from by have := implTimesTurned_any a0 n1 d1 x1 y1 W; rw [hTS] at this; exact this))
  have C2 := Lib.hid (fun W => (show Calls Try.prog 36 #[.int .i64 a0, sn n1 d1 x1 y1] W (TurnsOut W TS tok) from by have := specTimesTurned_any a0 n1 d1 x1 y1 kd1 ky1 W; rw [hTS] at this; exact this))
  have C3 := Lib.hid (fun W => (show Calls Try.prog 37 #[.int .i64 a0, sn n1 d1 x1 y1] W (TurnsOut W TD dok) from by have := implTurnsOfDial_any a0 n1 d1 x1 y1 W; rw [hTD] at this; exact this))
  have C4 := Lib.hid (fun W => (show Calls Try.prog 38 #[.int .i64 a0, sn n1 d1 x1 y1] W (TurnsOut W TD dok) from by have := specTurnsOfDial_any a0 n1 d1 x1 y1 kd1 ky1 W; rw [hTD] at this; exact this))
  have HTS := Lib.hid (show TS.length ≤ 1000000 from by have := turR_len a0 n1 d1 x1 y1; rw [hTS] at this; exact this)
  have HTD := Lib.hid (show TD.length ≤ 1000000 from by have := tdR_len (R := turR a0 n1 d1 x1 y1) n1 d1 (turR_len a0 n1 d1 x1 y1); rw [hTD] at this; exact this)
  have F1 := Lib.hid (fun (e : dok = true) => td_all hTS (by rw [hTD, e] : tdR (turR a0 n1 d1 x1 y1) n1 d1 = (TD, true)))
  have F2 := Lib.hid (fun (e : tok = true) => turned_all (by rw [hTS, e] : turR a0 n1 d1 x1 y1 = (TS, true)))
  have F3 := Lib.hid (fun (e : tok = true) => (show ∀ x ∈ TS, seenOfT a0 x.1 x.2 = (x.1, x.2, lowNum (x.1 * a0) x.2, lowDen (x.1 * a0) x.2, true) from fun x hx => turned_seen (by rw [hTS, e] : turR a0 n1 d1 x1 y1 = (TS, true)) hx))
  have F4 := Lib.hid (fun (e : tok = true) => (show ∀ x ∈ TS, ∀ p q, lessT n1 d1 x.1 x.2 = (p, q, true) → turnT x.1 x.2 (lowNum (x.1 * a0) x.2) (lowDen (x.1 * a0) x.2) p q = (n1, d1, x1, y1, true) from fun x hx p q hl => turned_back (by rw [hTS, e] : turR a0 n1 d1 x1 y1 = (TS, true)) hx hl))
  clear hTS hTD
  obtain ⟨WA, wo, hWA⟩ : ∃ l o, angR a2 n3 d3 = (l, o) := ⟨_, _, rfl⟩
  have C5 := Lib.hid (fun W => (show Calls Try.prog 40 #[.int .i64 a2, tv n3 d3] W (TurnsOut W WA wo) from by have := implTimesWithAngle_any a2 n3 d3 W; rw [hWA] at this; exact this))
  have C6 := Lib.hid (fun W => (show Calls Try.prog 41 #[.int .i64 a2, tv n3 d3] W (TurnsOut W WA wo) from by have := specTimesWithAngle_any a2 n3 d3 kd3 W; rw [hWA] at this; exact this))
  have HWA := Lib.hid (show WA.length ≤ 1000000 from by have := angR_len a2 n3 d3; rw [hWA] at this; exact this)
  have F5 := Lib.hid (fun (e : wo = true) => angle_all (by rw [hWA, e] : angR a2 n3 d3 = (WA, true)))
  clear hWA
  obtain ⟨GL, gok, hGL⟩ : ∃ l o, twoR a4 n5 d5 x5 y5 (mirQ n5 d5 x5 y5) = (l, o) := ⟨_, _, rfl⟩
  have C7 := Lib.hid (fun W => (show Calls Try.prog 42 #[.int .i64 a4, sn n5 d5 x5 y5] W (TurnsOut W GL gok) from by have := implTimesInGlass_any a4 n5 d5 x5 y5 W; rw [hGL] at this; exact this))
  have C8 := Lib.hid (fun W => (show Calls Try.prog 43 #[.int .i64 a4, sn n5 d5 x5 y5] W (TurnsOut W GL gok) from by have := specTimesInGlass_any a4 n5 d5 x5 y5 kd5 ky5 W; rw [hGL] at this; exact this))
  have HGL := Lib.hid (show GL.length ≤ 1000000 from by have := twoR_len a4 n5 d5 x5 y5 (mirQ n5 d5 x5 y5); rw [hGL] at this; exact this)
  have F6 := Lib.hid (fun (e : gok = true) => glass_all (by rw [hGL, e] : twoR a4 n5 d5 x5 y5 (mirQ n5 d5 x5 y5) = (GL, true)))
  have F9 := Lib.hid (fun (e : gok = true) => glass_two (by rw [hGL, e] : twoR a4 n5 d5 x5 y5 (mirQ n5 d5 x5 y5) = (GL, true)))
  clear hGL
  obtain ⟨m1, m2, m3, m4, mo, hM⟩ : ∃ a b c e o, mirT n6 d6 x6 y6 = (a, b, c, e, o) := ⟨_, _, _, _, _, rfl⟩
  have C9 := Lib.hid (fun W => (show Calls Try.prog 27 #[sn n6 d6 x6 y6] W fun e w' => e = .returned (rs (m1, m2, m3, m4, mo)) ∧ Below W.heap.size W w' from by have := implMirrorSeen_any n6 d6 x6 y6 W; rw [hM] at this; exact this))
  have C10 := Lib.hid (fun W => (show Calls Try.prog 44 #[sn n6 d6 x6 y6] W fun e w' => e = .returned (rs (m1, m2, m3, m4, mo)) ∧ Below W.heap.size W w' from by have := specMirrorSeen_any n6 d6 x6 y6 kd6 ky6 W; rw [hM] at this; exact this))
  have F7 := Lib.hid (mir_back hM)
  clear hM
  obtain ⟨t1, t2, t3, t4, uo, hU⟩ : ∃ a b c e o, turnT n7 d7 x7 y7 n8 d8 = (a, b, c, e, o) := ⟨_, _, _, _, _, rfl⟩
  have C11 := Lib.hid (fun W => (show Calls Try.prog 39 #[sn n7 d7 x7 y7, tv n8 d8] W fun e w' => e = .returned (rs (t1, t2, t3, t4, uo)) ∧ Below W.heap.size W w' from by have := implTurnSeen_any n7 d7 x7 y7 n8 d8 W; rw [hU] at this; exact this))
  have C12 := Lib.hid (fun W => (show Calls Try.prog 45 #[sn n7 d7 x7 y7, tv n8 d8] W fun e w' => e = .returned (rs (t1, t2, t3, t4, uo)) ∧ Below W.heap.size W w' from by have := specTurnSeen_any n7 d7 x7 y7 n8 d8 kd7 ky7 kd8 W; rw [hU] at this; exact this))
  have F8 := Lib.hid (fun (e : uo = true) => turn_back (by rw [hU, e] : turnT n7 d7 x7 y7 n8 d8 = (t1, t2, t3, t4, true)))
  clear hU
  (go_enter Try.func5, Try.ntmps5)
  go_wp2_with fail
  refine (C1.out _).mono ?_
  rintro e1 w1 ⟨v_ts, rfl, hr1, hb1⟩
  obtain ⟨pa_ts, pc_ts, rfl, -⟩ := TRow.cells hr1
  have R1_ts := Lib.hid hr1
  clear hr1
  obtain ⟨hc1, hf1⟩ := bcell hb1
  have hz1 := hb1.size
  (try simp only [World.size_alloc, World.size_setCell, World.size_drew] at hz1)
  have B1 : Below w.heap.size w w1 := Below.trans (b := _) (by (repeat' (first | (with_reducible exact Below.refl _ _) | (with_reducible assumption) | (with_reducible refine Below.alloc ?_ ?_ _) | (with_reducible refine Below.drew ?_) | (with_reducible refine below_drewN ?_ _) | (with_reducible refine Below.setCell ?_ ?_ _) | (with_reducible refine below_call ?_ ?_ (by assumption)) | go_size))) (hb1.mono (by first | omega | (simp only [World.size_alloc, World.size_setCell, World.size_drew]; omega)))
  obtain ⟨hd1, -⟩ := bcell B1
  have c1_s_0 : w1.cell? ⟨w.heap.size, 0, none⟩ = some (.int .i64 n1) := (hc1 _ _ (by go_size)).trans (by go_simp)
  have c1_s_1 : w1.cell? ⟨w.heap.size, 1, none⟩ = some (.int .i64 d1) := (hc1 _ _ (by go_size)).trans (by go_simp)
  have c1_s_2 : w1.cell? ⟨w.heap.size, 2, none⟩ = some (.int .i64 x1) := (hc1 _ _ (by go_size)).trans (by go_simp)
  have c1_s_3 : w1.cell? ⟨w.heap.size, 3, none⟩ = some (.int .i64 y1) := (hc1 _ _ (by go_size)).trans (by go_simp)
  have q_s : w.heap.size < w1.heap.size := by omega
  have c1_an_0 : w1.cell? ⟨w.heap.size + 1, 0, none⟩ = some (.int .i64 n3) := (hc1 _ _ (by go_size)).trans (by go_simp)
  have c1_an_1 : w1.cell? ⟨w.heap.size + 1, 1, none⟩ = some (.int .i64 d3) := (hc1 _ _ (by go_size)).trans (by go_simp)
  have q_an : w.heap.size + 1 < w1.heap.size := by omega
  have c1_q_0 : w1.cell? ⟨w.heap.size + 1 + 1, 0, none⟩ = some (.int .i64 n5) := (hc1 _ _ (by go_size)).trans (by go_simp)
  have c1_q_1 : w1.cell? ⟨w.heap.size + 1 + 1, 1, none⟩ = some (.int .i64 d5) := (hc1 _ _ (by go_size)).trans (by go_simp)
  have c1_q_2 : w1.cell? ⟨w.heap.size + 1 + 1, 2, none⟩ = some (.int .i64 x5) := (hc1 _ _ (by go_size)).trans (by go_simp)
  have c1_q_3 : w1.cell? ⟨w.heap.size + 1 + 1, 3, none⟩ = some (.int .i64 y5) := (hc1 _ _ (by go_size)).trans (by go_simp)
  have q_q : w.heap.size + 1 + 1 < w1.heap.size := by omega
  have c1_m_0 : w1.cell? ⟨w.heap.size + 1 + 1 + 1, 0, none⟩ = some (.int .i64 n6) := (hc1 _ _ (by go_size)).trans (by go_simp)
  have c1_m_1 : w1.cell? ⟨w.heap.size + 1 + 1 + 1, 1, none⟩ = some (.int .i64 d6) := (hc1 _ _ (by go_size)).trans (by go_simp)
  have c1_m_2 : w1.cell? ⟨w.heap.size + 1 + 1 + 1, 2, none⟩ = some (.int .i64 x6) := (hc1 _ _ (by go_size)).trans (by go_simp)
  have c1_m_3 : w1.cell? ⟨w.heap.size + 1 + 1 + 1, 3, none⟩ = some (.int .i64 y6) := (hc1 _ _ (by go_size)).trans (by go_simp)
  have q_m : w.heap.size + 1 + 1 + 1 < w1.heap.size := by omega
  have c1_r_0 : w1.cell? ⟨w.heap.size + 1 + 1 + 1 + 1, 0, none⟩ = some (.int .i64 n7) := (hc1 _ _ (by go_size)).trans (by go_simp)
  have c1_r_1 : w1.cell? ⟨w.heap.size + 1 + 1 + 1 + 1, 1, none⟩ = some (.int .i64 d7) := (hc1 _ _ (by go_size)).trans (by go_simp)
  have c1_r_2 : w1.cell? ⟨w.heap.size + 1 + 1 + 1 + 1, 2, none⟩ = some (.int .i64 x7) := (hc1 _ _ (by go_size)).trans (by go_simp)
  have c1_r_3 : w1.cell? ⟨w.heap.size + 1 + 1 + 1 + 1, 3, none⟩ = some (.int .i64 y7) := (hc1 _ _ (by go_size)).trans (by go_simp)
  have q_r : w.heap.size + 1 + 1 + 1 + 1 < w1.heap.size := by omega
  have c1_by_0 : w1.cell? ⟨w.heap.size + 1 + 1 + 1 + 1 + 1, 0, none⟩ = some (.int .i64 n8) := (hc1 _ _ (by go_size)).trans (by go_simp)
  have c1_by_1 : w1.cell? ⟨w.heap.size + 1 + 1 + 1 + 1 + 1, 1, none⟩ = some (.int .i64 d8) := (hc1 _ _ (by go_size)).trans (by go_simp)
  have q_by : w.heap.size + 1 + 1 + 1 + 1 + 1 < w1.heap.size := by omega
  have BW1 : Below w.heap.size w w1 := B1
  clear hc1 hf1 hb1 hd1 B1 
  go_wp2_with fail
  refine (C2.out _).mono ?_
  rintro e2 w2 ⟨v_right, rfl, hr2, hb2⟩
  obtain ⟨pa_right, pc_right, rfl, -⟩ := TRow.cells hr2
  have R2_right := Lib.hid hr2
  clear hr2
  obtain ⟨hc2, hf2⟩ := bcell hb2
  have hz2 := hb2.size
  (try simp only [World.size_alloc, World.size_setCell, World.size_drew] at hz2)
  have B2 : Below w1.heap.size w1 w2 := Below.trans (b := _) (by (repeat' (first | (with_reducible exact Below.refl _ _) | (with_reducible assumption) | (with_reducible refine Below.alloc ?_ ?_ _) | (with_reducible refine Below.drew ?_) | (with_reducible refine below_drewN ?_ _) | (with_reducible refine Below.setCell ?_ ?_ _) | (with_reducible refine below_call ?_ ?_ (by assumption)) | go_size))) (hb2.mono (by first | omega | (simp only [World.size_alloc, World.size_setCell, World.size_drew]; omega)))
  obtain ⟨hd2, -⟩ := bcell B2
  have c2_s_0 : w2.cell? ⟨w.heap.size, 0, none⟩ = some (.int .i64 n1) := (hd2 _ _ q_s).trans c1_s_0
  have c2_s_1 : w2.cell? ⟨w.heap.size, 1, none⟩ = some (.int .i64 d1) := (hd2 _ _ q_s).trans c1_s_1
  have c2_s_2 : w2.cell? ⟨w.heap.size, 2, none⟩ = some (.int .i64 x1) := (hd2 _ _ q_s).trans c1_s_2
  have c2_s_3 : w2.cell? ⟨w.heap.size, 3, none⟩ = some (.int .i64 y1) := (hd2 _ _ q_s).trans c1_s_3
  have c2_an_0 : w2.cell? ⟨w.heap.size + 1, 0, none⟩ = some (.int .i64 n3) := (hd2 _ _ q_an).trans c1_an_0
  have c2_an_1 : w2.cell? ⟨w.heap.size + 1, 1, none⟩ = some (.int .i64 d3) := (hd2 _ _ q_an).trans c1_an_1
  have c2_q_0 : w2.cell? ⟨w.heap.size + 1 + 1, 0, none⟩ = some (.int .i64 n5) := (hd2 _ _ q_q).trans c1_q_0
  have c2_q_1 : w2.cell? ⟨w.heap.size + 1 + 1, 1, none⟩ = some (.int .i64 d5) := (hd2 _ _ q_q).trans c1_q_1
  have c2_q_2 : w2.cell? ⟨w.heap.size + 1 + 1, 2, none⟩ = some (.int .i64 x5) := (hd2 _ _ q_q).trans c1_q_2
  have c2_q_3 : w2.cell? ⟨w.heap.size + 1 + 1, 3, none⟩ = some (.int .i64 y5) := (hd2 _ _ q_q).trans c1_q_3
  have c2_m_0 : w2.cell? ⟨w.heap.size + 1 + 1 + 1, 0, none⟩ = some (.int .i64 n6) := (hd2 _ _ q_m).trans c1_m_0
  have c2_m_1 : w2.cell? ⟨w.heap.size + 1 + 1 + 1, 1, none⟩ = some (.int .i64 d6) := (hd2 _ _ q_m).trans c1_m_1
  have c2_m_2 : w2.cell? ⟨w.heap.size + 1 + 1 + 1, 2, none⟩ = some (.int .i64 x6) := (hd2 _ _ q_m).trans c1_m_2
  have c2_m_3 : w2.cell? ⟨w.heap.size + 1 + 1 + 1, 3, none⟩ = some (.int .i64 y6) := (hd2 _ _ q_m).trans c1_m_3
  have c2_r_0 : w2.cell? ⟨w.heap.size + 1 + 1 + 1 + 1, 0, none⟩ = some (.int .i64 n7) := (hd2 _ _ q_r).trans c1_r_0
  have c2_r_1 : w2.cell? ⟨w.heap.size + 1 + 1 + 1 + 1, 1, none⟩ = some (.int .i64 d7) := (hd2 _ _ q_r).trans c1_r_1
  have c2_r_2 : w2.cell? ⟨w.heap.size + 1 + 1 + 1 + 1, 2, none⟩ = some (.int .i64 x7) := (hd2 _ _ q_r).trans c1_r_2
  have c2_r_3 : w2.cell? ⟨w.heap.size + 1 + 1 + 1 + 1, 3, none⟩ = some (.int .i64 y7) := (hd2 _ _ q_r).trans c1_r_3
  have c2_by_0 : w2.cell? ⟨w.heap.size + 1 + 1 + 1 + 1 + 1, 0, none⟩ = some (.int .i64 n8) := (hd2 _ _ q_by).trans c1_by_0
  have c2_by_1 : w2.cell? ⟨w.heap.size + 1 + 1 + 1 + 1 + 1, 1, none⟩ = some (.int .i64 d8) := (hd2 _ _ q_by).trans c1_by_1
  replace q_s : w.heap.size < w2.heap.size := by omega
  replace q_an : w.heap.size + 1 < w2.heap.size := by omega
  replace q_q : w.heap.size + 1 + 1 < w2.heap.size := by omega
  replace q_m : w.heap.size + 1 + 1 + 1 < w2.heap.size := by omega
  replace q_r : w.heap.size + 1 + 1 + 1 + 1 < w2.heap.size := by omega
  replace q_by : w.heap.size + 1 + 1 + 1 + 1 + 1 < w2.heap.size := by omega
  have R2_ts := Lib.hid (TRow.below R1_ts.out B2)
  clear R1_ts
  have BW2 : Below w.heap.size w w2 := BW1.trans (B2.mono BW1.size)
  clear hc2 hf2 hb2 hd2 B2 c1_s_0 c1_s_1 c1_s_2 c1_s_3 c1_an_0 c1_an_1 c1_q_0 c1_q_1 c1_q_2 c1_q_3 c1_m_0 c1_m_1 c1_m_2 c1_m_3 c1_r_0 c1_r_1 c1_r_2 c1_r_3 c1_by_0 c1_by_1 BW1
  go_wp2_with fail
  refine (C3.out _).mono ?_
  rintro e3 w3 ⟨v_td, rfl, hr3, hb3⟩
  obtain ⟨pa_td, pc_td, rfl, -⟩ := TRow.cells hr3
  have R3_td := Lib.hid hr3
  clear hr3
  obtain ⟨hc3, hf3⟩ := bcell hb3
  have hz3 := hb3.size
  (try simp only [World.size_alloc, World.size_setCell, World.size_drew] at hz3)
  have B3 : Below w2.heap.size w2 w3 := Below.trans (b := _) (by (repeat' (first | (with_reducible exact Below.refl _ _) | (with_reducible assumption) | (with_reducible refine Below.alloc ?_ ?_ _) | (with_reducible refine Below.drew ?_) | (with_reducible refine below_drewN ?_ _) | (with_reducible refine Below.setCell ?_ ?_ _) | (with_reducible refine below_call ?_ ?_ (by assumption)) | go_size))) (hb3.mono (by first | omega | (simp only [World.size_alloc, World.size_setCell, World.size_drew]; omega)))
  obtain ⟨hd3, -⟩ := bcell B3
  have c3_s_0 : w3.cell? ⟨w.heap.size, 0, none⟩ = some (.int .i64 n1) := (hd3 _ _ q_s).trans c2_s_0
  have c3_s_1 : w3.cell? ⟨w.heap.size, 1, none⟩ = some (.int .i64 d1) := (hd3 _ _ q_s).trans c2_s_1
  have c3_s_2 : w3.cell? ⟨w.heap.size, 2, none⟩ = some (.int .i64 x1) := (hd3 _ _ q_s).trans c2_s_2
  have c3_s_3 : w3.cell? ⟨w.heap.size, 3, none⟩ = some (.int .i64 y1) := (hd3 _ _ q_s).trans c2_s_3
  have c3_an_0 : w3.cell? ⟨w.heap.size + 1, 0, none⟩ = some (.int .i64 n3) := (hd3 _ _ q_an).trans c2_an_0
  have c3_an_1 : w3.cell? ⟨w.heap.size + 1, 1, none⟩ = some (.int .i64 d3) := (hd3 _ _ q_an).trans c2_an_1
  have c3_q_0 : w3.cell? ⟨w.heap.size + 1 + 1, 0, none⟩ = some (.int .i64 n5) := (hd3 _ _ q_q).trans c2_q_0
  have c3_q_1 : w3.cell? ⟨w.heap.size + 1 + 1, 1, none⟩ = some (.int .i64 d5) := (hd3 _ _ q_q).trans c2_q_1
  have c3_q_2 : w3.cell? ⟨w.heap.size + 1 + 1, 2, none⟩ = some (.int .i64 x5) := (hd3 _ _ q_q).trans c2_q_2
  have c3_q_3 : w3.cell? ⟨w.heap.size + 1 + 1, 3, none⟩ = some (.int .i64 y5) := (hd3 _ _ q_q).trans c2_q_3
  have c3_m_0 : w3.cell? ⟨w.heap.size + 1 + 1 + 1, 0, none⟩ = some (.int .i64 n6) := (hd3 _ _ q_m).trans c2_m_0
  have c3_m_1 : w3.cell? ⟨w.heap.size + 1 + 1 + 1, 1, none⟩ = some (.int .i64 d6) := (hd3 _ _ q_m).trans c2_m_1
  have c3_m_2 : w3.cell? ⟨w.heap.size + 1 + 1 + 1, 2, none⟩ = some (.int .i64 x6) := (hd3 _ _ q_m).trans c2_m_2
  have c3_m_3 : w3.cell? ⟨w.heap.size + 1 + 1 + 1, 3, none⟩ = some (.int .i64 y6) := (hd3 _ _ q_m).trans c2_m_3
  have c3_r_0 : w3.cell? ⟨w.heap.size + 1 + 1 + 1 + 1, 0, none⟩ = some (.int .i64 n7) := (hd3 _ _ q_r).trans c2_r_0
  have c3_r_1 : w3.cell? ⟨w.heap.size + 1 + 1 + 1 + 1, 1, none⟩ = some (.int .i64 d7) := (hd3 _ _ q_r).trans c2_r_1
  have c3_r_2 : w3.cell? ⟨w.heap.size + 1 + 1 + 1 + 1, 2, none⟩ = some (.int .i64 x7) := (hd3 _ _ q_r).trans c2_r_2
  have c3_r_3 : w3.cell? ⟨w.heap.size + 1 + 1 + 1 + 1, 3, none⟩ = some (.int .i64 y7) := (hd3 _ _ q_r).trans c2_r_3
  have c3_by_0 : w3.cell? ⟨w.heap.size + 1 + 1 + 1 + 1 + 1, 0, none⟩ = some (.int .i64 n8) := (hd3 _ _ q_by).trans c2_by_0
  have c3_by_1 : w3.cell? ⟨w.heap.size + 1 + 1 + 1 + 1 + 1, 1, none⟩ = some (.int .i64 d8) := (hd3 _ _ q_by).trans c2_by_1
  replace q_s : w.heap.size < w3.heap.size := by omega
  replace q_an : w.heap.size + 1 < w3.heap.size := by omega
  replace q_q : w.heap.size + 1 + 1 < w3.heap.size := by omega
  replace q_m : w.heap.size + 1 + 1 + 1 < w3.heap.size := by omega
  replace q_r : w.heap.size + 1 + 1 + 1 + 1 < w3.heap.size := by omega
  replace q_by : w.heap.size + 1 + 1 + 1 + 1 + 1 < w3.heap.size := by omega
  have R3_ts := Lib.hid (TRow.below R2_ts.out B3)
  clear R2_ts
  have R3_right := Lib.hid (TRow.below R2_right.out B3)
  clear R2_right
  have BW3 : Below w.heap.size w w3 := BW2.trans (B3.mono BW2.size)
  clear hc3 hf3 hb3 hd3 B3 c2_s_0 c2_s_1 c2_s_2 c2_s_3 c2_an_0 c2_an_1 c2_q_0 c2_q_1 c2_q_2 c2_q_3 c2_m_0 c2_m_1 c2_m_2 c2_m_3 c2_r_0 c2_r_1 c2_r_2 c2_r_3 c2_by_0 c2_by_1 BW2
  go_wp2_with fail
  refine (C4.out _).mono ?_
  rintro e4 w4 ⟨v_want, rfl, hr4, hb4⟩
  obtain ⟨pa_want, pc_want, rfl, -⟩ := TRow.cells hr4
  have R4_want := Lib.hid hr4
  clear hr4
  obtain ⟨hc4, hf4⟩ := bcell hb4
  have hz4 := hb4.size
  (try simp only [World.size_alloc, World.size_setCell, World.size_drew] at hz4)
  have B4 : Below w3.heap.size w3 w4 := Below.trans (b := _) (by (repeat' (first | (with_reducible exact Below.refl _ _) | (with_reducible assumption) | (with_reducible refine Below.alloc ?_ ?_ _) | (with_reducible refine Below.drew ?_) | (with_reducible refine below_drewN ?_ _) | (with_reducible refine Below.setCell ?_ ?_ _) | (with_reducible refine below_call ?_ ?_ (by assumption)) | go_size))) (hb4.mono (by first | omega | (simp only [World.size_alloc, World.size_setCell, World.size_drew]; omega)))
  obtain ⟨hd4, -⟩ := bcell B4
  have c4_s_0 : w4.cell? ⟨w.heap.size, 0, none⟩ = some (.int .i64 n1) := (hd4 _ _ q_s).trans c3_s_0
  have c4_s_1 : w4.cell? ⟨w.heap.size, 1, none⟩ = some (.int .i64 d1) := (hd4 _ _ q_s).trans c3_s_1
  have c4_s_2 : w4.cell? ⟨w.heap.size, 2, none⟩ = some (.int .i64 x1) := (hd4 _ _ q_s).trans c3_s_2
  have c4_s_3 : w4.cell? ⟨w.heap.size, 3, none⟩ = some (.int .i64 y1) := (hd4 _ _ q_s).trans c3_s_3
  have c4_an_0 : w4.cell? ⟨w.heap.size + 1, 0, none⟩ = some (.int .i64 n3) := (hd4 _ _ q_an).trans c3_an_0
  have c4_an_1 : w4.cell? ⟨w.heap.size + 1, 1, none⟩ = some (.int .i64 d3) := (hd4 _ _ q_an).trans c3_an_1
  have c4_q_0 : w4.cell? ⟨w.heap.size + 1 + 1, 0, none⟩ = some (.int .i64 n5) := (hd4 _ _ q_q).trans c3_q_0
  have c4_q_1 : w4.cell? ⟨w.heap.size + 1 + 1, 1, none⟩ = some (.int .i64 d5) := (hd4 _ _ q_q).trans c3_q_1
  have c4_q_2 : w4.cell? ⟨w.heap.size + 1 + 1, 2, none⟩ = some (.int .i64 x5) := (hd4 _ _ q_q).trans c3_q_2
  have c4_q_3 : w4.cell? ⟨w.heap.size + 1 + 1, 3, none⟩ = some (.int .i64 y5) := (hd4 _ _ q_q).trans c3_q_3
  have c4_m_0 : w4.cell? ⟨w.heap.size + 1 + 1 + 1, 0, none⟩ = some (.int .i64 n6) := (hd4 _ _ q_m).trans c3_m_0
  have c4_m_1 : w4.cell? ⟨w.heap.size + 1 + 1 + 1, 1, none⟩ = some (.int .i64 d6) := (hd4 _ _ q_m).trans c3_m_1
  have c4_m_2 : w4.cell? ⟨w.heap.size + 1 + 1 + 1, 2, none⟩ = some (.int .i64 x6) := (hd4 _ _ q_m).trans c3_m_2
  have c4_m_3 : w4.cell? ⟨w.heap.size + 1 + 1 + 1, 3, none⟩ = some (.int .i64 y6) := (hd4 _ _ q_m).trans c3_m_3
  have c4_r_0 : w4.cell? ⟨w.heap.size + 1 + 1 + 1 + 1, 0, none⟩ = some (.int .i64 n7) := (hd4 _ _ q_r).trans c3_r_0
  have c4_r_1 : w4.cell? ⟨w.heap.size + 1 + 1 + 1 + 1, 1, none⟩ = some (.int .i64 d7) := (hd4 _ _ q_r).trans c3_r_1
  have c4_r_2 : w4.cell? ⟨w.heap.size + 1 + 1 + 1 + 1, 2, none⟩ = some (.int .i64 x7) := (hd4 _ _ q_r).trans c3_r_2
  have c4_r_3 : w4.cell? ⟨w.heap.size + 1 + 1 + 1 + 1, 3, none⟩ = some (.int .i64 y7) := (hd4 _ _ q_r).trans c3_r_3
  have c4_by_0 : w4.cell? ⟨w.heap.size + 1 + 1 + 1 + 1 + 1, 0, none⟩ = some (.int .i64 n8) := (hd4 _ _ q_by).trans c3_by_0
  have c4_by_1 : w4.cell? ⟨w.heap.size + 1 + 1 + 1 + 1 + 1, 1, none⟩ = some (.int .i64 d8) := (hd4 _ _ q_by).trans c3_by_1
  replace q_s : w.heap.size < w4.heap.size := by omega
  replace q_an : w.heap.size + 1 < w4.heap.size := by omega
  replace q_q : w.heap.size + 1 + 1 < w4.heap.size := by omega
  replace q_m : w.heap.size + 1 + 1 + 1 < w4.heap.size := by omega
  replace q_r : w.heap.size + 1 + 1 + 1 + 1 < w4.heap.size := by omega
  replace q_by : w.heap.size + 1 + 1 + 1 + 1 + 1 < w4.heap.size := by omega
  have R4_ts := Lib.hid (TRow.below R3_ts.out B4)
  clear R3_ts
  have R4_right := Lib.hid (TRow.below R3_right.out B4)
  clear R3_right
  have R4_td := Lib.hid (TRow.below R3_td.out B4)
  clear R3_td
  have BW4 : Below w.heap.size w w4 := BW3.trans (B4.mono BW3.size)
  clear hc4 hf4 hb4 hd4 B4 c3_s_0 c3_s_1 c3_s_2 c3_s_3 c3_an_0 c3_an_1 c3_q_0 c3_q_1 c3_q_2 c3_q_3 c3_m_0 c3_m_1 c3_m_2 c3_m_3 c3_r_0 c3_r_1 c3_r_2 c3_r_3 c3_by_0 c3_by_1 BW3
  go_upto_region 5 with fail
  go_cut [119] from 999 to 999 (fun x wx => x = .bool false ∧ Below w4.heap.size w4 wx)
  case first =>
    as_aux_lemma =>
      go_wp2_with fail
      refine (wTurns_same TS _ _ _ _ _ R4_ts.out R4_right.out HTS.out).mono ?_
      rintro e5 w5 ⟨rfl, hb5⟩
      obtain ⟨hc5, hf5⟩ := bcell hb5
      have hz5 := hb5.size
      (try simp only [World.size_alloc, World.size_setCell, World.size_drew] at hz5)
      have B5 : Below w4.heap.size w4 w5 := Below.trans (b := _) (by (repeat' (first | (with_reducible exact Below.refl _ _) | (with_reducible assumption) | (with_reducible refine Below.alloc ?_ ?_ _) | (with_reducible refine Below.drew ?_) | (with_reducible refine below_drewN ?_ _) | (with_reducible refine Below.setCell ?_ ?_ _) | (with_reducible refine below_call ?_ ?_ (by assumption)) | go_size))) (hb5.mono (by first | omega | (simp only [World.size_alloc, World.size_setCell, World.size_drew]; omega)))
      obtain ⟨hd5, -⟩ := bcell B5
      have c5_s_0 : w5.cell? ⟨w.heap.size, 0, none⟩ = some (.int .i64 n1) := (hd5 _ _ q_s).trans c4_s_0
      have c5_s_1 : w5.cell? ⟨w.heap.size, 1, none⟩ = some (.int .i64 d1) := (hd5 _ _ q_s).trans c4_s_1
      have c5_s_2 : w5.cell? ⟨w.heap.size, 2, none⟩ = some (.int .i64 x1) := (hd5 _ _ q_s).trans c4_s_2
      have c5_s_3 : w5.cell? ⟨w.heap.size, 3, none⟩ = some (.int .i64 y1) := (hd5 _ _ q_s).trans c4_s_3
      have c5_an_0 : w5.cell? ⟨w.heap.size + 1, 0, none⟩ = some (.int .i64 n3) := (hd5 _ _ q_an).trans c4_an_0
      have c5_an_1 : w5.cell? ⟨w.heap.size + 1, 1, none⟩ = some (.int .i64 d3) := (hd5 _ _ q_an).trans c4_an_1
      have c5_q_0 : w5.cell? ⟨w.heap.size + 1 + 1, 0, none⟩ = some (.int .i64 n5) := (hd5 _ _ q_q).trans c4_q_0
      have c5_q_1 : w5.cell? ⟨w.heap.size + 1 + 1, 1, none⟩ = some (.int .i64 d5) := (hd5 _ _ q_q).trans c4_q_1
      have c5_q_2 : w5.cell? ⟨w.heap.size + 1 + 1, 2, none⟩ = some (.int .i64 x5) := (hd5 _ _ q_q).trans c4_q_2
      have c5_q_3 : w5.cell? ⟨w.heap.size + 1 + 1, 3, none⟩ = some (.int .i64 y5) := (hd5 _ _ q_q).trans c4_q_3
      have c5_m_0 : w5.cell? ⟨w.heap.size + 1 + 1 + 1, 0, none⟩ = some (.int .i64 n6) := (hd5 _ _ q_m).trans c4_m_0
      have c5_m_1 : w5.cell? ⟨w.heap.size + 1 + 1 + 1, 1, none⟩ = some (.int .i64 d6) := (hd5 _ _ q_m).trans c4_m_1
      have c5_m_2 : w5.cell? ⟨w.heap.size + 1 + 1 + 1, 2, none⟩ = some (.int .i64 x6) := (hd5 _ _ q_m).trans c4_m_2
      have c5_m_3 : w5.cell? ⟨w.heap.size + 1 + 1 + 1, 3, none⟩ = some (.int .i64 y6) := (hd5 _ _ q_m).trans c4_m_3
      have c5_r_0 : w5.cell? ⟨w.heap.size + 1 + 1 + 1 + 1, 0, none⟩ = some (.int .i64 n7) := (hd5 _ _ q_r).trans c4_r_0
      have c5_r_1 : w5.cell? ⟨w.heap.size + 1 + 1 + 1 + 1, 1, none⟩ = some (.int .i64 d7) := (hd5 _ _ q_r).trans c4_r_1
      have c5_r_2 : w5.cell? ⟨w.heap.size + 1 + 1 + 1 + 1, 2, none⟩ = some (.int .i64 x7) := (hd5 _ _ q_r).trans c4_r_2
      have c5_r_3 : w5.cell? ⟨w.heap.size + 1 + 1 + 1 + 1, 3, none⟩ = some (.int .i64 y7) := (hd5 _ _ q_r).trans c4_r_3
      have c5_by_0 : w5.cell? ⟨w.heap.size + 1 + 1 + 1 + 1 + 1, 0, none⟩ = some (.int .i64 n8) := (hd5 _ _ q_by).trans c4_by_0
      have c5_by_1 : w5.cell? ⟨w.heap.size + 1 + 1 + 1 + 1 + 1, 1, none⟩ = some (.int .i64 d8) := (hd5 _ _ q_by).trans c4_by_1
      replace q_s : w.heap.size < w5.heap.size := by omega
      replace q_an : w.heap.size + 1 < w5.heap.size := by omega
      replace q_q : w.heap.size + 1 + 1 < w5.heap.size := by omega
      replace q_m : w.heap.size + 1 + 1 + 1 < w5.heap.size := by omega
      replace q_r : w.heap.size + 1 + 1 + 1 + 1 < w5.heap.size := by omega
      replace q_by : w.heap.size + 1 + 1 + 1 + 1 + 1 < w5.heap.size := by omega
      have R5_ts := Lib.hid (TRow.below R4_ts.out B5)
      clear R4_ts
      have R5_right := Lib.hid (TRow.below R4_right.out B5)
      clear R4_right
      have R5_td := Lib.hid (TRow.below R4_td.out B5)
      clear R4_td
      have R5_want := Lib.hid (TRow.below R4_want.out B5)
      clear R4_want
      have BW5 : Below w.heap.size w w5 := BW4.trans (B5.mono BW4.size)
      have BX5 : Below w4.heap.size w4 w5 := B5
      clear hc5 hf5 hb5 hd5 B5 c4_s_0 c4_s_1 c4_s_2 c4_s_3 c4_an_0 c4_an_1 c4_q_0 c4_q_1 c4_q_2 c4_q_3 c4_m_0 c4_m_1 c4_m_2 c4_m_3 c4_r_0 c4_r_1 c4_r_2 c4_r_3 c4_by_0 c4_by_1 BW4
      go_wp2_with fail
      refine (wTurns_same TD _ _ _ _ _ R5_td.out R5_want.out HTD.out).mono ?_
      rintro e6 w6 ⟨rfl, hb6⟩
      obtain ⟨hc6, hf6⟩ := bcell hb6
      have hz6 := hb6.size
      (try simp only [World.size_alloc, World.size_setCell, World.size_drew] at hz6)
      have B6 : Below w5.heap.size w5 w6 := Below.trans (b := _) (by (repeat' (first | (with_reducible exact Below.refl _ _) | (with_reducible assumption) | (with_reducible refine Below.alloc ?_ ?_ _) | (with_reducible refine Below.drew ?_) | (with_reducible refine below_drewN ?_ _) | (with_reducible refine Below.setCell ?_ ?_ _) | (with_reducible refine below_call ?_ ?_ (by assumption)) | go_size))) (hb6.mono (by first | omega | (simp only [World.size_alloc, World.size_setCell, World.size_drew]; omega)))
      obtain ⟨hd6, -⟩ := bcell B6
      have c6_s_0 : w6.cell? ⟨w.heap.size, 0, none⟩ = some (.int .i64 n1) := (hd6 _ _ q_s).trans c5_s_0
      have c6_s_1 : w6.cell? ⟨w.heap.size, 1, none⟩ = some (.int .i64 d1) := (hd6 _ _ q_s).trans c5_s_1
      have c6_s_2 : w6.cell? ⟨w.heap.size, 2, none⟩ = some (.int .i64 x1) := (hd6 _ _ q_s).trans c5_s_2
      have c6_s_3 : w6.cell? ⟨w.heap.size, 3, none⟩ = some (.int .i64 y1) := (hd6 _ _ q_s).trans c5_s_3
      have c6_an_0 : w6.cell? ⟨w.heap.size + 1, 0, none⟩ = some (.int .i64 n3) := (hd6 _ _ q_an).trans c5_an_0
      have c6_an_1 : w6.cell? ⟨w.heap.size + 1, 1, none⟩ = some (.int .i64 d3) := (hd6 _ _ q_an).trans c5_an_1
      have c6_q_0 : w6.cell? ⟨w.heap.size + 1 + 1, 0, none⟩ = some (.int .i64 n5) := (hd6 _ _ q_q).trans c5_q_0
      have c6_q_1 : w6.cell? ⟨w.heap.size + 1 + 1, 1, none⟩ = some (.int .i64 d5) := (hd6 _ _ q_q).trans c5_q_1
      have c6_q_2 : w6.cell? ⟨w.heap.size + 1 + 1, 2, none⟩ = some (.int .i64 x5) := (hd6 _ _ q_q).trans c5_q_2
      have c6_q_3 : w6.cell? ⟨w.heap.size + 1 + 1, 3, none⟩ = some (.int .i64 y5) := (hd6 _ _ q_q).trans c5_q_3
      have c6_m_0 : w6.cell? ⟨w.heap.size + 1 + 1 + 1, 0, none⟩ = some (.int .i64 n6) := (hd6 _ _ q_m).trans c5_m_0
      have c6_m_1 : w6.cell? ⟨w.heap.size + 1 + 1 + 1, 1, none⟩ = some (.int .i64 d6) := (hd6 _ _ q_m).trans c5_m_1
      have c6_m_2 : w6.cell? ⟨w.heap.size + 1 + 1 + 1, 2, none⟩ = some (.int .i64 x6) := (hd6 _ _ q_m).trans c5_m_2
      have c6_m_3 : w6.cell? ⟨w.heap.size + 1 + 1 + 1, 3, none⟩ = some (.int .i64 y6) := (hd6 _ _ q_m).trans c5_m_3
      have c6_r_0 : w6.cell? ⟨w.heap.size + 1 + 1 + 1 + 1, 0, none⟩ = some (.int .i64 n7) := (hd6 _ _ q_r).trans c5_r_0
      have c6_r_1 : w6.cell? ⟨w.heap.size + 1 + 1 + 1 + 1, 1, none⟩ = some (.int .i64 d7) := (hd6 _ _ q_r).trans c5_r_1
      have c6_r_2 : w6.cell? ⟨w.heap.size + 1 + 1 + 1 + 1, 2, none⟩ = some (.int .i64 x7) := (hd6 _ _ q_r).trans c5_r_2
      have c6_r_3 : w6.cell? ⟨w.heap.size + 1 + 1 + 1 + 1, 3, none⟩ = some (.int .i64 y7) := (hd6 _ _ q_r).trans c5_r_3
      have c6_by_0 : w6.cell? ⟨w.heap.size + 1 + 1 + 1 + 1 + 1, 0, none⟩ = some (.int .i64 n8) := (hd6 _ _ q_by).trans c5_by_0
      have c6_by_1 : w6.cell? ⟨w.heap.size + 1 + 1 + 1 + 1 + 1, 1, none⟩ = some (.int .i64 d8) := (hd6 _ _ q_by).trans c5_by_1
      replace q_s : w.heap.size < w6.heap.size := by omega
      replace q_an : w.heap.size + 1 < w6.heap.size := by omega
      replace q_q : w.heap.size + 1 + 1 < w6.heap.size := by omega
      replace q_m : w.heap.size + 1 + 1 + 1 < w6.heap.size := by omega
      replace q_r : w.heap.size + 1 + 1 + 1 + 1 < w6.heap.size := by omega
      replace q_by : w.heap.size + 1 + 1 + 1 + 1 + 1 < w6.heap.size := by omega
      have R6_ts := Lib.hid (TRow.below R5_ts.out B6)
      clear R5_ts
      have R6_right := Lib.hid (TRow.below R5_right.out B6)
      clear R5_right
      have R6_td := Lib.hid (TRow.below R5_td.out B6)
      clear R5_td
      have R6_want := Lib.hid (TRow.below R5_want.out B6)
      clear R5_want
      have BW6 : Below w.heap.size w w6 := BW5.trans (B6.mono BW5.size)
      have BX6 : Below w4.heap.size w4 w6 := BX5.trans (B6.mono BX5.size)
      clear BX5
      clear hc6 hf6 hb6 hd6 B6 c5_s_0 c5_s_1 c5_s_2 c5_s_3 c5_an_0 c5_an_1 c5_q_0 c5_q_1 c5_q_2 c5_q_3 c5_m_0 c5_m_1 c5_m_2 c5_m_3 c5_r_0 c5_r_1 c5_r_2 c5_r_3 c5_by_0 c5_by_1 BW5
      cases dok
      · go_wp2_with fail
        go_meet
        case rel => exact ⟨rfl, BX6⟩
      · have e := (F1.out rfl).1
        subst e
        go_wp2_with fail
        go_meet
        case rel => exact ⟨rfl, BX6⟩
  case rest =>
    obtain ⟨rfl, hb5⟩ := hcut
    obtain ⟨w5, hw5⟩ : ∃ x : World, x = wc := ⟨_, rfl⟩
    subst hw5
    obtain ⟨hc5, hf5⟩ := bcell hb5
    have hz5 := hb5.size
    (try simp only [World.size_alloc, World.size_setCell, World.size_drew] at hz5)
    have B5 : Below w4.heap.size w4 w5 := Below.trans (b := _) (by (repeat' (first | (with_reducible exact Below.refl _ _) | (with_reducible assumption) | (with_reducible refine Below.alloc ?_ ?_ _) | (with_reducible refine Below.drew ?_) | (with_reducible refine below_drewN ?_ _) | (with_reducible refine Below.setCell ?_ ?_ _) | (with_reducible refine below_call ?_ ?_ (by assumption)) | go_size))) (hb5.mono (by first | omega | (simp only [World.size_alloc, World.size_setCell, World.size_drew]; omega)))
    obtain ⟨hd5, -⟩ := bcell B5
    have c5_s_0 : w5.cell? ⟨w.heap.size, 0, none⟩ = some (.int .i64 n1) := (hd5 _ _ q_s).trans c4_s_0
    have c5_s_1 : w5.cell? ⟨w.heap.size, 1, none⟩ = some (.int .i64 d1) := (hd5 _ _ q_s).trans c4_s_1
    have c5_s_2 : w5.cell? ⟨w.heap.size, 2, none⟩ = some (.int .i64 x1) := (hd5 _ _ q_s).trans c4_s_2
    have c5_s_3 : w5.cell? ⟨w.heap.size, 3, none⟩ = some (.int .i64 y1) := (hd5 _ _ q_s).trans c4_s_3
    have c5_an_0 : w5.cell? ⟨w.heap.size + 1, 0, none⟩ = some (.int .i64 n3) := (hd5 _ _ q_an).trans c4_an_0
    have c5_an_1 : w5.cell? ⟨w.heap.size + 1, 1, none⟩ = some (.int .i64 d3) := (hd5 _ _ q_an).trans c4_an_1
    have c5_q_0 : w5.cell? ⟨w.heap.size + 1 + 1, 0, none⟩ = some (.int .i64 n5) := (hd5 _ _ q_q).trans c4_q_0
    have c5_q_1 : w5.cell? ⟨w.heap.size + 1 + 1, 1, none⟩ = some (.int .i64 d5) := (hd5 _ _ q_q).trans c4_q_1
    have c5_q_2 : w5.cell? ⟨w.heap.size + 1 + 1, 2, none⟩ = some (.int .i64 x5) := (hd5 _ _ q_q).trans c4_q_2
    have c5_q_3 : w5.cell? ⟨w.heap.size + 1 + 1, 3, none⟩ = some (.int .i64 y5) := (hd5 _ _ q_q).trans c4_q_3
    have c5_m_0 : w5.cell? ⟨w.heap.size + 1 + 1 + 1, 0, none⟩ = some (.int .i64 n6) := (hd5 _ _ q_m).trans c4_m_0
    have c5_m_1 : w5.cell? ⟨w.heap.size + 1 + 1 + 1, 1, none⟩ = some (.int .i64 d6) := (hd5 _ _ q_m).trans c4_m_1
    have c5_m_2 : w5.cell? ⟨w.heap.size + 1 + 1 + 1, 2, none⟩ = some (.int .i64 x6) := (hd5 _ _ q_m).trans c4_m_2
    have c5_m_3 : w5.cell? ⟨w.heap.size + 1 + 1 + 1, 3, none⟩ = some (.int .i64 y6) := (hd5 _ _ q_m).trans c4_m_3
    have c5_r_0 : w5.cell? ⟨w.heap.size + 1 + 1 + 1 + 1, 0, none⟩ = some (.int .i64 n7) := (hd5 _ _ q_r).trans c4_r_0
    have c5_r_1 : w5.cell? ⟨w.heap.size + 1 + 1 + 1 + 1, 1, none⟩ = some (.int .i64 d7) := (hd5 _ _ q_r).trans c4_r_1
    have c5_r_2 : w5.cell? ⟨w.heap.size + 1 + 1 + 1 + 1, 2, none⟩ = some (.int .i64 x7) := (hd5 _ _ q_r).trans c4_r_2
    have c5_r_3 : w5.cell? ⟨w.heap.size + 1 + 1 + 1 + 1, 3, none⟩ = some (.int .i64 y7) := (hd5 _ _ q_r).trans c4_r_3
    have c5_by_0 : w5.cell? ⟨w.heap.size + 1 + 1 + 1 + 1 + 1, 0, none⟩ = some (.int .i64 n8) := (hd5 _ _ q_by).trans c4_by_0
    have c5_by_1 : w5.cell? ⟨w.heap.size + 1 + 1 + 1 + 1 + 1, 1, none⟩ = some (.int .i64 d8) := (hd5 _ _ q_by).trans c4_by_1
    replace q_s : w.heap.size < w5.heap.size := by omega
    replace q_an : w.heap.size + 1 < w5.heap.size := by omega
    replace q_q : w.heap.size + 1 + 1 < w5.heap.size := by omega
    replace q_m : w.heap.size + 1 + 1 + 1 < w5.heap.size := by omega
    replace q_r : w.heap.size + 1 + 1 + 1 + 1 < w5.heap.size := by omega
    replace q_by : w.heap.size + 1 + 1 + 1 + 1 + 1 < w5.heap.size := by omega
    have R5_ts := Lib.hid (TRow.below R4_ts.out B5)
    clear R4_ts
    have R5_right := Lib.hid (TRow.below R4_right.out B5)
    clear R4_right
    have R5_td := Lib.hid (TRow.below R4_td.out B5)
    clear R4_td
    have R5_want := Lib.hid (TRow.below R4_want.out B5)
    clear R4_want
    have BW5 : Below w.heap.size w w5 := BW4.trans (B5.mono BW4.size)
    clear hc5 hf5 hb5 hd5 B5 c4_s_0 c4_s_1 c4_s_2 c4_s_3 c4_an_0 c4_an_1 c4_q_0 c4_q_1 c4_q_2 c4_q_3 c4_m_0 c4_m_1 c4_m_2 c4_m_3 c4_r_0 c4_r_1 c4_r_2 c4_r_3 c4_by_0 c4_by_1 BW4
    clear R5_right
    clear R5_want
    go_upto_region 7 with fail
    go_cut [132] from 999 to 999 (fun x wx => x = .bool false ∧ Below w5.heap.size w5 wx)
    case first =>
      as_aux_lemma =>
        cases tok
        · go_wp2_with fail
          go_meet
          case rel => exact ⟨rfl, Below.refl _ _⟩
        · obtain ⟨⟨-, hh⟩, hl, hr, -, -⟩ := F2.out rfl
          have HR := Lib.hid hr
          have hw1 : IntKind.i64.wrap (a0 - 1) = a0 - 1 := by rw [IntKind.wrap_i64]; omega
          have hne : ((TS.length : Int) != a0 - 1) = false := by rw [hl]; simp
          clear hl hr
          go_wp2_with fail
          refine (wRises_yes TS _ _ _ R5_ts.out HTS.out HR.out).mono ?_
          rintro e6 w6 ⟨rfl, hb6⟩
          obtain ⟨hc6, hf6⟩ := bcell hb6
          have hz6 := hb6.size
          (try simp only [World.size_alloc, World.size_setCell, World.size_drew] at hz6)
          have B6 : Below w5.heap.size w5 w6 := Below.trans (b := _) (by (repeat' (first | (with_reducible exact Below.refl _ _) | (with_reducible assumption) | (with_reducible refine Below.alloc ?_ ?_ _) | (with_reducible refine Below.drew ?_) | (with_reducible refine below_drewN ?_ _) | (with_reducible refine Below.setCell ?_ ?_ _) | (with_reducible refine below_call ?_ ?_ (by assumption)) | go_size))) (hb6.mono (by first | omega | (simp only [World.size_alloc, World.size_setCell, World.size_drew]; omega)))
          obtain ⟨hd6, -⟩ := bcell B6
          have c6_s_0 : w6.cell? ⟨w.heap.size, 0, none⟩ = some (.int .i64 n1) := (hd6 _ _ q_s).trans c5_s_0
          have c6_s_1 : w6.cell? ⟨w.heap.size, 1, none⟩ = some (.int .i64 d1) := (hd6 _ _ q_s).trans c5_s_1
          have c6_s_2 : w6.cell? ⟨w.heap.size, 2, none⟩ = some (.int .i64 x1) := (hd6 _ _ q_s).trans c5_s_2
          have c6_s_3 : w6.cell? ⟨w.heap.size, 3, none⟩ = some (.int .i64 y1) := (hd6 _ _ q_s).trans c5_s_3
          have c6_an_0 : w6.cell? ⟨w.heap.size + 1, 0, none⟩ = some (.int .i64 n3) := (hd6 _ _ q_an).trans c5_an_0
          have c6_an_1 : w6.cell? ⟨w.heap.size + 1, 1, none⟩ = some (.int .i64 d3) := (hd6 _ _ q_an).trans c5_an_1
          have c6_q_0 : w6.cell? ⟨w.heap.size + 1 + 1, 0, none⟩ = some (.int .i64 n5) := (hd6 _ _ q_q).trans c5_q_0
          have c6_q_1 : w6.cell? ⟨w.heap.size + 1 + 1, 1, none⟩ = some (.int .i64 d5) := (hd6 _ _ q_q).trans c5_q_1
          have c6_q_2 : w6.cell? ⟨w.heap.size + 1 + 1, 2, none⟩ = some (.int .i64 x5) := (hd6 _ _ q_q).trans c5_q_2
          have c6_q_3 : w6.cell? ⟨w.heap.size + 1 + 1, 3, none⟩ = some (.int .i64 y5) := (hd6 _ _ q_q).trans c5_q_3
          have c6_m_0 : w6.cell? ⟨w.heap.size + 1 + 1 + 1, 0, none⟩ = some (.int .i64 n6) := (hd6 _ _ q_m).trans c5_m_0
          have c6_m_1 : w6.cell? ⟨w.heap.size + 1 + 1 + 1, 1, none⟩ = some (.int .i64 d6) := (hd6 _ _ q_m).trans c5_m_1
          have c6_m_2 : w6.cell? ⟨w.heap.size + 1 + 1 + 1, 2, none⟩ = some (.int .i64 x6) := (hd6 _ _ q_m).trans c5_m_2
          have c6_m_3 : w6.cell? ⟨w.heap.size + 1 + 1 + 1, 3, none⟩ = some (.int .i64 y6) := (hd6 _ _ q_m).trans c5_m_3
          have c6_r_0 : w6.cell? ⟨w.heap.size + 1 + 1 + 1 + 1, 0, none⟩ = some (.int .i64 n7) := (hd6 _ _ q_r).trans c5_r_0
          have c6_r_1 : w6.cell? ⟨w.heap.size + 1 + 1 + 1 + 1, 1, none⟩ = some (.int .i64 d7) := (hd6 _ _ q_r).trans c5_r_1
          have c6_r_2 : w6.cell? ⟨w.heap.size + 1 + 1 + 1 + 1, 2, none⟩ = some (.int .i64 x7) := (hd6 _ _ q_r).trans c5_r_2
          have c6_r_3 : w6.cell? ⟨w.heap.size + 1 + 1 + 1 + 1, 3, none⟩ = some (.int .i64 y7) := (hd6 _ _ q_r).trans c5_r_3
          have c6_by_0 : w6.cell? ⟨w.heap.size + 1 + 1 + 1 + 1 + 1, 0, none⟩ = some (.int .i64 n8) := (hd6 _ _ q_by).trans c5_by_0
          have c6_by_1 : w6.cell? ⟨w.heap.size + 1 + 1 + 1 + 1 + 1, 1, none⟩ = some (.int .i64 d8) := (hd6 _ _ q_by).trans c5_by_1
          replace q_s : w.heap.size < w6.heap.size := by omega
          replace q_an : w.heap.size + 1 < w6.heap.size := by omega
          replace q_q : w.heap.size + 1 + 1 < w6.heap.size := by omega
          replace q_m : w.heap.size + 1 + 1 + 1 < w6.heap.size := by omega
          replace q_r : w.heap.size + 1 + 1 + 1 + 1 < w6.heap.size := by omega
          replace q_by : w.heap.size + 1 + 1 + 1 + 1 + 1 < w6.heap.size := by omega
          have R6_ts := Lib.hid (TRow.below R5_ts.out B6)
          clear R5_ts
          have R6_td := Lib.hid (TRow.below R5_td.out B6)
          clear R5_td
          have BW6 : Below w.heap.size w w6 := BW5.trans (B6.mono BW5.size)
          have BX6 : Below w5.heap.size w5 w6 := B6
          clear hc6 hf6 hb6 hd6 B6 c5_s_0 c5_s_1 c5_s_2 c5_s_3 c5_an_0 c5_an_1 c5_q_0 c5_q_1 c5_q_2 c5_q_3 c5_m_0 c5_m_1 c5_m_2 c5_m_3 c5_r_0 c5_r_1 c5_r_2 c5_r_3 c5_by_0 c5_by_1 BW5
          go_wp2_with fail
          go_meet
          case rel => exact ⟨rfl, BX6⟩
    case rest =>
      obtain ⟨rfl, hb6⟩ := hcut
      obtain ⟨w6, hw6⟩ : ∃ x : World, x = wc := ⟨_, rfl⟩
      subst hw6
      obtain ⟨hc6, hf6⟩ := bcell hb6
      have hz6 := hb6.size
      (try simp only [World.size_alloc, World.size_setCell, World.size_drew] at hz6)
      have B6 : Below w5.heap.size w5 w6 := Below.trans (b := _) (by (repeat' (first | (with_reducible exact Below.refl _ _) | (with_reducible assumption) | (with_reducible refine Below.alloc ?_ ?_ _) | (with_reducible refine Below.drew ?_) | (with_reducible refine below_drewN ?_ _) | (with_reducible refine Below.setCell ?_ ?_ _) | (with_reducible refine below_call ?_ ?_ (by assumption)) | go_size))) (hb6.mono (by first | omega | (simp only [World.size_alloc, World.size_setCell, World.size_drew]; omega)))
      obtain ⟨hd6, -⟩ := bcell B6
      have c6_s_0 : w6.cell? ⟨w.heap.size, 0, none⟩ = some (.int .i64 n1) := (hd6 _ _ q_s).trans c5_s_0
      have c6_s_1 : w6.cell? ⟨w.heap.size, 1, none⟩ = some (.int .i64 d1) := (hd6 _ _ q_s).trans c5_s_1
      have c6_s_2 : w6.cell? ⟨w.heap.size, 2, none⟩ = some (.int .i64 x1) := (hd6 _ _ q_s).trans c5_s_2
      have c6_s_3 : w6.cell? ⟨w.heap.size, 3, none⟩ = some (.int .i64 y1) := (hd6 _ _ q_s).trans c5_s_3
      have c6_an_0 : w6.cell? ⟨w.heap.size + 1, 0, none⟩ = some (.int .i64 n3) := (hd6 _ _ q_an).trans c5_an_0
      have c6_an_1 : w6.cell? ⟨w.heap.size + 1, 1, none⟩ = some (.int .i64 d3) := (hd6 _ _ q_an).trans c5_an_1
      have c6_q_0 : w6.cell? ⟨w.heap.size + 1 + 1, 0, none⟩ = some (.int .i64 n5) := (hd6 _ _ q_q).trans c5_q_0
      have c6_q_1 : w6.cell? ⟨w.heap.size + 1 + 1, 1, none⟩ = some (.int .i64 d5) := (hd6 _ _ q_q).trans c5_q_1
      have c6_q_2 : w6.cell? ⟨w.heap.size + 1 + 1, 2, none⟩ = some (.int .i64 x5) := (hd6 _ _ q_q).trans c5_q_2
      have c6_q_3 : w6.cell? ⟨w.heap.size + 1 + 1, 3, none⟩ = some (.int .i64 y5) := (hd6 _ _ q_q).trans c5_q_3
      have c6_m_0 : w6.cell? ⟨w.heap.size + 1 + 1 + 1, 0, none⟩ = some (.int .i64 n6) := (hd6 _ _ q_m).trans c5_m_0
      have c6_m_1 : w6.cell? ⟨w.heap.size + 1 + 1 + 1, 1, none⟩ = some (.int .i64 d6) := (hd6 _ _ q_m).trans c5_m_1
      have c6_m_2 : w6.cell? ⟨w.heap.size + 1 + 1 + 1, 2, none⟩ = some (.int .i64 x6) := (hd6 _ _ q_m).trans c5_m_2
      have c6_m_3 : w6.cell? ⟨w.heap.size + 1 + 1 + 1, 3, none⟩ = some (.int .i64 y6) := (hd6 _ _ q_m).trans c5_m_3
      have c6_r_0 : w6.cell? ⟨w.heap.size + 1 + 1 + 1 + 1, 0, none⟩ = some (.int .i64 n7) := (hd6 _ _ q_r).trans c5_r_0
      have c6_r_1 : w6.cell? ⟨w.heap.size + 1 + 1 + 1 + 1, 1, none⟩ = some (.int .i64 d7) := (hd6 _ _ q_r).trans c5_r_1
      have c6_r_2 : w6.cell? ⟨w.heap.size + 1 + 1 + 1 + 1, 2, none⟩ = some (.int .i64 x7) := (hd6 _ _ q_r).trans c5_r_2
      have c6_r_3 : w6.cell? ⟨w.heap.size + 1 + 1 + 1 + 1, 3, none⟩ = some (.int .i64 y7) := (hd6 _ _ q_r).trans c5_r_3
      have c6_by_0 : w6.cell? ⟨w.heap.size + 1 + 1 + 1 + 1 + 1, 0, none⟩ = some (.int .i64 n8) := (hd6 _ _ q_by).trans c5_by_0
      have c6_by_1 : w6.cell? ⟨w.heap.size + 1 + 1 + 1 + 1 + 1, 1, none⟩ = some (.int .i64 d8) := (hd6 _ _ q_by).trans c5_by_1
      replace q_s : w.heap.size < w6.heap.size := by omega
      replace q_an : w.heap.size + 1 < w6.heap.size := by omega
      replace q_q : w.heap.size + 1 + 1 < w6.heap.size := by omega
      replace q_m : w.heap.size + 1 + 1 + 1 < w6.heap.size := by omega
      replace q_r : w.heap.size + 1 + 1 + 1 + 1 < w6.heap.size := by omega
      replace q_by : w.heap.size + 1 + 1 + 1 + 1 + 1 < w6.heap.size := by omega
      have R6_ts := Lib.hid (TRow.below R5_ts.out B6)
      clear R5_ts
      have R6_td := Lib.hid (TRow.below R5_td.out B6)
      clear R5_td
      have BW6 : Below w.heap.size w w6 := BW5.trans (B6.mono BW5.size)
      clear hc6 hf6 hb6 hd6 B6 c5_s_0 c5_s_1 c5_s_2 c5_s_3 c5_an_0 c5_an_1 c5_q_0 c5_q_1 c5_q_2 c5_q_3 c5_m_0 c5_m_1 c5_m_2 c5_m_3 c5_r_0 c5_r_1 c5_r_2 c5_r_3 c5_by_0 c5_by_1 BW5
      go_upto_if 133 with fail
      go_cut [] from 999 to 999 (fun wx => Below w6.heap.size w6 wx)
      case first =>
        as_aux_lemma =>
          cases dok
          · go_wp2_with fail
            go_meet
            case rel => exact Below.refl _ _
          · obtain ⟨f1, f2, f3⟩ := F1.out rfl
            subst f1
            obtain ⟨⟨fs, hh⟩, hl, hr, hin, -⟩ := F2.out rfl
            have G2 := Lib.hid f2
            have G3 := Lib.hid f3
            have G4 := Lib.hid (F3.out rfl)
            have G5 := Lib.hid (F4.out rfl)
            have hb : (TS.length : Int) ≤ 23 := by omega
            clear f2 f3 hl hr
            obtain ⟨ib, hib⟩ : ∃ b, trueB a0 n1 d1 x1 y1 = b := ⟨_, rfl⟩
            have ZI := Lib.hid (fun W => (show Calls Try.prog 12 #[.int .i64 a0, sn n1 d1 x1 y1] W fun e w' => e = .returned (bbv (ib, true)) ∧ Below W.heap.size W w' from by have := implIsTrueSeen_any a0 n1 d1 x1 y1 W; rw [show isTrueT a0 n1 d1 x1 y1 = (ib, true) from by unfold isTrueT; rw [if_pos fs, hib]] at this; exact this))
            have HIN := Lib.hid (fun (e : ib = true) => hasT_yes (hin (hib.trans e)))
            clear hib hin fs
            go_wp2_with fail
            go_loopw [136] (fun i wr => ∃ k : Nat, k ≤ TS.length ∧ i = .int .i64 (k : Int) ∧ Below w6.heap.size w6 wr) (fun i _ => TS.length - (RowKit.intOf i).toNat)
            case atStart => exact ⟨0, Nat.zero_le _, rfl, Below.refl _ _⟩
            case round =>
              obtain ⟨k, hk, rfl, hb7⟩ := hrel
              obtain ⟨w7, hw7⟩ : ∃ x : World, x = wr := ⟨_, rfl⟩
              subst hw7
              have hb7' := hb7
              obtain ⟨hc7, hf7⟩ := bcell hb7
              have hz7 := hb7.size
              (try simp only [World.size_alloc, World.size_setCell, World.size_drew] at hz7)
              have B7 : Below w6.heap.size w6 w7 := Below.trans (b := _) (by (repeat' (first | (with_reducible exact Below.refl _ _) | (with_reducible assumption) | (with_reducible refine Below.alloc ?_ ?_ _) | (with_reducible refine Below.drew ?_) | (with_reducible refine below_drewN ?_ _) | (with_reducible refine Below.setCell ?_ ?_ _) | (with_reducible refine below_call ?_ ?_ (by assumption)) | go_size))) (hb7.mono (by first | omega | (simp only [World.size_alloc, World.size_setCell, World.size_drew]; omega)))
              obtain ⟨hd7, -⟩ := bcell B7
              have c7_s_0 : w7.cell? ⟨w.heap.size, 0, none⟩ = some (.int .i64 n1) := (hd7 _ _ q_s).trans c6_s_0
              have c7_s_1 : w7.cell? ⟨w.heap.size, 1, none⟩ = some (.int .i64 d1) := (hd7 _ _ q_s).trans c6_s_1
              have c7_s_2 : w7.cell? ⟨w.heap.size, 2, none⟩ = some (.int .i64 x1) := (hd7 _ _ q_s).trans c6_s_2
              have c7_s_3 : w7.cell? ⟨w.heap.size, 3, none⟩ = some (.int .i64 y1) := (hd7 _ _ q_s).trans c6_s_3
              have c7_an_0 : w7.cell? ⟨w.heap.size + 1, 0, none⟩ = some (.int .i64 n3) := (hd7 _ _ q_an).trans c6_an_0
              have c7_an_1 : w7.cell? ⟨w.heap.size + 1, 1, none⟩ = some (.int .i64 d3) := (hd7 _ _ q_an).trans c6_an_1
              have c7_q_0 : w7.cell? ⟨w.heap.size + 1 + 1, 0, none⟩ = some (.int .i64 n5) := (hd7 _ _ q_q).trans c6_q_0
              have c7_q_1 : w7.cell? ⟨w.heap.size + 1 + 1, 1, none⟩ = some (.int .i64 d5) := (hd7 _ _ q_q).trans c6_q_1
              have c7_q_2 : w7.cell? ⟨w.heap.size + 1 + 1, 2, none⟩ = some (.int .i64 x5) := (hd7 _ _ q_q).trans c6_q_2
              have c7_q_3 : w7.cell? ⟨w.heap.size + 1 + 1, 3, none⟩ = some (.int .i64 y5) := (hd7 _ _ q_q).trans c6_q_3
              have c7_m_0 : w7.cell? ⟨w.heap.size + 1 + 1 + 1, 0, none⟩ = some (.int .i64 n6) := (hd7 _ _ q_m).trans c6_m_0
              have c7_m_1 : w7.cell? ⟨w.heap.size + 1 + 1 + 1, 1, none⟩ = some (.int .i64 d6) := (hd7 _ _ q_m).trans c6_m_1
              have c7_m_2 : w7.cell? ⟨w.heap.size + 1 + 1 + 1, 2, none⟩ = some (.int .i64 x6) := (hd7 _ _ q_m).trans c6_m_2
              have c7_m_3 : w7.cell? ⟨w.heap.size + 1 + 1 + 1, 3, none⟩ = some (.int .i64 y6) := (hd7 _ _ q_m).trans c6_m_3
              have c7_r_0 : w7.cell? ⟨w.heap.size + 1 + 1 + 1 + 1, 0, none⟩ = some (.int .i64 n7) := (hd7 _ _ q_r).trans c6_r_0
              have c7_r_1 : w7.cell? ⟨w.heap.size + 1 + 1 + 1 + 1, 1, none⟩ = some (.int .i64 d7) := (hd7 _ _ q_r).trans c6_r_1
              have c7_r_2 : w7.cell? ⟨w.heap.size + 1 + 1 + 1 + 1, 2, none⟩ = some (.int .i64 x7) := (hd7 _ _ q_r).trans c6_r_2
              have c7_r_3 : w7.cell? ⟨w.heap.size + 1 + 1 + 1 + 1, 3, none⟩ = some (.int .i64 y7) := (hd7 _ _ q_r).trans c6_r_3
              have c7_by_0 : w7.cell? ⟨w.heap.size + 1 + 1 + 1 + 1 + 1, 0, none⟩ = some (.int .i64 n8) := (hd7 _ _ q_by).trans c6_by_0
              have c7_by_1 : w7.cell? ⟨w.heap.size + 1 + 1 + 1 + 1 + 1, 1, none⟩ = some (.int .i64 d8) := (hd7 _ _ q_by).trans c6_by_1
              replace q_s : w.heap.size < w7.heap.size := by omega
              replace q_an : w.heap.size + 1 < w7.heap.size := by omega
              replace q_q : w.heap.size + 1 + 1 < w7.heap.size := by omega
              replace q_m : w.heap.size + 1 + 1 + 1 < w7.heap.size := by omega
              replace q_r : w.heap.size + 1 + 1 + 1 + 1 < w7.heap.size := by omega
              replace q_by : w.heap.size + 1 + 1 + 1 + 1 + 1 < w7.heap.size := by omega
              have R7_ts := Lib.hid (TRow.below R6_ts.out B7)
              clear R6_ts
              have R7_td := Lib.hid (TRow.below R6_td.out B7)
              clear R6_td
              have BW7 : Below w.heap.size w w7 := BW6.trans (B7.mono BW6.size)
              have BX7 : Below w6.heap.size w6 w7 := B7
              clear hc7 hf7 hb7 hd7 B7 c6_s_0 c6_s_1 c6_s_2 c6_s_3 c6_an_0 c6_an_1 c6_q_0 c6_q_1 c6_q_2 c6_q_3 c6_m_0 c6_m_1 c6_m_2 c6_m_3 c6_r_0 c6_r_1 c6_r_2 c6_r_3 c6_by_0 c6_by_1 BW6
              have i0 : (0 : Int) ≤ (k : Int) := Int.natCast_nonneg _
              by_cases hlt : k < TS.length
              · have i1 : (k : Int) < (TS.length : Int) := by omega
                have hmem : TS.getD k (0, 0) ∈ TS := by rw [List.getD_eq_getElem?_getD, List.getElem?_eq_getElem hlt]; exact List.getElem_mem hlt
                obtain ⟨pa, pc, hpv, hl1, hl2, hcell⟩ := TRow.cells R7_ts.out
                simp only [Value.slice.injEq] at hpv
                obtain ⟨hp1, -, hp2⟩ := hpv
                subst hp1
                subst hp2
                obtain ⟨ga, rfl, u1, u2a, u3a, u4a⟩ := hcell k (by omega)
                clear hcell hl1 hl2 u1
                have hk2 : k < TD.length := by have := G2.out; omega
                have i2 : (k : Int) < (TD.length : Int) := by omega
                obtain ⟨pa, pc, hpv, hl1, hl2, hcell⟩ := TRow.cells R7_td.out
                simp only [Value.slice.injEq] at hpv
                obtain ⟨hp1, -, hp2⟩ := hpv
                subst hp1
                subst hp2
                obtain ⟨gb, rfl, u1, u2b, u3b, u4b⟩ := hcell k hk2
                clear hcell hl1 hl2 u1
                have hs := G4.out _ hmem
                have hlss := G3.out k hlt
                have ht := G5.out _ hmem _ _ hlss
                clear hlss hmem
                generalize TS.getD k (0, 0) = x at *
                generalize TD.getD k (0, 0) = y at *
                obtain ⟨p1, p2⟩ := x
                obtain ⟨e1, e2⟩ := y
                simp only at u3a u4a u3b u4b hs ht
                generalize lowNum (p1 * a0) p2 = l1 at *
                generalize lowDen (p1 * a0) p2 = l2 at *
                have Z1 := Lib.hid (fun W => (show Calls Try.prog 10 #[.int .i64 a0, tv p1 p2] W fun e w' => e = .returned (rs (p1, p2, l1, l2, true)) ∧ Below W.heap.size W w' from by have := implSeenOf_any a0 p1 p2 W; rw [hs] at this; exact this))
                have Z2 := Lib.hid (fun W => (show Calls Try.prog 39 #[sn p1 p2 l1 l2, tv e1 e2] W fun e w' => e = .returned (rs (n1, d1, x1, y1, true)) ∧ Below W.heap.size W w' from by have := implTurnSeen_any p1 p2 l1 l2 e1 e2 W; rw [ht] at this; exact this))
                clear hs ht
                go_wp2_with fail
                refine (Z1.out _).mono ?_
                rintro e8 w8 ⟨rfl, hb8⟩
                obtain ⟨hc8, hf8⟩ := bcell hb8
                have hz8 := hb8.size
                (try simp only [World.size_alloc, World.size_setCell, World.size_drew] at hz8)
                have B8 : Below w7.heap.size w7 w8 := Below.trans (b := _) (by (repeat' (first | (with_reducible exact Below.refl _ _) | (with_reducible assumption) | (with_reducible refine Below.alloc ?_ ?_ _) | (with_reducible refine Below.drew ?_) | (with_reducible refine below_drewN ?_ _) | (with_reducible refine Below.setCell ?_ ?_ _) | (with_reducible refine below_call ?_ ?_ (by assumption)) | go_size))) (hb8.mono (by first | omega | (simp only [World.size_alloc, World.size_setCell, World.size_drew]; omega)))
                obtain ⟨hd8, -⟩ := bcell B8
                have c8_s_0 : w8.cell? ⟨w.heap.size, 0, none⟩ = some (.int .i64 n1) := (hd8 _ _ q_s).trans c7_s_0
                have c8_s_1 : w8.cell? ⟨w.heap.size, 1, none⟩ = some (.int .i64 d1) := (hd8 _ _ q_s).trans c7_s_1
                have c8_s_2 : w8.cell? ⟨w.heap.size, 2, none⟩ = some (.int .i64 x1) := (hd8 _ _ q_s).trans c7_s_2
                have c8_s_3 : w8.cell? ⟨w.heap.size, 3, none⟩ = some (.int .i64 y1) := (hd8 _ _ q_s).trans c7_s_3
                have c8_an_0 : w8.cell? ⟨w.heap.size + 1, 0, none⟩ = some (.int .i64 n3) := (hd8 _ _ q_an).trans c7_an_0
                have c8_an_1 : w8.cell? ⟨w.heap.size + 1, 1, none⟩ = some (.int .i64 d3) := (hd8 _ _ q_an).trans c7_an_1
                have c8_q_0 : w8.cell? ⟨w.heap.size + 1 + 1, 0, none⟩ = some (.int .i64 n5) := (hd8 _ _ q_q).trans c7_q_0
                have c8_q_1 : w8.cell? ⟨w.heap.size + 1 + 1, 1, none⟩ = some (.int .i64 d5) := (hd8 _ _ q_q).trans c7_q_1
                have c8_q_2 : w8.cell? ⟨w.heap.size + 1 + 1, 2, none⟩ = some (.int .i64 x5) := (hd8 _ _ q_q).trans c7_q_2
                have c8_q_3 : w8.cell? ⟨w.heap.size + 1 + 1, 3, none⟩ = some (.int .i64 y5) := (hd8 _ _ q_q).trans c7_q_3
                have c8_m_0 : w8.cell? ⟨w.heap.size + 1 + 1 + 1, 0, none⟩ = some (.int .i64 n6) := (hd8 _ _ q_m).trans c7_m_0
                have c8_m_1 : w8.cell? ⟨w.heap.size + 1 + 1 + 1, 1, none⟩ = some (.int .i64 d6) := (hd8 _ _ q_m).trans c7_m_1
                have c8_m_2 : w8.cell? ⟨w.heap.size + 1 + 1 + 1, 2, none⟩ = some (.int .i64 x6) := (hd8 _ _ q_m).trans c7_m_2
                have c8_m_3 : w8.cell? ⟨w.heap.size + 1 + 1 + 1, 3, none⟩ = some (.int .i64 y6) := (hd8 _ _ q_m).trans c7_m_3
                have c8_r_0 : w8.cell? ⟨w.heap.size + 1 + 1 + 1 + 1, 0, none⟩ = some (.int .i64 n7) := (hd8 _ _ q_r).trans c7_r_0
                have c8_r_1 : w8.cell? ⟨w.heap.size + 1 + 1 + 1 + 1, 1, none⟩ = some (.int .i64 d7) := (hd8 _ _ q_r).trans c7_r_1
                have c8_r_2 : w8.cell? ⟨w.heap.size + 1 + 1 + 1 + 1, 2, none⟩ = some (.int .i64 x7) := (hd8 _ _ q_r).trans c7_r_2
                have c8_r_3 : w8.cell? ⟨w.heap.size + 1 + 1 + 1 + 1, 3, none⟩ = some (.int .i64 y7) := (hd8 _ _ q_r).trans c7_r_3
                have c8_by_0 : w8.cell? ⟨w.heap.size + 1 + 1 + 1 + 1 + 1, 0, none⟩ = some (.int .i64 n8) := (hd8 _ _ q_by).trans c7_by_0
                have c8_by_1 : w8.cell? ⟨w.heap.size + 1 + 1 + 1 + 1 + 1, 1, none⟩ = some (.int .i64 d8) := (hd8 _ _ q_by).trans c7_by_1
                replace q_s : w.heap.size < w8.heap.size := by omega
                replace q_an : w.heap.size + 1 < w8.heap.size := by omega
                replace q_q : w.heap.size + 1 + 1 < w8.heap.size := by omega
                replace q_m : w.heap.size + 1 + 1 + 1 < w8.heap.size := by omega
                replace q_r : w.heap.size + 1 + 1 + 1 + 1 < w8.heap.size := by omega
                replace q_by : w.heap.size + 1 + 1 + 1 + 1 + 1 < w8.heap.size := by omega
                have c8_x_0 : w8.cell? ⟨w7.heap.size, 0, none⟩ = some (.int .i64 p1) := (hc8 _ _ (by go_size)).trans (by go_simp)
                have c8_x_1 : w8.cell? ⟨w7.heap.size, 1, none⟩ = some (.int .i64 p2) := (hc8 _ _ (by go_size)).trans (by go_simp)
                have q_x : w7.heap.size < w8.heap.size := by omega
                have R8_ts := Lib.hid (TRow.below R7_ts.out B8)
                clear R7_ts
                have R8_td := Lib.hid (TRow.below R7_td.out B8)
                clear R7_td
                have BW8 : Below w.heap.size w w8 := BW7.trans (B8.mono BW7.size)
                have BX8 : Below w7.heap.size w7 w8 := B8
                clear hc8 hf8 hb8 hd8 B8 c7_s_0 c7_s_1 c7_s_2 c7_s_3 c7_an_0 c7_an_1 c7_q_0 c7_q_1 c7_q_2 c7_q_3 c7_m_0 c7_m_1 c7_m_2 c7_m_3 c7_r_0 c7_r_1 c7_r_2 c7_r_3 c7_by_0 c7_by_1 BW7
                go_upto_region 14 with fail
                have hb9 : Below w8.heap.size w8 (w8.alloc (Obj.cells #[.int .i64 p1, .int .i64 p2, .int .i64 l1, .int .i64 l2] 31)) := by (repeat' (first | (with_reducible exact Below.refl _ _) | (with_reducible assumption) | (with_reducible refine Below.alloc ?_ ?_ _) | (with_reducible refine Below.drew ?_) | (with_reducible refine below_drewN ?_ _) | (with_reducible refine Below.setCell ?_ ?_ _) | (with_reducible refine below_call ?_ ?_ (by assumption)) | go_size))
                have c9_seen_0 : (w8.alloc (Obj.cells #[.int .i64 p1, .int .i64 p2, .int .i64 l1, .int .i64 l2] 31)).cell? ⟨w8.heap.size, 0, none⟩ = some (.int .i64 p1) := by go_simp
                have c9_seen_1 : (w8.alloc (Obj.cells #[.int .i64 p1, .int .i64 p2, .int .i64 l1, .int .i64 l2] 31)).cell? ⟨w8.heap.size, 1, none⟩ = some (.int .i64 p2) := by go_simp
                have c9_seen_2 : (w8.alloc (Obj.cells #[.int .i64 p1, .int .i64 p2, .int .i64 l1, .int .i64 l2] 31)).cell? ⟨w8.heap.size, 2, none⟩ = some (.int .i64 l1) := by go_simp
                have c9_seen_3 : (w8.alloc (Obj.cells #[.int .i64 p1, .int .i64 p2, .int .i64 l1, .int .i64 l2] 31)).cell? ⟨w8.heap.size, 3, none⟩ = some (.int .i64 l2) := by go_simp
                have q_seen : w8.heap.size < (w8.alloc (Obj.cells #[.int .i64 p1, .int .i64 p2, .int .i64 l1, .int .i64 l2] 31)).heap.size := by go_size
                generalize (w8.alloc (Obj.cells #[.int .i64 p1, .int .i64 p2, .int .i64 l1, .int .i64 l2] 31)) = w9 at *
                obtain ⟨hd9, -⟩ := bcell hb9
                have hz9 := hb9.size
                have c9_s_0 : w9.cell? ⟨w.heap.size, 0, none⟩ = some (.int .i64 n1) := (hd9 _ _ q_s).trans c8_s_0
                have c9_s_1 : w9.cell? ⟨w.heap.size, 1, none⟩ = some (.int .i64 d1) := (hd9 _ _ q_s).trans c8_s_1
                have c9_s_2 : w9.cell? ⟨w.heap.size, 2, none⟩ = some (.int .i64 x1) := (hd9 _ _ q_s).trans c8_s_2
                have c9_s_3 : w9.cell? ⟨w.heap.size, 3, none⟩ = some (.int .i64 y1) := (hd9 _ _ q_s).trans c8_s_3
                have c9_an_0 : w9.cell? ⟨w.heap.size + 1, 0, none⟩ = some (.int .i64 n3) := (hd9 _ _ q_an).trans c8_an_0
                have c9_an_1 : w9.cell? ⟨w.heap.size + 1, 1, none⟩ = some (.int .i64 d3) := (hd9 _ _ q_an).trans c8_an_1
                have c9_q_0 : w9.cell? ⟨w.heap.size + 1 + 1, 0, none⟩ = some (.int .i64 n5) := (hd9 _ _ q_q).trans c8_q_0
                have c9_q_1 : w9.cell? ⟨w.heap.size + 1 + 1, 1, none⟩ = some (.int .i64 d5) := (hd9 _ _ q_q).trans c8_q_1
                have c9_q_2 : w9.cell? ⟨w.heap.size + 1 + 1, 2, none⟩ = some (.int .i64 x5) := (hd9 _ _ q_q).trans c8_q_2
                have c9_q_3 : w9.cell? ⟨w.heap.size + 1 + 1, 3, none⟩ = some (.int .i64 y5) := (hd9 _ _ q_q).trans c8_q_3
                have c9_m_0 : w9.cell? ⟨w.heap.size + 1 + 1 + 1, 0, none⟩ = some (.int .i64 n6) := (hd9 _ _ q_m).trans c8_m_0
                have c9_m_1 : w9.cell? ⟨w.heap.size + 1 + 1 + 1, 1, none⟩ = some (.int .i64 d6) := (hd9 _ _ q_m).trans c8_m_1
                have c9_m_2 : w9.cell? ⟨w.heap.size + 1 + 1 + 1, 2, none⟩ = some (.int .i64 x6) := (hd9 _ _ q_m).trans c8_m_2
                have c9_m_3 : w9.cell? ⟨w.heap.size + 1 + 1 + 1, 3, none⟩ = some (.int .i64 y6) := (hd9 _ _ q_m).trans c8_m_3
                have c9_r_0 : w9.cell? ⟨w.heap.size + 1 + 1 + 1 + 1, 0, none⟩ = some (.int .i64 n7) := (hd9 _ _ q_r).trans c8_r_0
                have c9_r_1 : w9.cell? ⟨w.heap.size + 1 + 1 + 1 + 1, 1, none⟩ = some (.int .i64 d7) := (hd9 _ _ q_r).trans c8_r_1
                have c9_r_2 : w9.cell? ⟨w.heap.size + 1 + 1 + 1 + 1, 2, none⟩ = some (.int .i64 x7) := (hd9 _ _ q_r).trans c8_r_2
                have c9_r_3 : w9.cell? ⟨w.heap.size + 1 + 1 + 1 + 1, 3, none⟩ = some (.int .i64 y7) := (hd9 _ _ q_r).trans c8_r_3
                have c9_by_0 : w9.cell? ⟨w.heap.size + 1 + 1 + 1 + 1 + 1, 0, none⟩ = some (.int .i64 n8) := (hd9 _ _ q_by).trans c8_by_0
                have c9_by_1 : w9.cell? ⟨w.heap.size + 1 + 1 + 1 + 1 + 1, 1, none⟩ = some (.int .i64 d8) := (hd9 _ _ q_by).trans c8_by_1
                have c9_x_0 : w9.cell? ⟨w7.heap.size, 0, none⟩ = some (.int .i64 p1) := (hd9 _ _ q_x).trans c8_x_0
                have c9_x_1 : w9.cell? ⟨w7.heap.size, 1, none⟩ = some (.int .i64 p2) := (hd9 _ _ q_x).trans c8_x_1
                replace q_s : w.heap.size < w9.heap.size := by omega
                replace q_an : w.heap.size + 1 < w9.heap.size := by omega
                replace q_q : w.heap.size + 1 + 1 < w9.heap.size := by omega
                replace q_m : w.heap.size + 1 + 1 + 1 < w9.heap.size := by omega
                replace q_r : w.heap.size + 1 + 1 + 1 + 1 < w9.heap.size := by omega
                replace q_by : w.heap.size + 1 + 1 + 1 + 1 + 1 < w9.heap.size := by omega
                replace q_x : w7.heap.size < w9.heap.size := by omega
                have R9_ts := Lib.hid (TRow.below R8_ts.out hb9)
                clear R8_ts
                have R9_td := Lib.hid (TRow.below R8_td.out hb9)
                clear R8_td
                have BW9 : Below w.heap.size w w9 := BW8.trans (hb9.mono BW8.size)
                have BX9 : Below w7.heap.size w7 w9 := BX8.trans (hb9.mono BX8.size)
                clear BX8
                clear hb9 hd9 c8_s_0 c8_s_1 c8_s_2 c8_s_3 c8_an_0 c8_an_1 c8_q_0 c8_q_1 c8_q_2 c8_q_3 c8_m_0 c8_m_1 c8_m_2 c8_m_3 c8_r_0 c8_r_1 c8_r_2 c8_r_3 c8_by_0 c8_by_1 c8_x_0 c8_x_1 BW8
                obtain ⟨hdx, -⟩ := bcell BX9
                have u3 := (hdx _ _ u2b).trans u3b
                have u4 := (hdx _ _ u2b).trans u4b
                have u2 : gb < w9.heap.size := by have := BX9.size; omega
                clear hdx u3b u4b
                go_wp2_with fail
                refine wp_region_late 9 (t := 31) #[.int .i64 0, .int .i64 0, .int .i64 0, .int .i64 0] #[.int .i64 n1, .int .i64 d1, .int .i64 x1, .int .i64 y1] 31 (by kernel_rfl) (by kernel_rfl) rfl rfl rfl rfl rfl rfl (fun a w => ?run) ?_
                case run => go_simp
                simp only [List.take_succ_cons, List.take_zero, List.drop_succ_cons, List.drop_zero]
                (apply wpB_take (hw := rfl); (intro wq hq; obtain ⟨hcq, hfq⟩ := bcell hq; unfold atB; go_simp; exact ⟨rfl, rfl⟩); simp only [Act.put, List.setIfInBounds_toArray, List.set_cons_zero, List.set_cons_succ])
                (apply wpB_take (hw := rfl); (intro wq hq; obtain ⟨hcq, hfq⟩ := bcell hq; unfold atB; go_simp; exact ⟨rfl, rfl⟩); simp only [Act.put, List.setIfInBounds_toArray, List.set_cons_zero, List.set_cons_succ])
                (apply wpB_take (hw := rfl); (intro wq hq; obtain ⟨hcq, hfq⟩ := bcell hq; unfold atB; go_simp; exact ⟨rfl, rfl⟩); simp only [Act.put, List.setIfInBounds_toArray, List.set_cons_zero, List.set_cons_succ])
                (apply wpB_take (hw := rfl); (intro wq hq; obtain ⟨hcq, hfq⟩ := bcell hq; unfold atB; go_simp; exact ⟨rfl, rfl⟩); simp only [Act.put, List.setIfInBounds_toArray, List.set_cons_zero, List.set_cons_succ])
                (apply wpB_take (hw := rfl); (intro wq hq; obtain ⟨hcq, hfq⟩ := bcell hq; unfold atB; go_simp; exact ⟨rfl, rfl⟩); simp only [Act.put, List.setIfInBounds_toArray, List.set_cons_zero, List.set_cons_succ])
                (apply wpB_take (hw := rfl); (intro wq hq; unfold atB; go_simp; exact ⟨rfl, Z2.out _⟩); simp only [Act.put, List.setIfInBounds_toArray, List.set_cons_zero, List.set_cons_succ])
                (apply wpB_take (hw := rfl); (intro wq hq; obtain ⟨hcq, hfq⟩ := bcell hq; unfold atB; go_simp; exact ⟨rfl, rfl⟩); simp only [Act.put, List.setIfInBounds_toArray, List.set_cons_zero, List.set_cons_succ])
                (apply wpB_take (hw := rfl); (intro wq hq; obtain ⟨hcq, hfq⟩ := bcell hq; unfold atB; go_simp; exact ⟨rfl, rfl⟩); simp only [Act.put, List.setIfInBounds_toArray, List.set_cons_zero, List.set_cons_succ])
                (apply wpB_take (hw := rfl); (intro wq hq; obtain ⟨hcq, hfq⟩ := bcell hq; unfold atB; go_simp; exact ⟨rfl, rfl⟩); simp only [Act.put, List.setIfInBounds_toArray, List.set_cons_zero, List.set_cons_succ])
                refine ⟨fun p => fillOK4 fun b w hp hcq hfq => ?_, fun b10 w10 hb10 hq10 hp10 hv10 hn10 => ?_⟩
                · subst hp
                  go_simp
                obtain ⟨hc10, hf10⟩ := bcell hb10
                have hz10 := hb10.size
                (try simp only [World.size_alloc, World.size_setCell, World.size_drew] at hz10)
                have B10 : Below w9.heap.size w9 w10 := Below.trans (b := _) (by (repeat' (first | (with_reducible exact Below.refl _ _) | (with_reducible assumption) | (with_reducible refine Below.alloc ?_ ?_ _) | (with_reducible refine Below.drew ?_) | (with_reducible refine below_drewN ?_ _) | (with_reducible refine Below.setCell ?_ ?_ _) | (with_reducible refine below_call ?_ ?_ (by assumption)) | go_size))) (hb10.mono (by first | omega | (simp only [World.size_alloc, World.size_setCell, World.size_drew]; omega)))
                obtain ⟨hd10, -⟩ := bcell B10
                have c10_s_0 : w10.cell? ⟨w.heap.size, 0, none⟩ = some (.int .i64 n1) := (hd10 _ _ q_s).trans c9_s_0
                have c10_s_1 : w10.cell? ⟨w.heap.size, 1, none⟩ = some (.int .i64 d1) := (hd10 _ _ q_s).trans c9_s_1
                have c10_s_2 : w10.cell? ⟨w.heap.size, 2, none⟩ = some (.int .i64 x1) := (hd10 _ _ q_s).trans c9_s_2
                have c10_s_3 : w10.cell? ⟨w.heap.size, 3, none⟩ = some (.int .i64 y1) := (hd10 _ _ q_s).trans c9_s_3
                have c10_an_0 : w10.cell? ⟨w.heap.size + 1, 0, none⟩ = some (.int .i64 n3) := (hd10 _ _ q_an).trans c9_an_0
                have c10_an_1 : w10.cell? ⟨w.heap.size + 1, 1, none⟩ = some (.int .i64 d3) := (hd10 _ _ q_an).trans c9_an_1
                have c10_q_0 : w10.cell? ⟨w.heap.size + 1 + 1, 0, none⟩ = some (.int .i64 n5) := (hd10 _ _ q_q).trans c9_q_0
                have c10_q_1 : w10.cell? ⟨w.heap.size + 1 + 1, 1, none⟩ = some (.int .i64 d5) := (hd10 _ _ q_q).trans c9_q_1
                have c10_q_2 : w10.cell? ⟨w.heap.size + 1 + 1, 2, none⟩ = some (.int .i64 x5) := (hd10 _ _ q_q).trans c9_q_2
                have c10_q_3 : w10.cell? ⟨w.heap.size + 1 + 1, 3, none⟩ = some (.int .i64 y5) := (hd10 _ _ q_q).trans c9_q_3
                have c10_m_0 : w10.cell? ⟨w.heap.size + 1 + 1 + 1, 0, none⟩ = some (.int .i64 n6) := (hd10 _ _ q_m).trans c9_m_0
                have c10_m_1 : w10.cell? ⟨w.heap.size + 1 + 1 + 1, 1, none⟩ = some (.int .i64 d6) := (hd10 _ _ q_m).trans c9_m_1
                have c10_m_2 : w10.cell? ⟨w.heap.size + 1 + 1 + 1, 2, none⟩ = some (.int .i64 x6) := (hd10 _ _ q_m).trans c9_m_2
                have c10_m_3 : w10.cell? ⟨w.heap.size + 1 + 1 + 1, 3, none⟩ = some (.int .i64 y6) := (hd10 _ _ q_m).trans c9_m_3
                have c10_r_0 : w10.cell? ⟨w.heap.size + 1 + 1 + 1 + 1, 0, none⟩ = some (.int .i64 n7) := (hd10 _ _ q_r).trans c9_r_0
                have c10_r_1 : w10.cell? ⟨w.heap.size + 1 + 1 + 1 + 1, 1, none⟩ = some (.int .i64 d7) := (hd10 _ _ q_r).trans c9_r_1
                have c10_r_2 : w10.cell? ⟨w.heap.size + 1 + 1 + 1 + 1, 2, none⟩ = some (.int .i64 x7) := (hd10 _ _ q_r).trans c9_r_2
                have c10_r_3 : w10.cell? ⟨w.heap.size + 1 + 1 + 1 + 1, 3, none⟩ = some (.int .i64 y7) := (hd10 _ _ q_r).trans c9_r_3
                have c10_by_0 : w10.cell? ⟨w.heap.size + 1 + 1 + 1 + 1 + 1, 0, none⟩ = some (.int .i64 n8) := (hd10 _ _ q_by).trans c9_by_0
                have c10_by_1 : w10.cell? ⟨w.heap.size + 1 + 1 + 1 + 1 + 1, 1, none⟩ = some (.int .i64 d8) := (hd10 _ _ q_by).trans c9_by_1
                have c10_x_0 : w10.cell? ⟨w7.heap.size, 0, none⟩ = some (.int .i64 p1) := (hd10 _ _ q_x).trans c9_x_0
                have c10_x_1 : w10.cell? ⟨w7.heap.size, 1, none⟩ = some (.int .i64 p2) := (hd10 _ _ q_x).trans c9_x_1
                have c10_seen_0 : w10.cell? ⟨w8.heap.size, 0, none⟩ = some (.int .i64 p1) := (hd10 _ _ q_seen).trans c9_seen_0
                have c10_seen_1 : w10.cell? ⟨w8.heap.size, 1, none⟩ = some (.int .i64 p2) := (hd10 _ _ q_seen).trans c9_seen_1
                have c10_seen_2 : w10.cell? ⟨w8.heap.size, 2, none⟩ = some (.int .i64 l1) := (hd10 _ _ q_seen).trans c9_seen_2
                have c10_seen_3 : w10.cell? ⟨w8.heap.size, 3, none⟩ = some (.int .i64 l2) := (hd10 _ _ q_seen).trans c9_seen_3
                replace q_s : w.heap.size < w10.heap.size := by omega
                replace q_an : w.heap.size + 1 < w10.heap.size := by omega
                replace q_q : w.heap.size + 1 + 1 < w10.heap.size := by omega
                replace q_m : w.heap.size + 1 + 1 + 1 < w10.heap.size := by omega
                replace q_r : w.heap.size + 1 + 1 + 1 + 1 < w10.heap.size := by omega
                replace q_by : w.heap.size + 1 + 1 + 1 + 1 + 1 < w10.heap.size := by omega
                replace q_x : w7.heap.size < w10.heap.size := by omega
                replace q_seen : w8.heap.size < w10.heap.size := by omega
                have R10_ts := Lib.hid (TRow.below R9_ts.out B10)
                clear R9_ts
                have R10_td := Lib.hid (TRow.below R9_td.out B10)
                clear R9_td
                have BW10 : Below w.heap.size w w10 := BW9.trans (B10.mono BW9.size)
                have BX10 : Below w7.heap.size w7 w10 := BX9.trans (B10.mono BX9.size)
                clear BX9
                clear hc10 hf10 hb10 hd10 B10 c9_s_0 c9_s_1 c9_s_2 c9_s_3 c9_an_0 c9_an_1 c9_q_0 c9_q_1 c9_q_2 c9_q_3 c9_m_0 c9_m_1 c9_m_2 c9_m_3 c9_r_0 c9_r_1 c9_r_2 c9_r_3 c9_by_0 c9_by_1 c9_x_0 c9_x_1 c9_seen_0 c9_seen_1 c9_seen_2 c9_seen_3 BW9
                have c10_moved_0 : w10.cell? ⟨b10, 0, none⟩ = some (.int .i64 n1) := (hv10 0).trans rfl
                have c10_moved_1 : w10.cell? ⟨b10, 1, none⟩ = some (.int .i64 d1) := (hv10 1).trans rfl
                have c10_moved_2 : w10.cell? ⟨b10, 2, none⟩ = some (.int .i64 x1) := (hv10 2).trans rfl
                have c10_moved_3 : w10.cell? ⟨b10, 3, none⟩ = some (.int .i64 y1) := (hv10 3).trans rfl
                have q_moved : b10 < w10.heap.size := hp10
                clear hv10 hn10 hp10 hq10
                try simp only [Act.put, List.setIfInBounds_toArray, List.set_cons_zero, List.set_cons_succ]
                go_wp2_with fail
                go_roundw
                case rel => exact ⟨k + 1, by omega, by go_num, hb7'.trans (BX10.mono hb7'.size)⟩
                case measure => simp [RowKit.intOf]; omega
              go_wp2_with fail
              refine (ZI.out _).mono ?_
              rintro e8 w8 ⟨rfl, hb8⟩
              obtain ⟨hc8, hf8⟩ := bcell hb8
              have hz8 := hb8.size
              (try simp only [World.size_alloc, World.size_setCell, World.size_drew] at hz8)
              have B8 : Below w7.heap.size w7 w8 := Below.trans (b := _) (by (repeat' (first | (with_reducible exact Below.refl _ _) | (with_reducible assumption) | (with_reducible refine Below.alloc ?_ ?_ _) | (with_reducible refine Below.drew ?_) | (with_reducible refine below_drewN ?_ _) | (with_reducible refine Below.setCell ?_ ?_ _) | (with_reducible refine below_call ?_ ?_ (by assumption)) | go_size))) (hb8.mono (by first | omega | (simp only [World.size_alloc, World.size_setCell, World.size_drew]; omega)))
              obtain ⟨hd8, -⟩ := bcell B8
              have c8_s_0 : w8.cell? ⟨w.heap.size, 0, none⟩ = some (.int .i64 n1) := (hd8 _ _ q_s).trans c7_s_0
              have c8_s_1 : w8.cell? ⟨w.heap.size, 1, none⟩ = some (.int .i64 d1) := (hd8 _ _ q_s).trans c7_s_1
              have c8_s_2 : w8.cell? ⟨w.heap.size, 2, none⟩ = some (.int .i64 x1) := (hd8 _ _ q_s).trans c7_s_2
              have c8_s_3 : w8.cell? ⟨w.heap.size, 3, none⟩ = some (.int .i64 y1) := (hd8 _ _ q_s).trans c7_s_3
              have c8_an_0 : w8.cell? ⟨w.heap.size + 1, 0, none⟩ = some (.int .i64 n3) := (hd8 _ _ q_an).trans c7_an_0
              have c8_an_1 : w8.cell? ⟨w.heap.size + 1, 1, none⟩ = some (.int .i64 d3) := (hd8 _ _ q_an).trans c7_an_1
              have c8_q_0 : w8.cell? ⟨w.heap.size + 1 + 1, 0, none⟩ = some (.int .i64 n5) := (hd8 _ _ q_q).trans c7_q_0
              have c8_q_1 : w8.cell? ⟨w.heap.size + 1 + 1, 1, none⟩ = some (.int .i64 d5) := (hd8 _ _ q_q).trans c7_q_1
              have c8_q_2 : w8.cell? ⟨w.heap.size + 1 + 1, 2, none⟩ = some (.int .i64 x5) := (hd8 _ _ q_q).trans c7_q_2
              have c8_q_3 : w8.cell? ⟨w.heap.size + 1 + 1, 3, none⟩ = some (.int .i64 y5) := (hd8 _ _ q_q).trans c7_q_3
              have c8_m_0 : w8.cell? ⟨w.heap.size + 1 + 1 + 1, 0, none⟩ = some (.int .i64 n6) := (hd8 _ _ q_m).trans c7_m_0
              have c8_m_1 : w8.cell? ⟨w.heap.size + 1 + 1 + 1, 1, none⟩ = some (.int .i64 d6) := (hd8 _ _ q_m).trans c7_m_1
              have c8_m_2 : w8.cell? ⟨w.heap.size + 1 + 1 + 1, 2, none⟩ = some (.int .i64 x6) := (hd8 _ _ q_m).trans c7_m_2
              have c8_m_3 : w8.cell? ⟨w.heap.size + 1 + 1 + 1, 3, none⟩ = some (.int .i64 y6) := (hd8 _ _ q_m).trans c7_m_3
              have c8_r_0 : w8.cell? ⟨w.heap.size + 1 + 1 + 1 + 1, 0, none⟩ = some (.int .i64 n7) := (hd8 _ _ q_r).trans c7_r_0
              have c8_r_1 : w8.cell? ⟨w.heap.size + 1 + 1 + 1 + 1, 1, none⟩ = some (.int .i64 d7) := (hd8 _ _ q_r).trans c7_r_1
              have c8_r_2 : w8.cell? ⟨w.heap.size + 1 + 1 + 1 + 1, 2, none⟩ = some (.int .i64 x7) := (hd8 _ _ q_r).trans c7_r_2
              have c8_r_3 : w8.cell? ⟨w.heap.size + 1 + 1 + 1 + 1, 3, none⟩ = some (.int .i64 y7) := (hd8 _ _ q_r).trans c7_r_3
              have c8_by_0 : w8.cell? ⟨w.heap.size + 1 + 1 + 1 + 1 + 1, 0, none⟩ = some (.int .i64 n8) := (hd8 _ _ q_by).trans c7_by_0
              have c8_by_1 : w8.cell? ⟨w.heap.size + 1 + 1 + 1 + 1 + 1, 1, none⟩ = some (.int .i64 d8) := (hd8 _ _ q_by).trans c7_by_1
              replace q_s : w.heap.size < w8.heap.size := by omega
              replace q_an : w.heap.size + 1 < w8.heap.size := by omega
              replace q_q : w.heap.size + 1 + 1 < w8.heap.size := by omega
              replace q_m : w.heap.size + 1 + 1 + 1 < w8.heap.size := by omega
              replace q_r : w.heap.size + 1 + 1 + 1 + 1 < w8.heap.size := by omega
              replace q_by : w.heap.size + 1 + 1 + 1 + 1 + 1 < w8.heap.size := by omega
              have R8_ts := Lib.hid (TRow.below R7_ts.out B8)
              clear R7_ts
              have R8_td := Lib.hid (TRow.below R7_td.out B8)
              clear R7_td
              have BW8 : Below w.heap.size w w8 := BW7.trans (B8.mono BW7.size)
              have BX8 : Below w6.heap.size w6 w8 := BX7.trans (B8.mono BX7.size)
              clear BX7
              clear hc8 hf8 hb8 hd8 B8 c7_s_0 c7_s_1 c7_s_2 c7_s_3 c7_an_0 c7_an_1 c7_q_0 c7_q_1 c7_q_2 c7_q_3 c7_m_0 c7_m_1 c7_m_2 c7_m_3 c7_r_0 c7_r_1 c7_r_2 c7_r_3 c7_by_0 c7_by_1 BW7
              go_upto_region 19 with fail
              go_cut [184] from 999 to 999 (fun x wx => x = .bool false ∧ Below w8.heap.size w8 wx)
              case first =>
                as_aux_lemma =>
                  cases ib
                  · go_wp2_with fail
                    go_meet
                    case rel => exact ⟨rfl, Below.refl _ _⟩
                  · have h10 := Lib.hid (HIN.out rfl)
                    go_wp2_with fail
                    refine (wHas_is TS _ _ _ _ _ h10.out R8_ts.out HTS.out).mono ?_
                    rintro e9 w9 ⟨rfl, hb9⟩
                    obtain ⟨hc9, hf9⟩ := bcell hb9
                    have hz9 := hb9.size
                    (try simp only [World.size_alloc, World.size_setCell, World.size_drew] at hz9)
                    have B9 : Below w8.heap.size w8 w9 := Below.trans (b := _) (by (repeat' (first | (with_reducible exact Below.refl _ _) | (with_reducible assumption) | (with_reducible refine Below.alloc ?_ ?_ _) | (with_reducible refine Below.drew ?_) | (with_reducible refine below_drewN ?_ _) | (with_reducible refine Below.setCell ?_ ?_ _) | (with_reducible refine below_call ?_ ?_ (by assumption)) | go_size))) (hb9.mono (by first | omega | (simp only [World.size_alloc, World.size_setCell, World.size_drew]; omega)))
                    obtain ⟨hd9, -⟩ := bcell B9
                    have c9_s_0 : w9.cell? ⟨w.heap.size, 0, none⟩ = some (.int .i64 n1) := (hd9 _ _ q_s).trans c8_s_0
                    have c9_s_1 : w9.cell? ⟨w.heap.size, 1, none⟩ = some (.int .i64 d1) := (hd9 _ _ q_s).trans c8_s_1
                    have c9_s_2 : w9.cell? ⟨w.heap.size, 2, none⟩ = some (.int .i64 x1) := (hd9 _ _ q_s).trans c8_s_2
                    have c9_s_3 : w9.cell? ⟨w.heap.size, 3, none⟩ = some (.int .i64 y1) := (hd9 _ _ q_s).trans c8_s_3
                    have c9_an_0 : w9.cell? ⟨w.heap.size + 1, 0, none⟩ = some (.int .i64 n3) := (hd9 _ _ q_an).trans c8_an_0
                    have c9_an_1 : w9.cell? ⟨w.heap.size + 1, 1, none⟩ = some (.int .i64 d3) := (hd9 _ _ q_an).trans c8_an_1
                    have c9_q_0 : w9.cell? ⟨w.heap.size + 1 + 1, 0, none⟩ = some (.int .i64 n5) := (hd9 _ _ q_q).trans c8_q_0
                    have c9_q_1 : w9.cell? ⟨w.heap.size + 1 + 1, 1, none⟩ = some (.int .i64 d5) := (hd9 _ _ q_q).trans c8_q_1
                    have c9_q_2 : w9.cell? ⟨w.heap.size + 1 + 1, 2, none⟩ = some (.int .i64 x5) := (hd9 _ _ q_q).trans c8_q_2
                    have c9_q_3 : w9.cell? ⟨w.heap.size + 1 + 1, 3, none⟩ = some (.int .i64 y5) := (hd9 _ _ q_q).trans c8_q_3
                    have c9_m_0 : w9.cell? ⟨w.heap.size + 1 + 1 + 1, 0, none⟩ = some (.int .i64 n6) := (hd9 _ _ q_m).trans c8_m_0
                    have c9_m_1 : w9.cell? ⟨w.heap.size + 1 + 1 + 1, 1, none⟩ = some (.int .i64 d6) := (hd9 _ _ q_m).trans c8_m_1
                    have c9_m_2 : w9.cell? ⟨w.heap.size + 1 + 1 + 1, 2, none⟩ = some (.int .i64 x6) := (hd9 _ _ q_m).trans c8_m_2
                    have c9_m_3 : w9.cell? ⟨w.heap.size + 1 + 1 + 1, 3, none⟩ = some (.int .i64 y6) := (hd9 _ _ q_m).trans c8_m_3
                    have c9_r_0 : w9.cell? ⟨w.heap.size + 1 + 1 + 1 + 1, 0, none⟩ = some (.int .i64 n7) := (hd9 _ _ q_r).trans c8_r_0
                    have c9_r_1 : w9.cell? ⟨w.heap.size + 1 + 1 + 1 + 1, 1, none⟩ = some (.int .i64 d7) := (hd9 _ _ q_r).trans c8_r_1
                    have c9_r_2 : w9.cell? ⟨w.heap.size + 1 + 1 + 1 + 1, 2, none⟩ = some (.int .i64 x7) := (hd9 _ _ q_r).trans c8_r_2
                    have c9_r_3 : w9.cell? ⟨w.heap.size + 1 + 1 + 1 + 1, 3, none⟩ = some (.int .i64 y7) := (hd9 _ _ q_r).trans c8_r_3
                    have c9_by_0 : w9.cell? ⟨w.heap.size + 1 + 1 + 1 + 1 + 1, 0, none⟩ = some (.int .i64 n8) := (hd9 _ _ q_by).trans c8_by_0
                    have c9_by_1 : w9.cell? ⟨w.heap.size + 1 + 1 + 1 + 1 + 1, 1, none⟩ = some (.int .i64 d8) := (hd9 _ _ q_by).trans c8_by_1
                    replace q_s : w.heap.size < w9.heap.size := by omega
                    replace q_an : w.heap.size + 1 < w9.heap.size := by omega
                    replace q_q : w.heap.size + 1 + 1 < w9.heap.size := by omega
                    replace q_m : w.heap.size + 1 + 1 + 1 < w9.heap.size := by omega
                    replace q_r : w.heap.size + 1 + 1 + 1 + 1 < w9.heap.size := by omega
                    replace q_by : w.heap.size + 1 + 1 + 1 + 1 + 1 < w9.heap.size := by omega
                    have R9_ts := Lib.hid (TRow.below R8_ts.out B9)
                    clear R8_ts
                    have R9_td := Lib.hid (TRow.below R8_td.out B9)
                    clear R8_td
                    have BW9 : Below w.heap.size w w9 := BW8.trans (B9.mono BW8.size)
                    have BX9 : Below w8.heap.size w8 w9 := B9
                    clear hc9 hf9 hb9 hd9 B9 c8_s_0 c8_s_1 c8_s_2 c8_s_3 c8_an_0 c8_an_1 c8_q_0 c8_q_1 c8_q_2 c8_q_3 c8_m_0 c8_m_1 c8_m_2 c8_m_3 c8_r_0 c8_r_1 c8_r_2 c8_r_3 c8_by_0 c8_by_1 BW8
                    go_wp2_with fail
                    go_meet
                    case rel => exact ⟨rfl, BX9⟩
              case rest =>
                obtain ⟨rfl, hb9⟩ := hcut
                obtain ⟨w9, hw9⟩ : ∃ x : World, x = wc := ⟨_, rfl⟩
                subst hw9
                obtain ⟨hc9, hf9⟩ := bcell hb9
                have hz9 := hb9.size
                (try simp only [World.size_alloc, World.size_setCell, World.size_drew] at hz9)
                have B9 : Below w8.heap.size w8 w9 := Below.trans (b := _) (by (repeat' (first | (with_reducible exact Below.refl _ _) | (with_reducible assumption) | (with_reducible refine Below.alloc ?_ ?_ _) | (with_reducible refine Below.drew ?_) | (with_reducible refine below_drewN ?_ _) | (with_reducible refine Below.setCell ?_ ?_ _) | (with_reducible refine below_call ?_ ?_ (by assumption)) | go_size))) (hb9.mono (by first | omega | (simp only [World.size_alloc, World.size_setCell, World.size_drew]; omega)))
                obtain ⟨hd9, -⟩ := bcell B9
                have c9_s_0 : w9.cell? ⟨w.heap.size, 0, none⟩ = some (.int .i64 n1) := (hd9 _ _ q_s).trans c8_s_0
                have c9_s_1 : w9.cell? ⟨w.heap.size, 1, none⟩ = some (.int .i64 d1) := (hd9 _ _ q_s).trans c8_s_1
                have c9_s_2 : w9.cell? ⟨w.heap.size, 2, none⟩ = some (.int .i64 x1) := (hd9 _ _ q_s).trans c8_s_2
                have c9_s_3 : w9.cell? ⟨w.heap.size, 3, none⟩ = some (.int .i64 y1) := (hd9 _ _ q_s).trans c8_s_3
                have c9_an_0 : w9.cell? ⟨w.heap.size + 1, 0, none⟩ = some (.int .i64 n3) := (hd9 _ _ q_an).trans c8_an_0
                have c9_an_1 : w9.cell? ⟨w.heap.size + 1, 1, none⟩ = some (.int .i64 d3) := (hd9 _ _ q_an).trans c8_an_1
                have c9_q_0 : w9.cell? ⟨w.heap.size + 1 + 1, 0, none⟩ = some (.int .i64 n5) := (hd9 _ _ q_q).trans c8_q_0
                have c9_q_1 : w9.cell? ⟨w.heap.size + 1 + 1, 1, none⟩ = some (.int .i64 d5) := (hd9 _ _ q_q).trans c8_q_1
                have c9_q_2 : w9.cell? ⟨w.heap.size + 1 + 1, 2, none⟩ = some (.int .i64 x5) := (hd9 _ _ q_q).trans c8_q_2
                have c9_q_3 : w9.cell? ⟨w.heap.size + 1 + 1, 3, none⟩ = some (.int .i64 y5) := (hd9 _ _ q_q).trans c8_q_3
                have c9_m_0 : w9.cell? ⟨w.heap.size + 1 + 1 + 1, 0, none⟩ = some (.int .i64 n6) := (hd9 _ _ q_m).trans c8_m_0
                have c9_m_1 : w9.cell? ⟨w.heap.size + 1 + 1 + 1, 1, none⟩ = some (.int .i64 d6) := (hd9 _ _ q_m).trans c8_m_1
                have c9_m_2 : w9.cell? ⟨w.heap.size + 1 + 1 + 1, 2, none⟩ = some (.int .i64 x6) := (hd9 _ _ q_m).trans c8_m_2
                have c9_m_3 : w9.cell? ⟨w.heap.size + 1 + 1 + 1, 3, none⟩ = some (.int .i64 y6) := (hd9 _ _ q_m).trans c8_m_3
                have c9_r_0 : w9.cell? ⟨w.heap.size + 1 + 1 + 1 + 1, 0, none⟩ = some (.int .i64 n7) := (hd9 _ _ q_r).trans c8_r_0
                have c9_r_1 : w9.cell? ⟨w.heap.size + 1 + 1 + 1 + 1, 1, none⟩ = some (.int .i64 d7) := (hd9 _ _ q_r).trans c8_r_1
                have c9_r_2 : w9.cell? ⟨w.heap.size + 1 + 1 + 1 + 1, 2, none⟩ = some (.int .i64 x7) := (hd9 _ _ q_r).trans c8_r_2
                have c9_r_3 : w9.cell? ⟨w.heap.size + 1 + 1 + 1 + 1, 3, none⟩ = some (.int .i64 y7) := (hd9 _ _ q_r).trans c8_r_3
                have c9_by_0 : w9.cell? ⟨w.heap.size + 1 + 1 + 1 + 1 + 1, 0, none⟩ = some (.int .i64 n8) := (hd9 _ _ q_by).trans c8_by_0
                have c9_by_1 : w9.cell? ⟨w.heap.size + 1 + 1 + 1 + 1 + 1, 1, none⟩ = some (.int .i64 d8) := (hd9 _ _ q_by).trans c8_by_1
                replace q_s : w.heap.size < w9.heap.size := by omega
                replace q_an : w.heap.size + 1 < w9.heap.size := by omega
                replace q_q : w.heap.size + 1 + 1 < w9.heap.size := by omega
                replace q_m : w.heap.size + 1 + 1 + 1 < w9.heap.size := by omega
                replace q_r : w.heap.size + 1 + 1 + 1 + 1 < w9.heap.size := by omega
                replace q_by : w.heap.size + 1 + 1 + 1 + 1 + 1 < w9.heap.size := by omega
                have R9_ts := Lib.hid (TRow.below R8_ts.out B9)
                clear R8_ts
                have R9_td := Lib.hid (TRow.below R8_td.out B9)
                clear R8_td
                have BW9 : Below w.heap.size w w9 := BW8.trans (B9.mono BW8.size)
                have BX9 : Below w6.heap.size w6 w9 := BX8.trans (B9.mono BX8.size)
                clear BX8
                clear hc9 hf9 hb9 hd9 B9 c8_s_0 c8_s_1 c8_s_2 c8_s_3 c8_an_0 c8_an_1 c8_q_0 c8_q_1 c8_q_2 c8_q_3 c8_m_0 c8_m_1 c8_m_2 c8_m_3 c8_r_0 c8_r_1 c8_r_2 c8_r_3 c8_by_0 c8_by_1 BW8
                have hrelB := BX9
                go_wp2_with fail
                go_meet
                case rel => exact hrelB
      case rest =>
        have hb7 := hcut
        obtain ⟨w7, hw7⟩ : ∃ x : World, x = wc := ⟨_, rfl⟩
        subst hw7
        obtain ⟨hc7, hf7⟩ := bcell hb7
        have hz7 := hb7.size
        (try simp only [World.size_alloc, World.size_setCell, World.size_drew] at hz7)
        have B7 : Below w6.heap.size w6 w7 := Below.trans (b := _) (by (repeat' (first | (with_reducible exact Below.refl _ _) | (with_reducible assumption) | (with_reducible refine Below.alloc ?_ ?_ _) | (with_reducible refine Below.drew ?_) | (with_reducible refine below_drewN ?_ _) | (with_reducible refine Below.setCell ?_ ?_ _) | (with_reducible refine below_call ?_ ?_ (by assumption)) | go_size))) (hb7.mono (by first | omega | (simp only [World.size_alloc, World.size_setCell, World.size_drew]; omega)))
        obtain ⟨hd7, -⟩ := bcell B7
        have c7_s_0 : w7.cell? ⟨w.heap.size, 0, none⟩ = some (.int .i64 n1) := (hd7 _ _ q_s).trans c6_s_0
        have c7_s_1 : w7.cell? ⟨w.heap.size, 1, none⟩ = some (.int .i64 d1) := (hd7 _ _ q_s).trans c6_s_1
        have c7_s_2 : w7.cell? ⟨w.heap.size, 2, none⟩ = some (.int .i64 x1) := (hd7 _ _ q_s).trans c6_s_2
        have c7_s_3 : w7.cell? ⟨w.heap.size, 3, none⟩ = some (.int .i64 y1) := (hd7 _ _ q_s).trans c6_s_3
        have c7_an_0 : w7.cell? ⟨w.heap.size + 1, 0, none⟩ = some (.int .i64 n3) := (hd7 _ _ q_an).trans c6_an_0
        have c7_an_1 : w7.cell? ⟨w.heap.size + 1, 1, none⟩ = some (.int .i64 d3) := (hd7 _ _ q_an).trans c6_an_1
        have c7_q_0 : w7.cell? ⟨w.heap.size + 1 + 1, 0, none⟩ = some (.int .i64 n5) := (hd7 _ _ q_q).trans c6_q_0
        have c7_q_1 : w7.cell? ⟨w.heap.size + 1 + 1, 1, none⟩ = some (.int .i64 d5) := (hd7 _ _ q_q).trans c6_q_1
        have c7_q_2 : w7.cell? ⟨w.heap.size + 1 + 1, 2, none⟩ = some (.int .i64 x5) := (hd7 _ _ q_q).trans c6_q_2
        have c7_q_3 : w7.cell? ⟨w.heap.size + 1 + 1, 3, none⟩ = some (.int .i64 y5) := (hd7 _ _ q_q).trans c6_q_3
        have c7_m_0 : w7.cell? ⟨w.heap.size + 1 + 1 + 1, 0, none⟩ = some (.int .i64 n6) := (hd7 _ _ q_m).trans c6_m_0
        have c7_m_1 : w7.cell? ⟨w.heap.size + 1 + 1 + 1, 1, none⟩ = some (.int .i64 d6) := (hd7 _ _ q_m).trans c6_m_1
        have c7_m_2 : w7.cell? ⟨w.heap.size + 1 + 1 + 1, 2, none⟩ = some (.int .i64 x6) := (hd7 _ _ q_m).trans c6_m_2
        have c7_m_3 : w7.cell? ⟨w.heap.size + 1 + 1 + 1, 3, none⟩ = some (.int .i64 y6) := (hd7 _ _ q_m).trans c6_m_3
        have c7_r_0 : w7.cell? ⟨w.heap.size + 1 + 1 + 1 + 1, 0, none⟩ = some (.int .i64 n7) := (hd7 _ _ q_r).trans c6_r_0
        have c7_r_1 : w7.cell? ⟨w.heap.size + 1 + 1 + 1 + 1, 1, none⟩ = some (.int .i64 d7) := (hd7 _ _ q_r).trans c6_r_1
        have c7_r_2 : w7.cell? ⟨w.heap.size + 1 + 1 + 1 + 1, 2, none⟩ = some (.int .i64 x7) := (hd7 _ _ q_r).trans c6_r_2
        have c7_r_3 : w7.cell? ⟨w.heap.size + 1 + 1 + 1 + 1, 3, none⟩ = some (.int .i64 y7) := (hd7 _ _ q_r).trans c6_r_3
        have c7_by_0 : w7.cell? ⟨w.heap.size + 1 + 1 + 1 + 1 + 1, 0, none⟩ = some (.int .i64 n8) := (hd7 _ _ q_by).trans c6_by_0
        have c7_by_1 : w7.cell? ⟨w.heap.size + 1 + 1 + 1 + 1 + 1, 1, none⟩ = some (.int .i64 d8) := (hd7 _ _ q_by).trans c6_by_1
        replace q_s : w.heap.size < w7.heap.size := by omega
        replace q_an : w.heap.size + 1 < w7.heap.size := by omega
        replace q_q : w.heap.size + 1 + 1 < w7.heap.size := by omega
        replace q_m : w.heap.size + 1 + 1 + 1 < w7.heap.size := by omega
        replace q_r : w.heap.size + 1 + 1 + 1 + 1 < w7.heap.size := by omega
        replace q_by : w.heap.size + 1 + 1 + 1 + 1 + 1 < w7.heap.size := by omega
        have R7_ts := Lib.hid (TRow.below R6_ts.out B7)
        clear R6_ts
        have R7_td := Lib.hid (TRow.below R6_td.out B7)
        clear R6_td
        have BW7 : Below w.heap.size w w7 := BW6.trans (B7.mono BW6.size)
        clear hc7 hf7 hb7 hd7 B7 c6_s_0 c6_s_1 c6_s_2 c6_s_3 c6_an_0 c6_an_1 c6_q_0 c6_q_1 c6_q_2 c6_q_3 c6_m_0 c6_m_1 c6_m_2 c6_m_3 c6_r_0 c6_r_1 c6_r_2 c6_r_3 c6_by_0 c6_by_1 BW6
        clear R7_ts
        clear R7_td
        clear q_s c7_s_0 c7_s_1 c7_s_2 c7_s_3
        go_wp2_with fail
        refine (C5.out _).mono ?_
        rintro e8 w8 ⟨v_wa, rfl, hr8, hb8⟩
        obtain ⟨pa_wa, pc_wa, rfl, -⟩ := TRow.cells hr8
        have R8_wa := Lib.hid hr8
        clear hr8
        obtain ⟨hc8, hf8⟩ := bcell hb8
        have hz8 := hb8.size
        (try simp only [World.size_alloc, World.size_setCell, World.size_drew] at hz8)
        have B8 : Below w7.heap.size w7 w8 := Below.trans (b := _) (by (repeat' (first | (with_reducible exact Below.refl _ _) | (with_reducible assumption) | (with_reducible refine Below.alloc ?_ ?_ _) | (with_reducible refine Below.drew ?_) | (with_reducible refine below_drewN ?_ _) | (with_reducible refine Below.setCell ?_ ?_ _) | (with_reducible refine below_call ?_ ?_ (by assumption)) | go_size))) (hb8.mono (by first | omega | (simp only [World.size_alloc, World.size_setCell, World.size_drew]; omega)))
        obtain ⟨hd8, -⟩ := bcell B8
        have c8_an_0 : w8.cell? ⟨w.heap.size + 1, 0, none⟩ = some (.int .i64 n3) := (hd8 _ _ q_an).trans c7_an_0
        have c8_an_1 : w8.cell? ⟨w.heap.size + 1, 1, none⟩ = some (.int .i64 d3) := (hd8 _ _ q_an).trans c7_an_1
        have c8_q_0 : w8.cell? ⟨w.heap.size + 1 + 1, 0, none⟩ = some (.int .i64 n5) := (hd8 _ _ q_q).trans c7_q_0
        have c8_q_1 : w8.cell? ⟨w.heap.size + 1 + 1, 1, none⟩ = some (.int .i64 d5) := (hd8 _ _ q_q).trans c7_q_1
        have c8_q_2 : w8.cell? ⟨w.heap.size + 1 + 1, 2, none⟩ = some (.int .i64 x5) := (hd8 _ _ q_q).trans c7_q_2
        have c8_q_3 : w8.cell? ⟨w.heap.size + 1 + 1, 3, none⟩ = some (.int .i64 y5) := (hd8 _ _ q_q).trans c7_q_3
        have c8_m_0 : w8.cell? ⟨w.heap.size + 1 + 1 + 1, 0, none⟩ = some (.int .i64 n6) := (hd8 _ _ q_m).trans c7_m_0
        have c8_m_1 : w8.cell? ⟨w.heap.size + 1 + 1 + 1, 1, none⟩ = some (.int .i64 d6) := (hd8 _ _ q_m).trans c7_m_1
        have c8_m_2 : w8.cell? ⟨w.heap.size + 1 + 1 + 1, 2, none⟩ = some (.int .i64 x6) := (hd8 _ _ q_m).trans c7_m_2
        have c8_m_3 : w8.cell? ⟨w.heap.size + 1 + 1 + 1, 3, none⟩ = some (.int .i64 y6) := (hd8 _ _ q_m).trans c7_m_3
        have c8_r_0 : w8.cell? ⟨w.heap.size + 1 + 1 + 1 + 1, 0, none⟩ = some (.int .i64 n7) := (hd8 _ _ q_r).trans c7_r_0
        have c8_r_1 : w8.cell? ⟨w.heap.size + 1 + 1 + 1 + 1, 1, none⟩ = some (.int .i64 d7) := (hd8 _ _ q_r).trans c7_r_1
        have c8_r_2 : w8.cell? ⟨w.heap.size + 1 + 1 + 1 + 1, 2, none⟩ = some (.int .i64 x7) := (hd8 _ _ q_r).trans c7_r_2
        have c8_r_3 : w8.cell? ⟨w.heap.size + 1 + 1 + 1 + 1, 3, none⟩ = some (.int .i64 y7) := (hd8 _ _ q_r).trans c7_r_3
        have c8_by_0 : w8.cell? ⟨w.heap.size + 1 + 1 + 1 + 1 + 1, 0, none⟩ = some (.int .i64 n8) := (hd8 _ _ q_by).trans c7_by_0
        have c8_by_1 : w8.cell? ⟨w.heap.size + 1 + 1 + 1 + 1 + 1, 1, none⟩ = some (.int .i64 d8) := (hd8 _ _ q_by).trans c7_by_1
        replace q_an : w.heap.size + 1 < w8.heap.size := by omega
        replace q_q : w.heap.size + 1 + 1 < w8.heap.size := by omega
        replace q_m : w.heap.size + 1 + 1 + 1 < w8.heap.size := by omega
        replace q_r : w.heap.size + 1 + 1 + 1 + 1 < w8.heap.size := by omega
        replace q_by : w.heap.size + 1 + 1 + 1 + 1 + 1 < w8.heap.size := by omega
        have BW8 : Below w.heap.size w w8 := BW7.trans (B8.mono BW7.size)
        clear hc8 hf8 hb8 hd8 B8 c7_an_0 c7_an_1 c7_q_0 c7_q_1 c7_q_2 c7_q_3 c7_m_0 c7_m_1 c7_m_2 c7_m_3 c7_r_0 c7_r_1 c7_r_2 c7_r_3 c7_by_0 c7_by_1 BW7
        go_wp2_with fail
        refine (C6.out _).mono ?_
        rintro e9 w9 ⟨v_model, rfl, hr9, hb9⟩
        obtain ⟨pa_model, pc_model, rfl, -⟩ := TRow.cells hr9
        have R9_model := Lib.hid hr9
        clear hr9
        obtain ⟨hc9, hf9⟩ := bcell hb9
        have hz9 := hb9.size
        (try simp only [World.size_alloc, World.size_setCell, World.size_drew] at hz9)
        have B9 : Below w8.heap.size w8 w9 := Below.trans (b := _) (by (repeat' (first | (with_reducible exact Below.refl _ _) | (with_reducible assumption) | (with_reducible refine Below.alloc ?_ ?_ _) | (with_reducible refine Below.drew ?_) | (with_reducible refine below_drewN ?_ _) | (with_reducible refine Below.setCell ?_ ?_ _) | (with_reducible refine below_call ?_ ?_ (by assumption)) | go_size))) (hb9.mono (by first | omega | (simp only [World.size_alloc, World.size_setCell, World.size_drew]; omega)))
        obtain ⟨hd9, -⟩ := bcell B9
        have c9_an_0 : w9.cell? ⟨w.heap.size + 1, 0, none⟩ = some (.int .i64 n3) := (hd9 _ _ q_an).trans c8_an_0
        have c9_an_1 : w9.cell? ⟨w.heap.size + 1, 1, none⟩ = some (.int .i64 d3) := (hd9 _ _ q_an).trans c8_an_1
        have c9_q_0 : w9.cell? ⟨w.heap.size + 1 + 1, 0, none⟩ = some (.int .i64 n5) := (hd9 _ _ q_q).trans c8_q_0
        have c9_q_1 : w9.cell? ⟨w.heap.size + 1 + 1, 1, none⟩ = some (.int .i64 d5) := (hd9 _ _ q_q).trans c8_q_1
        have c9_q_2 : w9.cell? ⟨w.heap.size + 1 + 1, 2, none⟩ = some (.int .i64 x5) := (hd9 _ _ q_q).trans c8_q_2
        have c9_q_3 : w9.cell? ⟨w.heap.size + 1 + 1, 3, none⟩ = some (.int .i64 y5) := (hd9 _ _ q_q).trans c8_q_3
        have c9_m_0 : w9.cell? ⟨w.heap.size + 1 + 1 + 1, 0, none⟩ = some (.int .i64 n6) := (hd9 _ _ q_m).trans c8_m_0
        have c9_m_1 : w9.cell? ⟨w.heap.size + 1 + 1 + 1, 1, none⟩ = some (.int .i64 d6) := (hd9 _ _ q_m).trans c8_m_1
        have c9_m_2 : w9.cell? ⟨w.heap.size + 1 + 1 + 1, 2, none⟩ = some (.int .i64 x6) := (hd9 _ _ q_m).trans c8_m_2
        have c9_m_3 : w9.cell? ⟨w.heap.size + 1 + 1 + 1, 3, none⟩ = some (.int .i64 y6) := (hd9 _ _ q_m).trans c8_m_3
        have c9_r_0 : w9.cell? ⟨w.heap.size + 1 + 1 + 1 + 1, 0, none⟩ = some (.int .i64 n7) := (hd9 _ _ q_r).trans c8_r_0
        have c9_r_1 : w9.cell? ⟨w.heap.size + 1 + 1 + 1 + 1, 1, none⟩ = some (.int .i64 d7) := (hd9 _ _ q_r).trans c8_r_1
        have c9_r_2 : w9.cell? ⟨w.heap.size + 1 + 1 + 1 + 1, 2, none⟩ = some (.int .i64 x7) := (hd9 _ _ q_r).trans c8_r_2
        have c9_r_3 : w9.cell? ⟨w.heap.size + 1 + 1 + 1 + 1, 3, none⟩ = some (.int .i64 y7) := (hd9 _ _ q_r).trans c8_r_3
        have c9_by_0 : w9.cell? ⟨w.heap.size + 1 + 1 + 1 + 1 + 1, 0, none⟩ = some (.int .i64 n8) := (hd9 _ _ q_by).trans c8_by_0
        have c9_by_1 : w9.cell? ⟨w.heap.size + 1 + 1 + 1 + 1 + 1, 1, none⟩ = some (.int .i64 d8) := (hd9 _ _ q_by).trans c8_by_1
        replace q_an : w.heap.size + 1 < w9.heap.size := by omega
        replace q_q : w.heap.size + 1 + 1 < w9.heap.size := by omega
        replace q_m : w.heap.size + 1 + 1 + 1 < w9.heap.size := by omega
        replace q_r : w.heap.size + 1 + 1 + 1 + 1 < w9.heap.size := by omega
        replace q_by : w.heap.size + 1 + 1 + 1 + 1 + 1 < w9.heap.size := by omega
        have R9_wa := Lib.hid (TRow.below R8_wa.out B9)
        clear R8_wa
        have BW9 : Below w.heap.size w w9 := BW8.trans (B9.mono BW8.size)
        clear hc9 hf9 hb9 hd9 B9 c8_an_0 c8_an_1 c8_q_0 c8_q_1 c8_q_2 c8_q_3 c8_m_0 c8_m_1 c8_m_2 c8_m_3 c8_r_0 c8_r_1 c8_r_2 c8_r_3 c8_by_0 c8_by_1 BW8
        go_wp2_with fail
        refine (C7.out _).mono ?_
        rintro e10 w10 ⟨v_gl, rfl, hr10, hb10⟩
        obtain ⟨pa_gl, pc_gl, rfl, -⟩ := TRow.cells hr10
        have R10_gl := Lib.hid hr10
        clear hr10
        obtain ⟨hc10, hf10⟩ := bcell hb10
        have hz10 := hb10.size
        (try simp only [World.size_alloc, World.size_setCell, World.size_drew] at hz10)
        have B10 : Below w9.heap.size w9 w10 := Below.trans (b := _) (by (repeat' (first | (with_reducible exact Below.refl _ _) | (with_reducible assumption) | (with_reducible refine Below.alloc ?_ ?_ _) | (with_reducible refine Below.drew ?_) | (with_reducible refine below_drewN ?_ _) | (with_reducible refine Below.setCell ?_ ?_ _) | (with_reducible refine below_call ?_ ?_ (by assumption)) | go_size))) (hb10.mono (by first | omega | (simp only [World.size_alloc, World.size_setCell, World.size_drew]; omega)))
        obtain ⟨hd10, -⟩ := bcell B10
        have c10_an_0 : w10.cell? ⟨w.heap.size + 1, 0, none⟩ = some (.int .i64 n3) := (hd10 _ _ q_an).trans c9_an_0
        have c10_an_1 : w10.cell? ⟨w.heap.size + 1, 1, none⟩ = some (.int .i64 d3) := (hd10 _ _ q_an).trans c9_an_1
        have c10_q_0 : w10.cell? ⟨w.heap.size + 1 + 1, 0, none⟩ = some (.int .i64 n5) := (hd10 _ _ q_q).trans c9_q_0
        have c10_q_1 : w10.cell? ⟨w.heap.size + 1 + 1, 1, none⟩ = some (.int .i64 d5) := (hd10 _ _ q_q).trans c9_q_1
        have c10_q_2 : w10.cell? ⟨w.heap.size + 1 + 1, 2, none⟩ = some (.int .i64 x5) := (hd10 _ _ q_q).trans c9_q_2
        have c10_q_3 : w10.cell? ⟨w.heap.size + 1 + 1, 3, none⟩ = some (.int .i64 y5) := (hd10 _ _ q_q).trans c9_q_3
        have c10_m_0 : w10.cell? ⟨w.heap.size + 1 + 1 + 1, 0, none⟩ = some (.int .i64 n6) := (hd10 _ _ q_m).trans c9_m_0
        have c10_m_1 : w10.cell? ⟨w.heap.size + 1 + 1 + 1, 1, none⟩ = some (.int .i64 d6) := (hd10 _ _ q_m).trans c9_m_1
        have c10_m_2 : w10.cell? ⟨w.heap.size + 1 + 1 + 1, 2, none⟩ = some (.int .i64 x6) := (hd10 _ _ q_m).trans c9_m_2
        have c10_m_3 : w10.cell? ⟨w.heap.size + 1 + 1 + 1, 3, none⟩ = some (.int .i64 y6) := (hd10 _ _ q_m).trans c9_m_3
        have c10_r_0 : w10.cell? ⟨w.heap.size + 1 + 1 + 1 + 1, 0, none⟩ = some (.int .i64 n7) := (hd10 _ _ q_r).trans c9_r_0
        have c10_r_1 : w10.cell? ⟨w.heap.size + 1 + 1 + 1 + 1, 1, none⟩ = some (.int .i64 d7) := (hd10 _ _ q_r).trans c9_r_1
        have c10_r_2 : w10.cell? ⟨w.heap.size + 1 + 1 + 1 + 1, 2, none⟩ = some (.int .i64 x7) := (hd10 _ _ q_r).trans c9_r_2
        have c10_r_3 : w10.cell? ⟨w.heap.size + 1 + 1 + 1 + 1, 3, none⟩ = some (.int .i64 y7) := (hd10 _ _ q_r).trans c9_r_3
        have c10_by_0 : w10.cell? ⟨w.heap.size + 1 + 1 + 1 + 1 + 1, 0, none⟩ = some (.int .i64 n8) := (hd10 _ _ q_by).trans c9_by_0
        have c10_by_1 : w10.cell? ⟨w.heap.size + 1 + 1 + 1 + 1 + 1, 1, none⟩ = some (.int .i64 d8) := (hd10 _ _ q_by).trans c9_by_1
        replace q_an : w.heap.size + 1 < w10.heap.size := by omega
        replace q_q : w.heap.size + 1 + 1 < w10.heap.size := by omega
        replace q_m : w.heap.size + 1 + 1 + 1 < w10.heap.size := by omega
        replace q_r : w.heap.size + 1 + 1 + 1 + 1 < w10.heap.size := by omega
        replace q_by : w.heap.size + 1 + 1 + 1 + 1 + 1 < w10.heap.size := by omega
        have R10_wa := Lib.hid (TRow.below R9_wa.out B10)
        clear R9_wa
        have R10_model := Lib.hid (TRow.below R9_model.out B10)
        clear R9_model
        have BW10 : Below w.heap.size w w10 := BW9.trans (B10.mono BW9.size)
        clear hc10 hf10 hb10 hd10 B10 c9_an_0 c9_an_1 c9_q_0 c9_q_1 c9_q_2 c9_q_3 c9_m_0 c9_m_1 c9_m_2 c9_m_3 c9_r_0 c9_r_1 c9_r_2 c9_r_3 c9_by_0 c9_by_1 BW9
        go_wp2_with fail
        refine (C8.out _).mono ?_
        rintro e11 w11 ⟨v_value, rfl, hr11, hb11⟩
        obtain ⟨pa_value, pc_value, rfl, -⟩ := TRow.cells hr11
        have R11_value := Lib.hid hr11
        clear hr11
        obtain ⟨hc11, hf11⟩ := bcell hb11
        have hz11 := hb11.size
        (try simp only [World.size_alloc, World.size_setCell, World.size_drew] at hz11)
        have B11 : Below w10.heap.size w10 w11 := Below.trans (b := _) (by (repeat' (first | (with_reducible exact Below.refl _ _) | (with_reducible assumption) | (with_reducible refine Below.alloc ?_ ?_ _) | (with_reducible refine Below.drew ?_) | (with_reducible refine below_drewN ?_ _) | (with_reducible refine Below.setCell ?_ ?_ _) | (with_reducible refine below_call ?_ ?_ (by assumption)) | go_size))) (hb11.mono (by first | omega | (simp only [World.size_alloc, World.size_setCell, World.size_drew]; omega)))
        obtain ⟨hd11, -⟩ := bcell B11
        have c11_an_0 : w11.cell? ⟨w.heap.size + 1, 0, none⟩ = some (.int .i64 n3) := (hd11 _ _ q_an).trans c10_an_0
        have c11_an_1 : w11.cell? ⟨w.heap.size + 1, 1, none⟩ = some (.int .i64 d3) := (hd11 _ _ q_an).trans c10_an_1
        have c11_q_0 : w11.cell? ⟨w.heap.size + 1 + 1, 0, none⟩ = some (.int .i64 n5) := (hd11 _ _ q_q).trans c10_q_0
        have c11_q_1 : w11.cell? ⟨w.heap.size + 1 + 1, 1, none⟩ = some (.int .i64 d5) := (hd11 _ _ q_q).trans c10_q_1
        have c11_q_2 : w11.cell? ⟨w.heap.size + 1 + 1, 2, none⟩ = some (.int .i64 x5) := (hd11 _ _ q_q).trans c10_q_2
        have c11_q_3 : w11.cell? ⟨w.heap.size + 1 + 1, 3, none⟩ = some (.int .i64 y5) := (hd11 _ _ q_q).trans c10_q_3
        have c11_m_0 : w11.cell? ⟨w.heap.size + 1 + 1 + 1, 0, none⟩ = some (.int .i64 n6) := (hd11 _ _ q_m).trans c10_m_0
        have c11_m_1 : w11.cell? ⟨w.heap.size + 1 + 1 + 1, 1, none⟩ = some (.int .i64 d6) := (hd11 _ _ q_m).trans c10_m_1
        have c11_m_2 : w11.cell? ⟨w.heap.size + 1 + 1 + 1, 2, none⟩ = some (.int .i64 x6) := (hd11 _ _ q_m).trans c10_m_2
        have c11_m_3 : w11.cell? ⟨w.heap.size + 1 + 1 + 1, 3, none⟩ = some (.int .i64 y6) := (hd11 _ _ q_m).trans c10_m_3
        have c11_r_0 : w11.cell? ⟨w.heap.size + 1 + 1 + 1 + 1, 0, none⟩ = some (.int .i64 n7) := (hd11 _ _ q_r).trans c10_r_0
        have c11_r_1 : w11.cell? ⟨w.heap.size + 1 + 1 + 1 + 1, 1, none⟩ = some (.int .i64 d7) := (hd11 _ _ q_r).trans c10_r_1
        have c11_r_2 : w11.cell? ⟨w.heap.size + 1 + 1 + 1 + 1, 2, none⟩ = some (.int .i64 x7) := (hd11 _ _ q_r).trans c10_r_2
        have c11_r_3 : w11.cell? ⟨w.heap.size + 1 + 1 + 1 + 1, 3, none⟩ = some (.int .i64 y7) := (hd11 _ _ q_r).trans c10_r_3
        have c11_by_0 : w11.cell? ⟨w.heap.size + 1 + 1 + 1 + 1 + 1, 0, none⟩ = some (.int .i64 n8) := (hd11 _ _ q_by).trans c10_by_0
        have c11_by_1 : w11.cell? ⟨w.heap.size + 1 + 1 + 1 + 1 + 1, 1, none⟩ = some (.int .i64 d8) := (hd11 _ _ q_by).trans c10_by_1
        replace q_an : w.heap.size + 1 < w11.heap.size := by omega
        replace q_q : w.heap.size + 1 + 1 < w11.heap.size := by omega
        replace q_m : w.heap.size + 1 + 1 + 1 < w11.heap.size := by omega
        replace q_r : w.heap.size + 1 + 1 + 1 + 1 < w11.heap.size := by omega
        replace q_by : w.heap.size + 1 + 1 + 1 + 1 + 1 < w11.heap.size := by omega
        have R11_wa := Lib.hid (TRow.below R10_wa.out B11)
        clear R10_wa
        have R11_model := Lib.hid (TRow.below R10_model.out B11)
        clear R10_model
        have R11_gl := Lib.hid (TRow.below R10_gl.out B11)
        clear R10_gl
        have BW11 : Below w.heap.size w w11 := BW10.trans (B11.mono BW10.size)
        clear hc11 hf11 hb11 hd11 B11 c10_an_0 c10_an_1 c10_q_0 c10_q_1 c10_q_2 c10_q_3 c10_m_0 c10_m_1 c10_m_2 c10_m_3 c10_r_0 c10_r_1 c10_r_2 c10_r_3 c10_by_0 c10_by_1 BW10
        go_wp2_with fail
        refine (C9.out _).mono ?_
        rintro e12 w12 ⟨rfl, hb12⟩
        obtain ⟨hc12, hf12⟩ := bcell hb12
        have hz12 := hb12.size
        (try simp only [World.size_alloc, World.size_setCell, World.size_drew] at hz12)
        have B12 : Below w11.heap.size w11 w12 := Below.trans (b := _) (by (repeat' (first | (with_reducible exact Below.refl _ _) | (with_reducible assumption) | (with_reducible refine Below.alloc ?_ ?_ _) | (with_reducible refine Below.drew ?_) | (with_reducible refine below_drewN ?_ _) | (with_reducible refine Below.setCell ?_ ?_ _) | (with_reducible refine below_call ?_ ?_ (by assumption)) | go_size))) (hb12.mono (by first | omega | (simp only [World.size_alloc, World.size_setCell, World.size_drew]; omega)))
        obtain ⟨hd12, -⟩ := bcell B12
        have c12_an_0 : w12.cell? ⟨w.heap.size + 1, 0, none⟩ = some (.int .i64 n3) := (hd12 _ _ q_an).trans c11_an_0
        have c12_an_1 : w12.cell? ⟨w.heap.size + 1, 1, none⟩ = some (.int .i64 d3) := (hd12 _ _ q_an).trans c11_an_1
        have c12_q_0 : w12.cell? ⟨w.heap.size + 1 + 1, 0, none⟩ = some (.int .i64 n5) := (hd12 _ _ q_q).trans c11_q_0
        have c12_q_1 : w12.cell? ⟨w.heap.size + 1 + 1, 1, none⟩ = some (.int .i64 d5) := (hd12 _ _ q_q).trans c11_q_1
        have c12_q_2 : w12.cell? ⟨w.heap.size + 1 + 1, 2, none⟩ = some (.int .i64 x5) := (hd12 _ _ q_q).trans c11_q_2
        have c12_q_3 : w12.cell? ⟨w.heap.size + 1 + 1, 3, none⟩ = some (.int .i64 y5) := (hd12 _ _ q_q).trans c11_q_3
        have c12_m_0 : w12.cell? ⟨w.heap.size + 1 + 1 + 1, 0, none⟩ = some (.int .i64 n6) := (hd12 _ _ q_m).trans c11_m_0
        have c12_m_1 : w12.cell? ⟨w.heap.size + 1 + 1 + 1, 1, none⟩ = some (.int .i64 d6) := (hd12 _ _ q_m).trans c11_m_1
        have c12_m_2 : w12.cell? ⟨w.heap.size + 1 + 1 + 1, 2, none⟩ = some (.int .i64 x6) := (hd12 _ _ q_m).trans c11_m_2
        have c12_m_3 : w12.cell? ⟨w.heap.size + 1 + 1 + 1, 3, none⟩ = some (.int .i64 y6) := (hd12 _ _ q_m).trans c11_m_3
        have c12_r_0 : w12.cell? ⟨w.heap.size + 1 + 1 + 1 + 1, 0, none⟩ = some (.int .i64 n7) := (hd12 _ _ q_r).trans c11_r_0
        have c12_r_1 : w12.cell? ⟨w.heap.size + 1 + 1 + 1 + 1, 1, none⟩ = some (.int .i64 d7) := (hd12 _ _ q_r).trans c11_r_1
        have c12_r_2 : w12.cell? ⟨w.heap.size + 1 + 1 + 1 + 1, 2, none⟩ = some (.int .i64 x7) := (hd12 _ _ q_r).trans c11_r_2
        have c12_r_3 : w12.cell? ⟨w.heap.size + 1 + 1 + 1 + 1, 3, none⟩ = some (.int .i64 y7) := (hd12 _ _ q_r).trans c11_r_3
        have c12_by_0 : w12.cell? ⟨w.heap.size + 1 + 1 + 1 + 1 + 1, 0, none⟩ = some (.int .i64 n8) := (hd12 _ _ q_by).trans c11_by_0
        have c12_by_1 : w12.cell? ⟨w.heap.size + 1 + 1 + 1 + 1 + 1, 1, none⟩ = some (.int .i64 d8) := (hd12 _ _ q_by).trans c11_by_1
        replace q_an : w.heap.size + 1 < w12.heap.size := by omega
        replace q_q : w.heap.size + 1 + 1 < w12.heap.size := by omega
        replace q_m : w.heap.size + 1 + 1 + 1 < w12.heap.size := by omega
        replace q_r : w.heap.size + 1 + 1 + 1 + 1 < w12.heap.size := by omega
        replace q_by : w.heap.size + 1 + 1 + 1 + 1 + 1 < w12.heap.size := by omega
        have R12_wa := Lib.hid (TRow.below R11_wa.out B12)
        clear R11_wa
        have R12_model := Lib.hid (TRow.below R11_model.out B12)
        clear R11_model
        have R12_gl := Lib.hid (TRow.below R11_gl.out B12)
        clear R11_gl
        have R12_value := Lib.hid (TRow.below R11_value.out B12)
        clear R11_value
        have BW12 : Below w.heap.size w w12 := BW11.trans (B12.mono BW11.size)
        clear hc12 hf12 hb12 hd12 B12 c11_an_0 c11_an_1 c11_q_0 c11_q_1 c11_q_2 c11_q_3 c11_m_0 c11_m_1 c11_m_2 c11_m_3 c11_r_0 c11_r_1 c11_r_2 c11_r_3 c11_by_0 c11_by_1 BW11
        go_wp2_with fail
        refine (C10.out _).mono ?_
        rintro e13 w13 ⟨rfl, hb13⟩
        obtain ⟨hc13, hf13⟩ := bcell hb13
        have hz13 := hb13.size
        (try simp only [World.size_alloc, World.size_setCell, World.size_drew] at hz13)
        have B13 : Below w12.heap.size w12 w13 := Below.trans (b := _) (by (repeat' (first | (with_reducible exact Below.refl _ _) | (with_reducible assumption) | (with_reducible refine Below.alloc ?_ ?_ _) | (with_reducible refine Below.drew ?_) | (with_reducible refine below_drewN ?_ _) | (with_reducible refine Below.setCell ?_ ?_ _) | (with_reducible refine below_call ?_ ?_ (by assumption)) | go_size))) (hb13.mono (by first | omega | (simp only [World.size_alloc, World.size_setCell, World.size_drew]; omega)))
        obtain ⟨hd13, -⟩ := bcell B13
        have c13_an_0 : w13.cell? ⟨w.heap.size + 1, 0, none⟩ = some (.int .i64 n3) := (hd13 _ _ q_an).trans c12_an_0
        have c13_an_1 : w13.cell? ⟨w.heap.size + 1, 1, none⟩ = some (.int .i64 d3) := (hd13 _ _ q_an).trans c12_an_1
        have c13_q_0 : w13.cell? ⟨w.heap.size + 1 + 1, 0, none⟩ = some (.int .i64 n5) := (hd13 _ _ q_q).trans c12_q_0
        have c13_q_1 : w13.cell? ⟨w.heap.size + 1 + 1, 1, none⟩ = some (.int .i64 d5) := (hd13 _ _ q_q).trans c12_q_1
        have c13_q_2 : w13.cell? ⟨w.heap.size + 1 + 1, 2, none⟩ = some (.int .i64 x5) := (hd13 _ _ q_q).trans c12_q_2
        have c13_q_3 : w13.cell? ⟨w.heap.size + 1 + 1, 3, none⟩ = some (.int .i64 y5) := (hd13 _ _ q_q).trans c12_q_3
        have c13_m_0 : w13.cell? ⟨w.heap.size + 1 + 1 + 1, 0, none⟩ = some (.int .i64 n6) := (hd13 _ _ q_m).trans c12_m_0
        have c13_m_1 : w13.cell? ⟨w.heap.size + 1 + 1 + 1, 1, none⟩ = some (.int .i64 d6) := (hd13 _ _ q_m).trans c12_m_1
        have c13_m_2 : w13.cell? ⟨w.heap.size + 1 + 1 + 1, 2, none⟩ = some (.int .i64 x6) := (hd13 _ _ q_m).trans c12_m_2
        have c13_m_3 : w13.cell? ⟨w.heap.size + 1 + 1 + 1, 3, none⟩ = some (.int .i64 y6) := (hd13 _ _ q_m).trans c12_m_3
        have c13_r_0 : w13.cell? ⟨w.heap.size + 1 + 1 + 1 + 1, 0, none⟩ = some (.int .i64 n7) := (hd13 _ _ q_r).trans c12_r_0
        have c13_r_1 : w13.cell? ⟨w.heap.size + 1 + 1 + 1 + 1, 1, none⟩ = some (.int .i64 d7) := (hd13 _ _ q_r).trans c12_r_1
        have c13_r_2 : w13.cell? ⟨w.heap.size + 1 + 1 + 1 + 1, 2, none⟩ = some (.int .i64 x7) := (hd13 _ _ q_r).trans c12_r_2
        have c13_r_3 : w13.cell? ⟨w.heap.size + 1 + 1 + 1 + 1, 3, none⟩ = some (.int .i64 y7) := (hd13 _ _ q_r).trans c12_r_3
        have c13_by_0 : w13.cell? ⟨w.heap.size + 1 + 1 + 1 + 1 + 1, 0, none⟩ = some (.int .i64 n8) := (hd13 _ _ q_by).trans c12_by_0
        have c13_by_1 : w13.cell? ⟨w.heap.size + 1 + 1 + 1 + 1 + 1, 1, none⟩ = some (.int .i64 d8) := (hd13 _ _ q_by).trans c12_by_1
        replace q_an : w.heap.size + 1 < w13.heap.size := by omega
        replace q_q : w.heap.size + 1 + 1 < w13.heap.size := by omega
        replace q_m : w.heap.size + 1 + 1 + 1 < w13.heap.size := by omega
        replace q_r : w.heap.size + 1 + 1 + 1 + 1 < w13.heap.size := by omega
        replace q_by : w.heap.size + 1 + 1 + 1 + 1 + 1 < w13.heap.size := by omega
        have c13_mirror_0 : w13.cell? ⟨w12.heap.size, 0, none⟩ = some (.int .i64 m1) := (hc13 _ _ (by go_size)).trans (by go_simp)
        have c13_mirror_1 : w13.cell? ⟨w12.heap.size, 1, none⟩ = some (.int .i64 m2) := (hc13 _ _ (by go_size)).trans (by go_simp)
        have c13_mirror_2 : w13.cell? ⟨w12.heap.size, 2, none⟩ = some (.int .i64 m3) := (hc13 _ _ (by go_size)).trans (by go_simp)
        have c13_mirror_3 : w13.cell? ⟨w12.heap.size, 3, none⟩ = some (.int .i64 m4) := (hc13 _ _ (by go_size)).trans (by go_simp)
        have q_mirror : w12.heap.size < w13.heap.size := by omega
        have R13_wa := Lib.hid (TRow.below R12_wa.out B13)
        clear R12_wa
        have R13_model := Lib.hid (TRow.below R12_model.out B13)
        clear R12_model
        have R13_gl := Lib.hid (TRow.below R12_gl.out B13)
        clear R12_gl
        have R13_value := Lib.hid (TRow.below R12_value.out B13)
        clear R12_value
        have BW13 : Below w.heap.size w w13 := BW12.trans (B13.mono BW12.size)
        clear hc13 hf13 hb13 hd13 B13 c12_an_0 c12_an_1 c12_q_0 c12_q_1 c12_q_2 c12_q_3 c12_m_0 c12_m_1 c12_m_2 c12_m_3 c12_r_0 c12_r_1 c12_r_2 c12_r_3 c12_by_0 c12_by_1 BW12
        go_wp2_with fail
        refine (C11.out _).mono ?_
        rintro e14 w14 ⟨rfl, hb14⟩
        obtain ⟨hc14, hf14⟩ := bcell hb14
        have hz14 := hb14.size
        (try simp only [World.size_alloc, World.size_setCell, World.size_drew] at hz14)
        have B14 : Below w13.heap.size w13 w14 := Below.trans (b := _) (by (repeat' (first | (with_reducible exact Below.refl _ _) | (with_reducible assumption) | (with_reducible refine Below.alloc ?_ ?_ _) | (with_reducible refine Below.drew ?_) | (with_reducible refine below_drewN ?_ _) | (with_reducible refine Below.setCell ?_ ?_ _) | (with_reducible refine below_call ?_ ?_ (by assumption)) | go_size))) (hb14.mono (by first | omega | (simp only [World.size_alloc, World.size_setCell, World.size_drew]; omega)))
        obtain ⟨hd14, -⟩ := bcell B14
        have c14_an_0 : w14.cell? ⟨w.heap.size + 1, 0, none⟩ = some (.int .i64 n3) := (hd14 _ _ q_an).trans c13_an_0
        have c14_an_1 : w14.cell? ⟨w.heap.size + 1, 1, none⟩ = some (.int .i64 d3) := (hd14 _ _ q_an).trans c13_an_1
        have c14_q_0 : w14.cell? ⟨w.heap.size + 1 + 1, 0, none⟩ = some (.int .i64 n5) := (hd14 _ _ q_q).trans c13_q_0
        have c14_q_1 : w14.cell? ⟨w.heap.size + 1 + 1, 1, none⟩ = some (.int .i64 d5) := (hd14 _ _ q_q).trans c13_q_1
        have c14_q_2 : w14.cell? ⟨w.heap.size + 1 + 1, 2, none⟩ = some (.int .i64 x5) := (hd14 _ _ q_q).trans c13_q_2
        have c14_q_3 : w14.cell? ⟨w.heap.size + 1 + 1, 3, none⟩ = some (.int .i64 y5) := (hd14 _ _ q_q).trans c13_q_3
        have c14_m_0 : w14.cell? ⟨w.heap.size + 1 + 1 + 1, 0, none⟩ = some (.int .i64 n6) := (hd14 _ _ q_m).trans c13_m_0
        have c14_m_1 : w14.cell? ⟨w.heap.size + 1 + 1 + 1, 1, none⟩ = some (.int .i64 d6) := (hd14 _ _ q_m).trans c13_m_1
        have c14_m_2 : w14.cell? ⟨w.heap.size + 1 + 1 + 1, 2, none⟩ = some (.int .i64 x6) := (hd14 _ _ q_m).trans c13_m_2
        have c14_m_3 : w14.cell? ⟨w.heap.size + 1 + 1 + 1, 3, none⟩ = some (.int .i64 y6) := (hd14 _ _ q_m).trans c13_m_3
        have c14_r_0 : w14.cell? ⟨w.heap.size + 1 + 1 + 1 + 1, 0, none⟩ = some (.int .i64 n7) := (hd14 _ _ q_r).trans c13_r_0
        have c14_r_1 : w14.cell? ⟨w.heap.size + 1 + 1 + 1 + 1, 1, none⟩ = some (.int .i64 d7) := (hd14 _ _ q_r).trans c13_r_1
        have c14_r_2 : w14.cell? ⟨w.heap.size + 1 + 1 + 1 + 1, 2, none⟩ = some (.int .i64 x7) := (hd14 _ _ q_r).trans c13_r_2
        have c14_r_3 : w14.cell? ⟨w.heap.size + 1 + 1 + 1 + 1, 3, none⟩ = some (.int .i64 y7) := (hd14 _ _ q_r).trans c13_r_3
        have c14_by_0 : w14.cell? ⟨w.heap.size + 1 + 1 + 1 + 1 + 1, 0, none⟩ = some (.int .i64 n8) := (hd14 _ _ q_by).trans c13_by_0
        have c14_by_1 : w14.cell? ⟨w.heap.size + 1 + 1 + 1 + 1 + 1, 1, none⟩ = some (.int .i64 d8) := (hd14 _ _ q_by).trans c13_by_1
        have c14_mirror_0 : w14.cell? ⟨w12.heap.size, 0, none⟩ = some (.int .i64 m1) := (hd14 _ _ q_mirror).trans c13_mirror_0
        have c14_mirror_1 : w14.cell? ⟨w12.heap.size, 1, none⟩ = some (.int .i64 m2) := (hd14 _ _ q_mirror).trans c13_mirror_1
        have c14_mirror_2 : w14.cell? ⟨w12.heap.size, 2, none⟩ = some (.int .i64 m3) := (hd14 _ _ q_mirror).trans c13_mirror_2
        have c14_mirror_3 : w14.cell? ⟨w12.heap.size, 3, none⟩ = some (.int .i64 m4) := (hd14 _ _ q_mirror).trans c13_mirror_3
        replace q_an : w.heap.size + 1 < w14.heap.size := by omega
        replace q_q : w.heap.size + 1 + 1 < w14.heap.size := by omega
        replace q_m : w.heap.size + 1 + 1 + 1 < w14.heap.size := by omega
        replace q_r : w.heap.size + 1 + 1 + 1 + 1 < w14.heap.size := by omega
        replace q_by : w.heap.size + 1 + 1 + 1 + 1 + 1 < w14.heap.size := by omega
        replace q_mirror : w12.heap.size < w14.heap.size := by omega
        have c14_due_0 : w14.cell? ⟨w13.heap.size, 0, none⟩ = some (.int .i64 m1) := (hc14 _ _ (by go_size)).trans (by go_simp)
        have c14_due_1 : w14.cell? ⟨w13.heap.size, 1, none⟩ = some (.int .i64 m2) := (hc14 _ _ (by go_size)).trans (by go_simp)
        have c14_due_2 : w14.cell? ⟨w13.heap.size, 2, none⟩ = some (.int .i64 m3) := (hc14 _ _ (by go_size)).trans (by go_simp)
        have c14_due_3 : w14.cell? ⟨w13.heap.size, 3, none⟩ = some (.int .i64 m4) := (hc14 _ _ (by go_size)).trans (by go_simp)
        have q_due : w13.heap.size < w14.heap.size := by omega
        have R14_wa := Lib.hid (TRow.below R13_wa.out B14)
        clear R13_wa
        have R14_model := Lib.hid (TRow.below R13_model.out B14)
        clear R13_model
        have R14_gl := Lib.hid (TRow.below R13_gl.out B14)
        clear R13_gl
        have R14_value := Lib.hid (TRow.below R13_value.out B14)
        clear R13_value
        have BW14 : Below w.heap.size w w14 := BW13.trans (B14.mono BW13.size)
        clear hc14 hf14 hb14 hd14 B14 c13_an_0 c13_an_1 c13_q_0 c13_q_1 c13_q_2 c13_q_3 c13_m_0 c13_m_1 c13_m_2 c13_m_3 c13_r_0 c13_r_1 c13_r_2 c13_r_3 c13_by_0 c13_by_1 c13_mirror_0 c13_mirror_1 c13_mirror_2 c13_mirror_3 BW13
        go_wp2_with fail
        refine (C12.out _).mono ?_
        rintro e15 w15 ⟨rfl, hb15⟩
        obtain ⟨hc15, hf15⟩ := bcell hb15
        have hz15 := hb15.size
        (try simp only [World.size_alloc, World.size_setCell, World.size_drew] at hz15)
        have B15 : Below w14.heap.size w14 w15 := Below.trans (b := _) (by (repeat' (first | (with_reducible exact Below.refl _ _) | (with_reducible assumption) | (with_reducible refine Below.alloc ?_ ?_ _) | (with_reducible refine Below.drew ?_) | (with_reducible refine below_drewN ?_ _) | (with_reducible refine Below.setCell ?_ ?_ _) | (with_reducible refine below_call ?_ ?_ (by assumption)) | go_size))) (hb15.mono (by first | omega | (simp only [World.size_alloc, World.size_setCell, World.size_drew]; omega)))
        obtain ⟨hd15, -⟩ := bcell B15
        have c15_an_0 : w15.cell? ⟨w.heap.size + 1, 0, none⟩ = some (.int .i64 n3) := (hd15 _ _ q_an).trans c14_an_0
        have c15_an_1 : w15.cell? ⟨w.heap.size + 1, 1, none⟩ = some (.int .i64 d3) := (hd15 _ _ q_an).trans c14_an_1
        have c15_q_0 : w15.cell? ⟨w.heap.size + 1 + 1, 0, none⟩ = some (.int .i64 n5) := (hd15 _ _ q_q).trans c14_q_0
        have c15_q_1 : w15.cell? ⟨w.heap.size + 1 + 1, 1, none⟩ = some (.int .i64 d5) := (hd15 _ _ q_q).trans c14_q_1
        have c15_q_2 : w15.cell? ⟨w.heap.size + 1 + 1, 2, none⟩ = some (.int .i64 x5) := (hd15 _ _ q_q).trans c14_q_2
        have c15_q_3 : w15.cell? ⟨w.heap.size + 1 + 1, 3, none⟩ = some (.int .i64 y5) := (hd15 _ _ q_q).trans c14_q_3
        have c15_m_0 : w15.cell? ⟨w.heap.size + 1 + 1 + 1, 0, none⟩ = some (.int .i64 n6) := (hd15 _ _ q_m).trans c14_m_0
        have c15_m_1 : w15.cell? ⟨w.heap.size + 1 + 1 + 1, 1, none⟩ = some (.int .i64 d6) := (hd15 _ _ q_m).trans c14_m_1
        have c15_m_2 : w15.cell? ⟨w.heap.size + 1 + 1 + 1, 2, none⟩ = some (.int .i64 x6) := (hd15 _ _ q_m).trans c14_m_2
        have c15_m_3 : w15.cell? ⟨w.heap.size + 1 + 1 + 1, 3, none⟩ = some (.int .i64 y6) := (hd15 _ _ q_m).trans c14_m_3
        have c15_r_0 : w15.cell? ⟨w.heap.size + 1 + 1 + 1 + 1, 0, none⟩ = some (.int .i64 n7) := (hd15 _ _ q_r).trans c14_r_0
        have c15_r_1 : w15.cell? ⟨w.heap.size + 1 + 1 + 1 + 1, 1, none⟩ = some (.int .i64 d7) := (hd15 _ _ q_r).trans c14_r_1
        have c15_r_2 : w15.cell? ⟨w.heap.size + 1 + 1 + 1 + 1, 2, none⟩ = some (.int .i64 x7) := (hd15 _ _ q_r).trans c14_r_2
        have c15_r_3 : w15.cell? ⟨w.heap.size + 1 + 1 + 1 + 1, 3, none⟩ = some (.int .i64 y7) := (hd15 _ _ q_r).trans c14_r_3
        have c15_by_0 : w15.cell? ⟨w.heap.size + 1 + 1 + 1 + 1 + 1, 0, none⟩ = some (.int .i64 n8) := (hd15 _ _ q_by).trans c14_by_0
        have c15_by_1 : w15.cell? ⟨w.heap.size + 1 + 1 + 1 + 1 + 1, 1, none⟩ = some (.int .i64 d8) := (hd15 _ _ q_by).trans c14_by_1
        have c15_mirror_0 : w15.cell? ⟨w12.heap.size, 0, none⟩ = some (.int .i64 m1) := (hd15 _ _ q_mirror).trans c14_mirror_0
        have c15_mirror_1 : w15.cell? ⟨w12.heap.size, 1, none⟩ = some (.int .i64 m2) := (hd15 _ _ q_mirror).trans c14_mirror_1
        have c15_mirror_2 : w15.cell? ⟨w12.heap.size, 2, none⟩ = some (.int .i64 m3) := (hd15 _ _ q_mirror).trans c14_mirror_2
        have c15_mirror_3 : w15.cell? ⟨w12.heap.size, 3, none⟩ = some (.int .i64 m4) := (hd15 _ _ q_mirror).trans c14_mirror_3
        have c15_due_0 : w15.cell? ⟨w13.heap.size, 0, none⟩ = some (.int .i64 m1) := (hd15 _ _ q_due).trans c14_due_0
        have c15_due_1 : w15.cell? ⟨w13.heap.size, 1, none⟩ = some (.int .i64 m2) := (hd15 _ _ q_due).trans c14_due_1
        have c15_due_2 : w15.cell? ⟨w13.heap.size, 2, none⟩ = some (.int .i64 m3) := (hd15 _ _ q_due).trans c14_due_2
        have c15_due_3 : w15.cell? ⟨w13.heap.size, 3, none⟩ = some (.int .i64 m4) := (hd15 _ _ q_due).trans c14_due_3
        replace q_an : w.heap.size + 1 < w15.heap.size := by omega
        replace q_q : w.heap.size + 1 + 1 < w15.heap.size := by omega
        replace q_m : w.heap.size + 1 + 1 + 1 < w15.heap.size := by omega
        replace q_r : w.heap.size + 1 + 1 + 1 + 1 < w15.heap.size := by omega
        replace q_by : w.heap.size + 1 + 1 + 1 + 1 + 1 < w15.heap.size := by omega
        replace q_mirror : w12.heap.size < w15.heap.size := by omega
        replace q_due : w13.heap.size < w15.heap.size := by omega
        have c15_turned_0 : w15.cell? ⟨w14.heap.size, 0, none⟩ = some (.int .i64 t1) := (hc15 _ _ (by go_size)).trans (by go_simp)
        have c15_turned_1 : w15.cell? ⟨w14.heap.size, 1, none⟩ = some (.int .i64 t2) := (hc15 _ _ (by go_size)).trans (by go_simp)
        have c15_turned_2 : w15.cell? ⟨w14.heap.size, 2, none⟩ = some (.int .i64 t3) := (hc15 _ _ (by go_size)).trans (by go_simp)
        have c15_turned_3 : w15.cell? ⟨w14.heap.size, 3, none⟩ = some (.int .i64 t4) := (hc15 _ _ (by go_size)).trans (by go_simp)
        have q_turned : w14.heap.size < w15.heap.size := by omega
        have R15_wa := Lib.hid (TRow.below R14_wa.out B15)
        clear R14_wa
        have R15_model := Lib.hid (TRow.below R14_model.out B15)
        clear R14_model
        have R15_gl := Lib.hid (TRow.below R14_gl.out B15)
        clear R14_gl
        have R15_value := Lib.hid (TRow.below R14_value.out B15)
        clear R14_value
        have BW15 : Below w.heap.size w w15 := BW14.trans (B15.mono BW14.size)
        clear hc15 hf15 hb15 hd15 B15 c14_an_0 c14_an_1 c14_q_0 c14_q_1 c14_q_2 c14_q_3 c14_m_0 c14_m_1 c14_m_2 c14_m_3 c14_r_0 c14_r_1 c14_r_2 c14_r_3 c14_by_0 c14_by_1 c14_mirror_0 c14_mirror_1 c14_mirror_2 c14_mirror_3 c14_due_0 c14_due_1 c14_due_2 c14_due_3 BW14
        go_upto_region 29 with fail
        have hb16 : Below w15.heap.size w15 (w15.alloc (Obj.cells #[.int .i64 t1, .int .i64 t2, .int .i64 t3, .int .i64 t4] 31)) := by (repeat' (first | (with_reducible exact Below.refl _ _) | (with_reducible assumption) | (with_reducible refine Below.alloc ?_ ?_ _) | (with_reducible refine Below.drew ?_) | (with_reducible refine below_drewN ?_ _) | (with_reducible refine Below.setCell ?_ ?_ _) | (with_reducible refine below_call ?_ ?_ (by assumption)) | go_size))
        have c16_number_0 : (w15.alloc (Obj.cells #[.int .i64 t1, .int .i64 t2, .int .i64 t3, .int .i64 t4] 31)).cell? ⟨w15.heap.size, 0, none⟩ = some (.int .i64 t1) := by go_simp
        have c16_number_1 : (w15.alloc (Obj.cells #[.int .i64 t1, .int .i64 t2, .int .i64 t3, .int .i64 t4] 31)).cell? ⟨w15.heap.size, 1, none⟩ = some (.int .i64 t2) := by go_simp
        have c16_number_2 : (w15.alloc (Obj.cells #[.int .i64 t1, .int .i64 t2, .int .i64 t3, .int .i64 t4] 31)).cell? ⟨w15.heap.size, 2, none⟩ = some (.int .i64 t3) := by go_simp
        have c16_number_3 : (w15.alloc (Obj.cells #[.int .i64 t1, .int .i64 t2, .int .i64 t3, .int .i64 t4] 31)).cell? ⟨w15.heap.size, 3, none⟩ = some (.int .i64 t4) := by go_simp
        have q_number : w15.heap.size < (w15.alloc (Obj.cells #[.int .i64 t1, .int .i64 t2, .int .i64 t3, .int .i64 t4] 31)).heap.size := by go_size
        generalize (w15.alloc (Obj.cells #[.int .i64 t1, .int .i64 t2, .int .i64 t3, .int .i64 t4] 31)) = w16 at *
        obtain ⟨hd16, -⟩ := bcell hb16
        have hz16 := hb16.size
        have c16_an_0 : w16.cell? ⟨w.heap.size + 1, 0, none⟩ = some (.int .i64 n3) := (hd16 _ _ q_an).trans c15_an_0
        have c16_an_1 : w16.cell? ⟨w.heap.size + 1, 1, none⟩ = some (.int .i64 d3) := (hd16 _ _ q_an).trans c15_an_1
        have c16_q_0 : w16.cell? ⟨w.heap.size + 1 + 1, 0, none⟩ = some (.int .i64 n5) := (hd16 _ _ q_q).trans c15_q_0
        have c16_q_1 : w16.cell? ⟨w.heap.size + 1 + 1, 1, none⟩ = some (.int .i64 d5) := (hd16 _ _ q_q).trans c15_q_1
        have c16_q_2 : w16.cell? ⟨w.heap.size + 1 + 1, 2, none⟩ = some (.int .i64 x5) := (hd16 _ _ q_q).trans c15_q_2
        have c16_q_3 : w16.cell? ⟨w.heap.size + 1 + 1, 3, none⟩ = some (.int .i64 y5) := (hd16 _ _ q_q).trans c15_q_3
        have c16_m_0 : w16.cell? ⟨w.heap.size + 1 + 1 + 1, 0, none⟩ = some (.int .i64 n6) := (hd16 _ _ q_m).trans c15_m_0
        have c16_m_1 : w16.cell? ⟨w.heap.size + 1 + 1 + 1, 1, none⟩ = some (.int .i64 d6) := (hd16 _ _ q_m).trans c15_m_1
        have c16_m_2 : w16.cell? ⟨w.heap.size + 1 + 1 + 1, 2, none⟩ = some (.int .i64 x6) := (hd16 _ _ q_m).trans c15_m_2
        have c16_m_3 : w16.cell? ⟨w.heap.size + 1 + 1 + 1, 3, none⟩ = some (.int .i64 y6) := (hd16 _ _ q_m).trans c15_m_3
        have c16_r_0 : w16.cell? ⟨w.heap.size + 1 + 1 + 1 + 1, 0, none⟩ = some (.int .i64 n7) := (hd16 _ _ q_r).trans c15_r_0
        have c16_r_1 : w16.cell? ⟨w.heap.size + 1 + 1 + 1 + 1, 1, none⟩ = some (.int .i64 d7) := (hd16 _ _ q_r).trans c15_r_1
        have c16_r_2 : w16.cell? ⟨w.heap.size + 1 + 1 + 1 + 1, 2, none⟩ = some (.int .i64 x7) := (hd16 _ _ q_r).trans c15_r_2
        have c16_r_3 : w16.cell? ⟨w.heap.size + 1 + 1 + 1 + 1, 3, none⟩ = some (.int .i64 y7) := (hd16 _ _ q_r).trans c15_r_3
        have c16_by_0 : w16.cell? ⟨w.heap.size + 1 + 1 + 1 + 1 + 1, 0, none⟩ = some (.int .i64 n8) := (hd16 _ _ q_by).trans c15_by_0
        have c16_by_1 : w16.cell? ⟨w.heap.size + 1 + 1 + 1 + 1 + 1, 1, none⟩ = some (.int .i64 d8) := (hd16 _ _ q_by).trans c15_by_1
        have c16_mirror_0 : w16.cell? ⟨w12.heap.size, 0, none⟩ = some (.int .i64 m1) := (hd16 _ _ q_mirror).trans c15_mirror_0
        have c16_mirror_1 : w16.cell? ⟨w12.heap.size, 1, none⟩ = some (.int .i64 m2) := (hd16 _ _ q_mirror).trans c15_mirror_1
        have c16_mirror_2 : w16.cell? ⟨w12.heap.size, 2, none⟩ = some (.int .i64 m3) := (hd16 _ _ q_mirror).trans c15_mirror_2
        have c16_mirror_3 : w16.cell? ⟨w12.heap.size, 3, none⟩ = some (.int .i64 m4) := (hd16 _ _ q_mirror).trans c15_mirror_3
        have c16_due_0 : w16.cell? ⟨w13.heap.size, 0, none⟩ = some (.int .i64 m1) := (hd16 _ _ q_due).trans c15_due_0
        have c16_due_1 : w16.cell? ⟨w13.heap.size, 1, none⟩ = some (.int .i64 m2) := (hd16 _ _ q_due).trans c15_due_1
        have c16_due_2 : w16.cell? ⟨w13.heap.size, 2, none⟩ = some (.int .i64 m3) := (hd16 _ _ q_due).trans c15_due_2
        have c16_due_3 : w16.cell? ⟨w13.heap.size, 3, none⟩ = some (.int .i64 m4) := (hd16 _ _ q_due).trans c15_due_3
        have c16_turned_0 : w16.cell? ⟨w14.heap.size, 0, none⟩ = some (.int .i64 t1) := (hd16 _ _ q_turned).trans c15_turned_0
        have c16_turned_1 : w16.cell? ⟨w14.heap.size, 1, none⟩ = some (.int .i64 t2) := (hd16 _ _ q_turned).trans c15_turned_1
        have c16_turned_2 : w16.cell? ⟨w14.heap.size, 2, none⟩ = some (.int .i64 t3) := (hd16 _ _ q_turned).trans c15_turned_2
        have c16_turned_3 : w16.cell? ⟨w14.heap.size, 3, none⟩ = some (.int .i64 t4) := (hd16 _ _ q_turned).trans c15_turned_3
        replace q_an : w.heap.size + 1 < w16.heap.size := by omega
        replace q_q : w.heap.size + 1 + 1 < w16.heap.size := by omega
        replace q_m : w.heap.size + 1 + 1 + 1 < w16.heap.size := by omega
        replace q_r : w.heap.size + 1 + 1 + 1 + 1 < w16.heap.size := by omega
        replace q_by : w.heap.size + 1 + 1 + 1 + 1 + 1 < w16.heap.size := by omega
        replace q_mirror : w12.heap.size < w16.heap.size := by omega
        replace q_due : w13.heap.size < w16.heap.size := by omega
        replace q_turned : w14.heap.size < w16.heap.size := by omega
        have R16_wa := Lib.hid (TRow.below R15_wa.out hb16)
        clear R15_wa
        have R16_model := Lib.hid (TRow.below R15_model.out hb16)
        clear R15_model
        have R16_gl := Lib.hid (TRow.below R15_gl.out hb16)
        clear R15_gl
        have R16_value := Lib.hid (TRow.below R15_value.out hb16)
        clear R15_value
        have BW16 : Below w.heap.size w w16 := BW15.trans (hb16.mono BW15.size)
        clear hb16 hd16 c15_an_0 c15_an_1 c15_q_0 c15_q_1 c15_q_2 c15_q_3 c15_m_0 c15_m_1 c15_m_2 c15_m_3 c15_r_0 c15_r_1 c15_r_2 c15_r_3 c15_by_0 c15_by_1 c15_mirror_0 c15_mirror_1 c15_mirror_2 c15_mirror_3 c15_due_0 c15_due_1 c15_due_2 c15_due_3 c15_turned_0 c15_turned_1 c15_turned_2 c15_turned_3 BW15
        go_wp2_with fail
        refine (wTurns_same WA _ _ _ _ _ R16_wa.out R16_model.out HWA.out).mono ?_
        rintro e17 w17 ⟨rfl, hb17⟩
        obtain ⟨hc17, hf17⟩ := bcell hb17
        have hz17 := hb17.size
        (try simp only [World.size_alloc, World.size_setCell, World.size_drew] at hz17)
        have B17 : Below w16.heap.size w16 w17 := Below.trans (b := _) (by (repeat' (first | (with_reducible exact Below.refl _ _) | (with_reducible assumption) | (with_reducible refine Below.alloc ?_ ?_ _) | (with_reducible refine Below.drew ?_) | (with_reducible refine below_drewN ?_ _) | (with_reducible refine Below.setCell ?_ ?_ _) | (with_reducible refine below_call ?_ ?_ (by assumption)) | go_size))) (hb17.mono (by first | omega | (simp only [World.size_alloc, World.size_setCell, World.size_drew]; omega)))
        obtain ⟨hd17, -⟩ := bcell B17
        have c17_an_0 : w17.cell? ⟨w.heap.size + 1, 0, none⟩ = some (.int .i64 n3) := (hd17 _ _ q_an).trans c16_an_0
        have c17_an_1 : w17.cell? ⟨w.heap.size + 1, 1, none⟩ = some (.int .i64 d3) := (hd17 _ _ q_an).trans c16_an_1
        have c17_q_0 : w17.cell? ⟨w.heap.size + 1 + 1, 0, none⟩ = some (.int .i64 n5) := (hd17 _ _ q_q).trans c16_q_0
        have c17_q_1 : w17.cell? ⟨w.heap.size + 1 + 1, 1, none⟩ = some (.int .i64 d5) := (hd17 _ _ q_q).trans c16_q_1
        have c17_q_2 : w17.cell? ⟨w.heap.size + 1 + 1, 2, none⟩ = some (.int .i64 x5) := (hd17 _ _ q_q).trans c16_q_2
        have c17_q_3 : w17.cell? ⟨w.heap.size + 1 + 1, 3, none⟩ = some (.int .i64 y5) := (hd17 _ _ q_q).trans c16_q_3
        have c17_m_0 : w17.cell? ⟨w.heap.size + 1 + 1 + 1, 0, none⟩ = some (.int .i64 n6) := (hd17 _ _ q_m).trans c16_m_0
        have c17_m_1 : w17.cell? ⟨w.heap.size + 1 + 1 + 1, 1, none⟩ = some (.int .i64 d6) := (hd17 _ _ q_m).trans c16_m_1
        have c17_m_2 : w17.cell? ⟨w.heap.size + 1 + 1 + 1, 2, none⟩ = some (.int .i64 x6) := (hd17 _ _ q_m).trans c16_m_2
        have c17_m_3 : w17.cell? ⟨w.heap.size + 1 + 1 + 1, 3, none⟩ = some (.int .i64 y6) := (hd17 _ _ q_m).trans c16_m_3
        have c17_r_0 : w17.cell? ⟨w.heap.size + 1 + 1 + 1 + 1, 0, none⟩ = some (.int .i64 n7) := (hd17 _ _ q_r).trans c16_r_0
        have c17_r_1 : w17.cell? ⟨w.heap.size + 1 + 1 + 1 + 1, 1, none⟩ = some (.int .i64 d7) := (hd17 _ _ q_r).trans c16_r_1
        have c17_r_2 : w17.cell? ⟨w.heap.size + 1 + 1 + 1 + 1, 2, none⟩ = some (.int .i64 x7) := (hd17 _ _ q_r).trans c16_r_2
        have c17_r_3 : w17.cell? ⟨w.heap.size + 1 + 1 + 1 + 1, 3, none⟩ = some (.int .i64 y7) := (hd17 _ _ q_r).trans c16_r_3
        have c17_by_0 : w17.cell? ⟨w.heap.size + 1 + 1 + 1 + 1 + 1, 0, none⟩ = some (.int .i64 n8) := (hd17 _ _ q_by).trans c16_by_0
        have c17_by_1 : w17.cell? ⟨w.heap.size + 1 + 1 + 1 + 1 + 1, 1, none⟩ = some (.int .i64 d8) := (hd17 _ _ q_by).trans c16_by_1
        have c17_mirror_0 : w17.cell? ⟨w12.heap.size, 0, none⟩ = some (.int .i64 m1) := (hd17 _ _ q_mirror).trans c16_mirror_0
        have c17_mirror_1 : w17.cell? ⟨w12.heap.size, 1, none⟩ = some (.int .i64 m2) := (hd17 _ _ q_mirror).trans c16_mirror_1
        have c17_mirror_2 : w17.cell? ⟨w12.heap.size, 2, none⟩ = some (.int .i64 m3) := (hd17 _ _ q_mirror).trans c16_mirror_2
        have c17_mirror_3 : w17.cell? ⟨w12.heap.size, 3, none⟩ = some (.int .i64 m4) := (hd17 _ _ q_mirror).trans c16_mirror_3
        have c17_due_0 : w17.cell? ⟨w13.heap.size, 0, none⟩ = some (.int .i64 m1) := (hd17 _ _ q_due).trans c16_due_0
        have c17_due_1 : w17.cell? ⟨w13.heap.size, 1, none⟩ = some (.int .i64 m2) := (hd17 _ _ q_due).trans c16_due_1
        have c17_due_2 : w17.cell? ⟨w13.heap.size, 2, none⟩ = some (.int .i64 m3) := (hd17 _ _ q_due).trans c16_due_2
        have c17_due_3 : w17.cell? ⟨w13.heap.size, 3, none⟩ = some (.int .i64 m4) := (hd17 _ _ q_due).trans c16_due_3
        have c17_turned_0 : w17.cell? ⟨w14.heap.size, 0, none⟩ = some (.int .i64 t1) := (hd17 _ _ q_turned).trans c16_turned_0
        have c17_turned_1 : w17.cell? ⟨w14.heap.size, 1, none⟩ = some (.int .i64 t2) := (hd17 _ _ q_turned).trans c16_turned_1
        have c17_turned_2 : w17.cell? ⟨w14.heap.size, 2, none⟩ = some (.int .i64 t3) := (hd17 _ _ q_turned).trans c16_turned_2
        have c17_turned_3 : w17.cell? ⟨w14.heap.size, 3, none⟩ = some (.int .i64 t4) := (hd17 _ _ q_turned).trans c16_turned_3
        have c17_number_0 : w17.cell? ⟨w15.heap.size, 0, none⟩ = some (.int .i64 t1) := (hd17 _ _ q_number).trans c16_number_0
        have c17_number_1 : w17.cell? ⟨w15.heap.size, 1, none⟩ = some (.int .i64 t2) := (hd17 _ _ q_number).trans c16_number_1
        have c17_number_2 : w17.cell? ⟨w15.heap.size, 2, none⟩ = some (.int .i64 t3) := (hd17 _ _ q_number).trans c16_number_2
        have c17_number_3 : w17.cell? ⟨w15.heap.size, 3, none⟩ = some (.int .i64 t4) := (hd17 _ _ q_number).trans c16_number_3
        replace q_an : w.heap.size + 1 < w17.heap.size := by omega
        replace q_q : w.heap.size + 1 + 1 < w17.heap.size := by omega
        replace q_m : w.heap.size + 1 + 1 + 1 < w17.heap.size := by omega
        replace q_r : w.heap.size + 1 + 1 + 1 + 1 < w17.heap.size := by omega
        replace q_by : w.heap.size + 1 + 1 + 1 + 1 + 1 < w17.heap.size := by omega
        replace q_mirror : w12.heap.size < w17.heap.size := by omega
        replace q_due : w13.heap.size < w17.heap.size := by omega
        replace q_turned : w14.heap.size < w17.heap.size := by omega
        replace q_number : w15.heap.size < w17.heap.size := by omega
        have R17_wa := Lib.hid (TRow.below R16_wa.out B17)
        clear R16_wa
        have R17_model := Lib.hid (TRow.below R16_model.out B17)
        clear R16_model
        have R17_gl := Lib.hid (TRow.below R16_gl.out B17)
        clear R16_gl
        have R17_value := Lib.hid (TRow.below R16_value.out B17)
        clear R16_value
        have BW17 : Below w.heap.size w w17 := BW16.trans (B17.mono BW16.size)
        clear hc17 hf17 hb17 hd17 B17 c16_an_0 c16_an_1 c16_q_0 c16_q_1 c16_q_2 c16_q_3 c16_m_0 c16_m_1 c16_m_2 c16_m_3 c16_r_0 c16_r_1 c16_r_2 c16_r_3 c16_by_0 c16_by_1 c16_mirror_0 c16_mirror_1 c16_mirror_2 c16_mirror_3 c16_due_0 c16_due_1 c16_due_2 c16_due_3 c16_turned_0 c16_turned_1 c16_turned_2 c16_turned_3 c16_number_0 c16_number_1 c16_number_2 c16_number_3 BW16
        go_wp2_with fail
        refine (wTurns_same GL _ _ _ _ _ R17_gl.out R17_value.out HGL.out).mono ?_
        rintro e18 w18 ⟨rfl, hb18⟩
        obtain ⟨hc18, hf18⟩ := bcell hb18
        have hz18 := hb18.size
        (try simp only [World.size_alloc, World.size_setCell, World.size_drew] at hz18)
        have B18 : Below w17.heap.size w17 w18 := Below.trans (b := _) (by (repeat' (first | (with_reducible exact Below.refl _ _) | (with_reducible assumption) | (with_reducible refine Below.alloc ?_ ?_ _) | (with_reducible refine Below.drew ?_) | (with_reducible refine below_drewN ?_ _) | (with_reducible refine Below.setCell ?_ ?_ _) | (with_reducible refine below_call ?_ ?_ (by assumption)) | go_size))) (hb18.mono (by first | omega | (simp only [World.size_alloc, World.size_setCell, World.size_drew]; omega)))
        obtain ⟨hd18, -⟩ := bcell B18
        have c18_an_0 : w18.cell? ⟨w.heap.size + 1, 0, none⟩ = some (.int .i64 n3) := (hd18 _ _ q_an).trans c17_an_0
        have c18_an_1 : w18.cell? ⟨w.heap.size + 1, 1, none⟩ = some (.int .i64 d3) := (hd18 _ _ q_an).trans c17_an_1
        have c18_q_0 : w18.cell? ⟨w.heap.size + 1 + 1, 0, none⟩ = some (.int .i64 n5) := (hd18 _ _ q_q).trans c17_q_0
        have c18_q_1 : w18.cell? ⟨w.heap.size + 1 + 1, 1, none⟩ = some (.int .i64 d5) := (hd18 _ _ q_q).trans c17_q_1
        have c18_q_2 : w18.cell? ⟨w.heap.size + 1 + 1, 2, none⟩ = some (.int .i64 x5) := (hd18 _ _ q_q).trans c17_q_2
        have c18_q_3 : w18.cell? ⟨w.heap.size + 1 + 1, 3, none⟩ = some (.int .i64 y5) := (hd18 _ _ q_q).trans c17_q_3
        have c18_m_0 : w18.cell? ⟨w.heap.size + 1 + 1 + 1, 0, none⟩ = some (.int .i64 n6) := (hd18 _ _ q_m).trans c17_m_0
        have c18_m_1 : w18.cell? ⟨w.heap.size + 1 + 1 + 1, 1, none⟩ = some (.int .i64 d6) := (hd18 _ _ q_m).trans c17_m_1
        have c18_m_2 : w18.cell? ⟨w.heap.size + 1 + 1 + 1, 2, none⟩ = some (.int .i64 x6) := (hd18 _ _ q_m).trans c17_m_2
        have c18_m_3 : w18.cell? ⟨w.heap.size + 1 + 1 + 1, 3, none⟩ = some (.int .i64 y6) := (hd18 _ _ q_m).trans c17_m_3
        have c18_r_0 : w18.cell? ⟨w.heap.size + 1 + 1 + 1 + 1, 0, none⟩ = some (.int .i64 n7) := (hd18 _ _ q_r).trans c17_r_0
        have c18_r_1 : w18.cell? ⟨w.heap.size + 1 + 1 + 1 + 1, 1, none⟩ = some (.int .i64 d7) := (hd18 _ _ q_r).trans c17_r_1
        have c18_r_2 : w18.cell? ⟨w.heap.size + 1 + 1 + 1 + 1, 2, none⟩ = some (.int .i64 x7) := (hd18 _ _ q_r).trans c17_r_2
        have c18_r_3 : w18.cell? ⟨w.heap.size + 1 + 1 + 1 + 1, 3, none⟩ = some (.int .i64 y7) := (hd18 _ _ q_r).trans c17_r_3
        have c18_by_0 : w18.cell? ⟨w.heap.size + 1 + 1 + 1 + 1 + 1, 0, none⟩ = some (.int .i64 n8) := (hd18 _ _ q_by).trans c17_by_0
        have c18_by_1 : w18.cell? ⟨w.heap.size + 1 + 1 + 1 + 1 + 1, 1, none⟩ = some (.int .i64 d8) := (hd18 _ _ q_by).trans c17_by_1
        have c18_mirror_0 : w18.cell? ⟨w12.heap.size, 0, none⟩ = some (.int .i64 m1) := (hd18 _ _ q_mirror).trans c17_mirror_0
        have c18_mirror_1 : w18.cell? ⟨w12.heap.size, 1, none⟩ = some (.int .i64 m2) := (hd18 _ _ q_mirror).trans c17_mirror_1
        have c18_mirror_2 : w18.cell? ⟨w12.heap.size, 2, none⟩ = some (.int .i64 m3) := (hd18 _ _ q_mirror).trans c17_mirror_2
        have c18_mirror_3 : w18.cell? ⟨w12.heap.size, 3, none⟩ = some (.int .i64 m4) := (hd18 _ _ q_mirror).trans c17_mirror_3
        have c18_due_0 : w18.cell? ⟨w13.heap.size, 0, none⟩ = some (.int .i64 m1) := (hd18 _ _ q_due).trans c17_due_0
        have c18_due_1 : w18.cell? ⟨w13.heap.size, 1, none⟩ = some (.int .i64 m2) := (hd18 _ _ q_due).trans c17_due_1
        have c18_due_2 : w18.cell? ⟨w13.heap.size, 2, none⟩ = some (.int .i64 m3) := (hd18 _ _ q_due).trans c17_due_2
        have c18_due_3 : w18.cell? ⟨w13.heap.size, 3, none⟩ = some (.int .i64 m4) := (hd18 _ _ q_due).trans c17_due_3
        have c18_turned_0 : w18.cell? ⟨w14.heap.size, 0, none⟩ = some (.int .i64 t1) := (hd18 _ _ q_turned).trans c17_turned_0
        have c18_turned_1 : w18.cell? ⟨w14.heap.size, 1, none⟩ = some (.int .i64 t2) := (hd18 _ _ q_turned).trans c17_turned_1
        have c18_turned_2 : w18.cell? ⟨w14.heap.size, 2, none⟩ = some (.int .i64 t3) := (hd18 _ _ q_turned).trans c17_turned_2
        have c18_turned_3 : w18.cell? ⟨w14.heap.size, 3, none⟩ = some (.int .i64 t4) := (hd18 _ _ q_turned).trans c17_turned_3
        have c18_number_0 : w18.cell? ⟨w15.heap.size, 0, none⟩ = some (.int .i64 t1) := (hd18 _ _ q_number).trans c17_number_0
        have c18_number_1 : w18.cell? ⟨w15.heap.size, 1, none⟩ = some (.int .i64 t2) := (hd18 _ _ q_number).trans c17_number_1
        have c18_number_2 : w18.cell? ⟨w15.heap.size, 2, none⟩ = some (.int .i64 t3) := (hd18 _ _ q_number).trans c17_number_2
        have c18_number_3 : w18.cell? ⟨w15.heap.size, 3, none⟩ = some (.int .i64 t4) := (hd18 _ _ q_number).trans c17_number_3
        replace q_an : w.heap.size + 1 < w18.heap.size := by omega
        replace q_q : w.heap.size + 1 + 1 < w18.heap.size := by omega
        replace q_m : w.heap.size + 1 + 1 + 1 < w18.heap.size := by omega
        replace q_r : w.heap.size + 1 + 1 + 1 + 1 < w18.heap.size := by omega
        replace q_by : w.heap.size + 1 + 1 + 1 + 1 + 1 < w18.heap.size := by omega
        replace q_mirror : w12.heap.size < w18.heap.size := by omega
        replace q_due : w13.heap.size < w18.heap.size := by omega
        replace q_turned : w14.heap.size < w18.heap.size := by omega
        replace q_number : w15.heap.size < w18.heap.size := by omega
        have R18_wa := Lib.hid (TRow.below R17_wa.out B18)
        clear R17_wa
        have R18_model := Lib.hid (TRow.below R17_model.out B18)
        clear R17_model
        have R18_gl := Lib.hid (TRow.below R17_gl.out B18)
        clear R17_gl
        have R18_value := Lib.hid (TRow.below R17_value.out B18)
        clear R17_value
        have BW18 : Below w.heap.size w w18 := BW17.trans (B18.mono BW17.size)
        clear hc18 hf18 hb18 hd18 B18 c17_an_0 c17_an_1 c17_q_0 c17_q_1 c17_q_2 c17_q_3 c17_m_0 c17_m_1 c17_m_2 c17_m_3 c17_r_0 c17_r_1 c17_r_2 c17_r_3 c17_by_0 c17_by_1 c17_mirror_0 c17_mirror_1 c17_mirror_2 c17_mirror_3 c17_due_0 c17_due_1 c17_due_2 c17_due_3 c17_turned_0 c17_turned_1 c17_turned_2 c17_turned_3 c17_number_0 c17_number_1 c17_number_2 c17_number_3 BW17
        go_wp2_with fail
        refine (isSeen_is n6 d6 x6 y6 F7.out.1 _).mono ?_
        rintro e19 w19 ⟨rfl, hb19⟩
        obtain ⟨hc19, hf19⟩ := bcell hb19
        have hz19 := hb19.size
        (try simp only [World.size_alloc, World.size_setCell, World.size_drew] at hz19)
        have B19 : Below w18.heap.size w18 w19 := Below.trans (b := _) (by (repeat' (first | (with_reducible exact Below.refl _ _) | (with_reducible assumption) | (with_reducible refine Below.alloc ?_ ?_ _) | (with_reducible refine Below.drew ?_) | (with_reducible refine below_drewN ?_ _) | (with_reducible refine Below.setCell ?_ ?_ _) | (with_reducible refine below_call ?_ ?_ (by assumption)) | go_size))) (hb19.mono (by first | omega | (simp only [World.size_alloc, World.size_setCell, World.size_drew]; omega)))
        obtain ⟨hd19, -⟩ := bcell B19
        have c19_an_0 : w19.cell? ⟨w.heap.size + 1, 0, none⟩ = some (.int .i64 n3) := (hd19 _ _ q_an).trans c18_an_0
        have c19_an_1 : w19.cell? ⟨w.heap.size + 1, 1, none⟩ = some (.int .i64 d3) := (hd19 _ _ q_an).trans c18_an_1
        have c19_q_0 : w19.cell? ⟨w.heap.size + 1 + 1, 0, none⟩ = some (.int .i64 n5) := (hd19 _ _ q_q).trans c18_q_0
        have c19_q_1 : w19.cell? ⟨w.heap.size + 1 + 1, 1, none⟩ = some (.int .i64 d5) := (hd19 _ _ q_q).trans c18_q_1
        have c19_q_2 : w19.cell? ⟨w.heap.size + 1 + 1, 2, none⟩ = some (.int .i64 x5) := (hd19 _ _ q_q).trans c18_q_2
        have c19_q_3 : w19.cell? ⟨w.heap.size + 1 + 1, 3, none⟩ = some (.int .i64 y5) := (hd19 _ _ q_q).trans c18_q_3
        have c19_m_0 : w19.cell? ⟨w.heap.size + 1 + 1 + 1, 0, none⟩ = some (.int .i64 n6) := (hd19 _ _ q_m).trans c18_m_0
        have c19_m_1 : w19.cell? ⟨w.heap.size + 1 + 1 + 1, 1, none⟩ = some (.int .i64 d6) := (hd19 _ _ q_m).trans c18_m_1
        have c19_m_2 : w19.cell? ⟨w.heap.size + 1 + 1 + 1, 2, none⟩ = some (.int .i64 x6) := (hd19 _ _ q_m).trans c18_m_2
        have c19_m_3 : w19.cell? ⟨w.heap.size + 1 + 1 + 1, 3, none⟩ = some (.int .i64 y6) := (hd19 _ _ q_m).trans c18_m_3
        have c19_r_0 : w19.cell? ⟨w.heap.size + 1 + 1 + 1 + 1, 0, none⟩ = some (.int .i64 n7) := (hd19 _ _ q_r).trans c18_r_0
        have c19_r_1 : w19.cell? ⟨w.heap.size + 1 + 1 + 1 + 1, 1, none⟩ = some (.int .i64 d7) := (hd19 _ _ q_r).trans c18_r_1
        have c19_r_2 : w19.cell? ⟨w.heap.size + 1 + 1 + 1 + 1, 2, none⟩ = some (.int .i64 x7) := (hd19 _ _ q_r).trans c18_r_2
        have c19_r_3 : w19.cell? ⟨w.heap.size + 1 + 1 + 1 + 1, 3, none⟩ = some (.int .i64 y7) := (hd19 _ _ q_r).trans c18_r_3
        have c19_by_0 : w19.cell? ⟨w.heap.size + 1 + 1 + 1 + 1 + 1, 0, none⟩ = some (.int .i64 n8) := (hd19 _ _ q_by).trans c18_by_0
        have c19_by_1 : w19.cell? ⟨w.heap.size + 1 + 1 + 1 + 1 + 1, 1, none⟩ = some (.int .i64 d8) := (hd19 _ _ q_by).trans c18_by_1
        have c19_mirror_0 : w19.cell? ⟨w12.heap.size, 0, none⟩ = some (.int .i64 m1) := (hd19 _ _ q_mirror).trans c18_mirror_0
        have c19_mirror_1 : w19.cell? ⟨w12.heap.size, 1, none⟩ = some (.int .i64 m2) := (hd19 _ _ q_mirror).trans c18_mirror_1
        have c19_mirror_2 : w19.cell? ⟨w12.heap.size, 2, none⟩ = some (.int .i64 m3) := (hd19 _ _ q_mirror).trans c18_mirror_2
        have c19_mirror_3 : w19.cell? ⟨w12.heap.size, 3, none⟩ = some (.int .i64 m4) := (hd19 _ _ q_mirror).trans c18_mirror_3
        have c19_due_0 : w19.cell? ⟨w13.heap.size, 0, none⟩ = some (.int .i64 m1) := (hd19 _ _ q_due).trans c18_due_0
        have c19_due_1 : w19.cell? ⟨w13.heap.size, 1, none⟩ = some (.int .i64 m2) := (hd19 _ _ q_due).trans c18_due_1
        have c19_due_2 : w19.cell? ⟨w13.heap.size, 2, none⟩ = some (.int .i64 m3) := (hd19 _ _ q_due).trans c18_due_2
        have c19_due_3 : w19.cell? ⟨w13.heap.size, 3, none⟩ = some (.int .i64 m4) := (hd19 _ _ q_due).trans c18_due_3
        have c19_turned_0 : w19.cell? ⟨w14.heap.size, 0, none⟩ = some (.int .i64 t1) := (hd19 _ _ q_turned).trans c18_turned_0
        have c19_turned_1 : w19.cell? ⟨w14.heap.size, 1, none⟩ = some (.int .i64 t2) := (hd19 _ _ q_turned).trans c18_turned_1
        have c19_turned_2 : w19.cell? ⟨w14.heap.size, 2, none⟩ = some (.int .i64 t3) := (hd19 _ _ q_turned).trans c18_turned_2
        have c19_turned_3 : w19.cell? ⟨w14.heap.size, 3, none⟩ = some (.int .i64 t4) := (hd19 _ _ q_turned).trans c18_turned_3
        have c19_number_0 : w19.cell? ⟨w15.heap.size, 0, none⟩ = some (.int .i64 t1) := (hd19 _ _ q_number).trans c18_number_0
        have c19_number_1 : w19.cell? ⟨w15.heap.size, 1, none⟩ = some (.int .i64 t2) := (hd19 _ _ q_number).trans c18_number_1
        have c19_number_2 : w19.cell? ⟨w15.heap.size, 2, none⟩ = some (.int .i64 t3) := (hd19 _ _ q_number).trans c18_number_2
        have c19_number_3 : w19.cell? ⟨w15.heap.size, 3, none⟩ = some (.int .i64 t4) := (hd19 _ _ q_number).trans c18_number_3
        replace q_an : w.heap.size + 1 < w19.heap.size := by omega
        replace q_q : w.heap.size + 1 + 1 < w19.heap.size := by omega
        replace q_m : w.heap.size + 1 + 1 + 1 < w19.heap.size := by omega
        replace q_r : w.heap.size + 1 + 1 + 1 + 1 < w19.heap.size := by omega
        replace q_by : w.heap.size + 1 + 1 + 1 + 1 + 1 < w19.heap.size := by omega
        replace q_mirror : w12.heap.size < w19.heap.size := by omega
        replace q_due : w13.heap.size < w19.heap.size := by omega
        replace q_turned : w14.heap.size < w19.heap.size := by omega
        replace q_number : w15.heap.size < w19.heap.size := by omega
        have R19_wa := Lib.hid (TRow.below R18_wa.out B19)
        clear R18_wa
        have R19_model := Lib.hid (TRow.below R18_model.out B19)
        clear R18_model
        have R19_gl := Lib.hid (TRow.below R18_gl.out B19)
        clear R18_gl
        have R19_value := Lib.hid (TRow.below R18_value.out B19)
        clear R18_value
        have BW19 : Below w.heap.size w w19 := BW18.trans (B19.mono BW18.size)
        clear hc19 hf19 hb19 hd19 B19 c18_an_0 c18_an_1 c18_q_0 c18_q_1 c18_q_2 c18_q_3 c18_m_0 c18_m_1 c18_m_2 c18_m_3 c18_r_0 c18_r_1 c18_r_2 c18_r_3 c18_by_0 c18_by_1 c18_mirror_0 c18_mirror_1 c18_mirror_2 c18_mirror_3 c18_due_0 c18_due_1 c18_due_2 c18_due_3 c18_turned_0 c18_turned_1 c18_turned_2 c18_turned_3 c18_number_0 c18_number_1 c18_number_2 c18_number_3 BW18
        clear R19_model
        clear R19_value
        clear q_due c19_due_0 c19_due_1 c19_due_2 c19_due_3
        clear q_number c19_number_0 c19_number_1 c19_number_2 c19_number_3
        go_upto_if 277 with fail
        go_cut [] from 999 to 999 (fun wx => Below w19.heap.size w19 wx)
        case first =>
          as_aux_lemma =>
            cases wo
            · go_wp2_with fail
              go_meet
              case rel => exact Below.refl _ _
            · obtain ⟨hh, hl, hr, hall⟩ := F5.out rfl
              have HR := Lib.hid hr
              have HA := Lib.hid hall
              have hw1 : IntKind.i64.wrap (a2 - 1) = a2 - 1 := by rw [IntKind.wrap_i64]; omega
              have hb : (WA.length : Int) ≤ 23 := by omega
              have hne : ((WA.length : Int) != a2 - 1) = false := by rw [hl]; simp
              clear hl hr hall
              go_wp2_with fail
              refine (wRises_yes WA _ _ _ R19_wa.out HWA.out HR.out).mono ?_
              rintro e20 w20 ⟨rfl, hb20⟩
              obtain ⟨hc20, hf20⟩ := bcell hb20
              have hz20 := hb20.size
              (try simp only [World.size_alloc, World.size_setCell, World.size_drew] at hz20)
              have B20 : Below w19.heap.size w19 w20 := Below.trans (b := _) (by (repeat' (first | (with_reducible exact Below.refl _ _) | (with_reducible assumption) | (with_reducible refine Below.alloc ?_ ?_ _) | (with_reducible refine Below.drew ?_) | (with_reducible refine below_drewN ?_ _) | (with_reducible refine Below.setCell ?_ ?_ _) | (with_reducible refine below_call ?_ ?_ (by assumption)) | go_size))) (hb20.mono (by first | omega | (simp only [World.size_alloc, World.size_setCell, World.size_drew]; omega)))
              obtain ⟨hd20, -⟩ := bcell B20
              have c20_an_0 : w20.cell? ⟨w.heap.size + 1, 0, none⟩ = some (.int .i64 n3) := (hd20 _ _ q_an).trans c19_an_0
              have c20_an_1 : w20.cell? ⟨w.heap.size + 1, 1, none⟩ = some (.int .i64 d3) := (hd20 _ _ q_an).trans c19_an_1
              have c20_q_0 : w20.cell? ⟨w.heap.size + 1 + 1, 0, none⟩ = some (.int .i64 n5) := (hd20 _ _ q_q).trans c19_q_0
              have c20_q_1 : w20.cell? ⟨w.heap.size + 1 + 1, 1, none⟩ = some (.int .i64 d5) := (hd20 _ _ q_q).trans c19_q_1
              have c20_q_2 : w20.cell? ⟨w.heap.size + 1 + 1, 2, none⟩ = some (.int .i64 x5) := (hd20 _ _ q_q).trans c19_q_2
              have c20_q_3 : w20.cell? ⟨w.heap.size + 1 + 1, 3, none⟩ = some (.int .i64 y5) := (hd20 _ _ q_q).trans c19_q_3
              have c20_m_0 : w20.cell? ⟨w.heap.size + 1 + 1 + 1, 0, none⟩ = some (.int .i64 n6) := (hd20 _ _ q_m).trans c19_m_0
              have c20_m_1 : w20.cell? ⟨w.heap.size + 1 + 1 + 1, 1, none⟩ = some (.int .i64 d6) := (hd20 _ _ q_m).trans c19_m_1
              have c20_m_2 : w20.cell? ⟨w.heap.size + 1 + 1 + 1, 2, none⟩ = some (.int .i64 x6) := (hd20 _ _ q_m).trans c19_m_2
              have c20_m_3 : w20.cell? ⟨w.heap.size + 1 + 1 + 1, 3, none⟩ = some (.int .i64 y6) := (hd20 _ _ q_m).trans c19_m_3
              have c20_r_0 : w20.cell? ⟨w.heap.size + 1 + 1 + 1 + 1, 0, none⟩ = some (.int .i64 n7) := (hd20 _ _ q_r).trans c19_r_0
              have c20_r_1 : w20.cell? ⟨w.heap.size + 1 + 1 + 1 + 1, 1, none⟩ = some (.int .i64 d7) := (hd20 _ _ q_r).trans c19_r_1
              have c20_r_2 : w20.cell? ⟨w.heap.size + 1 + 1 + 1 + 1, 2, none⟩ = some (.int .i64 x7) := (hd20 _ _ q_r).trans c19_r_2
              have c20_r_3 : w20.cell? ⟨w.heap.size + 1 + 1 + 1 + 1, 3, none⟩ = some (.int .i64 y7) := (hd20 _ _ q_r).trans c19_r_3
              have c20_by_0 : w20.cell? ⟨w.heap.size + 1 + 1 + 1 + 1 + 1, 0, none⟩ = some (.int .i64 n8) := (hd20 _ _ q_by).trans c19_by_0
              have c20_by_1 : w20.cell? ⟨w.heap.size + 1 + 1 + 1 + 1 + 1, 1, none⟩ = some (.int .i64 d8) := (hd20 _ _ q_by).trans c19_by_1
              have c20_mirror_0 : w20.cell? ⟨w12.heap.size, 0, none⟩ = some (.int .i64 m1) := (hd20 _ _ q_mirror).trans c19_mirror_0
              have c20_mirror_1 : w20.cell? ⟨w12.heap.size, 1, none⟩ = some (.int .i64 m2) := (hd20 _ _ q_mirror).trans c19_mirror_1
              have c20_mirror_2 : w20.cell? ⟨w12.heap.size, 2, none⟩ = some (.int .i64 m3) := (hd20 _ _ q_mirror).trans c19_mirror_2
              have c20_mirror_3 : w20.cell? ⟨w12.heap.size, 3, none⟩ = some (.int .i64 m4) := (hd20 _ _ q_mirror).trans c19_mirror_3
              have c20_turned_0 : w20.cell? ⟨w14.heap.size, 0, none⟩ = some (.int .i64 t1) := (hd20 _ _ q_turned).trans c19_turned_0
              have c20_turned_1 : w20.cell? ⟨w14.heap.size, 1, none⟩ = some (.int .i64 t2) := (hd20 _ _ q_turned).trans c19_turned_1
              have c20_turned_2 : w20.cell? ⟨w14.heap.size, 2, none⟩ = some (.int .i64 t3) := (hd20 _ _ q_turned).trans c19_turned_2
              have c20_turned_3 : w20.cell? ⟨w14.heap.size, 3, none⟩ = some (.int .i64 t4) := (hd20 _ _ q_turned).trans c19_turned_3
              replace q_an : w.heap.size + 1 < w20.heap.size := by omega
              replace q_q : w.heap.size + 1 + 1 < w20.heap.size := by omega
              replace q_m : w.heap.size + 1 + 1 + 1 < w20.heap.size := by omega
              replace q_r : w.heap.size + 1 + 1 + 1 + 1 < w20.heap.size := by omega
              replace q_by : w.heap.size + 1 + 1 + 1 + 1 + 1 < w20.heap.size := by omega
              replace q_mirror : w12.heap.size < w20.heap.size := by omega
              replace q_turned : w14.heap.size < w20.heap.size := by omega
              have R20_wa := Lib.hid (TRow.below R19_wa.out B20)
              clear R19_wa
              have R20_gl := Lib.hid (TRow.below R19_gl.out B20)
              clear R19_gl
              have BW20 : Below w.heap.size w w20 := BW19.trans (B20.mono BW19.size)
              have BX20 : Below w19.heap.size w19 w20 := B20
              clear hc20 hf20 hb20 hd20 B20 c19_an_0 c19_an_1 c19_q_0 c19_q_1 c19_q_2 c19_q_3 c19_m_0 c19_m_1 c19_m_2 c19_m_3 c19_r_0 c19_r_1 c19_r_2 c19_r_3 c19_by_0 c19_by_1 c19_mirror_0 c19_mirror_1 c19_mirror_2 c19_mirror_3 c19_turned_0 c19_turned_1 c19_turned_2 c19_turned_3 BW19
              go_wp2_with fail
              go_loopw [290] (fun i wr => ∃ k : Nat, k ≤ WA.length ∧ i = .int .i64 (k : Int) ∧ Below w20.heap.size w20 wr) (fun i _ => WA.length - (RowKit.intOf i).toNat)
              case atStart => exact ⟨0, Nat.zero_le _, rfl, Below.refl _ _⟩
              case round =>
                obtain ⟨k, hk, rfl, hb21⟩ := hrel
                obtain ⟨w21, hw21⟩ : ∃ x : World, x = wr := ⟨_, rfl⟩
                subst hw21
                have hb21' := hb21
                obtain ⟨hc21, hf21⟩ := bcell hb21
                have hz21 := hb21.size
                (try simp only [World.size_alloc, World.size_setCell, World.size_drew] at hz21)
                have B21 : Below w20.heap.size w20 w21 := Below.trans (b := _) (by (repeat' (first | (with_reducible exact Below.refl _ _) | (with_reducible assumption) | (with_reducible refine Below.alloc ?_ ?_ _) | (with_reducible refine Below.drew ?_) | (with_reducible refine below_drewN ?_ _) | (with_reducible refine Below.setCell ?_ ?_ _) | (with_reducible refine below_call ?_ ?_ (by assumption)) | go_size))) (hb21.mono (by first | omega | (simp only [World.size_alloc, World.size_setCell, World.size_drew]; omega)))
                obtain ⟨hd21, -⟩ := bcell B21
                have c21_an_0 : w21.cell? ⟨w.heap.size + 1, 0, none⟩ = some (.int .i64 n3) := (hd21 _ _ q_an).trans c20_an_0
                have c21_an_1 : w21.cell? ⟨w.heap.size + 1, 1, none⟩ = some (.int .i64 d3) := (hd21 _ _ q_an).trans c20_an_1
                have c21_q_0 : w21.cell? ⟨w.heap.size + 1 + 1, 0, none⟩ = some (.int .i64 n5) := (hd21 _ _ q_q).trans c20_q_0
                have c21_q_1 : w21.cell? ⟨w.heap.size + 1 + 1, 1, none⟩ = some (.int .i64 d5) := (hd21 _ _ q_q).trans c20_q_1
                have c21_q_2 : w21.cell? ⟨w.heap.size + 1 + 1, 2, none⟩ = some (.int .i64 x5) := (hd21 _ _ q_q).trans c20_q_2
                have c21_q_3 : w21.cell? ⟨w.heap.size + 1 + 1, 3, none⟩ = some (.int .i64 y5) := (hd21 _ _ q_q).trans c20_q_3
                have c21_m_0 : w21.cell? ⟨w.heap.size + 1 + 1 + 1, 0, none⟩ = some (.int .i64 n6) := (hd21 _ _ q_m).trans c20_m_0
                have c21_m_1 : w21.cell? ⟨w.heap.size + 1 + 1 + 1, 1, none⟩ = some (.int .i64 d6) := (hd21 _ _ q_m).trans c20_m_1
                have c21_m_2 : w21.cell? ⟨w.heap.size + 1 + 1 + 1, 2, none⟩ = some (.int .i64 x6) := (hd21 _ _ q_m).trans c20_m_2
                have c21_m_3 : w21.cell? ⟨w.heap.size + 1 + 1 + 1, 3, none⟩ = some (.int .i64 y6) := (hd21 _ _ q_m).trans c20_m_3
                have c21_r_0 : w21.cell? ⟨w.heap.size + 1 + 1 + 1 + 1, 0, none⟩ = some (.int .i64 n7) := (hd21 _ _ q_r).trans c20_r_0
                have c21_r_1 : w21.cell? ⟨w.heap.size + 1 + 1 + 1 + 1, 1, none⟩ = some (.int .i64 d7) := (hd21 _ _ q_r).trans c20_r_1
                have c21_r_2 : w21.cell? ⟨w.heap.size + 1 + 1 + 1 + 1, 2, none⟩ = some (.int .i64 x7) := (hd21 _ _ q_r).trans c20_r_2
                have c21_r_3 : w21.cell? ⟨w.heap.size + 1 + 1 + 1 + 1, 3, none⟩ = some (.int .i64 y7) := (hd21 _ _ q_r).trans c20_r_3
                have c21_by_0 : w21.cell? ⟨w.heap.size + 1 + 1 + 1 + 1 + 1, 0, none⟩ = some (.int .i64 n8) := (hd21 _ _ q_by).trans c20_by_0
                have c21_by_1 : w21.cell? ⟨w.heap.size + 1 + 1 + 1 + 1 + 1, 1, none⟩ = some (.int .i64 d8) := (hd21 _ _ q_by).trans c20_by_1
                have c21_mirror_0 : w21.cell? ⟨w12.heap.size, 0, none⟩ = some (.int .i64 m1) := (hd21 _ _ q_mirror).trans c20_mirror_0
                have c21_mirror_1 : w21.cell? ⟨w12.heap.size, 1, none⟩ = some (.int .i64 m2) := (hd21 _ _ q_mirror).trans c20_mirror_1
                have c21_mirror_2 : w21.cell? ⟨w12.heap.size, 2, none⟩ = some (.int .i64 m3) := (hd21 _ _ q_mirror).trans c20_mirror_2
                have c21_mirror_3 : w21.cell? ⟨w12.heap.size, 3, none⟩ = some (.int .i64 m4) := (hd21 _ _ q_mirror).trans c20_mirror_3
                have c21_turned_0 : w21.cell? ⟨w14.heap.size, 0, none⟩ = some (.int .i64 t1) := (hd21 _ _ q_turned).trans c20_turned_0
                have c21_turned_1 : w21.cell? ⟨w14.heap.size, 1, none⟩ = some (.int .i64 t2) := (hd21 _ _ q_turned).trans c20_turned_1
                have c21_turned_2 : w21.cell? ⟨w14.heap.size, 2, none⟩ = some (.int .i64 t3) := (hd21 _ _ q_turned).trans c20_turned_2
                have c21_turned_3 : w21.cell? ⟨w14.heap.size, 3, none⟩ = some (.int .i64 t4) := (hd21 _ _ q_turned).trans c20_turned_3
                replace q_an : w.heap.size + 1 < w21.heap.size := by omega
                replace q_q : w.heap.size + 1 + 1 < w21.heap.size := by omega
                replace q_m : w.heap.size + 1 + 1 + 1 < w21.heap.size := by omega
                replace q_r : w.heap.size + 1 + 1 + 1 + 1 < w21.heap.size := by omega
                replace q_by : w.heap.size + 1 + 1 + 1 + 1 + 1 < w21.heap.size := by omega
                replace q_mirror : w12.heap.size < w21.heap.size := by omega
                replace q_turned : w14.heap.size < w21.heap.size := by omega
                have R21_wa := Lib.hid (TRow.below R20_wa.out B21)
                clear R20_wa
                have R21_gl := Lib.hid (TRow.below R20_gl.out B21)
                clear R20_gl
                have BW21 : Below w.heap.size w w21 := BW20.trans (B21.mono BW20.size)
                have BX21 : Below w19.heap.size w19 w21 := BX20.trans (B21.mono BX20.size)
                clear BX20
                clear hc21 hf21 hb21 hd21 B21 c20_an_0 c20_an_1 c20_q_0 c20_q_1 c20_q_2 c20_q_3 c20_m_0 c20_m_1 c20_m_2 c20_m_3 c20_r_0 c20_r_1 c20_r_2 c20_r_3 c20_by_0 c20_by_1 c20_mirror_0 c20_mirror_1 c20_mirror_2 c20_mirror_3 c20_turned_0 c20_turned_1 c20_turned_2 c20_turned_3 BW20
                have i0 : (0 : Int) ≤ (k : Int) := Int.natCast_nonneg _
                by_cases hlt : k < WA.length
                · have i1 : (k : Int) < (WA.length : Int) := by omega
                  have hmem : WA.getD k (0, 0) ∈ WA := by rw [List.getD_eq_getElem?_getD, List.getElem?_eq_getElem hlt]; exact List.getElem_mem hlt
                  have ha := HA.out _ hmem
                  obtain ⟨pa, pc, hpv, hl1, hl2, hcell⟩ := TRow.cells R21_wa.out
                  simp only [Value.slice.injEq] at hpv
                  obtain ⟨hp1, -, hp2⟩ := hpv
                  subst hp1
                  subst hp2
                  obtain ⟨ga, rfl, u1, u2a, u3a, u4a⟩ := hcell k (by omega)
                  clear hcell hl1 hl2 u1
                  clear hmem
                  generalize WA.getD k (0, 0) = x at *
                  obtain ⟨p1, p2⟩ := x
                  simp only at u3a u4a ha
                  have Z1 := Lib.hid (fun W => (show Calls Try.prog 46 #[.int .i64 a2, tv p1 p2] W fun e w' => e = .returned (rv (n3, d3, true)) ∧ Below W.heap.size W w' from by have := implAngleOf_any a2 p1 p2 W; rw [ha] at this; exact this))
                  clear ha
                  go_wp2_with fail
                  refine (Z1.out _).mono ?_
                  rintro e22 w22 ⟨rfl, hb22⟩
                  obtain ⟨hc22, hf22⟩ := bcell hb22
                  have hz22 := hb22.size
                  (try simp only [World.size_alloc, World.size_setCell, World.size_drew] at hz22)
                  have B22 : Below w21.heap.size w21 w22 := Below.trans (b := _) (by (repeat' (first | (with_reducible exact Below.refl _ _) | (with_reducible assumption) | (with_reducible refine Below.alloc ?_ ?_ _) | (with_reducible refine Below.drew ?_) | (with_reducible refine below_drewN ?_ _) | (with_reducible refine Below.setCell ?_ ?_ _) | (with_reducible refine below_call ?_ ?_ (by assumption)) | go_size))) (hb22.mono (by first | omega | (simp only [World.size_alloc, World.size_setCell, World.size_drew]; omega)))
                  obtain ⟨hd22, -⟩ := bcell B22
                  have c22_an_0 : w22.cell? ⟨w.heap.size + 1, 0, none⟩ = some (.int .i64 n3) := (hd22 _ _ q_an).trans c21_an_0
                  have c22_an_1 : w22.cell? ⟨w.heap.size + 1, 1, none⟩ = some (.int .i64 d3) := (hd22 _ _ q_an).trans c21_an_1
                  have c22_q_0 : w22.cell? ⟨w.heap.size + 1 + 1, 0, none⟩ = some (.int .i64 n5) := (hd22 _ _ q_q).trans c21_q_0
                  have c22_q_1 : w22.cell? ⟨w.heap.size + 1 + 1, 1, none⟩ = some (.int .i64 d5) := (hd22 _ _ q_q).trans c21_q_1
                  have c22_q_2 : w22.cell? ⟨w.heap.size + 1 + 1, 2, none⟩ = some (.int .i64 x5) := (hd22 _ _ q_q).trans c21_q_2
                  have c22_q_3 : w22.cell? ⟨w.heap.size + 1 + 1, 3, none⟩ = some (.int .i64 y5) := (hd22 _ _ q_q).trans c21_q_3
                  have c22_m_0 : w22.cell? ⟨w.heap.size + 1 + 1 + 1, 0, none⟩ = some (.int .i64 n6) := (hd22 _ _ q_m).trans c21_m_0
                  have c22_m_1 : w22.cell? ⟨w.heap.size + 1 + 1 + 1, 1, none⟩ = some (.int .i64 d6) := (hd22 _ _ q_m).trans c21_m_1
                  have c22_m_2 : w22.cell? ⟨w.heap.size + 1 + 1 + 1, 2, none⟩ = some (.int .i64 x6) := (hd22 _ _ q_m).trans c21_m_2
                  have c22_m_3 : w22.cell? ⟨w.heap.size + 1 + 1 + 1, 3, none⟩ = some (.int .i64 y6) := (hd22 _ _ q_m).trans c21_m_3
                  have c22_r_0 : w22.cell? ⟨w.heap.size + 1 + 1 + 1 + 1, 0, none⟩ = some (.int .i64 n7) := (hd22 _ _ q_r).trans c21_r_0
                  have c22_r_1 : w22.cell? ⟨w.heap.size + 1 + 1 + 1 + 1, 1, none⟩ = some (.int .i64 d7) := (hd22 _ _ q_r).trans c21_r_1
                  have c22_r_2 : w22.cell? ⟨w.heap.size + 1 + 1 + 1 + 1, 2, none⟩ = some (.int .i64 x7) := (hd22 _ _ q_r).trans c21_r_2
                  have c22_r_3 : w22.cell? ⟨w.heap.size + 1 + 1 + 1 + 1, 3, none⟩ = some (.int .i64 y7) := (hd22 _ _ q_r).trans c21_r_3
                  have c22_by_0 : w22.cell? ⟨w.heap.size + 1 + 1 + 1 + 1 + 1, 0, none⟩ = some (.int .i64 n8) := (hd22 _ _ q_by).trans c21_by_0
                  have c22_by_1 : w22.cell? ⟨w.heap.size + 1 + 1 + 1 + 1 + 1, 1, none⟩ = some (.int .i64 d8) := (hd22 _ _ q_by).trans c21_by_1
                  have c22_mirror_0 : w22.cell? ⟨w12.heap.size, 0, none⟩ = some (.int .i64 m1) := (hd22 _ _ q_mirror).trans c21_mirror_0
                  have c22_mirror_1 : w22.cell? ⟨w12.heap.size, 1, none⟩ = some (.int .i64 m2) := (hd22 _ _ q_mirror).trans c21_mirror_1
                  have c22_mirror_2 : w22.cell? ⟨w12.heap.size, 2, none⟩ = some (.int .i64 m3) := (hd22 _ _ q_mirror).trans c21_mirror_2
                  have c22_mirror_3 : w22.cell? ⟨w12.heap.size, 3, none⟩ = some (.int .i64 m4) := (hd22 _ _ q_mirror).trans c21_mirror_3
                  have c22_turned_0 : w22.cell? ⟨w14.heap.size, 0, none⟩ = some (.int .i64 t1) := (hd22 _ _ q_turned).trans c21_turned_0
                  have c22_turned_1 : w22.cell? ⟨w14.heap.size, 1, none⟩ = some (.int .i64 t2) := (hd22 _ _ q_turned).trans c21_turned_1
                  have c22_turned_2 : w22.cell? ⟨w14.heap.size, 2, none⟩ = some (.int .i64 t3) := (hd22 _ _ q_turned).trans c21_turned_2
                  have c22_turned_3 : w22.cell? ⟨w14.heap.size, 3, none⟩ = some (.int .i64 t4) := (hd22 _ _ q_turned).trans c21_turned_3
                  replace q_an : w.heap.size + 1 < w22.heap.size := by omega
                  replace q_q : w.heap.size + 1 + 1 < w22.heap.size := by omega
                  replace q_m : w.heap.size + 1 + 1 + 1 < w22.heap.size := by omega
                  replace q_r : w.heap.size + 1 + 1 + 1 + 1 < w22.heap.size := by omega
                  replace q_by : w.heap.size + 1 + 1 + 1 + 1 + 1 < w22.heap.size := by omega
                  replace q_mirror : w12.heap.size < w22.heap.size := by omega
                  replace q_turned : w14.heap.size < w22.heap.size := by omega
                  have c22_x_0 : w22.cell? ⟨w21.heap.size, 0, none⟩ = some (.int .i64 p1) := (hc22 _ _ (by go_size)).trans (by go_simp)
                  have c22_x_1 : w22.cell? ⟨w21.heap.size, 1, none⟩ = some (.int .i64 p2) := (hc22 _ _ (by go_size)).trans (by go_simp)
                  have q_x : w21.heap.size < w22.heap.size := by omega
                  have R22_wa := Lib.hid (TRow.below R21_wa.out B22)
                  clear R21_wa
                  have R22_gl := Lib.hid (TRow.below R21_gl.out B22)
                  clear R21_gl
                  have BW22 : Below w.heap.size w w22 := BW21.trans (B22.mono BW21.size)
                  have BX22 : Below w21.heap.size w21 w22 := B22
                  clear hc22 hf22 hb22 hd22 B22 c21_an_0 c21_an_1 c21_q_0 c21_q_1 c21_q_2 c21_q_3 c21_m_0 c21_m_1 c21_m_2 c21_m_3 c21_r_0 c21_r_1 c21_r_2 c21_r_3 c21_by_0 c21_by_1 c21_mirror_0 c21_mirror_1 c21_mirror_2 c21_mirror_3 c21_turned_0 c21_turned_1 c21_turned_2 c21_turned_3 BW21
                  go_upto_region 38 with fail
                  have hb23 : Below w22.heap.size w22 (w22.alloc (Obj.cells #[.int .i64 n3, .int .i64 d3] 25)) := by (repeat' (first | (with_reducible exact Below.refl _ _) | (with_reducible assumption) | (with_reducible refine Below.alloc ?_ ?_ _) | (with_reducible refine Below.drew ?_) | (with_reducible refine below_drewN ?_ _) | (with_reducible refine Below.setCell ?_ ?_ _) | (with_reducible refine below_call ?_ ?_ (by assumption)) | go_size))
                  have c23_own_0 : (w22.alloc (Obj.cells #[.int .i64 n3, .int .i64 d3] 25)).cell? ⟨w22.heap.size, 0, none⟩ = some (.int .i64 n3) := by go_simp
                  have c23_own_1 : (w22.alloc (Obj.cells #[.int .i64 n3, .int .i64 d3] 25)).cell? ⟨w22.heap.size, 1, none⟩ = some (.int .i64 d3) := by go_simp
                  have q_own : w22.heap.size < (w22.alloc (Obj.cells #[.int .i64 n3, .int .i64 d3] 25)).heap.size := by go_size
                  generalize (w22.alloc (Obj.cells #[.int .i64 n3, .int .i64 d3] 25)) = w23 at *
                  obtain ⟨hd23, -⟩ := bcell hb23
                  have hz23 := hb23.size
                  have c23_an_0 : w23.cell? ⟨w.heap.size + 1, 0, none⟩ = some (.int .i64 n3) := (hd23 _ _ q_an).trans c22_an_0
                  have c23_an_1 : w23.cell? ⟨w.heap.size + 1, 1, none⟩ = some (.int .i64 d3) := (hd23 _ _ q_an).trans c22_an_1
                  have c23_q_0 : w23.cell? ⟨w.heap.size + 1 + 1, 0, none⟩ = some (.int .i64 n5) := (hd23 _ _ q_q).trans c22_q_0
                  have c23_q_1 : w23.cell? ⟨w.heap.size + 1 + 1, 1, none⟩ = some (.int .i64 d5) := (hd23 _ _ q_q).trans c22_q_1
                  have c23_q_2 : w23.cell? ⟨w.heap.size + 1 + 1, 2, none⟩ = some (.int .i64 x5) := (hd23 _ _ q_q).trans c22_q_2
                  have c23_q_3 : w23.cell? ⟨w.heap.size + 1 + 1, 3, none⟩ = some (.int .i64 y5) := (hd23 _ _ q_q).trans c22_q_3
                  have c23_m_0 : w23.cell? ⟨w.heap.size + 1 + 1 + 1, 0, none⟩ = some (.int .i64 n6) := (hd23 _ _ q_m).trans c22_m_0
                  have c23_m_1 : w23.cell? ⟨w.heap.size + 1 + 1 + 1, 1, none⟩ = some (.int .i64 d6) := (hd23 _ _ q_m).trans c22_m_1
                  have c23_m_2 : w23.cell? ⟨w.heap.size + 1 + 1 + 1, 2, none⟩ = some (.int .i64 x6) := (hd23 _ _ q_m).trans c22_m_2
                  have c23_m_3 : w23.cell? ⟨w.heap.size + 1 + 1 + 1, 3, none⟩ = some (.int .i64 y6) := (hd23 _ _ q_m).trans c22_m_3
                  have c23_r_0 : w23.cell? ⟨w.heap.size + 1 + 1 + 1 + 1, 0, none⟩ = some (.int .i64 n7) := (hd23 _ _ q_r).trans c22_r_0
                  have c23_r_1 : w23.cell? ⟨w.heap.size + 1 + 1 + 1 + 1, 1, none⟩ = some (.int .i64 d7) := (hd23 _ _ q_r).trans c22_r_1
                  have c23_r_2 : w23.cell? ⟨w.heap.size + 1 + 1 + 1 + 1, 2, none⟩ = some (.int .i64 x7) := (hd23 _ _ q_r).trans c22_r_2
                  have c23_r_3 : w23.cell? ⟨w.heap.size + 1 + 1 + 1 + 1, 3, none⟩ = some (.int .i64 y7) := (hd23 _ _ q_r).trans c22_r_3
                  have c23_by_0 : w23.cell? ⟨w.heap.size + 1 + 1 + 1 + 1 + 1, 0, none⟩ = some (.int .i64 n8) := (hd23 _ _ q_by).trans c22_by_0
                  have c23_by_1 : w23.cell? ⟨w.heap.size + 1 + 1 + 1 + 1 + 1, 1, none⟩ = some (.int .i64 d8) := (hd23 _ _ q_by).trans c22_by_1
                  have c23_mirror_0 : w23.cell? ⟨w12.heap.size, 0, none⟩ = some (.int .i64 m1) := (hd23 _ _ q_mirror).trans c22_mirror_0
                  have c23_mirror_1 : w23.cell? ⟨w12.heap.size, 1, none⟩ = some (.int .i64 m2) := (hd23 _ _ q_mirror).trans c22_mirror_1
                  have c23_mirror_2 : w23.cell? ⟨w12.heap.size, 2, none⟩ = some (.int .i64 m3) := (hd23 _ _ q_mirror).trans c22_mirror_2
                  have c23_mirror_3 : w23.cell? ⟨w12.heap.size, 3, none⟩ = some (.int .i64 m4) := (hd23 _ _ q_mirror).trans c22_mirror_3
                  have c23_turned_0 : w23.cell? ⟨w14.heap.size, 0, none⟩ = some (.int .i64 t1) := (hd23 _ _ q_turned).trans c22_turned_0
                  have c23_turned_1 : w23.cell? ⟨w14.heap.size, 1, none⟩ = some (.int .i64 t2) := (hd23 _ _ q_turned).trans c22_turned_1
                  have c23_turned_2 : w23.cell? ⟨w14.heap.size, 2, none⟩ = some (.int .i64 t3) := (hd23 _ _ q_turned).trans c22_turned_2
                  have c23_turned_3 : w23.cell? ⟨w14.heap.size, 3, none⟩ = some (.int .i64 t4) := (hd23 _ _ q_turned).trans c22_turned_3
                  have c23_x_0 : w23.cell? ⟨w21.heap.size, 0, none⟩ = some (.int .i64 p1) := (hd23 _ _ q_x).trans c22_x_0
                  have c23_x_1 : w23.cell? ⟨w21.heap.size, 1, none⟩ = some (.int .i64 p2) := (hd23 _ _ q_x).trans c22_x_1
                  replace q_an : w.heap.size + 1 < w23.heap.size := by omega
                  replace q_q : w.heap.size + 1 + 1 < w23.heap.size := by omega
                  replace q_m : w.heap.size + 1 + 1 + 1 < w23.heap.size := by omega
                  replace q_r : w.heap.size + 1 + 1 + 1 + 1 < w23.heap.size := by omega
                  replace q_by : w.heap.size + 1 + 1 + 1 + 1 + 1 < w23.heap.size := by omega
                  replace q_mirror : w12.heap.size < w23.heap.size := by omega
                  replace q_turned : w14.heap.size < w23.heap.size := by omega
                  replace q_x : w21.heap.size < w23.heap.size := by omega
                  have R23_wa := Lib.hid (TRow.below R22_wa.out hb23)
                  clear R22_wa
                  have R23_gl := Lib.hid (TRow.below R22_gl.out hb23)
                  clear R22_gl
                  have BW23 : Below w.heap.size w w23 := BW22.trans (hb23.mono BW22.size)
                  have BX23 : Below w21.heap.size w21 w23 := BX22.trans (hb23.mono BX22.size)
                  clear BX22
                  clear hb23 hd23 c22_an_0 c22_an_1 c22_q_0 c22_q_1 c22_q_2 c22_q_3 c22_m_0 c22_m_1 c22_m_2 c22_m_3 c22_r_0 c22_r_1 c22_r_2 c22_r_3 c22_by_0 c22_by_1 c22_mirror_0 c22_mirror_1 c22_mirror_2 c22_mirror_3 c22_turned_0 c22_turned_1 c22_turned_2 c22_turned_3 c22_x_0 c22_x_1 BW22
                  go_wp2_with fail
                  go_roundw
                  case rel => exact ⟨k + 1, by omega, by go_num, hb21'.trans (BX23.mono hb21'.size)⟩
                  case measure => simp [RowKit.intOf]; omega
                have hrelB := BX21
                go_wp2_with fail
                go_meet
                case rel => exact hrelB
        case rest =>
          have hb20 := hcut
          obtain ⟨w20, hw20⟩ : ∃ x : World, x = wc := ⟨_, rfl⟩
          subst hw20
          obtain ⟨hc20, hf20⟩ := bcell hb20
          have hz20 := hb20.size
          (try simp only [World.size_alloc, World.size_setCell, World.size_drew] at hz20)
          have B20 : Below w19.heap.size w19 w20 := Below.trans (b := _) (by (repeat' (first | (with_reducible exact Below.refl _ _) | (with_reducible assumption) | (with_reducible refine Below.alloc ?_ ?_ _) | (with_reducible refine Below.drew ?_) | (with_reducible refine below_drewN ?_ _) | (with_reducible refine Below.setCell ?_ ?_ _) | (with_reducible refine below_call ?_ ?_ (by assumption)) | go_size))) (hb20.mono (by first | omega | (simp only [World.size_alloc, World.size_setCell, World.size_drew]; omega)))
          obtain ⟨hd20, -⟩ := bcell B20
          have c20_an_0 : w20.cell? ⟨w.heap.size + 1, 0, none⟩ = some (.int .i64 n3) := (hd20 _ _ q_an).trans c19_an_0
          have c20_an_1 : w20.cell? ⟨w.heap.size + 1, 1, none⟩ = some (.int .i64 d3) := (hd20 _ _ q_an).trans c19_an_1
          have c20_q_0 : w20.cell? ⟨w.heap.size + 1 + 1, 0, none⟩ = some (.int .i64 n5) := (hd20 _ _ q_q).trans c19_q_0
          have c20_q_1 : w20.cell? ⟨w.heap.size + 1 + 1, 1, none⟩ = some (.int .i64 d5) := (hd20 _ _ q_q).trans c19_q_1
          have c20_q_2 : w20.cell? ⟨w.heap.size + 1 + 1, 2, none⟩ = some (.int .i64 x5) := (hd20 _ _ q_q).trans c19_q_2
          have c20_q_3 : w20.cell? ⟨w.heap.size + 1 + 1, 3, none⟩ = some (.int .i64 y5) := (hd20 _ _ q_q).trans c19_q_3
          have c20_m_0 : w20.cell? ⟨w.heap.size + 1 + 1 + 1, 0, none⟩ = some (.int .i64 n6) := (hd20 _ _ q_m).trans c19_m_0
          have c20_m_1 : w20.cell? ⟨w.heap.size + 1 + 1 + 1, 1, none⟩ = some (.int .i64 d6) := (hd20 _ _ q_m).trans c19_m_1
          have c20_m_2 : w20.cell? ⟨w.heap.size + 1 + 1 + 1, 2, none⟩ = some (.int .i64 x6) := (hd20 _ _ q_m).trans c19_m_2
          have c20_m_3 : w20.cell? ⟨w.heap.size + 1 + 1 + 1, 3, none⟩ = some (.int .i64 y6) := (hd20 _ _ q_m).trans c19_m_3
          have c20_r_0 : w20.cell? ⟨w.heap.size + 1 + 1 + 1 + 1, 0, none⟩ = some (.int .i64 n7) := (hd20 _ _ q_r).trans c19_r_0
          have c20_r_1 : w20.cell? ⟨w.heap.size + 1 + 1 + 1 + 1, 1, none⟩ = some (.int .i64 d7) := (hd20 _ _ q_r).trans c19_r_1
          have c20_r_2 : w20.cell? ⟨w.heap.size + 1 + 1 + 1 + 1, 2, none⟩ = some (.int .i64 x7) := (hd20 _ _ q_r).trans c19_r_2
          have c20_r_3 : w20.cell? ⟨w.heap.size + 1 + 1 + 1 + 1, 3, none⟩ = some (.int .i64 y7) := (hd20 _ _ q_r).trans c19_r_3
          have c20_by_0 : w20.cell? ⟨w.heap.size + 1 + 1 + 1 + 1 + 1, 0, none⟩ = some (.int .i64 n8) := (hd20 _ _ q_by).trans c19_by_0
          have c20_by_1 : w20.cell? ⟨w.heap.size + 1 + 1 + 1 + 1 + 1, 1, none⟩ = some (.int .i64 d8) := (hd20 _ _ q_by).trans c19_by_1
          have c20_mirror_0 : w20.cell? ⟨w12.heap.size, 0, none⟩ = some (.int .i64 m1) := (hd20 _ _ q_mirror).trans c19_mirror_0
          have c20_mirror_1 : w20.cell? ⟨w12.heap.size, 1, none⟩ = some (.int .i64 m2) := (hd20 _ _ q_mirror).trans c19_mirror_1
          have c20_mirror_2 : w20.cell? ⟨w12.heap.size, 2, none⟩ = some (.int .i64 m3) := (hd20 _ _ q_mirror).trans c19_mirror_2
          have c20_mirror_3 : w20.cell? ⟨w12.heap.size, 3, none⟩ = some (.int .i64 m4) := (hd20 _ _ q_mirror).trans c19_mirror_3
          have c20_turned_0 : w20.cell? ⟨w14.heap.size, 0, none⟩ = some (.int .i64 t1) := (hd20 _ _ q_turned).trans c19_turned_0
          have c20_turned_1 : w20.cell? ⟨w14.heap.size, 1, none⟩ = some (.int .i64 t2) := (hd20 _ _ q_turned).trans c19_turned_1
          have c20_turned_2 : w20.cell? ⟨w14.heap.size, 2, none⟩ = some (.int .i64 t3) := (hd20 _ _ q_turned).trans c19_turned_2
          have c20_turned_3 : w20.cell? ⟨w14.heap.size, 3, none⟩ = some (.int .i64 t4) := (hd20 _ _ q_turned).trans c19_turned_3
          replace q_an : w.heap.size + 1 < w20.heap.size := by omega
          replace q_q : w.heap.size + 1 + 1 < w20.heap.size := by omega
          replace q_m : w.heap.size + 1 + 1 + 1 < w20.heap.size := by omega
          replace q_r : w.heap.size + 1 + 1 + 1 + 1 < w20.heap.size := by omega
          replace q_by : w.heap.size + 1 + 1 + 1 + 1 + 1 < w20.heap.size := by omega
          replace q_mirror : w12.heap.size < w20.heap.size := by omega
          replace q_turned : w14.heap.size < w20.heap.size := by omega
          have R20_wa := Lib.hid (TRow.below R19_wa.out B20)
          clear R19_wa
          have R20_gl := Lib.hid (TRow.below R19_gl.out B20)
          clear R19_gl
          have BW20 : Below w.heap.size w w20 := BW19.trans (B20.mono BW19.size)
          clear hc20 hf20 hb20 hd20 B20 c19_an_0 c19_an_1 c19_q_0 c19_q_1 c19_q_2 c19_q_3 c19_m_0 c19_m_1 c19_m_2 c19_m_3 c19_r_0 c19_r_1 c19_r_2 c19_r_3 c19_by_0 c19_by_1 c19_mirror_0 c19_mirror_1 c19_mirror_2 c19_mirror_3 c19_turned_0 c19_turned_1 c19_turned_2 c19_turned_3 BW19
          clear R20_wa
          clear q_an c20_an_0 c20_an_1
          go_upto_if 308 with fail
          go_cut [] from 999 to 999 (fun wx => Below w20.heap.size w20 wx)
          case first =>
            as_aux_lemma =>
              cases gok
              · go_wp2_with fail
                go_meet
                case rel => exact Below.refl _ _
              · obtain ⟨-, -, hr, hl2, hall⟩ := F6.out rfl
                obtain ⟨g1, g2, g3, g4, hgg⟩ : ∃ a b c e, mirQ n5 d5 x5 y5 = (a, b, c, e) := ⟨_, _, _, _, rfl⟩
                obtain ⟨h1, h2⟩ := F9.out rfl _ _ _ _ hgg
                have HR := Lib.hid hr
                have HA := Lib.hid hall
                have hb : (GL.length : Int) ≤ 2 := by omega
                have hgt : ¬ (2 : Int) < (GL.length : Int) := by omega
                clear hr hall hgg hl2
                have Z1 := Lib.hid (fun W => (show Calls Try.prog 27 #[sn n5 d5 x5 y5] W fun e w' => e = .returned (rs (g1, g2, g3, g4, true)) ∧ Below W.heap.size W w' from by have := implMirrorSeen_any n5 d5 x5 y5 W; rw [h1] at this; exact this))
                have Z2 := Lib.hid (fun W => (show Calls Try.prog 42 #[.int .i64 a4, sn g1 g2 g3 g4] W (TurnsOut W GL true) from by have := implTimesInGlass_any a4 g1 g2 g3 g4 W; rw [h2] at this; exact this))
                clear h1 h2
                go_wp2_with fail
                refine (Z1.out _).mono ?_
                rintro e21 w21 ⟨rfl, hb21⟩
                obtain ⟨hc21, hf21⟩ := bcell hb21
                have hz21 := hb21.size
                (try simp only [World.size_alloc, World.size_setCell, World.size_drew] at hz21)
                have B21 : Below w20.heap.size w20 w21 := Below.trans (b := _) (by (repeat' (first | (with_reducible exact Below.refl _ _) | (with_reducible assumption) | (with_reducible refine Below.alloc ?_ ?_ _) | (with_reducible refine Below.drew ?_) | (with_reducible refine below_drewN ?_ _) | (with_reducible refine Below.setCell ?_ ?_ _) | (with_reducible refine below_call ?_ ?_ (by assumption)) | go_size))) (hb21.mono (by first | omega | (simp only [World.size_alloc, World.size_setCell, World.size_drew]; omega)))
                obtain ⟨hd21, -⟩ := bcell B21
                have c21_q_0 : w21.cell? ⟨w.heap.size + 1 + 1, 0, none⟩ = some (.int .i64 n5) := (hd21 _ _ q_q).trans c20_q_0
                have c21_q_1 : w21.cell? ⟨w.heap.size + 1 + 1, 1, none⟩ = some (.int .i64 d5) := (hd21 _ _ q_q).trans c20_q_1
                have c21_q_2 : w21.cell? ⟨w.heap.size + 1 + 1, 2, none⟩ = some (.int .i64 x5) := (hd21 _ _ q_q).trans c20_q_2
                have c21_q_3 : w21.cell? ⟨w.heap.size + 1 + 1, 3, none⟩ = some (.int .i64 y5) := (hd21 _ _ q_q).trans c20_q_3
                have c21_m_0 : w21.cell? ⟨w.heap.size + 1 + 1 + 1, 0, none⟩ = some (.int .i64 n6) := (hd21 _ _ q_m).trans c20_m_0
                have c21_m_1 : w21.cell? ⟨w.heap.size + 1 + 1 + 1, 1, none⟩ = some (.int .i64 d6) := (hd21 _ _ q_m).trans c20_m_1
                have c21_m_2 : w21.cell? ⟨w.heap.size + 1 + 1 + 1, 2, none⟩ = some (.int .i64 x6) := (hd21 _ _ q_m).trans c20_m_2
                have c21_m_3 : w21.cell? ⟨w.heap.size + 1 + 1 + 1, 3, none⟩ = some (.int .i64 y6) := (hd21 _ _ q_m).trans c20_m_3
                have c21_r_0 : w21.cell? ⟨w.heap.size + 1 + 1 + 1 + 1, 0, none⟩ = some (.int .i64 n7) := (hd21 _ _ q_r).trans c20_r_0
                have c21_r_1 : w21.cell? ⟨w.heap.size + 1 + 1 + 1 + 1, 1, none⟩ = some (.int .i64 d7) := (hd21 _ _ q_r).trans c20_r_1
                have c21_r_2 : w21.cell? ⟨w.heap.size + 1 + 1 + 1 + 1, 2, none⟩ = some (.int .i64 x7) := (hd21 _ _ q_r).trans c20_r_2
                have c21_r_3 : w21.cell? ⟨w.heap.size + 1 + 1 + 1 + 1, 3, none⟩ = some (.int .i64 y7) := (hd21 _ _ q_r).trans c20_r_3
                have c21_by_0 : w21.cell? ⟨w.heap.size + 1 + 1 + 1 + 1 + 1, 0, none⟩ = some (.int .i64 n8) := (hd21 _ _ q_by).trans c20_by_0
                have c21_by_1 : w21.cell? ⟨w.heap.size + 1 + 1 + 1 + 1 + 1, 1, none⟩ = some (.int .i64 d8) := (hd21 _ _ q_by).trans c20_by_1
                have c21_mirror_0 : w21.cell? ⟨w12.heap.size, 0, none⟩ = some (.int .i64 m1) := (hd21 _ _ q_mirror).trans c20_mirror_0
                have c21_mirror_1 : w21.cell? ⟨w12.heap.size, 1, none⟩ = some (.int .i64 m2) := (hd21 _ _ q_mirror).trans c20_mirror_1
                have c21_mirror_2 : w21.cell? ⟨w12.heap.size, 2, none⟩ = some (.int .i64 m3) := (hd21 _ _ q_mirror).trans c20_mirror_2
                have c21_mirror_3 : w21.cell? ⟨w12.heap.size, 3, none⟩ = some (.int .i64 m4) := (hd21 _ _ q_mirror).trans c20_mirror_3
                have c21_turned_0 : w21.cell? ⟨w14.heap.size, 0, none⟩ = some (.int .i64 t1) := (hd21 _ _ q_turned).trans c20_turned_0
                have c21_turned_1 : w21.cell? ⟨w14.heap.size, 1, none⟩ = some (.int .i64 t2) := (hd21 _ _ q_turned).trans c20_turned_1
                have c21_turned_2 : w21.cell? ⟨w14.heap.size, 2, none⟩ = some (.int .i64 t3) := (hd21 _ _ q_turned).trans c20_turned_2
                have c21_turned_3 : w21.cell? ⟨w14.heap.size, 3, none⟩ = some (.int .i64 t4) := (hd21 _ _ q_turned).trans c20_turned_3
                replace q_q : w.heap.size + 1 + 1 < w21.heap.size := by omega
                replace q_m : w.heap.size + 1 + 1 + 1 < w21.heap.size := by omega
                replace q_r : w.heap.size + 1 + 1 + 1 + 1 < w21.heap.size := by omega
                replace q_by : w.heap.size + 1 + 1 + 1 + 1 + 1 < w21.heap.size := by omega
                replace q_mirror : w12.heap.size < w21.heap.size := by omega
                replace q_turned : w14.heap.size < w21.heap.size := by omega
                have R21_gl := Lib.hid (TRow.below R20_gl.out B21)
                clear R20_gl
                have BW21 : Below w.heap.size w w21 := BW20.trans (B21.mono BW20.size)
                have BX21 : Below w20.heap.size w20 w21 := B21
                clear hc21 hf21 hb21 hd21 B21 c20_q_0 c20_q_1 c20_q_2 c20_q_3 c20_m_0 c20_m_1 c20_m_2 c20_m_3 c20_r_0 c20_r_1 c20_r_2 c20_r_3 c20_by_0 c20_by_1 c20_mirror_0 c20_mirror_1 c20_mirror_2 c20_mirror_3 c20_turned_0 c20_turned_1 c20_turned_2 c20_turned_3 BW20
                go_wp2_with fail
                refine (Z2.out _).mono ?_
                rintro e22 w22 ⟨v_same, rfl, hr22, hb22⟩
                obtain ⟨pa_same, pc_same, rfl, -⟩ := TRow.cells hr22
                have R22_same := Lib.hid hr22
                clear hr22
                obtain ⟨hc22, hf22⟩ := bcell hb22
                have hz22 := hb22.size
                (try simp only [World.size_alloc, World.size_setCell, World.size_drew] at hz22)
                have B22 : Below w21.heap.size w21 w22 := Below.trans (b := _) (by (repeat' (first | (with_reducible exact Below.refl _ _) | (with_reducible assumption) | (with_reducible refine Below.alloc ?_ ?_ _) | (with_reducible refine Below.drew ?_) | (with_reducible refine below_drewN ?_ _) | (with_reducible refine Below.setCell ?_ ?_ _) | (with_reducible refine below_call ?_ ?_ (by assumption)) | go_size))) (hb22.mono (by first | omega | (simp only [World.size_alloc, World.size_setCell, World.size_drew]; omega)))
                obtain ⟨hd22, -⟩ := bcell B22
                have c22_q_0 : w22.cell? ⟨w.heap.size + 1 + 1, 0, none⟩ = some (.int .i64 n5) := (hd22 _ _ q_q).trans c21_q_0
                have c22_q_1 : w22.cell? ⟨w.heap.size + 1 + 1, 1, none⟩ = some (.int .i64 d5) := (hd22 _ _ q_q).trans c21_q_1
                have c22_q_2 : w22.cell? ⟨w.heap.size + 1 + 1, 2, none⟩ = some (.int .i64 x5) := (hd22 _ _ q_q).trans c21_q_2
                have c22_q_3 : w22.cell? ⟨w.heap.size + 1 + 1, 3, none⟩ = some (.int .i64 y5) := (hd22 _ _ q_q).trans c21_q_3
                have c22_m_0 : w22.cell? ⟨w.heap.size + 1 + 1 + 1, 0, none⟩ = some (.int .i64 n6) := (hd22 _ _ q_m).trans c21_m_0
                have c22_m_1 : w22.cell? ⟨w.heap.size + 1 + 1 + 1, 1, none⟩ = some (.int .i64 d6) := (hd22 _ _ q_m).trans c21_m_1
                have c22_m_2 : w22.cell? ⟨w.heap.size + 1 + 1 + 1, 2, none⟩ = some (.int .i64 x6) := (hd22 _ _ q_m).trans c21_m_2
                have c22_m_3 : w22.cell? ⟨w.heap.size + 1 + 1 + 1, 3, none⟩ = some (.int .i64 y6) := (hd22 _ _ q_m).trans c21_m_3
                have c22_r_0 : w22.cell? ⟨w.heap.size + 1 + 1 + 1 + 1, 0, none⟩ = some (.int .i64 n7) := (hd22 _ _ q_r).trans c21_r_0
                have c22_r_1 : w22.cell? ⟨w.heap.size + 1 + 1 + 1 + 1, 1, none⟩ = some (.int .i64 d7) := (hd22 _ _ q_r).trans c21_r_1
                have c22_r_2 : w22.cell? ⟨w.heap.size + 1 + 1 + 1 + 1, 2, none⟩ = some (.int .i64 x7) := (hd22 _ _ q_r).trans c21_r_2
                have c22_r_3 : w22.cell? ⟨w.heap.size + 1 + 1 + 1 + 1, 3, none⟩ = some (.int .i64 y7) := (hd22 _ _ q_r).trans c21_r_3
                have c22_by_0 : w22.cell? ⟨w.heap.size + 1 + 1 + 1 + 1 + 1, 0, none⟩ = some (.int .i64 n8) := (hd22 _ _ q_by).trans c21_by_0
                have c22_by_1 : w22.cell? ⟨w.heap.size + 1 + 1 + 1 + 1 + 1, 1, none⟩ = some (.int .i64 d8) := (hd22 _ _ q_by).trans c21_by_1
                have c22_mirror_0 : w22.cell? ⟨w12.heap.size, 0, none⟩ = some (.int .i64 m1) := (hd22 _ _ q_mirror).trans c21_mirror_0
                have c22_mirror_1 : w22.cell? ⟨w12.heap.size, 1, none⟩ = some (.int .i64 m2) := (hd22 _ _ q_mirror).trans c21_mirror_1
                have c22_mirror_2 : w22.cell? ⟨w12.heap.size, 2, none⟩ = some (.int .i64 m3) := (hd22 _ _ q_mirror).trans c21_mirror_2
                have c22_mirror_3 : w22.cell? ⟨w12.heap.size, 3, none⟩ = some (.int .i64 m4) := (hd22 _ _ q_mirror).trans c21_mirror_3
                have c22_turned_0 : w22.cell? ⟨w14.heap.size, 0, none⟩ = some (.int .i64 t1) := (hd22 _ _ q_turned).trans c21_turned_0
                have c22_turned_1 : w22.cell? ⟨w14.heap.size, 1, none⟩ = some (.int .i64 t2) := (hd22 _ _ q_turned).trans c21_turned_1
                have c22_turned_2 : w22.cell? ⟨w14.heap.size, 2, none⟩ = some (.int .i64 t3) := (hd22 _ _ q_turned).trans c21_turned_2
                have c22_turned_3 : w22.cell? ⟨w14.heap.size, 3, none⟩ = some (.int .i64 t4) := (hd22 _ _ q_turned).trans c21_turned_3
                replace q_q : w.heap.size + 1 + 1 < w22.heap.size := by omega
                replace q_m : w.heap.size + 1 + 1 + 1 < w22.heap.size := by omega
                replace q_r : w.heap.size + 1 + 1 + 1 + 1 < w22.heap.size := by omega
                replace q_by : w.heap.size + 1 + 1 + 1 + 1 + 1 < w22.heap.size := by omega
                replace q_mirror : w12.heap.size < w22.heap.size := by omega
                replace q_turned : w14.heap.size < w22.heap.size := by omega
                have c22_other_0 : w22.cell? ⟨w21.heap.size, 0, none⟩ = some (.int .i64 g1) := (hc22 _ _ (by go_size)).trans (by go_simp)
                have c22_other_1 : w22.cell? ⟨w21.heap.size, 1, none⟩ = some (.int .i64 g2) := (hc22 _ _ (by go_size)).trans (by go_simp)
                have c22_other_2 : w22.cell? ⟨w21.heap.size, 2, none⟩ = some (.int .i64 g3) := (hc22 _ _ (by go_size)).trans (by go_simp)
                have c22_other_3 : w22.cell? ⟨w21.heap.size, 3, none⟩ = some (.int .i64 g4) := (hc22 _ _ (by go_size)).trans (by go_simp)
                have q_other : w21.heap.size < w22.heap.size := by omega
                have R22_gl := Lib.hid (TRow.below R21_gl.out B22)
                clear R21_gl
                have BW22 : Below w.heap.size w w22 := BW21.trans (B22.mono BW21.size)
                have BX22 : Below w20.heap.size w20 w22 := BX21.trans (B22.mono BX21.size)
                clear BX21
                clear hc22 hf22 hb22 hd22 B22 c21_q_0 c21_q_1 c21_q_2 c21_q_3 c21_m_0 c21_m_1 c21_m_2 c21_m_3 c21_r_0 c21_r_1 c21_r_2 c21_r_3 c21_by_0 c21_by_1 c21_mirror_0 c21_mirror_1 c21_mirror_2 c21_mirror_3 c21_turned_0 c21_turned_1 c21_turned_2 c21_turned_3 BW21
                have hsm : ((GL.length : Int) != (GL.length : Int)) = false := by simp
                go_wp2_with fail
                refine (wRises_yes GL _ _ _ R22_gl.out HGL.out HR.out).mono ?_
                rintro e23 w23 ⟨rfl, hb23⟩
                obtain ⟨hc23, hf23⟩ := bcell hb23
                have hz23 := hb23.size
                (try simp only [World.size_alloc, World.size_setCell, World.size_drew] at hz23)
                have B23 : Below w22.heap.size w22 w23 := Below.trans (b := _) (by (repeat' (first | (with_reducible exact Below.refl _ _) | (with_reducible assumption) | (with_reducible refine Below.alloc ?_ ?_ _) | (with_reducible refine Below.drew ?_) | (with_reducible refine below_drewN ?_ _) | (with_reducible refine Below.setCell ?_ ?_ _) | (with_reducible refine below_call ?_ ?_ (by assumption)) | go_size))) (hb23.mono (by first | omega | (simp only [World.size_alloc, World.size_setCell, World.size_drew]; omega)))
                obtain ⟨hd23, -⟩ := bcell B23
                have c23_q_0 : w23.cell? ⟨w.heap.size + 1 + 1, 0, none⟩ = some (.int .i64 n5) := (hd23 _ _ q_q).trans c22_q_0
                have c23_q_1 : w23.cell? ⟨w.heap.size + 1 + 1, 1, none⟩ = some (.int .i64 d5) := (hd23 _ _ q_q).trans c22_q_1
                have c23_q_2 : w23.cell? ⟨w.heap.size + 1 + 1, 2, none⟩ = some (.int .i64 x5) := (hd23 _ _ q_q).trans c22_q_2
                have c23_q_3 : w23.cell? ⟨w.heap.size + 1 + 1, 3, none⟩ = some (.int .i64 y5) := (hd23 _ _ q_q).trans c22_q_3
                have c23_m_0 : w23.cell? ⟨w.heap.size + 1 + 1 + 1, 0, none⟩ = some (.int .i64 n6) := (hd23 _ _ q_m).trans c22_m_0
                have c23_m_1 : w23.cell? ⟨w.heap.size + 1 + 1 + 1, 1, none⟩ = some (.int .i64 d6) := (hd23 _ _ q_m).trans c22_m_1
                have c23_m_2 : w23.cell? ⟨w.heap.size + 1 + 1 + 1, 2, none⟩ = some (.int .i64 x6) := (hd23 _ _ q_m).trans c22_m_2
                have c23_m_3 : w23.cell? ⟨w.heap.size + 1 + 1 + 1, 3, none⟩ = some (.int .i64 y6) := (hd23 _ _ q_m).trans c22_m_3
                have c23_r_0 : w23.cell? ⟨w.heap.size + 1 + 1 + 1 + 1, 0, none⟩ = some (.int .i64 n7) := (hd23 _ _ q_r).trans c22_r_0
                have c23_r_1 : w23.cell? ⟨w.heap.size + 1 + 1 + 1 + 1, 1, none⟩ = some (.int .i64 d7) := (hd23 _ _ q_r).trans c22_r_1
                have c23_r_2 : w23.cell? ⟨w.heap.size + 1 + 1 + 1 + 1, 2, none⟩ = some (.int .i64 x7) := (hd23 _ _ q_r).trans c22_r_2
                have c23_r_3 : w23.cell? ⟨w.heap.size + 1 + 1 + 1 + 1, 3, none⟩ = some (.int .i64 y7) := (hd23 _ _ q_r).trans c22_r_3
                have c23_by_0 : w23.cell? ⟨w.heap.size + 1 + 1 + 1 + 1 + 1, 0, none⟩ = some (.int .i64 n8) := (hd23 _ _ q_by).trans c22_by_0
                have c23_by_1 : w23.cell? ⟨w.heap.size + 1 + 1 + 1 + 1 + 1, 1, none⟩ = some (.int .i64 d8) := (hd23 _ _ q_by).trans c22_by_1
                have c23_mirror_0 : w23.cell? ⟨w12.heap.size, 0, none⟩ = some (.int .i64 m1) := (hd23 _ _ q_mirror).trans c22_mirror_0
                have c23_mirror_1 : w23.cell? ⟨w12.heap.size, 1, none⟩ = some (.int .i64 m2) := (hd23 _ _ q_mirror).trans c22_mirror_1
                have c23_mirror_2 : w23.cell? ⟨w12.heap.size, 2, none⟩ = some (.int .i64 m3) := (hd23 _ _ q_mirror).trans c22_mirror_2
                have c23_mirror_3 : w23.cell? ⟨w12.heap.size, 3, none⟩ = some (.int .i64 m4) := (hd23 _ _ q_mirror).trans c22_mirror_3
                have c23_turned_0 : w23.cell? ⟨w14.heap.size, 0, none⟩ = some (.int .i64 t1) := (hd23 _ _ q_turned).trans c22_turned_0
                have c23_turned_1 : w23.cell? ⟨w14.heap.size, 1, none⟩ = some (.int .i64 t2) := (hd23 _ _ q_turned).trans c22_turned_1
                have c23_turned_2 : w23.cell? ⟨w14.heap.size, 2, none⟩ = some (.int .i64 t3) := (hd23 _ _ q_turned).trans c22_turned_2
                have c23_turned_3 : w23.cell? ⟨w14.heap.size, 3, none⟩ = some (.int .i64 t4) := (hd23 _ _ q_turned).trans c22_turned_3
                have c23_other_0 : w23.cell? ⟨w21.heap.size, 0, none⟩ = some (.int .i64 g1) := (hd23 _ _ q_other).trans c22_other_0
                have c23_other_1 : w23.cell? ⟨w21.heap.size, 1, none⟩ = some (.int .i64 g2) := (hd23 _ _ q_other).trans c22_other_1
                have c23_other_2 : w23.cell? ⟨w21.heap.size, 2, none⟩ = some (.int .i64 g3) := (hd23 _ _ q_other).trans c22_other_2
                have c23_other_3 : w23.cell? ⟨w21.heap.size, 3, none⟩ = some (.int .i64 g4) := (hd23 _ _ q_other).trans c22_other_3
                replace q_q : w.heap.size + 1 + 1 < w23.heap.size := by omega
                replace q_m : w.heap.size + 1 + 1 + 1 < w23.heap.size := by omega
                replace q_r : w.heap.size + 1 + 1 + 1 + 1 < w23.heap.size := by omega
                replace q_by : w.heap.size + 1 + 1 + 1 + 1 + 1 < w23.heap.size := by omega
                replace q_mirror : w12.heap.size < w23.heap.size := by omega
                replace q_turned : w14.heap.size < w23.heap.size := by omega
                replace q_other : w21.heap.size < w23.heap.size := by omega
                have R23_gl := Lib.hid (TRow.below R22_gl.out B23)
                clear R22_gl
                have R23_same := Lib.hid (TRow.below R22_same.out B23)
                clear R22_same
                have BW23 : Below w.heap.size w w23 := BW22.trans (B23.mono BW22.size)
                have BX23 : Below w20.heap.size w20 w23 := BX22.trans (B23.mono BX22.size)
                clear BX22
                clear hc23 hf23 hb23 hd23 B23 c22_q_0 c22_q_1 c22_q_2 c22_q_3 c22_m_0 c22_m_1 c22_m_2 c22_m_3 c22_r_0 c22_r_1 c22_r_2 c22_r_3 c22_by_0 c22_by_1 c22_mirror_0 c22_mirror_1 c22_mirror_2 c22_mirror_3 c22_turned_0 c22_turned_1 c22_turned_2 c22_turned_3 c22_other_0 c22_other_1 c22_other_2 c22_other_3 BW22
                go_wp2_with fail
                go_loopw [345] (fun i wr => ∃ k : Nat, k ≤ GL.length ∧ i = .int .i64 (k : Int) ∧ Below w23.heap.size w23 wr) (fun i _ => GL.length - (RowKit.intOf i).toNat)
                case atStart => exact ⟨0, Nat.zero_le _, rfl, Below.refl _ _⟩
                case round =>
                  obtain ⟨k, hk, rfl, hb24⟩ := hrel
                  obtain ⟨w24, hw24⟩ : ∃ x : World, x = wr := ⟨_, rfl⟩
                  subst hw24
                  have hb24' := hb24
                  obtain ⟨hc24, hf24⟩ := bcell hb24
                  have hz24 := hb24.size
                  (try simp only [World.size_alloc, World.size_setCell, World.size_drew] at hz24)
                  have B24 : Below w23.heap.size w23 w24 := Below.trans (b := _) (by (repeat' (first | (with_reducible exact Below.refl _ _) | (with_reducible assumption) | (with_reducible refine Below.alloc ?_ ?_ _) | (with_reducible refine Below.drew ?_) | (with_reducible refine below_drewN ?_ _) | (with_reducible refine Below.setCell ?_ ?_ _) | (with_reducible refine below_call ?_ ?_ (by assumption)) | go_size))) (hb24.mono (by first | omega | (simp only [World.size_alloc, World.size_setCell, World.size_drew]; omega)))
                  obtain ⟨hd24, -⟩ := bcell B24
                  have c24_q_0 : w24.cell? ⟨w.heap.size + 1 + 1, 0, none⟩ = some (.int .i64 n5) := (hd24 _ _ q_q).trans c23_q_0
                  have c24_q_1 : w24.cell? ⟨w.heap.size + 1 + 1, 1, none⟩ = some (.int .i64 d5) := (hd24 _ _ q_q).trans c23_q_1
                  have c24_q_2 : w24.cell? ⟨w.heap.size + 1 + 1, 2, none⟩ = some (.int .i64 x5) := (hd24 _ _ q_q).trans c23_q_2
                  have c24_q_3 : w24.cell? ⟨w.heap.size + 1 + 1, 3, none⟩ = some (.int .i64 y5) := (hd24 _ _ q_q).trans c23_q_3
                  have c24_m_0 : w24.cell? ⟨w.heap.size + 1 + 1 + 1, 0, none⟩ = some (.int .i64 n6) := (hd24 _ _ q_m).trans c23_m_0
                  have c24_m_1 : w24.cell? ⟨w.heap.size + 1 + 1 + 1, 1, none⟩ = some (.int .i64 d6) := (hd24 _ _ q_m).trans c23_m_1
                  have c24_m_2 : w24.cell? ⟨w.heap.size + 1 + 1 + 1, 2, none⟩ = some (.int .i64 x6) := (hd24 _ _ q_m).trans c23_m_2
                  have c24_m_3 : w24.cell? ⟨w.heap.size + 1 + 1 + 1, 3, none⟩ = some (.int .i64 y6) := (hd24 _ _ q_m).trans c23_m_3
                  have c24_r_0 : w24.cell? ⟨w.heap.size + 1 + 1 + 1 + 1, 0, none⟩ = some (.int .i64 n7) := (hd24 _ _ q_r).trans c23_r_0
                  have c24_r_1 : w24.cell? ⟨w.heap.size + 1 + 1 + 1 + 1, 1, none⟩ = some (.int .i64 d7) := (hd24 _ _ q_r).trans c23_r_1
                  have c24_r_2 : w24.cell? ⟨w.heap.size + 1 + 1 + 1 + 1, 2, none⟩ = some (.int .i64 x7) := (hd24 _ _ q_r).trans c23_r_2
                  have c24_r_3 : w24.cell? ⟨w.heap.size + 1 + 1 + 1 + 1, 3, none⟩ = some (.int .i64 y7) := (hd24 _ _ q_r).trans c23_r_3
                  have c24_by_0 : w24.cell? ⟨w.heap.size + 1 + 1 + 1 + 1 + 1, 0, none⟩ = some (.int .i64 n8) := (hd24 _ _ q_by).trans c23_by_0
                  have c24_by_1 : w24.cell? ⟨w.heap.size + 1 + 1 + 1 + 1 + 1, 1, none⟩ = some (.int .i64 d8) := (hd24 _ _ q_by).trans c23_by_1
                  have c24_mirror_0 : w24.cell? ⟨w12.heap.size, 0, none⟩ = some (.int .i64 m1) := (hd24 _ _ q_mirror).trans c23_mirror_0
                  have c24_mirror_1 : w24.cell? ⟨w12.heap.size, 1, none⟩ = some (.int .i64 m2) := (hd24 _ _ q_mirror).trans c23_mirror_1
                  have c24_mirror_2 : w24.cell? ⟨w12.heap.size, 2, none⟩ = some (.int .i64 m3) := (hd24 _ _ q_mirror).trans c23_mirror_2
                  have c24_mirror_3 : w24.cell? ⟨w12.heap.size, 3, none⟩ = some (.int .i64 m4) := (hd24 _ _ q_mirror).trans c23_mirror_3
                  have c24_turned_0 : w24.cell? ⟨w14.heap.size, 0, none⟩ = some (.int .i64 t1) := (hd24 _ _ q_turned).trans c23_turned_0
                  have c24_turned_1 : w24.cell? ⟨w14.heap.size, 1, none⟩ = some (.int .i64 t2) := (hd24 _ _ q_turned).trans c23_turned_1
                  have c24_turned_2 : w24.cell? ⟨w14.heap.size, 2, none⟩ = some (.int .i64 t3) := (hd24 _ _ q_turned).trans c23_turned_2
                  have c24_turned_3 : w24.cell? ⟨w14.heap.size, 3, none⟩ = some (.int .i64 t4) := (hd24 _ _ q_turned).trans c23_turned_3
                  have c24_other_0 : w24.cell? ⟨w21.heap.size, 0, none⟩ = some (.int .i64 g1) := (hd24 _ _ q_other).trans c23_other_0
                  have c24_other_1 : w24.cell? ⟨w21.heap.size, 1, none⟩ = some (.int .i64 g2) := (hd24 _ _ q_other).trans c23_other_1
                  have c24_other_2 : w24.cell? ⟨w21.heap.size, 2, none⟩ = some (.int .i64 g3) := (hd24 _ _ q_other).trans c23_other_2
                  have c24_other_3 : w24.cell? ⟨w21.heap.size, 3, none⟩ = some (.int .i64 g4) := (hd24 _ _ q_other).trans c23_other_3
                  replace q_q : w.heap.size + 1 + 1 < w24.heap.size := by omega
                  replace q_m : w.heap.size + 1 + 1 + 1 < w24.heap.size := by omega
                  replace q_r : w.heap.size + 1 + 1 + 1 + 1 < w24.heap.size := by omega
                  replace q_by : w.heap.size + 1 + 1 + 1 + 1 + 1 < w24.heap.size := by omega
                  replace q_mirror : w12.heap.size < w24.heap.size := by omega
                  replace q_turned : w14.heap.size < w24.heap.size := by omega
                  replace q_other : w21.heap.size < w24.heap.size := by omega
                  have R24_gl := Lib.hid (TRow.below R23_gl.out B24)
                  clear R23_gl
                  have R24_same := Lib.hid (TRow.below R23_same.out B24)
                  clear R23_same
                  have BW24 : Below w.heap.size w w24 := BW23.trans (B24.mono BW23.size)
                  have BX24 : Below w20.heap.size w20 w24 := BX23.trans (B24.mono BX23.size)
                  clear BX23
                  clear hc24 hf24 hb24 hd24 B24 c23_q_0 c23_q_1 c23_q_2 c23_q_3 c23_m_0 c23_m_1 c23_m_2 c23_m_3 c23_r_0 c23_r_1 c23_r_2 c23_r_3 c23_by_0 c23_by_1 c23_mirror_0 c23_mirror_1 c23_mirror_2 c23_mirror_3 c23_turned_0 c23_turned_1 c23_turned_2 c23_turned_3 c23_other_0 c23_other_1 c23_other_2 c23_other_3 BW23
                  have i0 : (0 : Int) ≤ (k : Int) := Int.natCast_nonneg _
                  by_cases hlt : k < GL.length
                  · have i1 : (k : Int) < (GL.length : Int) := by omega
                    have hmem : GL.getD k (0, 0) ∈ GL := by rw [List.getD_eq_getElem?_getD, List.getElem?_eq_getElem hlt]; exact List.getElem_mem hlt
                    have ha := HA.out _ hmem
                    obtain ⟨pa, pc, hpv, hl1, hl2, hcell⟩ := TRow.cells R24_gl.out
                    simp only [Value.slice.injEq] at hpv
                    obtain ⟨hp1, -, hp2⟩ := hpv
                    subst hp1
                    subst hp2
                    obtain ⟨ga, rfl, u1, u2a, u3a, u4a⟩ := hcell k (by omega)
                    clear hcell hl1 hl2 u1
                    clear hmem
                    generalize GL.getD k (0, 0) = x at *
                    obtain ⟨p1, p2⟩ := x
                    simp only at u3a u4a ha
                    obtain ⟨ha1, ha2⟩ := ha
                    generalize lowNum (-p1) p2 = p3 at *
                    generalize lowDen (-p1) p2 = p4 at *
                    have Z3 := Lib.hid (fun W => (show Calls Try.prog 47 #[tv p1 p2] W fun e w' => e = .returned (rv (p3, p4, true)) ∧ Below W.heap.size W w' from by have := implMirrorTurn_any p1 p2 W; rw [ha1] at this; exact this))
                    have HH := Lib.hid (hasT_yes ha2)
                    clear ha1 ha2
                    go_wp2_with fail
                    refine (Z3.out _).mono ?_
                    rintro e25 w25 ⟨rfl, hb25⟩
                    obtain ⟨hc25, hf25⟩ := bcell hb25
                    have hz25 := hb25.size
                    (try simp only [World.size_alloc, World.size_setCell, World.size_drew] at hz25)
                    have B25 : Below w24.heap.size w24 w25 := Below.trans (b := _) (by (repeat' (first | (with_reducible exact Below.refl _ _) | (with_reducible assumption) | (with_reducible refine Below.alloc ?_ ?_ _) | (with_reducible refine Below.drew ?_) | (with_reducible refine below_drewN ?_ _) | (with_reducible refine Below.setCell ?_ ?_ _) | (with_reducible refine below_call ?_ ?_ (by assumption)) | go_size))) (hb25.mono (by first | omega | (simp only [World.size_alloc, World.size_setCell, World.size_drew]; omega)))
                    obtain ⟨hd25, -⟩ := bcell B25
                    have c25_q_0 : w25.cell? ⟨w.heap.size + 1 + 1, 0, none⟩ = some (.int .i64 n5) := (hd25 _ _ q_q).trans c24_q_0
                    have c25_q_1 : w25.cell? ⟨w.heap.size + 1 + 1, 1, none⟩ = some (.int .i64 d5) := (hd25 _ _ q_q).trans c24_q_1
                    have c25_q_2 : w25.cell? ⟨w.heap.size + 1 + 1, 2, none⟩ = some (.int .i64 x5) := (hd25 _ _ q_q).trans c24_q_2
                    have c25_q_3 : w25.cell? ⟨w.heap.size + 1 + 1, 3, none⟩ = some (.int .i64 y5) := (hd25 _ _ q_q).trans c24_q_3
                    have c25_m_0 : w25.cell? ⟨w.heap.size + 1 + 1 + 1, 0, none⟩ = some (.int .i64 n6) := (hd25 _ _ q_m).trans c24_m_0
                    have c25_m_1 : w25.cell? ⟨w.heap.size + 1 + 1 + 1, 1, none⟩ = some (.int .i64 d6) := (hd25 _ _ q_m).trans c24_m_1
                    have c25_m_2 : w25.cell? ⟨w.heap.size + 1 + 1 + 1, 2, none⟩ = some (.int .i64 x6) := (hd25 _ _ q_m).trans c24_m_2
                    have c25_m_3 : w25.cell? ⟨w.heap.size + 1 + 1 + 1, 3, none⟩ = some (.int .i64 y6) := (hd25 _ _ q_m).trans c24_m_3
                    have c25_r_0 : w25.cell? ⟨w.heap.size + 1 + 1 + 1 + 1, 0, none⟩ = some (.int .i64 n7) := (hd25 _ _ q_r).trans c24_r_0
                    have c25_r_1 : w25.cell? ⟨w.heap.size + 1 + 1 + 1 + 1, 1, none⟩ = some (.int .i64 d7) := (hd25 _ _ q_r).trans c24_r_1
                    have c25_r_2 : w25.cell? ⟨w.heap.size + 1 + 1 + 1 + 1, 2, none⟩ = some (.int .i64 x7) := (hd25 _ _ q_r).trans c24_r_2
                    have c25_r_3 : w25.cell? ⟨w.heap.size + 1 + 1 + 1 + 1, 3, none⟩ = some (.int .i64 y7) := (hd25 _ _ q_r).trans c24_r_3
                    have c25_by_0 : w25.cell? ⟨w.heap.size + 1 + 1 + 1 + 1 + 1, 0, none⟩ = some (.int .i64 n8) := (hd25 _ _ q_by).trans c24_by_0
                    have c25_by_1 : w25.cell? ⟨w.heap.size + 1 + 1 + 1 + 1 + 1, 1, none⟩ = some (.int .i64 d8) := (hd25 _ _ q_by).trans c24_by_1
                    have c25_mirror_0 : w25.cell? ⟨w12.heap.size, 0, none⟩ = some (.int .i64 m1) := (hd25 _ _ q_mirror).trans c24_mirror_0
                    have c25_mirror_1 : w25.cell? ⟨w12.heap.size, 1, none⟩ = some (.int .i64 m2) := (hd25 _ _ q_mirror).trans c24_mirror_1
                    have c25_mirror_2 : w25.cell? ⟨w12.heap.size, 2, none⟩ = some (.int .i64 m3) := (hd25 _ _ q_mirror).trans c24_mirror_2
                    have c25_mirror_3 : w25.cell? ⟨w12.heap.size, 3, none⟩ = some (.int .i64 m4) := (hd25 _ _ q_mirror).trans c24_mirror_3
                    have c25_turned_0 : w25.cell? ⟨w14.heap.size, 0, none⟩ = some (.int .i64 t1) := (hd25 _ _ q_turned).trans c24_turned_0
                    have c25_turned_1 : w25.cell? ⟨w14.heap.size, 1, none⟩ = some (.int .i64 t2) := (hd25 _ _ q_turned).trans c24_turned_1
                    have c25_turned_2 : w25.cell? ⟨w14.heap.size, 2, none⟩ = some (.int .i64 t3) := (hd25 _ _ q_turned).trans c24_turned_2
                    have c25_turned_3 : w25.cell? ⟨w14.heap.size, 3, none⟩ = some (.int .i64 t4) := (hd25 _ _ q_turned).trans c24_turned_3
                    have c25_other_0 : w25.cell? ⟨w21.heap.size, 0, none⟩ = some (.int .i64 g1) := (hd25 _ _ q_other).trans c24_other_0
                    have c25_other_1 : w25.cell? ⟨w21.heap.size, 1, none⟩ = some (.int .i64 g2) := (hd25 _ _ q_other).trans c24_other_1
                    have c25_other_2 : w25.cell? ⟨w21.heap.size, 2, none⟩ = some (.int .i64 g3) := (hd25 _ _ q_other).trans c24_other_2
                    have c25_other_3 : w25.cell? ⟨w21.heap.size, 3, none⟩ = some (.int .i64 g4) := (hd25 _ _ q_other).trans c24_other_3
                    replace q_q : w.heap.size + 1 + 1 < w25.heap.size := by omega
                    replace q_m : w.heap.size + 1 + 1 + 1 < w25.heap.size := by omega
                    replace q_r : w.heap.size + 1 + 1 + 1 + 1 < w25.heap.size := by omega
                    replace q_by : w.heap.size + 1 + 1 + 1 + 1 + 1 < w25.heap.size := by omega
                    replace q_mirror : w12.heap.size < w25.heap.size := by omega
                    replace q_turned : w14.heap.size < w25.heap.size := by omega
                    replace q_other : w21.heap.size < w25.heap.size := by omega
                    have c25_x_0 : w25.cell? ⟨w24.heap.size, 0, none⟩ = some (.int .i64 p1) := (hc25 _ _ (by go_size)).trans (by go_simp)
                    have c25_x_1 : w25.cell? ⟨w24.heap.size, 1, none⟩ = some (.int .i64 p2) := (hc25 _ _ (by go_size)).trans (by go_simp)
                    have q_x : w24.heap.size < w25.heap.size := by omega
                    have R25_gl := Lib.hid (TRow.below R24_gl.out B25)
                    clear R24_gl
                    have R25_same := Lib.hid (TRow.below R24_same.out B25)
                    clear R24_same
                    have BW25 : Below w.heap.size w w25 := BW24.trans (B25.mono BW24.size)
                    have BX25 : Below w24.heap.size w24 w25 := B25
                    clear hc25 hf25 hb25 hd25 B25 c24_q_0 c24_q_1 c24_q_2 c24_q_3 c24_m_0 c24_m_1 c24_m_2 c24_m_3 c24_r_0 c24_r_1 c24_r_2 c24_r_3 c24_by_0 c24_by_1 c24_mirror_0 c24_mirror_1 c24_mirror_2 c24_mirror_3 c24_turned_0 c24_turned_1 c24_turned_2 c24_turned_3 c24_other_0 c24_other_1 c24_other_2 c24_other_3 BW24
                    go_upto_region 50 with fail
                    have hb26 : Below w25.heap.size w25 (w25.alloc (Obj.cells #[.int .i64 p3, .int .i64 p4] 25)) := by (repeat' (first | (with_reducible exact Below.refl _ _) | (with_reducible assumption) | (with_reducible refine Below.alloc ?_ ?_ _) | (with_reducible refine Below.drew ?_) | (with_reducible refine below_drewN ?_ _) | (with_reducible refine Below.setCell ?_ ?_ _) | (with_reducible refine below_call ?_ ?_ (by assumption)) | go_size))
                    have c26_back_0 : (w25.alloc (Obj.cells #[.int .i64 p3, .int .i64 p4] 25)).cell? ⟨w25.heap.size, 0, none⟩ = some (.int .i64 p3) := by go_simp
                    have c26_back_1 : (w25.alloc (Obj.cells #[.int .i64 p3, .int .i64 p4] 25)).cell? ⟨w25.heap.size, 1, none⟩ = some (.int .i64 p4) := by go_simp
                    have q_back : w25.heap.size < (w25.alloc (Obj.cells #[.int .i64 p3, .int .i64 p4] 25)).heap.size := by go_size
                    generalize (w25.alloc (Obj.cells #[.int .i64 p3, .int .i64 p4] 25)) = w26 at *
                    obtain ⟨hd26, -⟩ := bcell hb26
                    have hz26 := hb26.size
                    have c26_q_0 : w26.cell? ⟨w.heap.size + 1 + 1, 0, none⟩ = some (.int .i64 n5) := (hd26 _ _ q_q).trans c25_q_0
                    have c26_q_1 : w26.cell? ⟨w.heap.size + 1 + 1, 1, none⟩ = some (.int .i64 d5) := (hd26 _ _ q_q).trans c25_q_1
                    have c26_q_2 : w26.cell? ⟨w.heap.size + 1 + 1, 2, none⟩ = some (.int .i64 x5) := (hd26 _ _ q_q).trans c25_q_2
                    have c26_q_3 : w26.cell? ⟨w.heap.size + 1 + 1, 3, none⟩ = some (.int .i64 y5) := (hd26 _ _ q_q).trans c25_q_3
                    have c26_m_0 : w26.cell? ⟨w.heap.size + 1 + 1 + 1, 0, none⟩ = some (.int .i64 n6) := (hd26 _ _ q_m).trans c25_m_0
                    have c26_m_1 : w26.cell? ⟨w.heap.size + 1 + 1 + 1, 1, none⟩ = some (.int .i64 d6) := (hd26 _ _ q_m).trans c25_m_1
                    have c26_m_2 : w26.cell? ⟨w.heap.size + 1 + 1 + 1, 2, none⟩ = some (.int .i64 x6) := (hd26 _ _ q_m).trans c25_m_2
                    have c26_m_3 : w26.cell? ⟨w.heap.size + 1 + 1 + 1, 3, none⟩ = some (.int .i64 y6) := (hd26 _ _ q_m).trans c25_m_3
                    have c26_r_0 : w26.cell? ⟨w.heap.size + 1 + 1 + 1 + 1, 0, none⟩ = some (.int .i64 n7) := (hd26 _ _ q_r).trans c25_r_0
                    have c26_r_1 : w26.cell? ⟨w.heap.size + 1 + 1 + 1 + 1, 1, none⟩ = some (.int .i64 d7) := (hd26 _ _ q_r).trans c25_r_1
                    have c26_r_2 : w26.cell? ⟨w.heap.size + 1 + 1 + 1 + 1, 2, none⟩ = some (.int .i64 x7) := (hd26 _ _ q_r).trans c25_r_2
                    have c26_r_3 : w26.cell? ⟨w.heap.size + 1 + 1 + 1 + 1, 3, none⟩ = some (.int .i64 y7) := (hd26 _ _ q_r).trans c25_r_3
                    have c26_by_0 : w26.cell? ⟨w.heap.size + 1 + 1 + 1 + 1 + 1, 0, none⟩ = some (.int .i64 n8) := (hd26 _ _ q_by).trans c25_by_0
                    have c26_by_1 : w26.cell? ⟨w.heap.size + 1 + 1 + 1 + 1 + 1, 1, none⟩ = some (.int .i64 d8) := (hd26 _ _ q_by).trans c25_by_1
                    have c26_mirror_0 : w26.cell? ⟨w12.heap.size, 0, none⟩ = some (.int .i64 m1) := (hd26 _ _ q_mirror).trans c25_mirror_0
                    have c26_mirror_1 : w26.cell? ⟨w12.heap.size, 1, none⟩ = some (.int .i64 m2) := (hd26 _ _ q_mirror).trans c25_mirror_1
                    have c26_mirror_2 : w26.cell? ⟨w12.heap.size, 2, none⟩ = some (.int .i64 m3) := (hd26 _ _ q_mirror).trans c25_mirror_2
                    have c26_mirror_3 : w26.cell? ⟨w12.heap.size, 3, none⟩ = some (.int .i64 m4) := (hd26 _ _ q_mirror).trans c25_mirror_3
                    have c26_turned_0 : w26.cell? ⟨w14.heap.size, 0, none⟩ = some (.int .i64 t1) := (hd26 _ _ q_turned).trans c25_turned_0
                    have c26_turned_1 : w26.cell? ⟨w14.heap.size, 1, none⟩ = some (.int .i64 t2) := (hd26 _ _ q_turned).trans c25_turned_1
                    have c26_turned_2 : w26.cell? ⟨w14.heap.size, 2, none⟩ = some (.int .i64 t3) := (hd26 _ _ q_turned).trans c25_turned_2
                    have c26_turned_3 : w26.cell? ⟨w14.heap.size, 3, none⟩ = some (.int .i64 t4) := (hd26 _ _ q_turned).trans c25_turned_3
                    have c26_other_0 : w26.cell? ⟨w21.heap.size, 0, none⟩ = some (.int .i64 g1) := (hd26 _ _ q_other).trans c25_other_0
                    have c26_other_1 : w26.cell? ⟨w21.heap.size, 1, none⟩ = some (.int .i64 g2) := (hd26 _ _ q_other).trans c25_other_1
                    have c26_other_2 : w26.cell? ⟨w21.heap.size, 2, none⟩ = some (.int .i64 g3) := (hd26 _ _ q_other).trans c25_other_2
                    have c26_other_3 : w26.cell? ⟨w21.heap.size, 3, none⟩ = some (.int .i64 g4) := (hd26 _ _ q_other).trans c25_other_3
                    have c26_x_0 : w26.cell? ⟨w24.heap.size, 0, none⟩ = some (.int .i64 p1) := (hd26 _ _ q_x).trans c25_x_0
                    have c26_x_1 : w26.cell? ⟨w24.heap.size, 1, none⟩ = some (.int .i64 p2) := (hd26 _ _ q_x).trans c25_x_1
                    replace q_q : w.heap.size + 1 + 1 < w26.heap.size := by omega
                    replace q_m : w.heap.size + 1 + 1 + 1 < w26.heap.size := by omega
                    replace q_r : w.heap.size + 1 + 1 + 1 + 1 < w26.heap.size := by omega
                    replace q_by : w.heap.size + 1 + 1 + 1 + 1 + 1 < w26.heap.size := by omega
                    replace q_mirror : w12.heap.size < w26.heap.size := by omega
                    replace q_turned : w14.heap.size < w26.heap.size := by omega
                    replace q_other : w21.heap.size < w26.heap.size := by omega
                    replace q_x : w24.heap.size < w26.heap.size := by omega
                    have R26_gl := Lib.hid (TRow.below R25_gl.out hb26)
                    clear R25_gl
                    have R26_same := Lib.hid (TRow.below R25_same.out hb26)
                    clear R25_same
                    have BW26 : Below w.heap.size w w26 := BW25.trans (hb26.mono BW25.size)
                    have BX26 : Below w24.heap.size w24 w26 := BX25.trans (hb26.mono BX25.size)
                    clear BX25
                    clear hb26 hd26 c25_q_0 c25_q_1 c25_q_2 c25_q_3 c25_m_0 c25_m_1 c25_m_2 c25_m_3 c25_r_0 c25_r_1 c25_r_2 c25_r_3 c25_by_0 c25_by_1 c25_mirror_0 c25_mirror_1 c25_mirror_2 c25_mirror_3 c25_turned_0 c25_turned_1 c25_turned_2 c25_turned_3 c25_other_0 c25_other_1 c25_other_2 c25_other_3 c25_x_0 c25_x_1 BW25
                    go_wp2_with fail
                    refine (wHas_is GL _ _ _ _ _ HH.out R26_gl.out HGL.out).mono ?_
                    rintro e27 w27 ⟨rfl, hb27⟩
                    obtain ⟨hc27, hf27⟩ := bcell hb27
                    have hz27 := hb27.size
                    (try simp only [World.size_alloc, World.size_setCell, World.size_drew] at hz27)
                    have B27 : Below w26.heap.size w26 w27 := Below.trans (b := _) (by (repeat' (first | (with_reducible exact Below.refl _ _) | (with_reducible assumption) | (with_reducible refine Below.alloc ?_ ?_ _) | (with_reducible refine Below.drew ?_) | (with_reducible refine below_drewN ?_ _) | (with_reducible refine Below.setCell ?_ ?_ _) | (with_reducible refine below_call ?_ ?_ (by assumption)) | go_size))) (hb27.mono (by first | omega | (simp only [World.size_alloc, World.size_setCell, World.size_drew]; omega)))
                    obtain ⟨hd27, -⟩ := bcell B27
                    have c27_q_0 : w27.cell? ⟨w.heap.size + 1 + 1, 0, none⟩ = some (.int .i64 n5) := (hd27 _ _ q_q).trans c26_q_0
                    have c27_q_1 : w27.cell? ⟨w.heap.size + 1 + 1, 1, none⟩ = some (.int .i64 d5) := (hd27 _ _ q_q).trans c26_q_1
                    have c27_q_2 : w27.cell? ⟨w.heap.size + 1 + 1, 2, none⟩ = some (.int .i64 x5) := (hd27 _ _ q_q).trans c26_q_2
                    have c27_q_3 : w27.cell? ⟨w.heap.size + 1 + 1, 3, none⟩ = some (.int .i64 y5) := (hd27 _ _ q_q).trans c26_q_3
                    have c27_m_0 : w27.cell? ⟨w.heap.size + 1 + 1 + 1, 0, none⟩ = some (.int .i64 n6) := (hd27 _ _ q_m).trans c26_m_0
                    have c27_m_1 : w27.cell? ⟨w.heap.size + 1 + 1 + 1, 1, none⟩ = some (.int .i64 d6) := (hd27 _ _ q_m).trans c26_m_1
                    have c27_m_2 : w27.cell? ⟨w.heap.size + 1 + 1 + 1, 2, none⟩ = some (.int .i64 x6) := (hd27 _ _ q_m).trans c26_m_2
                    have c27_m_3 : w27.cell? ⟨w.heap.size + 1 + 1 + 1, 3, none⟩ = some (.int .i64 y6) := (hd27 _ _ q_m).trans c26_m_3
                    have c27_r_0 : w27.cell? ⟨w.heap.size + 1 + 1 + 1 + 1, 0, none⟩ = some (.int .i64 n7) := (hd27 _ _ q_r).trans c26_r_0
                    have c27_r_1 : w27.cell? ⟨w.heap.size + 1 + 1 + 1 + 1, 1, none⟩ = some (.int .i64 d7) := (hd27 _ _ q_r).trans c26_r_1
                    have c27_r_2 : w27.cell? ⟨w.heap.size + 1 + 1 + 1 + 1, 2, none⟩ = some (.int .i64 x7) := (hd27 _ _ q_r).trans c26_r_2
                    have c27_r_3 : w27.cell? ⟨w.heap.size + 1 + 1 + 1 + 1, 3, none⟩ = some (.int .i64 y7) := (hd27 _ _ q_r).trans c26_r_3
                    have c27_by_0 : w27.cell? ⟨w.heap.size + 1 + 1 + 1 + 1 + 1, 0, none⟩ = some (.int .i64 n8) := (hd27 _ _ q_by).trans c26_by_0
                    have c27_by_1 : w27.cell? ⟨w.heap.size + 1 + 1 + 1 + 1 + 1, 1, none⟩ = some (.int .i64 d8) := (hd27 _ _ q_by).trans c26_by_1
                    have c27_mirror_0 : w27.cell? ⟨w12.heap.size, 0, none⟩ = some (.int .i64 m1) := (hd27 _ _ q_mirror).trans c26_mirror_0
                    have c27_mirror_1 : w27.cell? ⟨w12.heap.size, 1, none⟩ = some (.int .i64 m2) := (hd27 _ _ q_mirror).trans c26_mirror_1
                    have c27_mirror_2 : w27.cell? ⟨w12.heap.size, 2, none⟩ = some (.int .i64 m3) := (hd27 _ _ q_mirror).trans c26_mirror_2
                    have c27_mirror_3 : w27.cell? ⟨w12.heap.size, 3, none⟩ = some (.int .i64 m4) := (hd27 _ _ q_mirror).trans c26_mirror_3
                    have c27_turned_0 : w27.cell? ⟨w14.heap.size, 0, none⟩ = some (.int .i64 t1) := (hd27 _ _ q_turned).trans c26_turned_0
                    have c27_turned_1 : w27.cell? ⟨w14.heap.size, 1, none⟩ = some (.int .i64 t2) := (hd27 _ _ q_turned).trans c26_turned_1
                    have c27_turned_2 : w27.cell? ⟨w14.heap.size, 2, none⟩ = some (.int .i64 t3) := (hd27 _ _ q_turned).trans c26_turned_2
                    have c27_turned_3 : w27.cell? ⟨w14.heap.size, 3, none⟩ = some (.int .i64 t4) := (hd27 _ _ q_turned).trans c26_turned_3
                    have c27_other_0 : w27.cell? ⟨w21.heap.size, 0, none⟩ = some (.int .i64 g1) := (hd27 _ _ q_other).trans c26_other_0
                    have c27_other_1 : w27.cell? ⟨w21.heap.size, 1, none⟩ = some (.int .i64 g2) := (hd27 _ _ q_other).trans c26_other_1
                    have c27_other_2 : w27.cell? ⟨w21.heap.size, 2, none⟩ = some (.int .i64 g3) := (hd27 _ _ q_other).trans c26_other_2
                    have c27_other_3 : w27.cell? ⟨w21.heap.size, 3, none⟩ = some (.int .i64 g4) := (hd27 _ _ q_other).trans c26_other_3
                    have c27_x_0 : w27.cell? ⟨w24.heap.size, 0, none⟩ = some (.int .i64 p1) := (hd27 _ _ q_x).trans c26_x_0
                    have c27_x_1 : w27.cell? ⟨w24.heap.size, 1, none⟩ = some (.int .i64 p2) := (hd27 _ _ q_x).trans c26_x_1
                    have c27_back_0 : w27.cell? ⟨w25.heap.size, 0, none⟩ = some (.int .i64 p3) := (hd27 _ _ q_back).trans c26_back_0
                    have c27_back_1 : w27.cell? ⟨w25.heap.size, 1, none⟩ = some (.int .i64 p4) := (hd27 _ _ q_back).trans c26_back_1
                    replace q_q : w.heap.size + 1 + 1 < w27.heap.size := by omega
                    replace q_m : w.heap.size + 1 + 1 + 1 < w27.heap.size := by omega
                    replace q_r : w.heap.size + 1 + 1 + 1 + 1 < w27.heap.size := by omega
                    replace q_by : w.heap.size + 1 + 1 + 1 + 1 + 1 < w27.heap.size := by omega
                    replace q_mirror : w12.heap.size < w27.heap.size := by omega
                    replace q_turned : w14.heap.size < w27.heap.size := by omega
                    replace q_other : w21.heap.size < w27.heap.size := by omega
                    replace q_x : w24.heap.size < w27.heap.size := by omega
                    replace q_back : w25.heap.size < w27.heap.size := by omega
                    have R27_gl := Lib.hid (TRow.below R26_gl.out B27)
                    clear R26_gl
                    have R27_same := Lib.hid (TRow.below R26_same.out B27)
                    clear R26_same
                    have BW27 : Below w.heap.size w w27 := BW26.trans (B27.mono BW26.size)
                    have BX27 : Below w24.heap.size w24 w27 := BX26.trans (B27.mono BX26.size)
                    clear BX26
                    clear hc27 hf27 hb27 hd27 B27 c26_q_0 c26_q_1 c26_q_2 c26_q_3 c26_m_0 c26_m_1 c26_m_2 c26_m_3 c26_r_0 c26_r_1 c26_r_2 c26_r_3 c26_by_0 c26_by_1 c26_mirror_0 c26_mirror_1 c26_mirror_2 c26_mirror_3 c26_turned_0 c26_turned_1 c26_turned_2 c26_turned_3 c26_other_0 c26_other_1 c26_other_2 c26_other_3 c26_x_0 c26_x_1 c26_back_0 c26_back_1 BW26
                    go_wp2_with fail
                    go_roundw
                    case rel => exact ⟨k + 1, by omega, by go_num, hb24'.trans (BX27.mono hb24'.size)⟩
                    case measure => simp [RowKit.intOf]; omega
                  have hrelB := BX24
                  go_wp2_with fail
                  go_meet
                  case rel => exact hrelB
          case rest =>
            have hb21 := hcut
            obtain ⟨w21, hw21⟩ : ∃ x : World, x = wc := ⟨_, rfl⟩
            subst hw21
            obtain ⟨hc21, hf21⟩ := bcell hb21
            have hz21 := hb21.size
            (try simp only [World.size_alloc, World.size_setCell, World.size_drew] at hz21)
            have B21 : Below w20.heap.size w20 w21 := Below.trans (b := _) (by (repeat' (first | (with_reducible exact Below.refl _ _) | (with_reducible assumption) | (with_reducible refine Below.alloc ?_ ?_ _) | (with_reducible refine Below.drew ?_) | (with_reducible refine below_drewN ?_ _) | (with_reducible refine Below.setCell ?_ ?_ _) | (with_reducible refine below_call ?_ ?_ (by assumption)) | go_size))) (hb21.mono (by first | omega | (simp only [World.size_alloc, World.size_setCell, World.size_drew]; omega)))
            obtain ⟨hd21, -⟩ := bcell B21
            have c21_q_0 : w21.cell? ⟨w.heap.size + 1 + 1, 0, none⟩ = some (.int .i64 n5) := (hd21 _ _ q_q).trans c20_q_0
            have c21_q_1 : w21.cell? ⟨w.heap.size + 1 + 1, 1, none⟩ = some (.int .i64 d5) := (hd21 _ _ q_q).trans c20_q_1
            have c21_q_2 : w21.cell? ⟨w.heap.size + 1 + 1, 2, none⟩ = some (.int .i64 x5) := (hd21 _ _ q_q).trans c20_q_2
            have c21_q_3 : w21.cell? ⟨w.heap.size + 1 + 1, 3, none⟩ = some (.int .i64 y5) := (hd21 _ _ q_q).trans c20_q_3
            have c21_m_0 : w21.cell? ⟨w.heap.size + 1 + 1 + 1, 0, none⟩ = some (.int .i64 n6) := (hd21 _ _ q_m).trans c20_m_0
            have c21_m_1 : w21.cell? ⟨w.heap.size + 1 + 1 + 1, 1, none⟩ = some (.int .i64 d6) := (hd21 _ _ q_m).trans c20_m_1
            have c21_m_2 : w21.cell? ⟨w.heap.size + 1 + 1 + 1, 2, none⟩ = some (.int .i64 x6) := (hd21 _ _ q_m).trans c20_m_2
            have c21_m_3 : w21.cell? ⟨w.heap.size + 1 + 1 + 1, 3, none⟩ = some (.int .i64 y6) := (hd21 _ _ q_m).trans c20_m_3
            have c21_r_0 : w21.cell? ⟨w.heap.size + 1 + 1 + 1 + 1, 0, none⟩ = some (.int .i64 n7) := (hd21 _ _ q_r).trans c20_r_0
            have c21_r_1 : w21.cell? ⟨w.heap.size + 1 + 1 + 1 + 1, 1, none⟩ = some (.int .i64 d7) := (hd21 _ _ q_r).trans c20_r_1
            have c21_r_2 : w21.cell? ⟨w.heap.size + 1 + 1 + 1 + 1, 2, none⟩ = some (.int .i64 x7) := (hd21 _ _ q_r).trans c20_r_2
            have c21_r_3 : w21.cell? ⟨w.heap.size + 1 + 1 + 1 + 1, 3, none⟩ = some (.int .i64 y7) := (hd21 _ _ q_r).trans c20_r_3
            have c21_by_0 : w21.cell? ⟨w.heap.size + 1 + 1 + 1 + 1 + 1, 0, none⟩ = some (.int .i64 n8) := (hd21 _ _ q_by).trans c20_by_0
            have c21_by_1 : w21.cell? ⟨w.heap.size + 1 + 1 + 1 + 1 + 1, 1, none⟩ = some (.int .i64 d8) := (hd21 _ _ q_by).trans c20_by_1
            have c21_mirror_0 : w21.cell? ⟨w12.heap.size, 0, none⟩ = some (.int .i64 m1) := (hd21 _ _ q_mirror).trans c20_mirror_0
            have c21_mirror_1 : w21.cell? ⟨w12.heap.size, 1, none⟩ = some (.int .i64 m2) := (hd21 _ _ q_mirror).trans c20_mirror_1
            have c21_mirror_2 : w21.cell? ⟨w12.heap.size, 2, none⟩ = some (.int .i64 m3) := (hd21 _ _ q_mirror).trans c20_mirror_2
            have c21_mirror_3 : w21.cell? ⟨w12.heap.size, 3, none⟩ = some (.int .i64 m4) := (hd21 _ _ q_mirror).trans c20_mirror_3
            have c21_turned_0 : w21.cell? ⟨w14.heap.size, 0, none⟩ = some (.int .i64 t1) := (hd21 _ _ q_turned).trans c20_turned_0
            have c21_turned_1 : w21.cell? ⟨w14.heap.size, 1, none⟩ = some (.int .i64 t2) := (hd21 _ _ q_turned).trans c20_turned_1
            have c21_turned_2 : w21.cell? ⟨w14.heap.size, 2, none⟩ = some (.int .i64 t3) := (hd21 _ _ q_turned).trans c20_turned_2
            have c21_turned_3 : w21.cell? ⟨w14.heap.size, 3, none⟩ = some (.int .i64 t4) := (hd21 _ _ q_turned).trans c20_turned_3
            replace q_q : w.heap.size + 1 + 1 < w21.heap.size := by omega
            replace q_m : w.heap.size + 1 + 1 + 1 < w21.heap.size := by omega
            replace q_r : w.heap.size + 1 + 1 + 1 + 1 < w21.heap.size := by omega
            replace q_by : w.heap.size + 1 + 1 + 1 + 1 + 1 < w21.heap.size := by omega
            replace q_mirror : w12.heap.size < w21.heap.size := by omega
            replace q_turned : w14.heap.size < w21.heap.size := by omega
            have R21_gl := Lib.hid (TRow.below R20_gl.out B21)
            clear R20_gl
            have BW21 : Below w.heap.size w w21 := BW20.trans (B21.mono BW20.size)
            clear hc21 hf21 hb21 hd21 B21 c20_q_0 c20_q_1 c20_q_2 c20_q_3 c20_m_0 c20_m_1 c20_m_2 c20_m_3 c20_r_0 c20_r_1 c20_r_2 c20_r_3 c20_by_0 c20_by_1 c20_mirror_0 c20_mirror_1 c20_mirror_2 c20_mirror_3 c20_turned_0 c20_turned_1 c20_turned_2 c20_turned_3 BW20
            clear R21_gl
            clear q_q c21_q_0 c21_q_1 c21_q_2 c21_q_3
            go_upto_if 363 with fail
            go_cut [] from 999 to 999 (fun wx => Below w21.heap.size w21 wx)
            case first =>
              as_aux_lemma =>
                cases mo
                · go_wp2_with fail
                  go_meet
                  case rel => exact Below.refl _ _
                · have h1 := F7.out.2 rfl
                  have Z1 := Lib.hid (fun W => (show Calls Try.prog 27 #[sn m1 m2 m3 m4] W fun e w' => e = .returned (rs (n6, d6, x6, y6, true)) ∧ Below W.heap.size W w' from by have := implMirrorSeen_any m1 m2 m3 m4 W; rw [h1] at this; exact this))
                  clear h1
                  go_wp2_with fail
                  refine (Z1.out _).mono ?_
                  rintro e22 w22 ⟨rfl, hb22⟩
                  obtain ⟨hc22, hf22⟩ := bcell hb22
                  have hz22 := hb22.size
                  (try simp only [World.size_alloc, World.size_setCell, World.size_drew] at hz22)
                  have B22 : Below w21.heap.size w21 w22 := Below.trans (b := _) (by (repeat' (first | (with_reducible exact Below.refl _ _) | (with_reducible assumption) | (with_reducible refine Below.alloc ?_ ?_ _) | (with_reducible refine Below.drew ?_) | (with_reducible refine below_drewN ?_ _) | (with_reducible refine Below.setCell ?_ ?_ _) | (with_reducible refine below_call ?_ ?_ (by assumption)) | go_size))) (hb22.mono (by first | omega | (simp only [World.size_alloc, World.size_setCell, World.size_drew]; omega)))
                  obtain ⟨hd22, -⟩ := bcell B22
                  have c22_m_0 : w22.cell? ⟨w.heap.size + 1 + 1 + 1, 0, none⟩ = some (.int .i64 n6) := (hd22 _ _ q_m).trans c21_m_0
                  have c22_m_1 : w22.cell? ⟨w.heap.size + 1 + 1 + 1, 1, none⟩ = some (.int .i64 d6) := (hd22 _ _ q_m).trans c21_m_1
                  have c22_m_2 : w22.cell? ⟨w.heap.size + 1 + 1 + 1, 2, none⟩ = some (.int .i64 x6) := (hd22 _ _ q_m).trans c21_m_2
                  have c22_m_3 : w22.cell? ⟨w.heap.size + 1 + 1 + 1, 3, none⟩ = some (.int .i64 y6) := (hd22 _ _ q_m).trans c21_m_3
                  have c22_r_0 : w22.cell? ⟨w.heap.size + 1 + 1 + 1 + 1, 0, none⟩ = some (.int .i64 n7) := (hd22 _ _ q_r).trans c21_r_0
                  have c22_r_1 : w22.cell? ⟨w.heap.size + 1 + 1 + 1 + 1, 1, none⟩ = some (.int .i64 d7) := (hd22 _ _ q_r).trans c21_r_1
                  have c22_r_2 : w22.cell? ⟨w.heap.size + 1 + 1 + 1 + 1, 2, none⟩ = some (.int .i64 x7) := (hd22 _ _ q_r).trans c21_r_2
                  have c22_r_3 : w22.cell? ⟨w.heap.size + 1 + 1 + 1 + 1, 3, none⟩ = some (.int .i64 y7) := (hd22 _ _ q_r).trans c21_r_3
                  have c22_by_0 : w22.cell? ⟨w.heap.size + 1 + 1 + 1 + 1 + 1, 0, none⟩ = some (.int .i64 n8) := (hd22 _ _ q_by).trans c21_by_0
                  have c22_by_1 : w22.cell? ⟨w.heap.size + 1 + 1 + 1 + 1 + 1, 1, none⟩ = some (.int .i64 d8) := (hd22 _ _ q_by).trans c21_by_1
                  have c22_mirror_0 : w22.cell? ⟨w12.heap.size, 0, none⟩ = some (.int .i64 m1) := (hd22 _ _ q_mirror).trans c21_mirror_0
                  have c22_mirror_1 : w22.cell? ⟨w12.heap.size, 1, none⟩ = some (.int .i64 m2) := (hd22 _ _ q_mirror).trans c21_mirror_1
                  have c22_mirror_2 : w22.cell? ⟨w12.heap.size, 2, none⟩ = some (.int .i64 m3) := (hd22 _ _ q_mirror).trans c21_mirror_2
                  have c22_mirror_3 : w22.cell? ⟨w12.heap.size, 3, none⟩ = some (.int .i64 m4) := (hd22 _ _ q_mirror).trans c21_mirror_3
                  have c22_turned_0 : w22.cell? ⟨w14.heap.size, 0, none⟩ = some (.int .i64 t1) := (hd22 _ _ q_turned).trans c21_turned_0
                  have c22_turned_1 : w22.cell? ⟨w14.heap.size, 1, none⟩ = some (.int .i64 t2) := (hd22 _ _ q_turned).trans c21_turned_1
                  have c22_turned_2 : w22.cell? ⟨w14.heap.size, 2, none⟩ = some (.int .i64 t3) := (hd22 _ _ q_turned).trans c21_turned_2
                  have c22_turned_3 : w22.cell? ⟨w14.heap.size, 3, none⟩ = some (.int .i64 t4) := (hd22 _ _ q_turned).trans c21_turned_3
                  replace q_m : w.heap.size + 1 + 1 + 1 < w22.heap.size := by omega
                  replace q_r : w.heap.size + 1 + 1 + 1 + 1 < w22.heap.size := by omega
                  replace q_by : w.heap.size + 1 + 1 + 1 + 1 + 1 < w22.heap.size := by omega
                  replace q_mirror : w12.heap.size < w22.heap.size := by omega
                  replace q_turned : w14.heap.size < w22.heap.size := by omega
                  have BW22 : Below w.heap.size w w22 := BW21.trans (B22.mono BW21.size)
                  have BX22 : Below w21.heap.size w21 w22 := B22
                  clear hc22 hf22 hb22 hd22 B22 c21_m_0 c21_m_1 c21_m_2 c21_m_3 c21_r_0 c21_r_1 c21_r_2 c21_r_3 c21_by_0 c21_by_1 c21_mirror_0 c21_mirror_1 c21_mirror_2 c21_mirror_3 c21_turned_0 c21_turned_1 c21_turned_2 c21_turned_3 BW21
                  go_upto_region 55 with fail
                  have hb23 : Below w22.heap.size w22 (w22.alloc (Obj.cells #[.int .i64 n6, .int .i64 d6, .int .i64 x6, .int .i64 y6] 31)) := by (repeat' (first | (with_reducible exact Below.refl _ _) | (with_reducible assumption) | (with_reducible refine Below.alloc ?_ ?_ _) | (with_reducible refine Below.drew ?_) | (with_reducible refine below_drewN ?_ _) | (with_reducible refine Below.setCell ?_ ?_ _) | (with_reducible refine below_call ?_ ?_ (by assumption)) | go_size))
                  have c23_again_0 : (w22.alloc (Obj.cells #[.int .i64 n6, .int .i64 d6, .int .i64 x6, .int .i64 y6] 31)).cell? ⟨w22.heap.size, 0, none⟩ = some (.int .i64 n6) := by go_simp
                  have c23_again_1 : (w22.alloc (Obj.cells #[.int .i64 n6, .int .i64 d6, .int .i64 x6, .int .i64 y6] 31)).cell? ⟨w22.heap.size, 1, none⟩ = some (.int .i64 d6) := by go_simp
                  have c23_again_2 : (w22.alloc (Obj.cells #[.int .i64 n6, .int .i64 d6, .int .i64 x6, .int .i64 y6] 31)).cell? ⟨w22.heap.size, 2, none⟩ = some (.int .i64 x6) := by go_simp
                  have c23_again_3 : (w22.alloc (Obj.cells #[.int .i64 n6, .int .i64 d6, .int .i64 x6, .int .i64 y6] 31)).cell? ⟨w22.heap.size, 3, none⟩ = some (.int .i64 y6) := by go_simp
                  have q_again : w22.heap.size < (w22.alloc (Obj.cells #[.int .i64 n6, .int .i64 d6, .int .i64 x6, .int .i64 y6] 31)).heap.size := by go_size
                  generalize (w22.alloc (Obj.cells #[.int .i64 n6, .int .i64 d6, .int .i64 x6, .int .i64 y6] 31)) = w23 at *
                  obtain ⟨hd23, -⟩ := bcell hb23
                  have hz23 := hb23.size
                  have c23_m_0 : w23.cell? ⟨w.heap.size + 1 + 1 + 1, 0, none⟩ = some (.int .i64 n6) := (hd23 _ _ q_m).trans c22_m_0
                  have c23_m_1 : w23.cell? ⟨w.heap.size + 1 + 1 + 1, 1, none⟩ = some (.int .i64 d6) := (hd23 _ _ q_m).trans c22_m_1
                  have c23_m_2 : w23.cell? ⟨w.heap.size + 1 + 1 + 1, 2, none⟩ = some (.int .i64 x6) := (hd23 _ _ q_m).trans c22_m_2
                  have c23_m_3 : w23.cell? ⟨w.heap.size + 1 + 1 + 1, 3, none⟩ = some (.int .i64 y6) := (hd23 _ _ q_m).trans c22_m_3
                  have c23_r_0 : w23.cell? ⟨w.heap.size + 1 + 1 + 1 + 1, 0, none⟩ = some (.int .i64 n7) := (hd23 _ _ q_r).trans c22_r_0
                  have c23_r_1 : w23.cell? ⟨w.heap.size + 1 + 1 + 1 + 1, 1, none⟩ = some (.int .i64 d7) := (hd23 _ _ q_r).trans c22_r_1
                  have c23_r_2 : w23.cell? ⟨w.heap.size + 1 + 1 + 1 + 1, 2, none⟩ = some (.int .i64 x7) := (hd23 _ _ q_r).trans c22_r_2
                  have c23_r_3 : w23.cell? ⟨w.heap.size + 1 + 1 + 1 + 1, 3, none⟩ = some (.int .i64 y7) := (hd23 _ _ q_r).trans c22_r_3
                  have c23_by_0 : w23.cell? ⟨w.heap.size + 1 + 1 + 1 + 1 + 1, 0, none⟩ = some (.int .i64 n8) := (hd23 _ _ q_by).trans c22_by_0
                  have c23_by_1 : w23.cell? ⟨w.heap.size + 1 + 1 + 1 + 1 + 1, 1, none⟩ = some (.int .i64 d8) := (hd23 _ _ q_by).trans c22_by_1
                  have c23_mirror_0 : w23.cell? ⟨w12.heap.size, 0, none⟩ = some (.int .i64 m1) := (hd23 _ _ q_mirror).trans c22_mirror_0
                  have c23_mirror_1 : w23.cell? ⟨w12.heap.size, 1, none⟩ = some (.int .i64 m2) := (hd23 _ _ q_mirror).trans c22_mirror_1
                  have c23_mirror_2 : w23.cell? ⟨w12.heap.size, 2, none⟩ = some (.int .i64 m3) := (hd23 _ _ q_mirror).trans c22_mirror_2
                  have c23_mirror_3 : w23.cell? ⟨w12.heap.size, 3, none⟩ = some (.int .i64 m4) := (hd23 _ _ q_mirror).trans c22_mirror_3
                  have c23_turned_0 : w23.cell? ⟨w14.heap.size, 0, none⟩ = some (.int .i64 t1) := (hd23 _ _ q_turned).trans c22_turned_0
                  have c23_turned_1 : w23.cell? ⟨w14.heap.size, 1, none⟩ = some (.int .i64 t2) := (hd23 _ _ q_turned).trans c22_turned_1
                  have c23_turned_2 : w23.cell? ⟨w14.heap.size, 2, none⟩ = some (.int .i64 t3) := (hd23 _ _ q_turned).trans c22_turned_2
                  have c23_turned_3 : w23.cell? ⟨w14.heap.size, 3, none⟩ = some (.int .i64 t4) := (hd23 _ _ q_turned).trans c22_turned_3
                  replace q_m : w.heap.size + 1 + 1 + 1 < w23.heap.size := by omega
                  replace q_r : w.heap.size + 1 + 1 + 1 + 1 < w23.heap.size := by omega
                  replace q_by : w.heap.size + 1 + 1 + 1 + 1 + 1 < w23.heap.size := by omega
                  replace q_mirror : w12.heap.size < w23.heap.size := by omega
                  replace q_turned : w14.heap.size < w23.heap.size := by omega
                  have BW23 : Below w.heap.size w w23 := BW22.trans (hb23.mono BW22.size)
                  have BX23 : Below w21.heap.size w21 w23 := BX22.trans (hb23.mono BX22.size)
                  clear BX22
                  clear hb23 hd23 c22_m_0 c22_m_1 c22_m_2 c22_m_3 c22_r_0 c22_r_1 c22_r_2 c22_r_3 c22_by_0 c22_by_1 c22_mirror_0 c22_mirror_1 c22_mirror_2 c22_mirror_3 c22_turned_0 c22_turned_1 c22_turned_2 c22_turned_3 BW22
                  have hrelB := BX23
                  go_wp2_with fail
                  go_meet
                  case rel => exact hrelB
            case rest =>
              have hb22 := hcut
              obtain ⟨w22, hw22⟩ : ∃ x : World, x = wc := ⟨_, rfl⟩
              subst hw22
              obtain ⟨hc22, hf22⟩ := bcell hb22
              have hz22 := hb22.size
              (try simp only [World.size_alloc, World.size_setCell, World.size_drew] at hz22)
              have B22 : Below w21.heap.size w21 w22 := Below.trans (b := _) (by (repeat' (first | (with_reducible exact Below.refl _ _) | (with_reducible assumption) | (with_reducible refine Below.alloc ?_ ?_ _) | (with_reducible refine Below.drew ?_) | (with_reducible refine below_drewN ?_ _) | (with_reducible refine Below.setCell ?_ ?_ _) | (with_reducible refine below_call ?_ ?_ (by assumption)) | go_size))) (hb22.mono (by first | omega | (simp only [World.size_alloc, World.size_setCell, World.size_drew]; omega)))
              obtain ⟨hd22, -⟩ := bcell B22
              have c22_m_0 : w22.cell? ⟨w.heap.size + 1 + 1 + 1, 0, none⟩ = some (.int .i64 n6) := (hd22 _ _ q_m).trans c21_m_0
              have c22_m_1 : w22.cell? ⟨w.heap.size + 1 + 1 + 1, 1, none⟩ = some (.int .i64 d6) := (hd22 _ _ q_m).trans c21_m_1
              have c22_m_2 : w22.cell? ⟨w.heap.size + 1 + 1 + 1, 2, none⟩ = some (.int .i64 x6) := (hd22 _ _ q_m).trans c21_m_2
              have c22_m_3 : w22.cell? ⟨w.heap.size + 1 + 1 + 1, 3, none⟩ = some (.int .i64 y6) := (hd22 _ _ q_m).trans c21_m_3
              have c22_r_0 : w22.cell? ⟨w.heap.size + 1 + 1 + 1 + 1, 0, none⟩ = some (.int .i64 n7) := (hd22 _ _ q_r).trans c21_r_0
              have c22_r_1 : w22.cell? ⟨w.heap.size + 1 + 1 + 1 + 1, 1, none⟩ = some (.int .i64 d7) := (hd22 _ _ q_r).trans c21_r_1
              have c22_r_2 : w22.cell? ⟨w.heap.size + 1 + 1 + 1 + 1, 2, none⟩ = some (.int .i64 x7) := (hd22 _ _ q_r).trans c21_r_2
              have c22_r_3 : w22.cell? ⟨w.heap.size + 1 + 1 + 1 + 1, 3, none⟩ = some (.int .i64 y7) := (hd22 _ _ q_r).trans c21_r_3
              have c22_by_0 : w22.cell? ⟨w.heap.size + 1 + 1 + 1 + 1 + 1, 0, none⟩ = some (.int .i64 n8) := (hd22 _ _ q_by).trans c21_by_0
              have c22_by_1 : w22.cell? ⟨w.heap.size + 1 + 1 + 1 + 1 + 1, 1, none⟩ = some (.int .i64 d8) := (hd22 _ _ q_by).trans c21_by_1
              have c22_mirror_0 : w22.cell? ⟨w12.heap.size, 0, none⟩ = some (.int .i64 m1) := (hd22 _ _ q_mirror).trans c21_mirror_0
              have c22_mirror_1 : w22.cell? ⟨w12.heap.size, 1, none⟩ = some (.int .i64 m2) := (hd22 _ _ q_mirror).trans c21_mirror_1
              have c22_mirror_2 : w22.cell? ⟨w12.heap.size, 2, none⟩ = some (.int .i64 m3) := (hd22 _ _ q_mirror).trans c21_mirror_2
              have c22_mirror_3 : w22.cell? ⟨w12.heap.size, 3, none⟩ = some (.int .i64 m4) := (hd22 _ _ q_mirror).trans c21_mirror_3
              have c22_turned_0 : w22.cell? ⟨w14.heap.size, 0, none⟩ = some (.int .i64 t1) := (hd22 _ _ q_turned).trans c21_turned_0
              have c22_turned_1 : w22.cell? ⟨w14.heap.size, 1, none⟩ = some (.int .i64 t2) := (hd22 _ _ q_turned).trans c21_turned_1
              have c22_turned_2 : w22.cell? ⟨w14.heap.size, 2, none⟩ = some (.int .i64 t3) := (hd22 _ _ q_turned).trans c21_turned_2
              have c22_turned_3 : w22.cell? ⟨w14.heap.size, 3, none⟩ = some (.int .i64 t4) := (hd22 _ _ q_turned).trans c21_turned_3
              replace q_m : w.heap.size + 1 + 1 + 1 < w22.heap.size := by omega
              replace q_r : w.heap.size + 1 + 1 + 1 + 1 < w22.heap.size := by omega
              replace q_by : w.heap.size + 1 + 1 + 1 + 1 + 1 < w22.heap.size := by omega
              replace q_mirror : w12.heap.size < w22.heap.size := by omega
              replace q_turned : w14.heap.size < w22.heap.size := by omega
              have BW22 : Below w.heap.size w w22 := BW21.trans (B22.mono BW21.size)
              clear hc22 hf22 hb22 hd22 B22 c21_m_0 c21_m_1 c21_m_2 c21_m_3 c21_r_0 c21_r_1 c21_r_2 c21_r_3 c21_by_0 c21_by_1 c21_mirror_0 c21_mirror_1 c21_mirror_2 c21_mirror_3 c21_turned_0 c21_turned_1 c21_turned_2 c21_turned_3 BW21
              clear q_m c22_m_0 c22_m_1 c22_m_2 c22_m_3
              clear q_mirror c22_mirror_0 c22_mirror_1 c22_mirror_2 c22_mirror_3
              go_upto_if 376 with fail
              go_cut [] from 999 to 999 (fun wx => Below w22.heap.size w22 wx)
              case first =>
                as_aux_lemma =>
                  cases uo
                  · go_wp2_with fail
                    go_meet
                    case rel => exact Below.refl _ _
                  · obtain ⟨h1, h2⟩ := F8.out rfl
                    generalize lowNum (-n8) d8 = p1 at *
                    generalize lowDen (-n8) d8 = p2 at *
                    have Z1 := Lib.hid (fun W => (show Calls Try.prog 47 #[tv n8 d8] W fun e w' => e = .returned (rv (p1, p2, true)) ∧ Below W.heap.size W w' from by have := implMirrorTurn_any n8 d8 W; rw [h1] at this; exact this))
                    have Z2 := Lib.hid (fun W => (show Calls Try.prog 39 #[sn t1 t2 t3 t4, tv p1 p2] W fun e w' => e = .returned (rs (n7, d7, x7, y7, true)) ∧ Below W.heap.size W w' from by have := implTurnSeen_any t1 t2 t3 t4 p1 p2 W; rw [h2] at this; exact this))
                    clear h1 h2
                    go_wp2_with fail
                    refine (Z1.out _).mono ?_
                    rintro e23 w23 ⟨rfl, hb23⟩
                    obtain ⟨hc23, hf23⟩ := bcell hb23
                    have hz23 := hb23.size
                    (try simp only [World.size_alloc, World.size_setCell, World.size_drew] at hz23)
                    have B23 : Below w22.heap.size w22 w23 := Below.trans (b := _) (by (repeat' (first | (with_reducible exact Below.refl _ _) | (with_reducible assumption) | (with_reducible refine Below.alloc ?_ ?_ _) | (with_reducible refine Below.drew ?_) | (with_reducible refine below_drewN ?_ _) | (with_reducible refine Below.setCell ?_ ?_ _) | (with_reducible refine below_call ?_ ?_ (by assumption)) | go_size))) (hb23.mono (by first | omega | (simp only [World.size_alloc, World.size_setCell, World.size_drew]; omega)))
                    obtain ⟨hd23, -⟩ := bcell B23
                    have c23_r_0 : w23.cell? ⟨w.heap.size + 1 + 1 + 1 + 1, 0, none⟩ = some (.int .i64 n7) := (hd23 _ _ q_r).trans c22_r_0
                    have c23_r_1 : w23.cell? ⟨w.heap.size + 1 + 1 + 1 + 1, 1, none⟩ = some (.int .i64 d7) := (hd23 _ _ q_r).trans c22_r_1
                    have c23_r_2 : w23.cell? ⟨w.heap.size + 1 + 1 + 1 + 1, 2, none⟩ = some (.int .i64 x7) := (hd23 _ _ q_r).trans c22_r_2
                    have c23_r_3 : w23.cell? ⟨w.heap.size + 1 + 1 + 1 + 1, 3, none⟩ = some (.int .i64 y7) := (hd23 _ _ q_r).trans c22_r_3
                    have c23_by_0 : w23.cell? ⟨w.heap.size + 1 + 1 + 1 + 1 + 1, 0, none⟩ = some (.int .i64 n8) := (hd23 _ _ q_by).trans c22_by_0
                    have c23_by_1 : w23.cell? ⟨w.heap.size + 1 + 1 + 1 + 1 + 1, 1, none⟩ = some (.int .i64 d8) := (hd23 _ _ q_by).trans c22_by_1
                    have c23_turned_0 : w23.cell? ⟨w14.heap.size, 0, none⟩ = some (.int .i64 t1) := (hd23 _ _ q_turned).trans c22_turned_0
                    have c23_turned_1 : w23.cell? ⟨w14.heap.size, 1, none⟩ = some (.int .i64 t2) := (hd23 _ _ q_turned).trans c22_turned_1
                    have c23_turned_2 : w23.cell? ⟨w14.heap.size, 2, none⟩ = some (.int .i64 t3) := (hd23 _ _ q_turned).trans c22_turned_2
                    have c23_turned_3 : w23.cell? ⟨w14.heap.size, 3, none⟩ = some (.int .i64 t4) := (hd23 _ _ q_turned).trans c22_turned_3
                    replace q_r : w.heap.size + 1 + 1 + 1 + 1 < w23.heap.size := by omega
                    replace q_by : w.heap.size + 1 + 1 + 1 + 1 + 1 < w23.heap.size := by omega
                    replace q_turned : w14.heap.size < w23.heap.size := by omega
                    have BW23 : Below w.heap.size w w23 := BW22.trans (B23.mono BW22.size)
                    have BX23 : Below w22.heap.size w22 w23 := B23
                    clear hc23 hf23 hb23 hd23 B23 c22_r_0 c22_r_1 c22_r_2 c22_r_3 c22_by_0 c22_by_1 c22_turned_0 c22_turned_1 c22_turned_2 c22_turned_3 BW22
                    go_wp2_with fail
                    refine (Z2.out _).mono ?_
                    rintro e24 w24 ⟨rfl, hb24⟩
                    obtain ⟨hc24, hf24⟩ := bcell hb24
                    have hz24 := hb24.size
                    (try simp only [World.size_alloc, World.size_setCell, World.size_drew] at hz24)
                    have B24 : Below w23.heap.size w23 w24 := Below.trans (b := _) (by (repeat' (first | (with_reducible exact Below.refl _ _) | (with_reducible assumption) | (with_reducible refine Below.alloc ?_ ?_ _) | (with_reducible refine Below.drew ?_) | (with_reducible refine below_drewN ?_ _) | (with_reducible refine Below.setCell ?_ ?_ _) | (with_reducible refine below_call ?_ ?_ (by assumption)) | go_size))) (hb24.mono (by first | omega | (simp only [World.size_alloc, World.size_setCell, World.size_drew]; omega)))
                    obtain ⟨hd24, -⟩ := bcell B24
                    have c24_r_0 : w24.cell? ⟨w.heap.size + 1 + 1 + 1 + 1, 0, none⟩ = some (.int .i64 n7) := (hd24 _ _ q_r).trans c23_r_0
                    have c24_r_1 : w24.cell? ⟨w.heap.size + 1 + 1 + 1 + 1, 1, none⟩ = some (.int .i64 d7) := (hd24 _ _ q_r).trans c23_r_1
                    have c24_r_2 : w24.cell? ⟨w.heap.size + 1 + 1 + 1 + 1, 2, none⟩ = some (.int .i64 x7) := (hd24 _ _ q_r).trans c23_r_2
                    have c24_r_3 : w24.cell? ⟨w.heap.size + 1 + 1 + 1 + 1, 3, none⟩ = some (.int .i64 y7) := (hd24 _ _ q_r).trans c23_r_3
                    have c24_by_0 : w24.cell? ⟨w.heap.size + 1 + 1 + 1 + 1 + 1, 0, none⟩ = some (.int .i64 n8) := (hd24 _ _ q_by).trans c23_by_0
                    have c24_by_1 : w24.cell? ⟨w.heap.size + 1 + 1 + 1 + 1 + 1, 1, none⟩ = some (.int .i64 d8) := (hd24 _ _ q_by).trans c23_by_1
                    have c24_turned_0 : w24.cell? ⟨w14.heap.size, 0, none⟩ = some (.int .i64 t1) := (hd24 _ _ q_turned).trans c23_turned_0
                    have c24_turned_1 : w24.cell? ⟨w14.heap.size, 1, none⟩ = some (.int .i64 t2) := (hd24 _ _ q_turned).trans c23_turned_1
                    have c24_turned_2 : w24.cell? ⟨w14.heap.size, 2, none⟩ = some (.int .i64 t3) := (hd24 _ _ q_turned).trans c23_turned_2
                    have c24_turned_3 : w24.cell? ⟨w14.heap.size, 3, none⟩ = some (.int .i64 t4) := (hd24 _ _ q_turned).trans c23_turned_3
                    replace q_r : w.heap.size + 1 + 1 + 1 + 1 < w24.heap.size := by omega
                    replace q_by : w.heap.size + 1 + 1 + 1 + 1 + 1 < w24.heap.size := by omega
                    replace q_turned : w14.heap.size < w24.heap.size := by omega
                    have c24_away_0 : w24.cell? ⟨w23.heap.size, 0, none⟩ = some (.int .i64 p1) := (hc24 _ _ (by go_size)).trans (by go_simp)
                    have c24_away_1 : w24.cell? ⟨w23.heap.size, 1, none⟩ = some (.int .i64 p2) := (hc24 _ _ (by go_size)).trans (by go_simp)
                    have q_away : w23.heap.size < w24.heap.size := by omega
                    have BW24 : Below w.heap.size w w24 := BW23.trans (B24.mono BW23.size)
                    have BX24 : Below w22.heap.size w22 w24 := BX23.trans (B24.mono BX23.size)
                    clear BX23
                    clear hc24 hf24 hb24 hd24 B24 c23_r_0 c23_r_1 c23_r_2 c23_r_3 c23_by_0 c23_by_1 c23_turned_0 c23_turned_1 c23_turned_2 c23_turned_3 BW23
                    go_upto_region 62 with fail
                    have hb25 : Below w24.heap.size w24 (w24.alloc (Obj.cells #[.int .i64 n7, .int .i64 d7, .int .i64 x7, .int .i64 y7] 31)) := by (repeat' (first | (with_reducible exact Below.refl _ _) | (with_reducible assumption) | (with_reducible refine Below.alloc ?_ ?_ _) | (with_reducible refine Below.drew ?_) | (with_reducible refine below_drewN ?_ _) | (with_reducible refine Below.setCell ?_ ?_ _) | (with_reducible refine below_call ?_ ?_ (by assumption)) | go_size))
                    have c25_back_0 : (w24.alloc (Obj.cells #[.int .i64 n7, .int .i64 d7, .int .i64 x7, .int .i64 y7] 31)).cell? ⟨w24.heap.size, 0, none⟩ = some (.int .i64 n7) := by go_simp
                    have c25_back_1 : (w24.alloc (Obj.cells #[.int .i64 n7, .int .i64 d7, .int .i64 x7, .int .i64 y7] 31)).cell? ⟨w24.heap.size, 1, none⟩ = some (.int .i64 d7) := by go_simp
                    have c25_back_2 : (w24.alloc (Obj.cells #[.int .i64 n7, .int .i64 d7, .int .i64 x7, .int .i64 y7] 31)).cell? ⟨w24.heap.size, 2, none⟩ = some (.int .i64 x7) := by go_simp
                    have c25_back_3 : (w24.alloc (Obj.cells #[.int .i64 n7, .int .i64 d7, .int .i64 x7, .int .i64 y7] 31)).cell? ⟨w24.heap.size, 3, none⟩ = some (.int .i64 y7) := by go_simp
                    have q_back : w24.heap.size < (w24.alloc (Obj.cells #[.int .i64 n7, .int .i64 d7, .int .i64 x7, .int .i64 y7] 31)).heap.size := by go_size
                    generalize (w24.alloc (Obj.cells #[.int .i64 n7, .int .i64 d7, .int .i64 x7, .int .i64 y7] 31)) = w25 at *
                    obtain ⟨hd25, -⟩ := bcell hb25
                    have hz25 := hb25.size
                    have c25_r_0 : w25.cell? ⟨w.heap.size + 1 + 1 + 1 + 1, 0, none⟩ = some (.int .i64 n7) := (hd25 _ _ q_r).trans c24_r_0
                    have c25_r_1 : w25.cell? ⟨w.heap.size + 1 + 1 + 1 + 1, 1, none⟩ = some (.int .i64 d7) := (hd25 _ _ q_r).trans c24_r_1
                    have c25_r_2 : w25.cell? ⟨w.heap.size + 1 + 1 + 1 + 1, 2, none⟩ = some (.int .i64 x7) := (hd25 _ _ q_r).trans c24_r_2
                    have c25_r_3 : w25.cell? ⟨w.heap.size + 1 + 1 + 1 + 1, 3, none⟩ = some (.int .i64 y7) := (hd25 _ _ q_r).trans c24_r_3
                    have c25_by_0 : w25.cell? ⟨w.heap.size + 1 + 1 + 1 + 1 + 1, 0, none⟩ = some (.int .i64 n8) := (hd25 _ _ q_by).trans c24_by_0
                    have c25_by_1 : w25.cell? ⟨w.heap.size + 1 + 1 + 1 + 1 + 1, 1, none⟩ = some (.int .i64 d8) := (hd25 _ _ q_by).trans c24_by_1
                    have c25_turned_0 : w25.cell? ⟨w14.heap.size, 0, none⟩ = some (.int .i64 t1) := (hd25 _ _ q_turned).trans c24_turned_0
                    have c25_turned_1 : w25.cell? ⟨w14.heap.size, 1, none⟩ = some (.int .i64 t2) := (hd25 _ _ q_turned).trans c24_turned_1
                    have c25_turned_2 : w25.cell? ⟨w14.heap.size, 2, none⟩ = some (.int .i64 t3) := (hd25 _ _ q_turned).trans c24_turned_2
                    have c25_turned_3 : w25.cell? ⟨w14.heap.size, 3, none⟩ = some (.int .i64 t4) := (hd25 _ _ q_turned).trans c24_turned_3
                    have c25_away_0 : w25.cell? ⟨w23.heap.size, 0, none⟩ = some (.int .i64 p1) := (hd25 _ _ q_away).trans c24_away_0
                    have c25_away_1 : w25.cell? ⟨w23.heap.size, 1, none⟩ = some (.int .i64 p2) := (hd25 _ _ q_away).trans c24_away_1
                    replace q_r : w.heap.size + 1 + 1 + 1 + 1 < w25.heap.size := by omega
                    replace q_by : w.heap.size + 1 + 1 + 1 + 1 + 1 < w25.heap.size := by omega
                    replace q_turned : w14.heap.size < w25.heap.size := by omega
                    replace q_away : w23.heap.size < w25.heap.size := by omega
                    have BW25 : Below w.heap.size w w25 := BW24.trans (hb25.mono BW24.size)
                    have BX25 : Below w22.heap.size w22 w25 := BX24.trans (hb25.mono BX24.size)
                    clear BX24
                    clear hb25 hd25 c24_r_0 c24_r_1 c24_r_2 c24_r_3 c24_by_0 c24_by_1 c24_turned_0 c24_turned_1 c24_turned_2 c24_turned_3 c24_away_0 c24_away_1 BW24
                    have hrelB := BX25
                    go_wp2_with fail
                    go_meet
                    case rel => exact hrelB
              case rest =>
                have hb23 := hcut
                obtain ⟨w23, hw23⟩ : ∃ x : World, x = wc := ⟨_, rfl⟩
                subst hw23
                obtain ⟨hc23, hf23⟩ := bcell hb23
                have hz23 := hb23.size
                (try simp only [World.size_alloc, World.size_setCell, World.size_drew] at hz23)
                have B23 : Below w22.heap.size w22 w23 := Below.trans (b := _) (by (repeat' (first | (with_reducible exact Below.refl _ _) | (with_reducible assumption) | (with_reducible refine Below.alloc ?_ ?_ _) | (with_reducible refine Below.drew ?_) | (with_reducible refine below_drewN ?_ _) | (with_reducible refine Below.setCell ?_ ?_ _) | (with_reducible refine below_call ?_ ?_ (by assumption)) | go_size))) (hb23.mono (by first | omega | (simp only [World.size_alloc, World.size_setCell, World.size_drew]; omega)))
                obtain ⟨hd23, -⟩ := bcell B23
                have c23_r_0 : w23.cell? ⟨w.heap.size + 1 + 1 + 1 + 1, 0, none⟩ = some (.int .i64 n7) := (hd23 _ _ q_r).trans c22_r_0
                have c23_r_1 : w23.cell? ⟨w.heap.size + 1 + 1 + 1 + 1, 1, none⟩ = some (.int .i64 d7) := (hd23 _ _ q_r).trans c22_r_1
                have c23_r_2 : w23.cell? ⟨w.heap.size + 1 + 1 + 1 + 1, 2, none⟩ = some (.int .i64 x7) := (hd23 _ _ q_r).trans c22_r_2
                have c23_r_3 : w23.cell? ⟨w.heap.size + 1 + 1 + 1 + 1, 3, none⟩ = some (.int .i64 y7) := (hd23 _ _ q_r).trans c22_r_3
                have c23_by_0 : w23.cell? ⟨w.heap.size + 1 + 1 + 1 + 1 + 1, 0, none⟩ = some (.int .i64 n8) := (hd23 _ _ q_by).trans c22_by_0
                have c23_by_1 : w23.cell? ⟨w.heap.size + 1 + 1 + 1 + 1 + 1, 1, none⟩ = some (.int .i64 d8) := (hd23 _ _ q_by).trans c22_by_1
                have c23_turned_0 : w23.cell? ⟨w14.heap.size, 0, none⟩ = some (.int .i64 t1) := (hd23 _ _ q_turned).trans c22_turned_0
                have c23_turned_1 : w23.cell? ⟨w14.heap.size, 1, none⟩ = some (.int .i64 t2) := (hd23 _ _ q_turned).trans c22_turned_1
                have c23_turned_2 : w23.cell? ⟨w14.heap.size, 2, none⟩ = some (.int .i64 t3) := (hd23 _ _ q_turned).trans c22_turned_2
                have c23_turned_3 : w23.cell? ⟨w14.heap.size, 3, none⟩ = some (.int .i64 t4) := (hd23 _ _ q_turned).trans c22_turned_3
                replace q_r : w.heap.size + 1 + 1 + 1 + 1 < w23.heap.size := by omega
                replace q_by : w.heap.size + 1 + 1 + 1 + 1 + 1 < w23.heap.size := by omega
                replace q_turned : w14.heap.size < w23.heap.size := by omega
                have BW23 : Below w.heap.size w w23 := BW22.trans (B23.mono BW22.size)
                clear hc23 hf23 hb23 hd23 B23 c22_r_0 c22_r_1 c22_r_2 c22_r_3 c22_by_0 c22_by_1 c22_turned_0 c22_turned_1 c22_turned_2 c22_turned_3 BW22
                go_wp2
                go_ret
                exact ⟨rfl, BW23⟩

set_option maxRecDepth 100000 in
theorem lifted (os : Os) (started : os.Started) (H : Type) (enc : TypeId × Value → H) :
    ReturnsInHanded {} Try.checked os 5 .any (Rows.fnDialsTurnedOfAllSpec.pre6 enc Try.prog Try.f5 Rows.fnDialsTurnedOfAllRow.domain false) (Rows.fnDialsTurnedOfAllSpec.post enc Try.prog Try.f5 false true false false) := by
  refine returnsInHanded_of_change (C := Try.checked) Try.own started (by kernel_rfl) Try.func5
    (ChangeSpec.witness6 (enc := enc) (C := Try.checked) false ⟨#[], #[.int .i64 0, .agg #[.int .i64 0, .int .i64 0, .int .i64 0, .int .i64 0], .int .i64 0, .agg #[.int .i64 0, .int .i64 0], .int .i64 0, .agg #[.int .i64 0, .int .i64 0, .int .i64 0, .int .i64 0], .agg #[.int .i64 0, .int .i64 0, .int .i64 0, .int .i64 0], .agg #[.int .i64 0, .int .i64 0, .int .i64 0, .int .i64 0], .agg #[.int .i64 0, .int .i64 0]], []⟩ 8 (by kernel_rfl) (by kernel_rfl) (by kernel_rfl) (by kernel_rfl)) ?_
  intro W base args ds gs before hval0 hW hcnd _
  have hval : ∀ (j : Nat) t v, Try.f5.params[j]? = some t → args[j]? = some v → Value.okWide Try.prog W .any base t v := hval0
  have hW' := hW
  obtain ⟨p, q, hA0, hV, rfl, hfz, hnd⟩ := hW
  have hA : DataW.TrodAll enc Try.prog W 0 (fun _ => true) true Try.f5.params.toList args.toList ds p := hA0
  rw [Try.params5] at hA hval
  obtain ⟨v0, vs0, d_0, ds0, p0, q0, hargs, rfl, rfl, h0, r0⟩ := trodAll_cons hA
  obtain ⟨v1, vs1, d_1, ds1, p1, q1, rfl, rfl, rfl, h1, r1⟩ := trodAll_cons r0
  obtain ⟨v2, vs2, d_2, ds2, p2, q2, rfl, rfl, rfl, h2, r2⟩ := trodAll_cons r1
  obtain ⟨v3, vs3, d_3, ds3, p3, q3, rfl, rfl, rfl, h3, r3⟩ := trodAll_cons r2
  obtain ⟨v4, vs4, d_4, ds4, p4, q4, rfl, rfl, rfl, h4, r4⟩ := trodAll_cons r3
  obtain ⟨v5, vs5, d_5, ds5, p5, q5, rfl, rfl, rfl, h5, r5⟩ := trodAll_cons r4
  obtain ⟨v6, vs6, d_6, ds6, p6, q6, rfl, rfl, rfl, h6, r6⟩ := trodAll_cons r5
  obtain ⟨v7, vs7, d_7, ds7, p7, q7, rfl, rfl, rfl, h7, r7⟩ := trodAll_cons r6
  obtain ⟨v8, vs8, d_8, ds8, p8, q8, rfl, rfl, rfl, h8, r8⟩ := trodAll_cons r7
  obtain ⟨rfl, rfl, rfl⟩ := trodAll_nil r8
  obtain rfl : args = #[v0, v1, v2, v3, v4, v5, v6, v7, v8] := by cases args; simp_all
  obtain ⟨rfl, rfl⟩ := trodVars_none hV
  obtain ⟨a0, rfl, rfl, rfl, w0⟩ := open_int Try.underlying3 (hval 0 3 v0 rfl rfl) h0
  obtain ⟨n1, d1, x1, y1, rfl, rfl, rfl, wn1, wd1, wx1, wy1⟩ := open_iseen (hval 1 31 v1 rfl rfl) h1
  obtain ⟨a2, rfl, rfl, rfl, w2⟩ := open_int Try.underlying3 (hval 2 3 v2 rfl rfl) h2
  obtain ⟨n3, d3, rfl, rfl, rfl, wn3, wd3⟩ := open_iturn (hval 3 25 v3 rfl rfl) h3
  obtain ⟨a4, rfl, rfl, rfl, w4⟩ := open_int Try.underlying3 (hval 4 3 v4 rfl rfl) h4
  obtain ⟨n5, d5, x5, y5, rfl, rfl, rfl, wn5, wd5, wx5, wy5⟩ := open_iseen (hval 5 31 v5 rfl rfl) h5
  obtain ⟨n6, d6, x6, y6, rfl, rfl, rfl, wn6, wd6, wx6, wy6⟩ := open_iseen (hval 6 31 v6 rfl rfl) h6
  obtain ⟨n7, d7, x7, y7, rfl, rfl, rfl, wn7, wd7, wx7, wy7⟩ := open_iseen (hval 7 31 v7 rfl rfl) h7
  obtain ⟨n8, d8, rfl, rfl, rfl, wn8, wd8⟩ := open_iturn (hval 8 25 v8 rfl rfl) h8
  clear hA0 hval0
  refine (walk a0 n1 d1 x1 y1 a2 n3 d3 a4 n5 d5 x5 y5 n6 d6 x6 y6 n7 d7 x7 y7 n8 d8 (i64_of_wf w0) (i64_of_wf wn1) (i64_of_wf wd1) (i64_of_wf wx1) (i64_of_wf wy1) (i64_of_wf w2) (i64_of_wf wn3) (i64_of_wf wd3) (i64_of_wf w4) (i64_of_wf wn5) (i64_of_wf wd5) (i64_of_wf wx5) (i64_of_wf wy5) (i64_of_wf wn6) (i64_of_wf wd6) (i64_of_wf wx6) (i64_of_wf wy6) (i64_of_wf wn7) (i64_of_wf wd7) (i64_of_wf wx7) (i64_of_wf wy7) (i64_of_wf wn8) (i64_of_wf wd8) W).mono fun e W' ⟨he, bel⟩ => ?_
  subst he
  exact ⟨_, rfl, _, _, _, [], _, [], hW', trodAll_mk1 (shut_bool Try.underlying4 _), (trodAll_cons_mk (shut_int Try.underlying3 w0) (trodAll_cons_mk (shut_iseen wn1 wd1 wx1 wy1) (trodAll_cons_mk (shut_int Try.underlying3 w2) (trodAll_cons_mk (shut_iturn wn3 wd3) (trodAll_cons_mk (shut_int Try.underlying3 w4) (trodAll_cons_mk (shut_iseen wn5 wd5 wx5 wy5) (trodAll_cons_mk (shut_iseen wn6 wd6 wx6 wy6) (trodAll_cons_mk (shut_iseen wn7 wd7 wx7 wy7) (trodAll_cons_mk (shut_iturn wn8 wd8) trodAll_mk0))))))))), rfl, bel.frame _, fun h => by cases h⟩

theorem closed : joinedFacts Try.prog 5 Try.f5 Rows.fnDialsTurnedOfAllSpec Rows.fnDialsTurnedOfAllRow = true := by
  unfold joinedFacts
  rw [Try.fMake, Try.fEnter, Try.fLifts, Try.fMaps, Try.fLaid, Try.fHeard, Try.fKeys]
  kernel_rfl
theorem over : Rows.fnDialsTurnedOfAllRow.holds Try.pinned (OpenSpec.ofChange Rows.fnDialsTurnedOfAllSpec) :=
  OpenClaim.holds_of_wide 5 Try.f5 rfl rfl rfl rfl rfl rfl rfl ⟨rfl, rfl, rfl, rfl, rfl⟩ rfl rfl rfl rfl rfl (by kernel_rfl) Try.func5
    closed (of_decide_eq_true (by kernel_rfl)) (by unfold Func.isWrapper; first | (rw [if_pos (by decide +kernel)]; kernel_rfl) | (rw [if_neg (by decide +kernel)]; exact ⟨rfl, rfl⟩))
    (fun os started H enc _ => lifted os started H enc)

end Go.Proofs.Yticdmochedadbaa.fnDialsTurnedOfAll
namespace Go.Proofs.Yticdmochedadbaa
/-- The statement. -/
theorem fnDialsTurnedOfAll_proved : Rows.FnDialsTurnedOfAllSaid := fnDialsTurnedOfAll.over
#print axioms fnDialsTurnedOfAll_proved
end Go.Proofs.Yticdmochedadbaa
