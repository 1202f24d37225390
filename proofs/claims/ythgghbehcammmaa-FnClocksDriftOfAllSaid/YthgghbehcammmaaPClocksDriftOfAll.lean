/- FnClocksDriftOfAll: called with any arguments, the law returns true, and its arguments read behind the call as before. Conditions: none but the row's own. -/
import Derived.Test.YthgghbehcammmaaFacts
import Derived.Test.YthgghbehcammmaaRowI
import Derived.Test.YthgghbehcammmaaRowD
import Derived.Test.YthgghbehcammmaaTa0
import Derived.Test.YthgghbehcammmaaTaE
import Derived.Test.YthgghbehcammmaaDrE
import Derived.Test.YthgghbehcammmaaDrL
import Derived.Test.YthgghbehcammmaaDrift7
import Derived.Test.YthgghbehcammmaaDrift9
import Derived.Test.YthgghbehcammmaaDrift11
import Derived.Test.YthgghbehcammmaaDrift11b
import Derived.Test.YthgghbehcammmaaDrift12
import Derived.Test.YthgghbehcammmaaDrift12b
import Derived.Test.YthgghbehcammmaaDrift13
import Derived.Test.YthgghbehcammmaaLate
import Derived.Deep.DeepCutAuto
set_option linter.unusedSimpArgs false
set_option linter.unusedVariables false
set_option maxRecDepth 100000
namespace Go.Proofs.Ythgghbehcammmaa.fnClocksDriftOfAll
open Go.ChangeShapes Go.WideShapes Go.ChangeAt Go.RowKit
attribute [local go_sem ↓] Go.wp_at_zero Go.wp_at_succ run_neq_same run_neq_turn run_eql_turn run_neq_sameSpan run_neq_span run_neq_sameClock

set_option maxHeartbeats 16000000 in
theorem walk (n0 d0 x0 y0 : Int) (n1 d1 : Int) (n2 d2 x2 y2 : Int) (n3 d3 x3 y3 : Int) (n4 d4 : Int) (kn0 : I64 n0) (kd0 : I64 d0) (kx0 : I64 x0) (ky0 : I64 y0) (kn1 : I64 n1) (kd1 : I64 d1) (kn2 : I64 n2) (kd2 : I64 d2) (kx2 : I64 x2) (ky2 : I64 y2) (kn3 : I64 n3) (kd3 : I64 d3) (kx3 : I64 x3) (ky3 : I64 y3) (kn4 : I64 n4) (kd4 : I64 d4) (w : World) :
    Calls Try.prog 4 #[cv n0 d0 x0 y0, tv n1 d1, cv n2 d2 x2 y2, cv n3 d3 x3 y3, tv n4 d4] w fun e w' => e = .returned (.bool true) ∧ Below w.heap.size w w' := by
  obtain ⟨un, ud, uo, hU⟩ : ∃ x y z, shownT n0 d0 x0 y0 n1 d1 0 = (x, y, z) := ⟨_, _, _, rfl⟩
  obtain ⟨gn, gd, go, hG⟩ : ∃ x y z, shownT n0 d0 x0 y0 n1 d1 1 = (x, y, z) := ⟨_, _, _, rfl⟩
  obtain ⟨fn, fd, fo, hF⟩ : ∃ x y z, firstRightS n2 d2 x2 y2 = (x, y, z) := ⟨_, _, _, rfl⟩
  obtain ⟨rn, rd, ro, hR⟩ : ∃ x y z, rightS n2 d2 x2 y2 = (x, y, z) := ⟨_, _, _, rfl⟩
  obtain ⟨hn, hd, ho, hH⟩ : ∃ x y z, shownS n3 d3 x3 y3 n4 d4 = (x, y, z) := ⟨_, _, _, rfl⟩
  obtain ⟨zn, zd, zp, zq, zo, hZ⟩ : ∃ x y u v z, setS n0 d0 x0 y0 n1 d1 = (x, y, u, v, z) := ⟨_, _, _, _, _, rfl⟩
  obtain ⟨en, ed, eo, hE⟩ : ∃ x y z, addS fn fd rn rd = (x, y, z) := ⟨_, _, _, rfl⟩
  obtain ⟨cb, hcb⟩ : ∃ b, clockB n2 d2 x2 y2 = b := ⟨_, rfl⟩
  obtain ⟨b1, hb1⟩ : ∃ b, b = (uo && go) := ⟨_, rfl⟩
  obtain ⟨b2, hb2⟩ : ∃ b, b = (fo && ro) := ⟨_, rfl⟩
  have Hb1 := Lib.hid hb1
  have Hb2 := Lib.hid hb2
  clear hb1 hb2
  have C1 := Lib.hid (fun W => (show Calls Try.prog 7 #[cv n0 d0 x0 y0, tv n1 d1] W fun e w' => e = .returned (rv (un, ud, uo)) ∧ Below W.heap.size W w' from by have := implShownAfter_any n0 d0 x0 y0 n1 d1 W; rw [hU] at this; exact this))
  have C2 := Lib.hid (fun W => (show Calls Try.prog 8 #[cv n0 d0 x0 y0, tv n1 d1] W fun e w' => e = .returned (rv (un, ud, uo)) ∧ Below W.heap.size W w' from by have := specShownAfter_any n0 d0 x0 y0 n1 d1 kd0 W; rw [hU] at this; exact this))
  have C3 := Lib.hid (fun W => (show Calls Try.prog 9 #[cv n0 d0 x0 y0, tv n1 d1] W fun e w' => e = .returned (rv (gn, gd, go)) ∧ Below W.heap.size W w' from by have := implAheadAfter_any n0 d0 x0 y0 n1 d1 W; rw [hG] at this; exact this))
  have C4 := Lib.hid (fun W => (show Calls Try.prog 10 #[cv n0 d0 x0 y0, tv n1 d1] W fun e w' => e = .returned (rv (gn, gd, go)) ∧ Below W.heap.size W w' from by have := specAheadAfter_any n0 d0 x0 y0 n1 d1 kd0 W; rw [hG] at this; exact this))
  have C5 := Lib.hid (fun W => (show Calls Try.prog 11 #[cv n0 d0 x0 y0, tv n1 d1] W fun e w' => e = .returned (rc (zn, zd, zp, zq, zo)) ∧ Below W.heap.size W w' from by have := implSetRight_any n0 d0 x0 y0 n1 d1 W; rw [hZ] at this; exact this))
  have C6 := Lib.hid (fun W => (show Calls Try.prog 12 #[cv n0 d0 x0 y0, tv n1 d1] W fun e w' => e = .returned (rc (zn, zd, zp, zq, zo)) ∧ Below W.heap.size W w' from by have := specSetRight_any n0 d0 x0 y0 n1 d1 kd0 W; rw [hZ] at this; exact this))
  have C7 := Lib.hid (fun W => (show Calls Try.prog 16 #[cv n2 d2 x2 y2] W fun e w' => e = .returned (rv (fn, fd, fo)) ∧ Below W.heap.size W w' from by have := implFirstRight_any n2 d2 x2 y2 W; rw [hF] at this; exact this))
  have C8 := Lib.hid (fun W => (show Calls Try.prog 17 #[cv n2 d2 x2 y2] W fun e w' => e = .returned (rv (fn, fd, fo)) ∧ Below W.heap.size W w' from by have := specFirstRight_any n2 d2 x2 y2 kd2 W; rw [hF] at this; exact this))
  have C9 := Lib.hid (fun W => (show Calls Try.prog 18 #[cv n2 d2 x2 y2] W fun e w' => e = .returned (rv (rn, rd, ro)) ∧ Below W.heap.size W w' from by have := implRightEvery_any n2 d2 x2 y2 W; rw [hR] at this; exact this))
  have C10 := Lib.hid (fun W => (show Calls Try.prog 19 #[cv n2 d2 x2 y2] W fun e w' => e = .returned (rv (rn, rd, ro)) ∧ Below W.heap.size W w' from by have := specRightEvery_any n2 d2 x2 y2 kd2 W; rw [hR] at this; exact this))
  have C11 := Lib.hid (fun W => (show Calls Try.prog 24 #[cv n3 d3 x3 y3, tv n4 d4] W fun e w' => e = .returned (rv (hn, hd, ho)) ∧ Below W.heap.size W w' from by have := implFirstShown_any n3 d3 x3 y3 n4 d4 W; rw [hH] at this; exact this))
  have C12 := Lib.hid (fun W => (show Calls Try.prog 25 #[cv n3 d3 x3 y3, tv n4 d4] W fun e w' => e = .returned (rv (hn, hd, ho)) ∧ Below W.heap.size W w' from by have := specFirstShown_any n3 d3 x3 y3 n4 d4 kd3 kd4 W; rw [hH] at this; exact this))
  have C13 := Lib.hid (fun W => (show Calls Try.prog 22 #[tv fn fd, tv rn rd] W fun e w' => e = .returned (rv (en, ed, eo)) ∧ Below W.heap.size W w' from by have := implAddSpans_any fn fd rn rd W; rw [hE] at this; exact this))
  have HCB := Lib.hid hcb
  have G1 := Lib.hid (fun (e : uo = true) (e' : go = true) => drift_sum (by rw [hU, e] : shownT n0 d0 x0 y0 n1 d1 0 = (un, ud, true)) (by rw [hG, e'] : shownT n0 d0 x0 y0 n1 d1 1 = (gn, gd, true)))
  have G2 := Lib.hid (fun (e : zo = true) => set_none (by rw [hZ, e] : setS n0 d0 x0 y0 n1 d1 = (zn, zd, zp, zq, true)))
  have G3 := Lib.hid (fun (e : fo = true) => first_none (by rw [hF, e] : firstRightS n2 d2 x2 y2 = (fn, fd, true)))
  have G4 := Lib.hid (fun (e : fo = true) (e' : ro = true) => first_every (by rw [hF, e] : firstRightS n2 d2 x2 y2 = (fn, fd, true)) (by rw [hR, e'] : rightS n2 d2 x2 y2 = (rn, rd, true)))
  have G5 := Lib.hid (fun (e : ho = true) => shown_then (by rw [hH, e] : shownS n3 d3 x3 y3 n4 d4 = (hn, hd, true)))
  have G6 := Lib.hid (fun (e : fo = true) => (firstR_ok (by rw [hF, e] : firstRightS n2 d2 x2 y2 = (fn, fd, true))).1)
  have G7 := Lib.hid (fun (e : ro = true) => (right_ok (by rw [hR, e] : rightS n2 d2 x2 y2 = (rn, rd, true))).1)
  have G8 := Lib.hid (fun (e : fo = true) => (firstR_ok (by rw [hF, e] : firstRightS n2 d2 x2 y2 = (fn, fd, true))).2.2.1)
  have G9 := Lib.hid (fun (e : ro = true) => (right_ok (by rw [hR, e] : rightS n2 d2 x2 y2 = (rn, rd, true))).2.2.1)
  have HE := Lib.hid hE
  clear hU hG hZ hF hR hH hE hcb
  (go_enter Try.func4, Try.ntmps4)
  go_wp2_with fail
  refine (C1.out _).mono ?_
  rintro e1 w1 ⟨rfl, hb1⟩
  obtain ⟨hc1, hf1⟩ := bcell hb1
  have hz1 := hb1.size
  (try simp only [World.size_alloc, World.size_setCell, World.size_drew] at hz1)
  have B1 : Below w.heap.size w w1 := Below.trans (b := _) (by (repeat' (first | (with_reducible exact Below.refl _ _) | (with_reducible assumption) | (with_reducible refine Below.alloc ?_ ?_ _) | (with_reducible refine Below.drew ?_) | (with_reducible refine below_drewN ?_ _) | (with_reducible refine Below.setCell ?_ ?_ _) | (with_reducible refine below_call ?_ ?_ (by assumption)) | go_size))) (hb1.mono (by first | omega | (simp only [World.size_alloc, World.size_setCell, World.size_drew]; omega)))
  obtain ⟨hd1, -⟩ := bcell B1
  have c1_c_0 : w1.cell? ⟨w.heap.size, 0, none⟩ = some (.int .i64 n0) := (hc1 _ _ (by go_size)).trans (by go_simp)
  have c1_c_1 : w1.cell? ⟨w.heap.size, 1, none⟩ = some (.int .i64 d0) := (hc1 _ _ (by go_size)).trans (by go_simp)
  have c1_c_2 : w1.cell? ⟨w.heap.size, 2, none⟩ = some (.int .i64 x0) := (hc1 _ _ (by go_size)).trans (by go_simp)
  have c1_c_3 : w1.cell? ⟨w.heap.size, 3, none⟩ = some (.int .i64 y0) := (hc1 _ _ (by go_size)).trans (by go_simp)
  have q_c : w.heap.size < w1.heap.size := by omega
  have c1_s_0 : w1.cell? ⟨w.heap.size + 1, 0, none⟩ = some (.int .i64 n1) := (hc1 _ _ (by go_size)).trans (by go_simp)
  have c1_s_1 : w1.cell? ⟨w.heap.size + 1, 1, none⟩ = some (.int .i64 d1) := (hc1 _ _ (by go_size)).trans (by go_simp)
  have q_s : w.heap.size + 1 < w1.heap.size := by omega
  have c1_d_0 : w1.cell? ⟨w.heap.size + 1 + 1, 0, none⟩ = some (.int .i64 n2) := (hc1 _ _ (by go_size)).trans (by go_simp)
  have c1_d_1 : w1.cell? ⟨w.heap.size + 1 + 1, 1, none⟩ = some (.int .i64 d2) := (hc1 _ _ (by go_size)).trans (by go_simp)
  have c1_d_2 : w1.cell? ⟨w.heap.size + 1 + 1, 2, none⟩ = some (.int .i64 x2) := (hc1 _ _ (by go_size)).trans (by go_simp)
  have c1_d_3 : w1.cell? ⟨w.heap.size + 1 + 1, 3, none⟩ = some (.int .i64 y2) := (hc1 _ _ (by go_size)).trans (by go_simp)
  have q_d : w.heap.size + 1 + 1 < w1.heap.size := by omega
  have c1_e_0 : w1.cell? ⟨w.heap.size + 1 + 1 + 1, 0, none⟩ = some (.int .i64 n3) := (hc1 _ _ (by go_size)).trans (by go_simp)
  have c1_e_1 : w1.cell? ⟨w.heap.size + 1 + 1 + 1, 1, none⟩ = some (.int .i64 d3) := (hc1 _ _ (by go_size)).trans (by go_simp)
  have c1_e_2 : w1.cell? ⟨w.heap.size + 1 + 1 + 1, 2, none⟩ = some (.int .i64 x3) := (hc1 _ _ (by go_size)).trans (by go_simp)
  have c1_e_3 : w1.cell? ⟨w.heap.size + 1 + 1 + 1, 3, none⟩ = some (.int .i64 y3) := (hc1 _ _ (by go_size)).trans (by go_simp)
  have q_e : w.heap.size + 1 + 1 + 1 < w1.heap.size := by omega
  have c1_t_0 : w1.cell? ⟨w.heap.size + 1 + 1 + 1 + 1, 0, none⟩ = some (.int .i64 n4) := (hc1 _ _ (by go_size)).trans (by go_simp)
  have c1_t_1 : w1.cell? ⟨w.heap.size + 1 + 1 + 1 + 1, 1, none⟩ = some (.int .i64 d4) := (hc1 _ _ (by go_size)).trans (by go_simp)
  have q_t : w.heap.size + 1 + 1 + 1 + 1 < w1.heap.size := by omega
  have BW1 : Below w.heap.size w w1 := B1
  clear hc1 hf1 hb1 hd1 B1 
  go_wp2_with fail
  refine (C2.out _).mono ?_
  rintro e2 w2 ⟨rfl, hb2⟩
  obtain ⟨hc2, hf2⟩ := bcell hb2
  have hz2 := hb2.size
  (try simp only [World.size_alloc, World.size_setCell, World.size_drew] at hz2)
  have B2 : Below w1.heap.size w1 w2 := Below.trans (b := _) (by (repeat' (first | (with_reducible exact Below.refl _ _) | (with_reducible assumption) | (with_reducible refine Below.alloc ?_ ?_ _) | (with_reducible refine Below.drew ?_) | (with_reducible refine below_drewN ?_ _) | (with_reducible refine Below.setCell ?_ ?_ _) | (with_reducible refine below_call ?_ ?_ (by assumption)) | go_size))) (hb2.mono (by first | omega | (simp only [World.size_alloc, World.size_setCell, World.size_drew]; omega)))
  obtain ⟨hd2, -⟩ := bcell B2
  have c2_c_0 : w2.cell? ⟨w.heap.size, 0, none⟩ = some (.int .i64 n0) := (hd2 _ _ q_c).trans c1_c_0
  have c2_c_1 : w2.cell? ⟨w.heap.size, 1, none⟩ = some (.int .i64 d0) := (hd2 _ _ q_c).trans c1_c_1
  have c2_c_2 : w2.cell? ⟨w.heap.size, 2, none⟩ = some (.int .i64 x0) := (hd2 _ _ q_c).trans c1_c_2
  have c2_c_3 : w2.cell? ⟨w.heap.size, 3, none⟩ = some (.int .i64 y0) := (hd2 _ _ q_c).trans c1_c_3
  have c2_s_0 : w2.cell? ⟨w.heap.size + 1, 0, none⟩ = some (.int .i64 n1) := (hd2 _ _ q_s).trans c1_s_0
  have c2_s_1 : w2.cell? ⟨w.heap.size + 1, 1, none⟩ = some (.int .i64 d1) := (hd2 _ _ q_s).trans c1_s_1
  have c2_d_0 : w2.cell? ⟨w.heap.size + 1 + 1, 0, none⟩ = some (.int .i64 n2) := (hd2 _ _ q_d).trans c1_d_0
  have c2_d_1 : w2.cell? ⟨w.heap.size + 1 + 1, 1, none⟩ = some (.int .i64 d2) := (hd2 _ _ q_d).trans c1_d_1
  have c2_d_2 : w2.cell? ⟨w.heap.size + 1 + 1, 2, none⟩ = some (.int .i64 x2) := (hd2 _ _ q_d).trans c1_d_2
  have c2_d_3 : w2.cell? ⟨w.heap.size + 1 + 1, 3, none⟩ = some (.int .i64 y2) := (hd2 _ _ q_d).trans c1_d_3
  have c2_e_0 : w2.cell? ⟨w.heap.size + 1 + 1 + 1, 0, none⟩ = some (.int .i64 n3) := (hd2 _ _ q_e).trans c1_e_0
  have c2_e_1 : w2.cell? ⟨w.heap.size + 1 + 1 + 1, 1, none⟩ = some (.int .i64 d3) := (hd2 _ _ q_e).trans c1_e_1
  have c2_e_2 : w2.cell? ⟨w.heap.size + 1 + 1 + 1, 2, none⟩ = some (.int .i64 x3) := (hd2 _ _ q_e).trans c1_e_2
  have c2_e_3 : w2.cell? ⟨w.heap.size + 1 + 1 + 1, 3, none⟩ = some (.int .i64 y3) := (hd2 _ _ q_e).trans c1_e_3
  have c2_t_0 : w2.cell? ⟨w.heap.size + 1 + 1 + 1 + 1, 0, none⟩ = some (.int .i64 n4) := (hd2 _ _ q_t).trans c1_t_0
  have c2_t_1 : w2.cell? ⟨w.heap.size + 1 + 1 + 1 + 1, 1, none⟩ = some (.int .i64 d4) := (hd2 _ _ q_t).trans c1_t_1
  replace q_c : w.heap.size < w2.heap.size := by omega
  replace q_s : w.heap.size + 1 < w2.heap.size := by omega
  replace q_d : w.heap.size + 1 + 1 < w2.heap.size := by omega
  replace q_e : w.heap.size + 1 + 1 + 1 < w2.heap.size := by omega
  replace q_t : w.heap.size + 1 + 1 + 1 + 1 < w2.heap.size := by omega
  have c2_shown_0 : w2.cell? ⟨w1.heap.size, 0, none⟩ = some (.int .i64 un) := (hc2 _ _ (by go_size)).trans (by go_simp)
  have c2_shown_1 : w2.cell? ⟨w1.heap.size, 1, none⟩ = some (.int .i64 ud) := (hc2 _ _ (by go_size)).trans (by go_simp)
  have q_shown : w1.heap.size < w2.heap.size := by omega
  have BW2 : Below w.heap.size w w2 := BW1.trans (B2.mono BW1.size)
  clear hc2 hf2 hb2 hd2 B2 c1_c_0 c1_c_1 c1_c_2 c1_c_3 c1_s_0 c1_s_1 c1_d_0 c1_d_1 c1_d_2 c1_d_3 c1_e_0 c1_e_1 c1_e_2 c1_e_3 c1_t_0 c1_t_1 BW1
  go_wp2_with fail
  refine (C3.out _).mono ?_
  rintro e3 w3 ⟨rfl, hb3⟩
  obtain ⟨hc3, hf3⟩ := bcell hb3
  have hz3 := hb3.size
  (try simp only [World.size_alloc, World.size_setCell, World.size_drew] at hz3)
  have B3 : Below w2.heap.size w2 w3 := Below.trans (b := _) (by (repeat' (first | (with_reducible exact Below.refl _ _) | (with_reducible assumption) | (with_reducible refine Below.alloc ?_ ?_ _) | (with_reducible refine Below.drew ?_) | (with_reducible refine below_drewN ?_ _) | (with_reducible refine Below.setCell ?_ ?_ _) | (with_reducible refine below_call ?_ ?_ (by assumption)) | go_size))) (hb3.mono (by first | omega | (simp only [World.size_alloc, World.size_setCell, World.size_drew]; omega)))
  obtain ⟨hd3, -⟩ := bcell B3
  have c3_c_0 : w3.cell? ⟨w.heap.size, 0, none⟩ = some (.int .i64 n0) := (hd3 _ _ q_c).trans c2_c_0
  have c3_c_1 : w3.cell? ⟨w.heap.size, 1, none⟩ = some (.int .i64 d0) := (hd3 _ _ q_c).trans c2_c_1
  have c3_c_2 : w3.cell? ⟨w.heap.size, 2, none⟩ = some (.int .i64 x0) := (hd3 _ _ q_c).trans c2_c_2
  have c3_c_3 : w3.cell? ⟨w.heap.size, 3, none⟩ = some (.int .i64 y0) := (hd3 _ _ q_c).trans c2_c_3
  have c3_s_0 : w3.cell? ⟨w.heap.size + 1, 0, none⟩ = some (.int .i64 n1) := (hd3 _ _ q_s).trans c2_s_0
  have c3_s_1 : w3.cell? ⟨w.heap.size + 1, 1, none⟩ = some (.int .i64 d1) := (hd3 _ _ q_s).trans c2_s_1
  have c3_d_0 : w3.cell? ⟨w.heap.size + 1 + 1, 0, none⟩ = some (.int .i64 n2) := (hd3 _ _ q_d).trans c2_d_0
  have c3_d_1 : w3.cell? ⟨w.heap.size + 1 + 1, 1, none⟩ = some (.int .i64 d2) := (hd3 _ _ q_d).trans c2_d_1
  have c3_d_2 : w3.cell? ⟨w.heap.size + 1 + 1, 2, none⟩ = some (.int .i64 x2) := (hd3 _ _ q_d).trans c2_d_2
  have c3_d_3 : w3.cell? ⟨w.heap.size + 1 + 1, 3, none⟩ = some (.int .i64 y2) := (hd3 _ _ q_d).trans c2_d_3
  have c3_e_0 : w3.cell? ⟨w.heap.size + 1 + 1 + 1, 0, none⟩ = some (.int .i64 n3) := (hd3 _ _ q_e).trans c2_e_0
  have c3_e_1 : w3.cell? ⟨w.heap.size + 1 + 1 + 1, 1, none⟩ = some (.int .i64 d3) := (hd3 _ _ q_e).trans c2_e_1
  have c3_e_2 : w3.cell? ⟨w.heap.size + 1 + 1 + 1, 2, none⟩ = some (.int .i64 x3) := (hd3 _ _ q_e).trans c2_e_2
  have c3_e_3 : w3.cell? ⟨w.heap.size + 1 + 1 + 1, 3, none⟩ = some (.int .i64 y3) := (hd3 _ _ q_e).trans c2_e_3
  have c3_t_0 : w3.cell? ⟨w.heap.size + 1 + 1 + 1 + 1, 0, none⟩ = some (.int .i64 n4) := (hd3 _ _ q_t).trans c2_t_0
  have c3_t_1 : w3.cell? ⟨w.heap.size + 1 + 1 + 1 + 1, 1, none⟩ = some (.int .i64 d4) := (hd3 _ _ q_t).trans c2_t_1
  have c3_shown_0 : w3.cell? ⟨w1.heap.size, 0, none⟩ = some (.int .i64 un) := (hd3 _ _ q_shown).trans c2_shown_0
  have c3_shown_1 : w3.cell? ⟨w1.heap.size, 1, none⟩ = some (.int .i64 ud) := (hd3 _ _ q_shown).trans c2_shown_1
  replace q_c : w.heap.size < w3.heap.size := by omega
  replace q_s : w.heap.size + 1 < w3.heap.size := by omega
  replace q_d : w.heap.size + 1 + 1 < w3.heap.size := by omega
  replace q_e : w.heap.size + 1 + 1 + 1 < w3.heap.size := by omega
  replace q_t : w.heap.size + 1 + 1 + 1 + 1 < w3.heap.size := by omega
  replace q_shown : w1.heap.size < w3.heap.size := by omega
  have c3_right_0 : w3.cell? ⟨w2.heap.size, 0, none⟩ = some (.int .i64 un) := (hc3 _ _ (by go_size)).trans (by go_simp)
  have c3_right_1 : w3.cell? ⟨w2.heap.size, 1, none⟩ = some (.int .i64 ud) := (hc3 _ _ (by go_size)).trans (by go_simp)
  have q_right : w2.heap.size < w3.heap.size := by omega
  have BW3 : Below w.heap.size w w3 := BW2.trans (B3.mono BW2.size)
  clear hc3 hf3 hb3 hd3 B3 c2_c_0 c2_c_1 c2_c_2 c2_c_3 c2_s_0 c2_s_1 c2_d_0 c2_d_1 c2_d_2 c2_d_3 c2_e_0 c2_e_1 c2_e_2 c2_e_3 c2_t_0 c2_t_1 c2_shown_0 c2_shown_1 BW2
  go_wp2_with fail
  refine (C4.out _).mono ?_
  rintro e4 w4 ⟨rfl, hb4⟩
  obtain ⟨hc4, hf4⟩ := bcell hb4
  have hz4 := hb4.size
  (try simp only [World.size_alloc, World.size_setCell, World.size_drew] at hz4)
  have B4 : Below w3.heap.size w3 w4 := Below.trans (b := _) (by (repeat' (first | (with_reducible exact Below.refl _ _) | (with_reducible assumption) | (with_reducible refine Below.alloc ?_ ?_ _) | (with_reducible refine Below.drew ?_) | (with_reducible refine below_drewN ?_ _) | (with_reducible refine Below.setCell ?_ ?_ _) | (with_reducible refine below_call ?_ ?_ (by assumption)) | go_size))) (hb4.mono (by first | omega | (simp only [World.size_alloc, World.size_setCell, World.size_drew]; omega)))
  obtain ⟨hd4, -⟩ := bcell B4
  have c4_c_0 : w4.cell? ⟨w.heap.size, 0, none⟩ = some (.int .i64 n0) := (hd4 _ _ q_c).trans c3_c_0
  have c4_c_1 : w4.cell? ⟨w.heap.size, 1, none⟩ = some (.int .i64 d0) := (hd4 _ _ q_c).trans c3_c_1
  have c4_c_2 : w4.cell? ⟨w.heap.size, 2, none⟩ = some (.int .i64 x0) := (hd4 _ _ q_c).trans c3_c_2
  have c4_c_3 : w4.cell? ⟨w.heap.size, 3, none⟩ = some (.int .i64 y0) := (hd4 _ _ q_c).trans c3_c_3
  have c4_s_0 : w4.cell? ⟨w.heap.size + 1, 0, none⟩ = some (.int .i64 n1) := (hd4 _ _ q_s).trans c3_s_0
  have c4_s_1 : w4.cell? ⟨w.heap.size + 1, 1, none⟩ = some (.int .i64 d1) := (hd4 _ _ q_s).trans c3_s_1
  have c4_d_0 : w4.cell? ⟨w.heap.size + 1 + 1, 0, none⟩ = some (.int .i64 n2) := (hd4 _ _ q_d).trans c3_d_0
  have c4_d_1 : w4.cell? ⟨w.heap.size + 1 + 1, 1, none⟩ = some (.int .i64 d2) := (hd4 _ _ q_d).trans c3_d_1
  have c4_d_2 : w4.cell? ⟨w.heap.size + 1 + 1, 2, none⟩ = some (.int .i64 x2) := (hd4 _ _ q_d).trans c3_d_2
  have c4_d_3 : w4.cell? ⟨w.heap.size + 1 + 1, 3, none⟩ = some (.int .i64 y2) := (hd4 _ _ q_d).trans c3_d_3
  have c4_e_0 : w4.cell? ⟨w.heap.size + 1 + 1 + 1, 0, none⟩ = some (.int .i64 n3) := (hd4 _ _ q_e).trans c3_e_0
  have c4_e_1 : w4.cell? ⟨w.heap.size + 1 + 1 + 1, 1, none⟩ = some (.int .i64 d3) := (hd4 _ _ q_e).trans c3_e_1
  have c4_e_2 : w4.cell? ⟨w.heap.size + 1 + 1 + 1, 2, none⟩ = some (.int .i64 x3) := (hd4 _ _ q_e).trans c3_e_2
  have c4_e_3 : w4.cell? ⟨w.heap.size + 1 + 1 + 1, 3, none⟩ = some (.int .i64 y3) := (hd4 _ _ q_e).trans c3_e_3
  have c4_t_0 : w4.cell? ⟨w.heap.size + 1 + 1 + 1 + 1, 0, none⟩ = some (.int .i64 n4) := (hd4 _ _ q_t).trans c3_t_0
  have c4_t_1 : w4.cell? ⟨w.heap.size + 1 + 1 + 1 + 1, 1, none⟩ = some (.int .i64 d4) := (hd4 _ _ q_t).trans c3_t_1
  have c4_shown_0 : w4.cell? ⟨w1.heap.size, 0, none⟩ = some (.int .i64 un) := (hd4 _ _ q_shown).trans c3_shown_0
  have c4_shown_1 : w4.cell? ⟨w1.heap.size, 1, none⟩ = some (.int .i64 ud) := (hd4 _ _ q_shown).trans c3_shown_1
  have c4_right_0 : w4.cell? ⟨w2.heap.size, 0, none⟩ = some (.int .i64 un) := (hd4 _ _ q_right).trans c3_right_0
  have c4_right_1 : w4.cell? ⟨w2.heap.size, 1, none⟩ = some (.int .i64 ud) := (hd4 _ _ q_right).trans c3_right_1
  replace q_c : w.heap.size < w4.heap.size := by omega
  replace q_s : w.heap.size + 1 < w4.heap.size := by omega
  replace q_d : w.heap.size + 1 + 1 < w4.heap.size := by omega
  replace q_e : w.heap.size + 1 + 1 + 1 < w4.heap.size := by omega
  replace q_t : w.heap.size + 1 + 1 + 1 + 1 < w4.heap.size := by omega
  replace q_shown : w1.heap.size < w4.heap.size := by omega
  replace q_right : w2.heap.size < w4.heap.size := by omega
  have c4_ahead_0 : w4.cell? ⟨w3.heap.size, 0, none⟩ = some (.int .i64 gn) := (hc4 _ _ (by go_size)).trans (by go_simp)
  have c4_ahead_1 : w4.cell? ⟨w3.heap.size, 1, none⟩ = some (.int .i64 gd) := (hc4 _ _ (by go_size)).trans (by go_simp)
  have q_ahead : w3.heap.size < w4.heap.size := by omega
  have BW4 : Below w.heap.size w w4 := BW3.trans (B4.mono BW3.size)
  clear hc4 hf4 hb4 hd4 B4 c3_c_0 c3_c_1 c3_c_2 c3_c_3 c3_s_0 c3_s_1 c3_d_0 c3_d_1 c3_d_2 c3_d_3 c3_e_0 c3_e_1 c3_e_2 c3_e_3 c3_t_0 c3_t_1 c3_shown_0 c3_shown_1 c3_right_0 c3_right_1 BW3
  go_wp2_with fail
  refine (C5.out _).mono ?_
  rintro e5 w5 ⟨rfl, hb5⟩
  obtain ⟨hc5, hf5⟩ := bcell hb5
  have hz5 := hb5.size
  (try simp only [World.size_alloc, World.size_setCell, World.size_drew] at hz5)
  have B5 : Below w4.heap.size w4 w5 := Below.trans (b := _) (by (repeat' (first | (with_reducible exact Below.refl _ _) | (with_reducible assumption) | (with_reducible refine Below.alloc ?_ ?_ _) | (with_reducible refine Below.drew ?_) | (with_reducible refine below_drewN ?_ _) | (with_reducible refine Below.setCell ?_ ?_ _) | (with_reducible refine below_call ?_ ?_ (by assumption)) | go_size))) (hb5.mono (by first | omega | (simp only [World.size_alloc, World.size_setCell, World.size_drew]; omega)))
  obtain ⟨hd5, -⟩ := bcell B5
  have c5_c_0 : w5.cell? ⟨w.heap.size, 0, none⟩ = some (.int .i64 n0) := (hd5 _ _ q_c).trans c4_c_0
  have c5_c_1 : w5.cell? ⟨w.heap.size, 1, none⟩ = some (.int .i64 d0) := (hd5 _ _ q_c).trans c4_c_1
  have c5_c_2 : w5.cell? ⟨w.heap.size, 2, none⟩ = some (.int .i64 x0) := (hd5 _ _ q_c).trans c4_c_2
  have c5_c_3 : w5.cell? ⟨w.heap.size, 3, none⟩ = some (.int .i64 y0) := (hd5 _ _ q_c).trans c4_c_3
  have c5_s_0 : w5.cell? ⟨w.heap.size + 1, 0, none⟩ = some (.int .i64 n1) := (hd5 _ _ q_s).trans c4_s_0
  have c5_s_1 : w5.cell? ⟨w.heap.size + 1, 1, none⟩ = some (.int .i64 d1) := (hd5 _ _ q_s).trans c4_s_1
  have c5_d_0 : w5.cell? ⟨w.heap.size + 1 + 1, 0, none⟩ = some (.int .i64 n2) := (hd5 _ _ q_d).trans c4_d_0
  have c5_d_1 : w5.cell? ⟨w.heap.size + 1 + 1, 1, none⟩ = some (.int .i64 d2) := (hd5 _ _ q_d).trans c4_d_1
  have c5_d_2 : w5.cell? ⟨w.heap.size + 1 + 1, 2, none⟩ = some (.int .i64 x2) := (hd5 _ _ q_d).trans c4_d_2
  have c5_d_3 : w5.cell? ⟨w.heap.size + 1 + 1, 3, none⟩ = some (.int .i64 y2) := (hd5 _ _ q_d).trans c4_d_3
  have c5_e_0 : w5.cell? ⟨w.heap.size + 1 + 1 + 1, 0, none⟩ = some (.int .i64 n3) := (hd5 _ _ q_e).trans c4_e_0
  have c5_e_1 : w5.cell? ⟨w.heap.size + 1 + 1 + 1, 1, none⟩ = some (.int .i64 d3) := (hd5 _ _ q_e).trans c4_e_1
  have c5_e_2 : w5.cell? ⟨w.heap.size + 1 + 1 + 1, 2, none⟩ = some (.int .i64 x3) := (hd5 _ _ q_e).trans c4_e_2
  have c5_e_3 : w5.cell? ⟨w.heap.size + 1 + 1 + 1, 3, none⟩ = some (.int .i64 y3) := (hd5 _ _ q_e).trans c4_e_3
  have c5_t_0 : w5.cell? ⟨w.heap.size + 1 + 1 + 1 + 1, 0, none⟩ = some (.int .i64 n4) := (hd5 _ _ q_t).trans c4_t_0
  have c5_t_1 : w5.cell? ⟨w.heap.size + 1 + 1 + 1 + 1, 1, none⟩ = some (.int .i64 d4) := (hd5 _ _ q_t).trans c4_t_1
  have c5_shown_0 : w5.cell? ⟨w1.heap.size, 0, none⟩ = some (.int .i64 un) := (hd5 _ _ q_shown).trans c4_shown_0
  have c5_shown_1 : w5.cell? ⟨w1.heap.size, 1, none⟩ = some (.int .i64 ud) := (hd5 _ _ q_shown).trans c4_shown_1
  have c5_right_0 : w5.cell? ⟨w2.heap.size, 0, none⟩ = some (.int .i64 un) := (hd5 _ _ q_right).trans c4_right_0
  have c5_right_1 : w5.cell? ⟨w2.heap.size, 1, none⟩ = some (.int .i64 ud) := (hd5 _ _ q_right).trans c4_right_1
  have c5_ahead_0 : w5.cell? ⟨w3.heap.size, 0, none⟩ = some (.int .i64 gn) := (hd5 _ _ q_ahead).trans c4_ahead_0
  have c5_ahead_1 : w5.cell? ⟨w3.heap.size, 1, none⟩ = some (.int .i64 gd) := (hd5 _ _ q_ahead).trans c4_ahead_1
  replace q_c : w.heap.size < w5.heap.size := by omega
  replace q_s : w.heap.size + 1 < w5.heap.size := by omega
  replace q_d : w.heap.size + 1 + 1 < w5.heap.size := by omega
  replace q_e : w.heap.size + 1 + 1 + 1 < w5.heap.size := by omega
  replace q_t : w.heap.size + 1 + 1 + 1 + 1 < w5.heap.size := by omega
  replace q_shown : w1.heap.size < w5.heap.size := by omega
  replace q_right : w2.heap.size < w5.heap.size := by omega
  replace q_ahead : w3.heap.size < w5.heap.size := by omega
  have c5_want_0 : w5.cell? ⟨w4.heap.size, 0, none⟩ = some (.int .i64 gn) := (hc5 _ _ (by go_size)).trans (by go_simp)
  have c5_want_1 : w5.cell? ⟨w4.heap.size, 1, none⟩ = some (.int .i64 gd) := (hc5 _ _ (by go_size)).trans (by go_simp)
  have q_want : w4.heap.size < w5.heap.size := by omega
  have BW5 : Below w.heap.size w w5 := BW4.trans (B5.mono BW4.size)
  clear hc5 hf5 hb5 hd5 B5 c4_c_0 c4_c_1 c4_c_2 c4_c_3 c4_s_0 c4_s_1 c4_d_0 c4_d_1 c4_d_2 c4_d_3 c4_e_0 c4_e_1 c4_e_2 c4_e_3 c4_t_0 c4_t_1 c4_shown_0 c4_shown_1 c4_right_0 c4_right_1 c4_ahead_0 c4_ahead_1 BW4
  go_wp2_with fail
  refine (C6.out _).mono ?_
  rintro e6 w6 ⟨rfl, hb6⟩
  obtain ⟨hc6, hf6⟩ := bcell hb6
  have hz6 := hb6.size
  (try simp only [World.size_alloc, World.size_setCell, World.size_drew] at hz6)
  have B6 : Below w5.heap.size w5 w6 := Below.trans (b := _) (by (repeat' (first | (with_reducible exact Below.refl _ _) | (with_reducible assumption) | (with_reducible refine Below.alloc ?_ ?_ _) | (with_reducible refine Below.drew ?_) | (with_reducible refine below_drewN ?_ _) | (with_reducible refine Below.setCell ?_ ?_ _) | (with_reducible refine below_call ?_ ?_ (by assumption)) | go_size))) (hb6.mono (by first | omega | (simp only [World.size_alloc, World.size_setCell, World.size_drew]; omega)))
  obtain ⟨hd6, -⟩ := bcell B6
  have c6_c_0 : w6.cell? ⟨w.heap.size, 0, none⟩ = some (.int .i64 n0) := (hd6 _ _ q_c).trans c5_c_0
  have c6_c_1 : w6.cell? ⟨w.heap.size, 1, none⟩ = some (.int .i64 d0) := (hd6 _ _ q_c).trans c5_c_1
  have c6_c_2 : w6.cell? ⟨w.heap.size, 2, none⟩ = some (.int .i64 x0) := (hd6 _ _ q_c).trans c5_c_2
  have c6_c_3 : w6.cell? ⟨w.heap.size, 3, none⟩ = some (.int .i64 y0) := (hd6 _ _ q_c).trans c5_c_3
  have c6_s_0 : w6.cell? ⟨w.heap.size + 1, 0, none⟩ = some (.int .i64 n1) := (hd6 _ _ q_s).trans c5_s_0
  have c6_s_1 : w6.cell? ⟨w.heap.size + 1, 1, none⟩ = some (.int .i64 d1) := (hd6 _ _ q_s).trans c5_s_1
  have c6_d_0 : w6.cell? ⟨w.heap.size + 1 + 1, 0, none⟩ = some (.int .i64 n2) := (hd6 _ _ q_d).trans c5_d_0
  have c6_d_1 : w6.cell? ⟨w.heap.size + 1 + 1, 1, none⟩ = some (.int .i64 d2) := (hd6 _ _ q_d).trans c5_d_1
  have c6_d_2 : w6.cell? ⟨w.heap.size + 1 + 1, 2, none⟩ = some (.int .i64 x2) := (hd6 _ _ q_d).trans c5_d_2
  have c6_d_3 : w6.cell? ⟨w.heap.size + 1 + 1, 3, none⟩ = some (.int .i64 y2) := (hd6 _ _ q_d).trans c5_d_3
  have c6_e_0 : w6.cell? ⟨w.heap.size + 1 + 1 + 1, 0, none⟩ = some (.int .i64 n3) := (hd6 _ _ q_e).trans c5_e_0
  have c6_e_1 : w6.cell? ⟨w.heap.size + 1 + 1 + 1, 1, none⟩ = some (.int .i64 d3) := (hd6 _ _ q_e).trans c5_e_1
  have c6_e_2 : w6.cell? ⟨w.heap.size + 1 + 1 + 1, 2, none⟩ = some (.int .i64 x3) := (hd6 _ _ q_e).trans c5_e_2
  have c6_e_3 : w6.cell? ⟨w.heap.size + 1 + 1 + 1, 3, none⟩ = some (.int .i64 y3) := (hd6 _ _ q_e).trans c5_e_3
  have c6_t_0 : w6.cell? ⟨w.heap.size + 1 + 1 + 1 + 1, 0, none⟩ = some (.int .i64 n4) := (hd6 _ _ q_t).trans c5_t_0
  have c6_t_1 : w6.cell? ⟨w.heap.size + 1 + 1 + 1 + 1, 1, none⟩ = some (.int .i64 d4) := (hd6 _ _ q_t).trans c5_t_1
  have c6_shown_0 : w6.cell? ⟨w1.heap.size, 0, none⟩ = some (.int .i64 un) := (hd6 _ _ q_shown).trans c5_shown_0
  have c6_shown_1 : w6.cell? ⟨w1.heap.size, 1, none⟩ = some (.int .i64 ud) := (hd6 _ _ q_shown).trans c5_shown_1
  have c6_right_0 : w6.cell? ⟨w2.heap.size, 0, none⟩ = some (.int .i64 un) := (hd6 _ _ q_right).trans c5_right_0
  have c6_right_1 : w6.cell? ⟨w2.heap.size, 1, none⟩ = some (.int .i64 ud) := (hd6 _ _ q_right).trans c5_right_1
  have c6_ahead_0 : w6.cell? ⟨w3.heap.size, 0, none⟩ = some (.int .i64 gn) := (hd6 _ _ q_ahead).trans c5_ahead_0
  have c6_ahead_1 : w6.cell? ⟨w3.heap.size, 1, none⟩ = some (.int .i64 gd) := (hd6 _ _ q_ahead).trans c5_ahead_1
  have c6_want_0 : w6.cell? ⟨w4.heap.size, 0, none⟩ = some (.int .i64 gn) := (hd6 _ _ q_want).trans c5_want_0
  have c6_want_1 : w6.cell? ⟨w4.heap.size, 1, none⟩ = some (.int .i64 gd) := (hd6 _ _ q_want).trans c5_want_1
  replace q_c : w.heap.size < w6.heap.size := by omega
  replace q_s : w.heap.size + 1 < w6.heap.size := by omega
  replace q_d : w.heap.size + 1 + 1 < w6.heap.size := by omega
  replace q_e : w.heap.size + 1 + 1 + 1 < w6.heap.size := by omega
  replace q_t : w.heap.size + 1 + 1 + 1 + 1 < w6.heap.size := by omega
  replace q_shown : w1.heap.size < w6.heap.size := by omega
  replace q_right : w2.heap.size < w6.heap.size := by omega
  replace q_ahead : w3.heap.size < w6.heap.size := by omega
  replace q_want : w4.heap.size < w6.heap.size := by omega
  have c6_set_0 : w6.cell? ⟨w5.heap.size, 0, none⟩ = some (.int .i64 zn) := (hc6 _ _ (by go_size)).trans (by go_simp)
  have c6_set_1 : w6.cell? ⟨w5.heap.size, 1, none⟩ = some (.int .i64 zd) := (hc6 _ _ (by go_size)).trans (by go_simp)
  have c6_set_2 : w6.cell? ⟨w5.heap.size, 2, none⟩ = some (.int .i64 zp) := (hc6 _ _ (by go_size)).trans (by go_simp)
  have c6_set_3 : w6.cell? ⟨w5.heap.size, 3, none⟩ = some (.int .i64 zq) := (hc6 _ _ (by go_size)).trans (by go_simp)
  have q_set : w5.heap.size < w6.heap.size := by omega
  have BW6 : Below w.heap.size w w6 := BW5.trans (B6.mono BW5.size)
  clear hc6 hf6 hb6 hd6 B6 c5_c_0 c5_c_1 c5_c_2 c5_c_3 c5_s_0 c5_s_1 c5_d_0 c5_d_1 c5_d_2 c5_d_3 c5_e_0 c5_e_1 c5_e_2 c5_e_3 c5_t_0 c5_t_1 c5_shown_0 c5_shown_1 c5_right_0 c5_right_1 c5_ahead_0 c5_ahead_1 c5_want_0 c5_want_1 BW5
  go_upto_region 9 with fail
  have hb7 : Below w6.heap.size w6 (w6.alloc (Obj.cells #[.int .i64 zn, .int .i64 zd, .int .i64 zp, .int .i64 zq] 27)) := by (repeat' (first | (with_reducible exact Below.refl _ _) | (with_reducible assumption) | (with_reducible refine Below.alloc ?_ ?_ _) | (with_reducible refine Below.drew ?_) | (with_reducible refine below_drewN ?_ _) | (with_reducible refine Below.setCell ?_ ?_ _) | (with_reducible refine below_call ?_ ?_ (by assumption)) | go_size))
  have c7_model_0 : (w6.alloc (Obj.cells #[.int .i64 zn, .int .i64 zd, .int .i64 zp, .int .i64 zq] 27)).cell? ⟨w6.heap.size, 0, none⟩ = some (.int .i64 zn) := by go_simp
  have c7_model_1 : (w6.alloc (Obj.cells #[.int .i64 zn, .int .i64 zd, .int .i64 zp, .int .i64 zq] 27)).cell? ⟨w6.heap.size, 1, none⟩ = some (.int .i64 zd) := by go_simp
  have c7_model_2 : (w6.alloc (Obj.cells #[.int .i64 zn, .int .i64 zd, .int .i64 zp, .int .i64 zq] 27)).cell? ⟨w6.heap.size, 2, none⟩ = some (.int .i64 zp) := by go_simp
  have c7_model_3 : (w6.alloc (Obj.cells #[.int .i64 zn, .int .i64 zd, .int .i64 zp, .int .i64 zq] 27)).cell? ⟨w6.heap.size, 3, none⟩ = some (.int .i64 zq) := by go_simp
  have q_model : w6.heap.size < (w6.alloc (Obj.cells #[.int .i64 zn, .int .i64 zd, .int .i64 zp, .int .i64 zq] 27)).heap.size := by go_size
  generalize (w6.alloc (Obj.cells #[.int .i64 zn, .int .i64 zd, .int .i64 zp, .int .i64 zq] 27)) = w7 at *
  obtain ⟨hd7, -⟩ := bcell hb7
  have hz7 := hb7.size
  have c7_c_0 : w7.cell? ⟨w.heap.size, 0, none⟩ = some (.int .i64 n0) := (hd7 _ _ q_c).trans c6_c_0
  have c7_c_1 : w7.cell? ⟨w.heap.size, 1, none⟩ = some (.int .i64 d0) := (hd7 _ _ q_c).trans c6_c_1
  have c7_c_2 : w7.cell? ⟨w.heap.size, 2, none⟩ = some (.int .i64 x0) := (hd7 _ _ q_c).trans c6_c_2
  have c7_c_3 : w7.cell? ⟨w.heap.size, 3, none⟩ = some (.int .i64 y0) := (hd7 _ _ q_c).trans c6_c_3
  have c7_s_0 : w7.cell? ⟨w.heap.size + 1, 0, none⟩ = some (.int .i64 n1) := (hd7 _ _ q_s).trans c6_s_0
  have c7_s_1 : w7.cell? ⟨w.heap.size + 1, 1, none⟩ = some (.int .i64 d1) := (hd7 _ _ q_s).trans c6_s_1
  have c7_d_0 : w7.cell? ⟨w.heap.size + 1 + 1, 0, none⟩ = some (.int .i64 n2) := (hd7 _ _ q_d).trans c6_d_0
  have c7_d_1 : w7.cell? ⟨w.heap.size + 1 + 1, 1, none⟩ = some (.int .i64 d2) := (hd7 _ _ q_d).trans c6_d_1
  have c7_d_2 : w7.cell? ⟨w.heap.size + 1 + 1, 2, none⟩ = some (.int .i64 x2) := (hd7 _ _ q_d).trans c6_d_2
  have c7_d_3 : w7.cell? ⟨w.heap.size + 1 + 1, 3, none⟩ = some (.int .i64 y2) := (hd7 _ _ q_d).trans c6_d_3
  have c7_e_0 : w7.cell? ⟨w.heap.size + 1 + 1 + 1, 0, none⟩ = some (.int .i64 n3) := (hd7 _ _ q_e).trans c6_e_0
  have c7_e_1 : w7.cell? ⟨w.heap.size + 1 + 1 + 1, 1, none⟩ = some (.int .i64 d3) := (hd7 _ _ q_e).trans c6_e_1
  have c7_e_2 : w7.cell? ⟨w.heap.size + 1 + 1 + 1, 2, none⟩ = some (.int .i64 x3) := (hd7 _ _ q_e).trans c6_e_2
  have c7_e_3 : w7.cell? ⟨w.heap.size + 1 + 1 + 1, 3, none⟩ = some (.int .i64 y3) := (hd7 _ _ q_e).trans c6_e_3
  have c7_t_0 : w7.cell? ⟨w.heap.size + 1 + 1 + 1 + 1, 0, none⟩ = some (.int .i64 n4) := (hd7 _ _ q_t).trans c6_t_0
  have c7_t_1 : w7.cell? ⟨w.heap.size + 1 + 1 + 1 + 1, 1, none⟩ = some (.int .i64 d4) := (hd7 _ _ q_t).trans c6_t_1
  have c7_shown_0 : w7.cell? ⟨w1.heap.size, 0, none⟩ = some (.int .i64 un) := (hd7 _ _ q_shown).trans c6_shown_0
  have c7_shown_1 : w7.cell? ⟨w1.heap.size, 1, none⟩ = some (.int .i64 ud) := (hd7 _ _ q_shown).trans c6_shown_1
  have c7_right_0 : w7.cell? ⟨w2.heap.size, 0, none⟩ = some (.int .i64 un) := (hd7 _ _ q_right).trans c6_right_0
  have c7_right_1 : w7.cell? ⟨w2.heap.size, 1, none⟩ = some (.int .i64 ud) := (hd7 _ _ q_right).trans c6_right_1
  have c7_ahead_0 : w7.cell? ⟨w3.heap.size, 0, none⟩ = some (.int .i64 gn) := (hd7 _ _ q_ahead).trans c6_ahead_0
  have c7_ahead_1 : w7.cell? ⟨w3.heap.size, 1, none⟩ = some (.int .i64 gd) := (hd7 _ _ q_ahead).trans c6_ahead_1
  have c7_want_0 : w7.cell? ⟨w4.heap.size, 0, none⟩ = some (.int .i64 gn) := (hd7 _ _ q_want).trans c6_want_0
  have c7_want_1 : w7.cell? ⟨w4.heap.size, 1, none⟩ = some (.int .i64 gd) := (hd7 _ _ q_want).trans c6_want_1
  have c7_set_0 : w7.cell? ⟨w5.heap.size, 0, none⟩ = some (.int .i64 zn) := (hd7 _ _ q_set).trans c6_set_0
  have c7_set_1 : w7.cell? ⟨w5.heap.size, 1, none⟩ = some (.int .i64 zd) := (hd7 _ _ q_set).trans c6_set_1
  have c7_set_2 : w7.cell? ⟨w5.heap.size, 2, none⟩ = some (.int .i64 zp) := (hd7 _ _ q_set).trans c6_set_2
  have c7_set_3 : w7.cell? ⟨w5.heap.size, 3, none⟩ = some (.int .i64 zq) := (hd7 _ _ q_set).trans c6_set_3
  replace q_c : w.heap.size < w7.heap.size := by omega
  replace q_s : w.heap.size + 1 < w7.heap.size := by omega
  replace q_d : w.heap.size + 1 + 1 < w7.heap.size := by omega
  replace q_e : w.heap.size + 1 + 1 + 1 < w7.heap.size := by omega
  replace q_t : w.heap.size + 1 + 1 + 1 + 1 < w7.heap.size := by omega
  replace q_shown : w1.heap.size < w7.heap.size := by omega
  replace q_right : w2.heap.size < w7.heap.size := by omega
  replace q_ahead : w3.heap.size < w7.heap.size := by omega
  replace q_want : w4.heap.size < w7.heap.size := by omega
  replace q_set : w5.heap.size < w7.heap.size := by omega
  have BW7 : Below w.heap.size w w7 := BW6.trans (hb7.mono BW6.size)
  clear hb7 hd7 c6_c_0 c6_c_1 c6_c_2 c6_c_3 c6_s_0 c6_s_1 c6_d_0 c6_d_1 c6_d_2 c6_d_3 c6_e_0 c6_e_1 c6_e_2 c6_e_3 c6_t_0 c6_t_1 c6_shown_0 c6_shown_1 c6_right_0 c6_right_1 c6_ahead_0 c6_ahead_1 c6_want_0 c6_want_1 c6_set_0 c6_set_1 c6_set_2 c6_set_3 BW6
  go_cut [116] from 999 to 999 (fun x wx => x = .bool b1 ∧ Below w7.heap.size w7 wx)
  case first =>
    as_aux_lemma =>
      have e := Hb1.out
      cases uo
      · simp only [Bool.false_and] at e
        subst e
        go_wp2_with fail
        go_meet
        case rel => exact ⟨rfl, Below.refl _ _⟩
      · simp only [Bool.true_and] at e
        subst e
        go_wp2_with fail
        go_meet
        case rel => exact ⟨rfl, Below.refl _ _⟩
  case rest =>
    obtain ⟨rfl, hb8⟩ := hcut
    obtain ⟨w8, hw8⟩ : ∃ x : World, x = wc := ⟨_, rfl⟩
    subst hw8
    obtain ⟨hc8, hf8⟩ := bcell hb8
    have hz8 := hb8.size
    (try simp only [World.size_alloc, World.size_setCell, World.size_drew] at hz8)
    have B8 : Below w7.heap.size w7 w8 := Below.trans (b := _) (by (repeat' (first | (with_reducible exact Below.refl _ _) | (with_reducible assumption) | (with_reducible refine Below.alloc ?_ ?_ _) | (with_reducible refine Below.drew ?_) | (with_reducible refine below_drewN ?_ _) | (with_reducible refine Below.setCell ?_ ?_ _) | (with_reducible refine below_call ?_ ?_ (by assumption)) | go_size))) (hb8.mono (by first | omega | (simp only [World.size_alloc, World.size_setCell, World.size_drew]; omega)))
    obtain ⟨hd8, -⟩ := bcell B8
    have c8_c_0 : w8.cell? ⟨w.heap.size, 0, none⟩ = some (.int .i64 n0) := (hd8 _ _ q_c).trans c7_c_0
    have c8_c_1 : w8.cell? ⟨w.heap.size, 1, none⟩ = some (.int .i64 d0) := (hd8 _ _ q_c).trans c7_c_1
    have c8_c_2 : w8.cell? ⟨w.heap.size, 2, none⟩ = some (.int .i64 x0) := (hd8 _ _ q_c).trans c7_c_2
    have c8_c_3 : w8.cell? ⟨w.heap.size, 3, none⟩ = some (.int .i64 y0) := (hd8 _ _ q_c).trans c7_c_3
    have c8_s_0 : w8.cell? ⟨w.heap.size + 1, 0, none⟩ = some (.int .i64 n1) := (hd8 _ _ q_s).trans c7_s_0
    have c8_s_1 : w8.cell? ⟨w.heap.size + 1, 1, none⟩ = some (.int .i64 d1) := (hd8 _ _ q_s).trans c7_s_1
    have c8_d_0 : w8.cell? ⟨w.heap.size + 1 + 1, 0, none⟩ = some (.int .i64 n2) := (hd8 _ _ q_d).trans c7_d_0
    have c8_d_1 : w8.cell? ⟨w.heap.size + 1 + 1, 1, none⟩ = some (.int .i64 d2) := (hd8 _ _ q_d).trans c7_d_1
    have c8_d_2 : w8.cell? ⟨w.heap.size + 1 + 1, 2, none⟩ = some (.int .i64 x2) := (hd8 _ _ q_d).trans c7_d_2
    have c8_d_3 : w8.cell? ⟨w.heap.size + 1 + 1, 3, none⟩ = some (.int .i64 y2) := (hd8 _ _ q_d).trans c7_d_3
    have c8_e_0 : w8.cell? ⟨w.heap.size + 1 + 1 + 1, 0, none⟩ = some (.int .i64 n3) := (hd8 _ _ q_e).trans c7_e_0
    have c8_e_1 : w8.cell? ⟨w.heap.size + 1 + 1 + 1, 1, none⟩ = some (.int .i64 d3) := (hd8 _ _ q_e).trans c7_e_1
    have c8_e_2 : w8.cell? ⟨w.heap.size + 1 + 1 + 1, 2, none⟩ = some (.int .i64 x3) := (hd8 _ _ q_e).trans c7_e_2
    have c8_e_3 : w8.cell? ⟨w.heap.size + 1 + 1 + 1, 3, none⟩ = some (.int .i64 y3) := (hd8 _ _ q_e).trans c7_e_3
    have c8_t_0 : w8.cell? ⟨w.heap.size + 1 + 1 + 1 + 1, 0, none⟩ = some (.int .i64 n4) := (hd8 _ _ q_t).trans c7_t_0
    have c8_t_1 : w8.cell? ⟨w.heap.size + 1 + 1 + 1 + 1, 1, none⟩ = some (.int .i64 d4) := (hd8 _ _ q_t).trans c7_t_1
    have c8_shown_0 : w8.cell? ⟨w1.heap.size, 0, none⟩ = some (.int .i64 un) := (hd8 _ _ q_shown).trans c7_shown_0
    have c8_shown_1 : w8.cell? ⟨w1.heap.size, 1, none⟩ = some (.int .i64 ud) := (hd8 _ _ q_shown).trans c7_shown_1
    have c8_right_0 : w8.cell? ⟨w2.heap.size, 0, none⟩ = some (.int .i64 un) := (hd8 _ _ q_right).trans c7_right_0
    have c8_right_1 : w8.cell? ⟨w2.heap.size, 1, none⟩ = some (.int .i64 ud) := (hd8 _ _ q_right).trans c7_right_1
    have c8_ahead_0 : w8.cell? ⟨w3.heap.size, 0, none⟩ = some (.int .i64 gn) := (hd8 _ _ q_ahead).trans c7_ahead_0
    have c8_ahead_1 : w8.cell? ⟨w3.heap.size, 1, none⟩ = some (.int .i64 gd) := (hd8 _ _ q_ahead).trans c7_ahead_1
    have c8_want_0 : w8.cell? ⟨w4.heap.size, 0, none⟩ = some (.int .i64 gn) := (hd8 _ _ q_want).trans c7_want_0
    have c8_want_1 : w8.cell? ⟨w4.heap.size, 1, none⟩ = some (.int .i64 gd) := (hd8 _ _ q_want).trans c7_want_1
    have c8_set_0 : w8.cell? ⟨w5.heap.size, 0, none⟩ = some (.int .i64 zn) := (hd8 _ _ q_set).trans c7_set_0
    have c8_set_1 : w8.cell? ⟨w5.heap.size, 1, none⟩ = some (.int .i64 zd) := (hd8 _ _ q_set).trans c7_set_1
    have c8_set_2 : w8.cell? ⟨w5.heap.size, 2, none⟩ = some (.int .i64 zp) := (hd8 _ _ q_set).trans c7_set_2
    have c8_set_3 : w8.cell? ⟨w5.heap.size, 3, none⟩ = some (.int .i64 zq) := (hd8 _ _ q_set).trans c7_set_3
    have c8_model_0 : w8.cell? ⟨w6.heap.size, 0, none⟩ = some (.int .i64 zn) := (hd8 _ _ q_model).trans c7_model_0
    have c8_model_1 : w8.cell? ⟨w6.heap.size, 1, none⟩ = some (.int .i64 zd) := (hd8 _ _ q_model).trans c7_model_1
    have c8_model_2 : w8.cell? ⟨w6.heap.size, 2, none⟩ = some (.int .i64 zp) := (hd8 _ _ q_model).trans c7_model_2
    have c8_model_3 : w8.cell? ⟨w6.heap.size, 3, none⟩ = some (.int .i64 zq) := (hd8 _ _ q_model).trans c7_model_3
    replace q_c : w.heap.size < w8.heap.size := by omega
    replace q_s : w.heap.size + 1 < w8.heap.size := by omega
    replace q_d : w.heap.size + 1 + 1 < w8.heap.size := by omega
    replace q_e : w.heap.size + 1 + 1 + 1 < w8.heap.size := by omega
    replace q_t : w.heap.size + 1 + 1 + 1 + 1 < w8.heap.size := by omega
    replace q_shown : w1.heap.size < w8.heap.size := by omega
    replace q_right : w2.heap.size < w8.heap.size := by omega
    replace q_ahead : w3.heap.size < w8.heap.size := by omega
    replace q_want : w4.heap.size < w8.heap.size := by omega
    replace q_set : w5.heap.size < w8.heap.size := by omega
    replace q_model : w6.heap.size < w8.heap.size := by omega
    have BW8 : Below w.heap.size w w8 := BW7.trans (B8.mono BW7.size)
    clear hc8 hf8 hb8 hd8 B8 c7_c_0 c7_c_1 c7_c_2 c7_c_3 c7_s_0 c7_s_1 c7_d_0 c7_d_1 c7_d_2 c7_d_3 c7_e_0 c7_e_1 c7_e_2 c7_e_3 c7_t_0 c7_t_1 c7_shown_0 c7_shown_1 c7_right_0 c7_right_1 c7_ahead_0 c7_ahead_1 c7_want_0 c7_want_1 c7_set_0 c7_set_1 c7_set_2 c7_set_3 c7_model_0 c7_model_1 c7_model_2 c7_model_3 BW7
    go_upto_if 116 with fail
    go_cut [] from 999 to 999 (fun wx => Below w8.heap.size w8 wx)
    case first =>
      as_aux_lemma =>
        cases b1
        · go_wp2_with fail
          go_meet
          case rel => exact Below.refl _ _
        · have e := Hb1.out.symm
          rw [Bool.and_eq_true] at e
          obtain ⟨rfl, rfl⟩ := e
          obtain ⟨h1, h2⟩ := G1.out rfl rfl
          have Z1 := Lib.hid (fun W => (show Calls Try.prog 13 #[.int .i64 n1, .int .i64 d1] W fun e w' => e = .returned (rv (lowNum n1 d1, lowDen n1 d1, true)) ∧ Below W.heap.size W w' from by have := implMakeTurn_any n1 d1 W; rw [h1] at this; exact this))
          have Z2 := Lib.hid (fun W => (show Calls Try.prog 14 #[tv (lowNum n1 d1) (lowDen n1 d1), tv gn gd] W fun e w' => e = .returned (rv (un, ud, true)) ∧ Below W.heap.size W w' from by have := implAddTurns_any (lowNum n1 d1) (lowDen n1 d1) gn gd W; rw [h2] at this; exact this))
          clear h1 h2
          generalize lowNum n1 d1 = ln at *
          generalize lowDen n1 d1 = ld at *
          go_wp2_with fail
          refine (Z1.out _).mono ?_
          rintro e9 w9 ⟨rfl, hb9⟩
          obtain ⟨hc9, hf9⟩ := bcell hb9
          have hz9 := hb9.size
          (try simp only [World.size_alloc, World.size_setCell, World.size_drew] at hz9)
          have B9 : Below w8.heap.size w8 w9 := Below.trans (b := _) (by (repeat' (first | (with_reducible exact Below.refl _ _) | (with_reducible assumption) | (with_reducible refine Below.alloc ?_ ?_ _) | (with_reducible refine Below.drew ?_) | (with_reducible refine below_drewN ?_ _) | (with_reducible refine Below.setCell ?_ ?_ _) | (with_reducible refine below_call ?_ ?_ (by assumption)) | go_size))) (hb9.mono (by first | omega | (simp only [World.size_alloc, World.size_setCell, World.size_drew]; omega)))
          obtain ⟨hd9, -⟩ := bcell B9
          have c9_c_0 : w9.cell? ⟨w.heap.size, 0, none⟩ = some (.int .i64 n0) := (hd9 _ _ q_c).trans c8_c_0
          have c9_c_1 : w9.cell? ⟨w.heap.size, 1, none⟩ = some (.int .i64 d0) := (hd9 _ _ q_c).trans c8_c_1
          have c9_c_2 : w9.cell? ⟨w.heap.size, 2, none⟩ = some (.int .i64 x0) := (hd9 _ _ q_c).trans c8_c_2
          have c9_c_3 : w9.cell? ⟨w.heap.size, 3, none⟩ = some (.int .i64 y0) := (hd9 _ _ q_c).trans c8_c_3
          have c9_s_0 : w9.cell? ⟨w.heap.size + 1, 0, none⟩ = some (.int .i64 n1) := (hd9 _ _ q_s).trans c8_s_0
          have c9_s_1 : w9.cell? ⟨w.heap.size + 1, 1, none⟩ = some (.int .i64 d1) := (hd9 _ _ q_s).trans c8_s_1
          have c9_d_0 : w9.cell? ⟨w.heap.size + 1 + 1, 0, none⟩ = some (.int .i64 n2) := (hd9 _ _ q_d).trans c8_d_0
          have c9_d_1 : w9.cell? ⟨w.heap.size + 1 + 1, 1, none⟩ = some (.int .i64 d2) := (hd9 _ _ q_d).trans c8_d_1
          have c9_d_2 : w9.cell? ⟨w.heap.size + 1 + 1, 2, none⟩ = some (.int .i64 x2) := (hd9 _ _ q_d).trans c8_d_2
          have c9_d_3 : w9.cell? ⟨w.heap.size + 1 + 1, 3, none⟩ = some (.int .i64 y2) := (hd9 _ _ q_d).trans c8_d_3
          have c9_e_0 : w9.cell? ⟨w.heap.size + 1 + 1 + 1, 0, none⟩ = some (.int .i64 n3) := (hd9 _ _ q_e).trans c8_e_0
          have c9_e_1 : w9.cell? ⟨w.heap.size + 1 + 1 + 1, 1, none⟩ = some (.int .i64 d3) := (hd9 _ _ q_e).trans c8_e_1
          have c9_e_2 : w9.cell? ⟨w.heap.size + 1 + 1 + 1, 2, none⟩ = some (.int .i64 x3) := (hd9 _ _ q_e).trans c8_e_2
          have c9_e_3 : w9.cell? ⟨w.heap.size + 1 + 1 + 1, 3, none⟩ = some (.int .i64 y3) := (hd9 _ _ q_e).trans c8_e_3
          have c9_t_0 : w9.cell? ⟨w.heap.size + 1 + 1 + 1 + 1, 0, none⟩ = some (.int .i64 n4) := (hd9 _ _ q_t).trans c8_t_0
          have c9_t_1 : w9.cell? ⟨w.heap.size + 1 + 1 + 1 + 1, 1, none⟩ = some (.int .i64 d4) := (hd9 _ _ q_t).trans c8_t_1
          have c9_shown_0 : w9.cell? ⟨w1.heap.size, 0, none⟩ = some (.int .i64 un) := (hd9 _ _ q_shown).trans c8_shown_0
          have c9_shown_1 : w9.cell? ⟨w1.heap.size, 1, none⟩ = some (.int .i64 ud) := (hd9 _ _ q_shown).trans c8_shown_1
          have c9_right_0 : w9.cell? ⟨w2.heap.size, 0, none⟩ = some (.int .i64 un) := (hd9 _ _ q_right).trans c8_right_0
          have c9_right_1 : w9.cell? ⟨w2.heap.size, 1, none⟩ = some (.int .i64 ud) := (hd9 _ _ q_right).trans c8_right_1
          have c9_ahead_0 : w9.cell? ⟨w3.heap.size, 0, none⟩ = some (.int .i64 gn) := (hd9 _ _ q_ahead).trans c8_ahead_0
          have c9_ahead_1 : w9.cell? ⟨w3.heap.size, 1, none⟩ = some (.int .i64 gd) := (hd9 _ _ q_ahead).trans c8_ahead_1
          have c9_want_0 : w9.cell? ⟨w4.heap.size, 0, none⟩ = some (.int .i64 gn) := (hd9 _ _ q_want).trans c8_want_0
          have c9_want_1 : w9.cell? ⟨w4.heap.size, 1, none⟩ = some (.int .i64 gd) := (hd9 _ _ q_want).trans c8_want_1
          have c9_set_0 : w9.cell? ⟨w5.heap.size, 0, none⟩ = some (.int .i64 zn) := (hd9 _ _ q_set).trans c8_set_0
          have c9_set_1 : w9.cell? ⟨w5.heap.size, 1, none⟩ = some (.int .i64 zd) := (hd9 _ _ q_set).trans c8_set_1
          have c9_set_2 : w9.cell? ⟨w5.heap.size, 2, none⟩ = some (.int .i64 zp) := (hd9 _ _ q_set).trans c8_set_2
          have c9_set_3 : w9.cell? ⟨w5.heap.size, 3, none⟩ = some (.int .i64 zq) := (hd9 _ _ q_set).trans c8_set_3
          have c9_model_0 : w9.cell? ⟨w6.heap.size, 0, none⟩ = some (.int .i64 zn) := (hd9 _ _ q_model).trans c8_model_0
          have c9_model_1 : w9.cell? ⟨w6.heap.size, 1, none⟩ = some (.int .i64 zd) := (hd9 _ _ q_model).trans c8_model_1
          have c9_model_2 : w9.cell? ⟨w6.heap.size, 2, none⟩ = some (.int .i64 zp) := (hd9 _ _ q_model).trans c8_model_2
          have c9_model_3 : w9.cell? ⟨w6.heap.size, 3, none⟩ = some (.int .i64 zq) := (hd9 _ _ q_model).trans c8_model_3
          replace q_c : w.heap.size < w9.heap.size := by omega
          replace q_s : w.heap.size + 1 < w9.heap.size := by omega
          replace q_d : w.heap.size + 1 + 1 < w9.heap.size := by omega
          replace q_e : w.heap.size + 1 + 1 + 1 < w9.heap.size := by omega
          replace q_t : w.heap.size + 1 + 1 + 1 + 1 < w9.heap.size := by omega
          replace q_shown : w1.heap.size < w9.heap.size := by omega
          replace q_right : w2.heap.size < w9.heap.size := by omega
          replace q_ahead : w3.heap.size < w9.heap.size := by omega
          replace q_want : w4.heap.size < w9.heap.size := by omega
          replace q_set : w5.heap.size < w9.heap.size := by omega
          replace q_model : w6.heap.size < w9.heap.size := by omega
          have BW9 : Below w.heap.size w w9 := BW8.trans (B9.mono BW8.size)
          have BX9 : Below w8.heap.size w8 w9 := B9
          clear hc9 hf9 hb9 hd9 B9 c8_c_0 c8_c_1 c8_c_2 c8_c_3 c8_s_0 c8_s_1 c8_d_0 c8_d_1 c8_d_2 c8_d_3 c8_e_0 c8_e_1 c8_e_2 c8_e_3 c8_t_0 c8_t_1 c8_shown_0 c8_shown_1 c8_right_0 c8_right_1 c8_ahead_0 c8_ahead_1 c8_want_0 c8_want_1 c8_set_0 c8_set_1 c8_set_2 c8_set_3 c8_model_0 c8_model_1 c8_model_2 c8_model_3 BW8
          go_wp2_with fail
          refine (Z2.out _).mono ?_
          rintro e10 w10 ⟨rfl, hb10⟩
          obtain ⟨hc10, hf10⟩ := bcell hb10
          have hz10 := hb10.size
          (try simp only [World.size_alloc, World.size_setCell, World.size_drew] at hz10)
          have B10 : Below w9.heap.size w9 w10 := Below.trans (b := _) (by (repeat' (first | (with_reducible exact Below.refl _ _) | (with_reducible assumption) | (with_reducible refine Below.alloc ?_ ?_ _) | (with_reducible refine Below.drew ?_) | (with_reducible refine below_drewN ?_ _) | (with_reducible refine Below.setCell ?_ ?_ _) | (with_reducible refine below_call ?_ ?_ (by assumption)) | go_size))) (hb10.mono (by first | omega | (simp only [World.size_alloc, World.size_setCell, World.size_drew]; omega)))
          obtain ⟨hd10, -⟩ := bcell B10
          have c10_c_0 : w10.cell? ⟨w.heap.size, 0, none⟩ = some (.int .i64 n0) := (hd10 _ _ q_c).trans c9_c_0
          have c10_c_1 : w10.cell? ⟨w.heap.size, 1, none⟩ = some (.int .i64 d0) := (hd10 _ _ q_c).trans c9_c_1
          have c10_c_2 : w10.cell? ⟨w.heap.size, 2, none⟩ = some (.int .i64 x0) := (hd10 _ _ q_c).trans c9_c_2
          have c10_c_3 : w10.cell? ⟨w.heap.size, 3, none⟩ = some (.int .i64 y0) := (hd10 _ _ q_c).trans c9_c_3
          have c10_s_0 : w10.cell? ⟨w.heap.size + 1, 0, none⟩ = some (.int .i64 n1) := (hd10 _ _ q_s).trans c9_s_0
          have c10_s_1 : w10.cell? ⟨w.heap.size + 1, 1, none⟩ = some (.int .i64 d1) := (hd10 _ _ q_s).trans c9_s_1
          have c10_d_0 : w10.cell? ⟨w.heap.size + 1 + 1, 0, none⟩ = some (.int .i64 n2) := (hd10 _ _ q_d).trans c9_d_0
          have c10_d_1 : w10.cell? ⟨w.heap.size + 1 + 1, 1, none⟩ = some (.int .i64 d2) := (hd10 _ _ q_d).trans c9_d_1
          have c10_d_2 : w10.cell? ⟨w.heap.size + 1 + 1, 2, none⟩ = some (.int .i64 x2) := (hd10 _ _ q_d).trans c9_d_2
          have c10_d_3 : w10.cell? ⟨w.heap.size + 1 + 1, 3, none⟩ = some (.int .i64 y2) := (hd10 _ _ q_d).trans c9_d_3
          have c10_e_0 : w10.cell? ⟨w.heap.size + 1 + 1 + 1, 0, none⟩ = some (.int .i64 n3) := (hd10 _ _ q_e).trans c9_e_0
          have c10_e_1 : w10.cell? ⟨w.heap.size + 1 + 1 + 1, 1, none⟩ = some (.int .i64 d3) := (hd10 _ _ q_e).trans c9_e_1
          have c10_e_2 : w10.cell? ⟨w.heap.size + 1 + 1 + 1, 2, none⟩ = some (.int .i64 x3) := (hd10 _ _ q_e).trans c9_e_2
          have c10_e_3 : w10.cell? ⟨w.heap.size + 1 + 1 + 1, 3, none⟩ = some (.int .i64 y3) := (hd10 _ _ q_e).trans c9_e_3
          have c10_t_0 : w10.cell? ⟨w.heap.size + 1 + 1 + 1 + 1, 0, none⟩ = some (.int .i64 n4) := (hd10 _ _ q_t).trans c9_t_0
          have c10_t_1 : w10.cell? ⟨w.heap.size + 1 + 1 + 1 + 1, 1, none⟩ = some (.int .i64 d4) := (hd10 _ _ q_t).trans c9_t_1
          have c10_shown_0 : w10.cell? ⟨w1.heap.size, 0, none⟩ = some (.int .i64 un) := (hd10 _ _ q_shown).trans c9_shown_0
          have c10_shown_1 : w10.cell? ⟨w1.heap.size, 1, none⟩ = some (.int .i64 ud) := (hd10 _ _ q_shown).trans c9_shown_1
          have c10_right_0 : w10.cell? ⟨w2.heap.size, 0, none⟩ = some (.int .i64 un) := (hd10 _ _ q_right).trans c9_right_0
          have c10_right_1 : w10.cell? ⟨w2.heap.size, 1, none⟩ = some (.int .i64 ud) := (hd10 _ _ q_right).trans c9_right_1
          have c10_ahead_0 : w10.cell? ⟨w3.heap.size, 0, none⟩ = some (.int .i64 gn) := (hd10 _ _ q_ahead).trans c9_ahead_0
          have c10_ahead_1 : w10.cell? ⟨w3.heap.size, 1, none⟩ = some (.int .i64 gd) := (hd10 _ _ q_ahead).trans c9_ahead_1
          have c10_want_0 : w10.cell? ⟨w4.heap.size, 0, none⟩ = some (.int .i64 gn) := (hd10 _ _ q_want).trans c9_want_0
          have c10_want_1 : w10.cell? ⟨w4.heap.size, 1, none⟩ = some (.int .i64 gd) := (hd10 _ _ q_want).trans c9_want_1
          have c10_set_0 : w10.cell? ⟨w5.heap.size, 0, none⟩ = some (.int .i64 zn) := (hd10 _ _ q_set).trans c9_set_0
          have c10_set_1 : w10.cell? ⟨w5.heap.size, 1, none⟩ = some (.int .i64 zd) := (hd10 _ _ q_set).trans c9_set_1
          have c10_set_2 : w10.cell? ⟨w5.heap.size, 2, none⟩ = some (.int .i64 zp) := (hd10 _ _ q_set).trans c9_set_2
          have c10_set_3 : w10.cell? ⟨w5.heap.size, 3, none⟩ = some (.int .i64 zq) := (hd10 _ _ q_set).trans c9_set_3
          have c10_model_0 : w10.cell? ⟨w6.heap.size, 0, none⟩ = some (.int .i64 zn) := (hd10 _ _ q_model).trans c9_model_0
          have c10_model_1 : w10.cell? ⟨w6.heap.size, 1, none⟩ = some (.int .i64 zd) := (hd10 _ _ q_model).trans c9_model_1
          have c10_model_2 : w10.cell? ⟨w6.heap.size, 2, none⟩ = some (.int .i64 zp) := (hd10 _ _ q_model).trans c9_model_2
          have c10_model_3 : w10.cell? ⟨w6.heap.size, 3, none⟩ = some (.int .i64 zq) := (hd10 _ _ q_model).trans c9_model_3
          replace q_c : w.heap.size < w10.heap.size := by omega
          replace q_s : w.heap.size + 1 < w10.heap.size := by omega
          replace q_d : w.heap.size + 1 + 1 < w10.heap.size := by omega
          replace q_e : w.heap.size + 1 + 1 + 1 < w10.heap.size := by omega
          replace q_t : w.heap.size + 1 + 1 + 1 + 1 < w10.heap.size := by omega
          replace q_shown : w1.heap.size < w10.heap.size := by omega
          replace q_right : w2.heap.size < w10.heap.size := by omega
          replace q_ahead : w3.heap.size < w10.heap.size := by omega
          replace q_want : w4.heap.size < w10.heap.size := by omega
          replace q_set : w5.heap.size < w10.heap.size := by omega
          replace q_model : w6.heap.size < w10.heap.size := by omega
          have c10_truly_0 : w10.cell? ⟨w9.heap.size, 0, none⟩ = some (.int .i64 ln) := (hc10 _ _ (by go_size)).trans (by go_simp)
          have c10_truly_1 : w10.cell? ⟨w9.heap.size, 1, none⟩ = some (.int .i64 ld) := (hc10 _ _ (by go_size)).trans (by go_simp)
          have q_truly : w9.heap.size < w10.heap.size := by omega
          have BW10 : Below w.heap.size w w10 := BW9.trans (B10.mono BW9.size)
          have BX10 : Below w8.heap.size w8 w10 := BX9.trans (B10.mono BX9.size)
          clear BX9
          clear hc10 hf10 hb10 hd10 B10 c9_c_0 c9_c_1 c9_c_2 c9_c_3 c9_s_0 c9_s_1 c9_d_0 c9_d_1 c9_d_2 c9_d_3 c9_e_0 c9_e_1 c9_e_2 c9_e_3 c9_t_0 c9_t_1 c9_shown_0 c9_shown_1 c9_right_0 c9_right_1 c9_ahead_0 c9_ahead_1 c9_want_0 c9_want_1 c9_set_0 c9_set_1 c9_set_2 c9_set_3 c9_model_0 c9_model_1 c9_model_2 c9_model_3 BW9
          go_upto_region 12 with fail
          have hb11 : Below w10.heap.size w10 (w10.alloc (Obj.cells #[.int .i64 un, .int .i64 ud] 25)) := by (repeat' (first | (with_reducible exact Below.refl _ _) | (with_reducible assumption) | (with_reducible refine Below.alloc ?_ ?_ _) | (with_reducible refine Below.drew ?_) | (with_reducible refine below_drewN ?_ _) | (with_reducible refine Below.setCell ?_ ?_ _) | (with_reducible refine below_call ?_ ?_ (by assumption)) | go_size))
          have c11_sum_0 : (w10.alloc (Obj.cells #[.int .i64 un, .int .i64 ud] 25)).cell? ⟨w10.heap.size, 0, none⟩ = some (.int .i64 un) := by go_simp
          have c11_sum_1 : (w10.alloc (Obj.cells #[.int .i64 un, .int .i64 ud] 25)).cell? ⟨w10.heap.size, 1, none⟩ = some (.int .i64 ud) := by go_simp
          have q_sum : w10.heap.size < (w10.alloc (Obj.cells #[.int .i64 un, .int .i64 ud] 25)).heap.size := by go_size
          generalize (w10.alloc (Obj.cells #[.int .i64 un, .int .i64 ud] 25)) = w11 at *
          obtain ⟨hd11, -⟩ := bcell hb11
          have hz11 := hb11.size
          have c11_c_0 : w11.cell? ⟨w.heap.size, 0, none⟩ = some (.int .i64 n0) := (hd11 _ _ q_c).trans c10_c_0
          have c11_c_1 : w11.cell? ⟨w.heap.size, 1, none⟩ = some (.int .i64 d0) := (hd11 _ _ q_c).trans c10_c_1
          have c11_c_2 : w11.cell? ⟨w.heap.size, 2, none⟩ = some (.int .i64 x0) := (hd11 _ _ q_c).trans c10_c_2
          have c11_c_3 : w11.cell? ⟨w.heap.size, 3, none⟩ = some (.int .i64 y0) := (hd11 _ _ q_c).trans c10_c_3
          have c11_s_0 : w11.cell? ⟨w.heap.size + 1, 0, none⟩ = some (.int .i64 n1) := (hd11 _ _ q_s).trans c10_s_0
          have c11_s_1 : w11.cell? ⟨w.heap.size + 1, 1, none⟩ = some (.int .i64 d1) := (hd11 _ _ q_s).trans c10_s_1
          have c11_d_0 : w11.cell? ⟨w.heap.size + 1 + 1, 0, none⟩ = some (.int .i64 n2) := (hd11 _ _ q_d).trans c10_d_0
          have c11_d_1 : w11.cell? ⟨w.heap.size + 1 + 1, 1, none⟩ = some (.int .i64 d2) := (hd11 _ _ q_d).trans c10_d_1
          have c11_d_2 : w11.cell? ⟨w.heap.size + 1 + 1, 2, none⟩ = some (.int .i64 x2) := (hd11 _ _ q_d).trans c10_d_2
          have c11_d_3 : w11.cell? ⟨w.heap.size + 1 + 1, 3, none⟩ = some (.int .i64 y2) := (hd11 _ _ q_d).trans c10_d_3
          have c11_e_0 : w11.cell? ⟨w.heap.size + 1 + 1 + 1, 0, none⟩ = some (.int .i64 n3) := (hd11 _ _ q_e).trans c10_e_0
          have c11_e_1 : w11.cell? ⟨w.heap.size + 1 + 1 + 1, 1, none⟩ = some (.int .i64 d3) := (hd11 _ _ q_e).trans c10_e_1
          have c11_e_2 : w11.cell? ⟨w.heap.size + 1 + 1 + 1, 2, none⟩ = some (.int .i64 x3) := (hd11 _ _ q_e).trans c10_e_2
          have c11_e_3 : w11.cell? ⟨w.heap.size + 1 + 1 + 1, 3, none⟩ = some (.int .i64 y3) := (hd11 _ _ q_e).trans c10_e_3
          have c11_t_0 : w11.cell? ⟨w.heap.size + 1 + 1 + 1 + 1, 0, none⟩ = some (.int .i64 n4) := (hd11 _ _ q_t).trans c10_t_0
          have c11_t_1 : w11.cell? ⟨w.heap.size + 1 + 1 + 1 + 1, 1, none⟩ = some (.int .i64 d4) := (hd11 _ _ q_t).trans c10_t_1
          have c11_shown_0 : w11.cell? ⟨w1.heap.size, 0, none⟩ = some (.int .i64 un) := (hd11 _ _ q_shown).trans c10_shown_0
          have c11_shown_1 : w11.cell? ⟨w1.heap.size, 1, none⟩ = some (.int .i64 ud) := (hd11 _ _ q_shown).trans c10_shown_1
          have c11_right_0 : w11.cell? ⟨w2.heap.size, 0, none⟩ = some (.int .i64 un) := (hd11 _ _ q_right).trans c10_right_0
          have c11_right_1 : w11.cell? ⟨w2.heap.size, 1, none⟩ = some (.int .i64 ud) := (hd11 _ _ q_right).trans c10_right_1
          have c11_ahead_0 : w11.cell? ⟨w3.heap.size, 0, none⟩ = some (.int .i64 gn) := (hd11 _ _ q_ahead).trans c10_ahead_0
          have c11_ahead_1 : w11.cell? ⟨w3.heap.size, 1, none⟩ = some (.int .i64 gd) := (hd11 _ _ q_ahead).trans c10_ahead_1
          have c11_want_0 : w11.cell? ⟨w4.heap.size, 0, none⟩ = some (.int .i64 gn) := (hd11 _ _ q_want).trans c10_want_0
          have c11_want_1 : w11.cell? ⟨w4.heap.size, 1, none⟩ = some (.int .i64 gd) := (hd11 _ _ q_want).trans c10_want_1
          have c11_set_0 : w11.cell? ⟨w5.heap.size, 0, none⟩ = some (.int .i64 zn) := (hd11 _ _ q_set).trans c10_set_0
          have c11_set_1 : w11.cell? ⟨w5.heap.size, 1, none⟩ = some (.int .i64 zd) := (hd11 _ _ q_set).trans c10_set_1
          have c11_set_2 : w11.cell? ⟨w5.heap.size, 2, none⟩ = some (.int .i64 zp) := (hd11 _ _ q_set).trans c10_set_2
          have c11_set_3 : w11.cell? ⟨w5.heap.size, 3, none⟩ = some (.int .i64 zq) := (hd11 _ _ q_set).trans c10_set_3
          have c11_model_0 : w11.cell? ⟨w6.heap.size, 0, none⟩ = some (.int .i64 zn) := (hd11 _ _ q_model).trans c10_model_0
          have c11_model_1 : w11.cell? ⟨w6.heap.size, 1, none⟩ = some (.int .i64 zd) := (hd11 _ _ q_model).trans c10_model_1
          have c11_model_2 : w11.cell? ⟨w6.heap.size, 2, none⟩ = some (.int .i64 zp) := (hd11 _ _ q_model).trans c10_model_2
          have c11_model_3 : w11.cell? ⟨w6.heap.size, 3, none⟩ = some (.int .i64 zq) := (hd11 _ _ q_model).trans c10_model_3
          have c11_truly_0 : w11.cell? ⟨w9.heap.size, 0, none⟩ = some (.int .i64 ln) := (hd11 _ _ q_truly).trans c10_truly_0
          have c11_truly_1 : w11.cell? ⟨w9.heap.size, 1, none⟩ = some (.int .i64 ld) := (hd11 _ _ q_truly).trans c10_truly_1
          replace q_c : w.heap.size < w11.heap.size := by omega
          replace q_s : w.heap.size + 1 < w11.heap.size := by omega
          replace q_d : w.heap.size + 1 + 1 < w11.heap.size := by omega
          replace q_e : w.heap.size + 1 + 1 + 1 < w11.heap.size := by omega
          replace q_t : w.heap.size + 1 + 1 + 1 + 1 < w11.heap.size := by omega
          replace q_shown : w1.heap.size < w11.heap.size := by omega
          replace q_right : w2.heap.size < w11.heap.size := by omega
          replace q_ahead : w3.heap.size < w11.heap.size := by omega
          replace q_want : w4.heap.size < w11.heap.size := by omega
          replace q_set : w5.heap.size < w11.heap.size := by omega
          replace q_model : w6.heap.size < w11.heap.size := by omega
          replace q_truly : w9.heap.size < w11.heap.size := by omega
          have BW11 : Below w.heap.size w w11 := BW10.trans (hb11.mono BW10.size)
          have BX11 : Below w8.heap.size w8 w11 := BX10.trans (hb11.mono BX10.size)
          clear BX10
          clear hb11 hd11 c10_c_0 c10_c_1 c10_c_2 c10_c_3 c10_s_0 c10_s_1 c10_d_0 c10_d_1 c10_d_2 c10_d_3 c10_e_0 c10_e_1 c10_e_2 c10_e_3 c10_t_0 c10_t_1 c10_shown_0 c10_shown_1 c10_right_0 c10_right_1 c10_ahead_0 c10_ahead_1 c10_want_0 c10_want_1 c10_set_0 c10_set_1 c10_set_2 c10_set_3 c10_model_0 c10_model_1 c10_model_2 c10_model_3 c10_truly_0 c10_truly_1 BW10
          have hrelB := BX11
          go_wp2_with fail
          go_meet
          case rel => exact hrelB
    case rest =>
      obtain ⟨w9, hw9⟩ : ∃ x : World, x = wc := ⟨_, rfl⟩
      subst hw9
      have hb9 := hcut
      obtain ⟨hc9, hf9⟩ := bcell hb9
      have hz9 := hb9.size
      (try simp only [World.size_alloc, World.size_setCell, World.size_drew] at hz9)
      have B9 : Below w8.heap.size w8 w9 := Below.trans (b := _) (by (repeat' (first | (with_reducible exact Below.refl _ _) | (with_reducible assumption) | (with_reducible refine Below.alloc ?_ ?_ _) | (with_reducible refine Below.drew ?_) | (with_reducible refine below_drewN ?_ _) | (with_reducible refine Below.setCell ?_ ?_ _) | (with_reducible refine below_call ?_ ?_ (by assumption)) | go_size))) (hb9.mono (by first | omega | (simp only [World.size_alloc, World.size_setCell, World.size_drew]; omega)))
      obtain ⟨hd9, -⟩ := bcell B9
      have c9_c_0 : w9.cell? ⟨w.heap.size, 0, none⟩ = some (.int .i64 n0) := (hd9 _ _ q_c).trans c8_c_0
      have c9_c_1 : w9.cell? ⟨w.heap.size, 1, none⟩ = some (.int .i64 d0) := (hd9 _ _ q_c).trans c8_c_1
      have c9_c_2 : w9.cell? ⟨w.heap.size, 2, none⟩ = some (.int .i64 x0) := (hd9 _ _ q_c).trans c8_c_2
      have c9_c_3 : w9.cell? ⟨w.heap.size, 3, none⟩ = some (.int .i64 y0) := (hd9 _ _ q_c).trans c8_c_3
      have c9_s_0 : w9.cell? ⟨w.heap.size + 1, 0, none⟩ = some (.int .i64 n1) := (hd9 _ _ q_s).trans c8_s_0
      have c9_s_1 : w9.cell? ⟨w.heap.size + 1, 1, none⟩ = some (.int .i64 d1) := (hd9 _ _ q_s).trans c8_s_1
      have c9_d_0 : w9.cell? ⟨w.heap.size + 1 + 1, 0, none⟩ = some (.int .i64 n2) := (hd9 _ _ q_d).trans c8_d_0
      have c9_d_1 : w9.cell? ⟨w.heap.size + 1 + 1, 1, none⟩ = some (.int .i64 d2) := (hd9 _ _ q_d).trans c8_d_1
      have c9_d_2 : w9.cell? ⟨w.heap.size + 1 + 1, 2, none⟩ = some (.int .i64 x2) := (hd9 _ _ q_d).trans c8_d_2
      have c9_d_3 : w9.cell? ⟨w.heap.size + 1 + 1, 3, none⟩ = some (.int .i64 y2) := (hd9 _ _ q_d).trans c8_d_3
      have c9_e_0 : w9.cell? ⟨w.heap.size + 1 + 1 + 1, 0, none⟩ = some (.int .i64 n3) := (hd9 _ _ q_e).trans c8_e_0
      have c9_e_1 : w9.cell? ⟨w.heap.size + 1 + 1 + 1, 1, none⟩ = some (.int .i64 d3) := (hd9 _ _ q_e).trans c8_e_1
      have c9_e_2 : w9.cell? ⟨w.heap.size + 1 + 1 + 1, 2, none⟩ = some (.int .i64 x3) := (hd9 _ _ q_e).trans c8_e_2
      have c9_e_3 : w9.cell? ⟨w.heap.size + 1 + 1 + 1, 3, none⟩ = some (.int .i64 y3) := (hd9 _ _ q_e).trans c8_e_3
      have c9_t_0 : w9.cell? ⟨w.heap.size + 1 + 1 + 1 + 1, 0, none⟩ = some (.int .i64 n4) := (hd9 _ _ q_t).trans c8_t_0
      have c9_t_1 : w9.cell? ⟨w.heap.size + 1 + 1 + 1 + 1, 1, none⟩ = some (.int .i64 d4) := (hd9 _ _ q_t).trans c8_t_1
      have c9_shown_0 : w9.cell? ⟨w1.heap.size, 0, none⟩ = some (.int .i64 un) := (hd9 _ _ q_shown).trans c8_shown_0
      have c9_shown_1 : w9.cell? ⟨w1.heap.size, 1, none⟩ = some (.int .i64 ud) := (hd9 _ _ q_shown).trans c8_shown_1
      have c9_right_0 : w9.cell? ⟨w2.heap.size, 0, none⟩ = some (.int .i64 un) := (hd9 _ _ q_right).trans c8_right_0
      have c9_right_1 : w9.cell? ⟨w2.heap.size, 1, none⟩ = some (.int .i64 ud) := (hd9 _ _ q_right).trans c8_right_1
      have c9_ahead_0 : w9.cell? ⟨w3.heap.size, 0, none⟩ = some (.int .i64 gn) := (hd9 _ _ q_ahead).trans c8_ahead_0
      have c9_ahead_1 : w9.cell? ⟨w3.heap.size, 1, none⟩ = some (.int .i64 gd) := (hd9 _ _ q_ahead).trans c8_ahead_1
      have c9_want_0 : w9.cell? ⟨w4.heap.size, 0, none⟩ = some (.int .i64 gn) := (hd9 _ _ q_want).trans c8_want_0
      have c9_want_1 : w9.cell? ⟨w4.heap.size, 1, none⟩ = some (.int .i64 gd) := (hd9 _ _ q_want).trans c8_want_1
      have c9_set_0 : w9.cell? ⟨w5.heap.size, 0, none⟩ = some (.int .i64 zn) := (hd9 _ _ q_set).trans c8_set_0
      have c9_set_1 : w9.cell? ⟨w5.heap.size, 1, none⟩ = some (.int .i64 zd) := (hd9 _ _ q_set).trans c8_set_1
      have c9_set_2 : w9.cell? ⟨w5.heap.size, 2, none⟩ = some (.int .i64 zp) := (hd9 _ _ q_set).trans c8_set_2
      have c9_set_3 : w9.cell? ⟨w5.heap.size, 3, none⟩ = some (.int .i64 zq) := (hd9 _ _ q_set).trans c8_set_3
      have c9_model_0 : w9.cell? ⟨w6.heap.size, 0, none⟩ = some (.int .i64 zn) := (hd9 _ _ q_model).trans c8_model_0
      have c9_model_1 : w9.cell? ⟨w6.heap.size, 1, none⟩ = some (.int .i64 zd) := (hd9 _ _ q_model).trans c8_model_1
      have c9_model_2 : w9.cell? ⟨w6.heap.size, 2, none⟩ = some (.int .i64 zp) := (hd9 _ _ q_model).trans c8_model_2
      have c9_model_3 : w9.cell? ⟨w6.heap.size, 3, none⟩ = some (.int .i64 zq) := (hd9 _ _ q_model).trans c8_model_3
      replace q_c : w.heap.size < w9.heap.size := by omega
      replace q_s : w.heap.size + 1 < w9.heap.size := by omega
      replace q_d : w.heap.size + 1 + 1 < w9.heap.size := by omega
      replace q_e : w.heap.size + 1 + 1 + 1 < w9.heap.size := by omega
      replace q_t : w.heap.size + 1 + 1 + 1 + 1 < w9.heap.size := by omega
      replace q_shown : w1.heap.size < w9.heap.size := by omega
      replace q_right : w2.heap.size < w9.heap.size := by omega
      replace q_ahead : w3.heap.size < w9.heap.size := by omega
      replace q_want : w4.heap.size < w9.heap.size := by omega
      replace q_set : w5.heap.size < w9.heap.size := by omega
      replace q_model : w6.heap.size < w9.heap.size := by omega
      have BW9 : Below w.heap.size w w9 := BW8.trans (B9.mono BW8.size)
      clear hc9 hf9 hb9 hd9 B9 c8_c_0 c8_c_1 c8_c_2 c8_c_3 c8_s_0 c8_s_1 c8_d_0 c8_d_1 c8_d_2 c8_d_3 c8_e_0 c8_e_1 c8_e_2 c8_e_3 c8_t_0 c8_t_1 c8_shown_0 c8_shown_1 c8_right_0 c8_right_1 c8_ahead_0 c8_ahead_1 c8_want_0 c8_want_1 c8_set_0 c8_set_1 c8_set_2 c8_set_3 c8_model_0 c8_model_1 c8_model_2 c8_model_3 BW8
      go_upto_if 141 with fail
      go_cut [] from 999 to 999 (fun wx => Below w9.heap.size w9 wx)
      case first =>
        as_aux_lemma =>
          cases zo
          · go_wp2_with fail
            go_meet
            case rel => exact Below.refl _ _
          · obtain ⟨⟨e1, e2⟩, h2⟩ := G2.out rfl
            replace e1 := e1.symm
            replace e2 := e2.symm
            subst e1
            subst e2
            have Z1 := Lib.hid (fun W => (show Calls Try.prog 9 #[cv zn zd x0 y0, tv n1 d1] W fun e w' => e = .returned (rv (0, 1, true)) ∧ Below W.heap.size W w' from by have := implAheadAfter_any zn zd x0 y0 n1 d1 W; rw [h2] at this; exact this))
            clear h2
            go_wp2_with fail
            refine (Z1.out _).mono ?_
            rintro e10 w10 ⟨rfl, hb10⟩
            obtain ⟨hc10, hf10⟩ := bcell hb10
            have hz10 := hb10.size
            (try simp only [World.size_alloc, World.size_setCell, World.size_drew] at hz10)
            have B10 : Below w9.heap.size w9 w10 := Below.trans (b := _) (by (repeat' (first | (with_reducible exact Below.refl _ _) | (with_reducible assumption) | (with_reducible refine Below.alloc ?_ ?_ _) | (with_reducible refine Below.drew ?_) | (with_reducible refine below_drewN ?_ _) | (with_reducible refine Below.setCell ?_ ?_ _) | (with_reducible refine below_call ?_ ?_ (by assumption)) | go_size))) (hb10.mono (by first | omega | (simp only [World.size_alloc, World.size_setCell, World.size_drew]; omega)))
            obtain ⟨hd10, -⟩ := bcell B10
            have c10_c_0 : w10.cell? ⟨w.heap.size, 0, none⟩ = some (.int .i64 n0) := (hd10 _ _ q_c).trans c9_c_0
            have c10_c_1 : w10.cell? ⟨w.heap.size, 1, none⟩ = some (.int .i64 d0) := (hd10 _ _ q_c).trans c9_c_1
            have c10_c_2 : w10.cell? ⟨w.heap.size, 2, none⟩ = some (.int .i64 x0) := (hd10 _ _ q_c).trans c9_c_2
            have c10_c_3 : w10.cell? ⟨w.heap.size, 3, none⟩ = some (.int .i64 y0) := (hd10 _ _ q_c).trans c9_c_3
            have c10_s_0 : w10.cell? ⟨w.heap.size + 1, 0, none⟩ = some (.int .i64 n1) := (hd10 _ _ q_s).trans c9_s_0
            have c10_s_1 : w10.cell? ⟨w.heap.size + 1, 1, none⟩ = some (.int .i64 d1) := (hd10 _ _ q_s).trans c9_s_1
            have c10_d_0 : w10.cell? ⟨w.heap.size + 1 + 1, 0, none⟩ = some (.int .i64 n2) := (hd10 _ _ q_d).trans c9_d_0
            have c10_d_1 : w10.cell? ⟨w.heap.size + 1 + 1, 1, none⟩ = some (.int .i64 d2) := (hd10 _ _ q_d).trans c9_d_1
            have c10_d_2 : w10.cell? ⟨w.heap.size + 1 + 1, 2, none⟩ = some (.int .i64 x2) := (hd10 _ _ q_d).trans c9_d_2
            have c10_d_3 : w10.cell? ⟨w.heap.size + 1 + 1, 3, none⟩ = some (.int .i64 y2) := (hd10 _ _ q_d).trans c9_d_3
            have c10_e_0 : w10.cell? ⟨w.heap.size + 1 + 1 + 1, 0, none⟩ = some (.int .i64 n3) := (hd10 _ _ q_e).trans c9_e_0
            have c10_e_1 : w10.cell? ⟨w.heap.size + 1 + 1 + 1, 1, none⟩ = some (.int .i64 d3) := (hd10 _ _ q_e).trans c9_e_1
            have c10_e_2 : w10.cell? ⟨w.heap.size + 1 + 1 + 1, 2, none⟩ = some (.int .i64 x3) := (hd10 _ _ q_e).trans c9_e_2
            have c10_e_3 : w10.cell? ⟨w.heap.size + 1 + 1 + 1, 3, none⟩ = some (.int .i64 y3) := (hd10 _ _ q_e).trans c9_e_3
            have c10_t_0 : w10.cell? ⟨w.heap.size + 1 + 1 + 1 + 1, 0, none⟩ = some (.int .i64 n4) := (hd10 _ _ q_t).trans c9_t_0
            have c10_t_1 : w10.cell? ⟨w.heap.size + 1 + 1 + 1 + 1, 1, none⟩ = some (.int .i64 d4) := (hd10 _ _ q_t).trans c9_t_1
            have c10_shown_0 : w10.cell? ⟨w1.heap.size, 0, none⟩ = some (.int .i64 un) := (hd10 _ _ q_shown).trans c9_shown_0
            have c10_shown_1 : w10.cell? ⟨w1.heap.size, 1, none⟩ = some (.int .i64 ud) := (hd10 _ _ q_shown).trans c9_shown_1
            have c10_right_0 : w10.cell? ⟨w2.heap.size, 0, none⟩ = some (.int .i64 un) := (hd10 _ _ q_right).trans c9_right_0
            have c10_right_1 : w10.cell? ⟨w2.heap.size, 1, none⟩ = some (.int .i64 ud) := (hd10 _ _ q_right).trans c9_right_1
            have c10_ahead_0 : w10.cell? ⟨w3.heap.size, 0, none⟩ = some (.int .i64 gn) := (hd10 _ _ q_ahead).trans c9_ahead_0
            have c10_ahead_1 : w10.cell? ⟨w3.heap.size, 1, none⟩ = some (.int .i64 gd) := (hd10 _ _ q_ahead).trans c9_ahead_1
            have c10_want_0 : w10.cell? ⟨w4.heap.size, 0, none⟩ = some (.int .i64 gn) := (hd10 _ _ q_want).trans c9_want_0
            have c10_want_1 : w10.cell? ⟨w4.heap.size, 1, none⟩ = some (.int .i64 gd) := (hd10 _ _ q_want).trans c9_want_1
            have c10_set_0 : w10.cell? ⟨w5.heap.size, 0, none⟩ = some (.int .i64 zn) := (hd10 _ _ q_set).trans c9_set_0
            have c10_set_1 : w10.cell? ⟨w5.heap.size, 1, none⟩ = some (.int .i64 zd) := (hd10 _ _ q_set).trans c9_set_1
            have c10_set_2 : w10.cell? ⟨w5.heap.size, 2, none⟩ = some (.int .i64 x0) := (hd10 _ _ q_set).trans c9_set_2
            have c10_set_3 : w10.cell? ⟨w5.heap.size, 3, none⟩ = some (.int .i64 y0) := (hd10 _ _ q_set).trans c9_set_3
            have c10_model_0 : w10.cell? ⟨w6.heap.size, 0, none⟩ = some (.int .i64 zn) := (hd10 _ _ q_model).trans c9_model_0
            have c10_model_1 : w10.cell? ⟨w6.heap.size, 1, none⟩ = some (.int .i64 zd) := (hd10 _ _ q_model).trans c9_model_1
            have c10_model_2 : w10.cell? ⟨w6.heap.size, 2, none⟩ = some (.int .i64 x0) := (hd10 _ _ q_model).trans c9_model_2
            have c10_model_3 : w10.cell? ⟨w6.heap.size, 3, none⟩ = some (.int .i64 y0) := (hd10 _ _ q_model).trans c9_model_3
            replace q_c : w.heap.size < w10.heap.size := by omega
            replace q_s : w.heap.size + 1 < w10.heap.size := by omega
            replace q_d : w.heap.size + 1 + 1 < w10.heap.size := by omega
            replace q_e : w.heap.size + 1 + 1 + 1 < w10.heap.size := by omega
            replace q_t : w.heap.size + 1 + 1 + 1 + 1 < w10.heap.size := by omega
            replace q_shown : w1.heap.size < w10.heap.size := by omega
            replace q_right : w2.heap.size < w10.heap.size := by omega
            replace q_ahead : w3.heap.size < w10.heap.size := by omega
            replace q_want : w4.heap.size < w10.heap.size := by omega
            replace q_set : w5.heap.size < w10.heap.size := by omega
            replace q_model : w6.heap.size < w10.heap.size := by omega
            have BW10 : Below w.heap.size w w10 := BW9.trans (B10.mono BW9.size)
            have BX10 : Below w9.heap.size w9 w10 := B10
            clear hc10 hf10 hb10 hd10 B10 c9_c_0 c9_c_1 c9_c_2 c9_c_3 c9_s_0 c9_s_1 c9_d_0 c9_d_1 c9_d_2 c9_d_3 c9_e_0 c9_e_1 c9_e_2 c9_e_3 c9_t_0 c9_t_1 c9_shown_0 c9_shown_1 c9_right_0 c9_right_1 c9_ahead_0 c9_ahead_1 c9_want_0 c9_want_1 c9_set_0 c9_set_1 c9_set_2 c9_set_3 c9_model_0 c9_model_1 c9_model_2 c9_model_3 BW9
            go_upto_region 16 with fail
            have hb11 : Below w10.heap.size w10 (w10.alloc (Obj.cells #[.int .i64 0, .int .i64 1] 25)) := by (repeat' (first | (with_reducible exact Below.refl _ _) | (with_reducible assumption) | (with_reducible refine Below.alloc ?_ ?_ _) | (with_reducible refine Below.drew ?_) | (with_reducible refine below_drewN ?_ _) | (with_reducible refine Below.setCell ?_ ?_ _) | (with_reducible refine below_call ?_ ?_ (by assumption)) | go_size))
            have c11_none1_0 : (w10.alloc (Obj.cells #[.int .i64 0, .int .i64 1] 25)).cell? ⟨w10.heap.size, 0, none⟩ = some (.int .i64 0) := by go_simp
            have c11_none1_1 : (w10.alloc (Obj.cells #[.int .i64 0, .int .i64 1] 25)).cell? ⟨w10.heap.size, 1, none⟩ = some (.int .i64 1) := by go_simp
            have q_none1 : w10.heap.size < (w10.alloc (Obj.cells #[.int .i64 0, .int .i64 1] 25)).heap.size := by go_size
            generalize (w10.alloc (Obj.cells #[.int .i64 0, .int .i64 1] 25)) = w11 at *
            obtain ⟨hd11, -⟩ := bcell hb11
            have hz11 := hb11.size
            have c11_c_0 : w11.cell? ⟨w.heap.size, 0, none⟩ = some (.int .i64 n0) := (hd11 _ _ q_c).trans c10_c_0
            have c11_c_1 : w11.cell? ⟨w.heap.size, 1, none⟩ = some (.int .i64 d0) := (hd11 _ _ q_c).trans c10_c_1
            have c11_c_2 : w11.cell? ⟨w.heap.size, 2, none⟩ = some (.int .i64 x0) := (hd11 _ _ q_c).trans c10_c_2
            have c11_c_3 : w11.cell? ⟨w.heap.size, 3, none⟩ = some (.int .i64 y0) := (hd11 _ _ q_c).trans c10_c_3
            have c11_s_0 : w11.cell? ⟨w.heap.size + 1, 0, none⟩ = some (.int .i64 n1) := (hd11 _ _ q_s).trans c10_s_0
            have c11_s_1 : w11.cell? ⟨w.heap.size + 1, 1, none⟩ = some (.int .i64 d1) := (hd11 _ _ q_s).trans c10_s_1
            have c11_d_0 : w11.cell? ⟨w.heap.size + 1 + 1, 0, none⟩ = some (.int .i64 n2) := (hd11 _ _ q_d).trans c10_d_0
            have c11_d_1 : w11.cell? ⟨w.heap.size + 1 + 1, 1, none⟩ = some (.int .i64 d2) := (hd11 _ _ q_d).trans c10_d_1
            have c11_d_2 : w11.cell? ⟨w.heap.size + 1 + 1, 2, none⟩ = some (.int .i64 x2) := (hd11 _ _ q_d).trans c10_d_2
            have c11_d_3 : w11.cell? ⟨w.heap.size + 1 + 1, 3, none⟩ = some (.int .i64 y2) := (hd11 _ _ q_d).trans c10_d_3
            have c11_e_0 : w11.cell? ⟨w.heap.size + 1 + 1 + 1, 0, none⟩ = some (.int .i64 n3) := (hd11 _ _ q_e).trans c10_e_0
            have c11_e_1 : w11.cell? ⟨w.heap.size + 1 + 1 + 1, 1, none⟩ = some (.int .i64 d3) := (hd11 _ _ q_e).trans c10_e_1
            have c11_e_2 : w11.cell? ⟨w.heap.size + 1 + 1 + 1, 2, none⟩ = some (.int .i64 x3) := (hd11 _ _ q_e).trans c10_e_2
            have c11_e_3 : w11.cell? ⟨w.heap.size + 1 + 1 + 1, 3, none⟩ = some (.int .i64 y3) := (hd11 _ _ q_e).trans c10_e_3
            have c11_t_0 : w11.cell? ⟨w.heap.size + 1 + 1 + 1 + 1, 0, none⟩ = some (.int .i64 n4) := (hd11 _ _ q_t).trans c10_t_0
            have c11_t_1 : w11.cell? ⟨w.heap.size + 1 + 1 + 1 + 1, 1, none⟩ = some (.int .i64 d4) := (hd11 _ _ q_t).trans c10_t_1
            have c11_shown_0 : w11.cell? ⟨w1.heap.size, 0, none⟩ = some (.int .i64 un) := (hd11 _ _ q_shown).trans c10_shown_0
            have c11_shown_1 : w11.cell? ⟨w1.heap.size, 1, none⟩ = some (.int .i64 ud) := (hd11 _ _ q_shown).trans c10_shown_1
            have c11_right_0 : w11.cell? ⟨w2.heap.size, 0, none⟩ = some (.int .i64 un) := (hd11 _ _ q_right).trans c10_right_0
            have c11_right_1 : w11.cell? ⟨w2.heap.size, 1, none⟩ = some (.int .i64 ud) := (hd11 _ _ q_right).trans c10_right_1
            have c11_ahead_0 : w11.cell? ⟨w3.heap.size, 0, none⟩ = some (.int .i64 gn) := (hd11 _ _ q_ahead).trans c10_ahead_0
            have c11_ahead_1 : w11.cell? ⟨w3.heap.size, 1, none⟩ = some (.int .i64 gd) := (hd11 _ _ q_ahead).trans c10_ahead_1
            have c11_want_0 : w11.cell? ⟨w4.heap.size, 0, none⟩ = some (.int .i64 gn) := (hd11 _ _ q_want).trans c10_want_0
            have c11_want_1 : w11.cell? ⟨w4.heap.size, 1, none⟩ = some (.int .i64 gd) := (hd11 _ _ q_want).trans c10_want_1
            have c11_set_0 : w11.cell? ⟨w5.heap.size, 0, none⟩ = some (.int .i64 zn) := (hd11 _ _ q_set).trans c10_set_0
            have c11_set_1 : w11.cell? ⟨w5.heap.size, 1, none⟩ = some (.int .i64 zd) := (hd11 _ _ q_set).trans c10_set_1
            have c11_set_2 : w11.cell? ⟨w5.heap.size, 2, none⟩ = some (.int .i64 x0) := (hd11 _ _ q_set).trans c10_set_2
            have c11_set_3 : w11.cell? ⟨w5.heap.size, 3, none⟩ = some (.int .i64 y0) := (hd11 _ _ q_set).trans c10_set_3
            have c11_model_0 : w11.cell? ⟨w6.heap.size, 0, none⟩ = some (.int .i64 zn) := (hd11 _ _ q_model).trans c10_model_0
            have c11_model_1 : w11.cell? ⟨w6.heap.size, 1, none⟩ = some (.int .i64 zd) := (hd11 _ _ q_model).trans c10_model_1
            have c11_model_2 : w11.cell? ⟨w6.heap.size, 2, none⟩ = some (.int .i64 x0) := (hd11 _ _ q_model).trans c10_model_2
            have c11_model_3 : w11.cell? ⟨w6.heap.size, 3, none⟩ = some (.int .i64 y0) := (hd11 _ _ q_model).trans c10_model_3
            replace q_c : w.heap.size < w11.heap.size := by omega
            replace q_s : w.heap.size + 1 < w11.heap.size := by omega
            replace q_d : w.heap.size + 1 + 1 < w11.heap.size := by omega
            replace q_e : w.heap.size + 1 + 1 + 1 < w11.heap.size := by omega
            replace q_t : w.heap.size + 1 + 1 + 1 + 1 < w11.heap.size := by omega
            replace q_shown : w1.heap.size < w11.heap.size := by omega
            replace q_right : w2.heap.size < w11.heap.size := by omega
            replace q_ahead : w3.heap.size < w11.heap.size := by omega
            replace q_want : w4.heap.size < w11.heap.size := by omega
            replace q_set : w5.heap.size < w11.heap.size := by omega
            replace q_model : w6.heap.size < w11.heap.size := by omega
            have BW11 : Below w.heap.size w w11 := BW10.trans (hb11.mono BW10.size)
            have BX11 : Below w9.heap.size w9 w11 := BX10.trans (hb11.mono BX10.size)
            clear BX10
            clear hb11 hd11 c10_c_0 c10_c_1 c10_c_2 c10_c_3 c10_s_0 c10_s_1 c10_d_0 c10_d_1 c10_d_2 c10_d_3 c10_e_0 c10_e_1 c10_e_2 c10_e_3 c10_t_0 c10_t_1 c10_shown_0 c10_shown_1 c10_right_0 c10_right_1 c10_ahead_0 c10_ahead_1 c10_want_0 c10_want_1 c10_set_0 c10_set_1 c10_set_2 c10_set_3 c10_model_0 c10_model_1 c10_model_2 c10_model_3 BW10
            have hrelB := BX11
            go_wp2_with fail
            go_meet
            case rel => exact hrelB
      case rest =>
        obtain ⟨w10, hw10⟩ : ∃ x : World, x = wc := ⟨_, rfl⟩
        subst hw10
        have hb10 := hcut
        obtain ⟨hc10, hf10⟩ := bcell hb10
        have hz10 := hb10.size
        (try simp only [World.size_alloc, World.size_setCell, World.size_drew] at hz10)
        have B10 : Below w9.heap.size w9 w10 := Below.trans (b := _) (by (repeat' (first | (with_reducible exact Below.refl _ _) | (with_reducible assumption) | (with_reducible refine Below.alloc ?_ ?_ _) | (with_reducible refine Below.drew ?_) | (with_reducible refine below_drewN ?_ _) | (with_reducible refine Below.setCell ?_ ?_ _) | (with_reducible refine below_call ?_ ?_ (by assumption)) | go_size))) (hb10.mono (by first | omega | (simp only [World.size_alloc, World.size_setCell, World.size_drew]; omega)))
        obtain ⟨hd10, -⟩ := bcell B10
        have c10_c_0 : w10.cell? ⟨w.heap.size, 0, none⟩ = some (.int .i64 n0) := (hd10 _ _ q_c).trans c9_c_0
        have c10_c_1 : w10.cell? ⟨w.heap.size, 1, none⟩ = some (.int .i64 d0) := (hd10 _ _ q_c).trans c9_c_1
        have c10_c_2 : w10.cell? ⟨w.heap.size, 2, none⟩ = some (.int .i64 x0) := (hd10 _ _ q_c).trans c9_c_2
        have c10_c_3 : w10.cell? ⟨w.heap.size, 3, none⟩ = some (.int .i64 y0) := (hd10 _ _ q_c).trans c9_c_3
        have c10_s_0 : w10.cell? ⟨w.heap.size + 1, 0, none⟩ = some (.int .i64 n1) := (hd10 _ _ q_s).trans c9_s_0
        have c10_s_1 : w10.cell? ⟨w.heap.size + 1, 1, none⟩ = some (.int .i64 d1) := (hd10 _ _ q_s).trans c9_s_1
        have c10_d_0 : w10.cell? ⟨w.heap.size + 1 + 1, 0, none⟩ = some (.int .i64 n2) := (hd10 _ _ q_d).trans c9_d_0
        have c10_d_1 : w10.cell? ⟨w.heap.size + 1 + 1, 1, none⟩ = some (.int .i64 d2) := (hd10 _ _ q_d).trans c9_d_1
        have c10_d_2 : w10.cell? ⟨w.heap.size + 1 + 1, 2, none⟩ = some (.int .i64 x2) := (hd10 _ _ q_d).trans c9_d_2
        have c10_d_3 : w10.cell? ⟨w.heap.size + 1 + 1, 3, none⟩ = some (.int .i64 y2) := (hd10 _ _ q_d).trans c9_d_3
        have c10_e_0 : w10.cell? ⟨w.heap.size + 1 + 1 + 1, 0, none⟩ = some (.int .i64 n3) := (hd10 _ _ q_e).trans c9_e_0
        have c10_e_1 : w10.cell? ⟨w.heap.size + 1 + 1 + 1, 1, none⟩ = some (.int .i64 d3) := (hd10 _ _ q_e).trans c9_e_1
        have c10_e_2 : w10.cell? ⟨w.heap.size + 1 + 1 + 1, 2, none⟩ = some (.int .i64 x3) := (hd10 _ _ q_e).trans c9_e_2
        have c10_e_3 : w10.cell? ⟨w.heap.size + 1 + 1 + 1, 3, none⟩ = some (.int .i64 y3) := (hd10 _ _ q_e).trans c9_e_3
        have c10_t_0 : w10.cell? ⟨w.heap.size + 1 + 1 + 1 + 1, 0, none⟩ = some (.int .i64 n4) := (hd10 _ _ q_t).trans c9_t_0
        have c10_t_1 : w10.cell? ⟨w.heap.size + 1 + 1 + 1 + 1, 1, none⟩ = some (.int .i64 d4) := (hd10 _ _ q_t).trans c9_t_1
        have c10_shown_0 : w10.cell? ⟨w1.heap.size, 0, none⟩ = some (.int .i64 un) := (hd10 _ _ q_shown).trans c9_shown_0
        have c10_shown_1 : w10.cell? ⟨w1.heap.size, 1, none⟩ = some (.int .i64 ud) := (hd10 _ _ q_shown).trans c9_shown_1
        have c10_right_0 : w10.cell? ⟨w2.heap.size, 0, none⟩ = some (.int .i64 un) := (hd10 _ _ q_right).trans c9_right_0
        have c10_right_1 : w10.cell? ⟨w2.heap.size, 1, none⟩ = some (.int .i64 ud) := (hd10 _ _ q_right).trans c9_right_1
        have c10_ahead_0 : w10.cell? ⟨w3.heap.size, 0, none⟩ = some (.int .i64 gn) := (hd10 _ _ q_ahead).trans c9_ahead_0
        have c10_ahead_1 : w10.cell? ⟨w3.heap.size, 1, none⟩ = some (.int .i64 gd) := (hd10 _ _ q_ahead).trans c9_ahead_1
        have c10_want_0 : w10.cell? ⟨w4.heap.size, 0, none⟩ = some (.int .i64 gn) := (hd10 _ _ q_want).trans c9_want_0
        have c10_want_1 : w10.cell? ⟨w4.heap.size, 1, none⟩ = some (.int .i64 gd) := (hd10 _ _ q_want).trans c9_want_1
        have c10_set_0 : w10.cell? ⟨w5.heap.size, 0, none⟩ = some (.int .i64 zn) := (hd10 _ _ q_set).trans c9_set_0
        have c10_set_1 : w10.cell? ⟨w5.heap.size, 1, none⟩ = some (.int .i64 zd) := (hd10 _ _ q_set).trans c9_set_1
        have c10_set_2 : w10.cell? ⟨w5.heap.size, 2, none⟩ = some (.int .i64 zp) := (hd10 _ _ q_set).trans c9_set_2
        have c10_set_3 : w10.cell? ⟨w5.heap.size, 3, none⟩ = some (.int .i64 zq) := (hd10 _ _ q_set).trans c9_set_3
        have c10_model_0 : w10.cell? ⟨w6.heap.size, 0, none⟩ = some (.int .i64 zn) := (hd10 _ _ q_model).trans c9_model_0
        have c10_model_1 : w10.cell? ⟨w6.heap.size, 1, none⟩ = some (.int .i64 zd) := (hd10 _ _ q_model).trans c9_model_1
        have c10_model_2 : w10.cell? ⟨w6.heap.size, 2, none⟩ = some (.int .i64 zp) := (hd10 _ _ q_model).trans c9_model_2
        have c10_model_3 : w10.cell? ⟨w6.heap.size, 3, none⟩ = some (.int .i64 zq) := (hd10 _ _ q_model).trans c9_model_3
        replace q_c : w.heap.size < w10.heap.size := by omega
        replace q_s : w.heap.size + 1 < w10.heap.size := by omega
        replace q_d : w.heap.size + 1 + 1 < w10.heap.size := by omega
        replace q_e : w.heap.size + 1 + 1 + 1 < w10.heap.size := by omega
        replace q_t : w.heap.size + 1 + 1 + 1 + 1 < w10.heap.size := by omega
        replace q_shown : w1.heap.size < w10.heap.size := by omega
        replace q_right : w2.heap.size < w10.heap.size := by omega
        replace q_ahead : w3.heap.size < w10.heap.size := by omega
        replace q_want : w4.heap.size < w10.heap.size := by omega
        replace q_set : w5.heap.size < w10.heap.size := by omega
        replace q_model : w6.heap.size < w10.heap.size := by omega
        have BW10 : Below w.heap.size w w10 := BW9.trans (B10.mono BW9.size)
        clear hc10 hf10 hb10 hd10 B10 c9_c_0 c9_c_1 c9_c_2 c9_c_3 c9_s_0 c9_s_1 c9_d_0 c9_d_1 c9_d_2 c9_d_3 c9_e_0 c9_e_1 c9_e_2 c9_e_3 c9_t_0 c9_t_1 c9_shown_0 c9_shown_1 c9_right_0 c9_right_1 c9_ahead_0 c9_ahead_1 c9_want_0 c9_want_1 c9_set_0 c9_set_1 c9_set_2 c9_set_3 c9_model_0 c9_model_1 c9_model_2 c9_model_3 BW9
        go_wp2_with fail
        refine (C7.out _).mono ?_
        rintro e11 w11 ⟨rfl, hb11⟩
        obtain ⟨hc11, hf11⟩ := bcell hb11
        have hz11 := hb11.size
        (try simp only [World.size_alloc, World.size_setCell, World.size_drew] at hz11)
        have B11 : Below w10.heap.size w10 w11 := Below.trans (b := _) (by (repeat' (first | (with_reducible exact Below.refl _ _) | (with_reducible assumption) | (with_reducible refine Below.alloc ?_ ?_ _) | (with_reducible refine Below.drew ?_) | (with_reducible refine below_drewN ?_ _) | (with_reducible refine Below.setCell ?_ ?_ _) | (with_reducible refine below_call ?_ ?_ (by assumption)) | go_size))) (hb11.mono (by first | omega | (simp only [World.size_alloc, World.size_setCell, World.size_drew]; omega)))
        obtain ⟨hd11, -⟩ := bcell B11
        have c11_c_0 : w11.cell? ⟨w.heap.size, 0, none⟩ = some (.int .i64 n0) := (hd11 _ _ q_c).trans c10_c_0
        have c11_c_1 : w11.cell? ⟨w.heap.size, 1, none⟩ = some (.int .i64 d0) := (hd11 _ _ q_c).trans c10_c_1
        have c11_c_2 : w11.cell? ⟨w.heap.size, 2, none⟩ = some (.int .i64 x0) := (hd11 _ _ q_c).trans c10_c_2
        have c11_c_3 : w11.cell? ⟨w.heap.size, 3, none⟩ = some (.int .i64 y0) := (hd11 _ _ q_c).trans c10_c_3
        have c11_s_0 : w11.cell? ⟨w.heap.size + 1, 0, none⟩ = some (.int .i64 n1) := (hd11 _ _ q_s).trans c10_s_0
        have c11_s_1 : w11.cell? ⟨w.heap.size + 1, 1, none⟩ = some (.int .i64 d1) := (hd11 _ _ q_s).trans c10_s_1
        have c11_d_0 : w11.cell? ⟨w.heap.size + 1 + 1, 0, none⟩ = some (.int .i64 n2) := (hd11 _ _ q_d).trans c10_d_0
        have c11_d_1 : w11.cell? ⟨w.heap.size + 1 + 1, 1, none⟩ = some (.int .i64 d2) := (hd11 _ _ q_d).trans c10_d_1
        have c11_d_2 : w11.cell? ⟨w.heap.size + 1 + 1, 2, none⟩ = some (.int .i64 x2) := (hd11 _ _ q_d).trans c10_d_2
        have c11_d_3 : w11.cell? ⟨w.heap.size + 1 + 1, 3, none⟩ = some (.int .i64 y2) := (hd11 _ _ q_d).trans c10_d_3
        have c11_e_0 : w11.cell? ⟨w.heap.size + 1 + 1 + 1, 0, none⟩ = some (.int .i64 n3) := (hd11 _ _ q_e).trans c10_e_0
        have c11_e_1 : w11.cell? ⟨w.heap.size + 1 + 1 + 1, 1, none⟩ = some (.int .i64 d3) := (hd11 _ _ q_e).trans c10_e_1
        have c11_e_2 : w11.cell? ⟨w.heap.size + 1 + 1 + 1, 2, none⟩ = some (.int .i64 x3) := (hd11 _ _ q_e).trans c10_e_2
        have c11_e_3 : w11.cell? ⟨w.heap.size + 1 + 1 + 1, 3, none⟩ = some (.int .i64 y3) := (hd11 _ _ q_e).trans c10_e_3
        have c11_t_0 : w11.cell? ⟨w.heap.size + 1 + 1 + 1 + 1, 0, none⟩ = some (.int .i64 n4) := (hd11 _ _ q_t).trans c10_t_0
        have c11_t_1 : w11.cell? ⟨w.heap.size + 1 + 1 + 1 + 1, 1, none⟩ = some (.int .i64 d4) := (hd11 _ _ q_t).trans c10_t_1
        have c11_shown_0 : w11.cell? ⟨w1.heap.size, 0, none⟩ = some (.int .i64 un) := (hd11 _ _ q_shown).trans c10_shown_0
        have c11_shown_1 : w11.cell? ⟨w1.heap.size, 1, none⟩ = some (.int .i64 ud) := (hd11 _ _ q_shown).trans c10_shown_1
        have c11_right_0 : w11.cell? ⟨w2.heap.size, 0, none⟩ = some (.int .i64 un) := (hd11 _ _ q_right).trans c10_right_0
        have c11_right_1 : w11.cell? ⟨w2.heap.size, 1, none⟩ = some (.int .i64 ud) := (hd11 _ _ q_right).trans c10_right_1
        have c11_ahead_0 : w11.cell? ⟨w3.heap.size, 0, none⟩ = some (.int .i64 gn) := (hd11 _ _ q_ahead).trans c10_ahead_0
        have c11_ahead_1 : w11.cell? ⟨w3.heap.size, 1, none⟩ = some (.int .i64 gd) := (hd11 _ _ q_ahead).trans c10_ahead_1
        have c11_want_0 : w11.cell? ⟨w4.heap.size, 0, none⟩ = some (.int .i64 gn) := (hd11 _ _ q_want).trans c10_want_0
        have c11_want_1 : w11.cell? ⟨w4.heap.size, 1, none⟩ = some (.int .i64 gd) := (hd11 _ _ q_want).trans c10_want_1
        have c11_set_0 : w11.cell? ⟨w5.heap.size, 0, none⟩ = some (.int .i64 zn) := (hd11 _ _ q_set).trans c10_set_0
        have c11_set_1 : w11.cell? ⟨w5.heap.size, 1, none⟩ = some (.int .i64 zd) := (hd11 _ _ q_set).trans c10_set_1
        have c11_set_2 : w11.cell? ⟨w5.heap.size, 2, none⟩ = some (.int .i64 zp) := (hd11 _ _ q_set).trans c10_set_2
        have c11_set_3 : w11.cell? ⟨w5.heap.size, 3, none⟩ = some (.int .i64 zq) := (hd11 _ _ q_set).trans c10_set_3
        have c11_model_0 : w11.cell? ⟨w6.heap.size, 0, none⟩ = some (.int .i64 zn) := (hd11 _ _ q_model).trans c10_model_0
        have c11_model_1 : w11.cell? ⟨w6.heap.size, 1, none⟩ = some (.int .i64 zd) := (hd11 _ _ q_model).trans c10_model_1
        have c11_model_2 : w11.cell? ⟨w6.heap.size, 2, none⟩ = some (.int .i64 zp) := (hd11 _ _ q_model).trans c10_model_2
        have c11_model_3 : w11.cell? ⟨w6.heap.size, 3, none⟩ = some (.int .i64 zq) := (hd11 _ _ q_model).trans c10_model_3
        replace q_c : w.heap.size < w11.heap.size := by omega
        replace q_s : w.heap.size + 1 < w11.heap.size := by omega
        replace q_d : w.heap.size + 1 + 1 < w11.heap.size := by omega
        replace q_e : w.heap.size + 1 + 1 + 1 < w11.heap.size := by omega
        replace q_t : w.heap.size + 1 + 1 + 1 + 1 < w11.heap.size := by omega
        replace q_shown : w1.heap.size < w11.heap.size := by omega
        replace q_right : w2.heap.size < w11.heap.size := by omega
        replace q_ahead : w3.heap.size < w11.heap.size := by omega
        replace q_want : w4.heap.size < w11.heap.size := by omega
        replace q_set : w5.heap.size < w11.heap.size := by omega
        replace q_model : w6.heap.size < w11.heap.size := by omega
        have BW11 : Below w.heap.size w w11 := BW10.trans (B11.mono BW10.size)
        clear hc11 hf11 hb11 hd11 B11 c10_c_0 c10_c_1 c10_c_2 c10_c_3 c10_s_0 c10_s_1 c10_d_0 c10_d_1 c10_d_2 c10_d_3 c10_e_0 c10_e_1 c10_e_2 c10_e_3 c10_t_0 c10_t_1 c10_shown_0 c10_shown_1 c10_right_0 c10_right_1 c10_ahead_0 c10_ahead_1 c10_want_0 c10_want_1 c10_set_0 c10_set_1 c10_set_2 c10_set_3 c10_model_0 c10_model_1 c10_model_2 c10_model_3 BW10
        go_wp2_with fail
        refine (C8.out _).mono ?_
        rintro e12 w12 ⟨rfl, hb12⟩
        obtain ⟨hc12, hf12⟩ := bcell hb12
        have hz12 := hb12.size
        (try simp only [World.size_alloc, World.size_setCell, World.size_drew] at hz12)
        have B12 : Below w11.heap.size w11 w12 := Below.trans (b := _) (by (repeat' (first | (with_reducible exact Below.refl _ _) | (with_reducible assumption) | (with_reducible refine Below.alloc ?_ ?_ _) | (with_reducible refine Below.drew ?_) | (with_reducible refine below_drewN ?_ _) | (with_reducible refine Below.setCell ?_ ?_ _) | (with_reducible refine below_call ?_ ?_ (by assumption)) | go_size))) (hb12.mono (by first | omega | (simp only [World.size_alloc, World.size_setCell, World.size_drew]; omega)))
        obtain ⟨hd12, -⟩ := bcell B12
        have c12_c_0 : w12.cell? ⟨w.heap.size, 0, none⟩ = some (.int .i64 n0) := (hd12 _ _ q_c).trans c11_c_0
        have c12_c_1 : w12.cell? ⟨w.heap.size, 1, none⟩ = some (.int .i64 d0) := (hd12 _ _ q_c).trans c11_c_1
        have c12_c_2 : w12.cell? ⟨w.heap.size, 2, none⟩ = some (.int .i64 x0) := (hd12 _ _ q_c).trans c11_c_2
        have c12_c_3 : w12.cell? ⟨w.heap.size, 3, none⟩ = some (.int .i64 y0) := (hd12 _ _ q_c).trans c11_c_3
        have c12_s_0 : w12.cell? ⟨w.heap.size + 1, 0, none⟩ = some (.int .i64 n1) := (hd12 _ _ q_s).trans c11_s_0
        have c12_s_1 : w12.cell? ⟨w.heap.size + 1, 1, none⟩ = some (.int .i64 d1) := (hd12 _ _ q_s).trans c11_s_1
        have c12_d_0 : w12.cell? ⟨w.heap.size + 1 + 1, 0, none⟩ = some (.int .i64 n2) := (hd12 _ _ q_d).trans c11_d_0
        have c12_d_1 : w12.cell? ⟨w.heap.size + 1 + 1, 1, none⟩ = some (.int .i64 d2) := (hd12 _ _ q_d).trans c11_d_1
        have c12_d_2 : w12.cell? ⟨w.heap.size + 1 + 1, 2, none⟩ = some (.int .i64 x2) := (hd12 _ _ q_d).trans c11_d_2
        have c12_d_3 : w12.cell? ⟨w.heap.size + 1 + 1, 3, none⟩ = some (.int .i64 y2) := (hd12 _ _ q_d).trans c11_d_3
        have c12_e_0 : w12.cell? ⟨w.heap.size + 1 + 1 + 1, 0, none⟩ = some (.int .i64 n3) := (hd12 _ _ q_e).trans c11_e_0
        have c12_e_1 : w12.cell? ⟨w.heap.size + 1 + 1 + 1, 1, none⟩ = some (.int .i64 d3) := (hd12 _ _ q_e).trans c11_e_1
        have c12_e_2 : w12.cell? ⟨w.heap.size + 1 + 1 + 1, 2, none⟩ = some (.int .i64 x3) := (hd12 _ _ q_e).trans c11_e_2
        have c12_e_3 : w12.cell? ⟨w.heap.size + 1 + 1 + 1, 3, none⟩ = some (.int .i64 y3) := (hd12 _ _ q_e).trans c11_e_3
        have c12_t_0 : w12.cell? ⟨w.heap.size + 1 + 1 + 1 + 1, 0, none⟩ = some (.int .i64 n4) := (hd12 _ _ q_t).trans c11_t_0
        have c12_t_1 : w12.cell? ⟨w.heap.size + 1 + 1 + 1 + 1, 1, none⟩ = some (.int .i64 d4) := (hd12 _ _ q_t).trans c11_t_1
        have c12_shown_0 : w12.cell? ⟨w1.heap.size, 0, none⟩ = some (.int .i64 un) := (hd12 _ _ q_shown).trans c11_shown_0
        have c12_shown_1 : w12.cell? ⟨w1.heap.size, 1, none⟩ = some (.int .i64 ud) := (hd12 _ _ q_shown).trans c11_shown_1
        have c12_right_0 : w12.cell? ⟨w2.heap.size, 0, none⟩ = some (.int .i64 un) := (hd12 _ _ q_right).trans c11_right_0
        have c12_right_1 : w12.cell? ⟨w2.heap.size, 1, none⟩ = some (.int .i64 ud) := (hd12 _ _ q_right).trans c11_right_1
        have c12_ahead_0 : w12.cell? ⟨w3.heap.size, 0, none⟩ = some (.int .i64 gn) := (hd12 _ _ q_ahead).trans c11_ahead_0
        have c12_ahead_1 : w12.cell? ⟨w3.heap.size, 1, none⟩ = some (.int .i64 gd) := (hd12 _ _ q_ahead).trans c11_ahead_1
        have c12_want_0 : w12.cell? ⟨w4.heap.size, 0, none⟩ = some (.int .i64 gn) := (hd12 _ _ q_want).trans c11_want_0
        have c12_want_1 : w12.cell? ⟨w4.heap.size, 1, none⟩ = some (.int .i64 gd) := (hd12 _ _ q_want).trans c11_want_1
        have c12_set_0 : w12.cell? ⟨w5.heap.size, 0, none⟩ = some (.int .i64 zn) := (hd12 _ _ q_set).trans c11_set_0
        have c12_set_1 : w12.cell? ⟨w5.heap.size, 1, none⟩ = some (.int .i64 zd) := (hd12 _ _ q_set).trans c11_set_1
        have c12_set_2 : w12.cell? ⟨w5.heap.size, 2, none⟩ = some (.int .i64 zp) := (hd12 _ _ q_set).trans c11_set_2
        have c12_set_3 : w12.cell? ⟨w5.heap.size, 3, none⟩ = some (.int .i64 zq) := (hd12 _ _ q_set).trans c11_set_3
        have c12_model_0 : w12.cell? ⟨w6.heap.size, 0, none⟩ = some (.int .i64 zn) := (hd12 _ _ q_model).trans c11_model_0
        have c12_model_1 : w12.cell? ⟨w6.heap.size, 1, none⟩ = some (.int .i64 zd) := (hd12 _ _ q_model).trans c11_model_1
        have c12_model_2 : w12.cell? ⟨w6.heap.size, 2, none⟩ = some (.int .i64 zp) := (hd12 _ _ q_model).trans c11_model_2
        have c12_model_3 : w12.cell? ⟨w6.heap.size, 3, none⟩ = some (.int .i64 zq) := (hd12 _ _ q_model).trans c11_model_3
        replace q_c : w.heap.size < w12.heap.size := by omega
        replace q_s : w.heap.size + 1 < w12.heap.size := by omega
        replace q_d : w.heap.size + 1 + 1 < w12.heap.size := by omega
        replace q_e : w.heap.size + 1 + 1 + 1 < w12.heap.size := by omega
        replace q_t : w.heap.size + 1 + 1 + 1 + 1 < w12.heap.size := by omega
        replace q_shown : w1.heap.size < w12.heap.size := by omega
        replace q_right : w2.heap.size < w12.heap.size := by omega
        replace q_ahead : w3.heap.size < w12.heap.size := by omega
        replace q_want : w4.heap.size < w12.heap.size := by omega
        replace q_set : w5.heap.size < w12.heap.size := by omega
        replace q_model : w6.heap.size < w12.heap.size := by omega
        have c12_first_0 : w12.cell? ⟨w11.heap.size, 0, none⟩ = some (.int .i64 fn) := (hc12 _ _ (by go_size)).trans (by go_simp)
        have c12_first_1 : w12.cell? ⟨w11.heap.size, 1, none⟩ = some (.int .i64 fd) := (hc12 _ _ (by go_size)).trans (by go_simp)
        have q_first : w11.heap.size < w12.heap.size := by omega
        have BW12 : Below w.heap.size w w12 := BW11.trans (B12.mono BW11.size)
        clear hc12 hf12 hb12 hd12 B12 c11_c_0 c11_c_1 c11_c_2 c11_c_3 c11_s_0 c11_s_1 c11_d_0 c11_d_1 c11_d_2 c11_d_3 c11_e_0 c11_e_1 c11_e_2 c11_e_3 c11_t_0 c11_t_1 c11_shown_0 c11_shown_1 c11_right_0 c11_right_1 c11_ahead_0 c11_ahead_1 c11_want_0 c11_want_1 c11_set_0 c11_set_1 c11_set_2 c11_set_3 c11_model_0 c11_model_1 c11_model_2 c11_model_3 BW11
        go_wp2_with fail
        refine (C9.out _).mono ?_
        rintro e13 w13 ⟨rfl, hb13⟩
        obtain ⟨hc13, hf13⟩ := bcell hb13
        have hz13 := hb13.size
        (try simp only [World.size_alloc, World.size_setCell, World.size_drew] at hz13)
        have B13 : Below w12.heap.size w12 w13 := Below.trans (b := _) (by (repeat' (first | (with_reducible exact Below.refl _ _) | (with_reducible assumption) | (with_reducible refine Below.alloc ?_ ?_ _) | (with_reducible refine Below.drew ?_) | (with_reducible refine below_drewN ?_ _) | (with_reducible refine Below.setCell ?_ ?_ _) | (with_reducible refine below_call ?_ ?_ (by assumption)) | go_size))) (hb13.mono (by first | omega | (simp only [World.size_alloc, World.size_setCell, World.size_drew]; omega)))
        obtain ⟨hd13, -⟩ := bcell B13
        have c13_c_0 : w13.cell? ⟨w.heap.size, 0, none⟩ = some (.int .i64 n0) := (hd13 _ _ q_c).trans c12_c_0
        have c13_c_1 : w13.cell? ⟨w.heap.size, 1, none⟩ = some (.int .i64 d0) := (hd13 _ _ q_c).trans c12_c_1
        have c13_c_2 : w13.cell? ⟨w.heap.size, 2, none⟩ = some (.int .i64 x0) := (hd13 _ _ q_c).trans c12_c_2
        have c13_c_3 : w13.cell? ⟨w.heap.size, 3, none⟩ = some (.int .i64 y0) := (hd13 _ _ q_c).trans c12_c_3
        have c13_s_0 : w13.cell? ⟨w.heap.size + 1, 0, none⟩ = some (.int .i64 n1) := (hd13 _ _ q_s).trans c12_s_0
        have c13_s_1 : w13.cell? ⟨w.heap.size + 1, 1, none⟩ = some (.int .i64 d1) := (hd13 _ _ q_s).trans c12_s_1
        have c13_d_0 : w13.cell? ⟨w.heap.size + 1 + 1, 0, none⟩ = some (.int .i64 n2) := (hd13 _ _ q_d).trans c12_d_0
        have c13_d_1 : w13.cell? ⟨w.heap.size + 1 + 1, 1, none⟩ = some (.int .i64 d2) := (hd13 _ _ q_d).trans c12_d_1
        have c13_d_2 : w13.cell? ⟨w.heap.size + 1 + 1, 2, none⟩ = some (.int .i64 x2) := (hd13 _ _ q_d).trans c12_d_2
        have c13_d_3 : w13.cell? ⟨w.heap.size + 1 + 1, 3, none⟩ = some (.int .i64 y2) := (hd13 _ _ q_d).trans c12_d_3
        have c13_e_0 : w13.cell? ⟨w.heap.size + 1 + 1 + 1, 0, none⟩ = some (.int .i64 n3) := (hd13 _ _ q_e).trans c12_e_0
        have c13_e_1 : w13.cell? ⟨w.heap.size + 1 + 1 + 1, 1, none⟩ = some (.int .i64 d3) := (hd13 _ _ q_e).trans c12_e_1
        have c13_e_2 : w13.cell? ⟨w.heap.size + 1 + 1 + 1, 2, none⟩ = some (.int .i64 x3) := (hd13 _ _ q_e).trans c12_e_2
        have c13_e_3 : w13.cell? ⟨w.heap.size + 1 + 1 + 1, 3, none⟩ = some (.int .i64 y3) := (hd13 _ _ q_e).trans c12_e_3
        have c13_t_0 : w13.cell? ⟨w.heap.size + 1 + 1 + 1 + 1, 0, none⟩ = some (.int .i64 n4) := (hd13 _ _ q_t).trans c12_t_0
        have c13_t_1 : w13.cell? ⟨w.heap.size + 1 + 1 + 1 + 1, 1, none⟩ = some (.int .i64 d4) := (hd13 _ _ q_t).trans c12_t_1
        have c13_shown_0 : w13.cell? ⟨w1.heap.size, 0, none⟩ = some (.int .i64 un) := (hd13 _ _ q_shown).trans c12_shown_0
        have c13_shown_1 : w13.cell? ⟨w1.heap.size, 1, none⟩ = some (.int .i64 ud) := (hd13 _ _ q_shown).trans c12_shown_1
        have c13_right_0 : w13.cell? ⟨w2.heap.size, 0, none⟩ = some (.int .i64 un) := (hd13 _ _ q_right).trans c12_right_0
        have c13_right_1 : w13.cell? ⟨w2.heap.size, 1, none⟩ = some (.int .i64 ud) := (hd13 _ _ q_right).trans c12_right_1
        have c13_ahead_0 : w13.cell? ⟨w3.heap.size, 0, none⟩ = some (.int .i64 gn) := (hd13 _ _ q_ahead).trans c12_ahead_0
        have c13_ahead_1 : w13.cell? ⟨w3.heap.size, 1, none⟩ = some (.int .i64 gd) := (hd13 _ _ q_ahead).trans c12_ahead_1
        have c13_want_0 : w13.cell? ⟨w4.heap.size, 0, none⟩ = some (.int .i64 gn) := (hd13 _ _ q_want).trans c12_want_0
        have c13_want_1 : w13.cell? ⟨w4.heap.size, 1, none⟩ = some (.int .i64 gd) := (hd13 _ _ q_want).trans c12_want_1
        have c13_set_0 : w13.cell? ⟨w5.heap.size, 0, none⟩ = some (.int .i64 zn) := (hd13 _ _ q_set).trans c12_set_0
        have c13_set_1 : w13.cell? ⟨w5.heap.size, 1, none⟩ = some (.int .i64 zd) := (hd13 _ _ q_set).trans c12_set_1
        have c13_set_2 : w13.cell? ⟨w5.heap.size, 2, none⟩ = some (.int .i64 zp) := (hd13 _ _ q_set).trans c12_set_2
        have c13_set_3 : w13.cell? ⟨w5.heap.size, 3, none⟩ = some (.int .i64 zq) := (hd13 _ _ q_set).trans c12_set_3
        have c13_model_0 : w13.cell? ⟨w6.heap.size, 0, none⟩ = some (.int .i64 zn) := (hd13 _ _ q_model).trans c12_model_0
        have c13_model_1 : w13.cell? ⟨w6.heap.size, 1, none⟩ = some (.int .i64 zd) := (hd13 _ _ q_model).trans c12_model_1
        have c13_model_2 : w13.cell? ⟨w6.heap.size, 2, none⟩ = some (.int .i64 zp) := (hd13 _ _ q_model).trans c12_model_2
        have c13_model_3 : w13.cell? ⟨w6.heap.size, 3, none⟩ = some (.int .i64 zq) := (hd13 _ _ q_model).trans c12_model_3
        have c13_first_0 : w13.cell? ⟨w11.heap.size, 0, none⟩ = some (.int .i64 fn) := (hd13 _ _ q_first).trans c12_first_0
        have c13_first_1 : w13.cell? ⟨w11.heap.size, 1, none⟩ = some (.int .i64 fd) := (hd13 _ _ q_first).trans c12_first_1
        replace q_c : w.heap.size < w13.heap.size := by omega
        replace q_s : w.heap.size + 1 < w13.heap.size := by omega
        replace q_d : w.heap.size + 1 + 1 < w13.heap.size := by omega
        replace q_e : w.heap.size + 1 + 1 + 1 < w13.heap.size := by omega
        replace q_t : w.heap.size + 1 + 1 + 1 + 1 < w13.heap.size := by omega
        replace q_shown : w1.heap.size < w13.heap.size := by omega
        replace q_right : w2.heap.size < w13.heap.size := by omega
        replace q_ahead : w3.heap.size < w13.heap.size := by omega
        replace q_want : w4.heap.size < w13.heap.size := by omega
        replace q_set : w5.heap.size < w13.heap.size := by omega
        replace q_model : w6.heap.size < w13.heap.size := by omega
        replace q_first : w11.heap.size < w13.heap.size := by omega
        have c13_value_0 : w13.cell? ⟨w12.heap.size, 0, none⟩ = some (.int .i64 fn) := (hc13 _ _ (by go_size)).trans (by go_simp)
        have c13_value_1 : w13.cell? ⟨w12.heap.size, 1, none⟩ = some (.int .i64 fd) := (hc13 _ _ (by go_size)).trans (by go_simp)
        have q_value : w12.heap.size < w13.heap.size := by omega
        have BW13 : Below w.heap.size w w13 := BW12.trans (B13.mono BW12.size)
        clear hc13 hf13 hb13 hd13 B13 c12_c_0 c12_c_1 c12_c_2 c12_c_3 c12_s_0 c12_s_1 c12_d_0 c12_d_1 c12_d_2 c12_d_3 c12_e_0 c12_e_1 c12_e_2 c12_e_3 c12_t_0 c12_t_1 c12_shown_0 c12_shown_1 c12_right_0 c12_right_1 c12_ahead_0 c12_ahead_1 c12_want_0 c12_want_1 c12_set_0 c12_set_1 c12_set_2 c12_set_3 c12_model_0 c12_model_1 c12_model_2 c12_model_3 c12_first_0 c12_first_1 BW12
        go_wp2_with fail
        refine (C10.out _).mono ?_
        rintro e14 w14 ⟨rfl, hb14⟩
        obtain ⟨hc14, hf14⟩ := bcell hb14
        have hz14 := hb14.size
        (try simp only [World.size_alloc, World.size_setCell, World.size_drew] at hz14)
        have B14 : Below w13.heap.size w13 w14 := Below.trans (b := _) (by (repeat' (first | (with_reducible exact Below.refl _ _) | (with_reducible assumption) | (with_reducible refine Below.alloc ?_ ?_ _) | (with_reducible refine Below.drew ?_) | (with_reducible refine below_drewN ?_ _) | (with_reducible refine Below.setCell ?_ ?_ _) | (with_reducible refine below_call ?_ ?_ (by assumption)) | go_size))) (hb14.mono (by first | omega | (simp only [World.size_alloc, World.size_setCell, World.size_drew]; omega)))
        obtain ⟨hd14, -⟩ := bcell B14
        have c14_c_0 : w14.cell? ⟨w.heap.size, 0, none⟩ = some (.int .i64 n0) := (hd14 _ _ q_c).trans c13_c_0
        have c14_c_1 : w14.cell? ⟨w.heap.size, 1, none⟩ = some (.int .i64 d0) := (hd14 _ _ q_c).trans c13_c_1
        have c14_c_2 : w14.cell? ⟨w.heap.size, 2, none⟩ = some (.int .i64 x0) := (hd14 _ _ q_c).trans c13_c_2
        have c14_c_3 : w14.cell? ⟨w.heap.size, 3, none⟩ = some (.int .i64 y0) := (hd14 _ _ q_c).trans c13_c_3
        have c14_s_0 : w14.cell? ⟨w.heap.size + 1, 0, none⟩ = some (.int .i64 n1) := (hd14 _ _ q_s).trans c13_s_0
        have c14_s_1 : w14.cell? ⟨w.heap.size + 1, 1, none⟩ = some (.int .i64 d1) := (hd14 _ _ q_s).trans c13_s_1
        have c14_d_0 : w14.cell? ⟨w.heap.size + 1 + 1, 0, none⟩ = some (.int .i64 n2) := (hd14 _ _ q_d).trans c13_d_0
        have c14_d_1 : w14.cell? ⟨w.heap.size + 1 + 1, 1, none⟩ = some (.int .i64 d2) := (hd14 _ _ q_d).trans c13_d_1
        have c14_d_2 : w14.cell? ⟨w.heap.size + 1 + 1, 2, none⟩ = some (.int .i64 x2) := (hd14 _ _ q_d).trans c13_d_2
        have c14_d_3 : w14.cell? ⟨w.heap.size + 1 + 1, 3, none⟩ = some (.int .i64 y2) := (hd14 _ _ q_d).trans c13_d_3
        have c14_e_0 : w14.cell? ⟨w.heap.size + 1 + 1 + 1, 0, none⟩ = some (.int .i64 n3) := (hd14 _ _ q_e).trans c13_e_0
        have c14_e_1 : w14.cell? ⟨w.heap.size + 1 + 1 + 1, 1, none⟩ = some (.int .i64 d3) := (hd14 _ _ q_e).trans c13_e_1
        have c14_e_2 : w14.cell? ⟨w.heap.size + 1 + 1 + 1, 2, none⟩ = some (.int .i64 x3) := (hd14 _ _ q_e).trans c13_e_2
        have c14_e_3 : w14.cell? ⟨w.heap.size + 1 + 1 + 1, 3, none⟩ = some (.int .i64 y3) := (hd14 _ _ q_e).trans c13_e_3
        have c14_t_0 : w14.cell? ⟨w.heap.size + 1 + 1 + 1 + 1, 0, none⟩ = some (.int .i64 n4) := (hd14 _ _ q_t).trans c13_t_0
        have c14_t_1 : w14.cell? ⟨w.heap.size + 1 + 1 + 1 + 1, 1, none⟩ = some (.int .i64 d4) := (hd14 _ _ q_t).trans c13_t_1
        have c14_shown_0 : w14.cell? ⟨w1.heap.size, 0, none⟩ = some (.int .i64 un) := (hd14 _ _ q_shown).trans c13_shown_0
        have c14_shown_1 : w14.cell? ⟨w1.heap.size, 1, none⟩ = some (.int .i64 ud) := (hd14 _ _ q_shown).trans c13_shown_1
        have c14_right_0 : w14.cell? ⟨w2.heap.size, 0, none⟩ = some (.int .i64 un) := (hd14 _ _ q_right).trans c13_right_0
        have c14_right_1 : w14.cell? ⟨w2.heap.size, 1, none⟩ = some (.int .i64 ud) := (hd14 _ _ q_right).trans c13_right_1
        have c14_ahead_0 : w14.cell? ⟨w3.heap.size, 0, none⟩ = some (.int .i64 gn) := (hd14 _ _ q_ahead).trans c13_ahead_0
        have c14_ahead_1 : w14.cell? ⟨w3.heap.size, 1, none⟩ = some (.int .i64 gd) := (hd14 _ _ q_ahead).trans c13_ahead_1
        have c14_want_0 : w14.cell? ⟨w4.heap.size, 0, none⟩ = some (.int .i64 gn) := (hd14 _ _ q_want).trans c13_want_0
        have c14_want_1 : w14.cell? ⟨w4.heap.size, 1, none⟩ = some (.int .i64 gd) := (hd14 _ _ q_want).trans c13_want_1
        have c14_set_0 : w14.cell? ⟨w5.heap.size, 0, none⟩ = some (.int .i64 zn) := (hd14 _ _ q_set).trans c13_set_0
        have c14_set_1 : w14.cell? ⟨w5.heap.size, 1, none⟩ = some (.int .i64 zd) := (hd14 _ _ q_set).trans c13_set_1
        have c14_set_2 : w14.cell? ⟨w5.heap.size, 2, none⟩ = some (.int .i64 zp) := (hd14 _ _ q_set).trans c13_set_2
        have c14_set_3 : w14.cell? ⟨w5.heap.size, 3, none⟩ = some (.int .i64 zq) := (hd14 _ _ q_set).trans c13_set_3
        have c14_model_0 : w14.cell? ⟨w6.heap.size, 0, none⟩ = some (.int .i64 zn) := (hd14 _ _ q_model).trans c13_model_0
        have c14_model_1 : w14.cell? ⟨w6.heap.size, 1, none⟩ = some (.int .i64 zd) := (hd14 _ _ q_model).trans c13_model_1
        have c14_model_2 : w14.cell? ⟨w6.heap.size, 2, none⟩ = some (.int .i64 zp) := (hd14 _ _ q_model).trans c13_model_2
        have c14_model_3 : w14.cell? ⟨w6.heap.size, 3, none⟩ = some (.int .i64 zq) := (hd14 _ _ q_model).trans c13_model_3
        have c14_first_0 : w14.cell? ⟨w11.heap.size, 0, none⟩ = some (.int .i64 fn) := (hd14 _ _ q_first).trans c13_first_0
        have c14_first_1 : w14.cell? ⟨w11.heap.size, 1, none⟩ = some (.int .i64 fd) := (hd14 _ _ q_first).trans c13_first_1
        have c14_value_0 : w14.cell? ⟨w12.heap.size, 0, none⟩ = some (.int .i64 fn) := (hd14 _ _ q_value).trans c13_value_0
        have c14_value_1 : w14.cell? ⟨w12.heap.size, 1, none⟩ = some (.int .i64 fd) := (hd14 _ _ q_value).trans c13_value_1
        replace q_c : w.heap.size < w14.heap.size := by omega
        replace q_s : w.heap.size + 1 < w14.heap.size := by omega
        replace q_d : w.heap.size + 1 + 1 < w14.heap.size := by omega
        replace q_e : w.heap.size + 1 + 1 + 1 < w14.heap.size := by omega
        replace q_t : w.heap.size + 1 + 1 + 1 + 1 < w14.heap.size := by omega
        replace q_shown : w1.heap.size < w14.heap.size := by omega
        replace q_right : w2.heap.size < w14.heap.size := by omega
        replace q_ahead : w3.heap.size < w14.heap.size := by omega
        replace q_want : w4.heap.size < w14.heap.size := by omega
        replace q_set : w5.heap.size < w14.heap.size := by omega
        replace q_model : w6.heap.size < w14.heap.size := by omega
        replace q_first : w11.heap.size < w14.heap.size := by omega
        replace q_value : w12.heap.size < w14.heap.size := by omega
        have c14_every_0 : w14.cell? ⟨w13.heap.size, 0, none⟩ = some (.int .i64 rn) := (hc14 _ _ (by go_size)).trans (by go_simp)
        have c14_every_1 : w14.cell? ⟨w13.heap.size, 1, none⟩ = some (.int .i64 rd) := (hc14 _ _ (by go_size)).trans (by go_simp)
        have q_every : w13.heap.size < w14.heap.size := by omega
        have BW14 : Below w.heap.size w w14 := BW13.trans (B14.mono BW13.size)
        clear hc14 hf14 hb14 hd14 B14 c13_c_0 c13_c_1 c13_c_2 c13_c_3 c13_s_0 c13_s_1 c13_d_0 c13_d_1 c13_d_2 c13_d_3 c13_e_0 c13_e_1 c13_e_2 c13_e_3 c13_t_0 c13_t_1 c13_shown_0 c13_shown_1 c13_right_0 c13_right_1 c13_ahead_0 c13_ahead_1 c13_want_0 c13_want_1 c13_set_0 c13_set_1 c13_set_2 c13_set_3 c13_model_0 c13_model_1 c13_model_2 c13_model_3 c13_first_0 c13_first_1 c13_value_0 c13_value_1 BW13
        go_upto_region 22 with fail
        have hb15 : Below w14.heap.size w14 (w14.alloc (Obj.cells #[.int .i64 rn, .int .i64 rd] 28)) := by (repeat' (first | (with_reducible exact Below.refl _ _) | (with_reducible assumption) | (with_reducible refine Below.alloc ?_ ?_ _) | (with_reducible refine Below.drew ?_) | (with_reducible refine below_drewN ?_ _) | (with_reducible refine Below.setCell ?_ ?_ _) | (with_reducible refine below_call ?_ ?_ (by assumption)) | go_size))
        have c15_due_0 : (w14.alloc (Obj.cells #[.int .i64 rn, .int .i64 rd] 28)).cell? ⟨w14.heap.size, 0, none⟩ = some (.int .i64 rn) := by go_simp
        have c15_due_1 : (w14.alloc (Obj.cells #[.int .i64 rn, .int .i64 rd] 28)).cell? ⟨w14.heap.size, 1, none⟩ = some (.int .i64 rd) := by go_simp
        have q_due : w14.heap.size < (w14.alloc (Obj.cells #[.int .i64 rn, .int .i64 rd] 28)).heap.size := by go_size
        generalize (w14.alloc (Obj.cells #[.int .i64 rn, .int .i64 rd] 28)) = w15 at *
        obtain ⟨hd15, -⟩ := bcell hb15
        have hz15 := hb15.size
        have c15_c_0 : w15.cell? ⟨w.heap.size, 0, none⟩ = some (.int .i64 n0) := (hd15 _ _ q_c).trans c14_c_0
        have c15_c_1 : w15.cell? ⟨w.heap.size, 1, none⟩ = some (.int .i64 d0) := (hd15 _ _ q_c).trans c14_c_1
        have c15_c_2 : w15.cell? ⟨w.heap.size, 2, none⟩ = some (.int .i64 x0) := (hd15 _ _ q_c).trans c14_c_2
        have c15_c_3 : w15.cell? ⟨w.heap.size, 3, none⟩ = some (.int .i64 y0) := (hd15 _ _ q_c).trans c14_c_3
        have c15_s_0 : w15.cell? ⟨w.heap.size + 1, 0, none⟩ = some (.int .i64 n1) := (hd15 _ _ q_s).trans c14_s_0
        have c15_s_1 : w15.cell? ⟨w.heap.size + 1, 1, none⟩ = some (.int .i64 d1) := (hd15 _ _ q_s).trans c14_s_1
        have c15_d_0 : w15.cell? ⟨w.heap.size + 1 + 1, 0, none⟩ = some (.int .i64 n2) := (hd15 _ _ q_d).trans c14_d_0
        have c15_d_1 : w15.cell? ⟨w.heap.size + 1 + 1, 1, none⟩ = some (.int .i64 d2) := (hd15 _ _ q_d).trans c14_d_1
        have c15_d_2 : w15.cell? ⟨w.heap.size + 1 + 1, 2, none⟩ = some (.int .i64 x2) := (hd15 _ _ q_d).trans c14_d_2
        have c15_d_3 : w15.cell? ⟨w.heap.size + 1 + 1, 3, none⟩ = some (.int .i64 y2) := (hd15 _ _ q_d).trans c14_d_3
        have c15_e_0 : w15.cell? ⟨w.heap.size + 1 + 1 + 1, 0, none⟩ = some (.int .i64 n3) := (hd15 _ _ q_e).trans c14_e_0
        have c15_e_1 : w15.cell? ⟨w.heap.size + 1 + 1 + 1, 1, none⟩ = some (.int .i64 d3) := (hd15 _ _ q_e).trans c14_e_1
        have c15_e_2 : w15.cell? ⟨w.heap.size + 1 + 1 + 1, 2, none⟩ = some (.int .i64 x3) := (hd15 _ _ q_e).trans c14_e_2
        have c15_e_3 : w15.cell? ⟨w.heap.size + 1 + 1 + 1, 3, none⟩ = some (.int .i64 y3) := (hd15 _ _ q_e).trans c14_e_3
        have c15_t_0 : w15.cell? ⟨w.heap.size + 1 + 1 + 1 + 1, 0, none⟩ = some (.int .i64 n4) := (hd15 _ _ q_t).trans c14_t_0
        have c15_t_1 : w15.cell? ⟨w.heap.size + 1 + 1 + 1 + 1, 1, none⟩ = some (.int .i64 d4) := (hd15 _ _ q_t).trans c14_t_1
        have c15_shown_0 : w15.cell? ⟨w1.heap.size, 0, none⟩ = some (.int .i64 un) := (hd15 _ _ q_shown).trans c14_shown_0
        have c15_shown_1 : w15.cell? ⟨w1.heap.size, 1, none⟩ = some (.int .i64 ud) := (hd15 _ _ q_shown).trans c14_shown_1
        have c15_right_0 : w15.cell? ⟨w2.heap.size, 0, none⟩ = some (.int .i64 un) := (hd15 _ _ q_right).trans c14_right_0
        have c15_right_1 : w15.cell? ⟨w2.heap.size, 1, none⟩ = some (.int .i64 ud) := (hd15 _ _ q_right).trans c14_right_1
        have c15_ahead_0 : w15.cell? ⟨w3.heap.size, 0, none⟩ = some (.int .i64 gn) := (hd15 _ _ q_ahead).trans c14_ahead_0
        have c15_ahead_1 : w15.cell? ⟨w3.heap.size, 1, none⟩ = some (.int .i64 gd) := (hd15 _ _ q_ahead).trans c14_ahead_1
        have c15_want_0 : w15.cell? ⟨w4.heap.size, 0, none⟩ = some (.int .i64 gn) := (hd15 _ _ q_want).trans c14_want_0
        have c15_want_1 : w15.cell? ⟨w4.heap.size, 1, none⟩ = some (.int .i64 gd) := (hd15 _ _ q_want).trans c14_want_1
        have c15_set_0 : w15.cell? ⟨w5.heap.size, 0, none⟩ = some (.int .i64 zn) := (hd15 _ _ q_set).trans c14_set_0
        have c15_set_1 : w15.cell? ⟨w5.heap.size, 1, none⟩ = some (.int .i64 zd) := (hd15 _ _ q_set).trans c14_set_1
        have c15_set_2 : w15.cell? ⟨w5.heap.size, 2, none⟩ = some (.int .i64 zp) := (hd15 _ _ q_set).trans c14_set_2
        have c15_set_3 : w15.cell? ⟨w5.heap.size, 3, none⟩ = some (.int .i64 zq) := (hd15 _ _ q_set).trans c14_set_3
        have c15_model_0 : w15.cell? ⟨w6.heap.size, 0, none⟩ = some (.int .i64 zn) := (hd15 _ _ q_model).trans c14_model_0
        have c15_model_1 : w15.cell? ⟨w6.heap.size, 1, none⟩ = some (.int .i64 zd) := (hd15 _ _ q_model).trans c14_model_1
        have c15_model_2 : w15.cell? ⟨w6.heap.size, 2, none⟩ = some (.int .i64 zp) := (hd15 _ _ q_model).trans c14_model_2
        have c15_model_3 : w15.cell? ⟨w6.heap.size, 3, none⟩ = some (.int .i64 zq) := (hd15 _ _ q_model).trans c14_model_3
        have c15_first_0 : w15.cell? ⟨w11.heap.size, 0, none⟩ = some (.int .i64 fn) := (hd15 _ _ q_first).trans c14_first_0
        have c15_first_1 : w15.cell? ⟨w11.heap.size, 1, none⟩ = some (.int .i64 fd) := (hd15 _ _ q_first).trans c14_first_1
        have c15_value_0 : w15.cell? ⟨w12.heap.size, 0, none⟩ = some (.int .i64 fn) := (hd15 _ _ q_value).trans c14_value_0
        have c15_value_1 : w15.cell? ⟨w12.heap.size, 1, none⟩ = some (.int .i64 fd) := (hd15 _ _ q_value).trans c14_value_1
        have c15_every_0 : w15.cell? ⟨w13.heap.size, 0, none⟩ = some (.int .i64 rn) := (hd15 _ _ q_every).trans c14_every_0
        have c15_every_1 : w15.cell? ⟨w13.heap.size, 1, none⟩ = some (.int .i64 rd) := (hd15 _ _ q_every).trans c14_every_1
        replace q_c : w.heap.size < w15.heap.size := by omega
        replace q_s : w.heap.size + 1 < w15.heap.size := by omega
        replace q_d : w.heap.size + 1 + 1 < w15.heap.size := by omega
        replace q_e : w.heap.size + 1 + 1 + 1 < w15.heap.size := by omega
        replace q_t : w.heap.size + 1 + 1 + 1 + 1 < w15.heap.size := by omega
        replace q_shown : w1.heap.size < w15.heap.size := by omega
        replace q_right : w2.heap.size < w15.heap.size := by omega
        replace q_ahead : w3.heap.size < w15.heap.size := by omega
        replace q_want : w4.heap.size < w15.heap.size := by omega
        replace q_set : w5.heap.size < w15.heap.size := by omega
        replace q_model : w6.heap.size < w15.heap.size := by omega
        replace q_first : w11.heap.size < w15.heap.size := by omega
        replace q_value : w12.heap.size < w15.heap.size := by omega
        replace q_every : w13.heap.size < w15.heap.size := by omega
        have BW15 : Below w.heap.size w w15 := BW14.trans (hb15.mono BW14.size)
        clear hb15 hd15 c14_c_0 c14_c_1 c14_c_2 c14_c_3 c14_s_0 c14_s_1 c14_d_0 c14_d_1 c14_d_2 c14_d_3 c14_e_0 c14_e_1 c14_e_2 c14_e_3 c14_t_0 c14_t_1 c14_shown_0 c14_shown_1 c14_right_0 c14_right_1 c14_ahead_0 c14_ahead_1 c14_want_0 c14_want_1 c14_set_0 c14_set_1 c14_set_2 c14_set_3 c14_model_0 c14_model_1 c14_model_2 c14_model_3 c14_first_0 c14_first_1 c14_value_0 c14_value_1 c14_every_0 c14_every_1 BW14
        go_cut [229] from 999 to 999 (fun x wx => x = .bool false ∧ Below w15.heap.size w15 wx)
        case first =>
          as_aux_lemma =>
            refine wp_region_below (by kernel_rfl) (by kernel_rfl) ?_
            (apply wpB_take (hw := rfl); (intro wq hq; obtain ⟨hcq, hfq⟩ := bcell hq; unfold atB; go_simp; exact ⟨rfl, rfl⟩); (rw [put_lit]; dsimp only [List.set]))
            (apply wpB_take (hw := rfl); (intro wq hq; obtain ⟨hcq, hfq⟩ := bcell hq; unfold atB; go_simp; exact ⟨rfl, rfl⟩); (rw [put_lit]; dsimp only [List.set]))
            (apply wpB_take (hw := rfl); (intro wq hq; obtain ⟨hcq, hfq⟩ := bcell hq; unfold atB; go_simp; exact ⟨rfl, rfl⟩); (rw [put_lit]; dsimp only [List.set]))
            (apply wpB_take (hw := rfl); (intro wq hq; obtain ⟨hcq, hfq⟩ := bcell hq; unfold atB; go_simp; exact ⟨rfl, rfl⟩); (rw [put_lit]; dsimp only [List.set]))
            (apply wpB_take (hw := rfl); (intro wq hq; obtain ⟨hcq, hfq⟩ := bcell hq; unfold atB; go_simp; exact ⟨rfl, rfl⟩); (rw [put_lit]; dsimp only [List.set]))
            (apply wpB_take (hw := rfl); (intro wq hq; obtain ⟨hcq, hfq⟩ := bcell hq; unfold atB; go_simp; exact ⟨rfl, rfl⟩); (rw [put_lit]; dsimp only [List.set]))
            (apply wpB_take (hw := rfl); (intro wq hq; obtain ⟨hcq, hfq⟩ := bcell hq; unfold atB; go_simp; exact ⟨rfl, rfl⟩); (rw [put_lit]; dsimp only [List.set]))
            (apply wpB_take (hw := rfl); (intro wq hq; obtain ⟨hcq, hfq⟩ := bcell hq; unfold atB; go_simp; exact ⟨rfl, rfl⟩); (rw [put_lit]; dsimp only [List.set]))
            (apply wpB_take (hw := rfl); (intro wq hq; obtain ⟨hcq, hfq⟩ := bcell hq; unfold atB; go_simp; exact ⟨rfl, rfl⟩); (rw [put_lit]; dsimp only [List.set]))
            (apply wpB_take (hw := rfl); (intro wq hq; obtain ⟨hcq, hfq⟩ := bcell hq; unfold atB; go_simp; exact ⟨rfl, rfl⟩); (rw [put_lit]; dsimp only [List.set]))
            (apply wpB_take (hw := rfl); (intro wq hq; obtain ⟨hcq, hfq⟩ := bcell hq; unfold atB; go_simp; exact ⟨rfl, rfl⟩); (rw [put_lit]; dsimp only [List.set]))
            (apply wpB_take (hw := rfl); (intro wq hq; obtain ⟨hcq, hfq⟩ := bcell hq; unfold atB; go_simp; exact ⟨rfl, rfl⟩); (rw [put_lit]; dsimp only [List.set]))
            (apply wpB_take (hw := rfl); (intro wq hq; obtain ⟨hcq, hfq⟩ := bcell hq; unfold atB; go_simp; exact ⟨rfl, rfl⟩); (rw [put_lit]; dsimp only [List.set]))
            (apply wpB_take (hw := rfl); (intro wq hq; obtain ⟨hcq, hfq⟩ := bcell hq; unfold atB; go_simp; exact ⟨rfl, rfl⟩); (rw [put_lit]; dsimp only [List.set]))
            (apply wpB_take (hw := rfl); (intro wq hq; obtain ⟨hcq, hfq⟩ := bcell hq; unfold atB; go_simp; exact ⟨rfl, rfl⟩); (rw [put_lit]; dsimp only [List.set]))
            (apply wpB_take (hw := rfl); (intro wq hq; obtain ⟨hcq, hfq⟩ := bcell hq; unfold atB; go_simp; exact ⟨rfl, rfl⟩); (rw [put_lit]; dsimp only [List.set]))
            (apply wpB_take (hw := rfl); (intro wq hq; obtain ⟨hcq, hfq⟩ := bcell hq; unfold atB; go_simp; exact ⟨rfl, rfl⟩); (rw [put_lit]; dsimp only [List.set]))
            (apply wpB_take (hw := rfl); (intro wq hq; obtain ⟨hcq, hfq⟩ := bcell hq; unfold atB; go_simp; exact ⟨rfl, rfl⟩); (rw [put_lit]; dsimp only [List.set]))
            (apply wpB_take (hw := rfl); (intro wq hq; obtain ⟨hcq, hfq⟩ := bcell hq; unfold atB; go_simp; exact ⟨rfl, rfl⟩); (rw [put_lit]; dsimp only [List.set]))
            (apply wpB_take (hw := rfl); (intro wq hq; obtain ⟨hcq, hfq⟩ := bcell hq; unfold atB; go_simp; exact ⟨rfl, rfl⟩); (rw [put_lit]; dsimp only [List.set]))
            (apply wpB_take (hw := rfl); (intro wq hq; unfold atB; go_simp; exact ⟨rfl, isClock_is n2 d2 x2 y2 HCB.out _⟩); (rw [put_lit]; dsimp only [List.set]))
            (apply wpB_take (hw := rfl); (intro wq hq; obtain ⟨hcq, hfq⟩ := bcell hq; unfold atB; go_simp; exact ⟨rfl, rfl⟩); (rw [put_lit]; dsimp only [List.set]))
            (apply wpB_take (hw := rfl); (intro wq hq; unfold atB; go_simp; exact ⟨rfl, specIsClock_is n2 d2 x2 y2 HCB.out kd2 _⟩); (rw [put_lit]; dsimp only [List.set]))
            (apply wpB_take (hw := rfl); (intro wq hq; obtain ⟨hcq, hfq⟩ := bcell hq; unfold atB; go_simp; exact ⟨rfl, rfl⟩); (rw [put_lit]; dsimp only [List.set]))
            (apply wpB_take (hw := rfl); (intro wq hq; obtain ⟨hcq, hfq⟩ := bcell hq; unfold atB; go_simp; exact ⟨rfl, rfl⟩); (rw [put_lit]; dsimp only [List.set]))
            (apply wpB_take (hw := rfl); (intro wq hq; obtain ⟨hcq, hfq⟩ := bcell hq; unfold atB; go_simp; exact ⟨rfl, rfl⟩); (rw [put_lit]; dsimp only [List.set]))
            (apply wpB_take (hw := rfl); (intro wq hq; obtain ⟨hcq, hfq⟩ := bcell hq; unfold atB; go_simp; exact ⟨rfl, rfl⟩); (rw [put_lit]; dsimp only [List.set]))
            (apply wpB_take (hw := rfl); (intro wq hq; obtain ⟨hcq, hfq⟩ := bcell hq; unfold atB; go_simp; exact ⟨rfl, rfl⟩); (rw [put_lit]; dsimp only [List.set]))
            cases fo
            · (apply wpB_skip (hw := rfl); try (rw [put_lit]; dsimp only [List.set]))
              (apply wpB_skip (hw := rfl); try (rw [put_lit]; dsimp only [List.set]))
              (apply wpB_skip (hw := rfl); try (rw [put_lit]; dsimp only [List.set]))
              (apply wpB_take (hw := rfl); (intro wq hq; obtain ⟨hcq, hfq⟩ := bcell hq; unfold atB; go_simp; exact ⟨rfl, rfl⟩); (rw [put_lit]; dsimp only [List.set]))
              (apply wpB_take (hw := rfl); (intro wq hq; obtain ⟨hcq, hfq⟩ := bcell hq; unfold atB; go_simp; exact ⟨rfl, rfl⟩); (rw [put_lit]; dsimp only [List.set]))
              (apply wpB_take (hw := rfl); (intro wq hq; obtain ⟨hcq, hfq⟩ := bcell hq; unfold atB; go_simp; exact ⟨rfl, rfl⟩); (rw [put_lit]; dsimp only [List.set]))
              (apply wpB_take (hw := rfl); (intro wq hq; obtain ⟨hcq, hfq⟩ := bcell hq; unfold atB; go_simp; exact ⟨rfl, rfl⟩); (rw [put_lit]; dsimp only [List.set]))
              (apply wpB_take (hw := rfl); (intro wq hq; obtain ⟨hcq, hfq⟩ := bcell hq; unfold atB; go_simp; exact ⟨rfl, rfl⟩); (rw [put_lit]; dsimp only [List.set]))
              cases ro
              · (apply wpB_skip (hw := rfl); try (rw [put_lit]; dsimp only [List.set]))
                (apply wpB_skip (hw := rfl); try (rw [put_lit]; dsimp only [List.set]))
                (apply wpB_skip (hw := rfl); try (rw [put_lit]; dsimp only [List.set]))
                (apply wpB_take (hw := rfl); (intro wq hq; obtain ⟨hcq, hfq⟩ := bcell hq; unfold atB; go_simp; exact ⟨rfl, rfl⟩); (rw [put_lit]; dsimp only [List.set]))
                (apply wpB_take (hw := rfl); (intro wq hq; obtain ⟨hcq, hfq⟩ := bcell hq; unfold atB; go_simp; exact ⟨rfl, rfl⟩); (rw [put_lit]; dsimp only [List.set]))
                refine fun wx hbx => ?_
                simp only [Exit.then]
                refine (by assumption : ∀ (a' : Act) (w' : World), Met _ a' w' → _) _ _ ?_
                go_meet
                case rel => exact ⟨rfl, hbx⟩
              · obtain rfl : cb = true := HCB.out.symm.trans (G7.out rfl)
                (apply wpB_take (hw := rfl); (intro wq hq; obtain ⟨hcq, hfq⟩ := bcell hq; unfold atB; go_simp; exact ⟨rfl, rfl⟩); (rw [put_lit]; dsimp only [List.set]))
                (apply wpB_take (hw := rfl); (intro wq hq; unfold atB; go_simp; exact ⟨rfl, isClock_is n2 d2 x2 y2 HCB.out _⟩); (rw [put_lit]; dsimp only [List.set]))
                (apply wpB_take (hw := rfl); (intro wq hq; obtain ⟨hcq, hfq⟩ := bcell hq; unfold atB; go_simp; exact ⟨rfl, rfl⟩); (rw [put_lit]; dsimp only [List.set]))
                (apply wpB_take (hw := rfl); (intro wq hq; obtain ⟨hcq, hfq⟩ := bcell hq; unfold atB; go_simp; exact ⟨rfl, rfl⟩); (rw [put_lit]; dsimp only [List.set]))
                (apply wpB_take (hw := rfl); (intro wq hq; obtain ⟨hcq, hfq⟩ := bcell hq; unfold atB; go_simp; exact ⟨rfl, rfl⟩); (rw [put_lit]; dsimp only [List.set]))
                refine fun wx hbx => ?_
                simp only [Exit.then]
                refine (by assumption : ∀ (a' : Act) (w' : World), Met _ a' w' → _) _ _ ?_
                go_meet
                case rel => exact ⟨rfl, hbx⟩
            · obtain rfl : cb = true := HCB.out.symm.trans (G6.out rfl)
              (apply wpB_take (hw := rfl); (intro wq hq; obtain ⟨hcq, hfq⟩ := bcell hq; unfold atB; go_simp; exact ⟨rfl, rfl⟩); (rw [put_lit]; dsimp only [List.set]))
              (apply wpB_take (hw := rfl); (intro wq hq; unfold atB; go_simp; exact ⟨rfl, isClock_is n2 d2 x2 y2 HCB.out _⟩); (rw [put_lit]; dsimp only [List.set]))
              (apply wpB_take (hw := rfl); (intro wq hq; obtain ⟨hcq, hfq⟩ := bcell hq; unfold atB; go_simp; exact ⟨rfl, rfl⟩); (rw [put_lit]; dsimp only [List.set]))
              (apply wpB_take (hw := rfl); (intro wq hq; obtain ⟨hcq, hfq⟩ := bcell hq; unfold atB; go_simp; exact ⟨rfl, rfl⟩); (rw [put_lit]; dsimp only [List.set]))
              (apply wpB_take (hw := rfl); (intro wq hq; obtain ⟨hcq, hfq⟩ := bcell hq; unfold atB; go_simp; exact ⟨rfl, rfl⟩); (rw [put_lit]; dsimp only [List.set]))
              (apply wpB_take (hw := rfl); (intro wq hq; obtain ⟨hcq, hfq⟩ := bcell hq; unfold atB; go_simp; exact ⟨rfl, rfl⟩); (rw [put_lit]; dsimp only [List.set]))
              (apply wpB_take (hw := rfl); (intro wq hq; obtain ⟨hcq, hfq⟩ := bcell hq; unfold atB; go_simp; exact ⟨rfl, rfl⟩); (rw [put_lit]; dsimp only [List.set]))
              (apply wpB_take (hw := rfl); (intro wq hq; obtain ⟨hcq, hfq⟩ := bcell hq; unfold atB; go_simp; exact ⟨rfl, rfl⟩); (rw [put_lit]; dsimp only [List.set]))
              cases ro
              · (apply wpB_skip (hw := rfl); try (rw [put_lit]; dsimp only [List.set]))
                (apply wpB_skip (hw := rfl); try (rw [put_lit]; dsimp only [List.set]))
                (apply wpB_skip (hw := rfl); try (rw [put_lit]; dsimp only [List.set]))
                (apply wpB_take (hw := rfl); (intro wq hq; obtain ⟨hcq, hfq⟩ := bcell hq; unfold atB; go_simp; exact ⟨rfl, rfl⟩); (rw [put_lit]; dsimp only [List.set]))
                (apply wpB_take (hw := rfl); (intro wq hq; obtain ⟨hcq, hfq⟩ := bcell hq; unfold atB; go_simp; exact ⟨rfl, rfl⟩); (rw [put_lit]; dsimp only [List.set]))
                refine fun wx hbx => ?_
                simp only [Exit.then]
                refine (by assumption : ∀ (a' : Act) (w' : World), Met _ a' w' → _) _ _ ?_
                go_meet
                case rel => exact ⟨rfl, hbx⟩
              · (apply wpB_take (hw := rfl); (intro wq hq; obtain ⟨hcq, hfq⟩ := bcell hq; unfold atB; go_simp; exact ⟨rfl, rfl⟩); (rw [put_lit]; dsimp only [List.set]))
                (apply wpB_take (hw := rfl); (intro wq hq; unfold atB; go_simp; exact ⟨rfl, isClock_is n2 d2 x2 y2 HCB.out _⟩); (rw [put_lit]; dsimp only [List.set]))
                (apply wpB_take (hw := rfl); (intro wq hq; obtain ⟨hcq, hfq⟩ := bcell hq; unfold atB; go_simp; exact ⟨rfl, rfl⟩); (rw [put_lit]; dsimp only [List.set]))
                (apply wpB_take (hw := rfl); (intro wq hq; obtain ⟨hcq, hfq⟩ := bcell hq; unfold atB; go_simp; exact ⟨rfl, rfl⟩); (rw [put_lit]; dsimp only [List.set]))
                (apply wpB_take (hw := rfl); (intro wq hq; obtain ⟨hcq, hfq⟩ := bcell hq; unfold atB; go_simp; exact ⟨rfl, rfl⟩); (rw [put_lit]; dsimp only [List.set]))
                refine fun wx hbx => ?_
                simp only [Exit.then]
                refine (by assumption : ∀ (a' : Act) (w' : World), Met _ a' w' → _) _ _ ?_
                go_meet
                case rel => exact ⟨rfl, hbx⟩
        case rest =>
          obtain ⟨rfl, hb16⟩ := hcut
          obtain ⟨w16, hw16⟩ : ∃ x : World, x = wc := ⟨_, rfl⟩
          subst hw16
          obtain ⟨hc16, hf16⟩ := bcell hb16
          have hz16 := hb16.size
          (try simp only [World.size_alloc, World.size_setCell, World.size_drew] at hz16)
          have B16 : Below w15.heap.size w15 w16 := Below.trans (b := _) (by (repeat' (first | (with_reducible exact Below.refl _ _) | (with_reducible assumption) | (with_reducible refine Below.alloc ?_ ?_ _) | (with_reducible refine Below.drew ?_) | (with_reducible refine below_drewN ?_ _) | (with_reducible refine Below.setCell ?_ ?_ _) | (with_reducible refine below_call ?_ ?_ (by assumption)) | go_size))) (hb16.mono (by first | omega | (simp only [World.size_alloc, World.size_setCell, World.size_drew]; omega)))
          obtain ⟨hd16, -⟩ := bcell B16
          have c16_c_0 : w16.cell? ⟨w.heap.size, 0, none⟩ = some (.int .i64 n0) := (hd16 _ _ q_c).trans c15_c_0
          have c16_c_1 : w16.cell? ⟨w.heap.size, 1, none⟩ = some (.int .i64 d0) := (hd16 _ _ q_c).trans c15_c_1
          have c16_c_2 : w16.cell? ⟨w.heap.size, 2, none⟩ = some (.int .i64 x0) := (hd16 _ _ q_c).trans c15_c_2
          have c16_c_3 : w16.cell? ⟨w.heap.size, 3, none⟩ = some (.int .i64 y0) := (hd16 _ _ q_c).trans c15_c_3
          have c16_s_0 : w16.cell? ⟨w.heap.size + 1, 0, none⟩ = some (.int .i64 n1) := (hd16 _ _ q_s).trans c15_s_0
          have c16_s_1 : w16.cell? ⟨w.heap.size + 1, 1, none⟩ = some (.int .i64 d1) := (hd16 _ _ q_s).trans c15_s_1
          have c16_d_0 : w16.cell? ⟨w.heap.size + 1 + 1, 0, none⟩ = some (.int .i64 n2) := (hd16 _ _ q_d).trans c15_d_0
          have c16_d_1 : w16.cell? ⟨w.heap.size + 1 + 1, 1, none⟩ = some (.int .i64 d2) := (hd16 _ _ q_d).trans c15_d_1
          have c16_d_2 : w16.cell? ⟨w.heap.size + 1 + 1, 2, none⟩ = some (.int .i64 x2) := (hd16 _ _ q_d).trans c15_d_2
          have c16_d_3 : w16.cell? ⟨w.heap.size + 1 + 1, 3, none⟩ = some (.int .i64 y2) := (hd16 _ _ q_d).trans c15_d_3
          have c16_e_0 : w16.cell? ⟨w.heap.size + 1 + 1 + 1, 0, none⟩ = some (.int .i64 n3) := (hd16 _ _ q_e).trans c15_e_0
          have c16_e_1 : w16.cell? ⟨w.heap.size + 1 + 1 + 1, 1, none⟩ = some (.int .i64 d3) := (hd16 _ _ q_e).trans c15_e_1
          have c16_e_2 : w16.cell? ⟨w.heap.size + 1 + 1 + 1, 2, none⟩ = some (.int .i64 x3) := (hd16 _ _ q_e).trans c15_e_2
          have c16_e_3 : w16.cell? ⟨w.heap.size + 1 + 1 + 1, 3, none⟩ = some (.int .i64 y3) := (hd16 _ _ q_e).trans c15_e_3
          have c16_t_0 : w16.cell? ⟨w.heap.size + 1 + 1 + 1 + 1, 0, none⟩ = some (.int .i64 n4) := (hd16 _ _ q_t).trans c15_t_0
          have c16_t_1 : w16.cell? ⟨w.heap.size + 1 + 1 + 1 + 1, 1, none⟩ = some (.int .i64 d4) := (hd16 _ _ q_t).trans c15_t_1
          have c16_shown_0 : w16.cell? ⟨w1.heap.size, 0, none⟩ = some (.int .i64 un) := (hd16 _ _ q_shown).trans c15_shown_0
          have c16_shown_1 : w16.cell? ⟨w1.heap.size, 1, none⟩ = some (.int .i64 ud) := (hd16 _ _ q_shown).trans c15_shown_1
          have c16_right_0 : w16.cell? ⟨w2.heap.size, 0, none⟩ = some (.int .i64 un) := (hd16 _ _ q_right).trans c15_right_0
          have c16_right_1 : w16.cell? ⟨w2.heap.size, 1, none⟩ = some (.int .i64 ud) := (hd16 _ _ q_right).trans c15_right_1
          have c16_ahead_0 : w16.cell? ⟨w3.heap.size, 0, none⟩ = some (.int .i64 gn) := (hd16 _ _ q_ahead).trans c15_ahead_0
          have c16_ahead_1 : w16.cell? ⟨w3.heap.size, 1, none⟩ = some (.int .i64 gd) := (hd16 _ _ q_ahead).trans c15_ahead_1
          have c16_want_0 : w16.cell? ⟨w4.heap.size, 0, none⟩ = some (.int .i64 gn) := (hd16 _ _ q_want).trans c15_want_0
          have c16_want_1 : w16.cell? ⟨w4.heap.size, 1, none⟩ = some (.int .i64 gd) := (hd16 _ _ q_want).trans c15_want_1
          have c16_set_0 : w16.cell? ⟨w5.heap.size, 0, none⟩ = some (.int .i64 zn) := (hd16 _ _ q_set).trans c15_set_0
          have c16_set_1 : w16.cell? ⟨w5.heap.size, 1, none⟩ = some (.int .i64 zd) := (hd16 _ _ q_set).trans c15_set_1
          have c16_set_2 : w16.cell? ⟨w5.heap.size, 2, none⟩ = some (.int .i64 zp) := (hd16 _ _ q_set).trans c15_set_2
          have c16_set_3 : w16.cell? ⟨w5.heap.size, 3, none⟩ = some (.int .i64 zq) := (hd16 _ _ q_set).trans c15_set_3
          have c16_model_0 : w16.cell? ⟨w6.heap.size, 0, none⟩ = some (.int .i64 zn) := (hd16 _ _ q_model).trans c15_model_0
          have c16_model_1 : w16.cell? ⟨w6.heap.size, 1, none⟩ = some (.int .i64 zd) := (hd16 _ _ q_model).trans c15_model_1
          have c16_model_2 : w16.cell? ⟨w6.heap.size, 2, none⟩ = some (.int .i64 zp) := (hd16 _ _ q_model).trans c15_model_2
          have c16_model_3 : w16.cell? ⟨w6.heap.size, 3, none⟩ = some (.int .i64 zq) := (hd16 _ _ q_model).trans c15_model_3
          have c16_first_0 : w16.cell? ⟨w11.heap.size, 0, none⟩ = some (.int .i64 fn) := (hd16 _ _ q_first).trans c15_first_0
          have c16_first_1 : w16.cell? ⟨w11.heap.size, 1, none⟩ = some (.int .i64 fd) := (hd16 _ _ q_first).trans c15_first_1
          have c16_value_0 : w16.cell? ⟨w12.heap.size, 0, none⟩ = some (.int .i64 fn) := (hd16 _ _ q_value).trans c15_value_0
          have c16_value_1 : w16.cell? ⟨w12.heap.size, 1, none⟩ = some (.int .i64 fd) := (hd16 _ _ q_value).trans c15_value_1
          have c16_every_0 : w16.cell? ⟨w13.heap.size, 0, none⟩ = some (.int .i64 rn) := (hd16 _ _ q_every).trans c15_every_0
          have c16_every_1 : w16.cell? ⟨w13.heap.size, 1, none⟩ = some (.int .i64 rd) := (hd16 _ _ q_every).trans c15_every_1
          have c16_due_0 : w16.cell? ⟨w14.heap.size, 0, none⟩ = some (.int .i64 rn) := (hd16 _ _ q_due).trans c15_due_0
          have c16_due_1 : w16.cell? ⟨w14.heap.size, 1, none⟩ = some (.int .i64 rd) := (hd16 _ _ q_due).trans c15_due_1
          replace q_c : w.heap.size < w16.heap.size := by omega
          replace q_s : w.heap.size + 1 < w16.heap.size := by omega
          replace q_d : w.heap.size + 1 + 1 < w16.heap.size := by omega
          replace q_e : w.heap.size + 1 + 1 + 1 < w16.heap.size := by omega
          replace q_t : w.heap.size + 1 + 1 + 1 + 1 < w16.heap.size := by omega
          replace q_shown : w1.heap.size < w16.heap.size := by omega
          replace q_right : w2.heap.size < w16.heap.size := by omega
          replace q_ahead : w3.heap.size < w16.heap.size := by omega
          replace q_want : w4.heap.size < w16.heap.size := by omega
          replace q_set : w5.heap.size < w16.heap.size := by omega
          replace q_model : w6.heap.size < w16.heap.size := by omega
          replace q_first : w11.heap.size < w16.heap.size := by omega
          replace q_value : w12.heap.size < w16.heap.size := by omega
          replace q_every : w13.heap.size < w16.heap.size := by omega
          replace q_due : w14.heap.size < w16.heap.size := by omega
          have BW16 : Below w.heap.size w w16 := BW15.trans (B16.mono BW15.size)
          clear hc16 hf16 hb16 hd16 B16 c15_c_0 c15_c_1 c15_c_2 c15_c_3 c15_s_0 c15_s_1 c15_d_0 c15_d_1 c15_d_2 c15_d_3 c15_e_0 c15_e_1 c15_e_2 c15_e_3 c15_t_0 c15_t_1 c15_shown_0 c15_shown_1 c15_right_0 c15_right_1 c15_ahead_0 c15_ahead_1 c15_want_0 c15_want_1 c15_set_0 c15_set_1 c15_set_2 c15_set_3 c15_model_0 c15_model_1 c15_model_2 c15_model_3 c15_first_0 c15_first_1 c15_value_0 c15_value_1 c15_every_0 c15_every_1 c15_due_0 c15_due_1 BW15
          go_upto_if 230 with fail
          go_cut [] from 999 to 999 (fun wx => Below w16.heap.size w16 wx)
          case first =>
            as_aux_lemma =>
              cases fo
              · go_wp2_with fail
                go_meet
                case rel => exact Below.refl _ _
              · obtain ⟨-, h2, h3⟩ := G3.out rfl
                have Z1 := Lib.hid (fun W => (show Calls Try.prog 9 #[cv n2 d2 x2 y2, tv fn fd] W fun e w' => e = .returned (rv (0, 1, true)) ∧ Below W.heap.size W w' from by have := implAheadAfter_any n2 d2 x2 y2 fn fd W; rw [h2] at this; exact this))
                clear h2
                go_wp2_with fail
                refine (Z1.out _).mono ?_
                rintro e17 w17 ⟨rfl, hb17⟩
                obtain ⟨hc17, hf17⟩ := bcell hb17
                have hz17 := hb17.size
                (try simp only [World.size_alloc, World.size_setCell, World.size_drew] at hz17)
                have B17 : Below w16.heap.size w16 w17 := Below.trans (b := _) (by (repeat' (first | (with_reducible exact Below.refl _ _) | (with_reducible assumption) | (with_reducible refine Below.alloc ?_ ?_ _) | (with_reducible refine Below.drew ?_) | (with_reducible refine below_drewN ?_ _) | (with_reducible refine Below.setCell ?_ ?_ _) | (with_reducible refine below_call ?_ ?_ (by assumption)) | go_size))) (hb17.mono (by first | omega | (simp only [World.size_alloc, World.size_setCell, World.size_drew]; omega)))
                obtain ⟨hd17, -⟩ := bcell B17
                have c17_c_0 : w17.cell? ⟨w.heap.size, 0, none⟩ = some (.int .i64 n0) := (hd17 _ _ q_c).trans c16_c_0
                have c17_c_1 : w17.cell? ⟨w.heap.size, 1, none⟩ = some (.int .i64 d0) := (hd17 _ _ q_c).trans c16_c_1
                have c17_c_2 : w17.cell? ⟨w.heap.size, 2, none⟩ = some (.int .i64 x0) := (hd17 _ _ q_c).trans c16_c_2
                have c17_c_3 : w17.cell? ⟨w.heap.size, 3, none⟩ = some (.int .i64 y0) := (hd17 _ _ q_c).trans c16_c_3
                have c17_s_0 : w17.cell? ⟨w.heap.size + 1, 0, none⟩ = some (.int .i64 n1) := (hd17 _ _ q_s).trans c16_s_0
                have c17_s_1 : w17.cell? ⟨w.heap.size + 1, 1, none⟩ = some (.int .i64 d1) := (hd17 _ _ q_s).trans c16_s_1
                have c17_d_0 : w17.cell? ⟨w.heap.size + 1 + 1, 0, none⟩ = some (.int .i64 n2) := (hd17 _ _ q_d).trans c16_d_0
                have c17_d_1 : w17.cell? ⟨w.heap.size + 1 + 1, 1, none⟩ = some (.int .i64 d2) := (hd17 _ _ q_d).trans c16_d_1
                have c17_d_2 : w17.cell? ⟨w.heap.size + 1 + 1, 2, none⟩ = some (.int .i64 x2) := (hd17 _ _ q_d).trans c16_d_2
                have c17_d_3 : w17.cell? ⟨w.heap.size + 1 + 1, 3, none⟩ = some (.int .i64 y2) := (hd17 _ _ q_d).trans c16_d_3
                have c17_e_0 : w17.cell? ⟨w.heap.size + 1 + 1 + 1, 0, none⟩ = some (.int .i64 n3) := (hd17 _ _ q_e).trans c16_e_0
                have c17_e_1 : w17.cell? ⟨w.heap.size + 1 + 1 + 1, 1, none⟩ = some (.int .i64 d3) := (hd17 _ _ q_e).trans c16_e_1
                have c17_e_2 : w17.cell? ⟨w.heap.size + 1 + 1 + 1, 2, none⟩ = some (.int .i64 x3) := (hd17 _ _ q_e).trans c16_e_2
                have c17_e_3 : w17.cell? ⟨w.heap.size + 1 + 1 + 1, 3, none⟩ = some (.int .i64 y3) := (hd17 _ _ q_e).trans c16_e_3
                have c17_t_0 : w17.cell? ⟨w.heap.size + 1 + 1 + 1 + 1, 0, none⟩ = some (.int .i64 n4) := (hd17 _ _ q_t).trans c16_t_0
                have c17_t_1 : w17.cell? ⟨w.heap.size + 1 + 1 + 1 + 1, 1, none⟩ = some (.int .i64 d4) := (hd17 _ _ q_t).trans c16_t_1
                have c17_shown_0 : w17.cell? ⟨w1.heap.size, 0, none⟩ = some (.int .i64 un) := (hd17 _ _ q_shown).trans c16_shown_0
                have c17_shown_1 : w17.cell? ⟨w1.heap.size, 1, none⟩ = some (.int .i64 ud) := (hd17 _ _ q_shown).trans c16_shown_1
                have c17_right_0 : w17.cell? ⟨w2.heap.size, 0, none⟩ = some (.int .i64 un) := (hd17 _ _ q_right).trans c16_right_0
                have c17_right_1 : w17.cell? ⟨w2.heap.size, 1, none⟩ = some (.int .i64 ud) := (hd17 _ _ q_right).trans c16_right_1
                have c17_ahead_0 : w17.cell? ⟨w3.heap.size, 0, none⟩ = some (.int .i64 gn) := (hd17 _ _ q_ahead).trans c16_ahead_0
                have c17_ahead_1 : w17.cell? ⟨w3.heap.size, 1, none⟩ = some (.int .i64 gd) := (hd17 _ _ q_ahead).trans c16_ahead_1
                have c17_want_0 : w17.cell? ⟨w4.heap.size, 0, none⟩ = some (.int .i64 gn) := (hd17 _ _ q_want).trans c16_want_0
                have c17_want_1 : w17.cell? ⟨w4.heap.size, 1, none⟩ = some (.int .i64 gd) := (hd17 _ _ q_want).trans c16_want_1
                have c17_set_0 : w17.cell? ⟨w5.heap.size, 0, none⟩ = some (.int .i64 zn) := (hd17 _ _ q_set).trans c16_set_0
                have c17_set_1 : w17.cell? ⟨w5.heap.size, 1, none⟩ = some (.int .i64 zd) := (hd17 _ _ q_set).trans c16_set_1
                have c17_set_2 : w17.cell? ⟨w5.heap.size, 2, none⟩ = some (.int .i64 zp) := (hd17 _ _ q_set).trans c16_set_2
                have c17_set_3 : w17.cell? ⟨w5.heap.size, 3, none⟩ = some (.int .i64 zq) := (hd17 _ _ q_set).trans c16_set_3
                have c17_model_0 : w17.cell? ⟨w6.heap.size, 0, none⟩ = some (.int .i64 zn) := (hd17 _ _ q_model).trans c16_model_0
                have c17_model_1 : w17.cell? ⟨w6.heap.size, 1, none⟩ = some (.int .i64 zd) := (hd17 _ _ q_model).trans c16_model_1
                have c17_model_2 : w17.cell? ⟨w6.heap.size, 2, none⟩ = some (.int .i64 zp) := (hd17 _ _ q_model).trans c16_model_2
                have c17_model_3 : w17.cell? ⟨w6.heap.size, 3, none⟩ = some (.int .i64 zq) := (hd17 _ _ q_model).trans c16_model_3
                have c17_first_0 : w17.cell? ⟨w11.heap.size, 0, none⟩ = some (.int .i64 fn) := (hd17 _ _ q_first).trans c16_first_0
                have c17_first_1 : w17.cell? ⟨w11.heap.size, 1, none⟩ = some (.int .i64 fd) := (hd17 _ _ q_first).trans c16_first_1
                have c17_value_0 : w17.cell? ⟨w12.heap.size, 0, none⟩ = some (.int .i64 fn) := (hd17 _ _ q_value).trans c16_value_0
                have c17_value_1 : w17.cell? ⟨w12.heap.size, 1, none⟩ = some (.int .i64 fd) := (hd17 _ _ q_value).trans c16_value_1
                have c17_every_0 : w17.cell? ⟨w13.heap.size, 0, none⟩ = some (.int .i64 rn) := (hd17 _ _ q_every).trans c16_every_0
                have c17_every_1 : w17.cell? ⟨w13.heap.size, 1, none⟩ = some (.int .i64 rd) := (hd17 _ _ q_every).trans c16_every_1
                have c17_due_0 : w17.cell? ⟨w14.heap.size, 0, none⟩ = some (.int .i64 rn) := (hd17 _ _ q_due).trans c16_due_0
                have c17_due_1 : w17.cell? ⟨w14.heap.size, 1, none⟩ = some (.int .i64 rd) := (hd17 _ _ q_due).trans c16_due_1
                replace q_c : w.heap.size < w17.heap.size := by omega
                replace q_s : w.heap.size + 1 < w17.heap.size := by omega
                replace q_d : w.heap.size + 1 + 1 < w17.heap.size := by omega
                replace q_e : w.heap.size + 1 + 1 + 1 < w17.heap.size := by omega
                replace q_t : w.heap.size + 1 + 1 + 1 + 1 < w17.heap.size := by omega
                replace q_shown : w1.heap.size < w17.heap.size := by omega
                replace q_right : w2.heap.size < w17.heap.size := by omega
                replace q_ahead : w3.heap.size < w17.heap.size := by omega
                replace q_want : w4.heap.size < w17.heap.size := by omega
                replace q_set : w5.heap.size < w17.heap.size := by omega
                replace q_model : w6.heap.size < w17.heap.size := by omega
                replace q_first : w11.heap.size < w17.heap.size := by omega
                replace q_value : w12.heap.size < w17.heap.size := by omega
                replace q_every : w13.heap.size < w17.heap.size := by omega
                replace q_due : w14.heap.size < w17.heap.size := by omega
                have BW17 : Below w.heap.size w w17 := BW16.trans (B17.mono BW16.size)
                have BX17 : Below w16.heap.size w16 w17 := B17
                clear hc17 hf17 hb17 hd17 B17 c16_c_0 c16_c_1 c16_c_2 c16_c_3 c16_s_0 c16_s_1 c16_d_0 c16_d_1 c16_d_2 c16_d_3 c16_e_0 c16_e_1 c16_e_2 c16_e_3 c16_t_0 c16_t_1 c16_shown_0 c16_shown_1 c16_right_0 c16_right_1 c16_ahead_0 c16_ahead_1 c16_want_0 c16_want_1 c16_set_0 c16_set_1 c16_set_2 c16_set_3 c16_model_0 c16_model_1 c16_model_2 c16_model_3 c16_first_0 c16_first_1 c16_value_0 c16_value_1 c16_every_0 c16_every_1 c16_due_0 c16_due_1 BW16
                go_upto_region 26 with fail
                have hb18 : Below w17.heap.size w17 (w17.alloc (Obj.cells #[.int .i64 0, .int .i64 1] 25)) := by (repeat' (first | (with_reducible exact Below.refl _ _) | (with_reducible assumption) | (with_reducible refine Below.alloc ?_ ?_ _) | (with_reducible refine Below.drew ?_) | (with_reducible refine below_drewN ?_ _) | (with_reducible refine Below.setCell ?_ ?_ _) | (with_reducible refine below_call ?_ ?_ (by assumption)) | go_size))
                have c18_none2_0 : (w17.alloc (Obj.cells #[.int .i64 0, .int .i64 1] 25)).cell? ⟨w17.heap.size, 0, none⟩ = some (.int .i64 0) := by go_simp
                have c18_none2_1 : (w17.alloc (Obj.cells #[.int .i64 0, .int .i64 1] 25)).cell? ⟨w17.heap.size, 1, none⟩ = some (.int .i64 1) := by go_simp
                have q_none2 : w17.heap.size < (w17.alloc (Obj.cells #[.int .i64 0, .int .i64 1] 25)).heap.size := by go_size
                generalize (w17.alloc (Obj.cells #[.int .i64 0, .int .i64 1] 25)) = w18 at *
                obtain ⟨hd18, -⟩ := bcell hb18
                have hz18 := hb18.size
                have c18_c_0 : w18.cell? ⟨w.heap.size, 0, none⟩ = some (.int .i64 n0) := (hd18 _ _ q_c).trans c17_c_0
                have c18_c_1 : w18.cell? ⟨w.heap.size, 1, none⟩ = some (.int .i64 d0) := (hd18 _ _ q_c).trans c17_c_1
                have c18_c_2 : w18.cell? ⟨w.heap.size, 2, none⟩ = some (.int .i64 x0) := (hd18 _ _ q_c).trans c17_c_2
                have c18_c_3 : w18.cell? ⟨w.heap.size, 3, none⟩ = some (.int .i64 y0) := (hd18 _ _ q_c).trans c17_c_3
                have c18_s_0 : w18.cell? ⟨w.heap.size + 1, 0, none⟩ = some (.int .i64 n1) := (hd18 _ _ q_s).trans c17_s_0
                have c18_s_1 : w18.cell? ⟨w.heap.size + 1, 1, none⟩ = some (.int .i64 d1) := (hd18 _ _ q_s).trans c17_s_1
                have c18_d_0 : w18.cell? ⟨w.heap.size + 1 + 1, 0, none⟩ = some (.int .i64 n2) := (hd18 _ _ q_d).trans c17_d_0
                have c18_d_1 : w18.cell? ⟨w.heap.size + 1 + 1, 1, none⟩ = some (.int .i64 d2) := (hd18 _ _ q_d).trans c17_d_1
                have c18_d_2 : w18.cell? ⟨w.heap.size + 1 + 1, 2, none⟩ = some (.int .i64 x2) := (hd18 _ _ q_d).trans c17_d_2
                have c18_d_3 : w18.cell? ⟨w.heap.size + 1 + 1, 3, none⟩ = some (.int .i64 y2) := (hd18 _ _ q_d).trans c17_d_3
                have c18_e_0 : w18.cell? ⟨w.heap.size + 1 + 1 + 1, 0, none⟩ = some (.int .i64 n3) := (hd18 _ _ q_e).trans c17_e_0
                have c18_e_1 : w18.cell? ⟨w.heap.size + 1 + 1 + 1, 1, none⟩ = some (.int .i64 d3) := (hd18 _ _ q_e).trans c17_e_1
                have c18_e_2 : w18.cell? ⟨w.heap.size + 1 + 1 + 1, 2, none⟩ = some (.int .i64 x3) := (hd18 _ _ q_e).trans c17_e_2
                have c18_e_3 : w18.cell? ⟨w.heap.size + 1 + 1 + 1, 3, none⟩ = some (.int .i64 y3) := (hd18 _ _ q_e).trans c17_e_3
                have c18_t_0 : w18.cell? ⟨w.heap.size + 1 + 1 + 1 + 1, 0, none⟩ = some (.int .i64 n4) := (hd18 _ _ q_t).trans c17_t_0
                have c18_t_1 : w18.cell? ⟨w.heap.size + 1 + 1 + 1 + 1, 1, none⟩ = some (.int .i64 d4) := (hd18 _ _ q_t).trans c17_t_1
                have c18_shown_0 : w18.cell? ⟨w1.heap.size, 0, none⟩ = some (.int .i64 un) := (hd18 _ _ q_shown).trans c17_shown_0
                have c18_shown_1 : w18.cell? ⟨w1.heap.size, 1, none⟩ = some (.int .i64 ud) := (hd18 _ _ q_shown).trans c17_shown_1
                have c18_right_0 : w18.cell? ⟨w2.heap.size, 0, none⟩ = some (.int .i64 un) := (hd18 _ _ q_right).trans c17_right_0
                have c18_right_1 : w18.cell? ⟨w2.heap.size, 1, none⟩ = some (.int .i64 ud) := (hd18 _ _ q_right).trans c17_right_1
                have c18_ahead_0 : w18.cell? ⟨w3.heap.size, 0, none⟩ = some (.int .i64 gn) := (hd18 _ _ q_ahead).trans c17_ahead_0
                have c18_ahead_1 : w18.cell? ⟨w3.heap.size, 1, none⟩ = some (.int .i64 gd) := (hd18 _ _ q_ahead).trans c17_ahead_1
                have c18_want_0 : w18.cell? ⟨w4.heap.size, 0, none⟩ = some (.int .i64 gn) := (hd18 _ _ q_want).trans c17_want_0
                have c18_want_1 : w18.cell? ⟨w4.heap.size, 1, none⟩ = some (.int .i64 gd) := (hd18 _ _ q_want).trans c17_want_1
                have c18_set_0 : w18.cell? ⟨w5.heap.size, 0, none⟩ = some (.int .i64 zn) := (hd18 _ _ q_set).trans c17_set_0
                have c18_set_1 : w18.cell? ⟨w5.heap.size, 1, none⟩ = some (.int .i64 zd) := (hd18 _ _ q_set).trans c17_set_1
                have c18_set_2 : w18.cell? ⟨w5.heap.size, 2, none⟩ = some (.int .i64 zp) := (hd18 _ _ q_set).trans c17_set_2
                have c18_set_3 : w18.cell? ⟨w5.heap.size, 3, none⟩ = some (.int .i64 zq) := (hd18 _ _ q_set).trans c17_set_3
                have c18_model_0 : w18.cell? ⟨w6.heap.size, 0, none⟩ = some (.int .i64 zn) := (hd18 _ _ q_model).trans c17_model_0
                have c18_model_1 : w18.cell? ⟨w6.heap.size, 1, none⟩ = some (.int .i64 zd) := (hd18 _ _ q_model).trans c17_model_1
                have c18_model_2 : w18.cell? ⟨w6.heap.size, 2, none⟩ = some (.int .i64 zp) := (hd18 _ _ q_model).trans c17_model_2
                have c18_model_3 : w18.cell? ⟨w6.heap.size, 3, none⟩ = some (.int .i64 zq) := (hd18 _ _ q_model).trans c17_model_3
                have c18_first_0 : w18.cell? ⟨w11.heap.size, 0, none⟩ = some (.int .i64 fn) := (hd18 _ _ q_first).trans c17_first_0
                have c18_first_1 : w18.cell? ⟨w11.heap.size, 1, none⟩ = some (.int .i64 fd) := (hd18 _ _ q_first).trans c17_first_1
                have c18_value_0 : w18.cell? ⟨w12.heap.size, 0, none⟩ = some (.int .i64 fn) := (hd18 _ _ q_value).trans c17_value_0
                have c18_value_1 : w18.cell? ⟨w12.heap.size, 1, none⟩ = some (.int .i64 fd) := (hd18 _ _ q_value).trans c17_value_1
                have c18_every_0 : w18.cell? ⟨w13.heap.size, 0, none⟩ = some (.int .i64 rn) := (hd18 _ _ q_every).trans c17_every_0
                have c18_every_1 : w18.cell? ⟨w13.heap.size, 1, none⟩ = some (.int .i64 rd) := (hd18 _ _ q_every).trans c17_every_1
                have c18_due_0 : w18.cell? ⟨w14.heap.size, 0, none⟩ = some (.int .i64 rn) := (hd18 _ _ q_due).trans c17_due_0
                have c18_due_1 : w18.cell? ⟨w14.heap.size, 1, none⟩ = some (.int .i64 rd) := (hd18 _ _ q_due).trans c17_due_1
                replace q_c : w.heap.size < w18.heap.size := by omega
                replace q_s : w.heap.size + 1 < w18.heap.size := by omega
                replace q_d : w.heap.size + 1 + 1 < w18.heap.size := by omega
                replace q_e : w.heap.size + 1 + 1 + 1 < w18.heap.size := by omega
                replace q_t : w.heap.size + 1 + 1 + 1 + 1 < w18.heap.size := by omega
                replace q_shown : w1.heap.size < w18.heap.size := by omega
                replace q_right : w2.heap.size < w18.heap.size := by omega
                replace q_ahead : w3.heap.size < w18.heap.size := by omega
                replace q_want : w4.heap.size < w18.heap.size := by omega
                replace q_set : w5.heap.size < w18.heap.size := by omega
                replace q_model : w6.heap.size < w18.heap.size := by omega
                replace q_first : w11.heap.size < w18.heap.size := by omega
                replace q_value : w12.heap.size < w18.heap.size := by omega
                replace q_every : w13.heap.size < w18.heap.size := by omega
                replace q_due : w14.heap.size < w18.heap.size := by omega
                have BW18 : Below w.heap.size w w18 := BW17.trans (hb18.mono BW17.size)
                have BX18 : Below w16.heap.size w16 w18 := BX17.trans (hb18.mono BX17.size)
                clear BX17
                clear hb18 hd18 c17_c_0 c17_c_1 c17_c_2 c17_c_3 c17_s_0 c17_s_1 c17_d_0 c17_d_1 c17_d_2 c17_d_3 c17_e_0 c17_e_1 c17_e_2 c17_e_3 c17_t_0 c17_t_1 c17_shown_0 c17_shown_1 c17_right_0 c17_right_1 c17_ahead_0 c17_ahead_1 c17_want_0 c17_want_1 c17_set_0 c17_set_1 c17_set_2 c17_set_3 c17_model_0 c17_model_1 c17_model_2 c17_model_3 c17_first_0 c17_first_1 c17_value_0 c17_value_1 c17_every_0 c17_every_1 c17_due_0 c17_due_1 BW17
                have hrelB := BX18
                have hlt : ¬ fn < 1 := by omega
                go_wp2_with fail
                go_meet
                case rel => exact hrelB
          case rest =>
            obtain ⟨w17, hw17⟩ : ∃ x : World, x = wc := ⟨_, rfl⟩
            subst hw17
            have hb17 := hcut
            obtain ⟨hc17, hf17⟩ := bcell hb17
            have hz17 := hb17.size
            (try simp only [World.size_alloc, World.size_setCell, World.size_drew] at hz17)
            have B17 : Below w16.heap.size w16 w17 := Below.trans (b := _) (by (repeat' (first | (with_reducible exact Below.refl _ _) | (with_reducible assumption) | (with_reducible refine Below.alloc ?_ ?_ _) | (with_reducible refine Below.drew ?_) | (with_reducible refine below_drewN ?_ _) | (with_reducible refine Below.setCell ?_ ?_ _) | (with_reducible refine below_call ?_ ?_ (by assumption)) | go_size))) (hb17.mono (by first | omega | (simp only [World.size_alloc, World.size_setCell, World.size_drew]; omega)))
            obtain ⟨hd17, -⟩ := bcell B17
            have c17_c_0 : w17.cell? ⟨w.heap.size, 0, none⟩ = some (.int .i64 n0) := (hd17 _ _ q_c).trans c16_c_0
            have c17_c_1 : w17.cell? ⟨w.heap.size, 1, none⟩ = some (.int .i64 d0) := (hd17 _ _ q_c).trans c16_c_1
            have c17_c_2 : w17.cell? ⟨w.heap.size, 2, none⟩ = some (.int .i64 x0) := (hd17 _ _ q_c).trans c16_c_2
            have c17_c_3 : w17.cell? ⟨w.heap.size, 3, none⟩ = some (.int .i64 y0) := (hd17 _ _ q_c).trans c16_c_3
            have c17_s_0 : w17.cell? ⟨w.heap.size + 1, 0, none⟩ = some (.int .i64 n1) := (hd17 _ _ q_s).trans c16_s_0
            have c17_s_1 : w17.cell? ⟨w.heap.size + 1, 1, none⟩ = some (.int .i64 d1) := (hd17 _ _ q_s).trans c16_s_1
            have c17_d_0 : w17.cell? ⟨w.heap.size + 1 + 1, 0, none⟩ = some (.int .i64 n2) := (hd17 _ _ q_d).trans c16_d_0
            have c17_d_1 : w17.cell? ⟨w.heap.size + 1 + 1, 1, none⟩ = some (.int .i64 d2) := (hd17 _ _ q_d).trans c16_d_1
            have c17_d_2 : w17.cell? ⟨w.heap.size + 1 + 1, 2, none⟩ = some (.int .i64 x2) := (hd17 _ _ q_d).trans c16_d_2
            have c17_d_3 : w17.cell? ⟨w.heap.size + 1 + 1, 3, none⟩ = some (.int .i64 y2) := (hd17 _ _ q_d).trans c16_d_3
            have c17_e_0 : w17.cell? ⟨w.heap.size + 1 + 1 + 1, 0, none⟩ = some (.int .i64 n3) := (hd17 _ _ q_e).trans c16_e_0
            have c17_e_1 : w17.cell? ⟨w.heap.size + 1 + 1 + 1, 1, none⟩ = some (.int .i64 d3) := (hd17 _ _ q_e).trans c16_e_1
            have c17_e_2 : w17.cell? ⟨w.heap.size + 1 + 1 + 1, 2, none⟩ = some (.int .i64 x3) := (hd17 _ _ q_e).trans c16_e_2
            have c17_e_3 : w17.cell? ⟨w.heap.size + 1 + 1 + 1, 3, none⟩ = some (.int .i64 y3) := (hd17 _ _ q_e).trans c16_e_3
            have c17_t_0 : w17.cell? ⟨w.heap.size + 1 + 1 + 1 + 1, 0, none⟩ = some (.int .i64 n4) := (hd17 _ _ q_t).trans c16_t_0
            have c17_t_1 : w17.cell? ⟨w.heap.size + 1 + 1 + 1 + 1, 1, none⟩ = some (.int .i64 d4) := (hd17 _ _ q_t).trans c16_t_1
            have c17_shown_0 : w17.cell? ⟨w1.heap.size, 0, none⟩ = some (.int .i64 un) := (hd17 _ _ q_shown).trans c16_shown_0
            have c17_shown_1 : w17.cell? ⟨w1.heap.size, 1, none⟩ = some (.int .i64 ud) := (hd17 _ _ q_shown).trans c16_shown_1
            have c17_right_0 : w17.cell? ⟨w2.heap.size, 0, none⟩ = some (.int .i64 un) := (hd17 _ _ q_right).trans c16_right_0
            have c17_right_1 : w17.cell? ⟨w2.heap.size, 1, none⟩ = some (.int .i64 ud) := (hd17 _ _ q_right).trans c16_right_1
            have c17_ahead_0 : w17.cell? ⟨w3.heap.size, 0, none⟩ = some (.int .i64 gn) := (hd17 _ _ q_ahead).trans c16_ahead_0
            have c17_ahead_1 : w17.cell? ⟨w3.heap.size, 1, none⟩ = some (.int .i64 gd) := (hd17 _ _ q_ahead).trans c16_ahead_1
            have c17_want_0 : w17.cell? ⟨w4.heap.size, 0, none⟩ = some (.int .i64 gn) := (hd17 _ _ q_want).trans c16_want_0
            have c17_want_1 : w17.cell? ⟨w4.heap.size, 1, none⟩ = some (.int .i64 gd) := (hd17 _ _ q_want).trans c16_want_1
            have c17_set_0 : w17.cell? ⟨w5.heap.size, 0, none⟩ = some (.int .i64 zn) := (hd17 _ _ q_set).trans c16_set_0
            have c17_set_1 : w17.cell? ⟨w5.heap.size, 1, none⟩ = some (.int .i64 zd) := (hd17 _ _ q_set).trans c16_set_1
            have c17_set_2 : w17.cell? ⟨w5.heap.size, 2, none⟩ = some (.int .i64 zp) := (hd17 _ _ q_set).trans c16_set_2
            have c17_set_3 : w17.cell? ⟨w5.heap.size, 3, none⟩ = some (.int .i64 zq) := (hd17 _ _ q_set).trans c16_set_3
            have c17_model_0 : w17.cell? ⟨w6.heap.size, 0, none⟩ = some (.int .i64 zn) := (hd17 _ _ q_model).trans c16_model_0
            have c17_model_1 : w17.cell? ⟨w6.heap.size, 1, none⟩ = some (.int .i64 zd) := (hd17 _ _ q_model).trans c16_model_1
            have c17_model_2 : w17.cell? ⟨w6.heap.size, 2, none⟩ = some (.int .i64 zp) := (hd17 _ _ q_model).trans c16_model_2
            have c17_model_3 : w17.cell? ⟨w6.heap.size, 3, none⟩ = some (.int .i64 zq) := (hd17 _ _ q_model).trans c16_model_3
            have c17_first_0 : w17.cell? ⟨w11.heap.size, 0, none⟩ = some (.int .i64 fn) := (hd17 _ _ q_first).trans c16_first_0
            have c17_first_1 : w17.cell? ⟨w11.heap.size, 1, none⟩ = some (.int .i64 fd) := (hd17 _ _ q_first).trans c16_first_1
            have c17_value_0 : w17.cell? ⟨w12.heap.size, 0, none⟩ = some (.int .i64 fn) := (hd17 _ _ q_value).trans c16_value_0
            have c17_value_1 : w17.cell? ⟨w12.heap.size, 1, none⟩ = some (.int .i64 fd) := (hd17 _ _ q_value).trans c16_value_1
            have c17_every_0 : w17.cell? ⟨w13.heap.size, 0, none⟩ = some (.int .i64 rn) := (hd17 _ _ q_every).trans c16_every_0
            have c17_every_1 : w17.cell? ⟨w13.heap.size, 1, none⟩ = some (.int .i64 rd) := (hd17 _ _ q_every).trans c16_every_1
            have c17_due_0 : w17.cell? ⟨w14.heap.size, 0, none⟩ = some (.int .i64 rn) := (hd17 _ _ q_due).trans c16_due_0
            have c17_due_1 : w17.cell? ⟨w14.heap.size, 1, none⟩ = some (.int .i64 rd) := (hd17 _ _ q_due).trans c16_due_1
            replace q_c : w.heap.size < w17.heap.size := by omega
            replace q_s : w.heap.size + 1 < w17.heap.size := by omega
            replace q_d : w.heap.size + 1 + 1 < w17.heap.size := by omega
            replace q_e : w.heap.size + 1 + 1 + 1 < w17.heap.size := by omega
            replace q_t : w.heap.size + 1 + 1 + 1 + 1 < w17.heap.size := by omega
            replace q_shown : w1.heap.size < w17.heap.size := by omega
            replace q_right : w2.heap.size < w17.heap.size := by omega
            replace q_ahead : w3.heap.size < w17.heap.size := by omega
            replace q_want : w4.heap.size < w17.heap.size := by omega
            replace q_set : w5.heap.size < w17.heap.size := by omega
            replace q_model : w6.heap.size < w17.heap.size := by omega
            replace q_first : w11.heap.size < w17.heap.size := by omega
            replace q_value : w12.heap.size < w17.heap.size := by omega
            replace q_every : w13.heap.size < w17.heap.size := by omega
            replace q_due : w14.heap.size < w17.heap.size := by omega
            have BW17 : Below w.heap.size w w17 := BW16.trans (B17.mono BW16.size)
            clear hc17 hf17 hb17 hd17 B17 c16_c_0 c16_c_1 c16_c_2 c16_c_3 c16_s_0 c16_s_1 c16_d_0 c16_d_1 c16_d_2 c16_d_3 c16_e_0 c16_e_1 c16_e_2 c16_e_3 c16_t_0 c16_t_1 c16_shown_0 c16_shown_1 c16_right_0 c16_right_1 c16_ahead_0 c16_ahead_1 c16_want_0 c16_want_1 c16_set_0 c16_set_1 c16_set_2 c16_set_3 c16_model_0 c16_model_1 c16_model_2 c16_model_3 c16_first_0 c16_first_1 c16_value_0 c16_value_1 c16_every_0 c16_every_1 c16_due_0 c16_due_1 BW16
            go_upto_region 28 with fail
            go_cut [252] from 999 to 999 (fun x wx => x = .bool b2 ∧ Below w17.heap.size w17 wx)
            case first =>
              as_aux_lemma =>
                have e := Hb2.out
                cases fo
                · simp only [Bool.false_and] at e
                  subst e
                  go_wp2_with fail
                  go_meet
                  case rel => exact ⟨rfl, Below.refl _ _⟩
                · simp only [Bool.true_and] at e
                  subst e
                  go_wp2_with fail
                  go_meet
                  case rel => exact ⟨rfl, Below.refl _ _⟩
            case rest =>
              obtain ⟨rfl, hb18⟩ := hcut
              obtain ⟨w18, hw18⟩ : ∃ x : World, x = wc := ⟨_, rfl⟩
              subst hw18
              obtain ⟨hc18, hf18⟩ := bcell hb18
              have hz18 := hb18.size
              (try simp only [World.size_alloc, World.size_setCell, World.size_drew] at hz18)
              have B18 : Below w17.heap.size w17 w18 := Below.trans (b := _) (by (repeat' (first | (with_reducible exact Below.refl _ _) | (with_reducible assumption) | (with_reducible refine Below.alloc ?_ ?_ _) | (with_reducible refine Below.drew ?_) | (with_reducible refine below_drewN ?_ _) | (with_reducible refine Below.setCell ?_ ?_ _) | (with_reducible refine below_call ?_ ?_ (by assumption)) | go_size))) (hb18.mono (by first | omega | (simp only [World.size_alloc, World.size_setCell, World.size_drew]; omega)))
              obtain ⟨hd18, -⟩ := bcell B18
              have c18_c_0 : w18.cell? ⟨w.heap.size, 0, none⟩ = some (.int .i64 n0) := (hd18 _ _ q_c).trans c17_c_0
              have c18_c_1 : w18.cell? ⟨w.heap.size, 1, none⟩ = some (.int .i64 d0) := (hd18 _ _ q_c).trans c17_c_1
              have c18_c_2 : w18.cell? ⟨w.heap.size, 2, none⟩ = some (.int .i64 x0) := (hd18 _ _ q_c).trans c17_c_2
              have c18_c_3 : w18.cell? ⟨w.heap.size, 3, none⟩ = some (.int .i64 y0) := (hd18 _ _ q_c).trans c17_c_3
              have c18_s_0 : w18.cell? ⟨w.heap.size + 1, 0, none⟩ = some (.int .i64 n1) := (hd18 _ _ q_s).trans c17_s_0
              have c18_s_1 : w18.cell? ⟨w.heap.size + 1, 1, none⟩ = some (.int .i64 d1) := (hd18 _ _ q_s).trans c17_s_1
              have c18_d_0 : w18.cell? ⟨w.heap.size + 1 + 1, 0, none⟩ = some (.int .i64 n2) := (hd18 _ _ q_d).trans c17_d_0
              have c18_d_1 : w18.cell? ⟨w.heap.size + 1 + 1, 1, none⟩ = some (.int .i64 d2) := (hd18 _ _ q_d).trans c17_d_1
              have c18_d_2 : w18.cell? ⟨w.heap.size + 1 + 1, 2, none⟩ = some (.int .i64 x2) := (hd18 _ _ q_d).trans c17_d_2
              have c18_d_3 : w18.cell? ⟨w.heap.size + 1 + 1, 3, none⟩ = some (.int .i64 y2) := (hd18 _ _ q_d).trans c17_d_3
              have c18_e_0 : w18.cell? ⟨w.heap.size + 1 + 1 + 1, 0, none⟩ = some (.int .i64 n3) := (hd18 _ _ q_e).trans c17_e_0
              have c18_e_1 : w18.cell? ⟨w.heap.size + 1 + 1 + 1, 1, none⟩ = some (.int .i64 d3) := (hd18 _ _ q_e).trans c17_e_1
              have c18_e_2 : w18.cell? ⟨w.heap.size + 1 + 1 + 1, 2, none⟩ = some (.int .i64 x3) := (hd18 _ _ q_e).trans c17_e_2
              have c18_e_3 : w18.cell? ⟨w.heap.size + 1 + 1 + 1, 3, none⟩ = some (.int .i64 y3) := (hd18 _ _ q_e).trans c17_e_3
              have c18_t_0 : w18.cell? ⟨w.heap.size + 1 + 1 + 1 + 1, 0, none⟩ = some (.int .i64 n4) := (hd18 _ _ q_t).trans c17_t_0
              have c18_t_1 : w18.cell? ⟨w.heap.size + 1 + 1 + 1 + 1, 1, none⟩ = some (.int .i64 d4) := (hd18 _ _ q_t).trans c17_t_1
              have c18_shown_0 : w18.cell? ⟨w1.heap.size, 0, none⟩ = some (.int .i64 un) := (hd18 _ _ q_shown).trans c17_shown_0
              have c18_shown_1 : w18.cell? ⟨w1.heap.size, 1, none⟩ = some (.int .i64 ud) := (hd18 _ _ q_shown).trans c17_shown_1
              have c18_right_0 : w18.cell? ⟨w2.heap.size, 0, none⟩ = some (.int .i64 un) := (hd18 _ _ q_right).trans c17_right_0
              have c18_right_1 : w18.cell? ⟨w2.heap.size, 1, none⟩ = some (.int .i64 ud) := (hd18 _ _ q_right).trans c17_right_1
              have c18_ahead_0 : w18.cell? ⟨w3.heap.size, 0, none⟩ = some (.int .i64 gn) := (hd18 _ _ q_ahead).trans c17_ahead_0
              have c18_ahead_1 : w18.cell? ⟨w3.heap.size, 1, none⟩ = some (.int .i64 gd) := (hd18 _ _ q_ahead).trans c17_ahead_1
              have c18_want_0 : w18.cell? ⟨w4.heap.size, 0, none⟩ = some (.int .i64 gn) := (hd18 _ _ q_want).trans c17_want_0
              have c18_want_1 : w18.cell? ⟨w4.heap.size, 1, none⟩ = some (.int .i64 gd) := (hd18 _ _ q_want).trans c17_want_1
              have c18_set_0 : w18.cell? ⟨w5.heap.size, 0, none⟩ = some (.int .i64 zn) := (hd18 _ _ q_set).trans c17_set_0
              have c18_set_1 : w18.cell? ⟨w5.heap.size, 1, none⟩ = some (.int .i64 zd) := (hd18 _ _ q_set).trans c17_set_1
              have c18_set_2 : w18.cell? ⟨w5.heap.size, 2, none⟩ = some (.int .i64 zp) := (hd18 _ _ q_set).trans c17_set_2
              have c18_set_3 : w18.cell? ⟨w5.heap.size, 3, none⟩ = some (.int .i64 zq) := (hd18 _ _ q_set).trans c17_set_3
              have c18_model_0 : w18.cell? ⟨w6.heap.size, 0, none⟩ = some (.int .i64 zn) := (hd18 _ _ q_model).trans c17_model_0
              have c18_model_1 : w18.cell? ⟨w6.heap.size, 1, none⟩ = some (.int .i64 zd) := (hd18 _ _ q_model).trans c17_model_1
              have c18_model_2 : w18.cell? ⟨w6.heap.size, 2, none⟩ = some (.int .i64 zp) := (hd18 _ _ q_model).trans c17_model_2
              have c18_model_3 : w18.cell? ⟨w6.heap.size, 3, none⟩ = some (.int .i64 zq) := (hd18 _ _ q_model).trans c17_model_3
              have c18_first_0 : w18.cell? ⟨w11.heap.size, 0, none⟩ = some (.int .i64 fn) := (hd18 _ _ q_first).trans c17_first_0
              have c18_first_1 : w18.cell? ⟨w11.heap.size, 1, none⟩ = some (.int .i64 fd) := (hd18 _ _ q_first).trans c17_first_1
              have c18_value_0 : w18.cell? ⟨w12.heap.size, 0, none⟩ = some (.int .i64 fn) := (hd18 _ _ q_value).trans c17_value_0
              have c18_value_1 : w18.cell? ⟨w12.heap.size, 1, none⟩ = some (.int .i64 fd) := (hd18 _ _ q_value).trans c17_value_1
              have c18_every_0 : w18.cell? ⟨w13.heap.size, 0, none⟩ = some (.int .i64 rn) := (hd18 _ _ q_every).trans c17_every_0
              have c18_every_1 : w18.cell? ⟨w13.heap.size, 1, none⟩ = some (.int .i64 rd) := (hd18 _ _ q_every).trans c17_every_1
              have c18_due_0 : w18.cell? ⟨w14.heap.size, 0, none⟩ = some (.int .i64 rn) := (hd18 _ _ q_due).trans c17_due_0
              have c18_due_1 : w18.cell? ⟨w14.heap.size, 1, none⟩ = some (.int .i64 rd) := (hd18 _ _ q_due).trans c17_due_1
              replace q_c : w.heap.size < w18.heap.size := by omega
              replace q_s : w.heap.size + 1 < w18.heap.size := by omega
              replace q_d : w.heap.size + 1 + 1 < w18.heap.size := by omega
              replace q_e : w.heap.size + 1 + 1 + 1 < w18.heap.size := by omega
              replace q_t : w.heap.size + 1 + 1 + 1 + 1 < w18.heap.size := by omega
              replace q_shown : w1.heap.size < w18.heap.size := by omega
              replace q_right : w2.heap.size < w18.heap.size := by omega
              replace q_ahead : w3.heap.size < w18.heap.size := by omega
              replace q_want : w4.heap.size < w18.heap.size := by omega
              replace q_set : w5.heap.size < w18.heap.size := by omega
              replace q_model : w6.heap.size < w18.heap.size := by omega
              replace q_first : w11.heap.size < w18.heap.size := by omega
              replace q_value : w12.heap.size < w18.heap.size := by omega
              replace q_every : w13.heap.size < w18.heap.size := by omega
              replace q_due : w14.heap.size < w18.heap.size := by omega
              have BW18 : Below w.heap.size w w18 := BW17.trans (B18.mono BW17.size)
              clear hc18 hf18 hb18 hd18 B18 c17_c_0 c17_c_1 c17_c_2 c17_c_3 c17_s_0 c17_s_1 c17_d_0 c17_d_1 c17_d_2 c17_d_3 c17_e_0 c17_e_1 c17_e_2 c17_e_3 c17_t_0 c17_t_1 c17_shown_0 c17_shown_1 c17_right_0 c17_right_1 c17_ahead_0 c17_ahead_1 c17_want_0 c17_want_1 c17_set_0 c17_set_1 c17_set_2 c17_set_3 c17_model_0 c17_model_1 c17_model_2 c17_model_3 c17_first_0 c17_first_1 c17_value_0 c17_value_1 c17_every_0 c17_every_1 c17_due_0 c17_due_1 BW17
              go_upto_if 252 with fail
              go_cut [] from 999 to 999 (fun wx => Below w18.heap.size w18 wx)
              case first =>
                as_aux_lemma =>
                  cases b2
                  · go_wp2_with fail
                    go_meet
                    case rel => exact Below.refl _ _
                  · have e := Hb2.out.symm
                    rw [Bool.and_eq_true] at e
                    obtain ⟨rfl, rfl⟩ := e
                    obtain ⟨h1, h2⟩ := G4.out rfl rfl
                    obtain ⟨f1, f2, f3, f4, -⟩ := spanB_bd (G8.out rfl)
                    obtain ⟨r1, r2, r3, r4, -⟩ := spanB_bd (G9.out rfl)
                    have m1 := mulb f3 f4 (show 0 ≤ rd by omega) r2
                    have m2 := mulb r3 r4 (show 0 ≤ fd by omega) f2
                    have hw1 : IntKind.i64.wrap (fn * rd) = fn * rd := by rw [IntKind.wrap_i64]; omega
                    have hw2 : IntKind.i64.wrap (rn * fd) = rn * fd := by rw [IntKind.wrap_i64]; omega
                    have hgt : ¬ rn * fd < fn * rd := by omega
                    clear m1 m2 h1
                    go_wp2_with fail
                    refine (C13.out _).mono ?_
                    rintro e19 w19 ⟨rfl, hb19⟩
                    obtain ⟨hc19, hf19⟩ := bcell hb19
                    have hz19 := hb19.size
                    (try simp only [World.size_alloc, World.size_setCell, World.size_drew] at hz19)
                    have B19 : Below w18.heap.size w18 w19 := Below.trans (b := _) (by (repeat' (first | (with_reducible exact Below.refl _ _) | (with_reducible assumption) | (with_reducible refine Below.alloc ?_ ?_ _) | (with_reducible refine Below.drew ?_) | (with_reducible refine below_drewN ?_ _) | (with_reducible refine Below.setCell ?_ ?_ _) | (with_reducible refine below_call ?_ ?_ (by assumption)) | go_size))) (hb19.mono (by first | omega | (simp only [World.size_alloc, World.size_setCell, World.size_drew]; omega)))
                    obtain ⟨hd19, -⟩ := bcell B19
                    have c19_c_0 : w19.cell? ⟨w.heap.size, 0, none⟩ = some (.int .i64 n0) := (hd19 _ _ q_c).trans c18_c_0
                    have c19_c_1 : w19.cell? ⟨w.heap.size, 1, none⟩ = some (.int .i64 d0) := (hd19 _ _ q_c).trans c18_c_1
                    have c19_c_2 : w19.cell? ⟨w.heap.size, 2, none⟩ = some (.int .i64 x0) := (hd19 _ _ q_c).trans c18_c_2
                    have c19_c_3 : w19.cell? ⟨w.heap.size, 3, none⟩ = some (.int .i64 y0) := (hd19 _ _ q_c).trans c18_c_3
                    have c19_s_0 : w19.cell? ⟨w.heap.size + 1, 0, none⟩ = some (.int .i64 n1) := (hd19 _ _ q_s).trans c18_s_0
                    have c19_s_1 : w19.cell? ⟨w.heap.size + 1, 1, none⟩ = some (.int .i64 d1) := (hd19 _ _ q_s).trans c18_s_1
                    have c19_d_0 : w19.cell? ⟨w.heap.size + 1 + 1, 0, none⟩ = some (.int .i64 n2) := (hd19 _ _ q_d).trans c18_d_0
                    have c19_d_1 : w19.cell? ⟨w.heap.size + 1 + 1, 1, none⟩ = some (.int .i64 d2) := (hd19 _ _ q_d).trans c18_d_1
                    have c19_d_2 : w19.cell? ⟨w.heap.size + 1 + 1, 2, none⟩ = some (.int .i64 x2) := (hd19 _ _ q_d).trans c18_d_2
                    have c19_d_3 : w19.cell? ⟨w.heap.size + 1 + 1, 3, none⟩ = some (.int .i64 y2) := (hd19 _ _ q_d).trans c18_d_3
                    have c19_e_0 : w19.cell? ⟨w.heap.size + 1 + 1 + 1, 0, none⟩ = some (.int .i64 n3) := (hd19 _ _ q_e).trans c18_e_0
                    have c19_e_1 : w19.cell? ⟨w.heap.size + 1 + 1 + 1, 1, none⟩ = some (.int .i64 d3) := (hd19 _ _ q_e).trans c18_e_1
                    have c19_e_2 : w19.cell? ⟨w.heap.size + 1 + 1 + 1, 2, none⟩ = some (.int .i64 x3) := (hd19 _ _ q_e).trans c18_e_2
                    have c19_e_3 : w19.cell? ⟨w.heap.size + 1 + 1 + 1, 3, none⟩ = some (.int .i64 y3) := (hd19 _ _ q_e).trans c18_e_3
                    have c19_t_0 : w19.cell? ⟨w.heap.size + 1 + 1 + 1 + 1, 0, none⟩ = some (.int .i64 n4) := (hd19 _ _ q_t).trans c18_t_0
                    have c19_t_1 : w19.cell? ⟨w.heap.size + 1 + 1 + 1 + 1, 1, none⟩ = some (.int .i64 d4) := (hd19 _ _ q_t).trans c18_t_1
                    have c19_shown_0 : w19.cell? ⟨w1.heap.size, 0, none⟩ = some (.int .i64 un) := (hd19 _ _ q_shown).trans c18_shown_0
                    have c19_shown_1 : w19.cell? ⟨w1.heap.size, 1, none⟩ = some (.int .i64 ud) := (hd19 _ _ q_shown).trans c18_shown_1
                    have c19_right_0 : w19.cell? ⟨w2.heap.size, 0, none⟩ = some (.int .i64 un) := (hd19 _ _ q_right).trans c18_right_0
                    have c19_right_1 : w19.cell? ⟨w2.heap.size, 1, none⟩ = some (.int .i64 ud) := (hd19 _ _ q_right).trans c18_right_1
                    have c19_ahead_0 : w19.cell? ⟨w3.heap.size, 0, none⟩ = some (.int .i64 gn) := (hd19 _ _ q_ahead).trans c18_ahead_0
                    have c19_ahead_1 : w19.cell? ⟨w3.heap.size, 1, none⟩ = some (.int .i64 gd) := (hd19 _ _ q_ahead).trans c18_ahead_1
                    have c19_want_0 : w19.cell? ⟨w4.heap.size, 0, none⟩ = some (.int .i64 gn) := (hd19 _ _ q_want).trans c18_want_0
                    have c19_want_1 : w19.cell? ⟨w4.heap.size, 1, none⟩ = some (.int .i64 gd) := (hd19 _ _ q_want).trans c18_want_1
                    have c19_set_0 : w19.cell? ⟨w5.heap.size, 0, none⟩ = some (.int .i64 zn) := (hd19 _ _ q_set).trans c18_set_0
                    have c19_set_1 : w19.cell? ⟨w5.heap.size, 1, none⟩ = some (.int .i64 zd) := (hd19 _ _ q_set).trans c18_set_1
                    have c19_set_2 : w19.cell? ⟨w5.heap.size, 2, none⟩ = some (.int .i64 zp) := (hd19 _ _ q_set).trans c18_set_2
                    have c19_set_3 : w19.cell? ⟨w5.heap.size, 3, none⟩ = some (.int .i64 zq) := (hd19 _ _ q_set).trans c18_set_3
                    have c19_model_0 : w19.cell? ⟨w6.heap.size, 0, none⟩ = some (.int .i64 zn) := (hd19 _ _ q_model).trans c18_model_0
                    have c19_model_1 : w19.cell? ⟨w6.heap.size, 1, none⟩ = some (.int .i64 zd) := (hd19 _ _ q_model).trans c18_model_1
                    have c19_model_2 : w19.cell? ⟨w6.heap.size, 2, none⟩ = some (.int .i64 zp) := (hd19 _ _ q_model).trans c18_model_2
                    have c19_model_3 : w19.cell? ⟨w6.heap.size, 3, none⟩ = some (.int .i64 zq) := (hd19 _ _ q_model).trans c18_model_3
                    have c19_first_0 : w19.cell? ⟨w11.heap.size, 0, none⟩ = some (.int .i64 fn) := (hd19 _ _ q_first).trans c18_first_0
                    have c19_first_1 : w19.cell? ⟨w11.heap.size, 1, none⟩ = some (.int .i64 fd) := (hd19 _ _ q_first).trans c18_first_1
                    have c19_value_0 : w19.cell? ⟨w12.heap.size, 0, none⟩ = some (.int .i64 fn) := (hd19 _ _ q_value).trans c18_value_0
                    have c19_value_1 : w19.cell? ⟨w12.heap.size, 1, none⟩ = some (.int .i64 fd) := (hd19 _ _ q_value).trans c18_value_1
                    have c19_every_0 : w19.cell? ⟨w13.heap.size, 0, none⟩ = some (.int .i64 rn) := (hd19 _ _ q_every).trans c18_every_0
                    have c19_every_1 : w19.cell? ⟨w13.heap.size, 1, none⟩ = some (.int .i64 rd) := (hd19 _ _ q_every).trans c18_every_1
                    have c19_due_0 : w19.cell? ⟨w14.heap.size, 0, none⟩ = some (.int .i64 rn) := (hd19 _ _ q_due).trans c18_due_0
                    have c19_due_1 : w19.cell? ⟨w14.heap.size, 1, none⟩ = some (.int .i64 rd) := (hd19 _ _ q_due).trans c18_due_1
                    replace q_c : w.heap.size < w19.heap.size := by omega
                    replace q_s : w.heap.size + 1 < w19.heap.size := by omega
                    replace q_d : w.heap.size + 1 + 1 < w19.heap.size := by omega
                    replace q_e : w.heap.size + 1 + 1 + 1 < w19.heap.size := by omega
                    replace q_t : w.heap.size + 1 + 1 + 1 + 1 < w19.heap.size := by omega
                    replace q_shown : w1.heap.size < w19.heap.size := by omega
                    replace q_right : w2.heap.size < w19.heap.size := by omega
                    replace q_ahead : w3.heap.size < w19.heap.size := by omega
                    replace q_want : w4.heap.size < w19.heap.size := by omega
                    replace q_set : w5.heap.size < w19.heap.size := by omega
                    replace q_model : w6.heap.size < w19.heap.size := by omega
                    replace q_first : w11.heap.size < w19.heap.size := by omega
                    replace q_value : w12.heap.size < w19.heap.size := by omega
                    replace q_every : w13.heap.size < w19.heap.size := by omega
                    replace q_due : w14.heap.size < w19.heap.size := by omega
                    have BW19 : Below w.heap.size w w19 := BW18.trans (B19.mono BW18.size)
                    have BX19 : Below w18.heap.size w18 w19 := B19
                    clear hc19 hf19 hb19 hd19 B19 c18_c_0 c18_c_1 c18_c_2 c18_c_3 c18_s_0 c18_s_1 c18_d_0 c18_d_1 c18_d_2 c18_d_3 c18_e_0 c18_e_1 c18_e_2 c18_e_3 c18_t_0 c18_t_1 c18_shown_0 c18_shown_1 c18_right_0 c18_right_1 c18_ahead_0 c18_ahead_1 c18_want_0 c18_want_1 c18_set_0 c18_set_1 c18_set_2 c18_set_3 c18_model_0 c18_model_1 c18_model_2 c18_model_3 c18_first_0 c18_first_1 c18_value_0 c18_value_1 c18_every_0 c18_every_1 c18_due_0 c18_due_1 BW18
                    go_upto_if 270 with fail
                    have hb20 : Below w19.heap.size w19 (w19.alloc (Obj.cells #[.int .i64 en, .int .i64 ed] 28)) := by (repeat' (first | (with_reducible exact Below.refl _ _) | (with_reducible assumption) | (with_reducible refine Below.alloc ?_ ?_ _) | (with_reducible refine Below.drew ?_) | (with_reducible refine below_drewN ?_ _) | (with_reducible refine Below.setCell ?_ ?_ _) | (with_reducible refine below_call ?_ ?_ (by assumption)) | go_size))
                    have c20_next_0 : (w19.alloc (Obj.cells #[.int .i64 en, .int .i64 ed] 28)).cell? ⟨w19.heap.size, 0, none⟩ = some (.int .i64 en) := by go_simp
                    have c20_next_1 : (w19.alloc (Obj.cells #[.int .i64 en, .int .i64 ed] 28)).cell? ⟨w19.heap.size, 1, none⟩ = some (.int .i64 ed) := by go_simp
                    have q_next : w19.heap.size < (w19.alloc (Obj.cells #[.int .i64 en, .int .i64 ed] 28)).heap.size := by go_size
                    generalize (w19.alloc (Obj.cells #[.int .i64 en, .int .i64 ed] 28)) = w20 at *
                    obtain ⟨hd20, -⟩ := bcell hb20
                    have hz20 := hb20.size
                    have c20_c_0 : w20.cell? ⟨w.heap.size, 0, none⟩ = some (.int .i64 n0) := (hd20 _ _ q_c).trans c19_c_0
                    have c20_c_1 : w20.cell? ⟨w.heap.size, 1, none⟩ = some (.int .i64 d0) := (hd20 _ _ q_c).trans c19_c_1
                    have c20_c_2 : w20.cell? ⟨w.heap.size, 2, none⟩ = some (.int .i64 x0) := (hd20 _ _ q_c).trans c19_c_2
                    have c20_c_3 : w20.cell? ⟨w.heap.size, 3, none⟩ = some (.int .i64 y0) := (hd20 _ _ q_c).trans c19_c_3
                    have c20_s_0 : w20.cell? ⟨w.heap.size + 1, 0, none⟩ = some (.int .i64 n1) := (hd20 _ _ q_s).trans c19_s_0
                    have c20_s_1 : w20.cell? ⟨w.heap.size + 1, 1, none⟩ = some (.int .i64 d1) := (hd20 _ _ q_s).trans c19_s_1
                    have c20_d_0 : w20.cell? ⟨w.heap.size + 1 + 1, 0, none⟩ = some (.int .i64 n2) := (hd20 _ _ q_d).trans c19_d_0
                    have c20_d_1 : w20.cell? ⟨w.heap.size + 1 + 1, 1, none⟩ = some (.int .i64 d2) := (hd20 _ _ q_d).trans c19_d_1
                    have c20_d_2 : w20.cell? ⟨w.heap.size + 1 + 1, 2, none⟩ = some (.int .i64 x2) := (hd20 _ _ q_d).trans c19_d_2
                    have c20_d_3 : w20.cell? ⟨w.heap.size + 1 + 1, 3, none⟩ = some (.int .i64 y2) := (hd20 _ _ q_d).trans c19_d_3
                    have c20_e_0 : w20.cell? ⟨w.heap.size + 1 + 1 + 1, 0, none⟩ = some (.int .i64 n3) := (hd20 _ _ q_e).trans c19_e_0
                    have c20_e_1 : w20.cell? ⟨w.heap.size + 1 + 1 + 1, 1, none⟩ = some (.int .i64 d3) := (hd20 _ _ q_e).trans c19_e_1
                    have c20_e_2 : w20.cell? ⟨w.heap.size + 1 + 1 + 1, 2, none⟩ = some (.int .i64 x3) := (hd20 _ _ q_e).trans c19_e_2
                    have c20_e_3 : w20.cell? ⟨w.heap.size + 1 + 1 + 1, 3, none⟩ = some (.int .i64 y3) := (hd20 _ _ q_e).trans c19_e_3
                    have c20_t_0 : w20.cell? ⟨w.heap.size + 1 + 1 + 1 + 1, 0, none⟩ = some (.int .i64 n4) := (hd20 _ _ q_t).trans c19_t_0
                    have c20_t_1 : w20.cell? ⟨w.heap.size + 1 + 1 + 1 + 1, 1, none⟩ = some (.int .i64 d4) := (hd20 _ _ q_t).trans c19_t_1
                    have c20_shown_0 : w20.cell? ⟨w1.heap.size, 0, none⟩ = some (.int .i64 un) := (hd20 _ _ q_shown).trans c19_shown_0
                    have c20_shown_1 : w20.cell? ⟨w1.heap.size, 1, none⟩ = some (.int .i64 ud) := (hd20 _ _ q_shown).trans c19_shown_1
                    have c20_right_0 : w20.cell? ⟨w2.heap.size, 0, none⟩ = some (.int .i64 un) := (hd20 _ _ q_right).trans c19_right_0
                    have c20_right_1 : w20.cell? ⟨w2.heap.size, 1, none⟩ = some (.int .i64 ud) := (hd20 _ _ q_right).trans c19_right_1
                    have c20_ahead_0 : w20.cell? ⟨w3.heap.size, 0, none⟩ = some (.int .i64 gn) := (hd20 _ _ q_ahead).trans c19_ahead_0
                    have c20_ahead_1 : w20.cell? ⟨w3.heap.size, 1, none⟩ = some (.int .i64 gd) := (hd20 _ _ q_ahead).trans c19_ahead_1
                    have c20_want_0 : w20.cell? ⟨w4.heap.size, 0, none⟩ = some (.int .i64 gn) := (hd20 _ _ q_want).trans c19_want_0
                    have c20_want_1 : w20.cell? ⟨w4.heap.size, 1, none⟩ = some (.int .i64 gd) := (hd20 _ _ q_want).trans c19_want_1
                    have c20_set_0 : w20.cell? ⟨w5.heap.size, 0, none⟩ = some (.int .i64 zn) := (hd20 _ _ q_set).trans c19_set_0
                    have c20_set_1 : w20.cell? ⟨w5.heap.size, 1, none⟩ = some (.int .i64 zd) := (hd20 _ _ q_set).trans c19_set_1
                    have c20_set_2 : w20.cell? ⟨w5.heap.size, 2, none⟩ = some (.int .i64 zp) := (hd20 _ _ q_set).trans c19_set_2
                    have c20_set_3 : w20.cell? ⟨w5.heap.size, 3, none⟩ = some (.int .i64 zq) := (hd20 _ _ q_set).trans c19_set_3
                    have c20_model_0 : w20.cell? ⟨w6.heap.size, 0, none⟩ = some (.int .i64 zn) := (hd20 _ _ q_model).trans c19_model_0
                    have c20_model_1 : w20.cell? ⟨w6.heap.size, 1, none⟩ = some (.int .i64 zd) := (hd20 _ _ q_model).trans c19_model_1
                    have c20_model_2 : w20.cell? ⟨w6.heap.size, 2, none⟩ = some (.int .i64 zp) := (hd20 _ _ q_model).trans c19_model_2
                    have c20_model_3 : w20.cell? ⟨w6.heap.size, 3, none⟩ = some (.int .i64 zq) := (hd20 _ _ q_model).trans c19_model_3
                    have c20_first_0 : w20.cell? ⟨w11.heap.size, 0, none⟩ = some (.int .i64 fn) := (hd20 _ _ q_first).trans c19_first_0
                    have c20_first_1 : w20.cell? ⟨w11.heap.size, 1, none⟩ = some (.int .i64 fd) := (hd20 _ _ q_first).trans c19_first_1
                    have c20_value_0 : w20.cell? ⟨w12.heap.size, 0, none⟩ = some (.int .i64 fn) := (hd20 _ _ q_value).trans c19_value_0
                    have c20_value_1 : w20.cell? ⟨w12.heap.size, 1, none⟩ = some (.int .i64 fd) := (hd20 _ _ q_value).trans c19_value_1
                    have c20_every_0 : w20.cell? ⟨w13.heap.size, 0, none⟩ = some (.int .i64 rn) := (hd20 _ _ q_every).trans c19_every_0
                    have c20_every_1 : w20.cell? ⟨w13.heap.size, 1, none⟩ = some (.int .i64 rd) := (hd20 _ _ q_every).trans c19_every_1
                    have c20_due_0 : w20.cell? ⟨w14.heap.size, 0, none⟩ = some (.int .i64 rn) := (hd20 _ _ q_due).trans c19_due_0
                    have c20_due_1 : w20.cell? ⟨w14.heap.size, 1, none⟩ = some (.int .i64 rd) := (hd20 _ _ q_due).trans c19_due_1
                    replace q_c : w.heap.size < w20.heap.size := by omega
                    replace q_s : w.heap.size + 1 < w20.heap.size := by omega
                    replace q_d : w.heap.size + 1 + 1 < w20.heap.size := by omega
                    replace q_e : w.heap.size + 1 + 1 + 1 < w20.heap.size := by omega
                    replace q_t : w.heap.size + 1 + 1 + 1 + 1 < w20.heap.size := by omega
                    replace q_shown : w1.heap.size < w20.heap.size := by omega
                    replace q_right : w2.heap.size < w20.heap.size := by omega
                    replace q_ahead : w3.heap.size < w20.heap.size := by omega
                    replace q_want : w4.heap.size < w20.heap.size := by omega
                    replace q_set : w5.heap.size < w20.heap.size := by omega
                    replace q_model : w6.heap.size < w20.heap.size := by omega
                    replace q_first : w11.heap.size < w20.heap.size := by omega
                    replace q_value : w12.heap.size < w20.heap.size := by omega
                    replace q_every : w13.heap.size < w20.heap.size := by omega
                    replace q_due : w14.heap.size < w20.heap.size := by omega
                    have BW20 : Below w.heap.size w w20 := BW19.trans (hb20.mono BW19.size)
                    have BX20 : Below w18.heap.size w18 w20 := BX19.trans (hb20.mono BX19.size)
                    clear BX19
                    clear hb20 hd20 c19_c_0 c19_c_1 c19_c_2 c19_c_3 c19_s_0 c19_s_1 c19_d_0 c19_d_1 c19_d_2 c19_d_3 c19_e_0 c19_e_1 c19_e_2 c19_e_3 c19_t_0 c19_t_1 c19_shown_0 c19_shown_1 c19_right_0 c19_right_1 c19_ahead_0 c19_ahead_1 c19_want_0 c19_want_1 c19_set_0 c19_set_1 c19_set_2 c19_set_3 c19_model_0 c19_model_1 c19_model_2 c19_model_3 c19_first_0 c19_first_1 c19_value_0 c19_value_1 c19_every_0 c19_every_1 c19_due_0 c19_due_1 BW19
                    have hrelB := BX20
                    cases eo
                    · go_wp2_with fail
                      go_meet
                      case rel => exact hrelB
                    obtain ⟨-, h4⟩ := h2 _ _ HE.out
                    have Z1 := Lib.hid (fun W => (show Calls Try.prog 9 #[cv n2 d2 x2 y2, tv en ed] W fun e w' => e = .returned (rv (0, 1, true)) ∧ Below W.heap.size W w' from by have := implAheadAfter_any n2 d2 x2 y2 en ed W; rw [h4] at this; exact this))
                    clear h4
                    go_wp2_with fail
                    refine (Z1.out _).mono ?_
                    rintro e21 w21 ⟨rfl, hb21⟩
                    obtain ⟨hc21, hf21⟩ := bcell hb21
                    have hz21 := hb21.size
                    (try simp only [World.size_alloc, World.size_setCell, World.size_drew] at hz21)
                    have B21 : Below w20.heap.size w20 w21 := Below.trans (b := _) (by (repeat' (first | (with_reducible exact Below.refl _ _) | (with_reducible assumption) | (with_reducible refine Below.alloc ?_ ?_ _) | (with_reducible refine Below.drew ?_) | (with_reducible refine below_drewN ?_ _) | (with_reducible refine Below.setCell ?_ ?_ _) | (with_reducible refine below_call ?_ ?_ (by assumption)) | go_size))) (hb21.mono (by first | omega | (simp only [World.size_alloc, World.size_setCell, World.size_drew]; omega)))
                    obtain ⟨hd21, -⟩ := bcell B21
                    have c21_c_0 : w21.cell? ⟨w.heap.size, 0, none⟩ = some (.int .i64 n0) := (hd21 _ _ q_c).trans c20_c_0
                    have c21_c_1 : w21.cell? ⟨w.heap.size, 1, none⟩ = some (.int .i64 d0) := (hd21 _ _ q_c).trans c20_c_1
                    have c21_c_2 : w21.cell? ⟨w.heap.size, 2, none⟩ = some (.int .i64 x0) := (hd21 _ _ q_c).trans c20_c_2
                    have c21_c_3 : w21.cell? ⟨w.heap.size, 3, none⟩ = some (.int .i64 y0) := (hd21 _ _ q_c).trans c20_c_3
                    have c21_s_0 : w21.cell? ⟨w.heap.size + 1, 0, none⟩ = some (.int .i64 n1) := (hd21 _ _ q_s).trans c20_s_0
                    have c21_s_1 : w21.cell? ⟨w.heap.size + 1, 1, none⟩ = some (.int .i64 d1) := (hd21 _ _ q_s).trans c20_s_1
                    have c21_d_0 : w21.cell? ⟨w.heap.size + 1 + 1, 0, none⟩ = some (.int .i64 n2) := (hd21 _ _ q_d).trans c20_d_0
                    have c21_d_1 : w21.cell? ⟨w.heap.size + 1 + 1, 1, none⟩ = some (.int .i64 d2) := (hd21 _ _ q_d).trans c20_d_1
                    have c21_d_2 : w21.cell? ⟨w.heap.size + 1 + 1, 2, none⟩ = some (.int .i64 x2) := (hd21 _ _ q_d).trans c20_d_2
                    have c21_d_3 : w21.cell? ⟨w.heap.size + 1 + 1, 3, none⟩ = some (.int .i64 y2) := (hd21 _ _ q_d).trans c20_d_3
                    have c21_e_0 : w21.cell? ⟨w.heap.size + 1 + 1 + 1, 0, none⟩ = some (.int .i64 n3) := (hd21 _ _ q_e).trans c20_e_0
                    have c21_e_1 : w21.cell? ⟨w.heap.size + 1 + 1 + 1, 1, none⟩ = some (.int .i64 d3) := (hd21 _ _ q_e).trans c20_e_1
                    have c21_e_2 : w21.cell? ⟨w.heap.size + 1 + 1 + 1, 2, none⟩ = some (.int .i64 x3) := (hd21 _ _ q_e).trans c20_e_2
                    have c21_e_3 : w21.cell? ⟨w.heap.size + 1 + 1 + 1, 3, none⟩ = some (.int .i64 y3) := (hd21 _ _ q_e).trans c20_e_3
                    have c21_t_0 : w21.cell? ⟨w.heap.size + 1 + 1 + 1 + 1, 0, none⟩ = some (.int .i64 n4) := (hd21 _ _ q_t).trans c20_t_0
                    have c21_t_1 : w21.cell? ⟨w.heap.size + 1 + 1 + 1 + 1, 1, none⟩ = some (.int .i64 d4) := (hd21 _ _ q_t).trans c20_t_1
                    have c21_shown_0 : w21.cell? ⟨w1.heap.size, 0, none⟩ = some (.int .i64 un) := (hd21 _ _ q_shown).trans c20_shown_0
                    have c21_shown_1 : w21.cell? ⟨w1.heap.size, 1, none⟩ = some (.int .i64 ud) := (hd21 _ _ q_shown).trans c20_shown_1
                    have c21_right_0 : w21.cell? ⟨w2.heap.size, 0, none⟩ = some (.int .i64 un) := (hd21 _ _ q_right).trans c20_right_0
                    have c21_right_1 : w21.cell? ⟨w2.heap.size, 1, none⟩ = some (.int .i64 ud) := (hd21 _ _ q_right).trans c20_right_1
                    have c21_ahead_0 : w21.cell? ⟨w3.heap.size, 0, none⟩ = some (.int .i64 gn) := (hd21 _ _ q_ahead).trans c20_ahead_0
                    have c21_ahead_1 : w21.cell? ⟨w3.heap.size, 1, none⟩ = some (.int .i64 gd) := (hd21 _ _ q_ahead).trans c20_ahead_1
                    have c21_want_0 : w21.cell? ⟨w4.heap.size, 0, none⟩ = some (.int .i64 gn) := (hd21 _ _ q_want).trans c20_want_0
                    have c21_want_1 : w21.cell? ⟨w4.heap.size, 1, none⟩ = some (.int .i64 gd) := (hd21 _ _ q_want).trans c20_want_1
                    have c21_set_0 : w21.cell? ⟨w5.heap.size, 0, none⟩ = some (.int .i64 zn) := (hd21 _ _ q_set).trans c20_set_0
                    have c21_set_1 : w21.cell? ⟨w5.heap.size, 1, none⟩ = some (.int .i64 zd) := (hd21 _ _ q_set).trans c20_set_1
                    have c21_set_2 : w21.cell? ⟨w5.heap.size, 2, none⟩ = some (.int .i64 zp) := (hd21 _ _ q_set).trans c20_set_2
                    have c21_set_3 : w21.cell? ⟨w5.heap.size, 3, none⟩ = some (.int .i64 zq) := (hd21 _ _ q_set).trans c20_set_3
                    have c21_model_0 : w21.cell? ⟨w6.heap.size, 0, none⟩ = some (.int .i64 zn) := (hd21 _ _ q_model).trans c20_model_0
                    have c21_model_1 : w21.cell? ⟨w6.heap.size, 1, none⟩ = some (.int .i64 zd) := (hd21 _ _ q_model).trans c20_model_1
                    have c21_model_2 : w21.cell? ⟨w6.heap.size, 2, none⟩ = some (.int .i64 zp) := (hd21 _ _ q_model).trans c20_model_2
                    have c21_model_3 : w21.cell? ⟨w6.heap.size, 3, none⟩ = some (.int .i64 zq) := (hd21 _ _ q_model).trans c20_model_3
                    have c21_first_0 : w21.cell? ⟨w11.heap.size, 0, none⟩ = some (.int .i64 fn) := (hd21 _ _ q_first).trans c20_first_0
                    have c21_first_1 : w21.cell? ⟨w11.heap.size, 1, none⟩ = some (.int .i64 fd) := (hd21 _ _ q_first).trans c20_first_1
                    have c21_value_0 : w21.cell? ⟨w12.heap.size, 0, none⟩ = some (.int .i64 fn) := (hd21 _ _ q_value).trans c20_value_0
                    have c21_value_1 : w21.cell? ⟨w12.heap.size, 1, none⟩ = some (.int .i64 fd) := (hd21 _ _ q_value).trans c20_value_1
                    have c21_every_0 : w21.cell? ⟨w13.heap.size, 0, none⟩ = some (.int .i64 rn) := (hd21 _ _ q_every).trans c20_every_0
                    have c21_every_1 : w21.cell? ⟨w13.heap.size, 1, none⟩ = some (.int .i64 rd) := (hd21 _ _ q_every).trans c20_every_1
                    have c21_due_0 : w21.cell? ⟨w14.heap.size, 0, none⟩ = some (.int .i64 rn) := (hd21 _ _ q_due).trans c20_due_0
                    have c21_due_1 : w21.cell? ⟨w14.heap.size, 1, none⟩ = some (.int .i64 rd) := (hd21 _ _ q_due).trans c20_due_1
                    have c21_next_0 : w21.cell? ⟨w19.heap.size, 0, none⟩ = some (.int .i64 en) := (hd21 _ _ q_next).trans c20_next_0
                    have c21_next_1 : w21.cell? ⟨w19.heap.size, 1, none⟩ = some (.int .i64 ed) := (hd21 _ _ q_next).trans c20_next_1
                    replace q_c : w.heap.size < w21.heap.size := by omega
                    replace q_s : w.heap.size + 1 < w21.heap.size := by omega
                    replace q_d : w.heap.size + 1 + 1 < w21.heap.size := by omega
                    replace q_e : w.heap.size + 1 + 1 + 1 < w21.heap.size := by omega
                    replace q_t : w.heap.size + 1 + 1 + 1 + 1 < w21.heap.size := by omega
                    replace q_shown : w1.heap.size < w21.heap.size := by omega
                    replace q_right : w2.heap.size < w21.heap.size := by omega
                    replace q_ahead : w3.heap.size < w21.heap.size := by omega
                    replace q_want : w4.heap.size < w21.heap.size := by omega
                    replace q_set : w5.heap.size < w21.heap.size := by omega
                    replace q_model : w6.heap.size < w21.heap.size := by omega
                    replace q_first : w11.heap.size < w21.heap.size := by omega
                    replace q_value : w12.heap.size < w21.heap.size := by omega
                    replace q_every : w13.heap.size < w21.heap.size := by omega
                    replace q_due : w14.heap.size < w21.heap.size := by omega
                    replace q_next : w19.heap.size < w21.heap.size := by omega
                    have BW21 : Below w.heap.size w w21 := BW20.trans (B21.mono BW20.size)
                    have BX21 : Below w18.heap.size w18 w21 := BX20.trans (B21.mono BX20.size)
                    clear BX20
                    clear hc21 hf21 hb21 hd21 B21 c20_c_0 c20_c_1 c20_c_2 c20_c_3 c20_s_0 c20_s_1 c20_d_0 c20_d_1 c20_d_2 c20_d_3 c20_e_0 c20_e_1 c20_e_2 c20_e_3 c20_t_0 c20_t_1 c20_shown_0 c20_shown_1 c20_right_0 c20_right_1 c20_ahead_0 c20_ahead_1 c20_want_0 c20_want_1 c20_set_0 c20_set_1 c20_set_2 c20_set_3 c20_model_0 c20_model_1 c20_model_2 c20_model_3 c20_first_0 c20_first_1 c20_value_0 c20_value_1 c20_every_0 c20_every_1 c20_due_0 c20_due_1 c20_next_0 c20_next_1 BW20
                    go_upto_region 34 with fail
                    have hb22 : Below w21.heap.size w21 (w21.alloc (Obj.cells #[.int .i64 0, .int .i64 1] 25)) := by (repeat' (first | (with_reducible exact Below.refl _ _) | (with_reducible assumption) | (with_reducible refine Below.alloc ?_ ?_ _) | (with_reducible refine Below.drew ?_) | (with_reducible refine below_drewN ?_ _) | (with_reducible refine Below.setCell ?_ ?_ _) | (with_reducible refine below_call ?_ ?_ (by assumption)) | go_size))
                    have c22_again_0 : (w21.alloc (Obj.cells #[.int .i64 0, .int .i64 1] 25)).cell? ⟨w21.heap.size, 0, none⟩ = some (.int .i64 0) := by go_simp
                    have c22_again_1 : (w21.alloc (Obj.cells #[.int .i64 0, .int .i64 1] 25)).cell? ⟨w21.heap.size, 1, none⟩ = some (.int .i64 1) := by go_simp
                    have q_again : w21.heap.size < (w21.alloc (Obj.cells #[.int .i64 0, .int .i64 1] 25)).heap.size := by go_size
                    generalize (w21.alloc (Obj.cells #[.int .i64 0, .int .i64 1] 25)) = w22 at *
                    obtain ⟨hd22, -⟩ := bcell hb22
                    have hz22 := hb22.size
                    have c22_c_0 : w22.cell? ⟨w.heap.size, 0, none⟩ = some (.int .i64 n0) := (hd22 _ _ q_c).trans c21_c_0
                    have c22_c_1 : w22.cell? ⟨w.heap.size, 1, none⟩ = some (.int .i64 d0) := (hd22 _ _ q_c).trans c21_c_1
                    have c22_c_2 : w22.cell? ⟨w.heap.size, 2, none⟩ = some (.int .i64 x0) := (hd22 _ _ q_c).trans c21_c_2
                    have c22_c_3 : w22.cell? ⟨w.heap.size, 3, none⟩ = some (.int .i64 y0) := (hd22 _ _ q_c).trans c21_c_3
                    have c22_s_0 : w22.cell? ⟨w.heap.size + 1, 0, none⟩ = some (.int .i64 n1) := (hd22 _ _ q_s).trans c21_s_0
                    have c22_s_1 : w22.cell? ⟨w.heap.size + 1, 1, none⟩ = some (.int .i64 d1) := (hd22 _ _ q_s).trans c21_s_1
                    have c22_d_0 : w22.cell? ⟨w.heap.size + 1 + 1, 0, none⟩ = some (.int .i64 n2) := (hd22 _ _ q_d).trans c21_d_0
                    have c22_d_1 : w22.cell? ⟨w.heap.size + 1 + 1, 1, none⟩ = some (.int .i64 d2) := (hd22 _ _ q_d).trans c21_d_1
                    have c22_d_2 : w22.cell? ⟨w.heap.size + 1 + 1, 2, none⟩ = some (.int .i64 x2) := (hd22 _ _ q_d).trans c21_d_2
                    have c22_d_3 : w22.cell? ⟨w.heap.size + 1 + 1, 3, none⟩ = some (.int .i64 y2) := (hd22 _ _ q_d).trans c21_d_3
                    have c22_e_0 : w22.cell? ⟨w.heap.size + 1 + 1 + 1, 0, none⟩ = some (.int .i64 n3) := (hd22 _ _ q_e).trans c21_e_0
                    have c22_e_1 : w22.cell? ⟨w.heap.size + 1 + 1 + 1, 1, none⟩ = some (.int .i64 d3) := (hd22 _ _ q_e).trans c21_e_1
                    have c22_e_2 : w22.cell? ⟨w.heap.size + 1 + 1 + 1, 2, none⟩ = some (.int .i64 x3) := (hd22 _ _ q_e).trans c21_e_2
                    have c22_e_3 : w22.cell? ⟨w.heap.size + 1 + 1 + 1, 3, none⟩ = some (.int .i64 y3) := (hd22 _ _ q_e).trans c21_e_3
                    have c22_t_0 : w22.cell? ⟨w.heap.size + 1 + 1 + 1 + 1, 0, none⟩ = some (.int .i64 n4) := (hd22 _ _ q_t).trans c21_t_0
                    have c22_t_1 : w22.cell? ⟨w.heap.size + 1 + 1 + 1 + 1, 1, none⟩ = some (.int .i64 d4) := (hd22 _ _ q_t).trans c21_t_1
                    have c22_shown_0 : w22.cell? ⟨w1.heap.size, 0, none⟩ = some (.int .i64 un) := (hd22 _ _ q_shown).trans c21_shown_0
                    have c22_shown_1 : w22.cell? ⟨w1.heap.size, 1, none⟩ = some (.int .i64 ud) := (hd22 _ _ q_shown).trans c21_shown_1
                    have c22_right_0 : w22.cell? ⟨w2.heap.size, 0, none⟩ = some (.int .i64 un) := (hd22 _ _ q_right).trans c21_right_0
                    have c22_right_1 : w22.cell? ⟨w2.heap.size, 1, none⟩ = some (.int .i64 ud) := (hd22 _ _ q_right).trans c21_right_1
                    have c22_ahead_0 : w22.cell? ⟨w3.heap.size, 0, none⟩ = some (.int .i64 gn) := (hd22 _ _ q_ahead).trans c21_ahead_0
                    have c22_ahead_1 : w22.cell? ⟨w3.heap.size, 1, none⟩ = some (.int .i64 gd) := (hd22 _ _ q_ahead).trans c21_ahead_1
                    have c22_want_0 : w22.cell? ⟨w4.heap.size, 0, none⟩ = some (.int .i64 gn) := (hd22 _ _ q_want).trans c21_want_0
                    have c22_want_1 : w22.cell? ⟨w4.heap.size, 1, none⟩ = some (.int .i64 gd) := (hd22 _ _ q_want).trans c21_want_1
                    have c22_set_0 : w22.cell? ⟨w5.heap.size, 0, none⟩ = some (.int .i64 zn) := (hd22 _ _ q_set).trans c21_set_0
                    have c22_set_1 : w22.cell? ⟨w5.heap.size, 1, none⟩ = some (.int .i64 zd) := (hd22 _ _ q_set).trans c21_set_1
                    have c22_set_2 : w22.cell? ⟨w5.heap.size, 2, none⟩ = some (.int .i64 zp) := (hd22 _ _ q_set).trans c21_set_2
                    have c22_set_3 : w22.cell? ⟨w5.heap.size, 3, none⟩ = some (.int .i64 zq) := (hd22 _ _ q_set).trans c21_set_3
                    have c22_model_0 : w22.cell? ⟨w6.heap.size, 0, none⟩ = some (.int .i64 zn) := (hd22 _ _ q_model).trans c21_model_0
                    have c22_model_1 : w22.cell? ⟨w6.heap.size, 1, none⟩ = some (.int .i64 zd) := (hd22 _ _ q_model).trans c21_model_1
                    have c22_model_2 : w22.cell? ⟨w6.heap.size, 2, none⟩ = some (.int .i64 zp) := (hd22 _ _ q_model).trans c21_model_2
                    have c22_model_3 : w22.cell? ⟨w6.heap.size, 3, none⟩ = some (.int .i64 zq) := (hd22 _ _ q_model).trans c21_model_3
                    have c22_first_0 : w22.cell? ⟨w11.heap.size, 0, none⟩ = some (.int .i64 fn) := (hd22 _ _ q_first).trans c21_first_0
                    have c22_first_1 : w22.cell? ⟨w11.heap.size, 1, none⟩ = some (.int .i64 fd) := (hd22 _ _ q_first).trans c21_first_1
                    have c22_value_0 : w22.cell? ⟨w12.heap.size, 0, none⟩ = some (.int .i64 fn) := (hd22 _ _ q_value).trans c21_value_0
                    have c22_value_1 : w22.cell? ⟨w12.heap.size, 1, none⟩ = some (.int .i64 fd) := (hd22 _ _ q_value).trans c21_value_1
                    have c22_every_0 : w22.cell? ⟨w13.heap.size, 0, none⟩ = some (.int .i64 rn) := (hd22 _ _ q_every).trans c21_every_0
                    have c22_every_1 : w22.cell? ⟨w13.heap.size, 1, none⟩ = some (.int .i64 rd) := (hd22 _ _ q_every).trans c21_every_1
                    have c22_due_0 : w22.cell? ⟨w14.heap.size, 0, none⟩ = some (.int .i64 rn) := (hd22 _ _ q_due).trans c21_due_0
                    have c22_due_1 : w22.cell? ⟨w14.heap.size, 1, none⟩ = some (.int .i64 rd) := (hd22 _ _ q_due).trans c21_due_1
                    have c22_next_0 : w22.cell? ⟨w19.heap.size, 0, none⟩ = some (.int .i64 en) := (hd22 _ _ q_next).trans c21_next_0
                    have c22_next_1 : w22.cell? ⟨w19.heap.size, 1, none⟩ = some (.int .i64 ed) := (hd22 _ _ q_next).trans c21_next_1
                    replace q_c : w.heap.size < w22.heap.size := by omega
                    replace q_s : w.heap.size + 1 < w22.heap.size := by omega
                    replace q_d : w.heap.size + 1 + 1 < w22.heap.size := by omega
                    replace q_e : w.heap.size + 1 + 1 + 1 < w22.heap.size := by omega
                    replace q_t : w.heap.size + 1 + 1 + 1 + 1 < w22.heap.size := by omega
                    replace q_shown : w1.heap.size < w22.heap.size := by omega
                    replace q_right : w2.heap.size < w22.heap.size := by omega
                    replace q_ahead : w3.heap.size < w22.heap.size := by omega
                    replace q_want : w4.heap.size < w22.heap.size := by omega
                    replace q_set : w5.heap.size < w22.heap.size := by omega
                    replace q_model : w6.heap.size < w22.heap.size := by omega
                    replace q_first : w11.heap.size < w22.heap.size := by omega
                    replace q_value : w12.heap.size < w22.heap.size := by omega
                    replace q_every : w13.heap.size < w22.heap.size := by omega
                    replace q_due : w14.heap.size < w22.heap.size := by omega
                    replace q_next : w19.heap.size < w22.heap.size := by omega
                    have BW22 : Below w.heap.size w w22 := BW21.trans (hb22.mono BW21.size)
                    have BX22 : Below w18.heap.size w18 w22 := BX21.trans (hb22.mono BX21.size)
                    clear BX21
                    clear hb22 hd22 c21_c_0 c21_c_1 c21_c_2 c21_c_3 c21_s_0 c21_s_1 c21_d_0 c21_d_1 c21_d_2 c21_d_3 c21_e_0 c21_e_1 c21_e_2 c21_e_3 c21_t_0 c21_t_1 c21_shown_0 c21_shown_1 c21_right_0 c21_right_1 c21_ahead_0 c21_ahead_1 c21_want_0 c21_want_1 c21_set_0 c21_set_1 c21_set_2 c21_set_3 c21_model_0 c21_model_1 c21_model_2 c21_model_3 c21_first_0 c21_first_1 c21_value_0 c21_value_1 c21_every_0 c21_every_1 c21_due_0 c21_due_1 c21_next_0 c21_next_1 BW21
                    have hrelB := BX22
                    go_wp2_with fail
                    go_meet
                    case rel => exact hrelB
              case rest =>
                obtain ⟨w19, hw19⟩ : ∃ x : World, x = wc := ⟨_, rfl⟩
                subst hw19
                have hb19 := hcut
                obtain ⟨hc19, hf19⟩ := bcell hb19
                have hz19 := hb19.size
                (try simp only [World.size_alloc, World.size_setCell, World.size_drew] at hz19)
                have B19 : Below w18.heap.size w18 w19 := Below.trans (b := _) (by (repeat' (first | (with_reducible exact Below.refl _ _) | (with_reducible assumption) | (with_reducible refine Below.alloc ?_ ?_ _) | (with_reducible refine Below.drew ?_) | (with_reducible refine below_drewN ?_ _) | (with_reducible refine Below.setCell ?_ ?_ _) | (with_reducible refine below_call ?_ ?_ (by assumption)) | go_size))) (hb19.mono (by first | omega | (simp only [World.size_alloc, World.size_setCell, World.size_drew]; omega)))
                obtain ⟨hd19, -⟩ := bcell B19
                have c19_c_0 : w19.cell? ⟨w.heap.size, 0, none⟩ = some (.int .i64 n0) := (hd19 _ _ q_c).trans c18_c_0
                have c19_c_1 : w19.cell? ⟨w.heap.size, 1, none⟩ = some (.int .i64 d0) := (hd19 _ _ q_c).trans c18_c_1
                have c19_c_2 : w19.cell? ⟨w.heap.size, 2, none⟩ = some (.int .i64 x0) := (hd19 _ _ q_c).trans c18_c_2
                have c19_c_3 : w19.cell? ⟨w.heap.size, 3, none⟩ = some (.int .i64 y0) := (hd19 _ _ q_c).trans c18_c_3
                have c19_s_0 : w19.cell? ⟨w.heap.size + 1, 0, none⟩ = some (.int .i64 n1) := (hd19 _ _ q_s).trans c18_s_0
                have c19_s_1 : w19.cell? ⟨w.heap.size + 1, 1, none⟩ = some (.int .i64 d1) := (hd19 _ _ q_s).trans c18_s_1
                have c19_d_0 : w19.cell? ⟨w.heap.size + 1 + 1, 0, none⟩ = some (.int .i64 n2) := (hd19 _ _ q_d).trans c18_d_0
                have c19_d_1 : w19.cell? ⟨w.heap.size + 1 + 1, 1, none⟩ = some (.int .i64 d2) := (hd19 _ _ q_d).trans c18_d_1
                have c19_d_2 : w19.cell? ⟨w.heap.size + 1 + 1, 2, none⟩ = some (.int .i64 x2) := (hd19 _ _ q_d).trans c18_d_2
                have c19_d_3 : w19.cell? ⟨w.heap.size + 1 + 1, 3, none⟩ = some (.int .i64 y2) := (hd19 _ _ q_d).trans c18_d_3
                have c19_e_0 : w19.cell? ⟨w.heap.size + 1 + 1 + 1, 0, none⟩ = some (.int .i64 n3) := (hd19 _ _ q_e).trans c18_e_0
                have c19_e_1 : w19.cell? ⟨w.heap.size + 1 + 1 + 1, 1, none⟩ = some (.int .i64 d3) := (hd19 _ _ q_e).trans c18_e_1
                have c19_e_2 : w19.cell? ⟨w.heap.size + 1 + 1 + 1, 2, none⟩ = some (.int .i64 x3) := (hd19 _ _ q_e).trans c18_e_2
                have c19_e_3 : w19.cell? ⟨w.heap.size + 1 + 1 + 1, 3, none⟩ = some (.int .i64 y3) := (hd19 _ _ q_e).trans c18_e_3
                have c19_t_0 : w19.cell? ⟨w.heap.size + 1 + 1 + 1 + 1, 0, none⟩ = some (.int .i64 n4) := (hd19 _ _ q_t).trans c18_t_0
                have c19_t_1 : w19.cell? ⟨w.heap.size + 1 + 1 + 1 + 1, 1, none⟩ = some (.int .i64 d4) := (hd19 _ _ q_t).trans c18_t_1
                have c19_shown_0 : w19.cell? ⟨w1.heap.size, 0, none⟩ = some (.int .i64 un) := (hd19 _ _ q_shown).trans c18_shown_0
                have c19_shown_1 : w19.cell? ⟨w1.heap.size, 1, none⟩ = some (.int .i64 ud) := (hd19 _ _ q_shown).trans c18_shown_1
                have c19_right_0 : w19.cell? ⟨w2.heap.size, 0, none⟩ = some (.int .i64 un) := (hd19 _ _ q_right).trans c18_right_0
                have c19_right_1 : w19.cell? ⟨w2.heap.size, 1, none⟩ = some (.int .i64 ud) := (hd19 _ _ q_right).trans c18_right_1
                have c19_ahead_0 : w19.cell? ⟨w3.heap.size, 0, none⟩ = some (.int .i64 gn) := (hd19 _ _ q_ahead).trans c18_ahead_0
                have c19_ahead_1 : w19.cell? ⟨w3.heap.size, 1, none⟩ = some (.int .i64 gd) := (hd19 _ _ q_ahead).trans c18_ahead_1
                have c19_want_0 : w19.cell? ⟨w4.heap.size, 0, none⟩ = some (.int .i64 gn) := (hd19 _ _ q_want).trans c18_want_0
                have c19_want_1 : w19.cell? ⟨w4.heap.size, 1, none⟩ = some (.int .i64 gd) := (hd19 _ _ q_want).trans c18_want_1
                have c19_set_0 : w19.cell? ⟨w5.heap.size, 0, none⟩ = some (.int .i64 zn) := (hd19 _ _ q_set).trans c18_set_0
                have c19_set_1 : w19.cell? ⟨w5.heap.size, 1, none⟩ = some (.int .i64 zd) := (hd19 _ _ q_set).trans c18_set_1
                have c19_set_2 : w19.cell? ⟨w5.heap.size, 2, none⟩ = some (.int .i64 zp) := (hd19 _ _ q_set).trans c18_set_2
                have c19_set_3 : w19.cell? ⟨w5.heap.size, 3, none⟩ = some (.int .i64 zq) := (hd19 _ _ q_set).trans c18_set_3
                have c19_model_0 : w19.cell? ⟨w6.heap.size, 0, none⟩ = some (.int .i64 zn) := (hd19 _ _ q_model).trans c18_model_0
                have c19_model_1 : w19.cell? ⟨w6.heap.size, 1, none⟩ = some (.int .i64 zd) := (hd19 _ _ q_model).trans c18_model_1
                have c19_model_2 : w19.cell? ⟨w6.heap.size, 2, none⟩ = some (.int .i64 zp) := (hd19 _ _ q_model).trans c18_model_2
                have c19_model_3 : w19.cell? ⟨w6.heap.size, 3, none⟩ = some (.int .i64 zq) := (hd19 _ _ q_model).trans c18_model_3
                have c19_first_0 : w19.cell? ⟨w11.heap.size, 0, none⟩ = some (.int .i64 fn) := (hd19 _ _ q_first).trans c18_first_0
                have c19_first_1 : w19.cell? ⟨w11.heap.size, 1, none⟩ = some (.int .i64 fd) := (hd19 _ _ q_first).trans c18_first_1
                have c19_value_0 : w19.cell? ⟨w12.heap.size, 0, none⟩ = some (.int .i64 fn) := (hd19 _ _ q_value).trans c18_value_0
                have c19_value_1 : w19.cell? ⟨w12.heap.size, 1, none⟩ = some (.int .i64 fd) := (hd19 _ _ q_value).trans c18_value_1
                have c19_every_0 : w19.cell? ⟨w13.heap.size, 0, none⟩ = some (.int .i64 rn) := (hd19 _ _ q_every).trans c18_every_0
                have c19_every_1 : w19.cell? ⟨w13.heap.size, 1, none⟩ = some (.int .i64 rd) := (hd19 _ _ q_every).trans c18_every_1
                have c19_due_0 : w19.cell? ⟨w14.heap.size, 0, none⟩ = some (.int .i64 rn) := (hd19 _ _ q_due).trans c18_due_0
                have c19_due_1 : w19.cell? ⟨w14.heap.size, 1, none⟩ = some (.int .i64 rd) := (hd19 _ _ q_due).trans c18_due_1
                replace q_c : w.heap.size < w19.heap.size := by omega
                replace q_s : w.heap.size + 1 < w19.heap.size := by omega
                replace q_d : w.heap.size + 1 + 1 < w19.heap.size := by omega
                replace q_e : w.heap.size + 1 + 1 + 1 < w19.heap.size := by omega
                replace q_t : w.heap.size + 1 + 1 + 1 + 1 < w19.heap.size := by omega
                replace q_shown : w1.heap.size < w19.heap.size := by omega
                replace q_right : w2.heap.size < w19.heap.size := by omega
                replace q_ahead : w3.heap.size < w19.heap.size := by omega
                replace q_want : w4.heap.size < w19.heap.size := by omega
                replace q_set : w5.heap.size < w19.heap.size := by omega
                replace q_model : w6.heap.size < w19.heap.size := by omega
                replace q_first : w11.heap.size < w19.heap.size := by omega
                replace q_value : w12.heap.size < w19.heap.size := by omega
                replace q_every : w13.heap.size < w19.heap.size := by omega
                replace q_due : w14.heap.size < w19.heap.size := by omega
                have BW19 : Below w.heap.size w w19 := BW18.trans (B19.mono BW18.size)
                clear hc19 hf19 hb19 hd19 B19 c18_c_0 c18_c_1 c18_c_2 c18_c_3 c18_s_0 c18_s_1 c18_d_0 c18_d_1 c18_d_2 c18_d_3 c18_e_0 c18_e_1 c18_e_2 c18_e_3 c18_t_0 c18_t_1 c18_shown_0 c18_shown_1 c18_right_0 c18_right_1 c18_ahead_0 c18_ahead_1 c18_want_0 c18_want_1 c18_set_0 c18_set_1 c18_set_2 c18_set_3 c18_model_0 c18_model_1 c18_model_2 c18_model_3 c18_first_0 c18_first_1 c18_value_0 c18_value_1 c18_every_0 c18_every_1 c18_due_0 c18_due_1 BW18
                go_wp2_with fail
                refine (C11.out _).mono ?_
                rintro e20 w20 ⟨rfl, hb20⟩
                obtain ⟨hc20, hf20⟩ := bcell hb20
                have hz20 := hb20.size
                (try simp only [World.size_alloc, World.size_setCell, World.size_drew] at hz20)
                have B20 : Below w19.heap.size w19 w20 := Below.trans (b := _) (by (repeat' (first | (with_reducible exact Below.refl _ _) | (with_reducible assumption) | (with_reducible refine Below.alloc ?_ ?_ _) | (with_reducible refine Below.drew ?_) | (with_reducible refine below_drewN ?_ _) | (with_reducible refine Below.setCell ?_ ?_ _) | (with_reducible refine below_call ?_ ?_ (by assumption)) | go_size))) (hb20.mono (by first | omega | (simp only [World.size_alloc, World.size_setCell, World.size_drew]; omega)))
                obtain ⟨hd20, -⟩ := bcell B20
                have c20_c_0 : w20.cell? ⟨w.heap.size, 0, none⟩ = some (.int .i64 n0) := (hd20 _ _ q_c).trans c19_c_0
                have c20_c_1 : w20.cell? ⟨w.heap.size, 1, none⟩ = some (.int .i64 d0) := (hd20 _ _ q_c).trans c19_c_1
                have c20_c_2 : w20.cell? ⟨w.heap.size, 2, none⟩ = some (.int .i64 x0) := (hd20 _ _ q_c).trans c19_c_2
                have c20_c_3 : w20.cell? ⟨w.heap.size, 3, none⟩ = some (.int .i64 y0) := (hd20 _ _ q_c).trans c19_c_3
                have c20_s_0 : w20.cell? ⟨w.heap.size + 1, 0, none⟩ = some (.int .i64 n1) := (hd20 _ _ q_s).trans c19_s_0
                have c20_s_1 : w20.cell? ⟨w.heap.size + 1, 1, none⟩ = some (.int .i64 d1) := (hd20 _ _ q_s).trans c19_s_1
                have c20_d_0 : w20.cell? ⟨w.heap.size + 1 + 1, 0, none⟩ = some (.int .i64 n2) := (hd20 _ _ q_d).trans c19_d_0
                have c20_d_1 : w20.cell? ⟨w.heap.size + 1 + 1, 1, none⟩ = some (.int .i64 d2) := (hd20 _ _ q_d).trans c19_d_1
                have c20_d_2 : w20.cell? ⟨w.heap.size + 1 + 1, 2, none⟩ = some (.int .i64 x2) := (hd20 _ _ q_d).trans c19_d_2
                have c20_d_3 : w20.cell? ⟨w.heap.size + 1 + 1, 3, none⟩ = some (.int .i64 y2) := (hd20 _ _ q_d).trans c19_d_3
                have c20_e_0 : w20.cell? ⟨w.heap.size + 1 + 1 + 1, 0, none⟩ = some (.int .i64 n3) := (hd20 _ _ q_e).trans c19_e_0
                have c20_e_1 : w20.cell? ⟨w.heap.size + 1 + 1 + 1, 1, none⟩ = some (.int .i64 d3) := (hd20 _ _ q_e).trans c19_e_1
                have c20_e_2 : w20.cell? ⟨w.heap.size + 1 + 1 + 1, 2, none⟩ = some (.int .i64 x3) := (hd20 _ _ q_e).trans c19_e_2
                have c20_e_3 : w20.cell? ⟨w.heap.size + 1 + 1 + 1, 3, none⟩ = some (.int .i64 y3) := (hd20 _ _ q_e).trans c19_e_3
                have c20_t_0 : w20.cell? ⟨w.heap.size + 1 + 1 + 1 + 1, 0, none⟩ = some (.int .i64 n4) := (hd20 _ _ q_t).trans c19_t_0
                have c20_t_1 : w20.cell? ⟨w.heap.size + 1 + 1 + 1 + 1, 1, none⟩ = some (.int .i64 d4) := (hd20 _ _ q_t).trans c19_t_1
                have c20_shown_0 : w20.cell? ⟨w1.heap.size, 0, none⟩ = some (.int .i64 un) := (hd20 _ _ q_shown).trans c19_shown_0
                have c20_shown_1 : w20.cell? ⟨w1.heap.size, 1, none⟩ = some (.int .i64 ud) := (hd20 _ _ q_shown).trans c19_shown_1
                have c20_right_0 : w20.cell? ⟨w2.heap.size, 0, none⟩ = some (.int .i64 un) := (hd20 _ _ q_right).trans c19_right_0
                have c20_right_1 : w20.cell? ⟨w2.heap.size, 1, none⟩ = some (.int .i64 ud) := (hd20 _ _ q_right).trans c19_right_1
                have c20_ahead_0 : w20.cell? ⟨w3.heap.size, 0, none⟩ = some (.int .i64 gn) := (hd20 _ _ q_ahead).trans c19_ahead_0
                have c20_ahead_1 : w20.cell? ⟨w3.heap.size, 1, none⟩ = some (.int .i64 gd) := (hd20 _ _ q_ahead).trans c19_ahead_1
                have c20_want_0 : w20.cell? ⟨w4.heap.size, 0, none⟩ = some (.int .i64 gn) := (hd20 _ _ q_want).trans c19_want_0
                have c20_want_1 : w20.cell? ⟨w4.heap.size, 1, none⟩ = some (.int .i64 gd) := (hd20 _ _ q_want).trans c19_want_1
                have c20_set_0 : w20.cell? ⟨w5.heap.size, 0, none⟩ = some (.int .i64 zn) := (hd20 _ _ q_set).trans c19_set_0
                have c20_set_1 : w20.cell? ⟨w5.heap.size, 1, none⟩ = some (.int .i64 zd) := (hd20 _ _ q_set).trans c19_set_1
                have c20_set_2 : w20.cell? ⟨w5.heap.size, 2, none⟩ = some (.int .i64 zp) := (hd20 _ _ q_set).trans c19_set_2
                have c20_set_3 : w20.cell? ⟨w5.heap.size, 3, none⟩ = some (.int .i64 zq) := (hd20 _ _ q_set).trans c19_set_3
                have c20_model_0 : w20.cell? ⟨w6.heap.size, 0, none⟩ = some (.int .i64 zn) := (hd20 _ _ q_model).trans c19_model_0
                have c20_model_1 : w20.cell? ⟨w6.heap.size, 1, none⟩ = some (.int .i64 zd) := (hd20 _ _ q_model).trans c19_model_1
                have c20_model_2 : w20.cell? ⟨w6.heap.size, 2, none⟩ = some (.int .i64 zp) := (hd20 _ _ q_model).trans c19_model_2
                have c20_model_3 : w20.cell? ⟨w6.heap.size, 3, none⟩ = some (.int .i64 zq) := (hd20 _ _ q_model).trans c19_model_3
                have c20_first_0 : w20.cell? ⟨w11.heap.size, 0, none⟩ = some (.int .i64 fn) := (hd20 _ _ q_first).trans c19_first_0
                have c20_first_1 : w20.cell? ⟨w11.heap.size, 1, none⟩ = some (.int .i64 fd) := (hd20 _ _ q_first).trans c19_first_1
                have c20_value_0 : w20.cell? ⟨w12.heap.size, 0, none⟩ = some (.int .i64 fn) := (hd20 _ _ q_value).trans c19_value_0
                have c20_value_1 : w20.cell? ⟨w12.heap.size, 1, none⟩ = some (.int .i64 fd) := (hd20 _ _ q_value).trans c19_value_1
                have c20_every_0 : w20.cell? ⟨w13.heap.size, 0, none⟩ = some (.int .i64 rn) := (hd20 _ _ q_every).trans c19_every_0
                have c20_every_1 : w20.cell? ⟨w13.heap.size, 1, none⟩ = some (.int .i64 rd) := (hd20 _ _ q_every).trans c19_every_1
                have c20_due_0 : w20.cell? ⟨w14.heap.size, 0, none⟩ = some (.int .i64 rn) := (hd20 _ _ q_due).trans c19_due_0
                have c20_due_1 : w20.cell? ⟨w14.heap.size, 1, none⟩ = some (.int .i64 rd) := (hd20 _ _ q_due).trans c19_due_1
                replace q_c : w.heap.size < w20.heap.size := by omega
                replace q_s : w.heap.size + 1 < w20.heap.size := by omega
                replace q_d : w.heap.size + 1 + 1 < w20.heap.size := by omega
                replace q_e : w.heap.size + 1 + 1 + 1 < w20.heap.size := by omega
                replace q_t : w.heap.size + 1 + 1 + 1 + 1 < w20.heap.size := by omega
                replace q_shown : w1.heap.size < w20.heap.size := by omega
                replace q_right : w2.heap.size < w20.heap.size := by omega
                replace q_ahead : w3.heap.size < w20.heap.size := by omega
                replace q_want : w4.heap.size < w20.heap.size := by omega
                replace q_set : w5.heap.size < w20.heap.size := by omega
                replace q_model : w6.heap.size < w20.heap.size := by omega
                replace q_first : w11.heap.size < w20.heap.size := by omega
                replace q_value : w12.heap.size < w20.heap.size := by omega
                replace q_every : w13.heap.size < w20.heap.size := by omega
                replace q_due : w14.heap.size < w20.heap.size := by omega
                have BW20 : Below w.heap.size w w20 := BW19.trans (B20.mono BW19.size)
                clear hc20 hf20 hb20 hd20 B20 c19_c_0 c19_c_1 c19_c_2 c19_c_3 c19_s_0 c19_s_1 c19_d_0 c19_d_1 c19_d_2 c19_d_3 c19_e_0 c19_e_1 c19_e_2 c19_e_3 c19_t_0 c19_t_1 c19_shown_0 c19_shown_1 c19_right_0 c19_right_1 c19_ahead_0 c19_ahead_1 c19_want_0 c19_want_1 c19_set_0 c19_set_1 c19_set_2 c19_set_3 c19_model_0 c19_model_1 c19_model_2 c19_model_3 c19_first_0 c19_first_1 c19_value_0 c19_value_1 c19_every_0 c19_every_1 c19_due_0 c19_due_1 BW19
                go_wp2_with fail
                refine (C12.out _).mono ?_
                rintro e21 w21 ⟨rfl, hb21⟩
                obtain ⟨hc21, hf21⟩ := bcell hb21
                have hz21 := hb21.size
                (try simp only [World.size_alloc, World.size_setCell, World.size_drew] at hz21)
                have B21 : Below w20.heap.size w20 w21 := Below.trans (b := _) (by (repeat' (first | (with_reducible exact Below.refl _ _) | (with_reducible assumption) | (with_reducible refine Below.alloc ?_ ?_ _) | (with_reducible refine Below.drew ?_) | (with_reducible refine below_drewN ?_ _) | (with_reducible refine Below.setCell ?_ ?_ _) | (with_reducible refine below_call ?_ ?_ (by assumption)) | go_size))) (hb21.mono (by first | omega | (simp only [World.size_alloc, World.size_setCell, World.size_drew]; omega)))
                obtain ⟨hd21, -⟩ := bcell B21
                have c21_c_0 : w21.cell? ⟨w.heap.size, 0, none⟩ = some (.int .i64 n0) := (hd21 _ _ q_c).trans c20_c_0
                have c21_c_1 : w21.cell? ⟨w.heap.size, 1, none⟩ = some (.int .i64 d0) := (hd21 _ _ q_c).trans c20_c_1
                have c21_c_2 : w21.cell? ⟨w.heap.size, 2, none⟩ = some (.int .i64 x0) := (hd21 _ _ q_c).trans c20_c_2
                have c21_c_3 : w21.cell? ⟨w.heap.size, 3, none⟩ = some (.int .i64 y0) := (hd21 _ _ q_c).trans c20_c_3
                have c21_s_0 : w21.cell? ⟨w.heap.size + 1, 0, none⟩ = some (.int .i64 n1) := (hd21 _ _ q_s).trans c20_s_0
                have c21_s_1 : w21.cell? ⟨w.heap.size + 1, 1, none⟩ = some (.int .i64 d1) := (hd21 _ _ q_s).trans c20_s_1
                have c21_d_0 : w21.cell? ⟨w.heap.size + 1 + 1, 0, none⟩ = some (.int .i64 n2) := (hd21 _ _ q_d).trans c20_d_0
                have c21_d_1 : w21.cell? ⟨w.heap.size + 1 + 1, 1, none⟩ = some (.int .i64 d2) := (hd21 _ _ q_d).trans c20_d_1
                have c21_d_2 : w21.cell? ⟨w.heap.size + 1 + 1, 2, none⟩ = some (.int .i64 x2) := (hd21 _ _ q_d).trans c20_d_2
                have c21_d_3 : w21.cell? ⟨w.heap.size + 1 + 1, 3, none⟩ = some (.int .i64 y2) := (hd21 _ _ q_d).trans c20_d_3
                have c21_e_0 : w21.cell? ⟨w.heap.size + 1 + 1 + 1, 0, none⟩ = some (.int .i64 n3) := (hd21 _ _ q_e).trans c20_e_0
                have c21_e_1 : w21.cell? ⟨w.heap.size + 1 + 1 + 1, 1, none⟩ = some (.int .i64 d3) := (hd21 _ _ q_e).trans c20_e_1
                have c21_e_2 : w21.cell? ⟨w.heap.size + 1 + 1 + 1, 2, none⟩ = some (.int .i64 x3) := (hd21 _ _ q_e).trans c20_e_2
                have c21_e_3 : w21.cell? ⟨w.heap.size + 1 + 1 + 1, 3, none⟩ = some (.int .i64 y3) := (hd21 _ _ q_e).trans c20_e_3
                have c21_t_0 : w21.cell? ⟨w.heap.size + 1 + 1 + 1 + 1, 0, none⟩ = some (.int .i64 n4) := (hd21 _ _ q_t).trans c20_t_0
                have c21_t_1 : w21.cell? ⟨w.heap.size + 1 + 1 + 1 + 1, 1, none⟩ = some (.int .i64 d4) := (hd21 _ _ q_t).trans c20_t_1
                have c21_shown_0 : w21.cell? ⟨w1.heap.size, 0, none⟩ = some (.int .i64 un) := (hd21 _ _ q_shown).trans c20_shown_0
                have c21_shown_1 : w21.cell? ⟨w1.heap.size, 1, none⟩ = some (.int .i64 ud) := (hd21 _ _ q_shown).trans c20_shown_1
                have c21_right_0 : w21.cell? ⟨w2.heap.size, 0, none⟩ = some (.int .i64 un) := (hd21 _ _ q_right).trans c20_right_0
                have c21_right_1 : w21.cell? ⟨w2.heap.size, 1, none⟩ = some (.int .i64 ud) := (hd21 _ _ q_right).trans c20_right_1
                have c21_ahead_0 : w21.cell? ⟨w3.heap.size, 0, none⟩ = some (.int .i64 gn) := (hd21 _ _ q_ahead).trans c20_ahead_0
                have c21_ahead_1 : w21.cell? ⟨w3.heap.size, 1, none⟩ = some (.int .i64 gd) := (hd21 _ _ q_ahead).trans c20_ahead_1
                have c21_want_0 : w21.cell? ⟨w4.heap.size, 0, none⟩ = some (.int .i64 gn) := (hd21 _ _ q_want).trans c20_want_0
                have c21_want_1 : w21.cell? ⟨w4.heap.size, 1, none⟩ = some (.int .i64 gd) := (hd21 _ _ q_want).trans c20_want_1
                have c21_set_0 : w21.cell? ⟨w5.heap.size, 0, none⟩ = some (.int .i64 zn) := (hd21 _ _ q_set).trans c20_set_0
                have c21_set_1 : w21.cell? ⟨w5.heap.size, 1, none⟩ = some (.int .i64 zd) := (hd21 _ _ q_set).trans c20_set_1
                have c21_set_2 : w21.cell? ⟨w5.heap.size, 2, none⟩ = some (.int .i64 zp) := (hd21 _ _ q_set).trans c20_set_2
                have c21_set_3 : w21.cell? ⟨w5.heap.size, 3, none⟩ = some (.int .i64 zq) := (hd21 _ _ q_set).trans c20_set_3
                have c21_model_0 : w21.cell? ⟨w6.heap.size, 0, none⟩ = some (.int .i64 zn) := (hd21 _ _ q_model).trans c20_model_0
                have c21_model_1 : w21.cell? ⟨w6.heap.size, 1, none⟩ = some (.int .i64 zd) := (hd21 _ _ q_model).trans c20_model_1
                have c21_model_2 : w21.cell? ⟨w6.heap.size, 2, none⟩ = some (.int .i64 zp) := (hd21 _ _ q_model).trans c20_model_2
                have c21_model_3 : w21.cell? ⟨w6.heap.size, 3, none⟩ = some (.int .i64 zq) := (hd21 _ _ q_model).trans c20_model_3
                have c21_first_0 : w21.cell? ⟨w11.heap.size, 0, none⟩ = some (.int .i64 fn) := (hd21 _ _ q_first).trans c20_first_0
                have c21_first_1 : w21.cell? ⟨w11.heap.size, 1, none⟩ = some (.int .i64 fd) := (hd21 _ _ q_first).trans c20_first_1
                have c21_value_0 : w21.cell? ⟨w12.heap.size, 0, none⟩ = some (.int .i64 fn) := (hd21 _ _ q_value).trans c20_value_0
                have c21_value_1 : w21.cell? ⟨w12.heap.size, 1, none⟩ = some (.int .i64 fd) := (hd21 _ _ q_value).trans c20_value_1
                have c21_every_0 : w21.cell? ⟨w13.heap.size, 0, none⟩ = some (.int .i64 rn) := (hd21 _ _ q_every).trans c20_every_0
                have c21_every_1 : w21.cell? ⟨w13.heap.size, 1, none⟩ = some (.int .i64 rd) := (hd21 _ _ q_every).trans c20_every_1
                have c21_due_0 : w21.cell? ⟨w14.heap.size, 0, none⟩ = some (.int .i64 rn) := (hd21 _ _ q_due).trans c20_due_0
                have c21_due_1 : w21.cell? ⟨w14.heap.size, 1, none⟩ = some (.int .i64 rd) := (hd21 _ _ q_due).trans c20_due_1
                replace q_c : w.heap.size < w21.heap.size := by omega
                replace q_s : w.heap.size + 1 < w21.heap.size := by omega
                replace q_d : w.heap.size + 1 + 1 < w21.heap.size := by omega
                replace q_e : w.heap.size + 1 + 1 + 1 < w21.heap.size := by omega
                replace q_t : w.heap.size + 1 + 1 + 1 + 1 < w21.heap.size := by omega
                replace q_shown : w1.heap.size < w21.heap.size := by omega
                replace q_right : w2.heap.size < w21.heap.size := by omega
                replace q_ahead : w3.heap.size < w21.heap.size := by omega
                replace q_want : w4.heap.size < w21.heap.size := by omega
                replace q_set : w5.heap.size < w21.heap.size := by omega
                replace q_model : w6.heap.size < w21.heap.size := by omega
                replace q_first : w11.heap.size < w21.heap.size := by omega
                replace q_value : w12.heap.size < w21.heap.size := by omega
                replace q_every : w13.heap.size < w21.heap.size := by omega
                replace q_due : w14.heap.size < w21.heap.size := by omega
                have c21_when_0 : w21.cell? ⟨w20.heap.size, 0, none⟩ = some (.int .i64 hn) := (hc21 _ _ (by go_size)).trans (by go_simp)
                have c21_when_1 : w21.cell? ⟨w20.heap.size, 1, none⟩ = some (.int .i64 hd) := (hc21 _ _ (by go_size)).trans (by go_simp)
                have q_when : w20.heap.size < w21.heap.size := by omega
                have BW21 : Below w.heap.size w w21 := BW20.trans (B21.mono BW20.size)
                clear hc21 hf21 hb21 hd21 B21 c20_c_0 c20_c_1 c20_c_2 c20_c_3 c20_s_0 c20_s_1 c20_d_0 c20_d_1 c20_d_2 c20_d_3 c20_e_0 c20_e_1 c20_e_2 c20_e_3 c20_t_0 c20_t_1 c20_shown_0 c20_shown_1 c20_right_0 c20_right_1 c20_ahead_0 c20_ahead_1 c20_want_0 c20_want_1 c20_set_0 c20_set_1 c20_set_2 c20_set_3 c20_model_0 c20_model_1 c20_model_2 c20_model_3 c20_first_0 c20_first_1 c20_value_0 c20_value_1 c20_every_0 c20_every_1 c20_due_0 c20_due_1 BW20
                go_upto_if 304 with fail
                have hb22 : Below w21.heap.size w21 (w21.alloc (Obj.cells #[.int .i64 hn, .int .i64 hd] 28)) := by (repeat' (first | (with_reducible exact Below.refl _ _) | (with_reducible assumption) | (with_reducible refine Below.alloc ?_ ?_ _) | (with_reducible refine Below.drew ?_) | (with_reducible refine below_drewN ?_ _) | (with_reducible refine Below.setCell ?_ ?_ _) | (with_reducible refine below_call ?_ ?_ (by assumption)) | go_size))
                have c22_list_0 : (w21.alloc (Obj.cells #[.int .i64 hn, .int .i64 hd] 28)).cell? ⟨w21.heap.size, 0, none⟩ = some (.int .i64 hn) := by go_simp
                have c22_list_1 : (w21.alloc (Obj.cells #[.int .i64 hn, .int .i64 hd] 28)).cell? ⟨w21.heap.size, 1, none⟩ = some (.int .i64 hd) := by go_simp
                have q_list : w21.heap.size < (w21.alloc (Obj.cells #[.int .i64 hn, .int .i64 hd] 28)).heap.size := by go_size
                generalize (w21.alloc (Obj.cells #[.int .i64 hn, .int .i64 hd] 28)) = w22 at *
                obtain ⟨hd22, -⟩ := bcell hb22
                have hz22 := hb22.size
                have c22_c_0 : w22.cell? ⟨w.heap.size, 0, none⟩ = some (.int .i64 n0) := (hd22 _ _ q_c).trans c21_c_0
                have c22_c_1 : w22.cell? ⟨w.heap.size, 1, none⟩ = some (.int .i64 d0) := (hd22 _ _ q_c).trans c21_c_1
                have c22_c_2 : w22.cell? ⟨w.heap.size, 2, none⟩ = some (.int .i64 x0) := (hd22 _ _ q_c).trans c21_c_2
                have c22_c_3 : w22.cell? ⟨w.heap.size, 3, none⟩ = some (.int .i64 y0) := (hd22 _ _ q_c).trans c21_c_3
                have c22_s_0 : w22.cell? ⟨w.heap.size + 1, 0, none⟩ = some (.int .i64 n1) := (hd22 _ _ q_s).trans c21_s_0
                have c22_s_1 : w22.cell? ⟨w.heap.size + 1, 1, none⟩ = some (.int .i64 d1) := (hd22 _ _ q_s).trans c21_s_1
                have c22_d_0 : w22.cell? ⟨w.heap.size + 1 + 1, 0, none⟩ = some (.int .i64 n2) := (hd22 _ _ q_d).trans c21_d_0
                have c22_d_1 : w22.cell? ⟨w.heap.size + 1 + 1, 1, none⟩ = some (.int .i64 d2) := (hd22 _ _ q_d).trans c21_d_1
                have c22_d_2 : w22.cell? ⟨w.heap.size + 1 + 1, 2, none⟩ = some (.int .i64 x2) := (hd22 _ _ q_d).trans c21_d_2
                have c22_d_3 : w22.cell? ⟨w.heap.size + 1 + 1, 3, none⟩ = some (.int .i64 y2) := (hd22 _ _ q_d).trans c21_d_3
                have c22_e_0 : w22.cell? ⟨w.heap.size + 1 + 1 + 1, 0, none⟩ = some (.int .i64 n3) := (hd22 _ _ q_e).trans c21_e_0
                have c22_e_1 : w22.cell? ⟨w.heap.size + 1 + 1 + 1, 1, none⟩ = some (.int .i64 d3) := (hd22 _ _ q_e).trans c21_e_1
                have c22_e_2 : w22.cell? ⟨w.heap.size + 1 + 1 + 1, 2, none⟩ = some (.int .i64 x3) := (hd22 _ _ q_e).trans c21_e_2
                have c22_e_3 : w22.cell? ⟨w.heap.size + 1 + 1 + 1, 3, none⟩ = some (.int .i64 y3) := (hd22 _ _ q_e).trans c21_e_3
                have c22_t_0 : w22.cell? ⟨w.heap.size + 1 + 1 + 1 + 1, 0, none⟩ = some (.int .i64 n4) := (hd22 _ _ q_t).trans c21_t_0
                have c22_t_1 : w22.cell? ⟨w.heap.size + 1 + 1 + 1 + 1, 1, none⟩ = some (.int .i64 d4) := (hd22 _ _ q_t).trans c21_t_1
                have c22_shown_0 : w22.cell? ⟨w1.heap.size, 0, none⟩ = some (.int .i64 un) := (hd22 _ _ q_shown).trans c21_shown_0
                have c22_shown_1 : w22.cell? ⟨w1.heap.size, 1, none⟩ = some (.int .i64 ud) := (hd22 _ _ q_shown).trans c21_shown_1
                have c22_right_0 : w22.cell? ⟨w2.heap.size, 0, none⟩ = some (.int .i64 un) := (hd22 _ _ q_right).trans c21_right_0
                have c22_right_1 : w22.cell? ⟨w2.heap.size, 1, none⟩ = some (.int .i64 ud) := (hd22 _ _ q_right).trans c21_right_1
                have c22_ahead_0 : w22.cell? ⟨w3.heap.size, 0, none⟩ = some (.int .i64 gn) := (hd22 _ _ q_ahead).trans c21_ahead_0
                have c22_ahead_1 : w22.cell? ⟨w3.heap.size, 1, none⟩ = some (.int .i64 gd) := (hd22 _ _ q_ahead).trans c21_ahead_1
                have c22_want_0 : w22.cell? ⟨w4.heap.size, 0, none⟩ = some (.int .i64 gn) := (hd22 _ _ q_want).trans c21_want_0
                have c22_want_1 : w22.cell? ⟨w4.heap.size, 1, none⟩ = some (.int .i64 gd) := (hd22 _ _ q_want).trans c21_want_1
                have c22_set_0 : w22.cell? ⟨w5.heap.size, 0, none⟩ = some (.int .i64 zn) := (hd22 _ _ q_set).trans c21_set_0
                have c22_set_1 : w22.cell? ⟨w5.heap.size, 1, none⟩ = some (.int .i64 zd) := (hd22 _ _ q_set).trans c21_set_1
                have c22_set_2 : w22.cell? ⟨w5.heap.size, 2, none⟩ = some (.int .i64 zp) := (hd22 _ _ q_set).trans c21_set_2
                have c22_set_3 : w22.cell? ⟨w5.heap.size, 3, none⟩ = some (.int .i64 zq) := (hd22 _ _ q_set).trans c21_set_3
                have c22_model_0 : w22.cell? ⟨w6.heap.size, 0, none⟩ = some (.int .i64 zn) := (hd22 _ _ q_model).trans c21_model_0
                have c22_model_1 : w22.cell? ⟨w6.heap.size, 1, none⟩ = some (.int .i64 zd) := (hd22 _ _ q_model).trans c21_model_1
                have c22_model_2 : w22.cell? ⟨w6.heap.size, 2, none⟩ = some (.int .i64 zp) := (hd22 _ _ q_model).trans c21_model_2
                have c22_model_3 : w22.cell? ⟨w6.heap.size, 3, none⟩ = some (.int .i64 zq) := (hd22 _ _ q_model).trans c21_model_3
                have c22_first_0 : w22.cell? ⟨w11.heap.size, 0, none⟩ = some (.int .i64 fn) := (hd22 _ _ q_first).trans c21_first_0
                have c22_first_1 : w22.cell? ⟨w11.heap.size, 1, none⟩ = some (.int .i64 fd) := (hd22 _ _ q_first).trans c21_first_1
                have c22_value_0 : w22.cell? ⟨w12.heap.size, 0, none⟩ = some (.int .i64 fn) := (hd22 _ _ q_value).trans c21_value_0
                have c22_value_1 : w22.cell? ⟨w12.heap.size, 1, none⟩ = some (.int .i64 fd) := (hd22 _ _ q_value).trans c21_value_1
                have c22_every_0 : w22.cell? ⟨w13.heap.size, 0, none⟩ = some (.int .i64 rn) := (hd22 _ _ q_every).trans c21_every_0
                have c22_every_1 : w22.cell? ⟨w13.heap.size, 1, none⟩ = some (.int .i64 rd) := (hd22 _ _ q_every).trans c21_every_1
                have c22_due_0 : w22.cell? ⟨w14.heap.size, 0, none⟩ = some (.int .i64 rn) := (hd22 _ _ q_due).trans c21_due_0
                have c22_due_1 : w22.cell? ⟨w14.heap.size, 1, none⟩ = some (.int .i64 rd) := (hd22 _ _ q_due).trans c21_due_1
                have c22_when_0 : w22.cell? ⟨w20.heap.size, 0, none⟩ = some (.int .i64 hn) := (hd22 _ _ q_when).trans c21_when_0
                have c22_when_1 : w22.cell? ⟨w20.heap.size, 1, none⟩ = some (.int .i64 hd) := (hd22 _ _ q_when).trans c21_when_1
                replace q_c : w.heap.size < w22.heap.size := by omega
                replace q_s : w.heap.size + 1 < w22.heap.size := by omega
                replace q_d : w.heap.size + 1 + 1 < w22.heap.size := by omega
                replace q_e : w.heap.size + 1 + 1 + 1 < w22.heap.size := by omega
                replace q_t : w.heap.size + 1 + 1 + 1 + 1 < w22.heap.size := by omega
                replace q_shown : w1.heap.size < w22.heap.size := by omega
                replace q_right : w2.heap.size < w22.heap.size := by omega
                replace q_ahead : w3.heap.size < w22.heap.size := by omega
                replace q_want : w4.heap.size < w22.heap.size := by omega
                replace q_set : w5.heap.size < w22.heap.size := by omega
                replace q_model : w6.heap.size < w22.heap.size := by omega
                replace q_first : w11.heap.size < w22.heap.size := by omega
                replace q_value : w12.heap.size < w22.heap.size := by omega
                replace q_every : w13.heap.size < w22.heap.size := by omega
                replace q_due : w14.heap.size < w22.heap.size := by omega
                replace q_when : w20.heap.size < w22.heap.size := by omega
                have BW22 : Below w.heap.size w w22 := BW21.trans (hb22.mono BW21.size)
                clear hb22 hd22 c21_c_0 c21_c_1 c21_c_2 c21_c_3 c21_s_0 c21_s_1 c21_d_0 c21_d_1 c21_d_2 c21_d_3 c21_e_0 c21_e_1 c21_e_2 c21_e_3 c21_t_0 c21_t_1 c21_shown_0 c21_shown_1 c21_right_0 c21_right_1 c21_ahead_0 c21_ahead_1 c21_want_0 c21_want_1 c21_set_0 c21_set_1 c21_set_2 c21_set_3 c21_model_0 c21_model_1 c21_model_2 c21_model_3 c21_first_0 c21_first_1 c21_value_0 c21_value_1 c21_every_0 c21_every_1 c21_due_0 c21_due_1 c21_when_0 c21_when_1 BW21
                go_cut [] from 999 to 999 (fun wx => Below w22.heap.size w22 wx)
                case first =>
                  as_aux_lemma =>
                    cases ho
                    · go_wp2_with fail
                      go_meet
                      case rel => exact Below.refl _ _
                    · obtain ⟨h1, h2, h3⟩ := G5.out rfl
                      obtain ⟨ga, gb⟩ := twoB_bd h1
                      obtain ⟨-, ⟨a5, a6⟩, ⟨a7, a8⟩, -, -⟩ := clockB_bd ga
                      obtain ⟨f1, f2, f3, f4, -⟩ := spanB_bd gb
                      have m1 := mulb f3 f4 (show 0 ≤ x3 by omega) a6
                      have m2 := mulb (show 0 ≤ hd by omega) f2 (show 0 ≤ y3 by omega) a8
                      have hw1 : IntKind.i64.wrap (hn * x3) = hn * x3 := by rw [IntKind.wrap_i64]; omega
                      have hw2 : IntKind.i64.wrap (hd * y3) = hd * y3 := by rw [IntKind.wrap_i64]; omega
                      have hge : ¬ hd * y3 ≤ hn * x3 := by omega
                      clear m1 m2 h3 h1 ga gb
                      have Z1 := Lib.hid (fun W => (show Calls Try.prog 7 #[cv n3 d3 x3 y3, tv hn hd] W fun e w' => e = .returned (rv (n4, d4, true)) ∧ Below W.heap.size W w' from by have := implShownAfter_any n3 d3 x3 y3 hn hd W; rw [h2] at this; exact this))
                      clear h2
                      go_wp2_with fail
                      refine (Z1.out _).mono ?_
                      rintro e23 w23 ⟨rfl, hb23⟩
                      obtain ⟨hc23, hf23⟩ := bcell hb23
                      have hz23 := hb23.size
                      (try simp only [World.size_alloc, World.size_setCell, World.size_drew] at hz23)
                      have B23 : Below w22.heap.size w22 w23 := Below.trans (b := _) (by (repeat' (first | (with_reducible exact Below.refl _ _) | (with_reducible assumption) | (with_reducible refine Below.alloc ?_ ?_ _) | (with_reducible refine Below.drew ?_) | (with_reducible refine below_drewN ?_ _) | (with_reducible refine Below.setCell ?_ ?_ _) | (with_reducible refine below_call ?_ ?_ (by assumption)) | go_size))) (hb23.mono (by first | omega | (simp only [World.size_alloc, World.size_setCell, World.size_drew]; omega)))
                      obtain ⟨hd23, -⟩ := bcell B23
                      have c23_c_0 : w23.cell? ⟨w.heap.size, 0, none⟩ = some (.int .i64 n0) := (hd23 _ _ q_c).trans c22_c_0
                      have c23_c_1 : w23.cell? ⟨w.heap.size, 1, none⟩ = some (.int .i64 d0) := (hd23 _ _ q_c).trans c22_c_1
                      have c23_c_2 : w23.cell? ⟨w.heap.size, 2, none⟩ = some (.int .i64 x0) := (hd23 _ _ q_c).trans c22_c_2
                      have c23_c_3 : w23.cell? ⟨w.heap.size, 3, none⟩ = some (.int .i64 y0) := (hd23 _ _ q_c).trans c22_c_3
                      have c23_s_0 : w23.cell? ⟨w.heap.size + 1, 0, none⟩ = some (.int .i64 n1) := (hd23 _ _ q_s).trans c22_s_0
                      have c23_s_1 : w23.cell? ⟨w.heap.size + 1, 1, none⟩ = some (.int .i64 d1) := (hd23 _ _ q_s).trans c22_s_1
                      have c23_d_0 : w23.cell? ⟨w.heap.size + 1 + 1, 0, none⟩ = some (.int .i64 n2) := (hd23 _ _ q_d).trans c22_d_0
                      have c23_d_1 : w23.cell? ⟨w.heap.size + 1 + 1, 1, none⟩ = some (.int .i64 d2) := (hd23 _ _ q_d).trans c22_d_1
                      have c23_d_2 : w23.cell? ⟨w.heap.size + 1 + 1, 2, none⟩ = some (.int .i64 x2) := (hd23 _ _ q_d).trans c22_d_2
                      have c23_d_3 : w23.cell? ⟨w.heap.size + 1 + 1, 3, none⟩ = some (.int .i64 y2) := (hd23 _ _ q_d).trans c22_d_3
                      have c23_e_0 : w23.cell? ⟨w.heap.size + 1 + 1 + 1, 0, none⟩ = some (.int .i64 n3) := (hd23 _ _ q_e).trans c22_e_0
                      have c23_e_1 : w23.cell? ⟨w.heap.size + 1 + 1 + 1, 1, none⟩ = some (.int .i64 d3) := (hd23 _ _ q_e).trans c22_e_1
                      have c23_e_2 : w23.cell? ⟨w.heap.size + 1 + 1 + 1, 2, none⟩ = some (.int .i64 x3) := (hd23 _ _ q_e).trans c22_e_2
                      have c23_e_3 : w23.cell? ⟨w.heap.size + 1 + 1 + 1, 3, none⟩ = some (.int .i64 y3) := (hd23 _ _ q_e).trans c22_e_3
                      have c23_t_0 : w23.cell? ⟨w.heap.size + 1 + 1 + 1 + 1, 0, none⟩ = some (.int .i64 n4) := (hd23 _ _ q_t).trans c22_t_0
                      have c23_t_1 : w23.cell? ⟨w.heap.size + 1 + 1 + 1 + 1, 1, none⟩ = some (.int .i64 d4) := (hd23 _ _ q_t).trans c22_t_1
                      have c23_shown_0 : w23.cell? ⟨w1.heap.size, 0, none⟩ = some (.int .i64 un) := (hd23 _ _ q_shown).trans c22_shown_0
                      have c23_shown_1 : w23.cell? ⟨w1.heap.size, 1, none⟩ = some (.int .i64 ud) := (hd23 _ _ q_shown).trans c22_shown_1
                      have c23_right_0 : w23.cell? ⟨w2.heap.size, 0, none⟩ = some (.int .i64 un) := (hd23 _ _ q_right).trans c22_right_0
                      have c23_right_1 : w23.cell? ⟨w2.heap.size, 1, none⟩ = some (.int .i64 ud) := (hd23 _ _ q_right).trans c22_right_1
                      have c23_ahead_0 : w23.cell? ⟨w3.heap.size, 0, none⟩ = some (.int .i64 gn) := (hd23 _ _ q_ahead).trans c22_ahead_0
                      have c23_ahead_1 : w23.cell? ⟨w3.heap.size, 1, none⟩ = some (.int .i64 gd) := (hd23 _ _ q_ahead).trans c22_ahead_1
                      have c23_want_0 : w23.cell? ⟨w4.heap.size, 0, none⟩ = some (.int .i64 gn) := (hd23 _ _ q_want).trans c22_want_0
                      have c23_want_1 : w23.cell? ⟨w4.heap.size, 1, none⟩ = some (.int .i64 gd) := (hd23 _ _ q_want).trans c22_want_1
                      have c23_set_0 : w23.cell? ⟨w5.heap.size, 0, none⟩ = some (.int .i64 zn) := (hd23 _ _ q_set).trans c22_set_0
                      have c23_set_1 : w23.cell? ⟨w5.heap.size, 1, none⟩ = some (.int .i64 zd) := (hd23 _ _ q_set).trans c22_set_1
                      have c23_set_2 : w23.cell? ⟨w5.heap.size, 2, none⟩ = some (.int .i64 zp) := (hd23 _ _ q_set).trans c22_set_2
                      have c23_set_3 : w23.cell? ⟨w5.heap.size, 3, none⟩ = some (.int .i64 zq) := (hd23 _ _ q_set).trans c22_set_3
                      have c23_model_0 : w23.cell? ⟨w6.heap.size, 0, none⟩ = some (.int .i64 zn) := (hd23 _ _ q_model).trans c22_model_0
                      have c23_model_1 : w23.cell? ⟨w6.heap.size, 1, none⟩ = some (.int .i64 zd) := (hd23 _ _ q_model).trans c22_model_1
                      have c23_model_2 : w23.cell? ⟨w6.heap.size, 2, none⟩ = some (.int .i64 zp) := (hd23 _ _ q_model).trans c22_model_2
                      have c23_model_3 : w23.cell? ⟨w6.heap.size, 3, none⟩ = some (.int .i64 zq) := (hd23 _ _ q_model).trans c22_model_3
                      have c23_first_0 : w23.cell? ⟨w11.heap.size, 0, none⟩ = some (.int .i64 fn) := (hd23 _ _ q_first).trans c22_first_0
                      have c23_first_1 : w23.cell? ⟨w11.heap.size, 1, none⟩ = some (.int .i64 fd) := (hd23 _ _ q_first).trans c22_first_1
                      have c23_value_0 : w23.cell? ⟨w12.heap.size, 0, none⟩ = some (.int .i64 fn) := (hd23 _ _ q_value).trans c22_value_0
                      have c23_value_1 : w23.cell? ⟨w12.heap.size, 1, none⟩ = some (.int .i64 fd) := (hd23 _ _ q_value).trans c22_value_1
                      have c23_every_0 : w23.cell? ⟨w13.heap.size, 0, none⟩ = some (.int .i64 rn) := (hd23 _ _ q_every).trans c22_every_0
                      have c23_every_1 : w23.cell? ⟨w13.heap.size, 1, none⟩ = some (.int .i64 rd) := (hd23 _ _ q_every).trans c22_every_1
                      have c23_due_0 : w23.cell? ⟨w14.heap.size, 0, none⟩ = some (.int .i64 rn) := (hd23 _ _ q_due).trans c22_due_0
                      have c23_due_1 : w23.cell? ⟨w14.heap.size, 1, none⟩ = some (.int .i64 rd) := (hd23 _ _ q_due).trans c22_due_1
                      have c23_when_0 : w23.cell? ⟨w20.heap.size, 0, none⟩ = some (.int .i64 hn) := (hd23 _ _ q_when).trans c22_when_0
                      have c23_when_1 : w23.cell? ⟨w20.heap.size, 1, none⟩ = some (.int .i64 hd) := (hd23 _ _ q_when).trans c22_when_1
                      have c23_list_0 : w23.cell? ⟨w21.heap.size, 0, none⟩ = some (.int .i64 hn) := (hd23 _ _ q_list).trans c22_list_0
                      have c23_list_1 : w23.cell? ⟨w21.heap.size, 1, none⟩ = some (.int .i64 hd) := (hd23 _ _ q_list).trans c22_list_1
                      replace q_c : w.heap.size < w23.heap.size := by omega
                      replace q_s : w.heap.size + 1 < w23.heap.size := by omega
                      replace q_d : w.heap.size + 1 + 1 < w23.heap.size := by omega
                      replace q_e : w.heap.size + 1 + 1 + 1 < w23.heap.size := by omega
                      replace q_t : w.heap.size + 1 + 1 + 1 + 1 < w23.heap.size := by omega
                      replace q_shown : w1.heap.size < w23.heap.size := by omega
                      replace q_right : w2.heap.size < w23.heap.size := by omega
                      replace q_ahead : w3.heap.size < w23.heap.size := by omega
                      replace q_want : w4.heap.size < w23.heap.size := by omega
                      replace q_set : w5.heap.size < w23.heap.size := by omega
                      replace q_model : w6.heap.size < w23.heap.size := by omega
                      replace q_first : w11.heap.size < w23.heap.size := by omega
                      replace q_value : w12.heap.size < w23.heap.size := by omega
                      replace q_every : w13.heap.size < w23.heap.size := by omega
                      replace q_due : w14.heap.size < w23.heap.size := by omega
                      replace q_when : w20.heap.size < w23.heap.size := by omega
                      replace q_list : w21.heap.size < w23.heap.size := by omega
                      have BW23 : Below w.heap.size w w23 := BW22.trans (B23.mono BW22.size)
                      have BX23 : Below w22.heap.size w22 w23 := B23
                      clear hc23 hf23 hb23 hd23 B23 c22_c_0 c22_c_1 c22_c_2 c22_c_3 c22_s_0 c22_s_1 c22_d_0 c22_d_1 c22_d_2 c22_d_3 c22_e_0 c22_e_1 c22_e_2 c22_e_3 c22_t_0 c22_t_1 c22_shown_0 c22_shown_1 c22_right_0 c22_right_1 c22_ahead_0 c22_ahead_1 c22_want_0 c22_want_1 c22_set_0 c22_set_1 c22_set_2 c22_set_3 c22_model_0 c22_model_1 c22_model_2 c22_model_3 c22_first_0 c22_first_1 c22_value_0 c22_value_1 c22_every_0 c22_every_1 c22_due_0 c22_due_1 c22_when_0 c22_when_1 c22_list_0 c22_list_1 BW22
                      go_upto_region 42 with fail
                      have hb24 : Below w23.heap.size w23 (w23.alloc (Obj.cells #[.int .i64 n4, .int .i64 d4] 25)) := by (repeat' (first | (with_reducible exact Below.refl _ _) | (with_reducible assumption) | (with_reducible refine Below.alloc ?_ ?_ _) | (with_reducible refine Below.drew ?_) | (with_reducible refine below_drewN ?_ _) | (with_reducible refine Below.setCell ?_ ?_ _) | (with_reducible refine below_call ?_ ?_ (by assumption)) | go_size))
                      have c24_own_0 : (w23.alloc (Obj.cells #[.int .i64 n4, .int .i64 d4] 25)).cell? ⟨w23.heap.size, 0, none⟩ = some (.int .i64 n4) := by go_simp
                      have c24_own_1 : (w23.alloc (Obj.cells #[.int .i64 n4, .int .i64 d4] 25)).cell? ⟨w23.heap.size, 1, none⟩ = some (.int .i64 d4) := by go_simp
                      have q_own : w23.heap.size < (w23.alloc (Obj.cells #[.int .i64 n4, .int .i64 d4] 25)).heap.size := by go_size
                      generalize (w23.alloc (Obj.cells #[.int .i64 n4, .int .i64 d4] 25)) = w24 at *
                      obtain ⟨hd24, -⟩ := bcell hb24
                      have hz24 := hb24.size
                      have c24_c_0 : w24.cell? ⟨w.heap.size, 0, none⟩ = some (.int .i64 n0) := (hd24 _ _ q_c).trans c23_c_0
                      have c24_c_1 : w24.cell? ⟨w.heap.size, 1, none⟩ = some (.int .i64 d0) := (hd24 _ _ q_c).trans c23_c_1
                      have c24_c_2 : w24.cell? ⟨w.heap.size, 2, none⟩ = some (.int .i64 x0) := (hd24 _ _ q_c).trans c23_c_2
                      have c24_c_3 : w24.cell? ⟨w.heap.size, 3, none⟩ = some (.int .i64 y0) := (hd24 _ _ q_c).trans c23_c_3
                      have c24_s_0 : w24.cell? ⟨w.heap.size + 1, 0, none⟩ = some (.int .i64 n1) := (hd24 _ _ q_s).trans c23_s_0
                      have c24_s_1 : w24.cell? ⟨w.heap.size + 1, 1, none⟩ = some (.int .i64 d1) := (hd24 _ _ q_s).trans c23_s_1
                      have c24_d_0 : w24.cell? ⟨w.heap.size + 1 + 1, 0, none⟩ = some (.int .i64 n2) := (hd24 _ _ q_d).trans c23_d_0
                      have c24_d_1 : w24.cell? ⟨w.heap.size + 1 + 1, 1, none⟩ = some (.int .i64 d2) := (hd24 _ _ q_d).trans c23_d_1
                      have c24_d_2 : w24.cell? ⟨w.heap.size + 1 + 1, 2, none⟩ = some (.int .i64 x2) := (hd24 _ _ q_d).trans c23_d_2
                      have c24_d_3 : w24.cell? ⟨w.heap.size + 1 + 1, 3, none⟩ = some (.int .i64 y2) := (hd24 _ _ q_d).trans c23_d_3
                      have c24_e_0 : w24.cell? ⟨w.heap.size + 1 + 1 + 1, 0, none⟩ = some (.int .i64 n3) := (hd24 _ _ q_e).trans c23_e_0
                      have c24_e_1 : w24.cell? ⟨w.heap.size + 1 + 1 + 1, 1, none⟩ = some (.int .i64 d3) := (hd24 _ _ q_e).trans c23_e_1
                      have c24_e_2 : w24.cell? ⟨w.heap.size + 1 + 1 + 1, 2, none⟩ = some (.int .i64 x3) := (hd24 _ _ q_e).trans c23_e_2
                      have c24_e_3 : w24.cell? ⟨w.heap.size + 1 + 1 + 1, 3, none⟩ = some (.int .i64 y3) := (hd24 _ _ q_e).trans c23_e_3
                      have c24_t_0 : w24.cell? ⟨w.heap.size + 1 + 1 + 1 + 1, 0, none⟩ = some (.int .i64 n4) := (hd24 _ _ q_t).trans c23_t_0
                      have c24_t_1 : w24.cell? ⟨w.heap.size + 1 + 1 + 1 + 1, 1, none⟩ = some (.int .i64 d4) := (hd24 _ _ q_t).trans c23_t_1
                      have c24_shown_0 : w24.cell? ⟨w1.heap.size, 0, none⟩ = some (.int .i64 un) := (hd24 _ _ q_shown).trans c23_shown_0
                      have c24_shown_1 : w24.cell? ⟨w1.heap.size, 1, none⟩ = some (.int .i64 ud) := (hd24 _ _ q_shown).trans c23_shown_1
                      have c24_right_0 : w24.cell? ⟨w2.heap.size, 0, none⟩ = some (.int .i64 un) := (hd24 _ _ q_right).trans c23_right_0
                      have c24_right_1 : w24.cell? ⟨w2.heap.size, 1, none⟩ = some (.int .i64 ud) := (hd24 _ _ q_right).trans c23_right_1
                      have c24_ahead_0 : w24.cell? ⟨w3.heap.size, 0, none⟩ = some (.int .i64 gn) := (hd24 _ _ q_ahead).trans c23_ahead_0
                      have c24_ahead_1 : w24.cell? ⟨w3.heap.size, 1, none⟩ = some (.int .i64 gd) := (hd24 _ _ q_ahead).trans c23_ahead_1
                      have c24_want_0 : w24.cell? ⟨w4.heap.size, 0, none⟩ = some (.int .i64 gn) := (hd24 _ _ q_want).trans c23_want_0
                      have c24_want_1 : w24.cell? ⟨w4.heap.size, 1, none⟩ = some (.int .i64 gd) := (hd24 _ _ q_want).trans c23_want_1
                      have c24_set_0 : w24.cell? ⟨w5.heap.size, 0, none⟩ = some (.int .i64 zn) := (hd24 _ _ q_set).trans c23_set_0
                      have c24_set_1 : w24.cell? ⟨w5.heap.size, 1, none⟩ = some (.int .i64 zd) := (hd24 _ _ q_set).trans c23_set_1
                      have c24_set_2 : w24.cell? ⟨w5.heap.size, 2, none⟩ = some (.int .i64 zp) := (hd24 _ _ q_set).trans c23_set_2
                      have c24_set_3 : w24.cell? ⟨w5.heap.size, 3, none⟩ = some (.int .i64 zq) := (hd24 _ _ q_set).trans c23_set_3
                      have c24_model_0 : w24.cell? ⟨w6.heap.size, 0, none⟩ = some (.int .i64 zn) := (hd24 _ _ q_model).trans c23_model_0
                      have c24_model_1 : w24.cell? ⟨w6.heap.size, 1, none⟩ = some (.int .i64 zd) := (hd24 _ _ q_model).trans c23_model_1
                      have c24_model_2 : w24.cell? ⟨w6.heap.size, 2, none⟩ = some (.int .i64 zp) := (hd24 _ _ q_model).trans c23_model_2
                      have c24_model_3 : w24.cell? ⟨w6.heap.size, 3, none⟩ = some (.int .i64 zq) := (hd24 _ _ q_model).trans c23_model_3
                      have c24_first_0 : w24.cell? ⟨w11.heap.size, 0, none⟩ = some (.int .i64 fn) := (hd24 _ _ q_first).trans c23_first_0
                      have c24_first_1 : w24.cell? ⟨w11.heap.size, 1, none⟩ = some (.int .i64 fd) := (hd24 _ _ q_first).trans c23_first_1
                      have c24_value_0 : w24.cell? ⟨w12.heap.size, 0, none⟩ = some (.int .i64 fn) := (hd24 _ _ q_value).trans c23_value_0
                      have c24_value_1 : w24.cell? ⟨w12.heap.size, 1, none⟩ = some (.int .i64 fd) := (hd24 _ _ q_value).trans c23_value_1
                      have c24_every_0 : w24.cell? ⟨w13.heap.size, 0, none⟩ = some (.int .i64 rn) := (hd24 _ _ q_every).trans c23_every_0
                      have c24_every_1 : w24.cell? ⟨w13.heap.size, 1, none⟩ = some (.int .i64 rd) := (hd24 _ _ q_every).trans c23_every_1
                      have c24_due_0 : w24.cell? ⟨w14.heap.size, 0, none⟩ = some (.int .i64 rn) := (hd24 _ _ q_due).trans c23_due_0
                      have c24_due_1 : w24.cell? ⟨w14.heap.size, 1, none⟩ = some (.int .i64 rd) := (hd24 _ _ q_due).trans c23_due_1
                      have c24_when_0 : w24.cell? ⟨w20.heap.size, 0, none⟩ = some (.int .i64 hn) := (hd24 _ _ q_when).trans c23_when_0
                      have c24_when_1 : w24.cell? ⟨w20.heap.size, 1, none⟩ = some (.int .i64 hd) := (hd24 _ _ q_when).trans c23_when_1
                      have c24_list_0 : w24.cell? ⟨w21.heap.size, 0, none⟩ = some (.int .i64 hn) := (hd24 _ _ q_list).trans c23_list_0
                      have c24_list_1 : w24.cell? ⟨w21.heap.size, 1, none⟩ = some (.int .i64 hd) := (hd24 _ _ q_list).trans c23_list_1
                      replace q_c : w.heap.size < w24.heap.size := by omega
                      replace q_s : w.heap.size + 1 < w24.heap.size := by omega
                      replace q_d : w.heap.size + 1 + 1 < w24.heap.size := by omega
                      replace q_e : w.heap.size + 1 + 1 + 1 < w24.heap.size := by omega
                      replace q_t : w.heap.size + 1 + 1 + 1 + 1 < w24.heap.size := by omega
                      replace q_shown : w1.heap.size < w24.heap.size := by omega
                      replace q_right : w2.heap.size < w24.heap.size := by omega
                      replace q_ahead : w3.heap.size < w24.heap.size := by omega
                      replace q_want : w4.heap.size < w24.heap.size := by omega
                      replace q_set : w5.heap.size < w24.heap.size := by omega
                      replace q_model : w6.heap.size < w24.heap.size := by omega
                      replace q_first : w11.heap.size < w24.heap.size := by omega
                      replace q_value : w12.heap.size < w24.heap.size := by omega
                      replace q_every : w13.heap.size < w24.heap.size := by omega
                      replace q_due : w14.heap.size < w24.heap.size := by omega
                      replace q_when : w20.heap.size < w24.heap.size := by omega
                      replace q_list : w21.heap.size < w24.heap.size := by omega
                      have BW24 : Below w.heap.size w w24 := BW23.trans (hb24.mono BW23.size)
                      have BX24 : Below w22.heap.size w22 w24 := BX23.trans (hb24.mono BX23.size)
                      clear BX23
                      clear hb24 hd24 c23_c_0 c23_c_1 c23_c_2 c23_c_3 c23_s_0 c23_s_1 c23_d_0 c23_d_1 c23_d_2 c23_d_3 c23_e_0 c23_e_1 c23_e_2 c23_e_3 c23_t_0 c23_t_1 c23_shown_0 c23_shown_1 c23_right_0 c23_right_1 c23_ahead_0 c23_ahead_1 c23_want_0 c23_want_1 c23_set_0 c23_set_1 c23_set_2 c23_set_3 c23_model_0 c23_model_1 c23_model_2 c23_model_3 c23_first_0 c23_first_1 c23_value_0 c23_value_1 c23_every_0 c23_every_1 c23_due_0 c23_due_1 c23_when_0 c23_when_1 c23_list_0 c23_list_1 BW23
                      have hrelB := BX24
                      go_wp2_with fail
                      go_meet
                      case rel => exact hrelB
                case rest =>
                  obtain ⟨w23, hw23⟩ : ∃ x : World, x = wc := ⟨_, rfl⟩
                  subst hw23
                  have hb23 := hcut
                  obtain ⟨hc23, hf23⟩ := bcell hb23
                  have hz23 := hb23.size
                  (try simp only [World.size_alloc, World.size_setCell, World.size_drew] at hz23)
                  have B23 : Below w22.heap.size w22 w23 := Below.trans (b := _) (by (repeat' (first | (with_reducible exact Below.refl _ _) | (with_reducible assumption) | (with_reducible refine Below.alloc ?_ ?_ _) | (with_reducible refine Below.drew ?_) | (with_reducible refine below_drewN ?_ _) | (with_reducible refine Below.setCell ?_ ?_ _) | (with_reducible refine below_call ?_ ?_ (by assumption)) | go_size))) (hb23.mono (by first | omega | (simp only [World.size_alloc, World.size_setCell, World.size_drew]; omega)))
                  obtain ⟨hd23, -⟩ := bcell B23
                  have c23_c_0 : w23.cell? ⟨w.heap.size, 0, none⟩ = some (.int .i64 n0) := (hd23 _ _ q_c).trans c22_c_0
                  have c23_c_1 : w23.cell? ⟨w.heap.size, 1, none⟩ = some (.int .i64 d0) := (hd23 _ _ q_c).trans c22_c_1
                  have c23_c_2 : w23.cell? ⟨w.heap.size, 2, none⟩ = some (.int .i64 x0) := (hd23 _ _ q_c).trans c22_c_2
                  have c23_c_3 : w23.cell? ⟨w.heap.size, 3, none⟩ = some (.int .i64 y0) := (hd23 _ _ q_c).trans c22_c_3
                  have c23_s_0 : w23.cell? ⟨w.heap.size + 1, 0, none⟩ = some (.int .i64 n1) := (hd23 _ _ q_s).trans c22_s_0
                  have c23_s_1 : w23.cell? ⟨w.heap.size + 1, 1, none⟩ = some (.int .i64 d1) := (hd23 _ _ q_s).trans c22_s_1
                  have c23_d_0 : w23.cell? ⟨w.heap.size + 1 + 1, 0, none⟩ = some (.int .i64 n2) := (hd23 _ _ q_d).trans c22_d_0
                  have c23_d_1 : w23.cell? ⟨w.heap.size + 1 + 1, 1, none⟩ = some (.int .i64 d2) := (hd23 _ _ q_d).trans c22_d_1
                  have c23_d_2 : w23.cell? ⟨w.heap.size + 1 + 1, 2, none⟩ = some (.int .i64 x2) := (hd23 _ _ q_d).trans c22_d_2
                  have c23_d_3 : w23.cell? ⟨w.heap.size + 1 + 1, 3, none⟩ = some (.int .i64 y2) := (hd23 _ _ q_d).trans c22_d_3
                  have c23_e_0 : w23.cell? ⟨w.heap.size + 1 + 1 + 1, 0, none⟩ = some (.int .i64 n3) := (hd23 _ _ q_e).trans c22_e_0
                  have c23_e_1 : w23.cell? ⟨w.heap.size + 1 + 1 + 1, 1, none⟩ = some (.int .i64 d3) := (hd23 _ _ q_e).trans c22_e_1
                  have c23_e_2 : w23.cell? ⟨w.heap.size + 1 + 1 + 1, 2, none⟩ = some (.int .i64 x3) := (hd23 _ _ q_e).trans c22_e_2
                  have c23_e_3 : w23.cell? ⟨w.heap.size + 1 + 1 + 1, 3, none⟩ = some (.int .i64 y3) := (hd23 _ _ q_e).trans c22_e_3
                  have c23_t_0 : w23.cell? ⟨w.heap.size + 1 + 1 + 1 + 1, 0, none⟩ = some (.int .i64 n4) := (hd23 _ _ q_t).trans c22_t_0
                  have c23_t_1 : w23.cell? ⟨w.heap.size + 1 + 1 + 1 + 1, 1, none⟩ = some (.int .i64 d4) := (hd23 _ _ q_t).trans c22_t_1
                  have c23_shown_0 : w23.cell? ⟨w1.heap.size, 0, none⟩ = some (.int .i64 un) := (hd23 _ _ q_shown).trans c22_shown_0
                  have c23_shown_1 : w23.cell? ⟨w1.heap.size, 1, none⟩ = some (.int .i64 ud) := (hd23 _ _ q_shown).trans c22_shown_1
                  have c23_right_0 : w23.cell? ⟨w2.heap.size, 0, none⟩ = some (.int .i64 un) := (hd23 _ _ q_right).trans c22_right_0
                  have c23_right_1 : w23.cell? ⟨w2.heap.size, 1, none⟩ = some (.int .i64 ud) := (hd23 _ _ q_right).trans c22_right_1
                  have c23_ahead_0 : w23.cell? ⟨w3.heap.size, 0, none⟩ = some (.int .i64 gn) := (hd23 _ _ q_ahead).trans c22_ahead_0
                  have c23_ahead_1 : w23.cell? ⟨w3.heap.size, 1, none⟩ = some (.int .i64 gd) := (hd23 _ _ q_ahead).trans c22_ahead_1
                  have c23_want_0 : w23.cell? ⟨w4.heap.size, 0, none⟩ = some (.int .i64 gn) := (hd23 _ _ q_want).trans c22_want_0
                  have c23_want_1 : w23.cell? ⟨w4.heap.size, 1, none⟩ = some (.int .i64 gd) := (hd23 _ _ q_want).trans c22_want_1
                  have c23_set_0 : w23.cell? ⟨w5.heap.size, 0, none⟩ = some (.int .i64 zn) := (hd23 _ _ q_set).trans c22_set_0
                  have c23_set_1 : w23.cell? ⟨w5.heap.size, 1, none⟩ = some (.int .i64 zd) := (hd23 _ _ q_set).trans c22_set_1
                  have c23_set_2 : w23.cell? ⟨w5.heap.size, 2, none⟩ = some (.int .i64 zp) := (hd23 _ _ q_set).trans c22_set_2
                  have c23_set_3 : w23.cell? ⟨w5.heap.size, 3, none⟩ = some (.int .i64 zq) := (hd23 _ _ q_set).trans c22_set_3
                  have c23_model_0 : w23.cell? ⟨w6.heap.size, 0, none⟩ = some (.int .i64 zn) := (hd23 _ _ q_model).trans c22_model_0
                  have c23_model_1 : w23.cell? ⟨w6.heap.size, 1, none⟩ = some (.int .i64 zd) := (hd23 _ _ q_model).trans c22_model_1
                  have c23_model_2 : w23.cell? ⟨w6.heap.size, 2, none⟩ = some (.int .i64 zp) := (hd23 _ _ q_model).trans c22_model_2
                  have c23_model_3 : w23.cell? ⟨w6.heap.size, 3, none⟩ = some (.int .i64 zq) := (hd23 _ _ q_model).trans c22_model_3
                  have c23_first_0 : w23.cell? ⟨w11.heap.size, 0, none⟩ = some (.int .i64 fn) := (hd23 _ _ q_first).trans c22_first_0
                  have c23_first_1 : w23.cell? ⟨w11.heap.size, 1, none⟩ = some (.int .i64 fd) := (hd23 _ _ q_first).trans c22_first_1
                  have c23_value_0 : w23.cell? ⟨w12.heap.size, 0, none⟩ = some (.int .i64 fn) := (hd23 _ _ q_value).trans c22_value_0
                  have c23_value_1 : w23.cell? ⟨w12.heap.size, 1, none⟩ = some (.int .i64 fd) := (hd23 _ _ q_value).trans c22_value_1
                  have c23_every_0 : w23.cell? ⟨w13.heap.size, 0, none⟩ = some (.int .i64 rn) := (hd23 _ _ q_every).trans c22_every_0
                  have c23_every_1 : w23.cell? ⟨w13.heap.size, 1, none⟩ = some (.int .i64 rd) := (hd23 _ _ q_every).trans c22_every_1
                  have c23_due_0 : w23.cell? ⟨w14.heap.size, 0, none⟩ = some (.int .i64 rn) := (hd23 _ _ q_due).trans c22_due_0
                  have c23_due_1 : w23.cell? ⟨w14.heap.size, 1, none⟩ = some (.int .i64 rd) := (hd23 _ _ q_due).trans c22_due_1
                  have c23_when_0 : w23.cell? ⟨w20.heap.size, 0, none⟩ = some (.int .i64 hn) := (hd23 _ _ q_when).trans c22_when_0
                  have c23_when_1 : w23.cell? ⟨w20.heap.size, 1, none⟩ = some (.int .i64 hd) := (hd23 _ _ q_when).trans c22_when_1
                  have c23_list_0 : w23.cell? ⟨w21.heap.size, 0, none⟩ = some (.int .i64 hn) := (hd23 _ _ q_list).trans c22_list_0
                  have c23_list_1 : w23.cell? ⟨w21.heap.size, 1, none⟩ = some (.int .i64 hd) := (hd23 _ _ q_list).trans c22_list_1
                  replace q_c : w.heap.size < w23.heap.size := by omega
                  replace q_s : w.heap.size + 1 < w23.heap.size := by omega
                  replace q_d : w.heap.size + 1 + 1 < w23.heap.size := by omega
                  replace q_e : w.heap.size + 1 + 1 + 1 < w23.heap.size := by omega
                  replace q_t : w.heap.size + 1 + 1 + 1 + 1 < w23.heap.size := by omega
                  replace q_shown : w1.heap.size < w23.heap.size := by omega
                  replace q_right : w2.heap.size < w23.heap.size := by omega
                  replace q_ahead : w3.heap.size < w23.heap.size := by omega
                  replace q_want : w4.heap.size < w23.heap.size := by omega
                  replace q_set : w5.heap.size < w23.heap.size := by omega
                  replace q_model : w6.heap.size < w23.heap.size := by omega
                  replace q_first : w11.heap.size < w23.heap.size := by omega
                  replace q_value : w12.heap.size < w23.heap.size := by omega
                  replace q_every : w13.heap.size < w23.heap.size := by omega
                  replace q_due : w14.heap.size < w23.heap.size := by omega
                  replace q_when : w20.heap.size < w23.heap.size := by omega
                  replace q_list : w21.heap.size < w23.heap.size := by omega
                  have BW23 : Below w.heap.size w w23 := BW22.trans (B23.mono BW22.size)
                  clear hc23 hf23 hb23 hd23 B23 c22_c_0 c22_c_1 c22_c_2 c22_c_3 c22_s_0 c22_s_1 c22_d_0 c22_d_1 c22_d_2 c22_d_3 c22_e_0 c22_e_1 c22_e_2 c22_e_3 c22_t_0 c22_t_1 c22_shown_0 c22_shown_1 c22_right_0 c22_right_1 c22_ahead_0 c22_ahead_1 c22_want_0 c22_want_1 c22_set_0 c22_set_1 c22_set_2 c22_set_3 c22_model_0 c22_model_1 c22_model_2 c22_model_3 c22_first_0 c22_first_1 c22_value_0 c22_value_1 c22_every_0 c22_every_1 c22_due_0 c22_due_1 c22_when_0 c22_when_1 c22_list_0 c22_list_1 BW22
                  go_wp2
                  go_ret
                  exact ⟨rfl, BW23⟩

set_option maxRecDepth 100000 in
theorem lifted (os : Os) (started : os.Started) (H : Type) (enc : TypeId × Value → H) :
    ReturnsInHanded {} Try.checked os 4 .any (Rows.fnClocksDriftOfAllSpec.pre6 enc Try.prog Try.f4 Rows.fnClocksDriftOfAllRow.domain false) (Rows.fnClocksDriftOfAllSpec.post enc Try.prog Try.f4 false true false false) := by
  refine returnsInHanded_of_change (C := Try.checked) Try.own started (by kernel_rfl) Try.func4
    (ChangeSpec.witness6 (enc := enc) (C := Try.checked) false ⟨#[], #[.agg #[.int .i64 0, .int .i64 0, .int .i64 0, .int .i64 0], .agg #[.int .i64 0, .int .i64 0], .agg #[.int .i64 0, .int .i64 0, .int .i64 0, .int .i64 0], .agg #[.int .i64 0, .int .i64 0, .int .i64 0, .int .i64 0], .agg #[.int .i64 0, .int .i64 0]], []⟩ 8 (by kernel_rfl) (by kernel_rfl) (by kernel_rfl) (by kernel_rfl)) ?_
  intro W base args ds gs before hval0 hW hcnd _
  have hval : ∀ (j : Nat) t v, Try.f4.params[j]? = some t → args[j]? = some v → Value.okWide Try.prog W .any base t v := hval0
  have hW' := hW
  obtain ⟨p, q, hA0, hV, rfl, hfz, hnd⟩ := hW
  have hA : DataW.TrodAll enc Try.prog W 0 (fun _ => true) true Try.f4.params.toList args.toList ds p := hA0
  rw [Try.params4] at hA hval
  obtain ⟨v0, vs0, d_0, ds0, p0, q0, hargs, rfl, rfl, h0, r0⟩ := trodAll_cons hA
  obtain ⟨v1, vs1, d_1, ds1, p1, q1, rfl, rfl, rfl, h1, r1⟩ := trodAll_cons r0
  obtain ⟨v2, vs2, d_2, ds2, p2, q2, rfl, rfl, rfl, h2, r2⟩ := trodAll_cons r1
  obtain ⟨v3, vs3, d_3, ds3, p3, q3, rfl, rfl, rfl, h3, r3⟩ := trodAll_cons r2
  obtain ⟨v4, vs4, d_4, ds4, p4, q4, rfl, rfl, rfl, h4, r4⟩ := trodAll_cons r3
  obtain ⟨rfl, rfl, rfl⟩ := trodAll_nil r4
  obtain rfl : args = #[v0, v1, v2, v3, v4] := by cases args; simp_all
  obtain ⟨rfl, rfl⟩ := trodVars_none hV
  obtain ⟨n0, d0, x0, y0, rfl, rfl, rfl, wn0, wd0, wx0, wy0⟩ := open_iclock (hval 0 27 v0 rfl rfl) h0
  obtain ⟨n1, d1, rfl, rfl, rfl, wn1, wd1⟩ := open_ispan (hval 1 28 v1 rfl rfl) h1
  obtain ⟨n2, d2, x2, y2, rfl, rfl, rfl, wn2, wd2, wx2, wy2⟩ := open_iclock (hval 2 27 v2 rfl rfl) h2
  obtain ⟨n3, d3, x3, y3, rfl, rfl, rfl, wn3, wd3, wx3, wy3⟩ := open_iclock (hval 3 27 v3 rfl rfl) h3
  obtain ⟨n4, d4, rfl, rfl, rfl, wn4, wd4⟩ := open_iturn (hval 4 25 v4 rfl rfl) h4
  clear hA0 hval0
  refine (walk n0 d0 x0 y0 n1 d1 n2 d2 x2 y2 n3 d3 x3 y3 n4 d4 (i64_of_wf wn0) (i64_of_wf wd0) (i64_of_wf wx0) (i64_of_wf wy0) (i64_of_wf wn1) (i64_of_wf wd1) (i64_of_wf wn2) (i64_of_wf wd2) (i64_of_wf wx2) (i64_of_wf wy2) (i64_of_wf wn3) (i64_of_wf wd3) (i64_of_wf wx3) (i64_of_wf wy3) (i64_of_wf wn4) (i64_of_wf wd4) W).mono fun e W' ⟨he, bel⟩ => ?_
  subst he
  exact ⟨_, rfl, _, _, _, [], _, [], hW', trodAll_mk1 (shut_bool Try.underlying4 _), (trodAll_cons_mk (shut_iclock wn0 wd0 wx0 wy0) (trodAll_cons_mk (shut_ispan wn1 wd1) (trodAll_cons_mk (shut_iclock wn2 wd2 wx2 wy2) (trodAll_cons_mk (shut_iclock wn3 wd3 wx3 wy3) (trodAll_cons_mk (shut_iturn wn4 wd4) trodAll_mk0))))), rfl, bel.frame _, fun h => by cases h⟩

theorem closed : joinedFacts Try.prog 4 Try.f4 Rows.fnClocksDriftOfAllSpec Rows.fnClocksDriftOfAllRow = true := by
  unfold joinedFacts
  rw [Try.fMake, Try.fEnter, Try.fLifts, Try.fMaps, Try.fLaid, Try.fHeard, Try.fKeys]
  kernel_rfl
theorem over : Rows.fnClocksDriftOfAllRow.holds Try.pinned (OpenSpec.ofChange Rows.fnClocksDriftOfAllSpec) :=
  OpenClaim.holds_of_wide 4 Try.f4 rfl rfl rfl rfl rfl rfl rfl ⟨rfl, rfl, rfl, rfl, rfl⟩ rfl rfl rfl rfl rfl (by kernel_rfl) Try.func4
    closed (of_decide_eq_true (by kernel_rfl)) (by unfold Func.isWrapper; first | (rw [if_pos (by decide +kernel)]; kernel_rfl) | (rw [if_neg (by decide +kernel)]; exact ⟨rfl, rfl⟩))
    (fun os started H enc _ => lifted os started H enc)

end Go.Proofs.Ythgghbehcammmaa.fnClocksDriftOfAll
namespace Go.Proofs.Ythgghbehcammmaa
/-- The statement. -/
theorem fnClocksDriftOfAll_proved : Rows.FnClocksDriftOfAllSaid := fnClocksDriftOfAll.over
#print axioms fnClocksDriftOfAll_proved
end Go.Proofs.Ythgghbehcammmaa
