/- FnDialsTurned: called with any arguments, the law returns true, and its arguments read behind the call as before. Conditions: none but the row's own. -/
import Derived.Test.YticdmochedadbaaGreatFacts
import Derived.Test.YticdmochedadbaaGreatRowI
import Derived.Test.YticdmochedadbaaGreatRowN
import Derived.Test.YticdmochedadbaaGreatTa0
import Derived.Test.YticdmochedadbaaGreatTaE
import Derived.Test.YticdmochedadbaaGreatDlT
import Derived.Test.YticdmochedadbaaGreatSeen8
import Derived.Test.YticdmochedadbaaGreatLate
import Derived.Test.YticdmochedadbaaGreatLate4
import Derived.Test.YticdmochedadbaaGreatEDraw2
import Derived.Test.YticdmochedadbaaGreatSBArg
import Derived.Deep.DeepCutAuto
set_option linter.unusedSimpArgs false
set_option linter.unusedVariables false
set_option maxRecDepth 100000
namespace Go.Proofs.YticdmochedadbaaGreat.fnDialsTurned
open Go.ChangeShapes Go.WideShapes Go.ChangeAt Go.RowKit
attribute [local go_sem ↓] Go.wp_at_zero Go.wp_at_succ run_neq_same run_neq_turn run_eql_turn run_neq_sameSeen run_neq_seen

set_option maxHeartbeats 16000000 in
theorem walk (w : World) (p1 p2 : Option Addr) (q1 q2 : Nat) (L1 L2 : List Int) (hi1 : BIn w p1 L1) (hi2 : BIn w p2 L2) (hm1 : L1.length ≤ maxLen) (hm2 : L2.length ≤ maxLen) :
    Calls Tryz.prog 3 #[.slice p1 L1.length q1, .slice p2 L2.length q2] w fun e w' => e = .returned (.bool true) ∧ Below w.heap.size w w' := by
  have HB1 := Lib.hid hi1
  have HB2 := Lib.hid hi2
  clear hi1 hi2
  cases hbg : bigB L1.length L2.length
  · obtain ⟨hlen1, hlen2⟩ := bigB_no hbg
    have HBG := Lib.hid hbg
    clear hbg
    (go_enter Tryz.func3, Tryz.ntmps3)
    go_wp2_with fail
    refine (big_is p1 p2 L1.length L2.length q1 q2 hm1 HBG.out _).mono ?_
    rintro e0 w0 ⟨rfl, rfl⟩
    go_wp2_with fail
    refine (DrawTimesTurned_any L1 p1 L1.length q1 rfl hlen1 _ HB1.out).mono ?_
    rintro e1 w1 ⟨a0, n1, d1, x1, y1, rfl, ⟨k0, kn1, kd1, kx1, ky1⟩, hb1⟩
    obtain ⟨hc1, hf1⟩ := bcell hb1
    have hz1 := hb1.size
    (try simp only [World.size_alloc, World.size_setCell, World.size_drew] at hz1)
    have B1 : Below w.heap.size w w1 := Below.trans (b := _) (by (repeat' (first | (with_reducible exact Below.refl _ _) | (with_reducible assumption) | (with_reducible refine Below.alloc ?_ ?_ _) | (with_reducible refine Below.drew ?_) | (with_reducible refine below_drewN ?_ _) | (with_reducible refine Below.setCell ?_ ?_ _) | (with_reducible refine below_call ?_ ?_ (by assumption)) | go_size))) (hb1.mono (by first | omega | (simp only [World.size_alloc, World.size_setCell, World.size_drew]; omega)))
    obtain ⟨hd1, -⟩ := bcell B1
    have BW1 : Below w.heap.size w w1 := B1
    clear hc1 hf1 hb1 hd1 B1 
    obtain ⟨TS, tok, hTS⟩ : ∃ l o, turR a0 n1 d1 x1 y1 = (l, o) := ⟨_, _, rfl⟩
    obtain ⟨TD, dok, hTD⟩ : ∃ l o, tdR (turR a0 n1 d1 x1 y1) n1 d1 = (l, o) := ⟨_, _, rfl⟩
    have C1 := Lib.hid (fun W => (show Calls Tryz.prog 6 #[.int .i64 a0, sn n1 d1 x1 y1] W (TurnsOut W TS tok) from by have := implTimesTurned_any a0 n1 d1 x1 y1 W; rw [hTS] at this; exact this))
    have C2 := Lib.hid (fun W => (show Calls Tryz.prog 7 #[.int .i64 a0, sn n1 d1 x1 y1] W (TurnsOut W TS tok) from by have := specTimesTurned_any a0 n1 d1 x1 y1 kd1 ky1 W; rw [hTS] at this; exact this))
    have C3 := Lib.hid (fun W => (show Calls Tryz.prog 8 #[.int .i64 a0, sn n1 d1 x1 y1] W (TurnsOut W TD dok) from by have := implTurnsOfDial_any a0 n1 d1 x1 y1 W; rw [hTD] at this; exact this))
    have C4 := Lib.hid (fun W => (show Calls Tryz.prog 9 #[.int .i64 a0, sn n1 d1 x1 y1] W (TurnsOut W TD dok) from by have := specTurnsOfDial_any a0 n1 d1 x1 y1 kd1 ky1 W; rw [hTD] at this; exact this))
    have HTS := Lib.hid (show TS.length ≤ 1000000 from by have := turR_len a0 n1 d1 x1 y1; rw [hTS] at this; exact this)
    have HTD := Lib.hid (show TD.length ≤ 1000000 from by have := tdR_len (R := turR a0 n1 d1 x1 y1) n1 d1 (turR_len a0 n1 d1 x1 y1); rw [hTD] at this; exact this)
    have F1 := Lib.hid (fun (e : dok = true) => td_all hTS (by rw [hTD, e] : tdR (turR a0 n1 d1 x1 y1) n1 d1 = (TD, true)))
    have F2 := Lib.hid (fun (e : tok = true) => turned_all (by rw [hTS, e] : turR a0 n1 d1 x1 y1 = (TS, true)))
    have F3 := Lib.hid (fun (e : tok = true) => (show ∀ x ∈ TS, seenOfT a0 x.1 x.2 = (x.1, x.2, lowNum (x.1 * a0) x.2, lowDen (x.1 * a0) x.2, true) from fun x hx => turned_seen (by rw [hTS, e] : turR a0 n1 d1 x1 y1 = (TS, true)) hx))
    have F4 := Lib.hid (fun (e : tok = true) => (show ∀ x ∈ TS, ∀ p q, lessT n1 d1 x.1 x.2 = (p, q, true) → turnT x.1 x.2 (lowNum (x.1 * a0) x.2) (lowDen (x.1 * a0) x.2) p q = (n1, d1, x1, y1, true) from fun x hx p q hl => turned_back (by rw [hTS, e] : turR a0 n1 d1 x1 y1 = (TS, true)) hx hl))
    clear hTS hTD
    go_wp2_with fail
    refine (C1.out _).mono ?_
    rintro e2 w2 ⟨v_ts, rfl, hr2, hb2⟩
    obtain ⟨pa_ts, pc_ts, rfl, -⟩ := TRow.cells hr2
    have R2_ts := Lib.hid hr2
    clear hr2
    obtain ⟨hc2, hf2⟩ := bcell hb2
    have hz2 := hb2.size
    (try simp only [World.size_alloc, World.size_setCell, World.size_drew] at hz2)
    have B2 : Below w1.heap.size w1 w2 := Below.trans (b := _) (by (repeat' (first | (with_reducible exact Below.refl _ _) | (with_reducible assumption) | (with_reducible refine Below.alloc ?_ ?_ _) | (with_reducible refine Below.drew ?_) | (with_reducible refine below_drewN ?_ _) | (with_reducible refine Below.setCell ?_ ?_ _) | (with_reducible refine below_call ?_ ?_ (by assumption)) | go_size))) (hb2.mono (by first | omega | (simp only [World.size_alloc, World.size_setCell, World.size_drew]; omega)))
    obtain ⟨hd2, -⟩ := bcell B2
    have c2_s_0 : w2.cell? ⟨w1.heap.size, 0, none⟩ = some (.int .i64 n1) := (hc2 _ _ (by go_size)).trans (by go_simp)
    have c2_s_1 : w2.cell? ⟨w1.heap.size, 1, none⟩ = some (.int .i64 d1) := (hc2 _ _ (by go_size)).trans (by go_simp)
    have c2_s_2 : w2.cell? ⟨w1.heap.size, 2, none⟩ = some (.int .i64 x1) := (hc2 _ _ (by go_size)).trans (by go_simp)
    have c2_s_3 : w2.cell? ⟨w1.heap.size, 3, none⟩ = some (.int .i64 y1) := (hc2 _ _ (by go_size)).trans (by go_simp)
    have q_s : w1.heap.size < w2.heap.size := by omega
    have BW2 : Below w.heap.size w w2 := BW1.trans (B2.mono BW1.size)
    clear hc2 hf2 hb2 hd2 B2  BW1
    go_wp2_with fail
    refine (C2.out _).mono ?_
    rintro e3 w3 ⟨v_right, rfl, hr3, hb3⟩
    obtain ⟨pa_right, pc_right, rfl, -⟩ := TRow.cells hr3
    have R3_right := Lib.hid hr3
    clear hr3
    obtain ⟨hc3, hf3⟩ := bcell hb3
    have hz3 := hb3.size
    (try simp only [World.size_alloc, World.size_setCell, World.size_drew] at hz3)
    have B3 : Below w2.heap.size w2 w3 := Below.trans (b := _) (by (repeat' (first | (with_reducible exact Below.refl _ _) | (with_reducible assumption) | (with_reducible refine Below.alloc ?_ ?_ _) | (with_reducible refine Below.drew ?_) | (with_reducible refine below_drewN ?_ _) | (with_reducible refine Below.setCell ?_ ?_ _) | (with_reducible refine below_call ?_ ?_ (by assumption)) | go_size))) (hb3.mono (by first | omega | (simp only [World.size_alloc, World.size_setCell, World.size_drew]; omega)))
    obtain ⟨hd3, -⟩ := bcell B3
    have c3_s_0 : w3.cell? ⟨w1.heap.size, 0, none⟩ = some (.int .i64 n1) := (hd3 _ _ q_s).trans c2_s_0
    have c3_s_1 : w3.cell? ⟨w1.heap.size, 1, none⟩ = some (.int .i64 d1) := (hd3 _ _ q_s).trans c2_s_1
    have c3_s_2 : w3.cell? ⟨w1.heap.size, 2, none⟩ = some (.int .i64 x1) := (hd3 _ _ q_s).trans c2_s_2
    have c3_s_3 : w3.cell? ⟨w1.heap.size, 3, none⟩ = some (.int .i64 y1) := (hd3 _ _ q_s).trans c2_s_3
    replace q_s : w1.heap.size < w3.heap.size := by omega
    have R3_ts := Lib.hid (TRow.below R2_ts.out B3)
    clear R2_ts
    have BW3 : Below w.heap.size w w3 := BW2.trans (B3.mono BW2.size)
    clear hc3 hf3 hb3 hd3 B3 c2_s_0 c2_s_1 c2_s_2 c2_s_3 BW2
    go_wp2_with fail
    refine (C3.out _).mono ?_
    rintro e4 w4 ⟨v_td, rfl, hr4, hb4⟩
    obtain ⟨pa_td, pc_td, rfl, -⟩ := TRow.cells hr4
    have R4_td := Lib.hid hr4
    clear hr4
    obtain ⟨hc4, hf4⟩ := bcell hb4
    have hz4 := hb4.size
    (try simp only [World.size_alloc, World.size_setCell, World.size_drew] at hz4)
    have B4 : Below w3.heap.size w3 w4 := Below.trans (b := _) (by (repeat' (first | (with_reducible exact Below.refl _ _) | (with_reducible assumption) | (with_reducible refine Below.alloc ?_ ?_ _) | (with_reducible refine Below.drew ?_) | (with_reducible refine below_drewN ?_ _) | (with_reducible refine Below.setCell ?_ ?_ _) | (with_reducible refine below_call ?_ ?_ (by assumption)) | go_size))) (hb4.mono (by first | omega | (simp only [World.size_alloc, World.size_setCell, World.size_drew]; omega)))
    obtain ⟨hd4, -⟩ := bcell B4
    have c4_s_0 : w4.cell? ⟨w1.heap.size, 0, none⟩ = some (.int .i64 n1) := (hd4 _ _ q_s).trans c3_s_0
    have c4_s_1 : w4.cell? ⟨w1.heap.size, 1, none⟩ = some (.int .i64 d1) := (hd4 _ _ q_s).trans c3_s_1
    have c4_s_2 : w4.cell? ⟨w1.heap.size, 2, none⟩ = some (.int .i64 x1) := (hd4 _ _ q_s).trans c3_s_2
    have c4_s_3 : w4.cell? ⟨w1.heap.size, 3, none⟩ = some (.int .i64 y1) := (hd4 _ _ q_s).trans c3_s_3
    replace q_s : w1.heap.size < w4.heap.size := by omega
    have R4_ts := Lib.hid (TRow.below R3_ts.out B4)
    clear R3_ts
    have R4_right := Lib.hid (TRow.below R3_right.out B4)
    clear R3_right
    have BW4 : Below w.heap.size w w4 := BW3.trans (B4.mono BW3.size)
    clear hc4 hf4 hb4 hd4 B4 c3_s_0 c3_s_1 c3_s_2 c3_s_3 BW3
    go_wp2_with fail
    refine (C4.out _).mono ?_
    rintro e5 w5 ⟨v_want, rfl, hr5, hb5⟩
    obtain ⟨pa_want, pc_want, rfl, -⟩ := TRow.cells hr5
    have R5_want := Lib.hid hr5
    clear hr5
    obtain ⟨hc5, hf5⟩ := bcell hb5
    have hz5 := hb5.size
    (try simp only [World.size_alloc, World.size_setCell, World.size_drew] at hz5)
    have B5 : Below w4.heap.size w4 w5 := Below.trans (b := _) (by (repeat' (first | (with_reducible exact Below.refl _ _) | (with_reducible assumption) | (with_reducible refine Below.alloc ?_ ?_ _) | (with_reducible refine Below.drew ?_) | (with_reducible refine below_drewN ?_ _) | (with_reducible refine Below.setCell ?_ ?_ _) | (with_reducible refine below_call ?_ ?_ (by assumption)) | go_size))) (hb5.mono (by first | omega | (simp only [World.size_alloc, World.size_setCell, World.size_drew]; omega)))
    obtain ⟨hd5, -⟩ := bcell B5
    have c5_s_0 : w5.cell? ⟨w1.heap.size, 0, none⟩ = some (.int .i64 n1) := (hd5 _ _ q_s).trans c4_s_0
    have c5_s_1 : w5.cell? ⟨w1.heap.size, 1, none⟩ = some (.int .i64 d1) := (hd5 _ _ q_s).trans c4_s_1
    have c5_s_2 : w5.cell? ⟨w1.heap.size, 2, none⟩ = some (.int .i64 x1) := (hd5 _ _ q_s).trans c4_s_2
    have c5_s_3 : w5.cell? ⟨w1.heap.size, 3, none⟩ = some (.int .i64 y1) := (hd5 _ _ q_s).trans c4_s_3
    replace q_s : w1.heap.size < w5.heap.size := by omega
    have R5_ts := Lib.hid (TRow.below R4_ts.out B5)
    clear R4_ts
    have R5_right := Lib.hid (TRow.below R4_right.out B5)
    clear R4_right
    have R5_td := Lib.hid (TRow.below R4_td.out B5)
    clear R4_td
    have BW5 : Below w.heap.size w w5 := BW4.trans (B5.mono BW4.size)
    clear hc5 hf5 hb5 hd5 B5 c4_s_0 c4_s_1 c4_s_2 c4_s_3 BW4
    go_upto_region 8 with fail
    go_cut [122] from 999 to 999 (fun x wx => x = .bool false ∧ Below w5.heap.size w5 wx)
    case first =>
      as_aux_lemma =>
        go_wp2_with fail
        refine (wTurns_same TS _ _ _ _ _ R5_ts.out R5_right.out HTS.out).mono ?_
        rintro e6 w6 ⟨rfl, hb6⟩
        obtain ⟨hc6, hf6⟩ := bcell hb6
        have hz6 := hb6.size
        (try simp only [World.size_alloc, World.size_setCell, World.size_drew] at hz6)
        have B6 : Below w5.heap.size w5 w6 := Below.trans (b := _) (by (repeat' (first | (with_reducible exact Below.refl _ _) | (with_reducible assumption) | (with_reducible refine Below.alloc ?_ ?_ _) | (with_reducible refine Below.drew ?_) | (with_reducible refine below_drewN ?_ _) | (with_reducible refine Below.setCell ?_ ?_ _) | (with_reducible refine below_call ?_ ?_ (by assumption)) | go_size))) (hb6.mono (by first | omega | (simp only [World.size_alloc, World.size_setCell, World.size_drew]; omega)))
        obtain ⟨hd6, -⟩ := bcell B6
        have c6_s_0 : w6.cell? ⟨w1.heap.size, 0, none⟩ = some (.int .i64 n1) := (hd6 _ _ q_s).trans c5_s_0
        have c6_s_1 : w6.cell? ⟨w1.heap.size, 1, none⟩ = some (.int .i64 d1) := (hd6 _ _ q_s).trans c5_s_1
        have c6_s_2 : w6.cell? ⟨w1.heap.size, 2, none⟩ = some (.int .i64 x1) := (hd6 _ _ q_s).trans c5_s_2
        have c6_s_3 : w6.cell? ⟨w1.heap.size, 3, none⟩ = some (.int .i64 y1) := (hd6 _ _ q_s).trans c5_s_3
        replace q_s : w1.heap.size < w6.heap.size := by omega
        have R6_ts := Lib.hid (TRow.below R5_ts.out B6)
        clear R5_ts
        have R6_right := Lib.hid (TRow.below R5_right.out B6)
        clear R5_right
        have R6_td := Lib.hid (TRow.below R5_td.out B6)
        clear R5_td
        have R6_want := Lib.hid (TRow.below R5_want.out B6)
        clear R5_want
        have BW6 : Below w.heap.size w w6 := BW5.trans (B6.mono BW5.size)
        have BX6 : Below w5.heap.size w5 w6 := B6
        clear hc6 hf6 hb6 hd6 B6 c5_s_0 c5_s_1 c5_s_2 c5_s_3 BW5
        go_wp2_with fail
        refine (wTurns_same TD _ _ _ _ _ R6_td.out R6_want.out HTD.out).mono ?_
        rintro e7 w7 ⟨rfl, hb7⟩
        obtain ⟨hc7, hf7⟩ := bcell hb7
        have hz7 := hb7.size
        (try simp only [World.size_alloc, World.size_setCell, World.size_drew] at hz7)
        have B7 : Below w6.heap.size w6 w7 := Below.trans (b := _) (by (repeat' (first | (with_reducible exact Below.refl _ _) | (with_reducible assumption) | (with_reducible refine Below.alloc ?_ ?_ _) | (with_reducible refine Below.drew ?_) | (with_reducible refine below_drewN ?_ _) | (with_reducible refine Below.setCell ?_ ?_ _) | (with_reducible refine below_call ?_ ?_ (by assumption)) | go_size))) (hb7.mono (by first | omega | (simp only [World.size_alloc, World.size_setCell, World.size_drew]; omega)))
        obtain ⟨hd7, -⟩ := bcell B7
        have c7_s_0 : w7.cell? ⟨w1.heap.size, 0, none⟩ = some (.int .i64 n1) := (hd7 _ _ q_s).trans c6_s_0
        have c7_s_1 : w7.cell? ⟨w1.heap.size, 1, none⟩ = some (.int .i64 d1) := (hd7 _ _ q_s).trans c6_s_1
        have c7_s_2 : w7.cell? ⟨w1.heap.size, 2, none⟩ = some (.int .i64 x1) := (hd7 _ _ q_s).trans c6_s_2
        have c7_s_3 : w7.cell? ⟨w1.heap.size, 3, none⟩ = some (.int .i64 y1) := (hd7 _ _ q_s).trans c6_s_3
        replace q_s : w1.heap.size < w7.heap.size := by omega
        have R7_ts := Lib.hid (TRow.below R6_ts.out B7)
        clear R6_ts
        have R7_right := Lib.hid (TRow.below R6_right.out B7)
        clear R6_right
        have R7_td := Lib.hid (TRow.below R6_td.out B7)
        clear R6_td
        have R7_want := Lib.hid (TRow.below R6_want.out B7)
        clear R6_want
        have BW7 : Below w.heap.size w w7 := BW6.trans (B7.mono BW6.size)
        have BX7 : Below w5.heap.size w5 w7 := BX6.trans (B7.mono BX6.size)
        clear BX6
        clear hc7 hf7 hb7 hd7 B7 c6_s_0 c6_s_1 c6_s_2 c6_s_3 BW6
        cases dok
        · go_wp2_with fail
          go_meet
          case rel => exact ⟨rfl, BX7⟩
        · have e := (F1.out rfl).1
          subst e
          go_wp2_with fail
          go_meet
          case rel => exact ⟨rfl, BX7⟩
    case rest =>
      obtain ⟨rfl, hb6⟩ := hcut
      obtain ⟨w6, hw6⟩ : ∃ x : World, x = wc := ⟨_, rfl⟩
      subst hw6
      obtain ⟨hc6, hf6⟩ := bcell hb6
      have hz6 := hb6.size
      (try simp only [World.size_alloc, World.size_setCell, World.size_drew] at hz6)
      have B6 : Below w5.heap.size w5 w6 := Below.trans (b := _) (by (repeat' (first | (with_reducible exact Below.refl _ _) | (with_reducible assumption) | (with_reducible refine Below.alloc ?_ ?_ _) | (with_reducible refine Below.drew ?_) | (with_reducible refine below_drewN ?_ _) | (with_reducible refine Below.setCell ?_ ?_ _) | (with_reducible refine below_call ?_ ?_ (by assumption)) | go_size))) (hb6.mono (by first | omega | (simp only [World.size_alloc, World.size_setCell, World.size_drew]; omega)))
      obtain ⟨hd6, -⟩ := bcell B6
      have c6_s_0 : w6.cell? ⟨w1.heap.size, 0, none⟩ = some (.int .i64 n1) := (hd6 _ _ q_s).trans c5_s_0
      have c6_s_1 : w6.cell? ⟨w1.heap.size, 1, none⟩ = some (.int .i64 d1) := (hd6 _ _ q_s).trans c5_s_1
      have c6_s_2 : w6.cell? ⟨w1.heap.size, 2, none⟩ = some (.int .i64 x1) := (hd6 _ _ q_s).trans c5_s_2
      have c6_s_3 : w6.cell? ⟨w1.heap.size, 3, none⟩ = some (.int .i64 y1) := (hd6 _ _ q_s).trans c5_s_3
      replace q_s : w1.heap.size < w6.heap.size := by omega
      have R6_ts := Lib.hid (TRow.below R5_ts.out B6)
      clear R5_ts
      have R6_right := Lib.hid (TRow.below R5_right.out B6)
      clear R5_right
      have R6_td := Lib.hid (TRow.below R5_td.out B6)
      clear R5_td
      have R6_want := Lib.hid (TRow.below R5_want.out B6)
      clear R5_want
      have BW6 : Below w.heap.size w w6 := BW5.trans (B6.mono BW5.size)
      clear hc6 hf6 hb6 hd6 B6 c5_s_0 c5_s_1 c5_s_2 c5_s_3 BW5
      clear R6_right
      clear R6_want
      go_upto_region 10 with fail
      go_cut [135] from 999 to 999 (fun x wx => x = .bool false ∧ Below w6.heap.size w6 wx)
      case first =>
        as_aux_lemma =>
          cases tok
          · go_wp2_with fail
            go_meet
            case rel => exact ⟨rfl, Below.refl _ _⟩
          · obtain ⟨⟨-, hh⟩, hl, hr, -, -⟩ := F2.out rfl
            have HR := Lib.hid hr
            have hw1 : IntKind.i64.wrap (a0 - 1) = a0 - 1 := by rw [IntKind.wrap_i64]; omega
            have hne : ((TS.length : Int) != a0 - 1) = false := by rw [hl]; simp
            clear hl hr
            go_wp2_with fail
            refine (wRises_yes TS _ _ _ R6_ts.out HTS.out HR.out).mono ?_
            rintro e7 w7 ⟨rfl, hb7⟩
            obtain ⟨hc7, hf7⟩ := bcell hb7
            have hz7 := hb7.size
            (try simp only [World.size_alloc, World.size_setCell, World.size_drew] at hz7)
            have B7 : Below w6.heap.size w6 w7 := Below.trans (b := _) (by (repeat' (first | (with_reducible exact Below.refl _ _) | (with_reducible assumption) | (with_reducible refine Below.alloc ?_ ?_ _) | (with_reducible refine Below.drew ?_) | (with_reducible refine below_drewN ?_ _) | (with_reducible refine Below.setCell ?_ ?_ _) | (with_reducible refine below_call ?_ ?_ (by assumption)) | go_size))) (hb7.mono (by first | omega | (simp only [World.size_alloc, World.size_setCell, World.size_drew]; omega)))
            obtain ⟨hd7, -⟩ := bcell B7
            have c7_s_0 : w7.cell? ⟨w1.heap.size, 0, none⟩ = some (.int .i64 n1) := (hd7 _ _ q_s).trans c6_s_0
            have c7_s_1 : w7.cell? ⟨w1.heap.size, 1, none⟩ = some (.int .i64 d1) := (hd7 _ _ q_s).trans c6_s_1
            have c7_s_2 : w7.cell? ⟨w1.heap.size, 2, none⟩ = some (.int .i64 x1) := (hd7 _ _ q_s).trans c6_s_2
            have c7_s_3 : w7.cell? ⟨w1.heap.size, 3, none⟩ = some (.int .i64 y1) := (hd7 _ _ q_s).trans c6_s_3
            replace q_s : w1.heap.size < w7.heap.size := by omega
            have R7_ts := Lib.hid (TRow.below R6_ts.out B7)
            clear R6_ts
            have R7_td := Lib.hid (TRow.below R6_td.out B7)
            clear R6_td
            have BW7 : Below w.heap.size w w7 := BW6.trans (B7.mono BW6.size)
            have BX7 : Below w6.heap.size w6 w7 := B7
            clear hc7 hf7 hb7 hd7 B7 c6_s_0 c6_s_1 c6_s_2 c6_s_3 BW6
            go_wp2_with fail
            go_meet
            case rel => exact ⟨rfl, BX7⟩
      case rest =>
        obtain ⟨rfl, hb7⟩ := hcut
        obtain ⟨w7, hw7⟩ : ∃ x : World, x = wc := ⟨_, rfl⟩
        subst hw7
        obtain ⟨hc7, hf7⟩ := bcell hb7
        have hz7 := hb7.size
        (try simp only [World.size_alloc, World.size_setCell, World.size_drew] at hz7)
        have B7 : Below w6.heap.size w6 w7 := Below.trans (b := _) (by (repeat' (first | (with_reducible exact Below.refl _ _) | (with_reducible assumption) | (with_reducible refine Below.alloc ?_ ?_ _) | (with_reducible refine Below.drew ?_) | (with_reducible refine below_drewN ?_ _) | (with_reducible refine Below.setCell ?_ ?_ _) | (with_reducible refine below_call ?_ ?_ (by assumption)) | go_size))) (hb7.mono (by first | omega | (simp only [World.size_alloc, World.size_setCell, World.size_drew]; omega)))
        obtain ⟨hd7, -⟩ := bcell B7
        have c7_s_0 : w7.cell? ⟨w1.heap.size, 0, none⟩ = some (.int .i64 n1) := (hd7 _ _ q_s).trans c6_s_0
        have c7_s_1 : w7.cell? ⟨w1.heap.size, 1, none⟩ = some (.int .i64 d1) := (hd7 _ _ q_s).trans c6_s_1
        have c7_s_2 : w7.cell? ⟨w1.heap.size, 2, none⟩ = some (.int .i64 x1) := (hd7 _ _ q_s).trans c6_s_2
        have c7_s_3 : w7.cell? ⟨w1.heap.size, 3, none⟩ = some (.int .i64 y1) := (hd7 _ _ q_s).trans c6_s_3
        replace q_s : w1.heap.size < w7.heap.size := by omega
        have R7_ts := Lib.hid (TRow.below R6_ts.out B7)
        clear R6_ts
        have R7_td := Lib.hid (TRow.below R6_td.out B7)
        clear R6_td
        have BW7 : Below w.heap.size w w7 := BW6.trans (B7.mono BW6.size)
        clear hc7 hf7 hb7 hd7 B7 c6_s_0 c6_s_1 c6_s_2 c6_s_3 BW6
        go_upto_if 136 with fail
        go_cut [] from 999 to 999 (fun wx => Below w7.heap.size w7 wx)
        case first =>
          as_aux_lemma =>
            cases dok
            · go_wp2_with fail
              go_meet
              case rel => exact Below.refl _ _
            · obtain ⟨f1, f2, f3⟩ := F1.out rfl
              subst f1
              obtain ⟨⟨fs, hh⟩, hl, hr, hin, -⟩ := F2.out rfl
              have G2 := Lib.hid f2
              have G3 := Lib.hid f3
              have G4 := Lib.hid (F3.out rfl)
              have G5 := Lib.hid (F4.out rfl)
              have hb : (TS.length : Int) ≤ 23 := by omega
              clear f2 f3 hl hr
              obtain ⟨ib, hib⟩ : ∃ b, trueB a0 n1 d1 x1 y1 = b := ⟨_, rfl⟩
              have ZI := Lib.hid (fun W => (show Calls Tryz.prog 14 #[.int .i64 a0, sn n1 d1 x1 y1] W fun e w' => e = .returned (bbv (ib, true)) ∧ Below W.heap.size W w' from by have := implIsTrueSeen_any a0 n1 d1 x1 y1 W; rw [show isTrueT a0 n1 d1 x1 y1 = (ib, true) from by unfold isTrueT; rw [if_pos fs, hib]] at this; exact this))
              have HIN := Lib.hid (fun (e : ib = true) => hasT_yes (hin (hib.trans e)))
              clear hib hin fs
              go_wp2_with fail
              go_loopw [139] (fun i wr => ∃ k : Nat, k ≤ TS.length ∧ i = .int .i64 (k : Int) ∧ Below w7.heap.size w7 wr) (fun i _ => TS.length - (RowKit.intOf i).toNat)
              case atStart => exact ⟨0, Nat.zero_le _, rfl, Below.refl _ _⟩
              case round =>
                obtain ⟨k, hk, rfl, hb8⟩ := hrel
                obtain ⟨w8, hw8⟩ : ∃ x : World, x = wr := ⟨_, rfl⟩
                subst hw8
                have hb8' := hb8
                obtain ⟨hc8, hf8⟩ := bcell hb8
                have hz8 := hb8.size
                (try simp only [World.size_alloc, World.size_setCell, World.size_drew] at hz8)
                have B8 : Below w7.heap.size w7 w8 := Below.trans (b := _) (by (repeat' (first | (with_reducible exact Below.refl _ _) | (with_reducible assumption) | (with_reducible refine Below.alloc ?_ ?_ _) | (with_reducible refine Below.drew ?_) | (with_reducible refine below_drewN ?_ _) | (with_reducible refine Below.setCell ?_ ?_ _) | (with_reducible refine below_call ?_ ?_ (by assumption)) | go_size))) (hb8.mono (by first | omega | (simp only [World.size_alloc, World.size_setCell, World.size_drew]; omega)))
                obtain ⟨hd8, -⟩ := bcell B8
                have c8_s_0 : w8.cell? ⟨w1.heap.size, 0, none⟩ = some (.int .i64 n1) := (hd8 _ _ q_s).trans c7_s_0
                have c8_s_1 : w8.cell? ⟨w1.heap.size, 1, none⟩ = some (.int .i64 d1) := (hd8 _ _ q_s).trans c7_s_1
                have c8_s_2 : w8.cell? ⟨w1.heap.size, 2, none⟩ = some (.int .i64 x1) := (hd8 _ _ q_s).trans c7_s_2
                have c8_s_3 : w8.cell? ⟨w1.heap.size, 3, none⟩ = some (.int .i64 y1) := (hd8 _ _ q_s).trans c7_s_3
                replace q_s : w1.heap.size < w8.heap.size := by omega
                have R8_ts := Lib.hid (TRow.below R7_ts.out B8)
                clear R7_ts
                have R8_td := Lib.hid (TRow.below R7_td.out B8)
                clear R7_td
                have BW8 : Below w.heap.size w w8 := BW7.trans (B8.mono BW7.size)
                have BX8 : Below w7.heap.size w7 w8 := B8
                clear hc8 hf8 hb8 hd8 B8 c7_s_0 c7_s_1 c7_s_2 c7_s_3 BW7
                have i0 : (0 : Int) ≤ (k : Int) := Int.natCast_nonneg _
                by_cases hlt : k < TS.length
                · have i1 : (k : Int) < (TS.length : Int) := by omega
                  have hmem : TS.getD k (0, 0) ∈ TS := by rw [List.getD_eq_getElem?_getD, List.getElem?_eq_getElem hlt]; exact List.getElem_mem hlt
                  obtain ⟨pa, pc, hpv, hl1, hl2, hcell⟩ := TRow.cells R8_ts.out
                  simp only [Value.slice.injEq] at hpv
                  obtain ⟨hp1, -, hp2⟩ := hpv
                  subst hp1
                  subst hp2
                  obtain ⟨ga, rfl, u1, u2a, u3a, u4a⟩ := hcell k (by omega)
                  clear hcell hl1 hl2 u1
                  have hk2 : k < TD.length := by have := G2.out; omega
                  have i2 : (k : Int) < (TD.length : Int) := by omega
                  obtain ⟨pa, pc, hpv, hl1, hl2, hcell⟩ := TRow.cells R8_td.out
                  simp only [Value.slice.injEq] at hpv
                  obtain ⟨hp1, -, hp2⟩ := hpv
                  subst hp1
                  subst hp2
                  obtain ⟨gb, rfl, u1, u2b, u3b, u4b⟩ := hcell k hk2
                  clear hcell hl1 hl2 u1
                  have hs := G4.out _ hmem
                  have hlss := G3.out k hlt
                  have ht := G5.out _ hmem _ _ hlss
                  clear hlss hmem
                  generalize TS.getD k (0, 0) = x at *
                  generalize TD.getD k (0, 0) = y at *
                  obtain ⟨p1, p2⟩ := x
                  obtain ⟨e1, e2⟩ := y
                  simp only at u3a u4a u3b u4b hs ht
                  generalize lowNum (p1 * a0) p2 = l1 at *
                  generalize lowDen (p1 * a0) p2 = l2 at *
                  have Z1 := Lib.hid (fun W => (show Calls Tryz.prog 12 #[.int .i64 a0, tv p1 p2] W fun e w' => e = .returned (rs (p1, p2, l1, l2, true)) ∧ Below W.heap.size W w' from by have := implSeenOf_any a0 p1 p2 W; rw [hs] at this; exact this))
                  have Z2 := Lib.hid (fun W => (show Calls Tryz.prog 13 #[sn p1 p2 l1 l2, tv e1 e2] W fun e w' => e = .returned (rs (n1, d1, x1, y1, true)) ∧ Below W.heap.size W w' from by have := implTurnSeen_any p1 p2 l1 l2 e1 e2 W; rw [ht] at this; exact this))
                  clear hs ht
                  go_wp2_with fail
                  refine (Z1.out _).mono ?_
                  rintro e9 w9 ⟨rfl, hb9⟩
                  obtain ⟨hc9, hf9⟩ := bcell hb9
                  have hz9 := hb9.size
                  (try simp only [World.size_alloc, World.size_setCell, World.size_drew] at hz9)
                  have B9 : Below w8.heap.size w8 w9 := Below.trans (b := _) (by (repeat' (first | (with_reducible exact Below.refl _ _) | (with_reducible assumption) | (with_reducible refine Below.alloc ?_ ?_ _) | (with_reducible refine Below.drew ?_) | (with_reducible refine below_drewN ?_ _) | (with_reducible refine Below.setCell ?_ ?_ _) | (with_reducible refine below_call ?_ ?_ (by assumption)) | go_size))) (hb9.mono (by first | omega | (simp only [World.size_alloc, World.size_setCell, World.size_drew]; omega)))
                  obtain ⟨hd9, -⟩ := bcell B9
                  have c9_s_0 : w9.cell? ⟨w1.heap.size, 0, none⟩ = some (.int .i64 n1) := (hd9 _ _ q_s).trans c8_s_0
                  have c9_s_1 : w9.cell? ⟨w1.heap.size, 1, none⟩ = some (.int .i64 d1) := (hd9 _ _ q_s).trans c8_s_1
                  have c9_s_2 : w9.cell? ⟨w1.heap.size, 2, none⟩ = some (.int .i64 x1) := (hd9 _ _ q_s).trans c8_s_2
                  have c9_s_3 : w9.cell? ⟨w1.heap.size, 3, none⟩ = some (.int .i64 y1) := (hd9 _ _ q_s).trans c8_s_3
                  replace q_s : w1.heap.size < w9.heap.size := by omega
                  have c9_x_0 : w9.cell? ⟨w8.heap.size, 0, none⟩ = some (.int .i64 p1) := (hc9 _ _ (by go_size)).trans (by go_simp)
                  have c9_x_1 : w9.cell? ⟨w8.heap.size, 1, none⟩ = some (.int .i64 p2) := (hc9 _ _ (by go_size)).trans (by go_simp)
                  have q_x : w8.heap.size < w9.heap.size := by omega
                  have R9_ts := Lib.hid (TRow.below R8_ts.out B9)
                  clear R8_ts
                  have R9_td := Lib.hid (TRow.below R8_td.out B9)
                  clear R8_td
                  have BW9 : Below w.heap.size w w9 := BW8.trans (B9.mono BW8.size)
                  have BX9 : Below w8.heap.size w8 w9 := B9
                  clear hc9 hf9 hb9 hd9 B9 c8_s_0 c8_s_1 c8_s_2 c8_s_3 BW8
                  go_upto_region 17 with fail
                  have hb10 : Below w9.heap.size w9 (w9.alloc (Obj.cells #[.int .i64 p1, .int .i64 p2, .int .i64 l1, .int .i64 l2] 27)) := by (repeat' (first | (with_reducible exact Below.refl _ _) | (with_reducible assumption) | (with_reducible refine Below.alloc ?_ ?_ _) | (with_reducible refine Below.drew ?_) | (with_reducible refine below_drewN ?_ _) | (with_reducible refine Below.setCell ?_ ?_ _) | (with_reducible refine below_call ?_ ?_ (by assumption)) | go_size))
                  have c10_seen_0 : (w9.alloc (Obj.cells #[.int .i64 p1, .int .i64 p2, .int .i64 l1, .int .i64 l2] 27)).cell? ⟨w9.heap.size, 0, none⟩ = some (.int .i64 p1) := by go_simp
                  have c10_seen_1 : (w9.alloc (Obj.cells #[.int .i64 p1, .int .i64 p2, .int .i64 l1, .int .i64 l2] 27)).cell? ⟨w9.heap.size, 1, none⟩ = some (.int .i64 p2) := by go_simp
                  have c10_seen_2 : (w9.alloc (Obj.cells #[.int .i64 p1, .int .i64 p2, .int .i64 l1, .int .i64 l2] 27)).cell? ⟨w9.heap.size, 2, none⟩ = some (.int .i64 l1) := by go_simp
                  have c10_seen_3 : (w9.alloc (Obj.cells #[.int .i64 p1, .int .i64 p2, .int .i64 l1, .int .i64 l2] 27)).cell? ⟨w9.heap.size, 3, none⟩ = some (.int .i64 l2) := by go_simp
                  have q_seen : w9.heap.size < (w9.alloc (Obj.cells #[.int .i64 p1, .int .i64 p2, .int .i64 l1, .int .i64 l2] 27)).heap.size := by go_size
                  generalize (w9.alloc (Obj.cells #[.int .i64 p1, .int .i64 p2, .int .i64 l1, .int .i64 l2] 27)) = w10 at *
                  obtain ⟨hd10, -⟩ := bcell hb10
                  have hz10 := hb10.size
                  have c10_s_0 : w10.cell? ⟨w1.heap.size, 0, none⟩ = some (.int .i64 n1) := (hd10 _ _ q_s).trans c9_s_0
                  have c10_s_1 : w10.cell? ⟨w1.heap.size, 1, none⟩ = some (.int .i64 d1) := (hd10 _ _ q_s).trans c9_s_1
                  have c10_s_2 : w10.cell? ⟨w1.heap.size, 2, none⟩ = some (.int .i64 x1) := (hd10 _ _ q_s).trans c9_s_2
                  have c10_s_3 : w10.cell? ⟨w1.heap.size, 3, none⟩ = some (.int .i64 y1) := (hd10 _ _ q_s).trans c9_s_3
                  have c10_x_0 : w10.cell? ⟨w8.heap.size, 0, none⟩ = some (.int .i64 p1) := (hd10 _ _ q_x).trans c9_x_0
                  have c10_x_1 : w10.cell? ⟨w8.heap.size, 1, none⟩ = some (.int .i64 p2) := (hd10 _ _ q_x).trans c9_x_1
                  replace q_s : w1.heap.size < w10.heap.size := by omega
                  replace q_x : w8.heap.size < w10.heap.size := by omega
                  have R10_ts := Lib.hid (TRow.below R9_ts.out hb10)
                  clear R9_ts
                  have R10_td := Lib.hid (TRow.below R9_td.out hb10)
                  clear R9_td
                  have BW10 : Below w.heap.size w w10 := BW9.trans (hb10.mono BW9.size)
                  have BX10 : Below w8.heap.size w8 w10 := BX9.trans (hb10.mono BX9.size)
                  clear BX9
                  clear hb10 hd10 c9_s_0 c9_s_1 c9_s_2 c9_s_3 c9_x_0 c9_x_1 BW9
                  obtain ⟨hdx, -⟩ := bcell BX10
                  have u3 := (hdx _ _ u2b).trans u3b
                  have u4 := (hdx _ _ u2b).trans u4b
                  have u2 : gb < w10.heap.size := by have := BX10.size; omega
                  clear hdx u3b u4b
                  go_wp2_with fail
                  refine wp_region_late 9 (t := 19) #[.int .i64 0, .int .i64 0, .int .i64 0, .int .i64 0] #[.int .i64 n1, .int .i64 d1, .int .i64 x1, .int .i64 y1] 27 (by kernel_rfl) (by kernel_rfl) rfl rfl rfl rfl rfl rfl (fun a w => ?run) ?_
                  case run => go_simp
                  simp only [List.take_succ_cons, List.take_zero, List.drop_succ_cons, List.drop_zero]
                  (apply wpB_take (hw := rfl); (intro wq hq; obtain ⟨hcq, hfq⟩ := bcell hq; unfold atB; go_simp; exact ⟨rfl, rfl⟩); simp only [Act.put, List.setIfInBounds_toArray, List.set_cons_zero, List.set_cons_succ])
                  (apply wpB_take (hw := rfl); (intro wq hq; obtain ⟨hcq, hfq⟩ := bcell hq; unfold atB; go_simp; exact ⟨rfl, rfl⟩); simp only [Act.put, List.setIfInBounds_toArray, List.set_cons_zero, List.set_cons_succ])
                  (apply wpB_take (hw := rfl); (intro wq hq; obtain ⟨hcq, hfq⟩ := bcell hq; unfold atB; go_simp; exact ⟨rfl, rfl⟩); simp only [Act.put, List.setIfInBounds_toArray, List.set_cons_zero, List.set_cons_succ])
                  (apply wpB_take (hw := rfl); (intro wq hq; obtain ⟨hcq, hfq⟩ := bcell hq; unfold atB; go_simp; exact ⟨rfl, rfl⟩); simp only [Act.put, List.setIfInBounds_toArray, List.set_cons_zero, List.set_cons_succ])
                  (apply wpB_take (hw := rfl); (intro wq hq; obtain ⟨hcq, hfq⟩ := bcell hq; unfold atB; go_simp; exact ⟨rfl, rfl⟩); simp only [Act.put, List.setIfInBounds_toArray, List.set_cons_zero, List.set_cons_succ])
                  (apply wpB_take (hw := rfl); (intro wq hq; unfold atB; go_simp; exact ⟨rfl, Z2.out _⟩); simp only [Act.put, List.setIfInBounds_toArray, List.set_cons_zero, List.set_cons_succ])
                  (apply wpB_take (hw := rfl); (intro wq hq; obtain ⟨hcq, hfq⟩ := bcell hq; unfold atB; go_simp; exact ⟨rfl, rfl⟩); simp only [Act.put, List.setIfInBounds_toArray, List.set_cons_zero, List.set_cons_succ])
                  (apply wpB_take (hw := rfl); (intro wq hq; obtain ⟨hcq, hfq⟩ := bcell hq; unfold atB; go_simp; exact ⟨rfl, rfl⟩); simp only [Act.put, List.setIfInBounds_toArray, List.set_cons_zero, List.set_cons_succ])
                  (apply wpB_take (hw := rfl); (intro wq hq; obtain ⟨hcq, hfq⟩ := bcell hq; unfold atB; go_simp; exact ⟨rfl, rfl⟩); simp only [Act.put, List.setIfInBounds_toArray, List.set_cons_zero, List.set_cons_succ])
                  refine ⟨fun p => fillOK4 fun b w hp hcq hfq => ?_, fun b11 w11 hb11 hq11 hp11 hv11 hn11 => ?_⟩
                  · subst hp
                    go_simp
                  obtain ⟨hc11, hf11⟩ := bcell hb11
                  have hz11 := hb11.size
                  (try simp only [World.size_alloc, World.size_setCell, World.size_drew] at hz11)
                  have B11 : Below w10.heap.size w10 w11 := Below.trans (b := _) (by (repeat' (first | (with_reducible exact Below.refl _ _) | (with_reducible assumption) | (with_reducible refine Below.alloc ?_ ?_ _) | (with_reducible refine Below.drew ?_) | (with_reducible refine below_drewN ?_ _) | (with_reducible refine Below.setCell ?_ ?_ _) | (with_reducible refine below_call ?_ ?_ (by assumption)) | go_size))) (hb11.mono (by first | omega | (simp only [World.size_alloc, World.size_setCell, World.size_drew]; omega)))
                  obtain ⟨hd11, -⟩ := bcell B11
                  have c11_s_0 : w11.cell? ⟨w1.heap.size, 0, none⟩ = some (.int .i64 n1) := (hd11 _ _ q_s).trans c10_s_0
                  have c11_s_1 : w11.cell? ⟨w1.heap.size, 1, none⟩ = some (.int .i64 d1) := (hd11 _ _ q_s).trans c10_s_1
                  have c11_s_2 : w11.cell? ⟨w1.heap.size, 2, none⟩ = some (.int .i64 x1) := (hd11 _ _ q_s).trans c10_s_2
                  have c11_s_3 : w11.cell? ⟨w1.heap.size, 3, none⟩ = some (.int .i64 y1) := (hd11 _ _ q_s).trans c10_s_3
                  have c11_x_0 : w11.cell? ⟨w8.heap.size, 0, none⟩ = some (.int .i64 p1) := (hd11 _ _ q_x).trans c10_x_0
                  have c11_x_1 : w11.cell? ⟨w8.heap.size, 1, none⟩ = some (.int .i64 p2) := (hd11 _ _ q_x).trans c10_x_1
                  have c11_seen_0 : w11.cell? ⟨w9.heap.size, 0, none⟩ = some (.int .i64 p1) := (hd11 _ _ q_seen).trans c10_seen_0
                  have c11_seen_1 : w11.cell? ⟨w9.heap.size, 1, none⟩ = some (.int .i64 p2) := (hd11 _ _ q_seen).trans c10_seen_1
                  have c11_seen_2 : w11.cell? ⟨w9.heap.size, 2, none⟩ = some (.int .i64 l1) := (hd11 _ _ q_seen).trans c10_seen_2
                  have c11_seen_3 : w11.cell? ⟨w9.heap.size, 3, none⟩ = some (.int .i64 l2) := (hd11 _ _ q_seen).trans c10_seen_3
                  replace q_s : w1.heap.size < w11.heap.size := by omega
                  replace q_x : w8.heap.size < w11.heap.size := by omega
                  replace q_seen : w9.heap.size < w11.heap.size := by omega
                  have R11_ts := Lib.hid (TRow.below R10_ts.out B11)
                  clear R10_ts
                  have R11_td := Lib.hid (TRow.below R10_td.out B11)
                  clear R10_td
                  have BW11 : Below w.heap.size w w11 := BW10.trans (B11.mono BW10.size)
                  have BX11 : Below w8.heap.size w8 w11 := BX10.trans (B11.mono BX10.size)
                  clear BX10
                  clear hc11 hf11 hb11 hd11 B11 c10_s_0 c10_s_1 c10_s_2 c10_s_3 c10_x_0 c10_x_1 c10_seen_0 c10_seen_1 c10_seen_2 c10_seen_3 BW10
                  have c11_moved_0 : w11.cell? ⟨b11, 0, none⟩ = some (.int .i64 n1) := (hv11 0).trans rfl
                  have c11_moved_1 : w11.cell? ⟨b11, 1, none⟩ = some (.int .i64 d1) := (hv11 1).trans rfl
                  have c11_moved_2 : w11.cell? ⟨b11, 2, none⟩ = some (.int .i64 x1) := (hv11 2).trans rfl
                  have c11_moved_3 : w11.cell? ⟨b11, 3, none⟩ = some (.int .i64 y1) := (hv11 3).trans rfl
                  have q_moved : b11 < w11.heap.size := hp11
                  clear hv11 hn11 hp11 hq11
                  try simp only [Act.put, List.setIfInBounds_toArray, List.set_cons_zero, List.set_cons_succ]
                  go_wp2_with fail
                  go_roundw
                  case rel => exact ⟨k + 1, by omega, by go_num, hb8'.trans (BX11.mono hb8'.size)⟩
                  case measure => simp [RowKit.intOf]; omega
                go_wp2_with fail
                refine (ZI.out _).mono ?_
                rintro e9 w9 ⟨rfl, hb9⟩
                obtain ⟨hc9, hf9⟩ := bcell hb9
                have hz9 := hb9.size
                (try simp only [World.size_alloc, World.size_setCell, World.size_drew] at hz9)
                have B9 : Below w8.heap.size w8 w9 := Below.trans (b := _) (by (repeat' (first | (with_reducible exact Below.refl _ _) | (with_reducible assumption) | (with_reducible refine Below.alloc ?_ ?_ _) | (with_reducible refine Below.drew ?_) | (with_reducible refine below_drewN ?_ _) | (with_reducible refine Below.setCell ?_ ?_ _) | (with_reducible refine below_call ?_ ?_ (by assumption)) | go_size))) (hb9.mono (by first | omega | (simp only [World.size_alloc, World.size_setCell, World.size_drew]; omega)))
                obtain ⟨hd9, -⟩ := bcell B9
                have c9_s_0 : w9.cell? ⟨w1.heap.size, 0, none⟩ = some (.int .i64 n1) := (hd9 _ _ q_s).trans c8_s_0
                have c9_s_1 : w9.cell? ⟨w1.heap.size, 1, none⟩ = some (.int .i64 d1) := (hd9 _ _ q_s).trans c8_s_1
                have c9_s_2 : w9.cell? ⟨w1.heap.size, 2, none⟩ = some (.int .i64 x1) := (hd9 _ _ q_s).trans c8_s_2
                have c9_s_3 : w9.cell? ⟨w1.heap.size, 3, none⟩ = some (.int .i64 y1) := (hd9 _ _ q_s).trans c8_s_3
                replace q_s : w1.heap.size < w9.heap.size := by omega
                have R9_ts := Lib.hid (TRow.below R8_ts.out B9)
                clear R8_ts
                have R9_td := Lib.hid (TRow.below R8_td.out B9)
                clear R8_td
                have BW9 : Below w.heap.size w w9 := BW8.trans (B9.mono BW8.size)
                have BX9 : Below w7.heap.size w7 w9 := BX8.trans (B9.mono BX8.size)
                clear BX8
                clear hc9 hf9 hb9 hd9 B9 c8_s_0 c8_s_1 c8_s_2 c8_s_3 BW8
                go_upto_region 22 with fail
                go_cut [187] from 999 to 999 (fun x wx => x = .bool false ∧ Below w9.heap.size w9 wx)
                case first =>
                  as_aux_lemma =>
                    cases ib
                    · go_wp2_with fail
                      go_meet
                      case rel => exact ⟨rfl, Below.refl _ _⟩
                    · have h10 := Lib.hid (HIN.out rfl)
                      go_wp2_with fail
                      refine (wHas_is TS _ _ _ _ _ h10.out R9_ts.out HTS.out).mono ?_
                      rintro e10 w10 ⟨rfl, hb10⟩
                      obtain ⟨hc10, hf10⟩ := bcell hb10
                      have hz10 := hb10.size
                      (try simp only [World.size_alloc, World.size_setCell, World.size_drew] at hz10)
                      have B10 : Below w9.heap.size w9 w10 := Below.trans (b := _) (by (repeat' (first | (with_reducible exact Below.refl _ _) | (with_reducible assumption) | (with_reducible refine Below.alloc ?_ ?_ _) | (with_reducible refine Below.drew ?_) | (with_reducible refine below_drewN ?_ _) | (with_reducible refine Below.setCell ?_ ?_ _) | (with_reducible refine below_call ?_ ?_ (by assumption)) | go_size))) (hb10.mono (by first | omega | (simp only [World.size_alloc, World.size_setCell, World.size_drew]; omega)))
                      obtain ⟨hd10, -⟩ := bcell B10
                      have c10_s_0 : w10.cell? ⟨w1.heap.size, 0, none⟩ = some (.int .i64 n1) := (hd10 _ _ q_s).trans c9_s_0
                      have c10_s_1 : w10.cell? ⟨w1.heap.size, 1, none⟩ = some (.int .i64 d1) := (hd10 _ _ q_s).trans c9_s_1
                      have c10_s_2 : w10.cell? ⟨w1.heap.size, 2, none⟩ = some (.int .i64 x1) := (hd10 _ _ q_s).trans c9_s_2
                      have c10_s_3 : w10.cell? ⟨w1.heap.size, 3, none⟩ = some (.int .i64 y1) := (hd10 _ _ q_s).trans c9_s_3
                      replace q_s : w1.heap.size < w10.heap.size := by omega
                      have R10_ts := Lib.hid (TRow.below R9_ts.out B10)
                      clear R9_ts
                      have R10_td := Lib.hid (TRow.below R9_td.out B10)
                      clear R9_td
                      have BW10 : Below w.heap.size w w10 := BW9.trans (B10.mono BW9.size)
                      have BX10 : Below w9.heap.size w9 w10 := B10
                      clear hc10 hf10 hb10 hd10 B10 c9_s_0 c9_s_1 c9_s_2 c9_s_3 BW9
                      go_wp2_with fail
                      go_meet
                      case rel => exact ⟨rfl, BX10⟩
                case rest =>
                  obtain ⟨rfl, hb10⟩ := hcut
                  obtain ⟨w10, hw10⟩ : ∃ x : World, x = wc := ⟨_, rfl⟩
                  subst hw10
                  obtain ⟨hc10, hf10⟩ := bcell hb10
                  have hz10 := hb10.size
                  (try simp only [World.size_alloc, World.size_setCell, World.size_drew] at hz10)
                  have B10 : Below w9.heap.size w9 w10 := Below.trans (b := _) (by (repeat' (first | (with_reducible exact Below.refl _ _) | (with_reducible assumption) | (with_reducible refine Below.alloc ?_ ?_ _) | (with_reducible refine Below.drew ?_) | (with_reducible refine below_drewN ?_ _) | (with_reducible refine Below.setCell ?_ ?_ _) | (with_reducible refine below_call ?_ ?_ (by assumption)) | go_size))) (hb10.mono (by first | omega | (simp only [World.size_alloc, World.size_setCell, World.size_drew]; omega)))
                  obtain ⟨hd10, -⟩ := bcell B10
                  have c10_s_0 : w10.cell? ⟨w1.heap.size, 0, none⟩ = some (.int .i64 n1) := (hd10 _ _ q_s).trans c9_s_0
                  have c10_s_1 : w10.cell? ⟨w1.heap.size, 1, none⟩ = some (.int .i64 d1) := (hd10 _ _ q_s).trans c9_s_1
                  have c10_s_2 : w10.cell? ⟨w1.heap.size, 2, none⟩ = some (.int .i64 x1) := (hd10 _ _ q_s).trans c9_s_2
                  have c10_s_3 : w10.cell? ⟨w1.heap.size, 3, none⟩ = some (.int .i64 y1) := (hd10 _ _ q_s).trans c9_s_3
                  replace q_s : w1.heap.size < w10.heap.size := by omega
                  have R10_ts := Lib.hid (TRow.below R9_ts.out B10)
                  clear R9_ts
                  have R10_td := Lib.hid (TRow.below R9_td.out B10)
                  clear R9_td
                  have BW10 : Below w.heap.size w w10 := BW9.trans (B10.mono BW9.size)
                  have BX10 : Below w7.heap.size w7 w10 := BX9.trans (B10.mono BX9.size)
                  clear BX9
                  clear hc10 hf10 hb10 hd10 B10 c9_s_0 c9_s_1 c9_s_2 c9_s_3 BW9
                  have hrelB := BX10
                  go_wp2_with fail
                  go_meet
                  case rel => exact hrelB
        case rest =>
          have hb8 := hcut
          obtain ⟨w8, hw8⟩ : ∃ x : World, x = wc := ⟨_, rfl⟩
          subst hw8
          obtain ⟨hc8, hf8⟩ := bcell hb8
          have hz8 := hb8.size
          (try simp only [World.size_alloc, World.size_setCell, World.size_drew] at hz8)
          have B8 : Below w7.heap.size w7 w8 := Below.trans (b := _) (by (repeat' (first | (with_reducible exact Below.refl _ _) | (with_reducible assumption) | (with_reducible refine Below.alloc ?_ ?_ _) | (with_reducible refine Below.drew ?_) | (with_reducible refine below_drewN ?_ _) | (with_reducible refine Below.setCell ?_ ?_ _) | (with_reducible refine below_call ?_ ?_ (by assumption)) | go_size))) (hb8.mono (by first | omega | (simp only [World.size_alloc, World.size_setCell, World.size_drew]; omega)))
          obtain ⟨hd8, -⟩ := bcell B8
          have c8_s_0 : w8.cell? ⟨w1.heap.size, 0, none⟩ = some (.int .i64 n1) := (hd8 _ _ q_s).trans c7_s_0
          have c8_s_1 : w8.cell? ⟨w1.heap.size, 1, none⟩ = some (.int .i64 d1) := (hd8 _ _ q_s).trans c7_s_1
          have c8_s_2 : w8.cell? ⟨w1.heap.size, 2, none⟩ = some (.int .i64 x1) := (hd8 _ _ q_s).trans c7_s_2
          have c8_s_3 : w8.cell? ⟨w1.heap.size, 3, none⟩ = some (.int .i64 y1) := (hd8 _ _ q_s).trans c7_s_3
          replace q_s : w1.heap.size < w8.heap.size := by omega
          have R8_ts := Lib.hid (TRow.below R7_ts.out B8)
          clear R7_ts
          have R8_td := Lib.hid (TRow.below R7_td.out B8)
          clear R7_td
          have BW8 : Below w.heap.size w w8 := BW7.trans (B8.mono BW7.size)
          clear hc8 hf8 hb8 hd8 B8 c7_s_0 c7_s_1 c7_s_2 c7_s_3 BW7
          clear R8_ts
          clear R8_td
          clear q_s c8_s_0 c8_s_1 c8_s_2 c8_s_3
          go_wp2_with fail
          refine (DrawTimesWithAngle_any L2 p2 L2.length q2 rfl hlen2 _ (BIn.below HB2.out (by (repeat' (first | (with_reducible exact Below.refl _ _) | (with_reducible assumption) | (with_reducible refine Below.alloc ?_ ?_ _) | (with_reducible refine Below.drew ?_) | (with_reducible refine below_drewN ?_ _) | (with_reducible refine Below.setCell ?_ ?_ _) | (with_reducible refine below_call ?_ ?_ (by assumption)) | go_size))))).mono ?_
          rintro e9 w9 ⟨a2, n3, d3, rfl, ⟨k2, kn3, kd3⟩, hb9⟩
          obtain ⟨hc9, hf9⟩ := bcell hb9
          have hz9 := hb9.size
          (try simp only [World.size_alloc, World.size_setCell, World.size_drew] at hz9)
          have B9 : Below w8.heap.size w8 w9 := Below.trans (b := _) (by (repeat' (first | (with_reducible exact Below.refl _ _) | (with_reducible assumption) | (with_reducible refine Below.alloc ?_ ?_ _) | (with_reducible refine Below.drew ?_) | (with_reducible refine below_drewN ?_ _) | (with_reducible refine Below.setCell ?_ ?_ _) | (with_reducible refine below_call ?_ ?_ (by assumption)) | go_size))) (hb9.mono (by first | omega | (simp only [World.size_alloc, World.size_setCell, World.size_drew]; omega)))
          obtain ⟨hd9, -⟩ := bcell B9
          have BW9 : Below w.heap.size w w9 := BW8.trans (B9.mono BW8.size)
          clear hc9 hf9 hb9 hd9 B9  BW8
          obtain ⟨WA, wo, hWA⟩ : ∃ l o, angR a2 n3 d3 = (l, o) := ⟨_, _, rfl⟩
          have C5 := Lib.hid (fun W => (show Calls Tryz.prog 17 #[.int .i64 a2, tv n3 d3] W (TurnsOut W WA wo) from by have := implTimesWithAngle_any a2 n3 d3 W; rw [hWA] at this; exact this))
          have C6 := Lib.hid (fun W => (show Calls Tryz.prog 18 #[.int .i64 a2, tv n3 d3] W (TurnsOut W WA wo) from by have := specTimesWithAngle_any a2 n3 d3 kd3 W; rw [hWA] at this; exact this))
          have HWA := Lib.hid (show WA.length ≤ 1000000 from by have := angR_len a2 n3 d3; rw [hWA] at this; exact this)
          have F5 := Lib.hid (fun (e : wo = true) => angle_all (by rw [hWA, e] : angR a2 n3 d3 = (WA, true)))
          clear hWA
          go_wp2_with fail
          refine (C5.out _).mono ?_
          rintro e10 w10 ⟨v_wa, rfl, hr10, hb10⟩
          obtain ⟨pa_wa, pc_wa, rfl, -⟩ := TRow.cells hr10
          have R10_wa := Lib.hid hr10
          clear hr10
          obtain ⟨hc10, hf10⟩ := bcell hb10
          have hz10 := hb10.size
          (try simp only [World.size_alloc, World.size_setCell, World.size_drew] at hz10)
          have B10 : Below w9.heap.size w9 w10 := Below.trans (b := _) (by (repeat' (first | (with_reducible exact Below.refl _ _) | (with_reducible assumption) | (with_reducible refine Below.alloc ?_ ?_ _) | (with_reducible refine Below.drew ?_) | (with_reducible refine below_drewN ?_ _) | (with_reducible refine Below.setCell ?_ ?_ _) | (with_reducible refine below_call ?_ ?_ (by assumption)) | go_size))) (hb10.mono (by first | omega | (simp only [World.size_alloc, World.size_setCell, World.size_drew]; omega)))
          obtain ⟨hd10, -⟩ := bcell B10
          have c10_an_0 : w10.cell? ⟨w9.heap.size, 0, none⟩ = some (.int .i64 n3) := (hc10 _ _ (by go_size)).trans (by go_simp)
          have c10_an_1 : w10.cell? ⟨w9.heap.size, 1, none⟩ = some (.int .i64 d3) := (hc10 _ _ (by go_size)).trans (by go_simp)
          have q_an : w9.heap.size < w10.heap.size := by omega
          have BW10 : Below w.heap.size w w10 := BW9.trans (B10.mono BW9.size)
          clear hc10 hf10 hb10 hd10 B10  BW9
          go_wp2_with fail
          refine (C6.out _).mono ?_
          rintro e11 w11 ⟨v_model, rfl, hr11, hb11⟩
          obtain ⟨pa_model, pc_model, rfl, -⟩ := TRow.cells hr11
          have R11_model := Lib.hid hr11
          clear hr11
          obtain ⟨hc11, hf11⟩ := bcell hb11
          have hz11 := hb11.size
          (try simp only [World.size_alloc, World.size_setCell, World.size_drew] at hz11)
          have B11 : Below w10.heap.size w10 w11 := Below.trans (b := _) (by (repeat' (first | (with_reducible exact Below.refl _ _) | (with_reducible assumption) | (with_reducible refine Below.alloc ?_ ?_ _) | (with_reducible refine Below.drew ?_) | (with_reducible refine below_drewN ?_ _) | (with_reducible refine Below.setCell ?_ ?_ _) | (with_reducible refine below_call ?_ ?_ (by assumption)) | go_size))) (hb11.mono (by first | omega | (simp only [World.size_alloc, World.size_setCell, World.size_drew]; omega)))
          obtain ⟨hd11, -⟩ := bcell B11
          have c11_an_0 : w11.cell? ⟨w9.heap.size, 0, none⟩ = some (.int .i64 n3) := (hd11 _ _ q_an).trans c10_an_0
          have c11_an_1 : w11.cell? ⟨w9.heap.size, 1, none⟩ = some (.int .i64 d3) := (hd11 _ _ q_an).trans c10_an_1
          replace q_an : w9.heap.size < w11.heap.size := by omega
          have R11_wa := Lib.hid (TRow.below R10_wa.out B11)
          clear R10_wa
          have BW11 : Below w.heap.size w w11 := BW10.trans (B11.mono BW10.size)
          clear hc11 hf11 hb11 hd11 B11 c10_an_0 c10_an_1 BW10
          go_wp2_with fail
          refine (DrawTimesInGlass_any L2 p2 L2.length q2 rfl hlen2 _ (BIn.below HB2.out (by (repeat' (first | (with_reducible exact Below.refl _ _) | (with_reducible assumption) | (with_reducible refine Below.alloc ?_ ?_ _) | (with_reducible refine Below.drew ?_) | (with_reducible refine below_drewN ?_ _) | (with_reducible refine Below.setCell ?_ ?_ _) | (with_reducible refine below_call ?_ ?_ (by assumption)) | go_size))))).mono ?_
          rintro e12 w12 ⟨a4, n5, d5, x5, y5, rfl, ⟨k4, kn5, kd5, kx5, ky5⟩, hb12⟩
          obtain ⟨hc12, hf12⟩ := bcell hb12
          have hz12 := hb12.size
          (try simp only [World.size_alloc, World.size_setCell, World.size_drew] at hz12)
          have B12 : Below w11.heap.size w11 w12 := Below.trans (b := _) (by (repeat' (first | (with_reducible exact Below.refl _ _) | (with_reducible assumption) | (with_reducible refine Below.alloc ?_ ?_ _) | (with_reducible refine Below.drew ?_) | (with_reducible refine below_drewN ?_ _) | (with_reducible refine Below.setCell ?_ ?_ _) | (with_reducible refine below_call ?_ ?_ (by assumption)) | go_size))) (hb12.mono (by first | omega | (simp only [World.size_alloc, World.size_setCell, World.size_drew]; omega)))
          obtain ⟨hd12, -⟩ := bcell B12
          have c12_an_0 : w12.cell? ⟨w9.heap.size, 0, none⟩ = some (.int .i64 n3) := (hd12 _ _ q_an).trans c11_an_0
          have c12_an_1 : w12.cell? ⟨w9.heap.size, 1, none⟩ = some (.int .i64 d3) := (hd12 _ _ q_an).trans c11_an_1
          replace q_an : w9.heap.size < w12.heap.size := by omega
          have R12_wa := Lib.hid (TRow.below R11_wa.out B12)
          clear R11_wa
          have R12_model := Lib.hid (TRow.below R11_model.out B12)
          clear R11_model
          have BW12 : Below w.heap.size w w12 := BW11.trans (B12.mono BW11.size)
          clear hc12 hf12 hb12 hd12 B12 c11_an_0 c11_an_1 BW11
          obtain ⟨GL, gok, hGL⟩ : ∃ l o, twoR a4 n5 d5 x5 y5 (mirQ n5 d5 x5 y5) = (l, o) := ⟨_, _, rfl⟩
          have C7 := Lib.hid (fun W => (show Calls Tryz.prog 20 #[.int .i64 a4, sn n5 d5 x5 y5] W (TurnsOut W GL gok) from by have := implTimesInGlass_any a4 n5 d5 x5 y5 W; rw [hGL] at this; exact this))
          have C8 := Lib.hid (fun W => (show Calls Tryz.prog 21 #[.int .i64 a4, sn n5 d5 x5 y5] W (TurnsOut W GL gok) from by have := specTimesInGlass_any a4 n5 d5 x5 y5 kd5 ky5 W; rw [hGL] at this; exact this))
          have HGL := Lib.hid (show GL.length ≤ 1000000 from by have := twoR_len a4 n5 d5 x5 y5 (mirQ n5 d5 x5 y5); rw [hGL] at this; exact this)
          have F6 := Lib.hid (fun (e : gok = true) => glass_all (by rw [hGL, e] : twoR a4 n5 d5 x5 y5 (mirQ n5 d5 x5 y5) = (GL, true)))
          have F9 := Lib.hid (fun (e : gok = true) => glass_two (by rw [hGL, e] : twoR a4 n5 d5 x5 y5 (mirQ n5 d5 x5 y5) = (GL, true)))
          clear hGL
          go_wp2_with fail
          refine (C7.out _).mono ?_
          rintro e13 w13 ⟨v_gl, rfl, hr13, hb13⟩
          obtain ⟨pa_gl, pc_gl, rfl, -⟩ := TRow.cells hr13
          have R13_gl := Lib.hid hr13
          clear hr13
          obtain ⟨hc13, hf13⟩ := bcell hb13
          have hz13 := hb13.size
          (try simp only [World.size_alloc, World.size_setCell, World.size_drew] at hz13)
          have B13 : Below w12.heap.size w12 w13 := Below.trans (b := _) (by (repeat' (first | (with_reducible exact Below.refl _ _) | (with_reducible assumption) | (with_reducible refine Below.alloc ?_ ?_ _) | (with_reducible refine Below.drew ?_) | (with_reducible refine below_drewN ?_ _) | (with_reducible refine Below.setCell ?_ ?_ _) | (with_reducible refine below_call ?_ ?_ (by assumption)) | go_size))) (hb13.mono (by first | omega | (simp only [World.size_alloc, World.size_setCell, World.size_drew]; omega)))
          obtain ⟨hd13, -⟩ := bcell B13
          have c13_an_0 : w13.cell? ⟨w9.heap.size, 0, none⟩ = some (.int .i64 n3) := (hd13 _ _ q_an).trans c12_an_0
          have c13_an_1 : w13.cell? ⟨w9.heap.size, 1, none⟩ = some (.int .i64 d3) := (hd13 _ _ q_an).trans c12_an_1
          replace q_an : w9.heap.size < w13.heap.size := by omega
          have c13_q_0 : w13.cell? ⟨w12.heap.size, 0, none⟩ = some (.int .i64 n5) := (hc13 _ _ (by go_size)).trans (by go_simp)
          have c13_q_1 : w13.cell? ⟨w12.heap.size, 1, none⟩ = some (.int .i64 d5) := (hc13 _ _ (by go_size)).trans (by go_simp)
          have c13_q_2 : w13.cell? ⟨w12.heap.size, 2, none⟩ = some (.int .i64 x5) := (hc13 _ _ (by go_size)).trans (by go_simp)
          have c13_q_3 : w13.cell? ⟨w12.heap.size, 3, none⟩ = some (.int .i64 y5) := (hc13 _ _ (by go_size)).trans (by go_simp)
          have q_q : w12.heap.size < w13.heap.size := by omega
          have R13_wa := Lib.hid (TRow.below R12_wa.out B13)
          clear R12_wa
          have R13_model := Lib.hid (TRow.below R12_model.out B13)
          clear R12_model
          have BW13 : Below w.heap.size w w13 := BW12.trans (B13.mono BW12.size)
          clear hc13 hf13 hb13 hd13 B13 c12_an_0 c12_an_1 BW12
          go_wp2_with fail
          refine (C8.out _).mono ?_
          rintro e14 w14 ⟨v_value, rfl, hr14, hb14⟩
          obtain ⟨pa_value, pc_value, rfl, -⟩ := TRow.cells hr14
          have R14_value := Lib.hid hr14
          clear hr14
          obtain ⟨hc14, hf14⟩ := bcell hb14
          have hz14 := hb14.size
          (try simp only [World.size_alloc, World.size_setCell, World.size_drew] at hz14)
          have B14 : Below w13.heap.size w13 w14 := Below.trans (b := _) (by (repeat' (first | (with_reducible exact Below.refl _ _) | (with_reducible assumption) | (with_reducible refine Below.alloc ?_ ?_ _) | (with_reducible refine Below.drew ?_) | (with_reducible refine below_drewN ?_ _) | (with_reducible refine Below.setCell ?_ ?_ _) | (with_reducible refine below_call ?_ ?_ (by assumption)) | go_size))) (hb14.mono (by first | omega | (simp only [World.size_alloc, World.size_setCell, World.size_drew]; omega)))
          obtain ⟨hd14, -⟩ := bcell B14
          have c14_an_0 : w14.cell? ⟨w9.heap.size, 0, none⟩ = some (.int .i64 n3) := (hd14 _ _ q_an).trans c13_an_0
          have c14_an_1 : w14.cell? ⟨w9.heap.size, 1, none⟩ = some (.int .i64 d3) := (hd14 _ _ q_an).trans c13_an_1
          have c14_q_0 : w14.cell? ⟨w12.heap.size, 0, none⟩ = some (.int .i64 n5) := (hd14 _ _ q_q).trans c13_q_0
          have c14_q_1 : w14.cell? ⟨w12.heap.size, 1, none⟩ = some (.int .i64 d5) := (hd14 _ _ q_q).trans c13_q_1
          have c14_q_2 : w14.cell? ⟨w12.heap.size, 2, none⟩ = some (.int .i64 x5) := (hd14 _ _ q_q).trans c13_q_2
          have c14_q_3 : w14.cell? ⟨w12.heap.size, 3, none⟩ = some (.int .i64 y5) := (hd14 _ _ q_q).trans c13_q_3
          replace q_an : w9.heap.size < w14.heap.size := by omega
          replace q_q : w12.heap.size < w14.heap.size := by omega
          have R14_wa := Lib.hid (TRow.below R13_wa.out B14)
          clear R13_wa
          have R14_model := Lib.hid (TRow.below R13_model.out B14)
          clear R13_model
          have R14_gl := Lib.hid (TRow.below R13_gl.out B14)
          clear R13_gl
          have BW14 : Below w.heap.size w w14 := BW13.trans (B14.mono BW13.size)
          clear hc14 hf14 hb14 hd14 B14 c13_an_0 c13_an_1 c13_q_0 c13_q_1 c13_q_2 c13_q_3 BW13
          go_wp2_with fail
          refine (DrawMirrorSeen_any L2 p2 L2.length q2 rfl hlen2 _ (BIn.below HB2.out (by (repeat' (first | (with_reducible exact Below.refl _ _) | (with_reducible assumption) | (with_reducible refine Below.alloc ?_ ?_ _) | (with_reducible refine Below.drew ?_) | (with_reducible refine below_drewN ?_ _) | (with_reducible refine Below.setCell ?_ ?_ _) | (with_reducible refine below_call ?_ ?_ (by assumption)) | go_size))))).mono ?_
          rintro e15 w15 ⟨n6, d6, x6, y6, rfl, ⟨kn6, kd6, kx6, ky6⟩, hb15⟩
          obtain ⟨hc15, hf15⟩ := bcell hb15
          have hz15 := hb15.size
          (try simp only [World.size_alloc, World.size_setCell, World.size_drew] at hz15)
          have B15 : Below w14.heap.size w14 w15 := Below.trans (b := _) (by (repeat' (first | (with_reducible exact Below.refl _ _) | (with_reducible assumption) | (with_reducible refine Below.alloc ?_ ?_ _) | (with_reducible refine Below.drew ?_) | (with_reducible refine below_drewN ?_ _) | (with_reducible refine Below.setCell ?_ ?_ _) | (with_reducible refine below_call ?_ ?_ (by assumption)) | go_size))) (hb15.mono (by first | omega | (simp only [World.size_alloc, World.size_setCell, World.size_drew]; omega)))
          obtain ⟨hd15, -⟩ := bcell B15
          have c15_an_0 : w15.cell? ⟨w9.heap.size, 0, none⟩ = some (.int .i64 n3) := (hd15 _ _ q_an).trans c14_an_0
          have c15_an_1 : w15.cell? ⟨w9.heap.size, 1, none⟩ = some (.int .i64 d3) := (hd15 _ _ q_an).trans c14_an_1
          have c15_q_0 : w15.cell? ⟨w12.heap.size, 0, none⟩ = some (.int .i64 n5) := (hd15 _ _ q_q).trans c14_q_0
          have c15_q_1 : w15.cell? ⟨w12.heap.size, 1, none⟩ = some (.int .i64 d5) := (hd15 _ _ q_q).trans c14_q_1
          have c15_q_2 : w15.cell? ⟨w12.heap.size, 2, none⟩ = some (.int .i64 x5) := (hd15 _ _ q_q).trans c14_q_2
          have c15_q_3 : w15.cell? ⟨w12.heap.size, 3, none⟩ = some (.int .i64 y5) := (hd15 _ _ q_q).trans c14_q_3
          replace q_an : w9.heap.size < w15.heap.size := by omega
          replace q_q : w12.heap.size < w15.heap.size := by omega
          have R15_wa := Lib.hid (TRow.below R14_wa.out B15)
          clear R14_wa
          have R15_model := Lib.hid (TRow.below R14_model.out B15)
          clear R14_model
          have R15_gl := Lib.hid (TRow.below R14_gl.out B15)
          clear R14_gl
          have R15_value := Lib.hid (TRow.below R14_value.out B15)
          clear R14_value
          have BW15 : Below w.heap.size w w15 := BW14.trans (B15.mono BW14.size)
          clear hc15 hf15 hb15 hd15 B15 c14_an_0 c14_an_1 c14_q_0 c14_q_1 c14_q_2 c14_q_3 BW14
          obtain ⟨m1, m2, m3, m4, mo, hM⟩ : ∃ a b c e o, mirT n6 d6 x6 y6 = (a, b, c, e, o) := ⟨_, _, _, _, _, rfl⟩
          have C9 := Lib.hid (fun W => (show Calls Tryz.prog 23 #[sn n6 d6 x6 y6] W fun e w' => e = .returned (rs (m1, m2, m3, m4, mo)) ∧ Below W.heap.size W w' from by have := implMirrorSeen_any n6 d6 x6 y6 W; rw [hM] at this; exact this))
          have C10 := Lib.hid (fun W => (show Calls Tryz.prog 24 #[sn n6 d6 x6 y6] W fun e w' => e = .returned (rs (m1, m2, m3, m4, mo)) ∧ Below W.heap.size W w' from by have := specMirrorSeen_any n6 d6 x6 y6 kd6 ky6 W; rw [hM] at this; exact this))
          have F7 := Lib.hid (mir_back hM)
          clear hM
          go_wp2_with fail
          refine (C9.out _).mono ?_
          rintro e16 w16 ⟨rfl, hb16⟩
          obtain ⟨hc16, hf16⟩ := bcell hb16
          have hz16 := hb16.size
          (try simp only [World.size_alloc, World.size_setCell, World.size_drew] at hz16)
          have B16 : Below w15.heap.size w15 w16 := Below.trans (b := _) (by (repeat' (first | (with_reducible exact Below.refl _ _) | (with_reducible assumption) | (with_reducible refine Below.alloc ?_ ?_ _) | (with_reducible refine Below.drew ?_) | (with_reducible refine below_drewN ?_ _) | (with_reducible refine Below.setCell ?_ ?_ _) | (with_reducible refine below_call ?_ ?_ (by assumption)) | go_size))) (hb16.mono (by first | omega | (simp only [World.size_alloc, World.size_setCell, World.size_drew]; omega)))
          obtain ⟨hd16, -⟩ := bcell B16
          have c16_an_0 : w16.cell? ⟨w9.heap.size, 0, none⟩ = some (.int .i64 n3) := (hd16 _ _ q_an).trans c15_an_0
          have c16_an_1 : w16.cell? ⟨w9.heap.size, 1, none⟩ = some (.int .i64 d3) := (hd16 _ _ q_an).trans c15_an_1
          have c16_q_0 : w16.cell? ⟨w12.heap.size, 0, none⟩ = some (.int .i64 n5) := (hd16 _ _ q_q).trans c15_q_0
          have c16_q_1 : w16.cell? ⟨w12.heap.size, 1, none⟩ = some (.int .i64 d5) := (hd16 _ _ q_q).trans c15_q_1
          have c16_q_2 : w16.cell? ⟨w12.heap.size, 2, none⟩ = some (.int .i64 x5) := (hd16 _ _ q_q).trans c15_q_2
          have c16_q_3 : w16.cell? ⟨w12.heap.size, 3, none⟩ = some (.int .i64 y5) := (hd16 _ _ q_q).trans c15_q_3
          replace q_an : w9.heap.size < w16.heap.size := by omega
          replace q_q : w12.heap.size < w16.heap.size := by omega
          have c16_m_0 : w16.cell? ⟨w15.heap.size, 0, none⟩ = some (.int .i64 n6) := (hc16 _ _ (by go_size)).trans (by go_simp)
          have c16_m_1 : w16.cell? ⟨w15.heap.size, 1, none⟩ = some (.int .i64 d6) := (hc16 _ _ (by go_size)).trans (by go_simp)
          have c16_m_2 : w16.cell? ⟨w15.heap.size, 2, none⟩ = some (.int .i64 x6) := (hc16 _ _ (by go_size)).trans (by go_simp)
          have c16_m_3 : w16.cell? ⟨w15.heap.size, 3, none⟩ = some (.int .i64 y6) := (hc16 _ _ (by go_size)).trans (by go_simp)
          have q_m : w15.heap.size < w16.heap.size := by omega
          have R16_wa := Lib.hid (TRow.below R15_wa.out B16)
          clear R15_wa
          have R16_model := Lib.hid (TRow.below R15_model.out B16)
          clear R15_model
          have R16_gl := Lib.hid (TRow.below R15_gl.out B16)
          clear R15_gl
          have R16_value := Lib.hid (TRow.below R15_value.out B16)
          clear R15_value
          have BW16 : Below w.heap.size w w16 := BW15.trans (B16.mono BW15.size)
          clear hc16 hf16 hb16 hd16 B16 c15_an_0 c15_an_1 c15_q_0 c15_q_1 c15_q_2 c15_q_3 BW15
          go_wp2_with fail
          refine (C10.out _).mono ?_
          rintro e17 w17 ⟨rfl, hb17⟩
          obtain ⟨hc17, hf17⟩ := bcell hb17
          have hz17 := hb17.size
          (try simp only [World.size_alloc, World.size_setCell, World.size_drew] at hz17)
          have B17 : Below w16.heap.size w16 w17 := Below.trans (b := _) (by (repeat' (first | (with_reducible exact Below.refl _ _) | (with_reducible assumption) | (with_reducible refine Below.alloc ?_ ?_ _) | (with_reducible refine Below.drew ?_) | (with_reducible refine below_drewN ?_ _) | (with_reducible refine Below.setCell ?_ ?_ _) | (with_reducible refine below_call ?_ ?_ (by assumption)) | go_size))) (hb17.mono (by first | omega | (simp only [World.size_alloc, World.size_setCell, World.size_drew]; omega)))
          obtain ⟨hd17, -⟩ := bcell B17
          have c17_an_0 : w17.cell? ⟨w9.heap.size, 0, none⟩ = some (.int .i64 n3) := (hd17 _ _ q_an).trans c16_an_0
          have c17_an_1 : w17.cell? ⟨w9.heap.size, 1, none⟩ = some (.int .i64 d3) := (hd17 _ _ q_an).trans c16_an_1
          have c17_q_0 : w17.cell? ⟨w12.heap.size, 0, none⟩ = some (.int .i64 n5) := (hd17 _ _ q_q).trans c16_q_0
          have c17_q_1 : w17.cell? ⟨w12.heap.size, 1, none⟩ = some (.int .i64 d5) := (hd17 _ _ q_q).trans c16_q_1
          have c17_q_2 : w17.cell? ⟨w12.heap.size, 2, none⟩ = some (.int .i64 x5) := (hd17 _ _ q_q).trans c16_q_2
          have c17_q_3 : w17.cell? ⟨w12.heap.size, 3, none⟩ = some (.int .i64 y5) := (hd17 _ _ q_q).trans c16_q_3
          have c17_m_0 : w17.cell? ⟨w15.heap.size, 0, none⟩ = some (.int .i64 n6) := (hd17 _ _ q_m).trans c16_m_0
          have c17_m_1 : w17.cell? ⟨w15.heap.size, 1, none⟩ = some (.int .i64 d6) := (hd17 _ _ q_m).trans c16_m_1
          have c17_m_2 : w17.cell? ⟨w15.heap.size, 2, none⟩ = some (.int .i64 x6) := (hd17 _ _ q_m).trans c16_m_2
          have c17_m_3 : w17.cell? ⟨w15.heap.size, 3, none⟩ = some (.int .i64 y6) := (hd17 _ _ q_m).trans c16_m_3
          replace q_an : w9.heap.size < w17.heap.size := by omega
          replace q_q : w12.heap.size < w17.heap.size := by omega
          replace q_m : w15.heap.size < w17.heap.size := by omega
          have c17_mirror_0 : w17.cell? ⟨w16.heap.size, 0, none⟩ = some (.int .i64 m1) := (hc17 _ _ (by go_size)).trans (by go_simp)
          have c17_mirror_1 : w17.cell? ⟨w16.heap.size, 1, none⟩ = some (.int .i64 m2) := (hc17 _ _ (by go_size)).trans (by go_simp)
          have c17_mirror_2 : w17.cell? ⟨w16.heap.size, 2, none⟩ = some (.int .i64 m3) := (hc17 _ _ (by go_size)).trans (by go_simp)
          have c17_mirror_3 : w17.cell? ⟨w16.heap.size, 3, none⟩ = some (.int .i64 m4) := (hc17 _ _ (by go_size)).trans (by go_simp)
          have q_mirror : w16.heap.size < w17.heap.size := by omega
          have R17_wa := Lib.hid (TRow.below R16_wa.out B17)
          clear R16_wa
          have R17_model := Lib.hid (TRow.below R16_model.out B17)
          clear R16_model
          have R17_gl := Lib.hid (TRow.below R16_gl.out B17)
          clear R16_gl
          have R17_value := Lib.hid (TRow.below R16_value.out B17)
          clear R16_value
          have BW17 : Below w.heap.size w w17 := BW16.trans (B17.mono BW16.size)
          clear hc17 hf17 hb17 hd17 B17 c16_an_0 c16_an_1 c16_q_0 c16_q_1 c16_q_2 c16_q_3 c16_m_0 c16_m_1 c16_m_2 c16_m_3 BW16
          go_wp2_with fail
          refine (DrawTurnSeen_any L2 p2 L2.length q2 rfl hlen2 _ (BIn.below HB2.out (by (repeat' (first | (with_reducible exact Below.refl _ _) | (with_reducible assumption) | (with_reducible refine Below.alloc ?_ ?_ _) | (with_reducible refine Below.drew ?_) | (with_reducible refine below_drewN ?_ _) | (with_reducible refine Below.setCell ?_ ?_ _) | (with_reducible refine below_call ?_ ?_ (by assumption)) | go_size))))).mono ?_
          rintro e18 w18 ⟨n7, d7, x7, y7, n8, d8, rfl, ⟨⟨kn7, kd7, kx7, ky7⟩, kn8, kd8⟩, hb18⟩
          obtain ⟨hc18, hf18⟩ := bcell hb18
          have hz18 := hb18.size
          (try simp only [World.size_alloc, World.size_setCell, World.size_drew] at hz18)
          have B18 : Below w17.heap.size w17 w18 := Below.trans (b := _) (by (repeat' (first | (with_reducible exact Below.refl _ _) | (with_reducible assumption) | (with_reducible refine Below.alloc ?_ ?_ _) | (with_reducible refine Below.drew ?_) | (with_reducible refine below_drewN ?_ _) | (with_reducible refine Below.setCell ?_ ?_ _) | (with_reducible refine below_call ?_ ?_ (by assumption)) | go_size))) (hb18.mono (by first | omega | (simp only [World.size_alloc, World.size_setCell, World.size_drew]; omega)))
          obtain ⟨hd18, -⟩ := bcell B18
          have c18_an_0 : w18.cell? ⟨w9.heap.size, 0, none⟩ = some (.int .i64 n3) := (hd18 _ _ q_an).trans c17_an_0
          have c18_an_1 : w18.cell? ⟨w9.heap.size, 1, none⟩ = some (.int .i64 d3) := (hd18 _ _ q_an).trans c17_an_1
          have c18_q_0 : w18.cell? ⟨w12.heap.size, 0, none⟩ = some (.int .i64 n5) := (hd18 _ _ q_q).trans c17_q_0
          have c18_q_1 : w18.cell? ⟨w12.heap.size, 1, none⟩ = some (.int .i64 d5) := (hd18 _ _ q_q).trans c17_q_1
          have c18_q_2 : w18.cell? ⟨w12.heap.size, 2, none⟩ = some (.int .i64 x5) := (hd18 _ _ q_q).trans c17_q_2
          have c18_q_3 : w18.cell? ⟨w12.heap.size, 3, none⟩ = some (.int .i64 y5) := (hd18 _ _ q_q).trans c17_q_3
          have c18_m_0 : w18.cell? ⟨w15.heap.size, 0, none⟩ = some (.int .i64 n6) := (hd18 _ _ q_m).trans c17_m_0
          have c18_m_1 : w18.cell? ⟨w15.heap.size, 1, none⟩ = some (.int .i64 d6) := (hd18 _ _ q_m).trans c17_m_1
          have c18_m_2 : w18.cell? ⟨w15.heap.size, 2, none⟩ = some (.int .i64 x6) := (hd18 _ _ q_m).trans c17_m_2
          have c18_m_3 : w18.cell? ⟨w15.heap.size, 3, none⟩ = some (.int .i64 y6) := (hd18 _ _ q_m).trans c17_m_3
          have c18_mirror_0 : w18.cell? ⟨w16.heap.size, 0, none⟩ = some (.int .i64 m1) := (hd18 _ _ q_mirror).trans c17_mirror_0
          have c18_mirror_1 : w18.cell? ⟨w16.heap.size, 1, none⟩ = some (.int .i64 m2) := (hd18 _ _ q_mirror).trans c17_mirror_1
          have c18_mirror_2 : w18.cell? ⟨w16.heap.size, 2, none⟩ = some (.int .i64 m3) := (hd18 _ _ q_mirror).trans c17_mirror_2
          have c18_mirror_3 : w18.cell? ⟨w16.heap.size, 3, none⟩ = some (.int .i64 m4) := (hd18 _ _ q_mirror).trans c17_mirror_3
          replace q_an : w9.heap.size < w18.heap.size := by omega
          replace q_q : w12.heap.size < w18.heap.size := by omega
          replace q_m : w15.heap.size < w18.heap.size := by omega
          replace q_mirror : w16.heap.size < w18.heap.size := by omega
          have c18_due_0 : w18.cell? ⟨w17.heap.size, 0, none⟩ = some (.int .i64 m1) := (hc18 _ _ (by go_size)).trans (by go_simp)
          have c18_due_1 : w18.cell? ⟨w17.heap.size, 1, none⟩ = some (.int .i64 m2) := (hc18 _ _ (by go_size)).trans (by go_simp)
          have c18_due_2 : w18.cell? ⟨w17.heap.size, 2, none⟩ = some (.int .i64 m3) := (hc18 _ _ (by go_size)).trans (by go_simp)
          have c18_due_3 : w18.cell? ⟨w17.heap.size, 3, none⟩ = some (.int .i64 m4) := (hc18 _ _ (by go_size)).trans (by go_simp)
          have q_due : w17.heap.size < w18.heap.size := by omega
          have R18_wa := Lib.hid (TRow.below R17_wa.out B18)
          clear R17_wa
          have R18_model := Lib.hid (TRow.below R17_model.out B18)
          clear R17_model
          have R18_gl := Lib.hid (TRow.below R17_gl.out B18)
          clear R17_gl
          have R18_value := Lib.hid (TRow.below R17_value.out B18)
          clear R17_value
          have BW18 : Below w.heap.size w w18 := BW17.trans (B18.mono BW17.size)
          clear hc18 hf18 hb18 hd18 B18 c17_an_0 c17_an_1 c17_q_0 c17_q_1 c17_q_2 c17_q_3 c17_m_0 c17_m_1 c17_m_2 c17_m_3 c17_mirror_0 c17_mirror_1 c17_mirror_2 c17_mirror_3 BW17
          obtain ⟨t1, t2, t3, t4, uo, hU⟩ : ∃ a b c e o, turnT n7 d7 x7 y7 n8 d8 = (a, b, c, e, o) := ⟨_, _, _, _, _, rfl⟩
          have C11 := Lib.hid (fun W => (show Calls Tryz.prog 13 #[sn n7 d7 x7 y7, tv n8 d8] W fun e w' => e = .returned (rs (t1, t2, t3, t4, uo)) ∧ Below W.heap.size W w' from by have := implTurnSeen_any n7 d7 x7 y7 n8 d8 W; rw [hU] at this; exact this))
          have C12 := Lib.hid (fun W => (show Calls Tryz.prog 26 #[sn n7 d7 x7 y7, tv n8 d8] W fun e w' => e = .returned (rs (t1, t2, t3, t4, uo)) ∧ Below W.heap.size W w' from by have := specTurnSeen_any n7 d7 x7 y7 n8 d8 kd7 ky7 kd8 W; rw [hU] at this; exact this))
          have F8 := Lib.hid (fun (e : uo = true) => turn_back (by rw [hU, e] : turnT n7 d7 x7 y7 n8 d8 = (t1, t2, t3, t4, true)))
          clear hU
          go_wp2_with fail
          refine (C11.out _).mono ?_
          rintro e19 w19 ⟨rfl, hb19⟩
          obtain ⟨hc19, hf19⟩ := bcell hb19
          have hz19 := hb19.size
          (try simp only [World.size_alloc, World.size_setCell, World.size_drew] at hz19)
          have B19 : Below w18.heap.size w18 w19 := Below.trans (b := _) (by (repeat' (first | (with_reducible exact Below.refl _ _) | (with_reducible assumption) | (with_reducible refine Below.alloc ?_ ?_ _) | (with_reducible refine Below.drew ?_) | (with_reducible refine below_drewN ?_ _) | (with_reducible refine Below.setCell ?_ ?_ _) | (with_reducible refine below_call ?_ ?_ (by assumption)) | go_size))) (hb19.mono (by first | omega | (simp only [World.size_alloc, World.size_setCell, World.size_drew]; omega)))
          obtain ⟨hd19, -⟩ := bcell B19
          have c19_an_0 : w19.cell? ⟨w9.heap.size, 0, none⟩ = some (.int .i64 n3) := (hd19 _ _ q_an).trans c18_an_0
          have c19_an_1 : w19.cell? ⟨w9.heap.size, 1, none⟩ = some (.int .i64 d3) := (hd19 _ _ q_an).trans c18_an_1
          have c19_q_0 : w19.cell? ⟨w12.heap.size, 0, none⟩ = some (.int .i64 n5) := (hd19 _ _ q_q).trans c18_q_0
          have c19_q_1 : w19.cell? ⟨w12.heap.size, 1, none⟩ = some (.int .i64 d5) := (hd19 _ _ q_q).trans c18_q_1
          have c19_q_2 : w19.cell? ⟨w12.heap.size, 2, none⟩ = some (.int .i64 x5) := (hd19 _ _ q_q).trans c18_q_2
          have c19_q_3 : w19.cell? ⟨w12.heap.size, 3, none⟩ = some (.int .i64 y5) := (hd19 _ _ q_q).trans c18_q_3
          have c19_m_0 : w19.cell? ⟨w15.heap.size, 0, none⟩ = some (.int .i64 n6) := (hd19 _ _ q_m).trans c18_m_0
          have c19_m_1 : w19.cell? ⟨w15.heap.size, 1, none⟩ = some (.int .i64 d6) := (hd19 _ _ q_m).trans c18_m_1
          have c19_m_2 : w19.cell? ⟨w15.heap.size, 2, none⟩ = some (.int .i64 x6) := (hd19 _ _ q_m).trans c18_m_2
          have c19_m_3 : w19.cell? ⟨w15.heap.size, 3, none⟩ = some (.int .i64 y6) := (hd19 _ _ q_m).trans c18_m_3
          have c19_mirror_0 : w19.cell? ⟨w16.heap.size, 0, none⟩ = some (.int .i64 m1) := (hd19 _ _ q_mirror).trans c18_mirror_0
          have c19_mirror_1 : w19.cell? ⟨w16.heap.size, 1, none⟩ = some (.int .i64 m2) := (hd19 _ _ q_mirror).trans c18_mirror_1
          have c19_mirror_2 : w19.cell? ⟨w16.heap.size, 2, none⟩ = some (.int .i64 m3) := (hd19 _ _ q_mirror).trans c18_mirror_2
          have c19_mirror_3 : w19.cell? ⟨w16.heap.size, 3, none⟩ = some (.int .i64 m4) := (hd19 _ _ q_mirror).trans c18_mirror_3
          have c19_due_0 : w19.cell? ⟨w17.heap.size, 0, none⟩ = some (.int .i64 m1) := (hd19 _ _ q_due).trans c18_due_0
          have c19_due_1 : w19.cell? ⟨w17.heap.size, 1, none⟩ = some (.int .i64 m2) := (hd19 _ _ q_due).trans c18_due_1
          have c19_due_2 : w19.cell? ⟨w17.heap.size, 2, none⟩ = some (.int .i64 m3) := (hd19 _ _ q_due).trans c18_due_2
          have c19_due_3 : w19.cell? ⟨w17.heap.size, 3, none⟩ = some (.int .i64 m4) := (hd19 _ _ q_due).trans c18_due_3
          replace q_an : w9.heap.size < w19.heap.size := by omega
          replace q_q : w12.heap.size < w19.heap.size := by omega
          replace q_m : w15.heap.size < w19.heap.size := by omega
          replace q_mirror : w16.heap.size < w19.heap.size := by omega
          replace q_due : w17.heap.size < w19.heap.size := by omega
          have c19_r_0 : w19.cell? ⟨w18.heap.size, 0, none⟩ = some (.int .i64 n7) := (hc19 _ _ (by go_size)).trans (by go_simp)
          have c19_r_1 : w19.cell? ⟨w18.heap.size, 1, none⟩ = some (.int .i64 d7) := (hc19 _ _ (by go_size)).trans (by go_simp)
          have c19_r_2 : w19.cell? ⟨w18.heap.size, 2, none⟩ = some (.int .i64 x7) := (hc19 _ _ (by go_size)).trans (by go_simp)
          have c19_r_3 : w19.cell? ⟨w18.heap.size, 3, none⟩ = some (.int .i64 y7) := (hc19 _ _ (by go_size)).trans (by go_simp)
          have q_r : w18.heap.size < w19.heap.size := by omega
          have c19_by_0 : w19.cell? ⟨w18.heap.size + 1, 0, none⟩ = some (.int .i64 n8) := (hc19 _ _ (by go_size)).trans (by go_simp)
          have c19_by_1 : w19.cell? ⟨w18.heap.size + 1, 1, none⟩ = some (.int .i64 d8) := (hc19 _ _ (by go_size)).trans (by go_simp)
          have q_by : w18.heap.size + 1 < w19.heap.size := by omega
          have R19_wa := Lib.hid (TRow.below R18_wa.out B19)
          clear R18_wa
          have R19_model := Lib.hid (TRow.below R18_model.out B19)
          clear R18_model
          have R19_gl := Lib.hid (TRow.below R18_gl.out B19)
          clear R18_gl
          have R19_value := Lib.hid (TRow.below R18_value.out B19)
          clear R18_value
          have BW19 : Below w.heap.size w w19 := BW18.trans (B19.mono BW18.size)
          clear hc19 hf19 hb19 hd19 B19 c18_an_0 c18_an_1 c18_q_0 c18_q_1 c18_q_2 c18_q_3 c18_m_0 c18_m_1 c18_m_2 c18_m_3 c18_mirror_0 c18_mirror_1 c18_mirror_2 c18_mirror_3 c18_due_0 c18_due_1 c18_due_2 c18_due_3 BW18
          go_wp2_with fail
          refine (C12.out _).mono ?_
          rintro e20 w20 ⟨rfl, hb20⟩
          obtain ⟨hc20, hf20⟩ := bcell hb20
          have hz20 := hb20.size
          (try simp only [World.size_alloc, World.size_setCell, World.size_drew] at hz20)
          have B20 : Below w19.heap.size w19 w20 := Below.trans (b := _) (by (repeat' (first | (with_reducible exact Below.refl _ _) | (with_reducible assumption) | (with_reducible refine Below.alloc ?_ ?_ _) | (with_reducible refine Below.drew ?_) | (with_reducible refine below_drewN ?_ _) | (with_reducible refine Below.setCell ?_ ?_ _) | (with_reducible refine below_call ?_ ?_ (by assumption)) | go_size))) (hb20.mono (by first | omega | (simp only [World.size_alloc, World.size_setCell, World.size_drew]; omega)))
          obtain ⟨hd20, -⟩ := bcell B20
          have c20_an_0 : w20.cell? ⟨w9.heap.size, 0, none⟩ = some (.int .i64 n3) := (hd20 _ _ q_an).trans c19_an_0
          have c20_an_1 : w20.cell? ⟨w9.heap.size, 1, none⟩ = some (.int .i64 d3) := (hd20 _ _ q_an).trans c19_an_1
          have c20_q_0 : w20.cell? ⟨w12.heap.size, 0, none⟩ = some (.int .i64 n5) := (hd20 _ _ q_q).trans c19_q_0
          have c20_q_1 : w20.cell? ⟨w12.heap.size, 1, none⟩ = some (.int .i64 d5) := (hd20 _ _ q_q).trans c19_q_1
          have c20_q_2 : w20.cell? ⟨w12.heap.size, 2, none⟩ = some (.int .i64 x5) := (hd20 _ _ q_q).trans c19_q_2
          have c20_q_3 : w20.cell? ⟨w12.heap.size, 3, none⟩ = some (.int .i64 y5) := (hd20 _ _ q_q).trans c19_q_3
          have c20_m_0 : w20.cell? ⟨w15.heap.size, 0, none⟩ = some (.int .i64 n6) := (hd20 _ _ q_m).trans c19_m_0
          have c20_m_1 : w20.cell? ⟨w15.heap.size, 1, none⟩ = some (.int .i64 d6) := (hd20 _ _ q_m).trans c19_m_1
          have c20_m_2 : w20.cell? ⟨w15.heap.size, 2, none⟩ = some (.int .i64 x6) := (hd20 _ _ q_m).trans c19_m_2
          have c20_m_3 : w20.cell? ⟨w15.heap.size, 3, none⟩ = some (.int .i64 y6) := (hd20 _ _ q_m).trans c19_m_3
          have c20_mirror_0 : w20.cell? ⟨w16.heap.size, 0, none⟩ = some (.int .i64 m1) := (hd20 _ _ q_mirror).trans c19_mirror_0
          have c20_mirror_1 : w20.cell? ⟨w16.heap.size, 1, none⟩ = some (.int .i64 m2) := (hd20 _ _ q_mirror).trans c19_mirror_1
          have c20_mirror_2 : w20.cell? ⟨w16.heap.size, 2, none⟩ = some (.int .i64 m3) := (hd20 _ _ q_mirror).trans c19_mirror_2
          have c20_mirror_3 : w20.cell? ⟨w16.heap.size, 3, none⟩ = some (.int .i64 m4) := (hd20 _ _ q_mirror).trans c19_mirror_3
          have c20_due_0 : w20.cell? ⟨w17.heap.size, 0, none⟩ = some (.int .i64 m1) := (hd20 _ _ q_due).trans c19_due_0
          have c20_due_1 : w20.cell? ⟨w17.heap.size, 1, none⟩ = some (.int .i64 m2) := (hd20 _ _ q_due).trans c19_due_1
          have c20_due_2 : w20.cell? ⟨w17.heap.size, 2, none⟩ = some (.int .i64 m3) := (hd20 _ _ q_due).trans c19_due_2
          have c20_due_3 : w20.cell? ⟨w17.heap.size, 3, none⟩ = some (.int .i64 m4) := (hd20 _ _ q_due).trans c19_due_3
          have c20_r_0 : w20.cell? ⟨w18.heap.size, 0, none⟩ = some (.int .i64 n7) := (hd20 _ _ q_r).trans c19_r_0
          have c20_r_1 : w20.cell? ⟨w18.heap.size, 1, none⟩ = some (.int .i64 d7) := (hd20 _ _ q_r).trans c19_r_1
          have c20_r_2 : w20.cell? ⟨w18.heap.size, 2, none⟩ = some (.int .i64 x7) := (hd20 _ _ q_r).trans c19_r_2
          have c20_r_3 : w20.cell? ⟨w18.heap.size, 3, none⟩ = some (.int .i64 y7) := (hd20 _ _ q_r).trans c19_r_3
          have c20_by_0 : w20.cell? ⟨w18.heap.size + 1, 0, none⟩ = some (.int .i64 n8) := (hd20 _ _ q_by).trans c19_by_0
          have c20_by_1 : w20.cell? ⟨w18.heap.size + 1, 1, none⟩ = some (.int .i64 d8) := (hd20 _ _ q_by).trans c19_by_1
          replace q_an : w9.heap.size < w20.heap.size := by omega
          replace q_q : w12.heap.size < w20.heap.size := by omega
          replace q_m : w15.heap.size < w20.heap.size := by omega
          replace q_mirror : w16.heap.size < w20.heap.size := by omega
          replace q_due : w17.heap.size < w20.heap.size := by omega
          replace q_r : w18.heap.size < w20.heap.size := by omega
          replace q_by : w18.heap.size + 1 < w20.heap.size := by omega
          have c20_turned_0 : w20.cell? ⟨w19.heap.size, 0, none⟩ = some (.int .i64 t1) := (hc20 _ _ (by go_size)).trans (by go_simp)
          have c20_turned_1 : w20.cell? ⟨w19.heap.size, 1, none⟩ = some (.int .i64 t2) := (hc20 _ _ (by go_size)).trans (by go_simp)
          have c20_turned_2 : w20.cell? ⟨w19.heap.size, 2, none⟩ = some (.int .i64 t3) := (hc20 _ _ (by go_size)).trans (by go_simp)
          have c20_turned_3 : w20.cell? ⟨w19.heap.size, 3, none⟩ = some (.int .i64 t4) := (hc20 _ _ (by go_size)).trans (by go_simp)
          have q_turned : w19.heap.size < w20.heap.size := by omega
          have R20_wa := Lib.hid (TRow.below R19_wa.out B20)
          clear R19_wa
          have R20_model := Lib.hid (TRow.below R19_model.out B20)
          clear R19_model
          have R20_gl := Lib.hid (TRow.below R19_gl.out B20)
          clear R19_gl
          have R20_value := Lib.hid (TRow.below R19_value.out B20)
          clear R19_value
          have BW20 : Below w.heap.size w w20 := BW19.trans (B20.mono BW19.size)
          clear hc20 hf20 hb20 hd20 B20 c19_an_0 c19_an_1 c19_q_0 c19_q_1 c19_q_2 c19_q_3 c19_m_0 c19_m_1 c19_m_2 c19_m_3 c19_mirror_0 c19_mirror_1 c19_mirror_2 c19_mirror_3 c19_due_0 c19_due_1 c19_due_2 c19_due_3 c19_r_0 c19_r_1 c19_r_2 c19_r_3 c19_by_0 c19_by_1 BW19
          go_upto_region 36 with fail
          have hb21 : Below w20.heap.size w20 (w20.alloc (Obj.cells #[.int .i64 t1, .int .i64 t2, .int .i64 t3, .int .i64 t4] 27)) := by (repeat' (first | (with_reducible exact Below.refl _ _) | (with_reducible assumption) | (with_reducible refine Below.alloc ?_ ?_ _) | (with_reducible refine Below.drew ?_) | (with_reducible refine below_drewN ?_ _) | (with_reducible refine Below.setCell ?_ ?_ _) | (with_reducible refine below_call ?_ ?_ (by assumption)) | go_size))
          have c21_number_0 : (w20.alloc (Obj.cells #[.int .i64 t1, .int .i64 t2, .int .i64 t3, .int .i64 t4] 27)).cell? ⟨w20.heap.size, 0, none⟩ = some (.int .i64 t1) := by go_simp
          have c21_number_1 : (w20.alloc (Obj.cells #[.int .i64 t1, .int .i64 t2, .int .i64 t3, .int .i64 t4] 27)).cell? ⟨w20.heap.size, 1, none⟩ = some (.int .i64 t2) := by go_simp
          have c21_number_2 : (w20.alloc (Obj.cells #[.int .i64 t1, .int .i64 t2, .int .i64 t3, .int .i64 t4] 27)).cell? ⟨w20.heap.size, 2, none⟩ = some (.int .i64 t3) := by go_simp
          have c21_number_3 : (w20.alloc (Obj.cells #[.int .i64 t1, .int .i64 t2, .int .i64 t3, .int .i64 t4] 27)).cell? ⟨w20.heap.size, 3, none⟩ = some (.int .i64 t4) := by go_simp
          have q_number : w20.heap.size < (w20.alloc (Obj.cells #[.int .i64 t1, .int .i64 t2, .int .i64 t3, .int .i64 t4] 27)).heap.size := by go_size
          generalize (w20.alloc (Obj.cells #[.int .i64 t1, .int .i64 t2, .int .i64 t3, .int .i64 t4] 27)) = w21 at *
          obtain ⟨hd21, -⟩ := bcell hb21
          have hz21 := hb21.size
          have c21_an_0 : w21.cell? ⟨w9.heap.size, 0, none⟩ = some (.int .i64 n3) := (hd21 _ _ q_an).trans c20_an_0
          have c21_an_1 : w21.cell? ⟨w9.heap.size, 1, none⟩ = some (.int .i64 d3) := (hd21 _ _ q_an).trans c20_an_1
          have c21_q_0 : w21.cell? ⟨w12.heap.size, 0, none⟩ = some (.int .i64 n5) := (hd21 _ _ q_q).trans c20_q_0
          have c21_q_1 : w21.cell? ⟨w12.heap.size, 1, none⟩ = some (.int .i64 d5) := (hd21 _ _ q_q).trans c20_q_1
          have c21_q_2 : w21.cell? ⟨w12.heap.size, 2, none⟩ = some (.int .i64 x5) := (hd21 _ _ q_q).trans c20_q_2
          have c21_q_3 : w21.cell? ⟨w12.heap.size, 3, none⟩ = some (.int .i64 y5) := (hd21 _ _ q_q).trans c20_q_3
          have c21_m_0 : w21.cell? ⟨w15.heap.size, 0, none⟩ = some (.int .i64 n6) := (hd21 _ _ q_m).trans c20_m_0
          have c21_m_1 : w21.cell? ⟨w15.heap.size, 1, none⟩ = some (.int .i64 d6) := (hd21 _ _ q_m).trans c20_m_1
          have c21_m_2 : w21.cell? ⟨w15.heap.size, 2, none⟩ = some (.int .i64 x6) := (hd21 _ _ q_m).trans c20_m_2
          have c21_m_3 : w21.cell? ⟨w15.heap.size, 3, none⟩ = some (.int .i64 y6) := (hd21 _ _ q_m).trans c20_m_3
          have c21_mirror_0 : w21.cell? ⟨w16.heap.size, 0, none⟩ = some (.int .i64 m1) := (hd21 _ _ q_mirror).trans c20_mirror_0
          have c21_mirror_1 : w21.cell? ⟨w16.heap.size, 1, none⟩ = some (.int .i64 m2) := (hd21 _ _ q_mirror).trans c20_mirror_1
          have c21_mirror_2 : w21.cell? ⟨w16.heap.size, 2, none⟩ = some (.int .i64 m3) := (hd21 _ _ q_mirror).trans c20_mirror_2
          have c21_mirror_3 : w21.cell? ⟨w16.heap.size, 3, none⟩ = some (.int .i64 m4) := (hd21 _ _ q_mirror).trans c20_mirror_3
          have c21_due_0 : w21.cell? ⟨w17.heap.size, 0, none⟩ = some (.int .i64 m1) := (hd21 _ _ q_due).trans c20_due_0
          have c21_due_1 : w21.cell? ⟨w17.heap.size, 1, none⟩ = some (.int .i64 m2) := (hd21 _ _ q_due).trans c20_due_1
          have c21_due_2 : w21.cell? ⟨w17.heap.size, 2, none⟩ = some (.int .i64 m3) := (hd21 _ _ q_due).trans c20_due_2
          have c21_due_3 : w21.cell? ⟨w17.heap.size, 3, none⟩ = some (.int .i64 m4) := (hd21 _ _ q_due).trans c20_due_3
          have c21_r_0 : w21.cell? ⟨w18.heap.size, 0, none⟩ = some (.int .i64 n7) := (hd21 _ _ q_r).trans c20_r_0
          have c21_r_1 : w21.cell? ⟨w18.heap.size, 1, none⟩ = some (.int .i64 d7) := (hd21 _ _ q_r).trans c20_r_1
          have c21_r_2 : w21.cell? ⟨w18.heap.size, 2, none⟩ = some (.int .i64 x7) := (hd21 _ _ q_r).trans c20_r_2
          have c21_r_3 : w21.cell? ⟨w18.heap.size, 3, none⟩ = some (.int .i64 y7) := (hd21 _ _ q_r).trans c20_r_3
          have c21_by_0 : w21.cell? ⟨w18.heap.size + 1, 0, none⟩ = some (.int .i64 n8) := (hd21 _ _ q_by).trans c20_by_0
          have c21_by_1 : w21.cell? ⟨w18.heap.size + 1, 1, none⟩ = some (.int .i64 d8) := (hd21 _ _ q_by).trans c20_by_1
          have c21_turned_0 : w21.cell? ⟨w19.heap.size, 0, none⟩ = some (.int .i64 t1) := (hd21 _ _ q_turned).trans c20_turned_0
          have c21_turned_1 : w21.cell? ⟨w19.heap.size, 1, none⟩ = some (.int .i64 t2) := (hd21 _ _ q_turned).trans c20_turned_1
          have c21_turned_2 : w21.cell? ⟨w19.heap.size, 2, none⟩ = some (.int .i64 t3) := (hd21 _ _ q_turned).trans c20_turned_2
          have c21_turned_3 : w21.cell? ⟨w19.heap.size, 3, none⟩ = some (.int .i64 t4) := (hd21 _ _ q_turned).trans c20_turned_3
          replace q_an : w9.heap.size < w21.heap.size := by omega
          replace q_q : w12.heap.size < w21.heap.size := by omega
          replace q_m : w15.heap.size < w21.heap.size := by omega
          replace q_mirror : w16.heap.size < w21.heap.size := by omega
          replace q_due : w17.heap.size < w21.heap.size := by omega
          replace q_r : w18.heap.size < w21.heap.size := by omega
          replace q_by : w18.heap.size + 1 < w21.heap.size := by omega
          replace q_turned : w19.heap.size < w21.heap.size := by omega
          have R21_wa := Lib.hid (TRow.below R20_wa.out hb21)
          clear R20_wa
          have R21_model := Lib.hid (TRow.below R20_model.out hb21)
          clear R20_model
          have R21_gl := Lib.hid (TRow.below R20_gl.out hb21)
          clear R20_gl
          have R21_value := Lib.hid (TRow.below R20_value.out hb21)
          clear R20_value
          have BW21 : Below w.heap.size w w21 := BW20.trans (hb21.mono BW20.size)
          clear hb21 hd21 c20_an_0 c20_an_1 c20_q_0 c20_q_1 c20_q_2 c20_q_3 c20_m_0 c20_m_1 c20_m_2 c20_m_3 c20_mirror_0 c20_mirror_1 c20_mirror_2 c20_mirror_3 c20_due_0 c20_due_1 c20_due_2 c20_due_3 c20_r_0 c20_r_1 c20_r_2 c20_r_3 c20_by_0 c20_by_1 c20_turned_0 c20_turned_1 c20_turned_2 c20_turned_3 BW20
          go_wp2_with fail
          refine (wTurns_same WA _ _ _ _ _ R21_wa.out R21_model.out HWA.out).mono ?_
          rintro e22 w22 ⟨rfl, hb22⟩
          obtain ⟨hc22, hf22⟩ := bcell hb22
          have hz22 := hb22.size
          (try simp only [World.size_alloc, World.size_setCell, World.size_drew] at hz22)
          have B22 : Below w21.heap.size w21 w22 := Below.trans (b := _) (by (repeat' (first | (with_reducible exact Below.refl _ _) | (with_reducible assumption) | (with_reducible refine Below.alloc ?_ ?_ _) | (with_reducible refine Below.drew ?_) | (with_reducible refine below_drewN ?_ _) | (with_reducible refine Below.setCell ?_ ?_ _) | (with_reducible refine below_call ?_ ?_ (by assumption)) | go_size))) (hb22.mono (by first | omega | (simp only [World.size_alloc, World.size_setCell, World.size_drew]; omega)))
          obtain ⟨hd22, -⟩ := bcell B22
          have c22_an_0 : w22.cell? ⟨w9.heap.size, 0, none⟩ = some (.int .i64 n3) := (hd22 _ _ q_an).trans c21_an_0
          have c22_an_1 : w22.cell? ⟨w9.heap.size, 1, none⟩ = some (.int .i64 d3) := (hd22 _ _ q_an).trans c21_an_1
          have c22_q_0 : w22.cell? ⟨w12.heap.size, 0, none⟩ = some (.int .i64 n5) := (hd22 _ _ q_q).trans c21_q_0
          have c22_q_1 : w22.cell? ⟨w12.heap.size, 1, none⟩ = some (.int .i64 d5) := (hd22 _ _ q_q).trans c21_q_1
          have c22_q_2 : w22.cell? ⟨w12.heap.size, 2, none⟩ = some (.int .i64 x5) := (hd22 _ _ q_q).trans c21_q_2
          have c22_q_3 : w22.cell? ⟨w12.heap.size, 3, none⟩ = some (.int .i64 y5) := (hd22 _ _ q_q).trans c21_q_3
          have c22_m_0 : w22.cell? ⟨w15.heap.size, 0, none⟩ = some (.int .i64 n6) := (hd22 _ _ q_m).trans c21_m_0
          have c22_m_1 : w22.cell? ⟨w15.heap.size, 1, none⟩ = some (.int .i64 d6) := (hd22 _ _ q_m).trans c21_m_1
          have c22_m_2 : w22.cell? ⟨w15.heap.size, 2, none⟩ = some (.int .i64 x6) := (hd22 _ _ q_m).trans c21_m_2
          have c22_m_3 : w22.cell? ⟨w15.heap.size, 3, none⟩ = some (.int .i64 y6) := (hd22 _ _ q_m).trans c21_m_3
          have c22_mirror_0 : w22.cell? ⟨w16.heap.size, 0, none⟩ = some (.int .i64 m1) := (hd22 _ _ q_mirror).trans c21_mirror_0
          have c22_mirror_1 : w22.cell? ⟨w16.heap.size, 1, none⟩ = some (.int .i64 m2) := (hd22 _ _ q_mirror).trans c21_mirror_1
          have c22_mirror_2 : w22.cell? ⟨w16.heap.size, 2, none⟩ = some (.int .i64 m3) := (hd22 _ _ q_mirror).trans c21_mirror_2
          have c22_mirror_3 : w22.cell? ⟨w16.heap.size, 3, none⟩ = some (.int .i64 m4) := (hd22 _ _ q_mirror).trans c21_mirror_3
          have c22_due_0 : w22.cell? ⟨w17.heap.size, 0, none⟩ = some (.int .i64 m1) := (hd22 _ _ q_due).trans c21_due_0
          have c22_due_1 : w22.cell? ⟨w17.heap.size, 1, none⟩ = some (.int .i64 m2) := (hd22 _ _ q_due).trans c21_due_1
          have c22_due_2 : w22.cell? ⟨w17.heap.size, 2, none⟩ = some (.int .i64 m3) := (hd22 _ _ q_due).trans c21_due_2
          have c22_due_3 : w22.cell? ⟨w17.heap.size, 3, none⟩ = some (.int .i64 m4) := (hd22 _ _ q_due).trans c21_due_3
          have c22_r_0 : w22.cell? ⟨w18.heap.size, 0, none⟩ = some (.int .i64 n7) := (hd22 _ _ q_r).trans c21_r_0
          have c22_r_1 : w22.cell? ⟨w18.heap.size, 1, none⟩ = some (.int .i64 d7) := (hd22 _ _ q_r).trans c21_r_1
          have c22_r_2 : w22.cell? ⟨w18.heap.size, 2, none⟩ = some (.int .i64 x7) := (hd22 _ _ q_r).trans c21_r_2
          have c22_r_3 : w22.cell? ⟨w18.heap.size, 3, none⟩ = some (.int .i64 y7) := (hd22 _ _ q_r).trans c21_r_3
          have c22_by_0 : w22.cell? ⟨w18.heap.size + 1, 0, none⟩ = some (.int .i64 n8) := (hd22 _ _ q_by).trans c21_by_0
          have c22_by_1 : w22.cell? ⟨w18.heap.size + 1, 1, none⟩ = some (.int .i64 d8) := (hd22 _ _ q_by).trans c21_by_1
          have c22_turned_0 : w22.cell? ⟨w19.heap.size, 0, none⟩ = some (.int .i64 t1) := (hd22 _ _ q_turned).trans c21_turned_0
          have c22_turned_1 : w22.cell? ⟨w19.heap.size, 1, none⟩ = some (.int .i64 t2) := (hd22 _ _ q_turned).trans c21_turned_1
          have c22_turned_2 : w22.cell? ⟨w19.heap.size, 2, none⟩ = some (.int .i64 t3) := (hd22 _ _ q_turned).trans c21_turned_2
          have c22_turned_3 : w22.cell? ⟨w19.heap.size, 3, none⟩ = some (.int .i64 t4) := (hd22 _ _ q_turned).trans c21_turned_3
          have c22_number_0 : w22.cell? ⟨w20.heap.size, 0, none⟩ = some (.int .i64 t1) := (hd22 _ _ q_number).trans c21_number_0
          have c22_number_1 : w22.cell? ⟨w20.heap.size, 1, none⟩ = some (.int .i64 t2) := (hd22 _ _ q_number).trans c21_number_1
          have c22_number_2 : w22.cell? ⟨w20.heap.size, 2, none⟩ = some (.int .i64 t3) := (hd22 _ _ q_number).trans c21_number_2
          have c22_number_3 : w22.cell? ⟨w20.heap.size, 3, none⟩ = some (.int .i64 t4) := (hd22 _ _ q_number).trans c21_number_3
          replace q_an : w9.heap.size < w22.heap.size := by omega
          replace q_q : w12.heap.size < w22.heap.size := by omega
          replace q_m : w15.heap.size < w22.heap.size := by omega
          replace q_mirror : w16.heap.size < w22.heap.size := by omega
          replace q_due : w17.heap.size < w22.heap.size := by omega
          replace q_r : w18.heap.size < w22.heap.size := by omega
          replace q_by : w18.heap.size + 1 < w22.heap.size := by omega
          replace q_turned : w19.heap.size < w22.heap.size := by omega
          replace q_number : w20.heap.size < w22.heap.size := by omega
          have R22_wa := Lib.hid (TRow.below R21_wa.out B22)
          clear R21_wa
          have R22_model := Lib.hid (TRow.below R21_model.out B22)
          clear R21_model
          have R22_gl := Lib.hid (TRow.below R21_gl.out B22)
          clear R21_gl
          have R22_value := Lib.hid (TRow.below R21_value.out B22)
          clear R21_value
          have BW22 : Below w.heap.size w w22 := BW21.trans (B22.mono BW21.size)
          clear hc22 hf22 hb22 hd22 B22 c21_an_0 c21_an_1 c21_q_0 c21_q_1 c21_q_2 c21_q_3 c21_m_0 c21_m_1 c21_m_2 c21_m_3 c21_mirror_0 c21_mirror_1 c21_mirror_2 c21_mirror_3 c21_due_0 c21_due_1 c21_due_2 c21_due_3 c21_r_0 c21_r_1 c21_r_2 c21_r_3 c21_by_0 c21_by_1 c21_turned_0 c21_turned_1 c21_turned_2 c21_turned_3 c21_number_0 c21_number_1 c21_number_2 c21_number_3 BW21
          go_wp2_with fail
          refine (wTurns_same GL _ _ _ _ _ R22_gl.out R22_value.out HGL.out).mono ?_
          rintro e23 w23 ⟨rfl, hb23⟩
          obtain ⟨hc23, hf23⟩ := bcell hb23
          have hz23 := hb23.size
          (try simp only [World.size_alloc, World.size_setCell, World.size_drew] at hz23)
          have B23 : Below w22.heap.size w22 w23 := Below.trans (b := _) (by (repeat' (first | (with_reducible exact Below.refl _ _) | (with_reducible assumption) | (with_reducible refine Below.alloc ?_ ?_ _) | (with_reducible refine Below.drew ?_) | (with_reducible refine below_drewN ?_ _) | (with_reducible refine Below.setCell ?_ ?_ _) | (with_reducible refine below_call ?_ ?_ (by assumption)) | go_size))) (hb23.mono (by first | omega | (simp only [World.size_alloc, World.size_setCell, World.size_drew]; omega)))
          obtain ⟨hd23, -⟩ := bcell B23
          have c23_an_0 : w23.cell? ⟨w9.heap.size, 0, none⟩ = some (.int .i64 n3) := (hd23 _ _ q_an).trans c22_an_0
          have c23_an_1 : w23.cell? ⟨w9.heap.size, 1, none⟩ = some (.int .i64 d3) := (hd23 _ _ q_an).trans c22_an_1
          have c23_q_0 : w23.cell? ⟨w12.heap.size, 0, none⟩ = some (.int .i64 n5) := (hd23 _ _ q_q).trans c22_q_0
          have c23_q_1 : w23.cell? ⟨w12.heap.size, 1, none⟩ = some (.int .i64 d5) := (hd23 _ _ q_q).trans c22_q_1
          have c23_q_2 : w23.cell? ⟨w12.heap.size, 2, none⟩ = some (.int .i64 x5) := (hd23 _ _ q_q).trans c22_q_2
          have c23_q_3 : w23.cell? ⟨w12.heap.size, 3, none⟩ = some (.int .i64 y5) := (hd23 _ _ q_q).trans c22_q_3
          have c23_m_0 : w23.cell? ⟨w15.heap.size, 0, none⟩ = some (.int .i64 n6) := (hd23 _ _ q_m).trans c22_m_0
          have c23_m_1 : w23.cell? ⟨w15.heap.size, 1, none⟩ = some (.int .i64 d6) := (hd23 _ _ q_m).trans c22_m_1
          have c23_m_2 : w23.cell? ⟨w15.heap.size, 2, none⟩ = some (.int .i64 x6) := (hd23 _ _ q_m).trans c22_m_2
          have c23_m_3 : w23.cell? ⟨w15.heap.size, 3, none⟩ = some (.int .i64 y6) := (hd23 _ _ q_m).trans c22_m_3
          have c23_mirror_0 : w23.cell? ⟨w16.heap.size, 0, none⟩ = some (.int .i64 m1) := (hd23 _ _ q_mirror).trans c22_mirror_0
          have c23_mirror_1 : w23.cell? ⟨w16.heap.size, 1, none⟩ = some (.int .i64 m2) := (hd23 _ _ q_mirror).trans c22_mirror_1
          have c23_mirror_2 : w23.cell? ⟨w16.heap.size, 2, none⟩ = some (.int .i64 m3) := (hd23 _ _ q_mirror).trans c22_mirror_2
          have c23_mirror_3 : w23.cell? ⟨w16.heap.size, 3, none⟩ = some (.int .i64 m4) := (hd23 _ _ q_mirror).trans c22_mirror_3
          have c23_due_0 : w23.cell? ⟨w17.heap.size, 0, none⟩ = some (.int .i64 m1) := (hd23 _ _ q_due).trans c22_due_0
          have c23_due_1 : w23.cell? ⟨w17.heap.size, 1, none⟩ = some (.int .i64 m2) := (hd23 _ _ q_due).trans c22_due_1
          have c23_due_2 : w23.cell? ⟨w17.heap.size, 2, none⟩ = some (.int .i64 m3) := (hd23 _ _ q_due).trans c22_due_2
          have c23_due_3 : w23.cell? ⟨w17.heap.size, 3, none⟩ = some (.int .i64 m4) := (hd23 _ _ q_due).trans c22_due_3
          have c23_r_0 : w23.cell? ⟨w18.heap.size, 0, none⟩ = some (.int .i64 n7) := (hd23 _ _ q_r).trans c22_r_0
          have c23_r_1 : w23.cell? ⟨w18.heap.size, 1, none⟩ = some (.int .i64 d7) := (hd23 _ _ q_r).trans c22_r_1
          have c23_r_2 : w23.cell? ⟨w18.heap.size, 2, none⟩ = some (.int .i64 x7) := (hd23 _ _ q_r).trans c22_r_2
          have c23_r_3 : w23.cell? ⟨w18.heap.size, 3, none⟩ = some (.int .i64 y7) := (hd23 _ _ q_r).trans c22_r_3
          have c23_by_0 : w23.cell? ⟨w18.heap.size + 1, 0, none⟩ = some (.int .i64 n8) := (hd23 _ _ q_by).trans c22_by_0
          have c23_by_1 : w23.cell? ⟨w18.heap.size + 1, 1, none⟩ = some (.int .i64 d8) := (hd23 _ _ q_by).trans c22_by_1
          have c23_turned_0 : w23.cell? ⟨w19.heap.size, 0, none⟩ = some (.int .i64 t1) := (hd23 _ _ q_turned).trans c22_turned_0
          have c23_turned_1 : w23.cell? ⟨w19.heap.size, 1, none⟩ = some (.int .i64 t2) := (hd23 _ _ q_turned).trans c22_turned_1
          have c23_turned_2 : w23.cell? ⟨w19.heap.size, 2, none⟩ = some (.int .i64 t3) := (hd23 _ _ q_turned).trans c22_turned_2
          have c23_turned_3 : w23.cell? ⟨w19.heap.size, 3, none⟩ = some (.int .i64 t4) := (hd23 _ _ q_turned).trans c22_turned_3
          have c23_number_0 : w23.cell? ⟨w20.heap.size, 0, none⟩ = some (.int .i64 t1) := (hd23 _ _ q_number).trans c22_number_0
          have c23_number_1 : w23.cell? ⟨w20.heap.size, 1, none⟩ = some (.int .i64 t2) := (hd23 _ _ q_number).trans c22_number_1
          have c23_number_2 : w23.cell? ⟨w20.heap.size, 2, none⟩ = some (.int .i64 t3) := (hd23 _ _ q_number).trans c22_number_2
          have c23_number_3 : w23.cell? ⟨w20.heap.size, 3, none⟩ = some (.int .i64 t4) := (hd23 _ _ q_number).trans c22_number_3
          replace q_an : w9.heap.size < w23.heap.size := by omega
          replace q_q : w12.heap.size < w23.heap.size := by omega
          replace q_m : w15.heap.size < w23.heap.size := by omega
          replace q_mirror : w16.heap.size < w23.heap.size := by omega
          replace q_due : w17.heap.size < w23.heap.size := by omega
          replace q_r : w18.heap.size < w23.heap.size := by omega
          replace q_by : w18.heap.size + 1 < w23.heap.size := by omega
          replace q_turned : w19.heap.size < w23.heap.size := by omega
          replace q_number : w20.heap.size < w23.heap.size := by omega
          have R23_wa := Lib.hid (TRow.below R22_wa.out B23)
          clear R22_wa
          have R23_model := Lib.hid (TRow.below R22_model.out B23)
          clear R22_model
          have R23_gl := Lib.hid (TRow.below R22_gl.out B23)
          clear R22_gl
          have R23_value := Lib.hid (TRow.below R22_value.out B23)
          clear R22_value
          have BW23 : Below w.heap.size w w23 := BW22.trans (B23.mono BW22.size)
          clear hc23 hf23 hb23 hd23 B23 c22_an_0 c22_an_1 c22_q_0 c22_q_1 c22_q_2 c22_q_3 c22_m_0 c22_m_1 c22_m_2 c22_m_3 c22_mirror_0 c22_mirror_1 c22_mirror_2 c22_mirror_3 c22_due_0 c22_due_1 c22_due_2 c22_due_3 c22_r_0 c22_r_1 c22_r_2 c22_r_3 c22_by_0 c22_by_1 c22_turned_0 c22_turned_1 c22_turned_2 c22_turned_3 c22_number_0 c22_number_1 c22_number_2 c22_number_3 BW22
          go_wp2_with fail
          refine (isSeen_is n6 d6 x6 y6 F7.out.1 _).mono ?_
          rintro e24 w24 ⟨rfl, hb24⟩
          obtain ⟨hc24, hf24⟩ := bcell hb24
          have hz24 := hb24.size
          (try simp only [World.size_alloc, World.size_setCell, World.size_drew] at hz24)
          have B24 : Below w23.heap.size w23 w24 := Below.trans (b := _) (by (repeat' (first | (with_reducible exact Below.refl _ _) | (with_reducible assumption) | (with_reducible refine Below.alloc ?_ ?_ _) | (with_reducible refine Below.drew ?_) | (with_reducible refine below_drewN ?_ _) | (with_reducible refine Below.setCell ?_ ?_ _) | (with_reducible refine below_call ?_ ?_ (by assumption)) | go_size))) (hb24.mono (by first | omega | (simp only [World.size_alloc, World.size_setCell, World.size_drew]; omega)))
          obtain ⟨hd24, -⟩ := bcell B24
          have c24_an_0 : w24.cell? ⟨w9.heap.size, 0, none⟩ = some (.int .i64 n3) := (hd24 _ _ q_an).trans c23_an_0
          have c24_an_1 : w24.cell? ⟨w9.heap.size, 1, none⟩ = some (.int .i64 d3) := (hd24 _ _ q_an).trans c23_an_1
          have c24_q_0 : w24.cell? ⟨w12.heap.size, 0, none⟩ = some (.int .i64 n5) := (hd24 _ _ q_q).trans c23_q_0
          have c24_q_1 : w24.cell? ⟨w12.heap.size, 1, none⟩ = some (.int .i64 d5) := (hd24 _ _ q_q).trans c23_q_1
          have c24_q_2 : w24.cell? ⟨w12.heap.size, 2, none⟩ = some (.int .i64 x5) := (hd24 _ _ q_q).trans c23_q_2
          have c24_q_3 : w24.cell? ⟨w12.heap.size, 3, none⟩ = some (.int .i64 y5) := (hd24 _ _ q_q).trans c23_q_3
          have c24_m_0 : w24.cell? ⟨w15.heap.size, 0, none⟩ = some (.int .i64 n6) := (hd24 _ _ q_m).trans c23_m_0
          have c24_m_1 : w24.cell? ⟨w15.heap.size, 1, none⟩ = some (.int .i64 d6) := (hd24 _ _ q_m).trans c23_m_1
          have c24_m_2 : w24.cell? ⟨w15.heap.size, 2, none⟩ = some (.int .i64 x6) := (hd24 _ _ q_m).trans c23_m_2
          have c24_m_3 : w24.cell? ⟨w15.heap.size, 3, none⟩ = some (.int .i64 y6) := (hd24 _ _ q_m).trans c23_m_3
          have c24_mirror_0 : w24.cell? ⟨w16.heap.size, 0, none⟩ = some (.int .i64 m1) := (hd24 _ _ q_mirror).trans c23_mirror_0
          have c24_mirror_1 : w24.cell? ⟨w16.heap.size, 1, none⟩ = some (.int .i64 m2) := (hd24 _ _ q_mirror).trans c23_mirror_1
          have c24_mirror_2 : w24.cell? ⟨w16.heap.size, 2, none⟩ = some (.int .i64 m3) := (hd24 _ _ q_mirror).trans c23_mirror_2
          have c24_mirror_3 : w24.cell? ⟨w16.heap.size, 3, none⟩ = some (.int .i64 m4) := (hd24 _ _ q_mirror).trans c23_mirror_3
          have c24_due_0 : w24.cell? ⟨w17.heap.size, 0, none⟩ = some (.int .i64 m1) := (hd24 _ _ q_due).trans c23_due_0
          have c24_due_1 : w24.cell? ⟨w17.heap.size, 1, none⟩ = some (.int .i64 m2) := (hd24 _ _ q_due).trans c23_due_1
          have c24_due_2 : w24.cell? ⟨w17.heap.size, 2, none⟩ = some (.int .i64 m3) := (hd24 _ _ q_due).trans c23_due_2
          have c24_due_3 : w24.cell? ⟨w17.heap.size, 3, none⟩ = some (.int .i64 m4) := (hd24 _ _ q_due).trans c23_due_3
          have c24_r_0 : w24.cell? ⟨w18.heap.size, 0, none⟩ = some (.int .i64 n7) := (hd24 _ _ q_r).trans c23_r_0
          have c24_r_1 : w24.cell? ⟨w18.heap.size, 1, none⟩ = some (.int .i64 d7) := (hd24 _ _ q_r).trans c23_r_1
          have c24_r_2 : w24.cell? ⟨w18.heap.size, 2, none⟩ = some (.int .i64 x7) := (hd24 _ _ q_r).trans c23_r_2
          have c24_r_3 : w24.cell? ⟨w18.heap.size, 3, none⟩ = some (.int .i64 y7) := (hd24 _ _ q_r).trans c23_r_3
          have c24_by_0 : w24.cell? ⟨w18.heap.size + 1, 0, none⟩ = some (.int .i64 n8) := (hd24 _ _ q_by).trans c23_by_0
          have c24_by_1 : w24.cell? ⟨w18.heap.size + 1, 1, none⟩ = some (.int .i64 d8) := (hd24 _ _ q_by).trans c23_by_1
          have c24_turned_0 : w24.cell? ⟨w19.heap.size, 0, none⟩ = some (.int .i64 t1) := (hd24 _ _ q_turned).trans c23_turned_0
          have c24_turned_1 : w24.cell? ⟨w19.heap.size, 1, none⟩ = some (.int .i64 t2) := (hd24 _ _ q_turned).trans c23_turned_1
          have c24_turned_2 : w24.cell? ⟨w19.heap.size, 2, none⟩ = some (.int .i64 t3) := (hd24 _ _ q_turned).trans c23_turned_2
          have c24_turned_3 : w24.cell? ⟨w19.heap.size, 3, none⟩ = some (.int .i64 t4) := (hd24 _ _ q_turned).trans c23_turned_3
          have c24_number_0 : w24.cell? ⟨w20.heap.size, 0, none⟩ = some (.int .i64 t1) := (hd24 _ _ q_number).trans c23_number_0
          have c24_number_1 : w24.cell? ⟨w20.heap.size, 1, none⟩ = some (.int .i64 t2) := (hd24 _ _ q_number).trans c23_number_1
          have c24_number_2 : w24.cell? ⟨w20.heap.size, 2, none⟩ = some (.int .i64 t3) := (hd24 _ _ q_number).trans c23_number_2
          have c24_number_3 : w24.cell? ⟨w20.heap.size, 3, none⟩ = some (.int .i64 t4) := (hd24 _ _ q_number).trans c23_number_3
          replace q_an : w9.heap.size < w24.heap.size := by omega
          replace q_q : w12.heap.size < w24.heap.size := by omega
          replace q_m : w15.heap.size < w24.heap.size := by omega
          replace q_mirror : w16.heap.size < w24.heap.size := by omega
          replace q_due : w17.heap.size < w24.heap.size := by omega
          replace q_r : w18.heap.size < w24.heap.size := by omega
          replace q_by : w18.heap.size + 1 < w24.heap.size := by omega
          replace q_turned : w19.heap.size < w24.heap.size := by omega
          replace q_number : w20.heap.size < w24.heap.size := by omega
          have R24_wa := Lib.hid (TRow.below R23_wa.out B24)
          clear R23_wa
          have R24_model := Lib.hid (TRow.below R23_model.out B24)
          clear R23_model
          have R24_gl := Lib.hid (TRow.below R23_gl.out B24)
          clear R23_gl
          have R24_value := Lib.hid (TRow.below R23_value.out B24)
          clear R23_value
          have BW24 : Below w.heap.size w w24 := BW23.trans (B24.mono BW23.size)
          clear hc24 hf24 hb24 hd24 B24 c23_an_0 c23_an_1 c23_q_0 c23_q_1 c23_q_2 c23_q_3 c23_m_0 c23_m_1 c23_m_2 c23_m_3 c23_mirror_0 c23_mirror_1 c23_mirror_2 c23_mirror_3 c23_due_0 c23_due_1 c23_due_2 c23_due_3 c23_r_0 c23_r_1 c23_r_2 c23_r_3 c23_by_0 c23_by_1 c23_turned_0 c23_turned_1 c23_turned_2 c23_turned_3 c23_number_0 c23_number_1 c23_number_2 c23_number_3 BW23
          clear R24_model
          clear R24_value
          clear q_due c24_due_0 c24_due_1 c24_due_2 c24_due_3
          clear q_number c24_number_0 c24_number_1 c24_number_2 c24_number_3
          go_upto_if 297 with fail
          go_cut [] from 999 to 999 (fun wx => Below w24.heap.size w24 wx)
          case first =>
            as_aux_lemma =>
              cases wo
              · go_wp2_with fail
                go_meet
                case rel => exact Below.refl _ _
              · obtain ⟨hh, hl, hr, hall⟩ := F5.out rfl
                have HR := Lib.hid hr
                have HA := Lib.hid hall
                have hw1 : IntKind.i64.wrap (a2 - 1) = a2 - 1 := by rw [IntKind.wrap_i64]; omega
                have hb : (WA.length : Int) ≤ 23 := by omega
                have hne : ((WA.length : Int) != a2 - 1) = false := by rw [hl]; simp
                clear hl hr hall
                go_wp2_with fail
                refine (wRises_yes WA _ _ _ R24_wa.out HWA.out HR.out).mono ?_
                rintro e25 w25 ⟨rfl, hb25⟩
                obtain ⟨hc25, hf25⟩ := bcell hb25
                have hz25 := hb25.size
                (try simp only [World.size_alloc, World.size_setCell, World.size_drew] at hz25)
                have B25 : Below w24.heap.size w24 w25 := Below.trans (b := _) (by (repeat' (first | (with_reducible exact Below.refl _ _) | (with_reducible assumption) | (with_reducible refine Below.alloc ?_ ?_ _) | (with_reducible refine Below.drew ?_) | (with_reducible refine below_drewN ?_ _) | (with_reducible refine Below.setCell ?_ ?_ _) | (with_reducible refine below_call ?_ ?_ (by assumption)) | go_size))) (hb25.mono (by first | omega | (simp only [World.size_alloc, World.size_setCell, World.size_drew]; omega)))
                obtain ⟨hd25, -⟩ := bcell B25
                have c25_an_0 : w25.cell? ⟨w9.heap.size, 0, none⟩ = some (.int .i64 n3) := (hd25 _ _ q_an).trans c24_an_0
                have c25_an_1 : w25.cell? ⟨w9.heap.size, 1, none⟩ = some (.int .i64 d3) := (hd25 _ _ q_an).trans c24_an_1
                have c25_q_0 : w25.cell? ⟨w12.heap.size, 0, none⟩ = some (.int .i64 n5) := (hd25 _ _ q_q).trans c24_q_0
                have c25_q_1 : w25.cell? ⟨w12.heap.size, 1, none⟩ = some (.int .i64 d5) := (hd25 _ _ q_q).trans c24_q_1
                have c25_q_2 : w25.cell? ⟨w12.heap.size, 2, none⟩ = some (.int .i64 x5) := (hd25 _ _ q_q).trans c24_q_2
                have c25_q_3 : w25.cell? ⟨w12.heap.size, 3, none⟩ = some (.int .i64 y5) := (hd25 _ _ q_q).trans c24_q_3
                have c25_m_0 : w25.cell? ⟨w15.heap.size, 0, none⟩ = some (.int .i64 n6) := (hd25 _ _ q_m).trans c24_m_0
                have c25_m_1 : w25.cell? ⟨w15.heap.size, 1, none⟩ = some (.int .i64 d6) := (hd25 _ _ q_m).trans c24_m_1
                have c25_m_2 : w25.cell? ⟨w15.heap.size, 2, none⟩ = some (.int .i64 x6) := (hd25 _ _ q_m).trans c24_m_2
                have c25_m_3 : w25.cell? ⟨w15.heap.size, 3, none⟩ = some (.int .i64 y6) := (hd25 _ _ q_m).trans c24_m_3
                have c25_mirror_0 : w25.cell? ⟨w16.heap.size, 0, none⟩ = some (.int .i64 m1) := (hd25 _ _ q_mirror).trans c24_mirror_0
                have c25_mirror_1 : w25.cell? ⟨w16.heap.size, 1, none⟩ = some (.int .i64 m2) := (hd25 _ _ q_mirror).trans c24_mirror_1
                have c25_mirror_2 : w25.cell? ⟨w16.heap.size, 2, none⟩ = some (.int .i64 m3) := (hd25 _ _ q_mirror).trans c24_mirror_2
                have c25_mirror_3 : w25.cell? ⟨w16.heap.size, 3, none⟩ = some (.int .i64 m4) := (hd25 _ _ q_mirror).trans c24_mirror_3
                have c25_r_0 : w25.cell? ⟨w18.heap.size, 0, none⟩ = some (.int .i64 n7) := (hd25 _ _ q_r).trans c24_r_0
                have c25_r_1 : w25.cell? ⟨w18.heap.size, 1, none⟩ = some (.int .i64 d7) := (hd25 _ _ q_r).trans c24_r_1
                have c25_r_2 : w25.cell? ⟨w18.heap.size, 2, none⟩ = some (.int .i64 x7) := (hd25 _ _ q_r).trans c24_r_2
                have c25_r_3 : w25.cell? ⟨w18.heap.size, 3, none⟩ = some (.int .i64 y7) := (hd25 _ _ q_r).trans c24_r_3
                have c25_by_0 : w25.cell? ⟨w18.heap.size + 1, 0, none⟩ = some (.int .i64 n8) := (hd25 _ _ q_by).trans c24_by_0
                have c25_by_1 : w25.cell? ⟨w18.heap.size + 1, 1, none⟩ = some (.int .i64 d8) := (hd25 _ _ q_by).trans c24_by_1
                have c25_turned_0 : w25.cell? ⟨w19.heap.size, 0, none⟩ = some (.int .i64 t1) := (hd25 _ _ q_turned).trans c24_turned_0
                have c25_turned_1 : w25.cell? ⟨w19.heap.size, 1, none⟩ = some (.int .i64 t2) := (hd25 _ _ q_turned).trans c24_turned_1
                have c25_turned_2 : w25.cell? ⟨w19.heap.size, 2, none⟩ = some (.int .i64 t3) := (hd25 _ _ q_turned).trans c24_turned_2
                have c25_turned_3 : w25.cell? ⟨w19.heap.size, 3, none⟩ = some (.int .i64 t4) := (hd25 _ _ q_turned).trans c24_turned_3
                replace q_an : w9.heap.size < w25.heap.size := by omega
                replace q_q : w12.heap.size < w25.heap.size := by omega
                replace q_m : w15.heap.size < w25.heap.size := by omega
                replace q_mirror : w16.heap.size < w25.heap.size := by omega
                replace q_r : w18.heap.size < w25.heap.size := by omega
                replace q_by : w18.heap.size + 1 < w25.heap.size := by omega
                replace q_turned : w19.heap.size < w25.heap.size := by omega
                have R25_wa := Lib.hid (TRow.below R24_wa.out B25)
                clear R24_wa
                have R25_gl := Lib.hid (TRow.below R24_gl.out B25)
                clear R24_gl
                have BW25 : Below w.heap.size w w25 := BW24.trans (B25.mono BW24.size)
                have BX25 : Below w24.heap.size w24 w25 := B25
                clear hc25 hf25 hb25 hd25 B25 c24_an_0 c24_an_1 c24_q_0 c24_q_1 c24_q_2 c24_q_3 c24_m_0 c24_m_1 c24_m_2 c24_m_3 c24_mirror_0 c24_mirror_1 c24_mirror_2 c24_mirror_3 c24_r_0 c24_r_1 c24_r_2 c24_r_3 c24_by_0 c24_by_1 c24_turned_0 c24_turned_1 c24_turned_2 c24_turned_3 BW24
                go_wp2_with fail
                go_loopw [310] (fun i wr => ∃ k : Nat, k ≤ WA.length ∧ i = .int .i64 (k : Int) ∧ Below w25.heap.size w25 wr) (fun i _ => WA.length - (RowKit.intOf i).toNat)
                case atStart => exact ⟨0, Nat.zero_le _, rfl, Below.refl _ _⟩
                case round =>
                  obtain ⟨k, hk, rfl, hb26⟩ := hrel
                  obtain ⟨w26, hw26⟩ : ∃ x : World, x = wr := ⟨_, rfl⟩
                  subst hw26
                  have hb26' := hb26
                  obtain ⟨hc26, hf26⟩ := bcell hb26
                  have hz26 := hb26.size
                  (try simp only [World.size_alloc, World.size_setCell, World.size_drew] at hz26)
                  have B26 : Below w25.heap.size w25 w26 := Below.trans (b := _) (by (repeat' (first | (with_reducible exact Below.refl _ _) | (with_reducible assumption) | (with_reducible refine Below.alloc ?_ ?_ _) | (with_reducible refine Below.drew ?_) | (with_reducible refine below_drewN ?_ _) | (with_reducible refine Below.setCell ?_ ?_ _) | (with_reducible refine below_call ?_ ?_ (by assumption)) | go_size))) (hb26.mono (by first | omega | (simp only [World.size_alloc, World.size_setCell, World.size_drew]; omega)))
                  obtain ⟨hd26, -⟩ := bcell B26
                  have c26_an_0 : w26.cell? ⟨w9.heap.size, 0, none⟩ = some (.int .i64 n3) := (hd26 _ _ q_an).trans c25_an_0
                  have c26_an_1 : w26.cell? ⟨w9.heap.size, 1, none⟩ = some (.int .i64 d3) := (hd26 _ _ q_an).trans c25_an_1
                  have c26_q_0 : w26.cell? ⟨w12.heap.size, 0, none⟩ = some (.int .i64 n5) := (hd26 _ _ q_q).trans c25_q_0
                  have c26_q_1 : w26.cell? ⟨w12.heap.size, 1, none⟩ = some (.int .i64 d5) := (hd26 _ _ q_q).trans c25_q_1
                  have c26_q_2 : w26.cell? ⟨w12.heap.size, 2, none⟩ = some (.int .i64 x5) := (hd26 _ _ q_q).trans c25_q_2
                  have c26_q_3 : w26.cell? ⟨w12.heap.size, 3, none⟩ = some (.int .i64 y5) := (hd26 _ _ q_q).trans c25_q_3
                  have c26_m_0 : w26.cell? ⟨w15.heap.size, 0, none⟩ = some (.int .i64 n6) := (hd26 _ _ q_m).trans c25_m_0
                  have c26_m_1 : w26.cell? ⟨w15.heap.size, 1, none⟩ = some (.int .i64 d6) := (hd26 _ _ q_m).trans c25_m_1
                  have c26_m_2 : w26.cell? ⟨w15.heap.size, 2, none⟩ = some (.int .i64 x6) := (hd26 _ _ q_m).trans c25_m_2
                  have c26_m_3 : w26.cell? ⟨w15.heap.size, 3, none⟩ = some (.int .i64 y6) := (hd26 _ _ q_m).trans c25_m_3
                  have c26_mirror_0 : w26.cell? ⟨w16.heap.size, 0, none⟩ = some (.int .i64 m1) := (hd26 _ _ q_mirror).trans c25_mirror_0
                  have c26_mirror_1 : w26.cell? ⟨w16.heap.size, 1, none⟩ = some (.int .i64 m2) := (hd26 _ _ q_mirror).trans c25_mirror_1
                  have c26_mirror_2 : w26.cell? ⟨w16.heap.size, 2, none⟩ = some (.int .i64 m3) := (hd26 _ _ q_mirror).trans c25_mirror_2
                  have c26_mirror_3 : w26.cell? ⟨w16.heap.size, 3, none⟩ = some (.int .i64 m4) := (hd26 _ _ q_mirror).trans c25_mirror_3
                  have c26_r_0 : w26.cell? ⟨w18.heap.size, 0, none⟩ = some (.int .i64 n7) := (hd26 _ _ q_r).trans c25_r_0
                  have c26_r_1 : w26.cell? ⟨w18.heap.size, 1, none⟩ = some (.int .i64 d7) := (hd26 _ _ q_r).trans c25_r_1
                  have c26_r_2 : w26.cell? ⟨w18.heap.size, 2, none⟩ = some (.int .i64 x7) := (hd26 _ _ q_r).trans c25_r_2
                  have c26_r_3 : w26.cell? ⟨w18.heap.size, 3, none⟩ = some (.int .i64 y7) := (hd26 _ _ q_r).trans c25_r_3
                  have c26_by_0 : w26.cell? ⟨w18.heap.size + 1, 0, none⟩ = some (.int .i64 n8) := (hd26 _ _ q_by).trans c25_by_0
                  have c26_by_1 : w26.cell? ⟨w18.heap.size + 1, 1, none⟩ = some (.int .i64 d8) := (hd26 _ _ q_by).trans c25_by_1
                  have c26_turned_0 : w26.cell? ⟨w19.heap.size, 0, none⟩ = some (.int .i64 t1) := (hd26 _ _ q_turned).trans c25_turned_0
                  have c26_turned_1 : w26.cell? ⟨w19.heap.size, 1, none⟩ = some (.int .i64 t2) := (hd26 _ _ q_turned).trans c25_turned_1
                  have c26_turned_2 : w26.cell? ⟨w19.heap.size, 2, none⟩ = some (.int .i64 t3) := (hd26 _ _ q_turned).trans c25_turned_2
                  have c26_turned_3 : w26.cell? ⟨w19.heap.size, 3, none⟩ = some (.int .i64 t4) := (hd26 _ _ q_turned).trans c25_turned_3
                  replace q_an : w9.heap.size < w26.heap.size := by omega
                  replace q_q : w12.heap.size < w26.heap.size := by omega
                  replace q_m : w15.heap.size < w26.heap.size := by omega
                  replace q_mirror : w16.heap.size < w26.heap.size := by omega
                  replace q_r : w18.heap.size < w26.heap.size := by omega
                  replace q_by : w18.heap.size + 1 < w26.heap.size := by omega
                  replace q_turned : w19.heap.size < w26.heap.size := by omega
                  have R26_wa := Lib.hid (TRow.below R25_wa.out B26)
                  clear R25_wa
                  have R26_gl := Lib.hid (TRow.below R25_gl.out B26)
                  clear R25_gl
                  have BW26 : Below w.heap.size w w26 := BW25.trans (B26.mono BW25.size)
                  have BX26 : Below w24.heap.size w24 w26 := BX25.trans (B26.mono BX25.size)
                  clear BX25
                  clear hc26 hf26 hb26 hd26 B26 c25_an_0 c25_an_1 c25_q_0 c25_q_1 c25_q_2 c25_q_3 c25_m_0 c25_m_1 c25_m_2 c25_m_3 c25_mirror_0 c25_mirror_1 c25_mirror_2 c25_mirror_3 c25_r_0 c25_r_1 c25_r_2 c25_r_3 c25_by_0 c25_by_1 c25_turned_0 c25_turned_1 c25_turned_2 c25_turned_3 BW25
                  have i0 : (0 : Int) ≤ (k : Int) := Int.natCast_nonneg _
                  by_cases hlt : k < WA.length
                  · have i1 : (k : Int) < (WA.length : Int) := by omega
                    have hmem : WA.getD k (0, 0) ∈ WA := by rw [List.getD_eq_getElem?_getD, List.getElem?_eq_getElem hlt]; exact List.getElem_mem hlt
                    have ha := HA.out _ hmem
                    obtain ⟨pa, pc, hpv, hl1, hl2, hcell⟩ := TRow.cells R26_wa.out
                    simp only [Value.slice.injEq] at hpv
                    obtain ⟨hp1, -, hp2⟩ := hpv
                    subst hp1
                    subst hp2
                    obtain ⟨ga, rfl, u1, u2a, u3a, u4a⟩ := hcell k (by omega)
                    clear hcell hl1 hl2 u1
                    clear hmem
                    generalize WA.getD k (0, 0) = x at *
                    obtain ⟨p1, p2⟩ := x
                    simp only at u3a u4a ha
                    have Z1 := Lib.hid (fun W => (show Calls Tryz.prog 28 #[.int .i64 a2, tv p1 p2] W fun e w' => e = .returned (rv (n3, d3, true)) ∧ Below W.heap.size W w' from by have := implAngleOf_any a2 p1 p2 W; rw [ha] at this; exact this))
                    clear ha
                    go_wp2_with fail
                    refine (Z1.out _).mono ?_
                    rintro e27 w27 ⟨rfl, hb27⟩
                    obtain ⟨hc27, hf27⟩ := bcell hb27
                    have hz27 := hb27.size
                    (try simp only [World.size_alloc, World.size_setCell, World.size_drew] at hz27)
                    have B27 : Below w26.heap.size w26 w27 := Below.trans (b := _) (by (repeat' (first | (with_reducible exact Below.refl _ _) | (with_reducible assumption) | (with_reducible refine Below.alloc ?_ ?_ _) | (with_reducible refine Below.drew ?_) | (with_reducible refine below_drewN ?_ _) | (with_reducible refine Below.setCell ?_ ?_ _) | (with_reducible refine below_call ?_ ?_ (by assumption)) | go_size))) (hb27.mono (by first | omega | (simp only [World.size_alloc, World.size_setCell, World.size_drew]; omega)))
                    obtain ⟨hd27, -⟩ := bcell B27
                    have c27_an_0 : w27.cell? ⟨w9.heap.size, 0, none⟩ = some (.int .i64 n3) := (hd27 _ _ q_an).trans c26_an_0
                    have c27_an_1 : w27.cell? ⟨w9.heap.size, 1, none⟩ = some (.int .i64 d3) := (hd27 _ _ q_an).trans c26_an_1
                    have c27_q_0 : w27.cell? ⟨w12.heap.size, 0, none⟩ = some (.int .i64 n5) := (hd27 _ _ q_q).trans c26_q_0
                    have c27_q_1 : w27.cell? ⟨w12.heap.size, 1, none⟩ = some (.int .i64 d5) := (hd27 _ _ q_q).trans c26_q_1
                    have c27_q_2 : w27.cell? ⟨w12.heap.size, 2, none⟩ = some (.int .i64 x5) := (hd27 _ _ q_q).trans c26_q_2
                    have c27_q_3 : w27.cell? ⟨w12.heap.size, 3, none⟩ = some (.int .i64 y5) := (hd27 _ _ q_q).trans c26_q_3
                    have c27_m_0 : w27.cell? ⟨w15.heap.size, 0, none⟩ = some (.int .i64 n6) := (hd27 _ _ q_m).trans c26_m_0
                    have c27_m_1 : w27.cell? ⟨w15.heap.size, 1, none⟩ = some (.int .i64 d6) := (hd27 _ _ q_m).trans c26_m_1
                    have c27_m_2 : w27.cell? ⟨w15.heap.size, 2, none⟩ = some (.int .i64 x6) := (hd27 _ _ q_m).trans c26_m_2
                    have c27_m_3 : w27.cell? ⟨w15.heap.size, 3, none⟩ = some (.int .i64 y6) := (hd27 _ _ q_m).trans c26_m_3
                    have c27_mirror_0 : w27.cell? ⟨w16.heap.size, 0, none⟩ = some (.int .i64 m1) := (hd27 _ _ q_mirror).trans c26_mirror_0
                    have c27_mirror_1 : w27.cell? ⟨w16.heap.size, 1, none⟩ = some (.int .i64 m2) := (hd27 _ _ q_mirror).trans c26_mirror_1
                    have c27_mirror_2 : w27.cell? ⟨w16.heap.size, 2, none⟩ = some (.int .i64 m3) := (hd27 _ _ q_mirror).trans c26_mirror_2
                    have c27_mirror_3 : w27.cell? ⟨w16.heap.size, 3, none⟩ = some (.int .i64 m4) := (hd27 _ _ q_mirror).trans c26_mirror_3
                    have c27_r_0 : w27.cell? ⟨w18.heap.size, 0, none⟩ = some (.int .i64 n7) := (hd27 _ _ q_r).trans c26_r_0
                    have c27_r_1 : w27.cell? ⟨w18.heap.size, 1, none⟩ = some (.int .i64 d7) := (hd27 _ _ q_r).trans c26_r_1
                    have c27_r_2 : w27.cell? ⟨w18.heap.size, 2, none⟩ = some (.int .i64 x7) := (hd27 _ _ q_r).trans c26_r_2
                    have c27_r_3 : w27.cell? ⟨w18.heap.size, 3, none⟩ = some (.int .i64 y7) := (hd27 _ _ q_r).trans c26_r_3
                    have c27_by_0 : w27.cell? ⟨w18.heap.size + 1, 0, none⟩ = some (.int .i64 n8) := (hd27 _ _ q_by).trans c26_by_0
                    have c27_by_1 : w27.cell? ⟨w18.heap.size + 1, 1, none⟩ = some (.int .i64 d8) := (hd27 _ _ q_by).trans c26_by_1
                    have c27_turned_0 : w27.cell? ⟨w19.heap.size, 0, none⟩ = some (.int .i64 t1) := (hd27 _ _ q_turned).trans c26_turned_0
                    have c27_turned_1 : w27.cell? ⟨w19.heap.size, 1, none⟩ = some (.int .i64 t2) := (hd27 _ _ q_turned).trans c26_turned_1
                    have c27_turned_2 : w27.cell? ⟨w19.heap.size, 2, none⟩ = some (.int .i64 t3) := (hd27 _ _ q_turned).trans c26_turned_2
                    have c27_turned_3 : w27.cell? ⟨w19.heap.size, 3, none⟩ = some (.int .i64 t4) := (hd27 _ _ q_turned).trans c26_turned_3
                    replace q_an : w9.heap.size < w27.heap.size := by omega
                    replace q_q : w12.heap.size < w27.heap.size := by omega
                    replace q_m : w15.heap.size < w27.heap.size := by omega
                    replace q_mirror : w16.heap.size < w27.heap.size := by omega
                    replace q_r : w18.heap.size < w27.heap.size := by omega
                    replace q_by : w18.heap.size + 1 < w27.heap.size := by omega
                    replace q_turned : w19.heap.size < w27.heap.size := by omega
                    have c27_x_0 : w27.cell? ⟨w26.heap.size, 0, none⟩ = some (.int .i64 p1) := (hc27 _ _ (by go_size)).trans (by go_simp)
                    have c27_x_1 : w27.cell? ⟨w26.heap.size, 1, none⟩ = some (.int .i64 p2) := (hc27 _ _ (by go_size)).trans (by go_simp)
                    have q_x : w26.heap.size < w27.heap.size := by omega
                    have R27_wa := Lib.hid (TRow.below R26_wa.out B27)
                    clear R26_wa
                    have R27_gl := Lib.hid (TRow.below R26_gl.out B27)
                    clear R26_gl
                    have BW27 : Below w.heap.size w w27 := BW26.trans (B27.mono BW26.size)
                    have BX27 : Below w26.heap.size w26 w27 := B27
                    clear hc27 hf27 hb27 hd27 B27 c26_an_0 c26_an_1 c26_q_0 c26_q_1 c26_q_2 c26_q_3 c26_m_0 c26_m_1 c26_m_2 c26_m_3 c26_mirror_0 c26_mirror_1 c26_mirror_2 c26_mirror_3 c26_r_0 c26_r_1 c26_r_2 c26_r_3 c26_by_0 c26_by_1 c26_turned_0 c26_turned_1 c26_turned_2 c26_turned_3 BW26
                    go_upto_region 45 with fail
                    have hb28 : Below w27.heap.size w27 (w27.alloc (Obj.cells #[.int .i64 n3, .int .i64 d3] 25)) := by (repeat' (first | (with_reducible exact Below.refl _ _) | (with_reducible assumption) | (with_reducible refine Below.alloc ?_ ?_ _) | (with_reducible refine Below.drew ?_) | (with_reducible refine below_drewN ?_ _) | (with_reducible refine Below.setCell ?_ ?_ _) | (with_reducible refine below_call ?_ ?_ (by assumption)) | go_size))
                    have c28_own_0 : (w27.alloc (Obj.cells #[.int .i64 n3, .int .i64 d3] 25)).cell? ⟨w27.heap.size, 0, none⟩ = some (.int .i64 n3) := by go_simp
                    have c28_own_1 : (w27.alloc (Obj.cells #[.int .i64 n3, .int .i64 d3] 25)).cell? ⟨w27.heap.size, 1, none⟩ = some (.int .i64 d3) := by go_simp
                    have q_own : w27.heap.size < (w27.alloc (Obj.cells #[.int .i64 n3, .int .i64 d3] 25)).heap.size := by go_size
                    generalize (w27.alloc (Obj.cells #[.int .i64 n3, .int .i64 d3] 25)) = w28 at *
                    obtain ⟨hd28, -⟩ := bcell hb28
                    have hz28 := hb28.size
                    have c28_an_0 : w28.cell? ⟨w9.heap.size, 0, none⟩ = some (.int .i64 n3) := (hd28 _ _ q_an).trans c27_an_0
                    have c28_an_1 : w28.cell? ⟨w9.heap.size, 1, none⟩ = some (.int .i64 d3) := (hd28 _ _ q_an).trans c27_an_1
                    have c28_q_0 : w28.cell? ⟨w12.heap.size, 0, none⟩ = some (.int .i64 n5) := (hd28 _ _ q_q).trans c27_q_0
                    have c28_q_1 : w28.cell? ⟨w12.heap.size, 1, none⟩ = some (.int .i64 d5) := (hd28 _ _ q_q).trans c27_q_1
                    have c28_q_2 : w28.cell? ⟨w12.heap.size, 2, none⟩ = some (.int .i64 x5) := (hd28 _ _ q_q).trans c27_q_2
                    have c28_q_3 : w28.cell? ⟨w12.heap.size, 3, none⟩ = some (.int .i64 y5) := (hd28 _ _ q_q).trans c27_q_3
                    have c28_m_0 : w28.cell? ⟨w15.heap.size, 0, none⟩ = some (.int .i64 n6) := (hd28 _ _ q_m).trans c27_m_0
                    have c28_m_1 : w28.cell? ⟨w15.heap.size, 1, none⟩ = some (.int .i64 d6) := (hd28 _ _ q_m).trans c27_m_1
                    have c28_m_2 : w28.cell? ⟨w15.heap.size, 2, none⟩ = some (.int .i64 x6) := (hd28 _ _ q_m).trans c27_m_2
                    have c28_m_3 : w28.cell? ⟨w15.heap.size, 3, none⟩ = some (.int .i64 y6) := (hd28 _ _ q_m).trans c27_m_3
                    have c28_mirror_0 : w28.cell? ⟨w16.heap.size, 0, none⟩ = some (.int .i64 m1) := (hd28 _ _ q_mirror).trans c27_mirror_0
                    have c28_mirror_1 : w28.cell? ⟨w16.heap.size, 1, none⟩ = some (.int .i64 m2) := (hd28 _ _ q_mirror).trans c27_mirror_1
                    have c28_mirror_2 : w28.cell? ⟨w16.heap.size, 2, none⟩ = some (.int .i64 m3) := (hd28 _ _ q_mirror).trans c27_mirror_2
                    have c28_mirror_3 : w28.cell? ⟨w16.heap.size, 3, none⟩ = some (.int .i64 m4) := (hd28 _ _ q_mirror).trans c27_mirror_3
                    have c28_r_0 : w28.cell? ⟨w18.heap.size, 0, none⟩ = some (.int .i64 n7) := (hd28 _ _ q_r).trans c27_r_0
                    have c28_r_1 : w28.cell? ⟨w18.heap.size, 1, none⟩ = some (.int .i64 d7) := (hd28 _ _ q_r).trans c27_r_1
                    have c28_r_2 : w28.cell? ⟨w18.heap.size, 2, none⟩ = some (.int .i64 x7) := (hd28 _ _ q_r).trans c27_r_2
                    have c28_r_3 : w28.cell? ⟨w18.heap.size, 3, none⟩ = some (.int .i64 y7) := (hd28 _ _ q_r).trans c27_r_3
                    have c28_by_0 : w28.cell? ⟨w18.heap.size + 1, 0, none⟩ = some (.int .i64 n8) := (hd28 _ _ q_by).trans c27_by_0
                    have c28_by_1 : w28.cell? ⟨w18.heap.size + 1, 1, none⟩ = some (.int .i64 d8) := (hd28 _ _ q_by).trans c27_by_1
                    have c28_turned_0 : w28.cell? ⟨w19.heap.size, 0, none⟩ = some (.int .i64 t1) := (hd28 _ _ q_turned).trans c27_turned_0
                    have c28_turned_1 : w28.cell? ⟨w19.heap.size, 1, none⟩ = some (.int .i64 t2) := (hd28 _ _ q_turned).trans c27_turned_1
                    have c28_turned_2 : w28.cell? ⟨w19.heap.size, 2, none⟩ = some (.int .i64 t3) := (hd28 _ _ q_turned).trans c27_turned_2
                    have c28_turned_3 : w28.cell? ⟨w19.heap.size, 3, none⟩ = some (.int .i64 t4) := (hd28 _ _ q_turned).trans c27_turned_3
                    have c28_x_0 : w28.cell? ⟨w26.heap.size, 0, none⟩ = some (.int .i64 p1) := (hd28 _ _ q_x).trans c27_x_0
                    have c28_x_1 : w28.cell? ⟨w26.heap.size, 1, none⟩ = some (.int .i64 p2) := (hd28 _ _ q_x).trans c27_x_1
                    replace q_an : w9.heap.size < w28.heap.size := by omega
                    replace q_q : w12.heap.size < w28.heap.size := by omega
                    replace q_m : w15.heap.size < w28.heap.size := by omega
                    replace q_mirror : w16.heap.size < w28.heap.size := by omega
                    replace q_r : w18.heap.size < w28.heap.size := by omega
                    replace q_by : w18.heap.size + 1 < w28.heap.size := by omega
                    replace q_turned : w19.heap.size < w28.heap.size := by omega
                    replace q_x : w26.heap.size < w28.heap.size := by omega
                    have R28_wa := Lib.hid (TRow.below R27_wa.out hb28)
                    clear R27_wa
                    have R28_gl := Lib.hid (TRow.below R27_gl.out hb28)
                    clear R27_gl
                    have BW28 : Below w.heap.size w w28 := BW27.trans (hb28.mono BW27.size)
                    have BX28 : Below w26.heap.size w26 w28 := BX27.trans (hb28.mono BX27.size)
                    clear BX27
                    clear hb28 hd28 c27_an_0 c27_an_1 c27_q_0 c27_q_1 c27_q_2 c27_q_3 c27_m_0 c27_m_1 c27_m_2 c27_m_3 c27_mirror_0 c27_mirror_1 c27_mirror_2 c27_mirror_3 c27_r_0 c27_r_1 c27_r_2 c27_r_3 c27_by_0 c27_by_1 c27_turned_0 c27_turned_1 c27_turned_2 c27_turned_3 c27_x_0 c27_x_1 BW27
                    go_wp2_with fail
                    go_roundw
                    case rel => exact ⟨k + 1, by omega, by go_num, hb26'.trans (BX28.mono hb26'.size)⟩
                    case measure => simp [RowKit.intOf]; omega
                  have hrelB := BX26
                  go_wp2_with fail
                  go_meet
                  case rel => exact hrelB
          case rest =>
            have hb25 := hcut
            obtain ⟨w25, hw25⟩ : ∃ x : World, x = wc := ⟨_, rfl⟩
            subst hw25
            obtain ⟨hc25, hf25⟩ := bcell hb25
            have hz25 := hb25.size
            (try simp only [World.size_alloc, World.size_setCell, World.size_drew] at hz25)
            have B25 : Below w24.heap.size w24 w25 := Below.trans (b := _) (by (repeat' (first | (with_reducible exact Below.refl _ _) | (with_reducible assumption) | (with_reducible refine Below.alloc ?_ ?_ _) | (with_reducible refine Below.drew ?_) | (with_reducible refine below_drewN ?_ _) | (with_reducible refine Below.setCell ?_ ?_ _) | (with_reducible refine below_call ?_ ?_ (by assumption)) | go_size))) (hb25.mono (by first | omega | (simp only [World.size_alloc, World.size_setCell, World.size_drew]; omega)))
            obtain ⟨hd25, -⟩ := bcell B25
            have c25_an_0 : w25.cell? ⟨w9.heap.size, 0, none⟩ = some (.int .i64 n3) := (hd25 _ _ q_an).trans c24_an_0
            have c25_an_1 : w25.cell? ⟨w9.heap.size, 1, none⟩ = some (.int .i64 d3) := (hd25 _ _ q_an).trans c24_an_1
            have c25_q_0 : w25.cell? ⟨w12.heap.size, 0, none⟩ = some (.int .i64 n5) := (hd25 _ _ q_q).trans c24_q_0
            have c25_q_1 : w25.cell? ⟨w12.heap.size, 1, none⟩ = some (.int .i64 d5) := (hd25 _ _ q_q).trans c24_q_1
            have c25_q_2 : w25.cell? ⟨w12.heap.size, 2, none⟩ = some (.int .i64 x5) := (hd25 _ _ q_q).trans c24_q_2
            have c25_q_3 : w25.cell? ⟨w12.heap.size, 3, none⟩ = some (.int .i64 y5) := (hd25 _ _ q_q).trans c24_q_3
            have c25_m_0 : w25.cell? ⟨w15.heap.size, 0, none⟩ = some (.int .i64 n6) := (hd25 _ _ q_m).trans c24_m_0
            have c25_m_1 : w25.cell? ⟨w15.heap.size, 1, none⟩ = some (.int .i64 d6) := (hd25 _ _ q_m).trans c24_m_1
            have c25_m_2 : w25.cell? ⟨w15.heap.size, 2, none⟩ = some (.int .i64 x6) := (hd25 _ _ q_m).trans c24_m_2
            have c25_m_3 : w25.cell? ⟨w15.heap.size, 3, none⟩ = some (.int .i64 y6) := (hd25 _ _ q_m).trans c24_m_3
            have c25_mirror_0 : w25.cell? ⟨w16.heap.size, 0, none⟩ = some (.int .i64 m1) := (hd25 _ _ q_mirror).trans c24_mirror_0
            have c25_mirror_1 : w25.cell? ⟨w16.heap.size, 1, none⟩ = some (.int .i64 m2) := (hd25 _ _ q_mirror).trans c24_mirror_1
            have c25_mirror_2 : w25.cell? ⟨w16.heap.size, 2, none⟩ = some (.int .i64 m3) := (hd25 _ _ q_mirror).trans c24_mirror_2
            have c25_mirror_3 : w25.cell? ⟨w16.heap.size, 3, none⟩ = some (.int .i64 m4) := (hd25 _ _ q_mirror).trans c24_mirror_3
            have c25_r_0 : w25.cell? ⟨w18.heap.size, 0, none⟩ = some (.int .i64 n7) := (hd25 _ _ q_r).trans c24_r_0
            have c25_r_1 : w25.cell? ⟨w18.heap.size, 1, none⟩ = some (.int .i64 d7) := (hd25 _ _ q_r).trans c24_r_1
            have c25_r_2 : w25.cell? ⟨w18.heap.size, 2, none⟩ = some (.int .i64 x7) := (hd25 _ _ q_r).trans c24_r_2
            have c25_r_3 : w25.cell? ⟨w18.heap.size, 3, none⟩ = some (.int .i64 y7) := (hd25 _ _ q_r).trans c24_r_3
            have c25_by_0 : w25.cell? ⟨w18.heap.size + 1, 0, none⟩ = some (.int .i64 n8) := (hd25 _ _ q_by).trans c24_by_0
            have c25_by_1 : w25.cell? ⟨w18.heap.size + 1, 1, none⟩ = some (.int .i64 d8) := (hd25 _ _ q_by).trans c24_by_1
            have c25_turned_0 : w25.cell? ⟨w19.heap.size, 0, none⟩ = some (.int .i64 t1) := (hd25 _ _ q_turned).trans c24_turned_0
            have c25_turned_1 : w25.cell? ⟨w19.heap.size, 1, none⟩ = some (.int .i64 t2) := (hd25 _ _ q_turned).trans c24_turned_1
            have c25_turned_2 : w25.cell? ⟨w19.heap.size, 2, none⟩ = some (.int .i64 t3) := (hd25 _ _ q_turned).trans c24_turned_2
            have c25_turned_3 : w25.cell? ⟨w19.heap.size, 3, none⟩ = some (.int .i64 t4) := (hd25 _ _ q_turned).trans c24_turned_3
            replace q_an : w9.heap.size < w25.heap.size := by omega
            replace q_q : w12.heap.size < w25.heap.size := by omega
            replace q_m : w15.heap.size < w25.heap.size := by omega
            replace q_mirror : w16.heap.size < w25.heap.size := by omega
            replace q_r : w18.heap.size < w25.heap.size := by omega
            replace q_by : w18.heap.size + 1 < w25.heap.size := by omega
            replace q_turned : w19.heap.size < w25.heap.size := by omega
            have R25_wa := Lib.hid (TRow.below R24_wa.out B25)
            clear R24_wa
            have R25_gl := Lib.hid (TRow.below R24_gl.out B25)
            clear R24_gl
            have BW25 : Below w.heap.size w w25 := BW24.trans (B25.mono BW24.size)
            clear hc25 hf25 hb25 hd25 B25 c24_an_0 c24_an_1 c24_q_0 c24_q_1 c24_q_2 c24_q_3 c24_m_0 c24_m_1 c24_m_2 c24_m_3 c24_mirror_0 c24_mirror_1 c24_mirror_2 c24_mirror_3 c24_r_0 c24_r_1 c24_r_2 c24_r_3 c24_by_0 c24_by_1 c24_turned_0 c24_turned_1 c24_turned_2 c24_turned_3 BW24
            clear R25_wa
            clear q_an c25_an_0 c25_an_1
            go_upto_if 328 with fail
            go_cut [] from 999 to 999 (fun wx => Below w25.heap.size w25 wx)
            case first =>
              as_aux_lemma =>
                cases gok
                · go_wp2_with fail
                  go_meet
                  case rel => exact Below.refl _ _
                · obtain ⟨-, -, hr, hl2, hall⟩ := F6.out rfl
                  obtain ⟨g1, g2, g3, g4, hgg⟩ : ∃ a b c e, mirQ n5 d5 x5 y5 = (a, b, c, e) := ⟨_, _, _, _, rfl⟩
                  obtain ⟨h1, h2⟩ := F9.out rfl _ _ _ _ hgg
                  have HR := Lib.hid hr
                  have HA := Lib.hid hall
                  have hb : (GL.length : Int) ≤ 2 := by omega
                  have hgt : ¬ (2 : Int) < (GL.length : Int) := by omega
                  clear hr hall hgg hl2
                  have Z1 := Lib.hid (fun W => (show Calls Tryz.prog 23 #[sn n5 d5 x5 y5] W fun e w' => e = .returned (rs (g1, g2, g3, g4, true)) ∧ Below W.heap.size W w' from by have := implMirrorSeen_any n5 d5 x5 y5 W; rw [h1] at this; exact this))
                  have Z2 := Lib.hid (fun W => (show Calls Tryz.prog 20 #[.int .i64 a4, sn g1 g2 g3 g4] W (TurnsOut W GL true) from by have := implTimesInGlass_any a4 g1 g2 g3 g4 W; rw [h2] at this; exact this))
                  clear h1 h2
                  go_wp2_with fail
                  refine (Z1.out _).mono ?_
                  rintro e26 w26 ⟨rfl, hb26⟩
                  obtain ⟨hc26, hf26⟩ := bcell hb26
                  have hz26 := hb26.size
                  (try simp only [World.size_alloc, World.size_setCell, World.size_drew] at hz26)
                  have B26 : Below w25.heap.size w25 w26 := Below.trans (b := _) (by (repeat' (first | (with_reducible exact Below.refl _ _) | (with_reducible assumption) | (with_reducible refine Below.alloc ?_ ?_ _) | (with_reducible refine Below.drew ?_) | (with_reducible refine below_drewN ?_ _) | (with_reducible refine Below.setCell ?_ ?_ _) | (with_reducible refine below_call ?_ ?_ (by assumption)) | go_size))) (hb26.mono (by first | omega | (simp only [World.size_alloc, World.size_setCell, World.size_drew]; omega)))
                  obtain ⟨hd26, -⟩ := bcell B26
                  have c26_q_0 : w26.cell? ⟨w12.heap.size, 0, none⟩ = some (.int .i64 n5) := (hd26 _ _ q_q).trans c25_q_0
                  have c26_q_1 : w26.cell? ⟨w12.heap.size, 1, none⟩ = some (.int .i64 d5) := (hd26 _ _ q_q).trans c25_q_1
                  have c26_q_2 : w26.cell? ⟨w12.heap.size, 2, none⟩ = some (.int .i64 x5) := (hd26 _ _ q_q).trans c25_q_2
                  have c26_q_3 : w26.cell? ⟨w12.heap.size, 3, none⟩ = some (.int .i64 y5) := (hd26 _ _ q_q).trans c25_q_3
                  have c26_m_0 : w26.cell? ⟨w15.heap.size, 0, none⟩ = some (.int .i64 n6) := (hd26 _ _ q_m).trans c25_m_0
                  have c26_m_1 : w26.cell? ⟨w15.heap.size, 1, none⟩ = some (.int .i64 d6) := (hd26 _ _ q_m).trans c25_m_1
                  have c26_m_2 : w26.cell? ⟨w15.heap.size, 2, none⟩ = some (.int .i64 x6) := (hd26 _ _ q_m).trans c25_m_2
                  have c26_m_3 : w26.cell? ⟨w15.heap.size, 3, none⟩ = some (.int .i64 y6) := (hd26 _ _ q_m).trans c25_m_3
                  have c26_mirror_0 : w26.cell? ⟨w16.heap.size, 0, none⟩ = some (.int .i64 m1) := (hd26 _ _ q_mirror).trans c25_mirror_0
                  have c26_mirror_1 : w26.cell? ⟨w16.heap.size, 1, none⟩ = some (.int .i64 m2) := (hd26 _ _ q_mirror).trans c25_mirror_1
                  have c26_mirror_2 : w26.cell? ⟨w16.heap.size, 2, none⟩ = some (.int .i64 m3) := (hd26 _ _ q_mirror).trans c25_mirror_2
                  have c26_mirror_3 : w26.cell? ⟨w16.heap.size, 3, none⟩ = some (.int .i64 m4) := (hd26 _ _ q_mirror).trans c25_mirror_3
                  have c26_r_0 : w26.cell? ⟨w18.heap.size, 0, none⟩ = some (.int .i64 n7) := (hd26 _ _ q_r).trans c25_r_0
                  have c26_r_1 : w26.cell? ⟨w18.heap.size, 1, none⟩ = some (.int .i64 d7) := (hd26 _ _ q_r).trans c25_r_1
                  have c26_r_2 : w26.cell? ⟨w18.heap.size, 2, none⟩ = some (.int .i64 x7) := (hd26 _ _ q_r).trans c25_r_2
                  have c26_r_3 : w26.cell? ⟨w18.heap.size, 3, none⟩ = some (.int .i64 y7) := (hd26 _ _ q_r).trans c25_r_3
                  have c26_by_0 : w26.cell? ⟨w18.heap.size + 1, 0, none⟩ = some (.int .i64 n8) := (hd26 _ _ q_by).trans c25_by_0
                  have c26_by_1 : w26.cell? ⟨w18.heap.size + 1, 1, none⟩ = some (.int .i64 d8) := (hd26 _ _ q_by).trans c25_by_1
                  have c26_turned_0 : w26.cell? ⟨w19.heap.size, 0, none⟩ = some (.int .i64 t1) := (hd26 _ _ q_turned).trans c25_turned_0
                  have c26_turned_1 : w26.cell? ⟨w19.heap.size, 1, none⟩ = some (.int .i64 t2) := (hd26 _ _ q_turned).trans c25_turned_1
                  have c26_turned_2 : w26.cell? ⟨w19.heap.size, 2, none⟩ = some (.int .i64 t3) := (hd26 _ _ q_turned).trans c25_turned_2
                  have c26_turned_3 : w26.cell? ⟨w19.heap.size, 3, none⟩ = some (.int .i64 t4) := (hd26 _ _ q_turned).trans c25_turned_3
                  replace q_q : w12.heap.size < w26.heap.size := by omega
                  replace q_m : w15.heap.size < w26.heap.size := by omega
                  replace q_mirror : w16.heap.size < w26.heap.size := by omega
                  replace q_r : w18.heap.size < w26.heap.size := by omega
                  replace q_by : w18.heap.size + 1 < w26.heap.size := by omega
                  replace q_turned : w19.heap.size < w26.heap.size := by omega
                  have R26_gl := Lib.hid (TRow.below R25_gl.out B26)
                  clear R25_gl
                  have BW26 : Below w.heap.size w w26 := BW25.trans (B26.mono BW25.size)
                  have BX26 : Below w25.heap.size w25 w26 := B26
                  clear hc26 hf26 hb26 hd26 B26 c25_q_0 c25_q_1 c25_q_2 c25_q_3 c25_m_0 c25_m_1 c25_m_2 c25_m_3 c25_mirror_0 c25_mirror_1 c25_mirror_2 c25_mirror_3 c25_r_0 c25_r_1 c25_r_2 c25_r_3 c25_by_0 c25_by_1 c25_turned_0 c25_turned_1 c25_turned_2 c25_turned_3 BW25
                  go_wp2_with fail
                  refine (Z2.out _).mono ?_
                  rintro e27 w27 ⟨v_same, rfl, hr27, hb27⟩
                  obtain ⟨pa_same, pc_same, rfl, -⟩ := TRow.cells hr27
                  have R27_same := Lib.hid hr27
                  clear hr27
                  obtain ⟨hc27, hf27⟩ := bcell hb27
                  have hz27 := hb27.size
                  (try simp only [World.size_alloc, World.size_setCell, World.size_drew] at hz27)
                  have B27 : Below w26.heap.size w26 w27 := Below.trans (b := _) (by (repeat' (first | (with_reducible exact Below.refl _ _) | (with_reducible assumption) | (with_reducible refine Below.alloc ?_ ?_ _) | (with_reducible refine Below.drew ?_) | (with_reducible refine below_drewN ?_ _) | (with_reducible refine Below.setCell ?_ ?_ _) | (with_reducible refine below_call ?_ ?_ (by assumption)) | go_size))) (hb27.mono (by first | omega | (simp only [World.size_alloc, World.size_setCell, World.size_drew]; omega)))
                  obtain ⟨hd27, -⟩ := bcell B27
                  have c27_q_0 : w27.cell? ⟨w12.heap.size, 0, none⟩ = some (.int .i64 n5) := (hd27 _ _ q_q).trans c26_q_0
                  have c27_q_1 : w27.cell? ⟨w12.heap.size, 1, none⟩ = some (.int .i64 d5) := (hd27 _ _ q_q).trans c26_q_1
                  have c27_q_2 : w27.cell? ⟨w12.heap.size, 2, none⟩ = some (.int .i64 x5) := (hd27 _ _ q_q).trans c26_q_2
                  have c27_q_3 : w27.cell? ⟨w12.heap.size, 3, none⟩ = some (.int .i64 y5) := (hd27 _ _ q_q).trans c26_q_3
                  have c27_m_0 : w27.cell? ⟨w15.heap.size, 0, none⟩ = some (.int .i64 n6) := (hd27 _ _ q_m).trans c26_m_0
                  have c27_m_1 : w27.cell? ⟨w15.heap.size, 1, none⟩ = some (.int .i64 d6) := (hd27 _ _ q_m).trans c26_m_1
                  have c27_m_2 : w27.cell? ⟨w15.heap.size, 2, none⟩ = some (.int .i64 x6) := (hd27 _ _ q_m).trans c26_m_2
                  have c27_m_3 : w27.cell? ⟨w15.heap.size, 3, none⟩ = some (.int .i64 y6) := (hd27 _ _ q_m).trans c26_m_3
                  have c27_mirror_0 : w27.cell? ⟨w16.heap.size, 0, none⟩ = some (.int .i64 m1) := (hd27 _ _ q_mirror).trans c26_mirror_0
                  have c27_mirror_1 : w27.cell? ⟨w16.heap.size, 1, none⟩ = some (.int .i64 m2) := (hd27 _ _ q_mirror).trans c26_mirror_1
                  have c27_mirror_2 : w27.cell? ⟨w16.heap.size, 2, none⟩ = some (.int .i64 m3) := (hd27 _ _ q_mirror).trans c26_mirror_2
                  have c27_mirror_3 : w27.cell? ⟨w16.heap.size, 3, none⟩ = some (.int .i64 m4) := (hd27 _ _ q_mirror).trans c26_mirror_3
                  have c27_r_0 : w27.cell? ⟨w18.heap.size, 0, none⟩ = some (.int .i64 n7) := (hd27 _ _ q_r).trans c26_r_0
                  have c27_r_1 : w27.cell? ⟨w18.heap.size, 1, none⟩ = some (.int .i64 d7) := (hd27 _ _ q_r).trans c26_r_1
                  have c27_r_2 : w27.cell? ⟨w18.heap.size, 2, none⟩ = some (.int .i64 x7) := (hd27 _ _ q_r).trans c26_r_2
                  have c27_r_3 : w27.cell? ⟨w18.heap.size, 3, none⟩ = some (.int .i64 y7) := (hd27 _ _ q_r).trans c26_r_3
                  have c27_by_0 : w27.cell? ⟨w18.heap.size + 1, 0, none⟩ = some (.int .i64 n8) := (hd27 _ _ q_by).trans c26_by_0
                  have c27_by_1 : w27.cell? ⟨w18.heap.size + 1, 1, none⟩ = some (.int .i64 d8) := (hd27 _ _ q_by).trans c26_by_1
                  have c27_turned_0 : w27.cell? ⟨w19.heap.size, 0, none⟩ = some (.int .i64 t1) := (hd27 _ _ q_turned).trans c26_turned_0
                  have c27_turned_1 : w27.cell? ⟨w19.heap.size, 1, none⟩ = some (.int .i64 t2) := (hd27 _ _ q_turned).trans c26_turned_1
                  have c27_turned_2 : w27.cell? ⟨w19.heap.size, 2, none⟩ = some (.int .i64 t3) := (hd27 _ _ q_turned).trans c26_turned_2
                  have c27_turned_3 : w27.cell? ⟨w19.heap.size, 3, none⟩ = some (.int .i64 t4) := (hd27 _ _ q_turned).trans c26_turned_3
                  replace q_q : w12.heap.size < w27.heap.size := by omega
                  replace q_m : w15.heap.size < w27.heap.size := by omega
                  replace q_mirror : w16.heap.size < w27.heap.size := by omega
                  replace q_r : w18.heap.size < w27.heap.size := by omega
                  replace q_by : w18.heap.size + 1 < w27.heap.size := by omega
                  replace q_turned : w19.heap.size < w27.heap.size := by omega
                  have c27_other_0 : w27.cell? ⟨w26.heap.size, 0, none⟩ = some (.int .i64 g1) := (hc27 _ _ (by go_size)).trans (by go_simp)
                  have c27_other_1 : w27.cell? ⟨w26.heap.size, 1, none⟩ = some (.int .i64 g2) := (hc27 _ _ (by go_size)).trans (by go_simp)
                  have c27_other_2 : w27.cell? ⟨w26.heap.size, 2, none⟩ = some (.int .i64 g3) := (hc27 _ _ (by go_size)).trans (by go_simp)
                  have c27_other_3 : w27.cell? ⟨w26.heap.size, 3, none⟩ = some (.int .i64 g4) := (hc27 _ _ (by go_size)).trans (by go_simp)
                  have q_other : w26.heap.size < w27.heap.size := by omega
                  have R27_gl := Lib.hid (TRow.below R26_gl.out B27)
                  clear R26_gl
                  have BW27 : Below w.heap.size w w27 := BW26.trans (B27.mono BW26.size)
                  have BX27 : Below w25.heap.size w25 w27 := BX26.trans (B27.mono BX26.size)
                  clear BX26
                  clear hc27 hf27 hb27 hd27 B27 c26_q_0 c26_q_1 c26_q_2 c26_q_3 c26_m_0 c26_m_1 c26_m_2 c26_m_3 c26_mirror_0 c26_mirror_1 c26_mirror_2 c26_mirror_3 c26_r_0 c26_r_1 c26_r_2 c26_r_3 c26_by_0 c26_by_1 c26_turned_0 c26_turned_1 c26_turned_2 c26_turned_3 BW26
                  have hsm : ((GL.length : Int) != (GL.length : Int)) = false := by simp
                  go_wp2_with fail
                  refine (wRises_yes GL _ _ _ R27_gl.out HGL.out HR.out).mono ?_
                  rintro e28 w28 ⟨rfl, hb28⟩
                  obtain ⟨hc28, hf28⟩ := bcell hb28
                  have hz28 := hb28.size
                  (try simp only [World.size_alloc, World.size_setCell, World.size_drew] at hz28)
                  have B28 : Below w27.heap.size w27 w28 := Below.trans (b := _) (by (repeat' (first | (with_reducible exact Below.refl _ _) | (with_reducible assumption) | (with_reducible refine Below.alloc ?_ ?_ _) | (with_reducible refine Below.drew ?_) | (with_reducible refine below_drewN ?_ _) | (with_reducible refine Below.setCell ?_ ?_ _) | (with_reducible refine below_call ?_ ?_ (by assumption)) | go_size))) (hb28.mono (by first | omega | (simp only [World.size_alloc, World.size_setCell, World.size_drew]; omega)))
                  obtain ⟨hd28, -⟩ := bcell B28
                  have c28_q_0 : w28.cell? ⟨w12.heap.size, 0, none⟩ = some (.int .i64 n5) := (hd28 _ _ q_q).trans c27_q_0
                  have c28_q_1 : w28.cell? ⟨w12.heap.size, 1, none⟩ = some (.int .i64 d5) := (hd28 _ _ q_q).trans c27_q_1
                  have c28_q_2 : w28.cell? ⟨w12.heap.size, 2, none⟩ = some (.int .i64 x5) := (hd28 _ _ q_q).trans c27_q_2
                  have c28_q_3 : w28.cell? ⟨w12.heap.size, 3, none⟩ = some (.int .i64 y5) := (hd28 _ _ q_q).trans c27_q_3
                  have c28_m_0 : w28.cell? ⟨w15.heap.size, 0, none⟩ = some (.int .i64 n6) := (hd28 _ _ q_m).trans c27_m_0
                  have c28_m_1 : w28.cell? ⟨w15.heap.size, 1, none⟩ = some (.int .i64 d6) := (hd28 _ _ q_m).trans c27_m_1
                  have c28_m_2 : w28.cell? ⟨w15.heap.size, 2, none⟩ = some (.int .i64 x6) := (hd28 _ _ q_m).trans c27_m_2
                  have c28_m_3 : w28.cell? ⟨w15.heap.size, 3, none⟩ = some (.int .i64 y6) := (hd28 _ _ q_m).trans c27_m_3
                  have c28_mirror_0 : w28.cell? ⟨w16.heap.size, 0, none⟩ = some (.int .i64 m1) := (hd28 _ _ q_mirror).trans c27_mirror_0
                  have c28_mirror_1 : w28.cell? ⟨w16.heap.size, 1, none⟩ = some (.int .i64 m2) := (hd28 _ _ q_mirror).trans c27_mirror_1
                  have c28_mirror_2 : w28.cell? ⟨w16.heap.size, 2, none⟩ = some (.int .i64 m3) := (hd28 _ _ q_mirror).trans c27_mirror_2
                  have c28_mirror_3 : w28.cell? ⟨w16.heap.size, 3, none⟩ = some (.int .i64 m4) := (hd28 _ _ q_mirror).trans c27_mirror_3
                  have c28_r_0 : w28.cell? ⟨w18.heap.size, 0, none⟩ = some (.int .i64 n7) := (hd28 _ _ q_r).trans c27_r_0
                  have c28_r_1 : w28.cell? ⟨w18.heap.size, 1, none⟩ = some (.int .i64 d7) := (hd28 _ _ q_r).trans c27_r_1
                  have c28_r_2 : w28.cell? ⟨w18.heap.size, 2, none⟩ = some (.int .i64 x7) := (hd28 _ _ q_r).trans c27_r_2
                  have c28_r_3 : w28.cell? ⟨w18.heap.size, 3, none⟩ = some (.int .i64 y7) := (hd28 _ _ q_r).trans c27_r_3
                  have c28_by_0 : w28.cell? ⟨w18.heap.size + 1, 0, none⟩ = some (.int .i64 n8) := (hd28 _ _ q_by).trans c27_by_0
                  have c28_by_1 : w28.cell? ⟨w18.heap.size + 1, 1, none⟩ = some (.int .i64 d8) := (hd28 _ _ q_by).trans c27_by_1
                  have c28_turned_0 : w28.cell? ⟨w19.heap.size, 0, none⟩ = some (.int .i64 t1) := (hd28 _ _ q_turned).trans c27_turned_0
                  have c28_turned_1 : w28.cell? ⟨w19.heap.size, 1, none⟩ = some (.int .i64 t2) := (hd28 _ _ q_turned).trans c27_turned_1
                  have c28_turned_2 : w28.cell? ⟨w19.heap.size, 2, none⟩ = some (.int .i64 t3) := (hd28 _ _ q_turned).trans c27_turned_2
                  have c28_turned_3 : w28.cell? ⟨w19.heap.size, 3, none⟩ = some (.int .i64 t4) := (hd28 _ _ q_turned).trans c27_turned_3
                  have c28_other_0 : w28.cell? ⟨w26.heap.size, 0, none⟩ = some (.int .i64 g1) := (hd28 _ _ q_other).trans c27_other_0
                  have c28_other_1 : w28.cell? ⟨w26.heap.size, 1, none⟩ = some (.int .i64 g2) := (hd28 _ _ q_other).trans c27_other_1
                  have c28_other_2 : w28.cell? ⟨w26.heap.size, 2, none⟩ = some (.int .i64 g3) := (hd28 _ _ q_other).trans c27_other_2
                  have c28_other_3 : w28.cell? ⟨w26.heap.size, 3, none⟩ = some (.int .i64 g4) := (hd28 _ _ q_other).trans c27_other_3
                  replace q_q : w12.heap.size < w28.heap.size := by omega
                  replace q_m : w15.heap.size < w28.heap.size := by omega
                  replace q_mirror : w16.heap.size < w28.heap.size := by omega
                  replace q_r : w18.heap.size < w28.heap.size := by omega
                  replace q_by : w18.heap.size + 1 < w28.heap.size := by omega
                  replace q_turned : w19.heap.size < w28.heap.size := by omega
                  replace q_other : w26.heap.size < w28.heap.size := by omega
                  have R28_gl := Lib.hid (TRow.below R27_gl.out B28)
                  clear R27_gl
                  have R28_same := Lib.hid (TRow.below R27_same.out B28)
                  clear R27_same
                  have BW28 : Below w.heap.size w w28 := BW27.trans (B28.mono BW27.size)
                  have BX28 : Below w25.heap.size w25 w28 := BX27.trans (B28.mono BX27.size)
                  clear BX27
                  clear hc28 hf28 hb28 hd28 B28 c27_q_0 c27_q_1 c27_q_2 c27_q_3 c27_m_0 c27_m_1 c27_m_2 c27_m_3 c27_mirror_0 c27_mirror_1 c27_mirror_2 c27_mirror_3 c27_r_0 c27_r_1 c27_r_2 c27_r_3 c27_by_0 c27_by_1 c27_turned_0 c27_turned_1 c27_turned_2 c27_turned_3 c27_other_0 c27_other_1 c27_other_2 c27_other_3 BW27
                  go_wp2_with fail
                  go_loopw [365] (fun i wr => ∃ k : Nat, k ≤ GL.length ∧ i = .int .i64 (k : Int) ∧ Below w28.heap.size w28 wr) (fun i _ => GL.length - (RowKit.intOf i).toNat)
                  case atStart => exact ⟨0, Nat.zero_le _, rfl, Below.refl _ _⟩
                  case round =>
                    obtain ⟨k, hk, rfl, hb29⟩ := hrel
                    obtain ⟨w29, hw29⟩ : ∃ x : World, x = wr := ⟨_, rfl⟩
                    subst hw29
                    have hb29' := hb29
                    obtain ⟨hc29, hf29⟩ := bcell hb29
                    have hz29 := hb29.size
                    (try simp only [World.size_alloc, World.size_setCell, World.size_drew] at hz29)
                    have B29 : Below w28.heap.size w28 w29 := Below.trans (b := _) (by (repeat' (first | (with_reducible exact Below.refl _ _) | (with_reducible assumption) | (with_reducible refine Below.alloc ?_ ?_ _) | (with_reducible refine Below.drew ?_) | (with_reducible refine below_drewN ?_ _) | (with_reducible refine Below.setCell ?_ ?_ _) | (with_reducible refine below_call ?_ ?_ (by assumption)) | go_size))) (hb29.mono (by first | omega | (simp only [World.size_alloc, World.size_setCell, World.size_drew]; omega)))
                    obtain ⟨hd29, -⟩ := bcell B29
                    have c29_q_0 : w29.cell? ⟨w12.heap.size, 0, none⟩ = some (.int .i64 n5) := (hd29 _ _ q_q).trans c28_q_0
                    have c29_q_1 : w29.cell? ⟨w12.heap.size, 1, none⟩ = some (.int .i64 d5) := (hd29 _ _ q_q).trans c28_q_1
                    have c29_q_2 : w29.cell? ⟨w12.heap.size, 2, none⟩ = some (.int .i64 x5) := (hd29 _ _ q_q).trans c28_q_2
                    have c29_q_3 : w29.cell? ⟨w12.heap.size, 3, none⟩ = some (.int .i64 y5) := (hd29 _ _ q_q).trans c28_q_3
                    have c29_m_0 : w29.cell? ⟨w15.heap.size, 0, none⟩ = some (.int .i64 n6) := (hd29 _ _ q_m).trans c28_m_0
                    have c29_m_1 : w29.cell? ⟨w15.heap.size, 1, none⟩ = some (.int .i64 d6) := (hd29 _ _ q_m).trans c28_m_1
                    have c29_m_2 : w29.cell? ⟨w15.heap.size, 2, none⟩ = some (.int .i64 x6) := (hd29 _ _ q_m).trans c28_m_2
                    have c29_m_3 : w29.cell? ⟨w15.heap.size, 3, none⟩ = some (.int .i64 y6) := (hd29 _ _ q_m).trans c28_m_3
                    have c29_mirror_0 : w29.cell? ⟨w16.heap.size, 0, none⟩ = some (.int .i64 m1) := (hd29 _ _ q_mirror).trans c28_mirror_0
                    have c29_mirror_1 : w29.cell? ⟨w16.heap.size, 1, none⟩ = some (.int .i64 m2) := (hd29 _ _ q_mirror).trans c28_mirror_1
                    have c29_mirror_2 : w29.cell? ⟨w16.heap.size, 2, none⟩ = some (.int .i64 m3) := (hd29 _ _ q_mirror).trans c28_mirror_2
                    have c29_mirror_3 : w29.cell? ⟨w16.heap.size, 3, none⟩ = some (.int .i64 m4) := (hd29 _ _ q_mirror).trans c28_mirror_3
                    have c29_r_0 : w29.cell? ⟨w18.heap.size, 0, none⟩ = some (.int .i64 n7) := (hd29 _ _ q_r).trans c28_r_0
                    have c29_r_1 : w29.cell? ⟨w18.heap.size, 1, none⟩ = some (.int .i64 d7) := (hd29 _ _ q_r).trans c28_r_1
                    have c29_r_2 : w29.cell? ⟨w18.heap.size, 2, none⟩ = some (.int .i64 x7) := (hd29 _ _ q_r).trans c28_r_2
                    have c29_r_3 : w29.cell? ⟨w18.heap.size, 3, none⟩ = some (.int .i64 y7) := (hd29 _ _ q_r).trans c28_r_3
                    have c29_by_0 : w29.cell? ⟨w18.heap.size + 1, 0, none⟩ = some (.int .i64 n8) := (hd29 _ _ q_by).trans c28_by_0
                    have c29_by_1 : w29.cell? ⟨w18.heap.size + 1, 1, none⟩ = some (.int .i64 d8) := (hd29 _ _ q_by).trans c28_by_1
                    have c29_turned_0 : w29.cell? ⟨w19.heap.size, 0, none⟩ = some (.int .i64 t1) := (hd29 _ _ q_turned).trans c28_turned_0
                    have c29_turned_1 : w29.cell? ⟨w19.heap.size, 1, none⟩ = some (.int .i64 t2) := (hd29 _ _ q_turned).trans c28_turned_1
                    have c29_turned_2 : w29.cell? ⟨w19.heap.size, 2, none⟩ = some (.int .i64 t3) := (hd29 _ _ q_turned).trans c28_turned_2
                    have c29_turned_3 : w29.cell? ⟨w19.heap.size, 3, none⟩ = some (.int .i64 t4) := (hd29 _ _ q_turned).trans c28_turned_3
                    have c29_other_0 : w29.cell? ⟨w26.heap.size, 0, none⟩ = some (.int .i64 g1) := (hd29 _ _ q_other).trans c28_other_0
                    have c29_other_1 : w29.cell? ⟨w26.heap.size, 1, none⟩ = some (.int .i64 g2) := (hd29 _ _ q_other).trans c28_other_1
                    have c29_other_2 : w29.cell? ⟨w26.heap.size, 2, none⟩ = some (.int .i64 g3) := (hd29 _ _ q_other).trans c28_other_2
                    have c29_other_3 : w29.cell? ⟨w26.heap.size, 3, none⟩ = some (.int .i64 g4) := (hd29 _ _ q_other).trans c28_other_3
                    replace q_q : w12.heap.size < w29.heap.size := by omega
                    replace q_m : w15.heap.size < w29.heap.size := by omega
                    replace q_mirror : w16.heap.size < w29.heap.size := by omega
                    replace q_r : w18.heap.size < w29.heap.size := by omega
                    replace q_by : w18.heap.size + 1 < w29.heap.size := by omega
                    replace q_turned : w19.heap.size < w29.heap.size := by omega
                    replace q_other : w26.heap.size < w29.heap.size := by omega
                    have R29_gl := Lib.hid (TRow.below R28_gl.out B29)
                    clear R28_gl
                    have R29_same := Lib.hid (TRow.below R28_same.out B29)
                    clear R28_same
                    have BW29 : Below w.heap.size w w29 := BW28.trans (B29.mono BW28.size)
                    have BX29 : Below w25.heap.size w25 w29 := BX28.trans (B29.mono BX28.size)
                    clear BX28
                    clear hc29 hf29 hb29 hd29 B29 c28_q_0 c28_q_1 c28_q_2 c28_q_3 c28_m_0 c28_m_1 c28_m_2 c28_m_3 c28_mirror_0 c28_mirror_1 c28_mirror_2 c28_mirror_3 c28_r_0 c28_r_1 c28_r_2 c28_r_3 c28_by_0 c28_by_1 c28_turned_0 c28_turned_1 c28_turned_2 c28_turned_3 c28_other_0 c28_other_1 c28_other_2 c28_other_3 BW28
                    have i0 : (0 : Int) ≤ (k : Int) := Int.natCast_nonneg _
                    by_cases hlt : k < GL.length
                    · have i1 : (k : Int) < (GL.length : Int) := by omega
                      have hmem : GL.getD k (0, 0) ∈ GL := by rw [List.getD_eq_getElem?_getD, List.getElem?_eq_getElem hlt]; exact List.getElem_mem hlt
                      have ha := HA.out _ hmem
                      obtain ⟨pa, pc, hpv, hl1, hl2, hcell⟩ := TRow.cells R29_gl.out
                      simp only [Value.slice.injEq] at hpv
                      obtain ⟨hp1, -, hp2⟩ := hpv
                      subst hp1
                      subst hp2
                      obtain ⟨ga, rfl, u1, u2a, u3a, u4a⟩ := hcell k (by omega)
                      clear hcell hl1 hl2 u1
                      clear hmem
                      generalize GL.getD k (0, 0) = x at *
                      obtain ⟨p1, p2⟩ := x
                      simp only at u3a u4a ha
                      obtain ⟨ha1, ha2⟩ := ha
                      generalize lowNum (-p1) p2 = p3 at *
                      generalize lowDen (-p1) p2 = p4 at *
                      have Z3 := Lib.hid (fun W => (show Calls Tryz.prog 29 #[tv p1 p2] W fun e w' => e = .returned (rv (p3, p4, true)) ∧ Below W.heap.size W w' from by have := implMirrorTurn_any p1 p2 W; rw [ha1] at this; exact this))
                      have HH := Lib.hid (hasT_yes ha2)
                      clear ha1 ha2
                      go_wp2_with fail
                      refine (Z3.out _).mono ?_
                      rintro e30 w30 ⟨rfl, hb30⟩
                      obtain ⟨hc30, hf30⟩ := bcell hb30
                      have hz30 := hb30.size
                      (try simp only [World.size_alloc, World.size_setCell, World.size_drew] at hz30)
                      have B30 : Below w29.heap.size w29 w30 := Below.trans (b := _) (by (repeat' (first | (with_reducible exact Below.refl _ _) | (with_reducible assumption) | (with_reducible refine Below.alloc ?_ ?_ _) | (with_reducible refine Below.drew ?_) | (with_reducible refine below_drewN ?_ _) | (with_reducible refine Below.setCell ?_ ?_ _) | (with_reducible refine below_call ?_ ?_ (by assumption)) | go_size))) (hb30.mono (by first | omega | (simp only [World.size_alloc, World.size_setCell, World.size_drew]; omega)))
                      obtain ⟨hd30, -⟩ := bcell B30
                      have c30_q_0 : w30.cell? ⟨w12.heap.size, 0, none⟩ = some (.int .i64 n5) := (hd30 _ _ q_q).trans c29_q_0
                      have c30_q_1 : w30.cell? ⟨w12.heap.size, 1, none⟩ = some (.int .i64 d5) := (hd30 _ _ q_q).trans c29_q_1
                      have c30_q_2 : w30.cell? ⟨w12.heap.size, 2, none⟩ = some (.int .i64 x5) := (hd30 _ _ q_q).trans c29_q_2
                      have c30_q_3 : w30.cell? ⟨w12.heap.size, 3, none⟩ = some (.int .i64 y5) := (hd30 _ _ q_q).trans c29_q_3
                      have c30_m_0 : w30.cell? ⟨w15.heap.size, 0, none⟩ = some (.int .i64 n6) := (hd30 _ _ q_m).trans c29_m_0
                      have c30_m_1 : w30.cell? ⟨w15.heap.size, 1, none⟩ = some (.int .i64 d6) := (hd30 _ _ q_m).trans c29_m_1
                      have c30_m_2 : w30.cell? ⟨w15.heap.size, 2, none⟩ = some (.int .i64 x6) := (hd30 _ _ q_m).trans c29_m_2
                      have c30_m_3 : w30.cell? ⟨w15.heap.size, 3, none⟩ = some (.int .i64 y6) := (hd30 _ _ q_m).trans c29_m_3
                      have c30_mirror_0 : w30.cell? ⟨w16.heap.size, 0, none⟩ = some (.int .i64 m1) := (hd30 _ _ q_mirror).trans c29_mirror_0
                      have c30_mirror_1 : w30.cell? ⟨w16.heap.size, 1, none⟩ = some (.int .i64 m2) := (hd30 _ _ q_mirror).trans c29_mirror_1
                      have c30_mirror_2 : w30.cell? ⟨w16.heap.size, 2, none⟩ = some (.int .i64 m3) := (hd30 _ _ q_mirror).trans c29_mirror_2
                      have c30_mirror_3 : w30.cell? ⟨w16.heap.size, 3, none⟩ = some (.int .i64 m4) := (hd30 _ _ q_mirror).trans c29_mirror_3
                      have c30_r_0 : w30.cell? ⟨w18.heap.size, 0, none⟩ = some (.int .i64 n7) := (hd30 _ _ q_r).trans c29_r_0
                      have c30_r_1 : w30.cell? ⟨w18.heap.size, 1, none⟩ = some (.int .i64 d7) := (hd30 _ _ q_r).trans c29_r_1
                      have c30_r_2 : w30.cell? ⟨w18.heap.size, 2, none⟩ = some (.int .i64 x7) := (hd30 _ _ q_r).trans c29_r_2
                      have c30_r_3 : w30.cell? ⟨w18.heap.size, 3, none⟩ = some (.int .i64 y7) := (hd30 _ _ q_r).trans c29_r_3
                      have c30_by_0 : w30.cell? ⟨w18.heap.size + 1, 0, none⟩ = some (.int .i64 n8) := (hd30 _ _ q_by).trans c29_by_0
                      have c30_by_1 : w30.cell? ⟨w18.heap.size + 1, 1, none⟩ = some (.int .i64 d8) := (hd30 _ _ q_by).trans c29_by_1
                      have c30_turned_0 : w30.cell? ⟨w19.heap.size, 0, none⟩ = some (.int .i64 t1) := (hd30 _ _ q_turned).trans c29_turned_0
                      have c30_turned_1 : w30.cell? ⟨w19.heap.size, 1, none⟩ = some (.int .i64 t2) := (hd30 _ _ q_turned).trans c29_turned_1
                      have c30_turned_2 : w30.cell? ⟨w19.heap.size, 2, none⟩ = some (.int .i64 t3) := (hd30 _ _ q_turned).trans c29_turned_2
                      have c30_turned_3 : w30.cell? ⟨w19.heap.size, 3, none⟩ = some (.int .i64 t4) := (hd30 _ _ q_turned).trans c29_turned_3
                      have c30_other_0 : w30.cell? ⟨w26.heap.size, 0, none⟩ = some (.int .i64 g1) := (hd30 _ _ q_other).trans c29_other_0
                      have c30_other_1 : w30.cell? ⟨w26.heap.size, 1, none⟩ = some (.int .i64 g2) := (hd30 _ _ q_other).trans c29_other_1
                      have c30_other_2 : w30.cell? ⟨w26.heap.size, 2, none⟩ = some (.int .i64 g3) := (hd30 _ _ q_other).trans c29_other_2
                      have c30_other_3 : w30.cell? ⟨w26.heap.size, 3, none⟩ = some (.int .i64 g4) := (hd30 _ _ q_other).trans c29_other_3
                      replace q_q : w12.heap.size < w30.heap.size := by omega
                      replace q_m : w15.heap.size < w30.heap.size := by omega
                      replace q_mirror : w16.heap.size < w30.heap.size := by omega
                      replace q_r : w18.heap.size < w30.heap.size := by omega
                      replace q_by : w18.heap.size + 1 < w30.heap.size := by omega
                      replace q_turned : w19.heap.size < w30.heap.size := by omega
                      replace q_other : w26.heap.size < w30.heap.size := by omega
                      have c30_x_0 : w30.cell? ⟨w29.heap.size, 0, none⟩ = some (.int .i64 p1) := (hc30 _ _ (by go_size)).trans (by go_simp)
                      have c30_x_1 : w30.cell? ⟨w29.heap.size, 1, none⟩ = some (.int .i64 p2) := (hc30 _ _ (by go_size)).trans (by go_simp)
                      have q_x : w29.heap.size < w30.heap.size := by omega
                      have R30_gl := Lib.hid (TRow.below R29_gl.out B30)
                      clear R29_gl
                      have R30_same := Lib.hid (TRow.below R29_same.out B30)
                      clear R29_same
                      have BW30 : Below w.heap.size w w30 := BW29.trans (B30.mono BW29.size)
                      have BX30 : Below w29.heap.size w29 w30 := B30
                      clear hc30 hf30 hb30 hd30 B30 c29_q_0 c29_q_1 c29_q_2 c29_q_3 c29_m_0 c29_m_1 c29_m_2 c29_m_3 c29_mirror_0 c29_mirror_1 c29_mirror_2 c29_mirror_3 c29_r_0 c29_r_1 c29_r_2 c29_r_3 c29_by_0 c29_by_1 c29_turned_0 c29_turned_1 c29_turned_2 c29_turned_3 c29_other_0 c29_other_1 c29_other_2 c29_other_3 BW29
                      go_upto_region 57 with fail
                      have hb31 : Below w30.heap.size w30 (w30.alloc (Obj.cells #[.int .i64 p3, .int .i64 p4] 25)) := by (repeat' (first | (with_reducible exact Below.refl _ _) | (with_reducible assumption) | (with_reducible refine Below.alloc ?_ ?_ _) | (with_reducible refine Below.drew ?_) | (with_reducible refine below_drewN ?_ _) | (with_reducible refine Below.setCell ?_ ?_ _) | (with_reducible refine below_call ?_ ?_ (by assumption)) | go_size))
                      have c31_back_0 : (w30.alloc (Obj.cells #[.int .i64 p3, .int .i64 p4] 25)).cell? ⟨w30.heap.size, 0, none⟩ = some (.int .i64 p3) := by go_simp
                      have c31_back_1 : (w30.alloc (Obj.cells #[.int .i64 p3, .int .i64 p4] 25)).cell? ⟨w30.heap.size, 1, none⟩ = some (.int .i64 p4) := by go_simp
                      have q_back : w30.heap.size < (w30.alloc (Obj.cells #[.int .i64 p3, .int .i64 p4] 25)).heap.size := by go_size
                      generalize (w30.alloc (Obj.cells #[.int .i64 p3, .int .i64 p4] 25)) = w31 at *
                      obtain ⟨hd31, -⟩ := bcell hb31
                      have hz31 := hb31.size
                      have c31_q_0 : w31.cell? ⟨w12.heap.size, 0, none⟩ = some (.int .i64 n5) := (hd31 _ _ q_q).trans c30_q_0
                      have c31_q_1 : w31.cell? ⟨w12.heap.size, 1, none⟩ = some (.int .i64 d5) := (hd31 _ _ q_q).trans c30_q_1
                      have c31_q_2 : w31.cell? ⟨w12.heap.size, 2, none⟩ = some (.int .i64 x5) := (hd31 _ _ q_q).trans c30_q_2
                      have c31_q_3 : w31.cell? ⟨w12.heap.size, 3, none⟩ = some (.int .i64 y5) := (hd31 _ _ q_q).trans c30_q_3
                      have c31_m_0 : w31.cell? ⟨w15.heap.size, 0, none⟩ = some (.int .i64 n6) := (hd31 _ _ q_m).trans c30_m_0
                      have c31_m_1 : w31.cell? ⟨w15.heap.size, 1, none⟩ = some (.int .i64 d6) := (hd31 _ _ q_m).trans c30_m_1
                      have c31_m_2 : w31.cell? ⟨w15.heap.size, 2, none⟩ = some (.int .i64 x6) := (hd31 _ _ q_m).trans c30_m_2
                      have c31_m_3 : w31.cell? ⟨w15.heap.size, 3, none⟩ = some (.int .i64 y6) := (hd31 _ _ q_m).trans c30_m_3
                      have c31_mirror_0 : w31.cell? ⟨w16.heap.size, 0, none⟩ = some (.int .i64 m1) := (hd31 _ _ q_mirror).trans c30_mirror_0
                      have c31_mirror_1 : w31.cell? ⟨w16.heap.size, 1, none⟩ = some (.int .i64 m2) := (hd31 _ _ q_mirror).trans c30_mirror_1
                      have c31_mirror_2 : w31.cell? ⟨w16.heap.size, 2, none⟩ = some (.int .i64 m3) := (hd31 _ _ q_mirror).trans c30_mirror_2
                      have c31_mirror_3 : w31.cell? ⟨w16.heap.size, 3, none⟩ = some (.int .i64 m4) := (hd31 _ _ q_mirror).trans c30_mirror_3
                      have c31_r_0 : w31.cell? ⟨w18.heap.size, 0, none⟩ = some (.int .i64 n7) := (hd31 _ _ q_r).trans c30_r_0
                      have c31_r_1 : w31.cell? ⟨w18.heap.size, 1, none⟩ = some (.int .i64 d7) := (hd31 _ _ q_r).trans c30_r_1
                      have c31_r_2 : w31.cell? ⟨w18.heap.size, 2, none⟩ = some (.int .i64 x7) := (hd31 _ _ q_r).trans c30_r_2
                      have c31_r_3 : w31.cell? ⟨w18.heap.size, 3, none⟩ = some (.int .i64 y7) := (hd31 _ _ q_r).trans c30_r_3
                      have c31_by_0 : w31.cell? ⟨w18.heap.size + 1, 0, none⟩ = some (.int .i64 n8) := (hd31 _ _ q_by).trans c30_by_0
                      have c31_by_1 : w31.cell? ⟨w18.heap.size + 1, 1, none⟩ = some (.int .i64 d8) := (hd31 _ _ q_by).trans c30_by_1
                      have c31_turned_0 : w31.cell? ⟨w19.heap.size, 0, none⟩ = some (.int .i64 t1) := (hd31 _ _ q_turned).trans c30_turned_0
                      have c31_turned_1 : w31.cell? ⟨w19.heap.size, 1, none⟩ = some (.int .i64 t2) := (hd31 _ _ q_turned).trans c30_turned_1
                      have c31_turned_2 : w31.cell? ⟨w19.heap.size, 2, none⟩ = some (.int .i64 t3) := (hd31 _ _ q_turned).trans c30_turned_2
                      have c31_turned_3 : w31.cell? ⟨w19.heap.size, 3, none⟩ = some (.int .i64 t4) := (hd31 _ _ q_turned).trans c30_turned_3
                      have c31_other_0 : w31.cell? ⟨w26.heap.size, 0, none⟩ = some (.int .i64 g1) := (hd31 _ _ q_other).trans c30_other_0
                      have c31_other_1 : w31.cell? ⟨w26.heap.size, 1, none⟩ = some (.int .i64 g2) := (hd31 _ _ q_other).trans c30_other_1
                      have c31_other_2 : w31.cell? ⟨w26.heap.size, 2, none⟩ = some (.int .i64 g3) := (hd31 _ _ q_other).trans c30_other_2
                      have c31_other_3 : w31.cell? ⟨w26.heap.size, 3, none⟩ = some (.int .i64 g4) := (hd31 _ _ q_other).trans c30_other_3
                      have c31_x_0 : w31.cell? ⟨w29.heap.size, 0, none⟩ = some (.int .i64 p1) := (hd31 _ _ q_x).trans c30_x_0
                      have c31_x_1 : w31.cell? ⟨w29.heap.size, 1, none⟩ = some (.int .i64 p2) := (hd31 _ _ q_x).trans c30_x_1
                      replace q_q : w12.heap.size < w31.heap.size := by omega
                      replace q_m : w15.heap.size < w31.heap.size := by omega
                      replace q_mirror : w16.heap.size < w31.heap.size := by omega
                      replace q_r : w18.heap.size < w31.heap.size := by omega
                      replace q_by : w18.heap.size + 1 < w31.heap.size := by omega
                      replace q_turned : w19.heap.size < w31.heap.size := by omega
                      replace q_other : w26.heap.size < w31.heap.size := by omega
                      replace q_x : w29.heap.size < w31.heap.size := by omega
                      have R31_gl := Lib.hid (TRow.below R30_gl.out hb31)
                      clear R30_gl
                      have R31_same := Lib.hid (TRow.below R30_same.out hb31)
                      clear R30_same
                      have BW31 : Below w.heap.size w w31 := BW30.trans (hb31.mono BW30.size)
                      have BX31 : Below w29.heap.size w29 w31 := BX30.trans (hb31.mono BX30.size)
                      clear BX30
                      clear hb31 hd31 c30_q_0 c30_q_1 c30_q_2 c30_q_3 c30_m_0 c30_m_1 c30_m_2 c30_m_3 c30_mirror_0 c30_mirror_1 c30_mirror_2 c30_mirror_3 c30_r_0 c30_r_1 c30_r_2 c30_r_3 c30_by_0 c30_by_1 c30_turned_0 c30_turned_1 c30_turned_2 c30_turned_3 c30_other_0 c30_other_1 c30_other_2 c30_other_3 c30_x_0 c30_x_1 BW30
                      go_wp2_with fail
                      refine (wHas_is GL _ _ _ _ _ HH.out R31_gl.out HGL.out).mono ?_
                      rintro e32 w32 ⟨rfl, hb32⟩
                      obtain ⟨hc32, hf32⟩ := bcell hb32
                      have hz32 := hb32.size
                      (try simp only [World.size_alloc, World.size_setCell, World.size_drew] at hz32)
                      have B32 : Below w31.heap.size w31 w32 := Below.trans (b := _) (by (repeat' (first | (with_reducible exact Below.refl _ _) | (with_reducible assumption) | (with_reducible refine Below.alloc ?_ ?_ _) | (with_reducible refine Below.drew ?_) | (with_reducible refine below_drewN ?_ _) | (with_reducible refine Below.setCell ?_ ?_ _) | (with_reducible refine below_call ?_ ?_ (by assumption)) | go_size))) (hb32.mono (by first | omega | (simp only [World.size_alloc, World.size_setCell, World.size_drew]; omega)))
                      obtain ⟨hd32, -⟩ := bcell B32
                      have c32_q_0 : w32.cell? ⟨w12.heap.size, 0, none⟩ = some (.int .i64 n5) := (hd32 _ _ q_q).trans c31_q_0
                      have c32_q_1 : w32.cell? ⟨w12.heap.size, 1, none⟩ = some (.int .i64 d5) := (hd32 _ _ q_q).trans c31_q_1
                      have c32_q_2 : w32.cell? ⟨w12.heap.size, 2, none⟩ = some (.int .i64 x5) := (hd32 _ _ q_q).trans c31_q_2
                      have c32_q_3 : w32.cell? ⟨w12.heap.size, 3, none⟩ = some (.int .i64 y5) := (hd32 _ _ q_q).trans c31_q_3
                      have c32_m_0 : w32.cell? ⟨w15.heap.size, 0, none⟩ = some (.int .i64 n6) := (hd32 _ _ q_m).trans c31_m_0
                      have c32_m_1 : w32.cell? ⟨w15.heap.size, 1, none⟩ = some (.int .i64 d6) := (hd32 _ _ q_m).trans c31_m_1
                      have c32_m_2 : w32.cell? ⟨w15.heap.size, 2, none⟩ = some (.int .i64 x6) := (hd32 _ _ q_m).trans c31_m_2
                      have c32_m_3 : w32.cell? ⟨w15.heap.size, 3, none⟩ = some (.int .i64 y6) := (hd32 _ _ q_m).trans c31_m_3
                      have c32_mirror_0 : w32.cell? ⟨w16.heap.size, 0, none⟩ = some (.int .i64 m1) := (hd32 _ _ q_mirror).trans c31_mirror_0
                      have c32_mirror_1 : w32.cell? ⟨w16.heap.size, 1, none⟩ = some (.int .i64 m2) := (hd32 _ _ q_mirror).trans c31_mirror_1
                      have c32_mirror_2 : w32.cell? ⟨w16.heap.size, 2, none⟩ = some (.int .i64 m3) := (hd32 _ _ q_mirror).trans c31_mirror_2
                      have c32_mirror_3 : w32.cell? ⟨w16.heap.size, 3, none⟩ = some (.int .i64 m4) := (hd32 _ _ q_mirror).trans c31_mirror_3
                      have c32_r_0 : w32.cell? ⟨w18.heap.size, 0, none⟩ = some (.int .i64 n7) := (hd32 _ _ q_r).trans c31_r_0
                      have c32_r_1 : w32.cell? ⟨w18.heap.size, 1, none⟩ = some (.int .i64 d7) := (hd32 _ _ q_r).trans c31_r_1
                      have c32_r_2 : w32.cell? ⟨w18.heap.size, 2, none⟩ = some (.int .i64 x7) := (hd32 _ _ q_r).trans c31_r_2
                      have c32_r_3 : w32.cell? ⟨w18.heap.size, 3, none⟩ = some (.int .i64 y7) := (hd32 _ _ q_r).trans c31_r_3
                      have c32_by_0 : w32.cell? ⟨w18.heap.size + 1, 0, none⟩ = some (.int .i64 n8) := (hd32 _ _ q_by).trans c31_by_0
                      have c32_by_1 : w32.cell? ⟨w18.heap.size + 1, 1, none⟩ = some (.int .i64 d8) := (hd32 _ _ q_by).trans c31_by_1
                      have c32_turned_0 : w32.cell? ⟨w19.heap.size, 0, none⟩ = some (.int .i64 t1) := (hd32 _ _ q_turned).trans c31_turned_0
                      have c32_turned_1 : w32.cell? ⟨w19.heap.size, 1, none⟩ = some (.int .i64 t2) := (hd32 _ _ q_turned).trans c31_turned_1
                      have c32_turned_2 : w32.cell? ⟨w19.heap.size, 2, none⟩ = some (.int .i64 t3) := (hd32 _ _ q_turned).trans c31_turned_2
                      have c32_turned_3 : w32.cell? ⟨w19.heap.size, 3, none⟩ = some (.int .i64 t4) := (hd32 _ _ q_turned).trans c31_turned_3
                      have c32_other_0 : w32.cell? ⟨w26.heap.size, 0, none⟩ = some (.int .i64 g1) := (hd32 _ _ q_other).trans c31_other_0
                      have c32_other_1 : w32.cell? ⟨w26.heap.size, 1, none⟩ = some (.int .i64 g2) := (hd32 _ _ q_other).trans c31_other_1
                      have c32_other_2 : w32.cell? ⟨w26.heap.size, 2, none⟩ = some (.int .i64 g3) := (hd32 _ _ q_other).trans c31_other_2
                      have c32_other_3 : w32.cell? ⟨w26.heap.size, 3, none⟩ = some (.int .i64 g4) := (hd32 _ _ q_other).trans c31_other_3
                      have c32_x_0 : w32.cell? ⟨w29.heap.size, 0, none⟩ = some (.int .i64 p1) := (hd32 _ _ q_x).trans c31_x_0
                      have c32_x_1 : w32.cell? ⟨w29.heap.size, 1, none⟩ = some (.int .i64 p2) := (hd32 _ _ q_x).trans c31_x_1
                      have c32_back_0 : w32.cell? ⟨w30.heap.size, 0, none⟩ = some (.int .i64 p3) := (hd32 _ _ q_back).trans c31_back_0
                      have c32_back_1 : w32.cell? ⟨w30.heap.size, 1, none⟩ = some (.int .i64 p4) := (hd32 _ _ q_back).trans c31_back_1
                      replace q_q : w12.heap.size < w32.heap.size := by omega
                      replace q_m : w15.heap.size < w32.heap.size := by omega
                      replace q_mirror : w16.heap.size < w32.heap.size := by omega
                      replace q_r : w18.heap.size < w32.heap.size := by omega
                      replace q_by : w18.heap.size + 1 < w32.heap.size := by omega
                      replace q_turned : w19.heap.size < w32.heap.size := by omega
                      replace q_other : w26.heap.size < w32.heap.size := by omega
                      replace q_x : w29.heap.size < w32.heap.size := by omega
                      replace q_back : w30.heap.size < w32.heap.size := by omega
                      have R32_gl := Lib.hid (TRow.below R31_gl.out B32)
                      clear R31_gl
                      have R32_same := Lib.hid (TRow.below R31_same.out B32)
                      clear R31_same
                      have BW32 : Below w.heap.size w w32 := BW31.trans (B32.mono BW31.size)
                      have BX32 : Below w29.heap.size w29 w32 := BX31.trans (B32.mono BX31.size)
                      clear BX31
                      clear hc32 hf32 hb32 hd32 B32 c31_q_0 c31_q_1 c31_q_2 c31_q_3 c31_m_0 c31_m_1 c31_m_2 c31_m_3 c31_mirror_0 c31_mirror_1 c31_mirror_2 c31_mirror_3 c31_r_0 c31_r_1 c31_r_2 c31_r_3 c31_by_0 c31_by_1 c31_turned_0 c31_turned_1 c31_turned_2 c31_turned_3 c31_other_0 c31_other_1 c31_other_2 c31_other_3 c31_x_0 c31_x_1 c31_back_0 c31_back_1 BW31
                      go_wp2_with fail
                      go_roundw
                      case rel => exact ⟨k + 1, by omega, by go_num, hb29'.trans (BX32.mono hb29'.size)⟩
                      case measure => simp [RowKit.intOf]; omega
                    have hrelB := BX29
                    go_wp2_with fail
                    go_meet
                    case rel => exact hrelB
            case rest =>
              have hb26 := hcut
              obtain ⟨w26, hw26⟩ : ∃ x : World, x = wc := ⟨_, rfl⟩
              subst hw26
              obtain ⟨hc26, hf26⟩ := bcell hb26
              have hz26 := hb26.size
              (try simp only [World.size_alloc, World.size_setCell, World.size_drew] at hz26)
              have B26 : Below w25.heap.size w25 w26 := Below.trans (b := _) (by (repeat' (first | (with_reducible exact Below.refl _ _) | (with_reducible assumption) | (with_reducible refine Below.alloc ?_ ?_ _) | (with_reducible refine Below.drew ?_) | (with_reducible refine below_drewN ?_ _) | (with_reducible refine Below.setCell ?_ ?_ _) | (with_reducible refine below_call ?_ ?_ (by assumption)) | go_size))) (hb26.mono (by first | omega | (simp only [World.size_alloc, World.size_setCell, World.size_drew]; omega)))
              obtain ⟨hd26, -⟩ := bcell B26
              have c26_q_0 : w26.cell? ⟨w12.heap.size, 0, none⟩ = some (.int .i64 n5) := (hd26 _ _ q_q).trans c25_q_0
              have c26_q_1 : w26.cell? ⟨w12.heap.size, 1, none⟩ = some (.int .i64 d5) := (hd26 _ _ q_q).trans c25_q_1
              have c26_q_2 : w26.cell? ⟨w12.heap.size, 2, none⟩ = some (.int .i64 x5) := (hd26 _ _ q_q).trans c25_q_2
              have c26_q_3 : w26.cell? ⟨w12.heap.size, 3, none⟩ = some (.int .i64 y5) := (hd26 _ _ q_q).trans c25_q_3
              have c26_m_0 : w26.cell? ⟨w15.heap.size, 0, none⟩ = some (.int .i64 n6) := (hd26 _ _ q_m).trans c25_m_0
              have c26_m_1 : w26.cell? ⟨w15.heap.size, 1, none⟩ = some (.int .i64 d6) := (hd26 _ _ q_m).trans c25_m_1
              have c26_m_2 : w26.cell? ⟨w15.heap.size, 2, none⟩ = some (.int .i64 x6) := (hd26 _ _ q_m).trans c25_m_2
              have c26_m_3 : w26.cell? ⟨w15.heap.size, 3, none⟩ = some (.int .i64 y6) := (hd26 _ _ q_m).trans c25_m_3
              have c26_mirror_0 : w26.cell? ⟨w16.heap.size, 0, none⟩ = some (.int .i64 m1) := (hd26 _ _ q_mirror).trans c25_mirror_0
              have c26_mirror_1 : w26.cell? ⟨w16.heap.size, 1, none⟩ = some (.int .i64 m2) := (hd26 _ _ q_mirror).trans c25_mirror_1
              have c26_mirror_2 : w26.cell? ⟨w16.heap.size, 2, none⟩ = some (.int .i64 m3) := (hd26 _ _ q_mirror).trans c25_mirror_2
              have c26_mirror_3 : w26.cell? ⟨w16.heap.size, 3, none⟩ = some (.int .i64 m4) := (hd26 _ _ q_mirror).trans c25_mirror_3
              have c26_r_0 : w26.cell? ⟨w18.heap.size, 0, none⟩ = some (.int .i64 n7) := (hd26 _ _ q_r).trans c25_r_0
              have c26_r_1 : w26.cell? ⟨w18.heap.size, 1, none⟩ = some (.int .i64 d7) := (hd26 _ _ q_r).trans c25_r_1
              have c26_r_2 : w26.cell? ⟨w18.heap.size, 2, none⟩ = some (.int .i64 x7) := (hd26 _ _ q_r).trans c25_r_2
              have c26_r_3 : w26.cell? ⟨w18.heap.size, 3, none⟩ = some (.int .i64 y7) := (hd26 _ _ q_r).trans c25_r_3
              have c26_by_0 : w26.cell? ⟨w18.heap.size + 1, 0, none⟩ = some (.int .i64 n8) := (hd26 _ _ q_by).trans c25_by_0
              have c26_by_1 : w26.cell? ⟨w18.heap.size + 1, 1, none⟩ = some (.int .i64 d8) := (hd26 _ _ q_by).trans c25_by_1
              have c26_turned_0 : w26.cell? ⟨w19.heap.size, 0, none⟩ = some (.int .i64 t1) := (hd26 _ _ q_turned).trans c25_turned_0
              have c26_turned_1 : w26.cell? ⟨w19.heap.size, 1, none⟩ = some (.int .i64 t2) := (hd26 _ _ q_turned).trans c25_turned_1
              have c26_turned_2 : w26.cell? ⟨w19.heap.size, 2, none⟩ = some (.int .i64 t3) := (hd26 _ _ q_turned).trans c25_turned_2
              have c26_turned_3 : w26.cell? ⟨w19.heap.size, 3, none⟩ = some (.int .i64 t4) := (hd26 _ _ q_turned).trans c25_turned_3
              replace q_q : w12.heap.size < w26.heap.size := by omega
              replace q_m : w15.heap.size < w26.heap.size := by omega
              replace q_mirror : w16.heap.size < w26.heap.size := by omega
              replace q_r : w18.heap.size < w26.heap.size := by omega
              replace q_by : w18.heap.size + 1 < w26.heap.size := by omega
              replace q_turned : w19.heap.size < w26.heap.size := by omega
              have R26_gl := Lib.hid (TRow.below R25_gl.out B26)
              clear R25_gl
              have BW26 : Below w.heap.size w w26 := BW25.trans (B26.mono BW25.size)
              clear hc26 hf26 hb26 hd26 B26 c25_q_0 c25_q_1 c25_q_2 c25_q_3 c25_m_0 c25_m_1 c25_m_2 c25_m_3 c25_mirror_0 c25_mirror_1 c25_mirror_2 c25_mirror_3 c25_r_0 c25_r_1 c25_r_2 c25_r_3 c25_by_0 c25_by_1 c25_turned_0 c25_turned_1 c25_turned_2 c25_turned_3 BW25
              clear R26_gl
              clear q_q c26_q_0 c26_q_1 c26_q_2 c26_q_3
              go_upto_if 383 with fail
              go_cut [] from 999 to 999 (fun wx => Below w26.heap.size w26 wx)
              case first =>
                as_aux_lemma =>
                  cases mo
                  · go_wp2_with fail
                    go_meet
                    case rel => exact Below.refl _ _
                  · have h1 := F7.out.2 rfl
                    have Z1 := Lib.hid (fun W => (show Calls Tryz.prog 23 #[sn m1 m2 m3 m4] W fun e w' => e = .returned (rs (n6, d6, x6, y6, true)) ∧ Below W.heap.size W w' from by have := implMirrorSeen_any m1 m2 m3 m4 W; rw [h1] at this; exact this))
                    clear h1
                    go_wp2_with fail
                    refine (Z1.out _).mono ?_
                    rintro e27 w27 ⟨rfl, hb27⟩
                    obtain ⟨hc27, hf27⟩ := bcell hb27
                    have hz27 := hb27.size
                    (try simp only [World.size_alloc, World.size_setCell, World.size_drew] at hz27)
                    have B27 : Below w26.heap.size w26 w27 := Below.trans (b := _) (by (repeat' (first | (with_reducible exact Below.refl _ _) | (with_reducible assumption) | (with_reducible refine Below.alloc ?_ ?_ _) | (with_reducible refine Below.drew ?_) | (with_reducible refine below_drewN ?_ _) | (with_reducible refine Below.setCell ?_ ?_ _) | (with_reducible refine below_call ?_ ?_ (by assumption)) | go_size))) (hb27.mono (by first | omega | (simp only [World.size_alloc, World.size_setCell, World.size_drew]; omega)))
                    obtain ⟨hd27, -⟩ := bcell B27
                    have c27_m_0 : w27.cell? ⟨w15.heap.size, 0, none⟩ = some (.int .i64 n6) := (hd27 _ _ q_m).trans c26_m_0
                    have c27_m_1 : w27.cell? ⟨w15.heap.size, 1, none⟩ = some (.int .i64 d6) := (hd27 _ _ q_m).trans c26_m_1
                    have c27_m_2 : w27.cell? ⟨w15.heap.size, 2, none⟩ = some (.int .i64 x6) := (hd27 _ _ q_m).trans c26_m_2
                    have c27_m_3 : w27.cell? ⟨w15.heap.size, 3, none⟩ = some (.int .i64 y6) := (hd27 _ _ q_m).trans c26_m_3
                    have c27_mirror_0 : w27.cell? ⟨w16.heap.size, 0, none⟩ = some (.int .i64 m1) := (hd27 _ _ q_mirror).trans c26_mirror_0
                    have c27_mirror_1 : w27.cell? ⟨w16.heap.size, 1, none⟩ = some (.int .i64 m2) := (hd27 _ _ q_mirror).trans c26_mirror_1
                    have c27_mirror_2 : w27.cell? ⟨w16.heap.size, 2, none⟩ = some (.int .i64 m3) := (hd27 _ _ q_mirror).trans c26_mirror_2
                    have c27_mirror_3 : w27.cell? ⟨w16.heap.size, 3, none⟩ = some (.int .i64 m4) := (hd27 _ _ q_mirror).trans c26_mirror_3
                    have c27_r_0 : w27.cell? ⟨w18.heap.size, 0, none⟩ = some (.int .i64 n7) := (hd27 _ _ q_r).trans c26_r_0
                    have c27_r_1 : w27.cell? ⟨w18.heap.size, 1, none⟩ = some (.int .i64 d7) := (hd27 _ _ q_r).trans c26_r_1
                    have c27_r_2 : w27.cell? ⟨w18.heap.size, 2, none⟩ = some (.int .i64 x7) := (hd27 _ _ q_r).trans c26_r_2
                    have c27_r_3 : w27.cell? ⟨w18.heap.size, 3, none⟩ = some (.int .i64 y7) := (hd27 _ _ q_r).trans c26_r_3
                    have c27_by_0 : w27.cell? ⟨w18.heap.size + 1, 0, none⟩ = some (.int .i64 n8) := (hd27 _ _ q_by).trans c26_by_0
                    have c27_by_1 : w27.cell? ⟨w18.heap.size + 1, 1, none⟩ = some (.int .i64 d8) := (hd27 _ _ q_by).trans c26_by_1
                    have c27_turned_0 : w27.cell? ⟨w19.heap.size, 0, none⟩ = some (.int .i64 t1) := (hd27 _ _ q_turned).trans c26_turned_0
                    have c27_turned_1 : w27.cell? ⟨w19.heap.size, 1, none⟩ = some (.int .i64 t2) := (hd27 _ _ q_turned).trans c26_turned_1
                    have c27_turned_2 : w27.cell? ⟨w19.heap.size, 2, none⟩ = some (.int .i64 t3) := (hd27 _ _ q_turned).trans c26_turned_2
                    have c27_turned_3 : w27.cell? ⟨w19.heap.size, 3, none⟩ = some (.int .i64 t4) := (hd27 _ _ q_turned).trans c26_turned_3
                    replace q_m : w15.heap.size < w27.heap.size := by omega
                    replace q_mirror : w16.heap.size < w27.heap.size := by omega
                    replace q_r : w18.heap.size < w27.heap.size := by omega
                    replace q_by : w18.heap.size + 1 < w27.heap.size := by omega
                    replace q_turned : w19.heap.size < w27.heap.size := by omega
                    have BW27 : Below w.heap.size w w27 := BW26.trans (B27.mono BW26.size)
                    have BX27 : Below w26.heap.size w26 w27 := B27
                    clear hc27 hf27 hb27 hd27 B27 c26_m_0 c26_m_1 c26_m_2 c26_m_3 c26_mirror_0 c26_mirror_1 c26_mirror_2 c26_mirror_3 c26_r_0 c26_r_1 c26_r_2 c26_r_3 c26_by_0 c26_by_1 c26_turned_0 c26_turned_1 c26_turned_2 c26_turned_3 BW26
                    go_upto_region 62 with fail
                    have hb28 : Below w27.heap.size w27 (w27.alloc (Obj.cells #[.int .i64 n6, .int .i64 d6, .int .i64 x6, .int .i64 y6] 27)) := by (repeat' (first | (with_reducible exact Below.refl _ _) | (with_reducible assumption) | (with_reducible refine Below.alloc ?_ ?_ _) | (with_reducible refine Below.drew ?_) | (with_reducible refine below_drewN ?_ _) | (with_reducible refine Below.setCell ?_ ?_ _) | (with_reducible refine below_call ?_ ?_ (by assumption)) | go_size))
                    have c28_again_0 : (w27.alloc (Obj.cells #[.int .i64 n6, .int .i64 d6, .int .i64 x6, .int .i64 y6] 27)).cell? ⟨w27.heap.size, 0, none⟩ = some (.int .i64 n6) := by go_simp
                    have c28_again_1 : (w27.alloc (Obj.cells #[.int .i64 n6, .int .i64 d6, .int .i64 x6, .int .i64 y6] 27)).cell? ⟨w27.heap.size, 1, none⟩ = some (.int .i64 d6) := by go_simp
                    have c28_again_2 : (w27.alloc (Obj.cells #[.int .i64 n6, .int .i64 d6, .int .i64 x6, .int .i64 y6] 27)).cell? ⟨w27.heap.size, 2, none⟩ = some (.int .i64 x6) := by go_simp
                    have c28_again_3 : (w27.alloc (Obj.cells #[.int .i64 n6, .int .i64 d6, .int .i64 x6, .int .i64 y6] 27)).cell? ⟨w27.heap.size, 3, none⟩ = some (.int .i64 y6) := by go_simp
                    have q_again : w27.heap.size < (w27.alloc (Obj.cells #[.int .i64 n6, .int .i64 d6, .int .i64 x6, .int .i64 y6] 27)).heap.size := by go_size
                    generalize (w27.alloc (Obj.cells #[.int .i64 n6, .int .i64 d6, .int .i64 x6, .int .i64 y6] 27)) = w28 at *
                    obtain ⟨hd28, -⟩ := bcell hb28
                    have hz28 := hb28.size
                    have c28_m_0 : w28.cell? ⟨w15.heap.size, 0, none⟩ = some (.int .i64 n6) := (hd28 _ _ q_m).trans c27_m_0
                    have c28_m_1 : w28.cell? ⟨w15.heap.size, 1, none⟩ = some (.int .i64 d6) := (hd28 _ _ q_m).trans c27_m_1
                    have c28_m_2 : w28.cell? ⟨w15.heap.size, 2, none⟩ = some (.int .i64 x6) := (hd28 _ _ q_m).trans c27_m_2
                    have c28_m_3 : w28.cell? ⟨w15.heap.size, 3, none⟩ = some (.int .i64 y6) := (hd28 _ _ q_m).trans c27_m_3
                    have c28_mirror_0 : w28.cell? ⟨w16.heap.size, 0, none⟩ = some (.int .i64 m1) := (hd28 _ _ q_mirror).trans c27_mirror_0
                    have c28_mirror_1 : w28.cell? ⟨w16.heap.size, 1, none⟩ = some (.int .i64 m2) := (hd28 _ _ q_mirror).trans c27_mirror_1
                    have c28_mirror_2 : w28.cell? ⟨w16.heap.size, 2, none⟩ = some (.int .i64 m3) := (hd28 _ _ q_mirror).trans c27_mirror_2
                    have c28_mirror_3 : w28.cell? ⟨w16.heap.size, 3, none⟩ = some (.int .i64 m4) := (hd28 _ _ q_mirror).trans c27_mirror_3
                    have c28_r_0 : w28.cell? ⟨w18.heap.size, 0, none⟩ = some (.int .i64 n7) := (hd28 _ _ q_r).trans c27_r_0
                    have c28_r_1 : w28.cell? ⟨w18.heap.size, 1, none⟩ = some (.int .i64 d7) := (hd28 _ _ q_r).trans c27_r_1
                    have c28_r_2 : w28.cell? ⟨w18.heap.size, 2, none⟩ = some (.int .i64 x7) := (hd28 _ _ q_r).trans c27_r_2
                    have c28_r_3 : w28.cell? ⟨w18.heap.size, 3, none⟩ = some (.int .i64 y7) := (hd28 _ _ q_r).trans c27_r_3
                    have c28_by_0 : w28.cell? ⟨w18.heap.size + 1, 0, none⟩ = some (.int .i64 n8) := (hd28 _ _ q_by).trans c27_by_0
                    have c28_by_1 : w28.cell? ⟨w18.heap.size + 1, 1, none⟩ = some (.int .i64 d8) := (hd28 _ _ q_by).trans c27_by_1
                    have c28_turned_0 : w28.cell? ⟨w19.heap.size, 0, none⟩ = some (.int .i64 t1) := (hd28 _ _ q_turned).trans c27_turned_0
                    have c28_turned_1 : w28.cell? ⟨w19.heap.size, 1, none⟩ = some (.int .i64 t2) := (hd28 _ _ q_turned).trans c27_turned_1
                    have c28_turned_2 : w28.cell? ⟨w19.heap.size, 2, none⟩ = some (.int .i64 t3) := (hd28 _ _ q_turned).trans c27_turned_2
                    have c28_turned_3 : w28.cell? ⟨w19.heap.size, 3, none⟩ = some (.int .i64 t4) := (hd28 _ _ q_turned).trans c27_turned_3
                    replace q_m : w15.heap.size < w28.heap.size := by omega
                    replace q_mirror : w16.heap.size < w28.heap.size := by omega
                    replace q_r : w18.heap.size < w28.heap.size := by omega
                    replace q_by : w18.heap.size + 1 < w28.heap.size := by omega
                    replace q_turned : w19.heap.size < w28.heap.size := by omega
                    have BW28 : Below w.heap.size w w28 := BW27.trans (hb28.mono BW27.size)
                    have BX28 : Below w26.heap.size w26 w28 := BX27.trans (hb28.mono BX27.size)
                    clear BX27
                    clear hb28 hd28 c27_m_0 c27_m_1 c27_m_2 c27_m_3 c27_mirror_0 c27_mirror_1 c27_mirror_2 c27_mirror_3 c27_r_0 c27_r_1 c27_r_2 c27_r_3 c27_by_0 c27_by_1 c27_turned_0 c27_turned_1 c27_turned_2 c27_turned_3 BW27
                    have hrelB := BX28
                    go_wp2_with fail
                    go_meet
                    case rel => exact hrelB
              case rest =>
                have hb27 := hcut
                obtain ⟨w27, hw27⟩ : ∃ x : World, x = wc := ⟨_, rfl⟩
                subst hw27
                obtain ⟨hc27, hf27⟩ := bcell hb27
                have hz27 := hb27.size
                (try simp only [World.size_alloc, World.size_setCell, World.size_drew] at hz27)
                have B27 : Below w26.heap.size w26 w27 := Below.trans (b := _) (by (repeat' (first | (with_reducible exact Below.refl _ _) | (with_reducible assumption) | (with_reducible refine Below.alloc ?_ ?_ _) | (with_reducible refine Below.drew ?_) | (with_reducible refine below_drewN ?_ _) | (with_reducible refine Below.setCell ?_ ?_ _) | (with_reducible refine below_call ?_ ?_ (by assumption)) | go_size))) (hb27.mono (by first | omega | (simp only [World.size_alloc, World.size_setCell, World.size_drew]; omega)))
                obtain ⟨hd27, -⟩ := bcell B27
                have c27_m_0 : w27.cell? ⟨w15.heap.size, 0, none⟩ = some (.int .i64 n6) := (hd27 _ _ q_m).trans c26_m_0
                have c27_m_1 : w27.cell? ⟨w15.heap.size, 1, none⟩ = some (.int .i64 d6) := (hd27 _ _ q_m).trans c26_m_1
                have c27_m_2 : w27.cell? ⟨w15.heap.size, 2, none⟩ = some (.int .i64 x6) := (hd27 _ _ q_m).trans c26_m_2
                have c27_m_3 : w27.cell? ⟨w15.heap.size, 3, none⟩ = some (.int .i64 y6) := (hd27 _ _ q_m).trans c26_m_3
                have c27_mirror_0 : w27.cell? ⟨w16.heap.size, 0, none⟩ = some (.int .i64 m1) := (hd27 _ _ q_mirror).trans c26_mirror_0
                have c27_mirror_1 : w27.cell? ⟨w16.heap.size, 1, none⟩ = some (.int .i64 m2) := (hd27 _ _ q_mirror).trans c26_mirror_1
                have c27_mirror_2 : w27.cell? ⟨w16.heap.size, 2, none⟩ = some (.int .i64 m3) := (hd27 _ _ q_mirror).trans c26_mirror_2
                have c27_mirror_3 : w27.cell? ⟨w16.heap.size, 3, none⟩ = some (.int .i64 m4) := (hd27 _ _ q_mirror).trans c26_mirror_3
                have c27_r_0 : w27.cell? ⟨w18.heap.size, 0, none⟩ = some (.int .i64 n7) := (hd27 _ _ q_r).trans c26_r_0
                have c27_r_1 : w27.cell? ⟨w18.heap.size, 1, none⟩ = some (.int .i64 d7) := (hd27 _ _ q_r).trans c26_r_1
                have c27_r_2 : w27.cell? ⟨w18.heap.size, 2, none⟩ = some (.int .i64 x7) := (hd27 _ _ q_r).trans c26_r_2
                have c27_r_3 : w27.cell? ⟨w18.heap.size, 3, none⟩ = some (.int .i64 y7) := (hd27 _ _ q_r).trans c26_r_3
                have c27_by_0 : w27.cell? ⟨w18.heap.size + 1, 0, none⟩ = some (.int .i64 n8) := (hd27 _ _ q_by).trans c26_by_0
                have c27_by_1 : w27.cell? ⟨w18.heap.size + 1, 1, none⟩ = some (.int .i64 d8) := (hd27 _ _ q_by).trans c26_by_1
                have c27_turned_0 : w27.cell? ⟨w19.heap.size, 0, none⟩ = some (.int .i64 t1) := (hd27 _ _ q_turned).trans c26_turned_0
                have c27_turned_1 : w27.cell? ⟨w19.heap.size, 1, none⟩ = some (.int .i64 t2) := (hd27 _ _ q_turned).trans c26_turned_1
                have c27_turned_2 : w27.cell? ⟨w19.heap.size, 2, none⟩ = some (.int .i64 t3) := (hd27 _ _ q_turned).trans c26_turned_2
                have c27_turned_3 : w27.cell? ⟨w19.heap.size, 3, none⟩ = some (.int .i64 t4) := (hd27 _ _ q_turned).trans c26_turned_3
                replace q_m : w15.heap.size < w27.heap.size := by omega
                replace q_mirror : w16.heap.size < w27.heap.size := by omega
                replace q_r : w18.heap.size < w27.heap.size := by omega
                replace q_by : w18.heap.size + 1 < w27.heap.size := by omega
                replace q_turned : w19.heap.size < w27.heap.size := by omega
                have BW27 : Below w.heap.size w w27 := BW26.trans (B27.mono BW26.size)
                clear hc27 hf27 hb27 hd27 B27 c26_m_0 c26_m_1 c26_m_2 c26_m_3 c26_mirror_0 c26_mirror_1 c26_mirror_2 c26_mirror_3 c26_r_0 c26_r_1 c26_r_2 c26_r_3 c26_by_0 c26_by_1 c26_turned_0 c26_turned_1 c26_turned_2 c26_turned_3 BW26
                clear q_m c27_m_0 c27_m_1 c27_m_2 c27_m_3
                clear q_mirror c27_mirror_0 c27_mirror_1 c27_mirror_2 c27_mirror_3
                go_upto_if 396 with fail
                go_cut [] from 999 to 999 (fun wx => Below w27.heap.size w27 wx)
                case first =>
                  as_aux_lemma =>
                    cases uo
                    · go_wp2_with fail
                      go_meet
                      case rel => exact Below.refl _ _
                    · obtain ⟨h1, h2⟩ := F8.out rfl
                      generalize lowNum (-n8) d8 = p1 at *
                      generalize lowDen (-n8) d8 = p2 at *
                      have Z1 := Lib.hid (fun W => (show Calls Tryz.prog 29 #[tv n8 d8] W fun e w' => e = .returned (rv (p1, p2, true)) ∧ Below W.heap.size W w' from by have := implMirrorTurn_any n8 d8 W; rw [h1] at this; exact this))
                      have Z2 := Lib.hid (fun W => (show Calls Tryz.prog 13 #[sn t1 t2 t3 t4, tv p1 p2] W fun e w' => e = .returned (rs (n7, d7, x7, y7, true)) ∧ Below W.heap.size W w' from by have := implTurnSeen_any t1 t2 t3 t4 p1 p2 W; rw [h2] at this; exact this))
                      clear h1 h2
                      go_wp2_with fail
                      refine (Z1.out _).mono ?_
                      rintro e28 w28 ⟨rfl, hb28⟩
                      obtain ⟨hc28, hf28⟩ := bcell hb28
                      have hz28 := hb28.size
                      (try simp only [World.size_alloc, World.size_setCell, World.size_drew] at hz28)
                      have B28 : Below w27.heap.size w27 w28 := Below.trans (b := _) (by (repeat' (first | (with_reducible exact Below.refl _ _) | (with_reducible assumption) | (with_reducible refine Below.alloc ?_ ?_ _) | (with_reducible refine Below.drew ?_) | (with_reducible refine below_drewN ?_ _) | (with_reducible refine Below.setCell ?_ ?_ _) | (with_reducible refine below_call ?_ ?_ (by assumption)) | go_size))) (hb28.mono (by first | omega | (simp only [World.size_alloc, World.size_setCell, World.size_drew]; omega)))
                      obtain ⟨hd28, -⟩ := bcell B28
                      have c28_r_0 : w28.cell? ⟨w18.heap.size, 0, none⟩ = some (.int .i64 n7) := (hd28 _ _ q_r).trans c27_r_0
                      have c28_r_1 : w28.cell? ⟨w18.heap.size, 1, none⟩ = some (.int .i64 d7) := (hd28 _ _ q_r).trans c27_r_1
                      have c28_r_2 : w28.cell? ⟨w18.heap.size, 2, none⟩ = some (.int .i64 x7) := (hd28 _ _ q_r).trans c27_r_2
                      have c28_r_3 : w28.cell? ⟨w18.heap.size, 3, none⟩ = some (.int .i64 y7) := (hd28 _ _ q_r).trans c27_r_3
                      have c28_by_0 : w28.cell? ⟨w18.heap.size + 1, 0, none⟩ = some (.int .i64 n8) := (hd28 _ _ q_by).trans c27_by_0
                      have c28_by_1 : w28.cell? ⟨w18.heap.size + 1, 1, none⟩ = some (.int .i64 d8) := (hd28 _ _ q_by).trans c27_by_1
                      have c28_turned_0 : w28.cell? ⟨w19.heap.size, 0, none⟩ = some (.int .i64 t1) := (hd28 _ _ q_turned).trans c27_turned_0
                      have c28_turned_1 : w28.cell? ⟨w19.heap.size, 1, none⟩ = some (.int .i64 t2) := (hd28 _ _ q_turned).trans c27_turned_1
                      have c28_turned_2 : w28.cell? ⟨w19.heap.size, 2, none⟩ = some (.int .i64 t3) := (hd28 _ _ q_turned).trans c27_turned_2
                      have c28_turned_3 : w28.cell? ⟨w19.heap.size, 3, none⟩ = some (.int .i64 t4) := (hd28 _ _ q_turned).trans c27_turned_3
                      replace q_r : w18.heap.size < w28.heap.size := by omega
                      replace q_by : w18.heap.size + 1 < w28.heap.size := by omega
                      replace q_turned : w19.heap.size < w28.heap.size := by omega
                      have BW28 : Below w.heap.size w w28 := BW27.trans (B28.mono BW27.size)
                      have BX28 : Below w27.heap.size w27 w28 := B28
                      clear hc28 hf28 hb28 hd28 B28 c27_r_0 c27_r_1 c27_r_2 c27_r_3 c27_by_0 c27_by_1 c27_turned_0 c27_turned_1 c27_turned_2 c27_turned_3 BW27
                      go_wp2_with fail
                      refine (Z2.out _).mono ?_
                      rintro e29 w29 ⟨rfl, hb29⟩
                      obtain ⟨hc29, hf29⟩ := bcell hb29
                      have hz29 := hb29.size
                      (try simp only [World.size_alloc, World.size_setCell, World.size_drew] at hz29)
                      have B29 : Below w28.heap.size w28 w29 := Below.trans (b := _) (by (repeat' (first | (with_reducible exact Below.refl _ _) | (with_reducible assumption) | (with_reducible refine Below.alloc ?_ ?_ _) | (with_reducible refine Below.drew ?_) | (with_reducible refine below_drewN ?_ _) | (with_reducible refine Below.setCell ?_ ?_ _) | (with_reducible refine below_call ?_ ?_ (by assumption)) | go_size))) (hb29.mono (by first | omega | (simp only [World.size_alloc, World.size_setCell, World.size_drew]; omega)))
                      obtain ⟨hd29, -⟩ := bcell B29
                      have c29_r_0 : w29.cell? ⟨w18.heap.size, 0, none⟩ = some (.int .i64 n7) := (hd29 _ _ q_r).trans c28_r_0
                      have c29_r_1 : w29.cell? ⟨w18.heap.size, 1, none⟩ = some (.int .i64 d7) := (hd29 _ _ q_r).trans c28_r_1
                      have c29_r_2 : w29.cell? ⟨w18.heap.size, 2, none⟩ = some (.int .i64 x7) := (hd29 _ _ q_r).trans c28_r_2
                      have c29_r_3 : w29.cell? ⟨w18.heap.size, 3, none⟩ = some (.int .i64 y7) := (hd29 _ _ q_r).trans c28_r_3
                      have c29_by_0 : w29.cell? ⟨w18.heap.size + 1, 0, none⟩ = some (.int .i64 n8) := (hd29 _ _ q_by).trans c28_by_0
                      have c29_by_1 : w29.cell? ⟨w18.heap.size + 1, 1, none⟩ = some (.int .i64 d8) := (hd29 _ _ q_by).trans c28_by_1
                      have c29_turned_0 : w29.cell? ⟨w19.heap.size, 0, none⟩ = some (.int .i64 t1) := (hd29 _ _ q_turned).trans c28_turned_0
                      have c29_turned_1 : w29.cell? ⟨w19.heap.size, 1, none⟩ = some (.int .i64 t2) := (hd29 _ _ q_turned).trans c28_turned_1
                      have c29_turned_2 : w29.cell? ⟨w19.heap.size, 2, none⟩ = some (.int .i64 t3) := (hd29 _ _ q_turned).trans c28_turned_2
                      have c29_turned_3 : w29.cell? ⟨w19.heap.size, 3, none⟩ = some (.int .i64 t4) := (hd29 _ _ q_turned).trans c28_turned_3
                      replace q_r : w18.heap.size < w29.heap.size := by omega
                      replace q_by : w18.heap.size + 1 < w29.heap.size := by omega
                      replace q_turned : w19.heap.size < w29.heap.size := by omega
                      have c29_away_0 : w29.cell? ⟨w28.heap.size, 0, none⟩ = some (.int .i64 p1) := (hc29 _ _ (by go_size)).trans (by go_simp)
                      have c29_away_1 : w29.cell? ⟨w28.heap.size, 1, none⟩ = some (.int .i64 p2) := (hc29 _ _ (by go_size)).trans (by go_simp)
                      have q_away : w28.heap.size < w29.heap.size := by omega
                      have BW29 : Below w.heap.size w w29 := BW28.trans (B29.mono BW28.size)
                      have BX29 : Below w27.heap.size w27 w29 := BX28.trans (B29.mono BX28.size)
                      clear BX28
                      clear hc29 hf29 hb29 hd29 B29 c28_r_0 c28_r_1 c28_r_2 c28_r_3 c28_by_0 c28_by_1 c28_turned_0 c28_turned_1 c28_turned_2 c28_turned_3 BW28
                      go_upto_region 69 with fail
                      have hb30 : Below w29.heap.size w29 (w29.alloc (Obj.cells #[.int .i64 n7, .int .i64 d7, .int .i64 x7, .int .i64 y7] 27)) := by (repeat' (first | (with_reducible exact Below.refl _ _) | (with_reducible assumption) | (with_reducible refine Below.alloc ?_ ?_ _) | (with_reducible refine Below.drew ?_) | (with_reducible refine below_drewN ?_ _) | (with_reducible refine Below.setCell ?_ ?_ _) | (with_reducible refine below_call ?_ ?_ (by assumption)) | go_size))
                      have c30_back_0 : (w29.alloc (Obj.cells #[.int .i64 n7, .int .i64 d7, .int .i64 x7, .int .i64 y7] 27)).cell? ⟨w29.heap.size, 0, none⟩ = some (.int .i64 n7) := by go_simp
                      have c30_back_1 : (w29.alloc (Obj.cells #[.int .i64 n7, .int .i64 d7, .int .i64 x7, .int .i64 y7] 27)).cell? ⟨w29.heap.size, 1, none⟩ = some (.int .i64 d7) := by go_simp
                      have c30_back_2 : (w29.alloc (Obj.cells #[.int .i64 n7, .int .i64 d7, .int .i64 x7, .int .i64 y7] 27)).cell? ⟨w29.heap.size, 2, none⟩ = some (.int .i64 x7) := by go_simp
                      have c30_back_3 : (w29.alloc (Obj.cells #[.int .i64 n7, .int .i64 d7, .int .i64 x7, .int .i64 y7] 27)).cell? ⟨w29.heap.size, 3, none⟩ = some (.int .i64 y7) := by go_simp
                      have q_back : w29.heap.size < (w29.alloc (Obj.cells #[.int .i64 n7, .int .i64 d7, .int .i64 x7, .int .i64 y7] 27)).heap.size := by go_size
                      generalize (w29.alloc (Obj.cells #[.int .i64 n7, .int .i64 d7, .int .i64 x7, .int .i64 y7] 27)) = w30 at *
                      obtain ⟨hd30, -⟩ := bcell hb30
                      have hz30 := hb30.size
                      have c30_r_0 : w30.cell? ⟨w18.heap.size, 0, none⟩ = some (.int .i64 n7) := (hd30 _ _ q_r).trans c29_r_0
                      have c30_r_1 : w30.cell? ⟨w18.heap.size, 1, none⟩ = some (.int .i64 d7) := (hd30 _ _ q_r).trans c29_r_1
                      have c30_r_2 : w30.cell? ⟨w18.heap.size, 2, none⟩ = some (.int .i64 x7) := (hd30 _ _ q_r).trans c29_r_2
                      have c30_r_3 : w30.cell? ⟨w18.heap.size, 3, none⟩ = some (.int .i64 y7) := (hd30 _ _ q_r).trans c29_r_3
                      have c30_by_0 : w30.cell? ⟨w18.heap.size + 1, 0, none⟩ = some (.int .i64 n8) := (hd30 _ _ q_by).trans c29_by_0
                      have c30_by_1 : w30.cell? ⟨w18.heap.size + 1, 1, none⟩ = some (.int .i64 d8) := (hd30 _ _ q_by).trans c29_by_1
                      have c30_turned_0 : w30.cell? ⟨w19.heap.size, 0, none⟩ = some (.int .i64 t1) := (hd30 _ _ q_turned).trans c29_turned_0
                      have c30_turned_1 : w30.cell? ⟨w19.heap.size, 1, none⟩ = some (.int .i64 t2) := (hd30 _ _ q_turned).trans c29_turned_1
                      have c30_turned_2 : w30.cell? ⟨w19.heap.size, 2, none⟩ = some (.int .i64 t3) := (hd30 _ _ q_turned).trans c29_turned_2
                      have c30_turned_3 : w30.cell? ⟨w19.heap.size, 3, none⟩ = some (.int .i64 t4) := (hd30 _ _ q_turned).trans c29_turned_3
                      have c30_away_0 : w30.cell? ⟨w28.heap.size, 0, none⟩ = some (.int .i64 p1) := (hd30 _ _ q_away).trans c29_away_0
                      have c30_away_1 : w30.cell? ⟨w28.heap.size, 1, none⟩ = some (.int .i64 p2) := (hd30 _ _ q_away).trans c29_away_1
                      replace q_r : w18.heap.size < w30.heap.size := by omega
                      replace q_by : w18.heap.size + 1 < w30.heap.size := by omega
                      replace q_turned : w19.heap.size < w30.heap.size := by omega
                      replace q_away : w28.heap.size < w30.heap.size := by omega
                      have BW30 : Below w.heap.size w w30 := BW29.trans (hb30.mono BW29.size)
                      have BX30 : Below w27.heap.size w27 w30 := BX29.trans (hb30.mono BX29.size)
                      clear BX29
                      clear hb30 hd30 c29_r_0 c29_r_1 c29_r_2 c29_r_3 c29_by_0 c29_by_1 c29_turned_0 c29_turned_1 c29_turned_2 c29_turned_3 c29_away_0 c29_away_1 BW29
                      have hrelB := BX30
                      go_wp2_with fail
                      go_meet
                      case rel => exact hrelB
                case rest =>
                  have hb28 := hcut
                  obtain ⟨w28, hw28⟩ : ∃ x : World, x = wc := ⟨_, rfl⟩
                  subst hw28
                  obtain ⟨hc28, hf28⟩ := bcell hb28
                  have hz28 := hb28.size
                  (try simp only [World.size_alloc, World.size_setCell, World.size_drew] at hz28)
                  have B28 : Below w27.heap.size w27 w28 := Below.trans (b := _) (by (repeat' (first | (with_reducible exact Below.refl _ _) | (with_reducible assumption) | (with_reducible refine Below.alloc ?_ ?_ _) | (with_reducible refine Below.drew ?_) | (with_reducible refine below_drewN ?_ _) | (with_reducible refine Below.setCell ?_ ?_ _) | (with_reducible refine below_call ?_ ?_ (by assumption)) | go_size))) (hb28.mono (by first | omega | (simp only [World.size_alloc, World.size_setCell, World.size_drew]; omega)))
                  obtain ⟨hd28, -⟩ := bcell B28
                  have c28_r_0 : w28.cell? ⟨w18.heap.size, 0, none⟩ = some (.int .i64 n7) := (hd28 _ _ q_r).trans c27_r_0
                  have c28_r_1 : w28.cell? ⟨w18.heap.size, 1, none⟩ = some (.int .i64 d7) := (hd28 _ _ q_r).trans c27_r_1
                  have c28_r_2 : w28.cell? ⟨w18.heap.size, 2, none⟩ = some (.int .i64 x7) := (hd28 _ _ q_r).trans c27_r_2
                  have c28_r_3 : w28.cell? ⟨w18.heap.size, 3, none⟩ = some (.int .i64 y7) := (hd28 _ _ q_r).trans c27_r_3
                  have c28_by_0 : w28.cell? ⟨w18.heap.size + 1, 0, none⟩ = some (.int .i64 n8) := (hd28 _ _ q_by).trans c27_by_0
                  have c28_by_1 : w28.cell? ⟨w18.heap.size + 1, 1, none⟩ = some (.int .i64 d8) := (hd28 _ _ q_by).trans c27_by_1
                  have c28_turned_0 : w28.cell? ⟨w19.heap.size, 0, none⟩ = some (.int .i64 t1) := (hd28 _ _ q_turned).trans c27_turned_0
                  have c28_turned_1 : w28.cell? ⟨w19.heap.size, 1, none⟩ = some (.int .i64 t2) := (hd28 _ _ q_turned).trans c27_turned_1
                  have c28_turned_2 : w28.cell? ⟨w19.heap.size, 2, none⟩ = some (.int .i64 t3) := (hd28 _ _ q_turned).trans c27_turned_2
                  have c28_turned_3 : w28.cell? ⟨w19.heap.size, 3, none⟩ = some (.int .i64 t4) := (hd28 _ _ q_turned).trans c27_turned_3
                  replace q_r : w18.heap.size < w28.heap.size := by omega
                  replace q_by : w18.heap.size + 1 < w28.heap.size := by omega
                  replace q_turned : w19.heap.size < w28.heap.size := by omega
                  have BW28 : Below w.heap.size w w28 := BW27.trans (B28.mono BW27.size)
                  clear hc28 hf28 hb28 hd28 B28 c27_r_0 c27_r_1 c27_r_2 c27_r_3 c27_by_0 c27_by_1 c27_turned_0 c27_turned_1 c27_turned_2 c27_turned_3 BW27
                  go_wp2
                  go_ret
                  exact ⟨rfl, BW28⟩
  · have HBG := Lib.hid hbg
    clear hbg
    (go_enter Tryz.func3, Tryz.ntmps3)
    go_wp2_with fail
    refine (big_is p1 p2 L1.length L2.length q1 q2 hm1 HBG.out _).mono ?_
    rintro e0 w0 ⟨rfl, rfl⟩
    go_wp2
    go_ret
    exact ⟨rfl, Below.refl _ _⟩

set_option maxRecDepth 100000 in
theorem lifted (os : Os) (started : os.Started) (H : Type) (enc : TypeId × Value → H) :
    ReturnsInHanded {} Tryz.checked os 3 .any (Rows.fnDialsTurnedSpec.pre6 enc Tryz.prog Tryz.f3 Rows.fnDialsTurnedRow.domain false) (Rows.fnDialsTurnedSpec.post enc Tryz.prog Tryz.f3 false true false false) := by
  refine returnsInHanded_of_change (C := Tryz.checked) Tryz.own started (by kernel_rfl) Tryz.func3
    (ChangeSpec.witness6 (enc := enc) (C := Tryz.checked) false ⟨#[], #[.slice none 0 0, .slice none 0 0], []⟩ 8 (by kernel_rfl) (by kernel_rfl) (by kernel_rfl) (by kernel_rfl)) ?_
  intro W base args ds gs before hval0 hW hcnd _
  have hval : ∀ (j : Nat) t v, Tryz.f3.params[j]? = some t → args[j]? = some v → Value.okWide Tryz.prog W .any base t v := hval0
  have hW' := hW
  obtain ⟨p, q, hA0, hV, rfl, hfz, hnd⟩ := hW
  have hA : DataW.TrodAll enc Tryz.prog W 0 (fun _ => true) true Tryz.f3.params.toList args.toList ds p := hA0
  rw [Tryz.params3] at hA hval
  obtain ⟨v0, vs0, d_0, ds0, p0, q0, hargs, rfl, rfl, h0, r0⟩ := trodAll_cons hA
  obtain ⟨v1, vs1, d_1, ds1, p1, q1, rfl, rfl, rfl, h1, r1⟩ := trodAll_cons r0
  obtain ⟨rfl, rfl, rfl⟩ := trodAll_nil r1
  obtain rfl : args = #[v0, v1] := by cases args; simp_all
  obtain ⟨rfl, rfl⟩ := trodVars_none hV
  have h0k := h0
  have h1k := h1
  obtain ⟨p1', q1', L1, rfl, hi1, hm1⟩ := open_bytes' (hval 0 22 v0 rfl rfl) h0
  obtain ⟨p2', q2', L2, rfl, hi2, hm2⟩ := open_bytes' (hval 1 22 v1 rfl rfl) h1
  clear hA0 hval0
  simp only [List.append_nil, List.nil_append] at hW'
  have hlt0 : ∀ y ∈ p0, y.block < W.heap.size := fun y hy => by simpa using hW'.lt y (by simp [hy])
  have hlt1 : ∀ y ∈ p1, y.block < W.heap.size := fun y hy => by simpa using hW'.lt y (by simp [hy])
  refine (walk W p1' p2' q1' q2' L1 L2 hi1 hi2 hm1 hm2).mono fun e W' ⟨he, bel⟩ => ?_
  subst he
  have harg0 : DataW.Trod enc Tryz.prog W' 0 (fun b => decide (b < W.heap.size)) true 22 (.slice p1' L1.length q1') d_0 p0 :=
    Below.trod Tryz.laidOut (by kernel_rfl) (of_decide_eq_true (by kernel_rfl)) h0k bel hlt0
  have harg1 : DataW.Trod enc Tryz.prog W' 0 (fun b => decide (b < W.heap.size)) true 22 (.slice p2' L2.length q2') d_1 p1 :=
    Below.trod Tryz.laidOut (by kernel_rfl) (of_decide_eq_true (by kernel_rfl)) h1k bel hlt1
  exact ⟨_, rfl, _, _, _, [], _, [], hW', trodAll_mk1 (shut_bool Tryz.underlying4 _), (trodAll_cons_mk harg0 (trodAll_cons_mk harg1 trodAll_mk0)), rfl, bel.frame _, fun h => by cases h⟩

theorem closed : joinedFacts Tryz.prog 3 Tryz.f3 Rows.fnDialsTurnedSpec Rows.fnDialsTurnedRow = true := by
  unfold joinedFacts
  rw [Tryz.fMake, Tryz.fEnter, Tryz.fLifts, Tryz.fMaps, Tryz.fLaid, Tryz.fHeard, Tryz.fKeys]
  kernel_rfl
theorem over : Rows.fnDialsTurnedRow.holds Tryz.pinned (OpenSpec.ofChange Rows.fnDialsTurnedSpec) :=
  OpenClaim.holds_of_wide 3 Tryz.f3 rfl rfl rfl rfl rfl rfl rfl ⟨rfl, rfl, rfl, rfl, rfl⟩ rfl rfl rfl rfl rfl (by kernel_rfl) Tryz.func3
    closed (of_decide_eq_true (by kernel_rfl)) (by unfold Func.isWrapper; first | (rw [if_pos (by decide +kernel)]; kernel_rfl) | (rw [if_neg (by decide +kernel)]; exact ⟨rfl, rfl⟩))
    (fun os started H enc _ => lifted os started H enc)

end Go.Proofs.YticdmochedadbaaGreat.fnDialsTurned
namespace Go.Proofs.YticdmochedadbaaGreat
/-- The statement. -/
theorem fnDialsTurned_proved : Rows.FnDialsTurnedSaid := fnDialsTurned.over
#print axioms fnDialsTurned_proved
end Go.Proofs.YticdmochedadbaaGreat