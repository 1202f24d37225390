/- ParseTime, by the program. -/
import Derived.Test.YtebjlaajddpbhaaDoorPtW4
set_option linter.unusedSimpArgs false
set_option linter.unusedVariables false
set_option maxRecDepth 100000
namespace Go.Proofs.YtebjlaajddpbhaaDoor
open Go.RowKit

theorem secL_bd (s : List UInt8) (h : (secL s).2 = true) : -1000000 ≤ (secL s).1 ∧ (secL s).1 ≤ 1000000 := by
  rw [secL_eq] at h ⊢
  split
  · rename_i h8
    rw [if_pos h8] at h
    cases ha : atoiV (s.take 2) with
    | none => rw [ha] at h; cases h
    | some a =>
      cases hb : atoiV ((s.drop 3).take 2) with
      | none => rw [ha, hb] at h; cases h
      | some b =>
        cases hc : atoiV (s.drop 6) with
        | none => rw [ha, hb, hc] at h; cases h
        | some c =>
          have x1 := atoiV_two ha (by simp; omega)
          have x2 := atoiV_two hb (by simp; omega)
          have x3 := atoiV_two hc (by simp; omega)
          show -1000000 ≤ a * 3600 + b * 60 + c ∧ a * 3600 + b * 60 + c ≤ 1000000
          omega
  · decide
theorem partL_bd (s : List UInt8) (h : (partL s).2.2 = true) : 0 ≤ (partL s).1 ∧ (partL s).1 ≤ 999999 ∧ 1 ≤ (partL s).2.1 ∧ (partL s).2.1 ≤ 1000000 := by
  by_cases h0 : s = []
  · subst h0; decide
  · rw [partL_eq h0] at h ⊢
    cases ha : atoiV (Lib.cut s [47]).1 with
    | none => rw [ha] at h; cases h
    | some p =>
      cases hb : atoiV (Lib.cut s [47]).2.1 with
      | none => rw [ha, hb] at h; cases h
      | some q =>
        rw [ha, hb] at h
        simp only at h ⊢
        split at h
        · rename_i hg
          rw [if_pos hg]
          have := (goodB_iff _ _).1 hg
          show 0 ≤ p ∧ p ≤ 999999 ∧ 1 ≤ q ∧ q ≤ 1000000
          omega
        · cases h

set_option maxHeartbeats 4000000 in
theorem implParseTime_any (h : Int) (l : List UInt8) (hl : l.length ≤ 1048576) (w : World) (hE : Errs w) (hC : CutW w) (hT : Tens w) :
    Calls Tryd.prog 9 #[.int .i64 h, str l] w fun e w' => e = .returned (rv (implT h l)) ∧ Below w.heap.size w w' := by
  have HL := Lib.hid (cut_len l 43)
  have HC := Lib.hid (fun W hc => cut_any l 43 hl W hc)
  have HS : Hid (implT h l = bothT h l (secL (Lib.cut l [43]).1) (partL (Lib.cut l [43]).2.1)) := rfl
  have HE := Lib.hid hE
  have HW := Lib.hid hC
  have HT := Lib.hid hT
  clear hE hC hT
  generalize implT h l = res at *
  generalize Lib.cut l [43] = R at *
  obtain ⟨p1, p2, ok⟩ := R
  have l1 : p1.length ≤ 1048576 := Nat.le_trans HL.out.1 hl
  have l2 : p2.length ≤ 1048576 := Nat.le_trans HL.out.2 hl
  have HA := Lib.hid (fun W he => parseSeconds_any p1 l1 W he)
  have HP := Lib.hid (fun W he hc => parsePart_any p2 l2 W he hc)
  have BA := Lib.hid (secL_bd p1)
  have BP := Lib.hid (partL_bd p2)
  clear HL l1 l2
  simp only at HS
  generalize secL p1 = A at *
  generalize partL p2 = P at *
  obtain ⟨s, oka⟩ := A
  obtain ⟨p, q, okp⟩ := P
  cases ga : inB h 2 24
  · have HM : Hid (fail3 = res) := Lib.hid (by rw [HS.out]; unfold bothT; rw [if_neg (by rw [ga]; simp)])
    clear HS
    (go_enter Tryd.func9, Tryd.ntmps9)
    go_wp2_with fail
    refine (HC.out _ (HW.out.below (show Below w.heap.size w (w.alloc (Obj.cells #[Value.int .i64 0, Value.int .i64 0] 26)) by (repeat' (first | (with_reducible exact Below.refl _ _) | (with_reducible assumption) | (with_reducible refine Below.alloc ?_ ?_ _) | (with_reducible refine Below.drew ?_) | (with_reducible refine below_drewN ?_ _) | (with_reducible refine Below.setCell ?_ ?_ _) | (with_reducible refine below_call ?_ ?_ (by assumption)) | go_size))))).mono ?_
    rintro e1 w1 ⟨rfl, hb1⟩
    obtain ⟨hc1, hf1⟩ := bcell hb1
    have hz1 := hb1.size
    (try simp only [World.size_alloc] at hz1)
    have q1 : w.heap.size < w1.heap.size := by omega
    have c1_0 : w1.cell? ⟨w.heap.size, 0, none⟩ = some (.int .i64 0) := (hc1 (w.heap.size) 0 (by first | omega | (simp; omega) | simp)).trans (by go_simp)
    have f1_0 : w1.frozen? ⟨w.heap.size, 0, none⟩ = false := (hf1 (w.heap.size) 0 (by first | omega | (simp; omega) | simp)).trans (by go_simp)
    have c1_1 : w1.cell? ⟨w.heap.size, 1, none⟩ = some (.int .i64 0) := (hc1 (w.heap.size) 1 (by first | omega | (simp; omega) | simp)).trans (by go_simp)
    have f1_1 : w1.frozen? ⟨w.heap.size, 1, none⟩ = false := (hf1 (w.heap.size) 1 (by first | omega | (simp; omega) | simp)).trans (by go_simp)
    have B1 : Below w.heap.size w w1 := Below.trans (b := _) (show Below w.heap.size w (w.alloc (Obj.cells #[Value.int .i64 0, Value.int .i64 0] 26)) by (repeat' (first | (with_reducible exact Below.refl _ _) | (with_reducible assumption) | (with_reducible refine Below.alloc ?_ ?_ _) | (with_reducible refine Below.drew ?_) | (with_reducible refine below_drewN ?_ _) | (with_reducible refine Below.setCell ?_ ?_ _) | (with_reducible refine below_call ?_ ?_ (by assumption)) | go_size))) (hb1.mono (by first | omega | (simp; omega) | simp))
    clear hc1 hf1 hb1
    go_wp2_with fail
    refine (HA.out _ (HE.out.below B1)).mono ?_
    rintro e2 w2 ⟨rfl, hb2⟩
    obtain ⟨hc2, hf2⟩ := bcell hb2
    have hz2 := hb2.size
    (try simp only [World.size_alloc] at hz2)
    have q2 : w.heap.size < w2.heap.size := by omega
    have c2_0 : w2.cell? ⟨w.heap.size, 0, none⟩ = some (.int .i64 0) := (hc2 (w.heap.size) 0 (by first | omega | (simp; omega) | simp)).trans (by go_simp)
    have f2_0 : w2.frozen? ⟨w.heap.size, 0, none⟩ = false := (hf2 (w.heap.size) 0 (by first | omega | (simp; omega) | simp)).trans (by go_simp)
    have c2_1 : w2.cell? ⟨w.heap.size, 1, none⟩ = some (.int .i64 0) := (hc2 (w.heap.size) 1 (by first | omega | (simp; omega) | simp)).trans (by go_simp)
    have f2_1 : w2.frozen? ⟨w.heap.size, 1, none⟩ = false := (hf2 (w.heap.size) 1 (by first | omega | (simp; omega) | simp)).trans (by go_simp)
    have B2 : Below w.heap.size w w2 := Below.trans (b := _) B1 (hb2.mono (by first | omega | (simp; omega) | simp))
    clear hc2 hf2 hb2
    go_wp2_with fail
    refine (HP.out _ (HE.out.below B2) (HW.out.below B2)).mono ?_
    rintro e3 w3 ⟨rfl, hb3⟩
    obtain ⟨hc3, hf3⟩ := bcell hb3
    have hz3 := hb3.size
    (try simp only [World.size_alloc] at hz3)
    have q3 : w.heap.size < w3.heap.size := by omega
    have c3_0 : w3.cell? ⟨w.heap.size, 0, none⟩ = some (.int .i64 0) := (hc3 (w.heap.size) 0 (by first | omega | (simp; omega) | simp)).trans (by go_simp)
    have f3_0 : w3.frozen? ⟨w.heap.size, 0, none⟩ = false := (hf3 (w.heap.size) 0 (by first | omega | (simp; omega) | simp)).trans (by go_simp)
    have c3_1 : w3.cell? ⟨w.heap.size, 1, none⟩ = some (.int .i64 0) := (hc3 (w.heap.size) 1 (by first | omega | (simp; omega) | simp)).trans (by go_simp)
    have f3_1 : w3.frozen? ⟨w.heap.size, 1, none⟩ = false := (hf3 (w.heap.size) 1 (by first | omega | (simp; omega) | simp)).trans (by go_simp)
    have B3 : Below w.heap.size w w3 := Below.trans (b := _) B2 (hb3.mono (by first | omega | (simp; omega) | simp))
    clear hc3 hf3 hb3
    go_wp2_with fail
    refine (isDial_is _ ga _).mono ?_
    (rintro e1 w1 ⟨rfl, rfl⟩)
    go_wp2
    (refine bodyPost_ret (by simp [results, Tryd.results9, go_sem, *]; try rfl) rfl ?_)
    exact ⟨ret_rv HM.out, by (repeat' (first | (with_reducible exact Below.refl _ _) | (with_reducible assumption) | (with_reducible refine Below.alloc ?_ ?_ _) | (with_reducible refine Below.drew ?_) | (with_reducible refine below_drewN ?_ _) | (with_reducible refine Below.setCell ?_ ?_ _) | (with_reducible refine below_call ?_ ?_ (by assumption)) | go_size))⟩
  · cases oka
    · have HM : Hid (fail3 = res) := Lib.hid (by rw [HS.out]; unfold bothT; rw [if_neg (by simp)])
      clear HS
      (go_enter Tryd.func9, Tryd.ntmps9)
      go_wp2_with fail
      refine (HC.out _ (HW.out.below (show Below w.heap.size w (w.alloc (Obj.cells #[Value.int .i64 0, Value.int .i64 0] 26)) by (repeat' (first | (with_reducible exact Below.refl _ _) | (with_reducible assumption) | (with_reducible refine Below.alloc ?_ ?_ _) | (with_reducible refine Below.drew ?_) | (with_reducible refine below_drewN ?_ _) | (with_reducible refine Below.setCell ?_ ?_ _) | (with_reducible refine below_call ?_ ?_ (by assumption)) | go_size))))).mono ?_
      rintro e1 w1 ⟨rfl, hb1⟩
      obtain ⟨hc1, hf1⟩ := bcell hb1
      have hz1 := hb1.size
      (try simp only [World.size_alloc] at hz1)
      have q1 : w.heap.size < w1.heap.size := by omega
      have c1_0 : w1.cell? ⟨w.heap.size, 0, none⟩ = some (.int .i64 0) := (hc1 (w.heap.size) 0 (by first | omega | (simp; omega) | simp)).trans (by go_simp)
      have f1_0 : w1.frozen? ⟨w.heap.size, 0, none⟩ = false := (hf1 (w.heap.size) 0 (by first | omega | (simp; omega) | simp)).trans (by go_simp)
      have c1_1 : w1.cell? ⟨w.heap.size, 1, none⟩ = some (.int .i64 0) := (hc1 (w.heap.size) 1 (by first | omega | (simp; omega) | simp)).trans (by go_simp)
      have f1_1 : w1.frozen? ⟨w.heap.size, 1, none⟩ = false := (hf1 (w.heap.size) 1 (by first | omega | (simp; omega) | simp)).trans (by go_simp)
      have B1 : Below w.heap.size w w1 := Below.trans (b := _) (show Below w.heap.size w (w.alloc (Obj.cells #[Value.int .i64 0, Value.int .i64 0] 26)) by (repeat' (first | (with_reducible exact Below.refl _ _) | (with_reducible assumption) | (with_reducible refine Below.alloc ?_ ?_ _) | (with_reducible refine Below.drew ?_) | (with_reducible refine below_drewN ?_ _) | (with_reducible refine Below.setCell ?_ ?_ _) | (with_reducible refine below_call ?_ ?_ (by assumption)) | go_size))) (hb1.mono (by first | omega | (simp; omega) | simp))
      clear hc1 hf1 hb1
      go_wp2_with fail
      refine (HA.out _ (HE.out.below B1)).mono ?_
      rintro e2 w2 ⟨rfl, hb2⟩
      obtain ⟨hc2, hf2⟩ := bcell hb2
      have hz2 := hb2.size
      (try simp only [World.size_alloc] at hz2)
      have q2 : w.heap.size < w2.heap.size := by omega
      have c2_0 : w2.cell? ⟨w.heap.size, 0, none⟩ = some (.int .i64 0) := (hc2 (w.heap.size) 0 (by first | omega | (simp; omega) | simp)).trans (by go_simp)
      have f2_0 : w2.frozen? ⟨w.heap.size, 0, none⟩ = false := (hf2 (w.heap.size) 0 (by first | omega | (simp; omega) | simp)).trans (by go_simp)
      have c2_1 : w2.cell? ⟨w.heap.size, 1, none⟩ = some (.int .i64 0) := (hc2 (w.heap.size) 1 (by first | omega | (simp; omega) | simp)).trans (by go_simp)
      have f2_1 : w2.frozen? ⟨w.heap.size, 1, none⟩ = false := (hf2 (w.heap.size) 1 (by first | omega | (simp; omega) | simp)).trans (by go_simp)
      have B2 : Below w.heap.size w w2 := Below.trans (b := _) B1 (hb2.mono (by first | omega | (simp; omega) | simp))
      clear hc2 hf2 hb2
      go_wp2_with fail
      refine (HP.out _ (HE.out.below B2) (HW.out.below B2)).mono ?_
      rintro e3 w3 ⟨rfl, hb3⟩
      obtain ⟨hc3, hf3⟩ := bcell hb3
      have hz3 := hb3.size
      (try simp only [World.size_alloc] at hz3)
      have q3 : w.heap.size < w3.heap.size := by omega
      have c3_0 : w3.cell? ⟨w.heap.size, 0, none⟩ = some (.int .i64 0) := (hc3 (w.heap.size) 0 (by first | omega | (simp; omega) | simp)).trans (by go_simp)
      have f3_0 : w3.frozen? ⟨w.heap.size, 0, none⟩ = false := (hf3 (w.heap.size) 0 (by first | omega | (simp; omega) | simp)).trans (by go_simp)
      have c3_1 : w3.cell? ⟨w.heap.size, 1, none⟩ = some (.int .i64 0) := (hc3 (w.heap.size) 1 (by first | omega | (simp; omega) | simp)).trans (by go_simp)
      have f3_1 : w3.frozen? ⟨w.heap.size, 1, none⟩ = false := (hf3 (w.heap.size) 1 (by first | omega | (simp; omega) | simp)).trans (by go_simp)
      have B3 : Below w.heap.size w w3 := Below.trans (b := _) B2 (hb3.mono (by first | omega | (simp; omega) | simp))
      clear hc3 hf3 hb3
      go_wp2_with fail
      refine (isDial_is _ ga _).mono ?_
      (rintro e1 w1 ⟨rfl, rfl⟩)
      go_wp2
      (refine bodyPost_ret (by simp [results, Tryd.results9, go_sem, *]; try rfl) rfl ?_)
      exact ⟨ret_rv HM.out, by (repeat' (first | (with_reducible exact Below.refl _ _) | (with_reducible assumption) | (with_reducible refine Below.alloc ?_ ?_ _) | (with_reducible refine Below.drew ?_) | (with_reducible refine below_drewN ?_ _) | (with_reducible refine Below.setCell ?_ ?_ _) | (with_reducible refine below_call ?_ ?_ (by assumption)) | go_size))⟩
    · cases okp
      · have HM : Hid (fail3 = res) := Lib.hid (by rw [HS.out]; unfold bothT; rw [if_neg (by simp)])
        clear HS
        (go_enter Tryd.func9, Tryd.ntmps9)
        go_wp2_with fail
        refine (HC.out _ (HW.out.below (show Below w.heap.size w (w.alloc (Obj.cells #[Value.int .i64 0, Value.int .i64 0] 26)) by (repeat' (first | (with_reducible exact Below.refl _ _) | (with_reducible assumption) | (with_reducible refine Below.alloc ?_ ?_ _) | (with_reducible refine Below.drew ?_) | (with_reducible refine below_drewN ?_ _) | (with_reducible refine Below.setCell ?_ ?_ _) | (with_reducible refine below_call ?_ ?_ (by assumption)) | go_size))))).mono ?_
        rintro e1 w1 ⟨rfl, hb1⟩
        obtain ⟨hc1, hf1⟩ := bcell hb1
        have hz1 := hb1.size
        (try simp only [World.size_alloc] at hz1)
        have q1 : w.heap.size < w1.heap.size := by omega
        have c1_0 : w1.cell? ⟨w.heap.size, 0, none⟩ = some (.int .i64 0) := (hc1 (w.heap.size) 0 (by first | omega | (simp; omega) | simp)).trans (by go_simp)
        have f1_0 : w1.frozen? ⟨w.heap.size, 0, none⟩ = false := (hf1 (w.heap.size) 0 (by first | omega | (simp; omega) | simp)).trans (by go_simp)
        have c1_1 : w1.cell? ⟨w.heap.size, 1, none⟩ = some (.int .i64 0) := (hc1 (w.heap.size) 1 (by first | omega | (simp; omega) | simp)).trans (by go_simp)
        have f1_1 : w1.frozen? ⟨w.heap.size, 1, none⟩ = false := (hf1 (w.heap.size) 1 (by first | omega | (simp; omega) | simp)).trans (by go_simp)
        have B1 : Below w.heap.size w w1 := Below.trans (b := _) (show Below w.heap.size w (w.alloc (Obj.cells #[Value.int .i64 0, Value.int .i64 0] 26)) by (repeat' (first | (with_reducible exact Below.refl _ _) | (with_reducible assumption) | (with_reducible refine Below.alloc ?_ ?_ _) | (with_reducible refine Below.drew ?_) | (with_reducible refine below_drewN ?_ _) | (with_reducible refine Below.setCell ?_ ?_ _) | (with_reducible refine below_call ?_ ?_ (by assumption)) | go_size))) (hb1.mono (by first | omega | (simp; omega) | simp))
        clear hc1 hf1 hb1
        go_wp2_with fail
        refine (HA.out _ (HE.out.below B1)).mono ?_
        rintro e2 w2 ⟨rfl, hb2⟩
        obtain ⟨hc2, hf2⟩ := bcell hb2
        have hz2 := hb2.size
        (try simp only [World.size_alloc] at hz2)
        have q2 : w.heap.size < w2.heap.size := by omega
        have c2_0 : w2.cell? ⟨w.heap.size, 0, none⟩ = some (.int .i64 0) := (hc2 (w.heap.size) 0 (by first | omega | (simp; omega) | simp)).trans (by go_simp)
        have f2_0 : w2.frozen? ⟨w.heap.size, 0, none⟩ = false := (hf2 (w.heap.size) 0 (by first | omega | (simp; omega) | simp)).trans (by go_simp)
        have c2_1 : w2.cell? ⟨w.heap.size, 1, none⟩ = some (.int .i64 0) := (hc2 (w.heap.size) 1 (by first | omega | (simp; omega) | simp)).trans (by go_simp)
        have f2_1 : w2.frozen? ⟨w.heap.size, 1, none⟩ = false := (hf2 (w.heap.size) 1 (by first | omega | (simp; omega) | simp)).trans (by go_simp)
        have B2 : Below w.heap.size w w2 := Below.trans (b := _) B1 (hb2.mono (by first | omega | (simp; omega) | simp))
        clear hc2 hf2 hb2
        go_wp2_with fail
        refine (HP.out _ (HE.out.below B2) (HW.out.below B2)).mono ?_
        rintro e3 w3 ⟨rfl, hb3⟩
        obtain ⟨hc3, hf3⟩ := bcell hb3
        have hz3 := hb3.size
        (try simp only [World.size_alloc] at hz3)
        have q3 : w.heap.size < w3.heap.size := by omega
        have c3_0 : w3.cell? ⟨w.heap.size, 0, none⟩ = some (.int .i64 0) := (hc3 (w.heap.size) 0 (by first | omega | (simp; omega) | simp)).trans (by go_simp)
        have f3_0 : w3.frozen? ⟨w.heap.size, 0, none⟩ = false := (hf3 (w.heap.size) 0 (by first | omega | (simp; omega) | simp)).trans (by go_simp)
        have c3_1 : w3.cell? ⟨w.heap.size, 1, none⟩ = some (.int .i64 0) := (hc3 (w.heap.size) 1 (by first | omega | (simp; omega) | simp)).trans (by go_simp)
        have f3_1 : w3.frozen? ⟨w.heap.size, 1, none⟩ = false := (hf3 (w.heap.size) 1 (by first | omega | (simp; omega) | simp)).trans (by go_simp)
        have B3 : Below w.heap.size w w3 := Below.trans (b := _) B2 (hb3.mono (by first | omega | (simp; omega) | simp))
        clear hc3 hf3 hb3
        go_wp2_with fail
        refine (isDial_is _ ga _).mono ?_
        (rintro e1 w1 ⟨rfl, rfl⟩)
        go_wp2
        (refine bodyPost_ret (by simp [results, Tryd.results9, go_sem, *]; try rfl) rfl ?_)
        exact ⟨ret_rv HM.out, by (repeat' (first | (with_reducible exact Below.refl _ _) | (with_reducible assumption) | (with_reducible refine Below.alloc ?_ ?_ _) | (with_reducible refine Below.drew ?_) | (with_reducible refine below_drewN ?_ _) | (with_reducible refine Below.setCell ?_ ?_ _) | (with_reducible refine below_call ?_ ?_ (by assumption)) | go_size))⟩
      · obtain ⟨s0, s1⟩ := BA.out rfl
        obtain ⟨p0, px, q0, qx⟩ := BP.out rfl
        obtain ⟨h0, h1⟩ := inB_bd ga
        simp only at s0 s1 p0 px q0 qx
        clear BA BP
        have m1 : 1 ≤ h * 3600 * q := Int.mul_pos (by omega) (by omega)
        have m2 : h * 3600 * q ≤ 86400 * 1000000 := Int.mul_le_mul (by omega) qx (by omega) (by omega)
        have m3 : s * q ≤ 1000000 * 1000000 := Int.le_trans (Int.mul_le_mul_of_nonneg_right s1 (by omega)) (Int.mul_le_mul_of_nonneg_left qx (by omega))
        have m4 : -1000000 * 1000000 ≤ s * q := by have := Int.mul_le_mul_of_nonneg_right s0 (show 0 ≤ q by omega); omega
        have HS2 : Hid (res = if (mk (s * q + p) (h * 3600 * q)).2.2 = true ∧ timeL (mk (s * q + p) (h * 3600 * q)).1 (mk (s * q + p) (h * 3600 * q)).2.1 h = l then mk (s * q + p) (h * 3600 * q) else fail3) := Lib.hid (by rw [HS.out]; unfold bothT; rw [if_pos ⟨ga, rfl, rfl⟩])
        have HL := Lib.hid (fun W : World => lowest_any (s * q + p) (h * 3600 * q) m1 (by omega) W)
        have HI := Lib.hid (fun W : World => limitedTurn_low (s * q + p) (h * 3600 * q) W)
        have HG := Lib.hid (fun n d => mk_good (m := s * q + p) (D := h * 3600 * q) (n := n) (d := d) m1)
        have HO := Lib.hid (mk_or (s * q + p) (h * 3600 * q))
        clear HS
        generalize lowNum (s * q + p) (h * 3600 * q) = ln at *
        generalize lowDen (s * q + p) (h * 3600 * q) = ld at *
        generalize mk (s * q + p) (h * 3600 * q) = r at *
        rcases HO.out with hr | ⟨n, d, hr⟩
        · have HM : Hid (fail3 = res) := Lib.hid (by rw [HS2.out, hr, if_neg (by simp [fail3])])
          have HTT : Hid (∀ W : World, Tens W → Calls Tryd.prog 7 #[.int .i64 h, tv 0 0] W fun e w' => e = .returned (sv failS) ∧ Below W.heap.size W w') := fun W ht => by
            have h' := implTimeText_any h 0 0 W ht
            have e : timeT' h 0 0 = failS := by
              have : askB h 0 0 = false := by simp [askB, goodB]
              simp [timeT', this]
            rw [e] at h'
            exact h'
          subst hr
          clear HS2 HG HO
          unfold fail3 at HI
          (go_enter Tryd.func9, Tryd.ntmps9)
          go_wp2_with fail
          refine (HC.out _ (HW.out.below (show Below w.heap.size w (w.alloc (Obj.cells #[Value.int .i64 0, Value.int .i64 0] 26)) by (repeat' (first | (with_reducible exact Below.refl _ _) | (with_reducible assumption) | (with_reducible refine Below.alloc ?_ ?_ _) | (with_reducible refine Below.drew ?_) | (with_reducible refine below_drewN ?_ _) | (with_reducible refine Below.setCell ?_ ?_ _) | (with_reducible refine below_call ?_ ?_ (by assumption)) | go_size))))).mono ?_
          rintro e1 w1 ⟨rfl, hb1⟩
          obtain ⟨hc1, hf1⟩ := bcell hb1
          have hz1 := hb1.size
          (try simp only [World.size_alloc] at hz1)
          have q1 : w.heap.size < w1.heap.size := by omega
          have c1_0 : w1.cell? ⟨w.heap.size, 0, none⟩ = some (.int .i64 0) := (hc1 (w.heap.size) 0 (by first | omega | (simp; omega) | simp)).trans (by go_simp)
          have f1_0 : w1.frozen? ⟨w.heap.size, 0, none⟩ = false := (hf1 (w.heap.size) 0 (by first | omega | (simp; omega) | simp)).trans (by go_simp)
          have c1_1 : w1.cell? ⟨w.heap.size, 1, none⟩ = some (.int .i64 0) := (hc1 (w.heap.size) 1 (by first | omega | (simp; omega) | simp)).trans (by go_simp)
          have f1_1 : w1.frozen? ⟨w.heap.size, 1, none⟩ = false := (hf1 (w.heap.size) 1 (by first | omega | (simp; omega) | simp)).trans (by go_simp)
          have B1 : Below w.heap.size w w1 := Below.trans (b := _) (show Below w.heap.size w (w.alloc (Obj.cells #[Value.int .i64 0, Value.int .i64 0] 26)) by (repeat' (first | (with_reducible exact Below.refl _ _) | (with_reducible assumption) | (with_reducible refine Below.alloc ?_ ?_ _) | (with_reducible refine Below.drew ?_) | (with_reducible refine below_drewN ?_ _) | (with_reducible refine Below.setCell ?_ ?_ _) | (with_reducible refine below_call ?_ ?_ (by assumption)) | go_size))) (hb1.mono (by first | omega | (simp; omega) | simp))
          clear hc1 hf1 hb1
          go_wp2_with fail
          refine (HA.out _ (HE.out.below B1)).mono ?_
          rintro e2 w2 ⟨rfl, hb2⟩
          obtain ⟨hc2, hf2⟩ := bcell hb2
          have hz2 := hb2.size
          (try simp only [World.size_alloc] at hz2)
          have q2 : w.heap.size < w2.heap.size := by omega
          have c2_0 : w2.cell? ⟨w.heap.size, 0, none⟩ = some (.int .i64 0) := (hc2 (w.heap.size) 0 (by first | omega | (simp; omega) | simp)).trans (by go_simp)
          have f2_0 : w2.frozen? ⟨w.heap.size, 0, none⟩ = false := (hf2 (w.heap.size) 0 (by first | omega | (simp; omega) | simp)).trans (by go_simp)
          have c2_1 : w2.cell? ⟨w.heap.size, 1, none⟩ = some (.int .i64 0) := (hc2 (w.heap.size) 1 (by first | omega | (simp; omega) | simp)).trans (by go_simp)
          have f2_1 : w2.frozen? ⟨w.heap.size, 1, none⟩ = false := (hf2 (w.heap.size) 1 (by first | omega | (simp; omega) | simp)).trans (by go_simp)
          have B2 : Below w.heap.size w w2 := Below.trans (b := _) B1 (hb2.mono (by first | omega | (simp; omega) | simp))
          clear hc2 hf2 hb2
          go_wp2_with fail
          refine (HP.out _ (HE.out.below B2) (HW.out.below B2)).mono ?_
          rintro e3 w3 ⟨rfl, hb3⟩
          obtain ⟨hc3, hf3⟩ := bcell hb3
          have hz3 := hb3.size
          (try simp only [World.size_alloc] at hz3)
          have q3 : w.heap.size < w3.heap.size := by omega
          have c3_0 : w3.cell? ⟨w.heap.size, 0, none⟩ = some (.int .i64 0) := (hc3 (w.heap.size) 0 (by first | omega | (simp; omega) | simp)).trans (by go_simp)
          have f3_0 : w3.frozen? ⟨w.heap.size, 0, none⟩ = false := (hf3 (w.heap.size) 0 (by first | omega | (simp; omega) | simp)).trans (by go_simp)
          have c3_1 : w3.cell? ⟨w.heap.size, 1, none⟩ = some (.int .i64 0) := (hc3 (w.heap.size) 1 (by first | omega | (simp; omega) | simp)).trans (by go_simp)
          have f3_1 : w3.frozen? ⟨w.heap.size, 1, none⟩ = false := (hf3 (w.heap.size) 1 (by first | omega | (simp; omega) | simp)).trans (by go_simp)
          have B3 : Below w.heap.size w w3 := Below.trans (b := _) B2 (hb3.mono (by first | omega | (simp; omega) | simp))
          clear hc3 hf3 hb3
          go_wp2_with fail
          refine (isDial_is _ ga _).mono ?_
          (rintro e1 w1 ⟨rfl, rfl⟩)
          go_wp2_with fail
          refine (HL.out _).mono ?_
          rintro e4 w4 ⟨rfl, hb4⟩
          obtain ⟨hc4, hf4⟩ := bcell hb4
          have hz4 := hb4.size
          (try simp only [World.size_alloc] at hz4)
          have q4 : w.heap.size < w4.heap.size := by omega
          have c4_0 : w4.cell? ⟨w.heap.size, 0, none⟩ = some (.int .i64 0) := (hc4 (w.heap.size) 0 (by first | omega | (simp; omega) | simp)).trans (by go_simp)
          have f4_0 : w4.frozen? ⟨w.heap.size, 0, none⟩ = false := (hf4 (w.heap.size) 0 (by first | omega | (simp; omega) | simp)).trans (by go_simp)
          have c4_1 : w4.cell? ⟨w.heap.size, 1, none⟩ = some (.int .i64 0) := (hc4 (w.heap.size) 1 (by first | omega | (simp; omega) | simp)).trans (by go_simp)
          have f4_1 : w4.frozen? ⟨w.heap.size, 1, none⟩ = false := (hf4 (w.heap.size) 1 (by first | omega | (simp; omega) | simp)).trans (by go_simp)
          have q4_2 : w3.heap.size < w4.heap.size := by omega
          have c4_2 : w4.cell? ⟨w3.heap.size, 0, none⟩ = some (.int .i64 p) := (hc4 (w3.heap.size) 0 (by first | omega | (simp; omega) | simp)).trans (by go_simp)
          have f4_2 : w4.frozen? ⟨w3.heap.size, 0, none⟩ = false := (hf4 (w3.heap.size) 0 (by first | omega | (simp; omega) | simp)).trans (by go_simp)
          have c4_3 : w4.cell? ⟨w3.heap.size, 1, none⟩ = some (.int .i64 q) := (hc4 (w3.heap.size) 1 (by first | omega | (simp; omega) | simp)).trans (by go_simp)
          have f4_3 : w4.frozen? ⟨w3.heap.size, 1, none⟩ = false := (hf4 (w3.heap.size) 1 (by first | omega | (simp; omega) | simp)).trans (by go_simp)
          have B4 : Below w.heap.size w w4 := Below.trans (b := _) (B3.alloc (by omega) _) (hb4.mono (by first | omega | (simp; omega) | simp))
          clear hc4 hf4 hb4
          go_wp2_with fail
          refine (HI.out _).mono ?_
          rintro e5 w5 ⟨rfl, hb5⟩
          obtain ⟨hc5, hf5⟩ := bcell hb5
          have hz5 := hb5.size
          (try simp only [World.size_alloc] at hz5)
          have q5 : w.heap.size < w5.heap.size := by omega
          have c5_0 : w5.cell? ⟨w.heap.size, 0, none⟩ = some (.int .i64 0) := (hc5 (w.heap.size) 0 (by first | omega | (simp; omega) | simp)).trans (by go_simp)
          have f5_0 : w5.frozen? ⟨w.heap.size, 0, none⟩ = false := (hf5 (w.heap.size) 0 (by first | omega | (simp; omega) | simp)).trans (by go_simp)
          have c5_1 : w5.cell? ⟨w.heap.size, 1, none⟩ = some (.int .i64 0) := (hc5 (w.heap.size) 1 (by first | omega | (simp; omega) | simp)).trans (by go_simp)
          have f5_1 : w5.frozen? ⟨w.heap.size, 1, none⟩ = false := (hf5 (w.heap.size) 1 (by first | omega | (simp; omega) | simp)).trans (by go_simp)
          have q5_2 : w3.heap.size < w5.heap.size := by omega
          have c5_2 : w5.cell? ⟨w3.heap.size, 0, none⟩ = some (.int .i64 p) := (hc5 (w3.heap.size) 0 (by first | omega | (simp; omega) | simp)).trans (by go_simp)
          have f5_2 : w5.frozen? ⟨w3.heap.size, 0, none⟩ = false := (hf5 (w3.heap.size) 0 (by first | omega | (simp; omega) | simp)).trans (by go_simp)
          have c5_3 : w5.cell? ⟨w3.heap.size, 1, none⟩ = some (.int .i64 q) := (hc5 (w3.heap.size) 1 (by first | omega | (simp; omega) | simp)).trans (by go_simp)
          have f5_3 : w5.frozen? ⟨w3.heap.size, 1, none⟩ = false := (hf5 (w3.heap.size) 1 (by first | omega | (simp; omega) | simp)).trans (by go_simp)
          have B5 : Below w.heap.size w w5 := Below.trans (b := _) B4 (hb5.mono (by first | omega | (simp; omega) | simp))
          clear hc5 hf5 hb5
          go_wp2_with fail
          refine (HTT.out _ (HT.out.below (B5.alloc (by omega) _))).mono ?_
          rintro e6 w6 ⟨rfl, hb6⟩
          obtain ⟨hc6, hf6⟩ := bcell hb6
          have hz6 := hb6.size
          (try simp only [World.size_alloc] at hz6)
          have q6 : w.heap.size < w6.heap.size := by omega
          have c6_0 : w6.cell? ⟨w.heap.size, 0, none⟩ = some (.int .i64 0) := (hc6 (w.heap.size) 0 (by first | omega | (simp; omega) | simp)).trans (by go_simp)
          have f6_0 : w6.frozen? ⟨w.heap.size, 0, none⟩ = false := (hf6 (w.heap.size) 0 (by first | omega | (simp; omega) | simp)).trans (by go_simp)
          have c6_1 : w6.cell? ⟨w.heap.size, 1, none⟩ = some (.int .i64 0) := (hc6 (w.heap.size) 1 (by first | omega | (simp; omega) | simp)).trans (by go_simp)
          have f6_1 : w6.frozen? ⟨w.heap.size, 1, none⟩ = false := (hf6 (w.heap.size) 1 (by first | omega | (simp; omega) | simp)).trans (by go_simp)
          have q6_2 : w3.heap.size < w6.heap.size := by omega
          have c6_2 : w6.cell? ⟨w3.heap.size, 0, none⟩ = some (.int .i64 p) := (hc6 (w3.heap.size) 0 (by first | omega | (simp; omega) | simp)).trans (by go_simp)
          have f6_2 : w6.frozen? ⟨w3.heap.size, 0, none⟩ = false := (hf6 (w3.heap.size) 0 (by first | omega | (simp; omega) | simp)).trans (by go_simp)
          have c6_3 : w6.cell? ⟨w3.heap.size, 1, none⟩ = some (.int .i64 q) := (hc6 (w3.heap.size) 1 (by first | omega | (simp; omega) | simp)).trans (by go_simp)
          have f6_3 : w6.frozen? ⟨w3.heap.size, 1, none⟩ = false := (hf6 (w3.heap.size) 1 (by first | omega | (simp; omega) | simp)).trans (by go_simp)
          have q6_4 : w5.heap.size < w6.heap.size := by omega
          have c6_4 : w6.cell? ⟨w5.heap.size, 0, none⟩ = some (.int .i64 0) := (hc6 (w5.heap.size) 0 (by first | omega | (simp; omega) | simp)).trans (by go_simp)
          have f6_4 : w6.frozen? ⟨w5.heap.size, 0, none⟩ = false := (hf6 (w5.heap.size) 0 (by first | omega | (simp; omega) | simp)).trans (by go_simp)
          have c6_5 : w6.cell? ⟨w5.heap.size, 1, none⟩ = some (.int .i64 0) := (hc6 (w5.heap.size) 1 (by first | omega | (simp; omega) | simp)).trans (by go_simp)
          have f6_5 : w6.frozen? ⟨w5.heap.size, 1, none⟩ = false := (hf6 (w5.heap.size) 1 (by first | omega | (simp; omega) | simp)).trans (by go_simp)
          have B6 : Below w.heap.size w w6 := Below.trans (b := _) (B5.alloc (by omega) _) (hb6.mono (by first | omega | (simp; omega) | simp))
          clear hc6 hf6 hb6
          go_wp2
          (refine bodyPost_ret (by simp [results, Tryd.results9, go_sem, *]; try rfl) rfl ?_)
          exact ⟨ret_rv HM.out, by (repeat' (first | (with_reducible exact Below.refl _ _) | (with_reducible assumption) | (with_reducible refine Below.alloc ?_ ?_ _) | (with_reducible refine Below.drew ?_) | (with_reducible refine below_drewN ?_ _) | (with_reducible refine Below.setCell ?_ ?_ _) | (with_reducible refine below_call ?_ ?_ (by assumption)) | go_size))⟩
        · obtain ⟨-, -, hg⟩ := HG.out n d hr
          have hask : askB h n d = true := by simp [askB, ga, hg]
          have HTT : Hid (∀ W : World, Tens W → Calls Tryd.prog 7 #[.int .i64 h, tv n d] W fun e w' => e = .returned (sv (timeL n d h, true)) ∧ Below W.heap.size W w') := fun W ht => by
            have h' := implTimeText_any h n d W ht
            rw [show timeT' h n d = (timeL n d h, true) by simp [timeT', hask]] at h'
            exact h'
          clear hask hg
          by_cases heq : timeL n d h = l
          · have HM : Hid ((n, d, true) = res) := Lib.hid (by rw [HS2.out, hr]; rw [if_pos ⟨rfl, heq⟩])
            subst hr
            clear HS2 HG HO
            generalize timeL n d h = tl at *
            subst heq
            have hqq : (tl == tl) = true := by simp
            (go_enter Tryd.func9, Tryd.ntmps9)
            go_wp2_with fail
            refine (HC.out _ (HW.out.below (show Below w.heap.size w (w.alloc (Obj.cells #[Value.int .i64 0, Value.int .i64 0] 26)) by (repeat' (first | (with_reducible exact Below.refl _ _) | (with_reducible assumption) | (with_reducible refine Below.alloc ?_ ?_ _) | (with_reducible refine Below.drew ?_) | (with_reducible refine below_drewN ?_ _) | (with_reducible refine Below.setCell ?_ ?_ _) | (with_reducible refine below_call ?_ ?_ (by assumption)) | go_size))))).mono ?_
            rintro e1 w1 ⟨rfl, hb1⟩
            obtain ⟨hc1, hf1⟩ := bcell hb1
            have hz1 := hb1.size
            (try simp only [World.size_alloc] at hz1)
            have q1 : w.heap.size < w1.heap.size := by omega
            have c1_0 : w1.cell? ⟨w.heap.size, 0, none⟩ = some (.int .i64 0) := (hc1 (w.heap.size) 0 (by first | omega | (simp; omega) | simp)).trans (by go_simp)
            have f1_0 : w1.frozen? ⟨w.heap.size, 0, none⟩ = false := (hf1 (w.heap.size) 0 (by first | omega | (simp; omega) | simp)).trans (by go_simp)
            have c1_1 : w1.cell? ⟨w.heap.size, 1, none⟩ = some (.int .i64 0) := (hc1 (w.heap.size) 1 (by first | omega | (simp; omega) | simp)).trans (by go_simp)
            have f1_1 : w1.frozen? ⟨w.heap.size, 1, none⟩ = false := (hf1 (w.heap.size) 1 (by first | omega | (simp; omega) | simp)).trans (by go_simp)
            have B1 : Below w.heap.size w w1 := Below.trans (b := _) (show Below w.heap.size w (w.alloc (Obj.cells #[Value.int .i64 0, Value.int .i64 0] 26)) by (repeat' (first | (with_reducible exact Below.refl _ _) | (with_reducible assumption) | (with_reducible refine Below.alloc ?_ ?_ _) | (with_reducible refine Below.drew ?_) | (with_reducible refine below_drewN ?_ _) | (with_reducible refine Below.setCell ?_ ?_ _) | (with_reducible refine below_call ?_ ?_ (by assumption)) | go_size))) (hb1.mono (by first | omega | (simp; omega) | simp))
            clear hc1 hf1 hb1
            go_wp2_with fail
            refine (HA.out _ (HE.out.below B1)).mono ?_
            rintro e2 w2 ⟨rfl, hb2⟩
            obtain ⟨hc2, hf2⟩ := bcell hb2
            have hz2 := hb2.size
            (try simp only [World.size_alloc] at hz2)
            have q2 : w.heap.size < w2.heap.size := by omega
            have c2_0 : w2.cell? ⟨w.heap.size, 0, none⟩ = some (.int .i64 0) := (hc2 (w.heap.size) 0 (by first | omega | (simp; omega) | simp)).trans (by go_simp)
            have f2_0 : w2.frozen? ⟨w.heap.size, 0, none⟩ = false := (hf2 (w.heap.size) 0 (by first | omega | (simp; omega) | simp)).trans (by go_simp)
            have c2_1 : w2.cell? ⟨w.heap.size, 1, none⟩ = some (.int .i64 0) := (hc2 (w.heap.size) 1 (by first | omega | (simp; omega) | simp)).trans (by go_simp)
            have f2_1 : w2.frozen? ⟨w.heap.size, 1, none⟩ = false := (hf2 (w.heap.size) 1 (by first | omega | (simp; omega) | simp)).trans (by go_simp)
            have B2 : Below w.heap.size w w2 := Below.trans (b := _) B1 (hb2.mono (by first | omega | (simp; omega) | simp))
            clear hc2 hf2 hb2
            go_wp2_with fail
            refine (HP.out _ (HE.out.below B2) (HW.out.below B2)).mono ?_
            rintro e3 w3 ⟨rfl, hb3⟩
            obtain ⟨hc3, hf3⟩ := bcell hb3
            have hz3 := hb3.size
            (try simp only [World.size_alloc] at hz3)
            have q3 : w.heap.size < w3.heap.size := by omega
            have c3_0 : w3.cell? ⟨w.heap.size, 0, none⟩ = some (.int .i64 0) := (hc3 (w.heap.size) 0 (by first | omega | (simp; omega) | simp)).trans (by go_simp)
            have f3_0 : w3.frozen? ⟨w.heap.size, 0, none⟩ = false := (hf3 (w.heap.size) 0 (by first | omega | (simp; omega) | simp)).trans (by go_simp)
            have c3_1 : w3.cell? ⟨w.heap.size, 1, none⟩ = some (.int .i64 0) := (hc3 (w.heap.size) 1 (by first | omega | (simp; omega) | simp)).trans (by go_simp)
            have f3_1 : w3.frozen? ⟨w.heap.size, 1, none⟩ = false := (hf3 (w.heap.size) 1 (by first | omega | (simp; omega) | simp)).trans (by go_simp)
            have B3 : Below w.heap.size w w3 := Below.trans (b := _) B2 (hb3.mono (by first | omega | (simp; omega) | simp))
            clear hc3 hf3 hb3
            go_wp2_with fail
            refine (isDial_is _ ga _).mono ?_
            (rintro e1 w1 ⟨rfl, rfl⟩)
            go_wp2_with fail
            refine (HL.out _).mono ?_
            rintro e4 w4 ⟨rfl, hb4⟩
            obtain ⟨hc4, hf4⟩ := bcell hb4
            have hz4 := hb4.size
            (try simp only [World.size_alloc] at hz4)
            have q4 : w.heap.size < w4.heap.size := by omega
            have c4_0 : w4.cell? ⟨w.heap.size, 0, none⟩ = some (.int .i64 0) := (hc4 (w.heap.size) 0 (by first | omega | (simp; omega) | simp)).trans (by go_simp)
            have f4_0 : w4.frozen? ⟨w.heap.size, 0, none⟩ = false := (hf4 (w.heap.size) 0 (by first | omega | (simp; omega) | simp)).trans (by go_simp)
            have c4_1 : w4.cell? ⟨w.heap.size, 1, none⟩ = some (.int .i64 0) := (hc4 (w.heap.size) 1 (by first | omega | (simp; omega) | simp)).trans (by go_simp)
            have f4_1 : w4.frozen? ⟨w.heap.size, 1, none⟩ = false := (hf4 (w.heap.size) 1 (by first | omega | (simp; omega) | simp)).trans (by go_simp)
            have q4_2 : w3.heap.size < w4.heap.size := by omega
            have c4_2 : w4.cell? ⟨w3.heap.size, 0, none⟩ = some (.int .i64 p) := (hc4 (w3.heap.size) 0 (by first | omega | (simp; omega) | simp)).trans (by go_simp)
            have f4_2 : w4.frozen? ⟨w3.heap.size, 0, none⟩ = false := (hf4 (w3.heap.size) 0 (by first | omega | (simp; omega) | simp)).trans (by go_simp)
            have c4_3 : w4.cell? ⟨w3.heap.size, 1, none⟩ = some (.int .i64 q) := (hc4 (w3.heap.size) 1 (by first | omega | (simp; omega) | simp)).trans (by go_simp)
            have f4_3 : w4.frozen? ⟨w3.heap.size, 1, none⟩ = false := (hf4 (w3.heap.size) 1 (by first | omega | (simp; omega) | simp)).trans (by go_simp)
            have B4 : Below w.heap.size w w4 := Below.trans (b := _) (B3.alloc (by omega) _) (hb4.mono (by first | omega | (simp; omega) | simp))
            clear hc4 hf4 hb4
            go_wp2_with fail
            refine (HI.out _).mono ?_
            rintro e5 w5 ⟨rfl, hb5⟩
            obtain ⟨hc5, hf5⟩ := bcell hb5
            have hz5 := hb5.size
            (try simp only [World.size_alloc] at hz5)
            have q5 : w.heap.size < w5.heap.size := by omega
            have c5_0 : w5.cell? ⟨w.heap.size, 0, none⟩ = some (.int .i64 0) := (hc5 (w.heap.size) 0 (by first | omega | (simp; omega) | simp)).trans (by go_simp)
            have f5_0 : w5.frozen? ⟨w.heap.size, 0, none⟩ = false := (hf5 (w.heap.size) 0 (by first | omega | (simp; omega) | simp)).trans (by go_simp)
            have c5_1 : w5.cell? ⟨w.heap.size, 1, none⟩ = some (.int .i64 0) := (hc5 (w.heap.size) 1 (by first | omega | (simp; omega) | simp)).trans (by go_simp)
            have f5_1 : w5.frozen? ⟨w.heap.size, 1, none⟩ = false := (hf5 (w.heap.size) 1 (by first | omega | (simp; omega) | simp)).trans (by go_simp)
            have q5_2 : w3.heap.size < w5.heap.size := by omega
            have c5_2 : w5.cell? ⟨w3.heap.size, 0, none⟩ = some (.int .i64 p) := (hc5 (w3.heap.size) 0 (by first | omega | (simp; omega) | simp)).trans (by go_simp)
            have f5_2 : w5.frozen? ⟨w3.heap.size, 0, none⟩ = false := (hf5 (w3.heap.size) 0 (by first | omega | (simp; omega) | simp)).trans (by go_simp)
            have c5_3 : w5.cell? ⟨w3.heap.size, 1, none⟩ = some (.int .i64 q) := (hc5 (w3.heap.size) 1 (by first | omega | (simp; omega) | simp)).trans (by go_simp)
            have f5_3 : w5.frozen? ⟨w3.heap.size, 1, none⟩ = false := (hf5 (w3.heap.size) 1 (by first | omega | (simp; omega) | simp)).trans (by go_simp)
            have B5 : Below w.heap.size w w5 := Below.trans (b := _) B4 (hb5.mono (by first | omega | (simp; omega) | simp))
            clear hc5 hf5 hb5
            go_wp2_with fail
            refine (HTT.out _ (HT.out.below (B5.alloc (by omega) _))).mono ?_
            rintro e6 w6 ⟨rfl, hb6⟩
            obtain ⟨hc6, hf6⟩ := bcell hb6
            have hz6 := hb6.size
            (try simp only [World.size_alloc] at hz6)
            have q6 : w.heap.size < w6.heap.size := by omega
            have c6_0 : w6.cell? ⟨w.heap.size, 0, none⟩ = some (.int .i64 0) := (hc6 (w.heap.size) 0 (by first | omega | (simp; omega) | simp)).trans (by go_simp)
            have f6_0 : w6.frozen? ⟨w.heap.size, 0, none⟩ = false := (hf6 (w.heap.size) 0 (by first | omega | (simp; omega) | simp)).trans (by go_simp)
            have c6_1 : w6.cell? ⟨w.heap.size, 1, none⟩ = some (.int .i64 0) := (hc6 (w.heap.size) 1 (by first | omega | (simp; omega) | simp)).trans (by go_simp)
            have f6_1 : w6.frozen? ⟨w.heap.size, 1, none⟩ = false := (hf6 (w.heap.size) 1 (by first | omega | (simp; omega) | simp)).trans (by go_simp)
            have q6_2 : w3.heap.size < w6.heap.size := by omega
            have c6_2 : w6.cell? ⟨w3.heap.size, 0, none⟩ = some (.int .i64 p) := (hc6 (w3.heap.size) 0 (by first | omega | (simp; omega) | simp)).trans (by go_simp)
            have f6_2 : w6.frozen? ⟨w3.heap.size, 0, none⟩ = false := (hf6 (w3.heap.size) 0 (by first | omega | (simp; omega) | simp)).trans (by go_simp)
            have c6_3 : w6.cell? ⟨w3.heap.size, 1, none⟩ = some (.int .i64 q) := (hc6 (w3.heap.size) 1 (by first | omega | (simp; omega) | simp)).trans (by go_simp)
            have f6_3 : w6.frozen? ⟨w3.heap.size, 1, none⟩ = false := (hf6 (w3.heap.size) 1 (by first | omega | (simp; omega) | simp)).trans (by go_simp)
            have q6_4 : w5.heap.size < w6.heap.size := by omega
            have c6_4 : w6.cell? ⟨w5.heap.size, 0, none⟩ = some (.int .i64 n) := (hc6 (w5.heap.size) 0 (by first | omega | (simp; omega) | simp)).trans (by go_simp)
            have f6_4 : w6.frozen? ⟨w5.heap.size, 0, none⟩ = false := (hf6 (w5.heap.size) 0 (by first | omega | (simp; omega) | simp)).trans (by go_simp)
            have c6_5 : w6.cell? ⟨w5.heap.size, 1, none⟩ = some (.int .i64 d) := (hc6 (w5.heap.size) 1 (by first | omega | (simp; omega) | simp)).trans (by go_simp)
            have f6_5 : w6.frozen? ⟨w5.heap.size, 1, none⟩ = false := (hf6 (w5.heap.size) 1 (by first | omega | (simp; omega) | simp)).trans (by go_simp)
            have B6 : Below w.heap.size w w6 := Below.trans (b := _) (B5.alloc (by omega) _) (hb6.mono (by first | omega | (simp; omega) | simp))
            clear hc6 hf6 hb6
            go_wp2
            (refine bodyPost_ret (by simp [results, Tryd.results9, go_sem, *]; try rfl) rfl ?_)
            exact ⟨ret_rv HM.out, by (repeat' (first | (with_reducible exact Below.refl _ _) | (with_reducible assumption) | (with_reducible refine Below.alloc ?_ ?_ _) | (with_reducible refine Below.drew ?_) | (with_reducible refine below_drewN ?_ _) | (with_reducible refine Below.setCell ?_ ?_ _) | (with_reducible refine below_call ?_ ?_ (by assumption)) | go_size))⟩
          · have HM : Hid (fail3 = res) := Lib.hid (by rw [HS2.out, hr]; rw [if_neg (fun hh => heq hh.2)])
            subst hr
            clear HS2 HG HO
            generalize timeL n d h = tl at *
            have hqq : (tl == l) = false := by simpa using heq
            (go_enter Tryd.func9, Tryd.ntmps9)
            go_wp2_with fail
            refine (HC.out _ (HW.out.below (show Below w.heap.size w (w.alloc (Obj.cells #[Value.int .i64 0, Value.int .i64 0] 26)) by (repeat' (first | (with_reducible exact Below.refl _ _) | (with_reducible assumption) | (with_reducible refine Below.alloc ?_ ?_ _) | (with_reducible refine Below.drew ?_) | (with_reducible refine below_drewN ?_ _) | (with_reducible refine Below.setCell ?_ ?_ _) | (with_reducible refine below_call ?_ ?_ (by assumption)) | go_size))))).mono ?_
            rintro e1 w1 ⟨rfl, hb1⟩
            obtain ⟨hc1, hf1⟩ := bcell hb1
            have hz1 := hb1.size
            (try simp only [World.size_alloc] at hz1)
            have q1 : w.heap.size < w1.heap.size := by omega
            have c1_0 : w1.cell? ⟨w.heap.size, 0, none⟩ = some (.int .i64 0) := (hc1 (w.heap.size) 0 (by first | omega | (simp; omega) | simp)).trans (by go_simp)
            have f1_0 : w1.frozen? ⟨w.heap.size, 0, none⟩ = false := (hf1 (w.heap.size) 0 (by first | omega | (simp; omega) | simp)).trans (by go_simp)
            have c1_1 : w1.cell? ⟨w.heap.size, 1, none⟩ = some (.int .i64 0) := (hc1 (w.heap.size) 1 (by first | omega | (simp; omega) | simp)).trans (by go_simp)
            have f1_1 : w1.frozen? ⟨w.heap.size, 1, none⟩ = false := (hf1 (w.heap.size) 1 (by first | omega | (simp; omega) | simp)).trans (by go_simp)
            have B1 : Below w.heap.size w w1 := Below.trans (b := _) (show Below w.heap.size w (w.alloc (Obj.cells #[Value.int .i64 0, Value.int .i64 0] 26)) by (repeat' (first | (with_reducible exact Below.refl _ _) | (with_reducible assumption) | (with_reducible refine Below.alloc ?_ ?_ _) | (with_reducible refine Below.drew ?_) | (with_reducible refine below_drewN ?_ _) | (with_reducible refine Below.setCell ?_ ?_ _) | (with_reducible refine below_call ?_ ?_ (by assumption)) | go_size))) (hb1.mono (by first | omega | (simp; omega) | simp))
            clear hc1 hf1 hb1
            go_wp2_with fail
            refine (HA.out _ (HE.out.below B1)).mono ?_
            rintro e2 w2 ⟨rfl, hb2⟩
            obtain ⟨hc2, hf2⟩ := bcell hb2
            have hz2 := hb2.size
            (try simp only [World.size_alloc] at hz2)
            have q2 : w.heap.size < w2.heap.size := by omega
            have c2_0 : w2.cell? ⟨w.heap.size, 0, none⟩ = some (.int .i64 0) := (hc2 (w.heap.size) 0 (by first | omega | (simp; omega) | simp)).trans (by go_simp)
            have f2_0 : w2.frozen? ⟨w.heap.size, 0, none⟩ = false := (hf2 (w.heap.size) 0 (by first | omega | (simp; omega) | simp)).trans (by go_simp)
            have c2_1 : w2.cell? ⟨w.heap.size, 1, none⟩ = some (.int .i64 0) := (hc2 (w.heap.size) 1 (by first | omega | (simp; omega) | simp)).trans (by go_simp)
            have f2_1 : w2.frozen? ⟨w.heap.size, 1, none⟩ = false := (hf2 (w.heap.size) 1 (by first | omega | (simp; omega) | simp)).trans (by go_simp)
            have B2 : Below w.heap.size w w2 := Below.trans (b := _) B1 (hb2.mono (by first | omega | (simp; omega) | simp))
            clear hc2 hf2 hb2
            go_wp2_with fail
            refine (HP.out _ (HE.out.below B2) (HW.out.below B2)).mono ?_
            rintro e3 w3 ⟨rfl, hb3⟩
            obtain ⟨hc3, hf3⟩ := bcell hb3
            have hz3 := hb3.size
            (try simp only [World.size_alloc] at hz3)
            have q3 : w.heap.size < w3.heap.size := by omega
            have c3_0 : w3.cell? ⟨w.heap.size, 0, none⟩ = some (.int .i64 0) := (hc3 (w.heap.size) 0 (by first | omega | (simp; omega) | simp)).trans (by go_simp)
            have f3_0 : w3.frozen? ⟨w.heap.size, 0, none⟩ = false := (hf3 (w.heap.size) 0 (by first | omega | (simp; omega) | simp)).trans (by go_simp)
            have c3_1 : w3.cell? ⟨w.heap.size, 1, none⟩ = some (.int .i64 0) := (hc3 (w.heap.size) 1 (by first | omega | (simp; omega) | simp)).trans (by go_simp)
            have f3_1 : w3.frozen? ⟨w.heap.size, 1, none⟩ = false := (hf3 (w.heap.size) 1 (by first | omega | (simp; omega) | simp)).trans (by go_simp)
            have B3 : Below w.heap.size w w3 := Below.trans (b := _) B2 (hb3.mono (by first | omega | (simp; omega) | simp))
            clear hc3 hf3 hb3
            go_wp2_with fail
            refine (isDial_is _ ga _).mono ?_
            (rintro e1 w1 ⟨rfl, rfl⟩)
            go_wp2_with fail
            refine (HL.out _).mono ?_
            rintro e4 w4 ⟨rfl, hb4⟩
            obtain ⟨hc4, hf4⟩ := bcell hb4
            have hz4 := hb4.size
            (try simp only [World.size_alloc] at hz4)
            have q4 : w.heap.size < w4.heap.size := by omega
            have c4_0 : w4.cell? ⟨w.heap.size, 0, none⟩ = some (.int .i64 0) := (hc4 (w.heap.size) 0 (by first | omega | (simp; omega) | simp)).trans (by go_simp)
            have f4_0 : w4.frozen? ⟨w.heap.size, 0, none⟩ = false := (hf4 (w.heap.size) 0 (by first | omega | (simp; omega) | simp)).trans (by go_simp)
            have c4_1 : w4.cell? ⟨w.heap.size, 1, none⟩ = some (.int .i64 0) := (hc4 (w.heap.size) 1 (by first | omega | (simp; omega) | simp)).trans (by go_simp)
            have f4_1 : w4.frozen? ⟨w.heap.size, 1, none⟩ = false := (hf4 (w.heap.size) 1 (by first | omega | (simp; omega) | simp)).trans (by go_simp)
            have q4_2 : w3.heap.size < w4.heap.size := by omega
            have c4_2 : w4.cell? ⟨w3.heap.size, 0, none⟩ = some (.int .i64 p) := (hc4 (w3.heap.size) 0 (by first | omega | (simp; omega) | simp)).trans (by go_simp)
            have f4_2 : w4.frozen? ⟨w3.heap.size, 0, none⟩ = false := (hf4 (w3.heap.size) 0 (by first | omega | (simp; omega) | simp)).trans (by go_simp)
            have c4_3 : w4.cell? ⟨w3.heap.size, 1, none⟩ = some (.int .i64 q) := (hc4 (w3.heap.size) 1 (by first | omega | (simp; omega) | simp)).trans (by go_simp)
            have f4_3 : w4.frozen? ⟨w3.heap.size, 1, none⟩ = false := (hf4 (w3.heap.size) 1 (by first | omega | (simp; omega) | simp)).trans (by go_simp)
            have B4 : Below w.heap.size w w4 := Below.trans (b := _) (B3.alloc (by omega) _) (hb4.mono (by first | omega | (simp; omega) | simp))
            clear hc4 hf4 hb4
            go_wp2_with fail
            refine (HI.out _).mono ?_
            rintro e5 w5 ⟨rfl, hb5⟩
            obtain ⟨hc5, hf5⟩ := bcell hb5
            have hz5 := hb5.size
            (try simp only [World.size_alloc] at hz5)
            have q5 : w.heap.size < w5.heap.size := by omega
            have c5_0 : w5.cell? ⟨w.heap.size, 0, none⟩ = some (.int .i64 0) := (hc5 (w.heap.size) 0 (by first | omega | (simp; omega) | simp)).trans (by go_simp)
            have f5_0 : w5.frozen? ⟨w.heap.size, 0, none⟩ = false := (hf5 (w.heap.size) 0 (by first | omega | (simp; omega) | simp)).trans (by go_simp)
            have c5_1 : w5.cell? ⟨w.heap.size, 1, none⟩ = some (.int .i64 0) := (hc5 (w.heap.size) 1 (by first | omega | (simp; omega) | simp)).trans (by go_simp)
            have f5_1 : w5.frozen? ⟨w.heap.size, 1, none⟩ = false := (hf5 (w.heap.size) 1 (by first | omega | (simp; omega) | simp)).trans (by go_simp)
            have q5_2 : w3.heap.size < w5.heap.size := by omega
            have c5_2 : w5.cell? ⟨w3.heap.size, 0, none⟩ = some (.int .i64 p) := (hc5 (w3.heap.size) 0 (by first | omega | (simp; omega) | simp)).trans (by go_simp)
            have f5_2 : w5.frozen? ⟨w3.heap.size, 0, none⟩ = false := (hf5 (w3.heap.size) 0 (by first | omega | (simp; omega) | simp)).trans (by go_simp)
            have c5_3 : w5.cell? ⟨w3.heap.size, 1, none⟩ = some (.int .i64 q) := (hc5 (w3.heap.size) 1 (by first | omega | (simp; omega) | simp)).trans (by go_simp)
            have f5_3 : w5.frozen? ⟨w3.heap.size, 1, none⟩ = false := (hf5 (w3.heap.size) 1 (by first | omega | (simp; omega) | simp)).trans (by go_simp)
            have B5 : Below w.heap.size w w5 := Below.trans (b := _) B4 (hb5.mono (by first | omega | (simp; omega) | simp))
            clear hc5 hf5 hb5
            go_wp2_with fail
            refine (HTT.out _ (HT.out.below (B5.alloc (by omega) _))).mono ?_
            rintro e6 w6 ⟨rfl, hb6⟩
            obtain ⟨hc6, hf6⟩ := bcell hb6
            have hz6 := hb6.size
            (try simp only [World.size_alloc] at hz6)
            have q6 : w.heap.size < w6.heap.size := by omega
            have c6_0 : w6.cell? ⟨w.heap.size, 0, none⟩ = some (.int .i64 0) := (hc6 (w.heap.size) 0 (by first | omega | (simp; omega) | simp)).trans (by go_simp)
            have f6_0 : w6.frozen? ⟨w.heap.size, 0, none⟩ = false := (hf6 (w.heap.size) 0 (by first | omega | (simp; omega) | simp)).trans (by go_simp)
            have c6_1 : w6.cell? ⟨w.heap.size, 1, none⟩ = some (.int .i64 0) := (hc6 (w.heap.size) 1 (by first | omega | (simp; omega) | simp)).trans (by go_simp)
            have f6_1 : w6.frozen? ⟨w.heap.size, 1, none⟩ = false := (hf6 (w.heap.size) 1 (by first | omega | (simp; omega) | simp)).trans (by go_simp)
            have q6_2 : w3.heap.size < w6.heap.size := by omega
            have c6_2 : w6.cell? ⟨w3.heap.size, 0, none⟩ = some (.int .i64 p) := (hc6 (w3.heap.size) 0 (by first | omega | (simp; omega) | simp)).trans (by go_simp)
            have f6_2 : w6.frozen? ⟨w3.heap.size, 0, none⟩ = false := (hf6 (w3.heap.size) 0 (by first | omega | (simp; omega) | simp)).trans (by go_simp)
            have c6_3 : w6.cell? ⟨w3.heap.size, 1, none⟩ = some (.int .i64 q) := (hc6 (w3.heap.size) 1 (by first | omega | (simp; omega) | simp)).trans (by go_simp)
            have f6_3 : w6.frozen? ⟨w3.heap.size, 1, none⟩ = false := (hf6 (w3.heap.size) 1 (by first | omega | (simp; omega) | simp)).trans (by go_simp)
            have q6_4 : w5.heap.size < w6.heap.size := by omega
            have c6_4 : w6.cell? ⟨w5.heap.size, 0, none⟩ = some (.int .i64 n) := (hc6 (w5.heap.size) 0 (by first | omega | (simp; omega) | simp)).trans (by go_simp)
            have f6_4 : w6.frozen? ⟨w5.heap.size, 0, none⟩ = false := (hf6 (w5.heap.size) 0 (by first | omega | (simp; omega) | simp)).trans (by go_simp)
            have c6_5 : w6.cell? ⟨w5.heap.size, 1, none⟩ = some (.int .i64 d) := (hc6 (w5.heap.size) 1 (by first | omega | (simp; omega) | simp)).trans (by go_simp)
            have f6_5 : w6.frozen? ⟨w5.heap.size, 1, none⟩ = false := (hf6 (w5.heap.size) 1 (by first | omega | (simp; omega) | simp)).trans (by go_simp)
            have B6 : Below w.heap.size w w6 := Below.trans (b := _) (B5.alloc (by omega) _) (hb6.mono (by first | omega | (simp; omega) | simp))
            clear hc6 hf6 hb6
            go_wp2
            (refine bodyPost_ret (by simp [results, Tryd.results9, go_sem, *]; try rfl) rfl ?_)
            exact ⟨ret_rv HM.out, by (repeat' (first | (with_reducible exact Below.refl _ _) | (with_reducible assumption) | (with_reducible refine Below.alloc ?_ ?_ _) | (with_reducible refine Below.drew ?_) | (with_reducible refine below_drewN ?_ _) | (with_reducible refine Below.setCell ?_ ?_ _) | (with_reducible refine below_call ?_ ?_ (by assumption)) | go_size))⟩
end Go.Proofs.YtebjlaajddpbhaaDoor
