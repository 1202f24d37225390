/- The part of a second read by the program. -/
import Derived.Test.YtebjlaajddpbhaaDoorPtW3
set_option linter.unusedSimpArgs false
set_option linter.unusedVariables false
set_option maxRecDepth 100000
namespace Go.Proofs.YtebjlaajddpbhaaDoor
open Go.RowKit

/-- What strings.Cut reads of the world. -/
def CutW (w : World) : Prop := ∃ m, w.cell? ⟨0, 0, none⟩ = some (.int .i64 m)
theorem CutW.below {w w' : World} (h : CutW w) (hb : Below w.heap.size w w') : CutW w' := by
  obtain ⟨m, h1⟩ := h
  exact ⟨m, (hb.cell (show (⟨0, 0, none⟩ : Addr).block < w.heap.size from Lib.lt_of_cell h1)).trans h1⟩
theorem cut_any (l : List UInt8) (x : UInt8) (hl : l.length ≤ 1048576) (w : World) (hE : CutW w) :
    Calls Tryd.prog 17 #[str l, .string ⟨#[x]⟩] w fun e w' => e = .returned (.tuple #[str (Lib.cut l [x]).1, str (Lib.cut l [x]).2.1, .bool (Lib.cut l [x]).2.2]) ∧ Below w.heap.size w w' := by
  obtain ⟨m, hm⟩ := hE
  refine (Tryd.strings_Cut ⟨l.toArray⟩ ⟨#[x]⟩ m w (by show l.toArray.size < _; simp; omega) hm).mono fun e w' ⟨he, n, hw⟩ => ⟨?_, ?_⟩
  · rw [he]
  · rw [hw]; exact below_drewN (Below.refl _ _) n
theorem cut_len (l : List UInt8) (x : UInt8) : (Lib.cut l [x]).1.length ≤ l.length ∧ (Lib.cut l [x]).2.1.length ≤ l.length := by
  unfold Lib.cut
  split
  · simp; omega
  · simp
theorem atoiV_bd {l : List UInt8} {v : Int} (h : atoiV l = some v) : -9223372036854775808 ≤ v ∧ v ≤ 9223372036854775807 := by
  unfold atoiV at h
  split at h
  · rename_i v' e; injection h with h; subst h; exact Lib.atoiAll_bounds e
  · cases h
theorem partL_eq {s : List UInt8} (h : ¬ s = []) : partL s = match atoiV (Lib.cut s [47]).1, atoiV (Lib.cut s [47]).2.1 with
    | some p, some q => if goodB p q then (p, q, true) else fail3
    | _, _ => fail3 := by
  unfold partL atoiV
  rw [if_neg h]
  cases Lib.atoiAll (Lib.cut s [47]).1 <;> cases Lib.atoiAll (Lib.cut s [47]).2.1 <;> rfl

set_option maxHeartbeats 1600000 in
theorem parsePart_any (l : List UInt8) (hl : l.length ≤ 1048576) (w : World) (hE : Errs w) (hC : CutW w) :
    Calls Tryd.prog 19 #[str l] w fun e w' => e = .returned (rv (partL l)) ∧ Below w.heap.size w w' := by
  by_cases h0 : l = []
  · subst h0
    (go_enter Tryd.func19, Tryd.ntmps19)
    go_wp2
    (refine bodyPost_ret (by simp [results, Tryd.results19, go_sem, *]; try rfl) rfl ?_)
    exact ⟨rfl, by (repeat' (first | (with_reducible exact Below.refl _ _) | (with_reducible assumption) | (with_reducible refine Below.alloc ?_ ?_ _) | (with_reducible refine Below.drew ?_) | (with_reducible refine below_drewN ?_ _) | (with_reducible refine Below.setCell ?_ ?_ _) | (with_reducible refine below_call ?_ ?_ (by assumption)) | go_size))⟩
  · have hq1 : (l == []) = false := by simpa using h0
    have hq2 : l.isEmpty = false := by simpa using h0
    have HL := Lib.hid (cut_len l 47)
    have HC := Lib.hid (fun W hc => cut_any l 47 hl W hc)
    have HS := Lib.hid (partL_eq h0)
    have HE := Lib.hid hE
    have HW := Lib.hid hC
    clear hE hC
    generalize Lib.cut l [47] = R at *
    obtain ⟨p1, p2, ok⟩ := R
    have l1 : p1.length ≤ 1048576 := Nat.le_trans HL.out.1 hl
    have l2 : p2.length ≤ 1048576 := Nat.le_trans HL.out.2 hl
    clear HL
    cases ha : atoiV p1 with
    | none =>
      cases hb : atoiV p2 with
      | none =>
        have HM := Lib.hid (show fail3 = partL l from by rw [HS.out]; simp only [ha, hb])
        have H1 := Lib.hid (fun W => atoi_no p1 ha (by omega) W)
        have H2 := Lib.hid (fun W => atoi_no p2 hb (by omega) W)
        clear ha hb HS
        (go_enter Tryd.func19, Tryd.ntmps19)
        go_wp2_with fail
        have B0 : Below w.heap.size w (w.alloc (Obj.cells #[Value.int .i64 0, Value.int .i64 0] 26)) := by (repeat' (first | (with_reducible exact Below.refl _ _) | (with_reducible assumption) | (with_reducible refine Below.alloc ?_ ?_ _) | (with_reducible refine Below.drew ?_) | (with_reducible refine below_drewN ?_ _) | (with_reducible refine Below.setCell ?_ ?_ _) | (with_reducible refine below_call ?_ ?_ (by assumption)) | go_size))
        refine (HC.out _ (HW.out.below B0)).mono ?_
        rintro e1 w1 ⟨rfl, hb1⟩
        have B1 : Below w.heap.size w w1 := B0.trans (hb1.mono B0.size)
        have q1 : w.heap.size < w1.heap.size := by have := hb1.size; simp at this; omega
        have c10 : w1.cell? ⟨w.heap.size, 0, none⟩ = some (.int .i64 0) := ((bcell hb1).1 w.heap.size 0 (by simp)).trans (by go_simp)
        have c11 : w1.cell? ⟨w.heap.size, 1, none⟩ = some (.int .i64 0) := ((bcell hb1).1 w.heap.size 1 (by simp)).trans (by go_simp)
        have f10 : w1.frozen? ⟨w.heap.size, 0, none⟩ = false := ((bcell hb1).2 w.heap.size 0 (by simp)).trans (by go_simp)
        have f11 : w1.frozen? ⟨w.heap.size, 1, none⟩ = false := ((bcell hb1).2 w.heap.size 1 (by simp)).trans (by go_simp)
        clear hb1
        go_wp2_with fail
        refine (H1.out _ (HE.out.below B1)).mono ?_
        rintro e2 w2 ⟨n2, t2, q2', rfl, hb2⟩
        have B2 : Below w.heap.size w w2 := B1.trans (hb2.mono B1.size)
        have q2 : w.heap.size < w2.heap.size := by have := hb2.size; omega
        have c20 := ((bcell hb2).1 w.heap.size 0 q1).trans c10
        have c21 := ((bcell hb2).1 w.heap.size 1 q1).trans c11
        have f20 := ((bcell hb2).2 w.heap.size 0 q1).trans f10
        have f21 := ((bcell hb2).2 w.heap.size 1 q1).trans f11
        clear hb2
        go_wp2_with fail
        refine (H2.out _ (HE.out.below B2)).mono ?_
        rintro e3 w3 ⟨n3, t3, q3', rfl, hb3⟩
        have B3 : Below w.heap.size w w3 := B2.trans (hb3.mono B2.size)
        have q3 : w.heap.size < w3.heap.size := by have := hb3.size; omega
        have c30 := ((bcell hb3).1 w.heap.size 0 q2).trans c20
        have c31 := ((bcell hb3).1 w.heap.size 1 q2).trans c21
        have f30 := ((bcell hb3).2 w.heap.size 0 q2).trans f20
        have f31 := ((bcell hb3).2 w.heap.size 1 q2).trans f21
        clear hb3
        go_wp2
        (refine bodyPost_ret (by simp [results, Tryd.results19, go_sem, *]; try rfl) rfl ?_)
        exact ⟨ret_rv HM.out, by (repeat' (first | (with_reducible exact Below.refl _ _) | (with_reducible assumption) | (with_reducible refine Below.alloc ?_ ?_ _) | (with_reducible refine Below.drew ?_) | (with_reducible refine below_drewN ?_ _) | (with_reducible refine Below.setCell ?_ ?_ _) | (with_reducible refine below_call ?_ ?_ (by assumption)) | go_size))⟩
      | some b =>
        have HM := Lib.hid (show fail3 = partL l from by rw [HS.out]; simp only [ha, hb])
        have H1 := Lib.hid (fun W => atoi_no p1 ha (by omega) W)
        have H2 := Lib.hid (fun W => atoi_yes p2 b hb (by omega) W)
        clear ha hb HS
        (go_enter Tryd.func19, Tryd.ntmps19)
        go_wp2_with fail
        have B0 : Below w.heap.size w (w.alloc (Obj.cells #[Value.int .i64 0, Value.int .i64 0] 26)) := by (repeat' (first | (with_reducible exact Below.refl _ _) | (with_reducible assumption) | (with_reducible refine Below.alloc ?_ ?_ _) | (with_reducible refine Below.drew ?_) | (with_reducible refine below_drewN ?_ _) | (with_reducible refine Below.setCell ?_ ?_ _) | (with_reducible refine below_call ?_ ?_ (by assumption)) | go_size))
        refine (HC.out _ (HW.out.below B0)).mono ?_
        rintro e1 w1 ⟨rfl, hb1⟩
        have B1 : Below w.heap.size w w1 := B0.trans (hb1.mono B0.size)
        have q1 : w.heap.size < w1.heap.size := by have := hb1.size; simp at this; omega
        have c10 : w1.cell? ⟨w.heap.size, 0, none⟩ = some (.int .i64 0) := ((bcell hb1).1 w.heap.size 0 (by simp)).trans (by go_simp)
        have c11 : w1.cell? ⟨w.heap.size, 1, none⟩ = some (.int .i64 0) := ((bcell hb1).1 w.heap.size 1 (by simp)).trans (by go_simp)
        have f10 : w1.frozen? ⟨w.heap.size, 0, none⟩ = false := ((bcell hb1).2 w.heap.size 0 (by simp)).trans (by go_simp)
        have f11 : w1.frozen? ⟨w.heap.size, 1, none⟩ = false := ((bcell hb1).2 w.heap.size 1 (by simp)).trans (by go_simp)
        clear hb1
        go_wp2_with fail
        refine (H1.out _ (HE.out.below B1)).mono ?_
        rintro e2 w2 ⟨n2, t2, q2', rfl, hb2⟩
        have B2 : Below w.heap.size w w2 := B1.trans (hb2.mono B1.size)
        have q2 : w.heap.size < w2.heap.size := by have := hb2.size; omega
        have c20 := ((bcell hb2).1 w.heap.size 0 q1).trans c10
        have c21 := ((bcell hb2).1 w.heap.size 1 q1).trans c11
        have f20 := ((bcell hb2).2 w.heap.size 0 q1).trans f10
        have f21 := ((bcell hb2).2 w.heap.size 1 q1).trans f11
        clear hb2
        go_wp2_with fail
        refine (H2.out _).mono ?_
        rintro e3 w3 ⟨rfl, hb3⟩
        have B3 : Below w.heap.size w w3 := B2.trans (hb3.mono B2.size)
        have q3 : w.heap.size < w3.heap.size := by have := hb3.size; omega
        have c30 := ((bcell hb3).1 w.heap.size 0 q2).trans c20
        have c31 := ((bcell hb3).1 w.heap.size 1 q2).trans c21
        have f30 := ((bcell hb3).2 w.heap.size 0 q2).trans f20
        have f31 := ((bcell hb3).2 w.heap.size 1 q2).trans f21
        clear hb3
        go_wp2
        (refine bodyPost_ret (by simp [results, Tryd.results19, go_sem, *]; try rfl) rfl ?_)
        exact ⟨ret_rv HM.out, by (repeat' (first | (with_reducible exact Below.refl _ _) | (with_reducible assumption) | (with_reducible refine Below.alloc ?_ ?_ _) | (with_reducible refine Below.drew ?_) | (with_reducible refine below_drewN ?_ _) | (with_reducible refine Below.setCell ?_ ?_ _) | (with_reducible refine below_call ?_ ?_ (by assumption)) | go_size))⟩
    | some a =>
      cases hb : atoiV p2 with
      | none =>
        have HM := Lib.hid (show fail3 = partL l from by rw [HS.out]; simp only [ha, hb])
        have H1 := Lib.hid (fun W => atoi_yes p1 a ha (by omega) W)
        have H2 := Lib.hid (fun W => atoi_no p2 hb (by omega) W)
        clear ha hb HS
        (go_enter Tryd.func19, Tryd.ntmps19)
        go_wp2_with fail
        have B0 : Below w.heap.size w (w.alloc (Obj.cells #[Value.int .i64 0, Value.int .i64 0] 26)) := by (repeat' (first | (with_reducible exact Below.refl _ _) | (with_reducible assumption) | (with_reducible refine Below.alloc ?_ ?_ _) | (with_reducible refine Below.drew ?_) | (with_reducible refine below_drewN ?_ _) | (with_reducible refine Below.setCell ?_ ?_ _) | (with_reducible refine below_call ?_ ?_ (by assumption)) | go_size))
        refine (HC.out _ (HW.out.below B0)).mono ?_
        rintro e1 w1 ⟨rfl, hb1⟩
        have B1 : Below w.heap.size w w1 := B0.trans (hb1.mono B0.size)
        have q1 : w.heap.size < w1.heap.size := by have := hb1.size; simp at this; omega
        have c10 : w1.cell? ⟨w.heap.size, 0, none⟩ = some (.int .i64 0) := ((bcell hb1).1 w.heap.size 0 (by simp)).trans (by go_simp)
        have c11 : w1.cell? ⟨w.heap.size, 1, none⟩ = some (.int .i64 0) := ((bcell hb1).1 w.heap.size 1 (by simp)).trans (by go_simp)
        have f10 : w1.frozen? ⟨w.heap.size, 0, none⟩ = false := ((bcell hb1).2 w.heap.size 0 (by simp)).trans (by go_simp)
        have f11 : w1.frozen? ⟨w.heap.size, 1, none⟩ = false := ((bcell hb1).2 w.heap.size 1 (by simp)).trans (by go_simp)
        clear hb1
        go_wp2_with fail
        refine (H1.out _).mono ?_
        rintro e2 w2 ⟨rfl, hb2⟩
        have B2 : Below w.heap.size w w2 := B1.trans (hb2.mono B1.size)
        have q2 : w.heap.size < w2.heap.size := by have := hb2.size; omega
        have c20 := ((bcell hb2).1 w.heap.size 0 q1).trans c10
        have c21 := ((bcell hb2).1 w.heap.size 1 q1).trans c11
        have f20 := ((bcell hb2).2 w.heap.size 0 q1).trans f10
        have f21 := ((bcell hb2).2 w.heap.size 1 q1).trans f11
        clear hb2
        go_wp2_with fail
        refine (H2.out _ (HE.out.below B2)).mono ?_
        rintro e3 w3 ⟨n3, t3, q3', rfl, hb3⟩
        have B3 : Below w.heap.size w w3 := B2.trans (hb3.mono B2.size)
        have q3 : w.heap.size < w3.heap.size := by have := hb3.size; omega
        have c30 := ((bcell hb3).1 w.heap.size 0 q2).trans c20
        have c31 := ((bcell hb3).1 w.heap.size 1 q2).trans c21
        have f30 := ((bcell hb3).2 w.heap.size 0 q2).trans f20
        have f31 := ((bcell hb3).2 w.heap.size 1 q2).trans f21
        clear hb3
        go_wp2
        (refine bodyPost_ret (by simp [results, Tryd.results19, go_sem, *]; try rfl) rfl ?_)
        exact ⟨ret_rv HM.out, by (repeat' (first | (with_reducible exact Below.refl _ _) | (with_reducible assumption) | (with_reducible refine Below.alloc ?_ ?_ _) | (with_reducible refine Below.drew ?_) | (with_reducible refine below_drewN ?_ _) | (with_reducible refine Below.setCell ?_ ?_ _) | (with_reducible refine below_call ?_ ?_ (by assumption)) | go_size))⟩
      | some b =>
        cases hg : goodB a b
        · have HM := Lib.hid (show fail3 = partL l from by rw [HS.out]; simp only [ha, hb]; simp [hg])
          obtain ⟨va0, va1⟩ := atoiV_bd ha
          obtain ⟨vb0, vb1⟩ := atoiV_bd hb
          have H1 := Lib.hid (fun W => atoi_yes p1 a ha (by omega) W)
          have H2 := Lib.hid (fun W => atoi_yes p2 b hb (by omega) W)
          clear ha hb HS
          (go_enter Tryd.func19, Tryd.ntmps19)
          go_wp2_with fail
          have B0 : Below w.heap.size w (w.alloc (Obj.cells #[Value.int .i64 0, Value.int .i64 0] 26)) := by (repeat' (first | (with_reducible exact Below.refl _ _) | (with_reducible assumption) | (with_reducible refine Below.alloc ?_ ?_ _) | (with_reducible refine Below.drew ?_) | (with_reducible refine below_drewN ?_ _) | (with_reducible refine Below.setCell ?_ ?_ _) | (with_reducible refine below_call ?_ ?_ (by assumption)) | go_size))
          refine (HC.out _ (HW.out.below B0)).mono ?_
          rintro e1 w1 ⟨rfl, hb1⟩
          have B1 : Below w.heap.size w w1 := B0.trans (hb1.mono B0.size)
          have q1 : w.heap.size < w1.heap.size := by have := hb1.size; simp at this; omega
          have c10 : w1.cell? ⟨w.heap.size, 0, none⟩ = some (.int .i64 0) := ((bcell hb1).1 w.heap.size 0 (by simp)).trans (by go_simp)
          have c11 : w1.cell? ⟨w.heap.size, 1, none⟩ = some (.int .i64 0) := ((bcell hb1).1 w.heap.size 1 (by simp)).trans (by go_simp)
          have f10 : w1.frozen? ⟨w.heap.size, 0, none⟩ = false := ((bcell hb1).2 w.heap.size 0 (by simp)).trans (by go_simp)
          have f11 : w1.frozen? ⟨w.heap.size, 1, none⟩ = false := ((bcell hb1).2 w.heap.size 1 (by simp)).trans (by go_simp)
          clear hb1
          go_wp2_with fail
          refine (H1.out _).mono ?_
          rintro e2 w2 ⟨rfl, hb2⟩
          have B2 : Below w.heap.size w w2 := B1.trans (hb2.mono B1.size)
          have q2 : w.heap.size < w2.heap.size := by have := hb2.size; omega
          have c20 := ((bcell hb2).1 w.heap.size 0 q1).trans c10
          have c21 := ((bcell hb2).1 w.heap.size 1 q1).trans c11
          have f20 := ((bcell hb2).2 w.heap.size 0 q1).trans f10
          have f21 := ((bcell hb2).2 w.heap.size 1 q1).trans f11
          clear hb2
          go_wp2_with fail
          refine (H2.out _).mono ?_
          rintro e3 w3 ⟨rfl, hb3⟩
          have B3 : Below w.heap.size w w3 := B2.trans (hb3.mono B2.size)
          have q3 : w.heap.size < w3.heap.size := by have := hb3.size; omega
          have c30 := ((bcell hb3).1 w.heap.size 0 q2).trans c20
          have c31 := ((bcell hb3).1 w.heap.size 1 q2).trans c21
          have f30 := ((bcell hb3).2 w.heap.size 0 q2).trans f20
          have f31 := ((bcell hb3).2 w.heap.size 1 q2).trans f21
          clear hb3
          go_wp2_with fail
          refine (isTurn_is a b hg _).mono ?_
          rintro e4 w4 ⟨rfl, hb4⟩
          obtain ⟨hc4, hf4⟩ := bcell hb4
          have hz4 := hb4.size
          simp only [World.size_alloc] at hz4
          have q4z : w.heap.size < w4.heap.size := by omega
          have q4y : w3.heap.size < w4.heap.size := by omega
          have c40 : w4.cell? ⟨w.heap.size, 0, none⟩ = some (.int .i64 0) := (hc4 w.heap.size 0 (by simp; omega)).trans (by go_simp)
          have c41 : w4.cell? ⟨w.heap.size, 1, none⟩ = some (.int .i64 0) := (hc4 w.heap.size 1 (by simp; omega)).trans (by go_simp)
          have f40 : w4.frozen? ⟨w.heap.size, 0, none⟩ = false := (hf4 w.heap.size 0 (by simp; omega)).trans (by go_simp)
          have f41 : w4.frozen? ⟨w.heap.size, 1, none⟩ = false := (hf4 w.heap.size 1 (by simp; omega)).trans (by go_simp)
          have c42 : w4.cell? ⟨w3.heap.size, 0, none⟩ = some (.int .i64 a) := (hc4 w3.heap.size 0 (by simp)).trans (by go_simp)
          have c43 : w4.cell? ⟨w3.heap.size, 1, none⟩ = some (.int .i64 b) := (hc4 w3.heap.size 1 (by simp)).trans (by go_simp)
          have B4 : Below w.heap.size w w4 := Below.trans (b := _) (B3.alloc (by omega) _) (hb4.mono (by simp; omega))
          clear hc4 hf4 hb4
          go_wp2
          (refine bodyPost_ret (by simp [results, Tryd.results19, go_sem, *]; try rfl) rfl ?_)
          exact ⟨ret_rv HM.out, by (repeat' (first | (with_reducible exact Below.refl _ _) | (with_reducible assumption) | (with_reducible refine Below.alloc ?_ ?_ _) | (with_reducible refine Below.drew ?_) | (with_reducible refine below_drewN ?_ _) | (with_reducible refine Below.setCell ?_ ?_ _) | (with_reducible refine below_call ?_ ?_ (by assumption)) | go_size))⟩
        · have HM := Lib.hid (show (a, b, true) = partL l from by rw [HS.out]; simp only [ha, hb]; simp [hg])
          obtain ⟨va0, va1⟩ := atoiV_bd ha
          obtain ⟨vb0, vb1⟩ := atoiV_bd hb
          have H1 := Lib.hid (fun W => atoi_yes p1 a ha (by omega) W)
          have H2 := Lib.hid (fun W => atoi_yes p2 b hb (by omega) W)
          clear ha hb HS
          (go_enter Tryd.func19, Tryd.ntmps19)
          go_wp2_with fail
          have B0 : Below w.heap.size w (w.alloc (Obj.cells #[Value.int .i64 0, Value.int .i64 0] 26)) := by (repeat' (first | (with_reducible exact Below.refl _ _) | (with_reducible assumption) | (with_reducible refine Below.alloc ?_ ?_ _) | (with_reducible refine Below.drew ?_) | (with_reducible refine below_drewN ?_ _) | (with_reducible refine Below.setCell ?_ ?_ _) | (with_reducible refine below_call ?_ ?_ (by assumption)) | go_size))
          refine (HC.out _ (HW.out.below B0)).mono ?_
          rintro e1 w1 ⟨rfl, hb1⟩
          have B1 : Below w.heap.size w w1 := B0.trans (hb1.mono B0.size)
          have q1 : w.heap.size < w1.heap.size := by have := hb1.size; simp at this; omega
          have c10 : w1.cell? ⟨w.heap.size, 0, none⟩ = some (.int .i64 0) := ((bcell hb1).1 w.heap.size 0 (by simp)).trans (by go_simp)
          have c11 : w1.cell? ⟨w.heap.size, 1, none⟩ = some (.int .i64 0) := ((bcell hb1).1 w.heap.size 1 (by simp)).trans (by go_simp)
          have f10 : w1.frozen? ⟨w.heap.size, 0, none⟩ = false := ((bcell hb1).2 w.heap.size 0 (by simp)).trans (by go_simp)
          have f11 : w1.frozen? ⟨w.heap.size, 1, none⟩ = false := ((bcell hb1).2 w.heap.size 1 (by simp)).trans (by go_simp)
          clear hb1
          go_wp2_with fail
          refine (H1.out _).mono ?_
          rintro e2 w2 ⟨rfl, hb2⟩
          have B2 : Below w.heap.size w w2 := B1.trans (hb2.mono B1.size)
          have q2 : w.heap.size < w2.heap.size := by have := hb2.size; omega
          have c20 := ((bcell hb2).1 w.heap.size 0 q1).trans c10
          have c21 := ((bcell hb2).1 w.heap.size 1 q1).trans c11
          have f20 := ((bcell hb2).2 w.heap.size 0 q1).trans f10
          have f21 := ((bcell hb2).2 w.heap.size 1 q1).trans f11
          clear hb2
          go_wp2_with fail
          refine (H2.out _).mono ?_
          rintro e3 w3 ⟨rfl, hb3⟩
          have B3 : Below w.heap.size w w3 := B2.trans (hb3.mono B2.size)
          have q3 : w.heap.size < w3.heap.size := by have := hb3.size; omega
          have c30 := ((bcell hb3).1 w.heap.size 0 q2).trans c20
          have c31 := ((bcell hb3).1 w.heap.size 1 q2).trans c21
          have f30 := ((bcell hb3).2 w.heap.size 0 q2).trans f20
          have f31 := ((bcell hb3).2 w.heap.size 1 q2).trans f21
          clear hb3
          go_wp2_with fail
          refine (isTurn_is a b hg _).mono ?_
          rintro e4 w4 ⟨rfl, hb4⟩
          obtain ⟨hc4, hf4⟩ := bcell hb4
          have hz4 := hb4.size
          simp only [World.size_alloc] at hz4
          have q4z : w.heap.size < w4.heap.size := by omega
          have q4y : w3.heap.size < w4.heap.size := by omega
          have c40 : w4.cell? ⟨w.heap.size, 0, none⟩ = some (.int .i64 0) := (hc4 w.heap.size 0 (by simp; omega)).trans (by go_simp)
          have c41 : w4.cell? ⟨w.heap.size, 1, none⟩ = some (.int .i64 0) := (hc4 w.heap.size 1 (by simp; omega)).trans (by go_simp)
          have f40 : w4.frozen? ⟨w.heap.size, 0, none⟩ = false := (hf4 w.heap.size 0 (by simp; omega)).trans (by go_simp)
          have f41 : w4.frozen? ⟨w.heap.size, 1, none⟩ = false := (hf4 w.heap.size 1 (by simp; omega)).trans (by go_simp)
          have c42 : w4.cell? ⟨w3.heap.size, 0, none⟩ = some (.int .i64 a) := (hc4 w3.heap.size 0 (by simp)).trans (by go_simp)
          have c43 : w4.cell? ⟨w3.heap.size, 1, none⟩ = some (.int .i64 b) := (hc4 w3.heap.size 1 (by simp)).trans (by go_simp)
          have B4 : Below w.heap.size w w4 := Below.trans (b := _) (B3.alloc (by omega) _) (hb4.mono (by simp; omega))
          clear hc4 hf4 hb4
          go_wp2
          (refine bodyPost_ret (by simp [results, Tryd.results19, go_sem, *]; try rfl) rfl ?_)
          exact ⟨ret_rv HM.out, by (repeat' (first | (with_reducible exact Below.refl _ _) | (with_reducible assumption) | (with_reducible refine Below.alloc ?_ ?_ _) | (with_reducible refine Below.drew ?_) | (with_reducible refine below_drewN ?_ _) | (with_reducible refine Below.setCell ?_ ?_ _) | (with_reducible refine below_call ?_ ?_ (by assumption)) | go_size))⟩
end Go.Proofs.YtebjlaajddpbhaaDoor
