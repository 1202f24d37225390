/- The wheel that is let off, and how long one waits: by the program and by the model. -/
import Derived.Test.YteamijcnejjmjaaStr2
import Derived.WalkMore
import Derived.ScopeJumps
set_option linter.unusedSimpArgs false
set_option linter.unusedVariables false
set_option maxRecDepth 100000
namespace Go.Proofs.Yteamijcnejjmjaa
open Go.RowKit

theorem md_bd {h x v : Int} (hh : 2 ≤ h ∧ h ≤ 24) (hx : 0 ≤ x ∧ x < 2 * h) (hv : 0 ≤ v ∧ v < 2 * h) : 0 ≤ md h x v ∧ md h x v ≤ 1200 := by
  have := mdF_bd hh (gapW h x v).toNat v
  have := gap_bd hx hv
  unfold md
  omega
def backR (h x v : Int) : Int × Bool := if halfB h x && halfB h v then (gapW h x v, true) else (0, false)
def mendR (h x v : Int) : Int × Bool := if halfB h x && halfB h v then (md h x v, true) else (0, false)
def waitR (h x s : Int) : Int × Bool := if halfB h x && inB s 1 h then (wt h x s, true) else (0, false)
set_option maxHeartbeats 1600000 in
theorem letOff_any (h x v0 : Int) (hh : 2 ≤ h ∧ h ≤ 24) (hx : 0 ≤ x ∧ x < 2 * h) (hv : 0 ≤ v0 ∧ v0 < 2 * h) (w : World) :
    Calls Try.prog 51 #[.int .i64 h, .int .i64 x, .int .i64 v0] w fun e w' => e = .returned (.tuple #[.int .i64 (gapW h x v0), .int .i64 (md h x v0)]) ∧ Below w.heap.size w w' := by
  have hw2 := w64 (n := 2 * h) (by omega)
  have hz2 : (2 * h == 0) = false := by simp; omega
  have hz3 : ¬ (2 * h = 0) := by omega
  have gb0 := gap_bd hx hv
  have mb0 := md_bd hh hx hv
  obtain ⟨v1, v2⟩ := hv
  (go_enter Try.func51, Try.ntmps51)
  go_wp2
  refine wp_scope_jumps 0 (fun a' w' => w' = w.alloc (Obj.cells #[Value.int .i64 h] 3) ∧ ∃ (v p q : Int) (u11 u12 u13 u14 u15 u16 u17 u18 u19 u20 u21 u22 u23 u24 u25 u26 u27 u28 u29 : Value), a' = { tmps := #[.int .i64 h, .int .i64 x, .int .i64 (v), undef, undef, undef, .int .i64 0, .int .i64 0, .func (.func 54) #[] #[.pointer (some ⟨w.heap.size, 0, none⟩)], .int .i64 (p), .int .i64 (q), u11, u12, u13, u14, u15, u16, u17, u18, u19, u20, u21, u22, u23, u24, u25, u26, u27, u28, u29], defers := [] } ∧ (0 ≤ v ∧ v < 2 * h) ∧ p + gapW h x v = gapW h x v0 ∧ q + md h x v = md h x v0 ∧ 0 ≤ p ∧ 0 ≤ q) (fun a' _ => (gapW h x (intOf (a'.tmps.getD 2 undef))).toNat) rfl ?_ ?_
  · by_cases hne : v0 = x
    · obtain ⟨g1, g2⟩ := gap_self (h := h) (x := x)
      go_wp2_with fail
      refine (strokesOf_any h _).mono ?_
      (rintro e1 w1 ⟨rfl, rfl⟩)
      go_wp2
      go_step3
      go_wp2
      simp only [Exit.jump]
      (refine bodyPost_ret (by simp [results, Try.results51, go_sem, *]; try rfl) rfl ?_)
      exact ⟨by rw [hne, g1, g2], by (repeat' (first | (with_reducible exact Below.refl _ _) | (with_reducible assumption) | (with_reducible refine Below.alloc ?_ ?_ _) | (with_reducible refine Below.drew ?_) | (with_reducible refine below_drewN ?_ _) | (with_reducible refine Below.setCell ?_ ?_ _) | (with_reducible refine below_call ?_ ?_ (by assumption)) | go_size))⟩
    · obtain ⟨g1, g2, g3⟩ := gap_next hx ⟨v1, v2⟩ hne
      obtain ⟨m1, m2⟩ := mod_bd (v0 + 1) hh
      have hr := t64 (n := v0 + 1) (g := 2 * h) (by omega) (by omega) (by omega)
      have hne' : (v0 == x) = false := by simpa using hne
      have hs := stM_bd ((v0 + 1) % (2 * h)) hh
      have hmd := md_bd hh hx ⟨m1, m2⟩
      obtain ⟨t, hte⟩ : ∃ t, stM h ((v0 + 1) % (2 * h)) = t := ⟨_, rfl⟩
      rw [hte] at hs g2
      have HT := Lib.hid hte
      clear hte
      go_wp2_with fail
      refine (strokesOf_any h _).mono ?_
      (rintro e1 w1 ⟨rfl, rfl⟩)
      go_wp2
      go_step3
      go_wp2_with fail
      refine (strokes_is h _ w.heap.size _ (by go_simp) hh m1 (by omega) HT.out).mono ?_
      (rintro e1 w1 ⟨rfl, rfl⟩)
      go_wp2
      go_step3
      refine ⟨rfl, rfl, (v0 + (1 : Int)) % (2 * h), 1, t, _, _, _, _, _, _, _, _, _, _, _, _, _, _, _, _, _, _, _, rfl, ⟨m1, m2⟩, by omega, by omega, by omega, by omega⟩
  · rintro a' w' ⟨rfl, v, p, q, u11, u12, u13, u14, u15, u16, u17, u18, u19, u20, u21, u22, u23, u24, u25, u26, u27, u28, u29, rfl, ⟨v1, v2⟩, hp, hq, p0, q0⟩
    have gb := gap_bd hx ⟨v1, v2⟩
    have mb := md_bd hh hx ⟨v1, v2⟩
    by_cases hne : v = x
    · obtain ⟨g1, g2⟩ := gap_self (h := h) (x := x)
      have HP := Lib.hid (show Ending.returned (.tuple #[.int .i64 p, .int .i64 q]) = .returned (.tuple #[.int .i64 (gapW h x v0), .int .i64 (md h x v0)]) from by rw [hne] at hp hq; rw [show p = gapW h x v0 by omega, show q = md h x v0 by omega])
      go_wp2
      simp only [Exit.jump]
      (refine bodyPost_ret (by simp [results, Try.results51, go_sem, *]; try rfl) rfl ?_)
      exact ⟨HP.out, by (repeat' (first | (with_reducible exact Below.refl _ _) | (with_reducible assumption) | (with_reducible refine Below.alloc ?_ ?_ _) | (with_reducible refine Below.drew ?_) | (with_reducible refine below_drewN ?_ _) | (with_reducible refine Below.setCell ?_ ?_ _) | (with_reducible refine below_call ?_ ?_ (by assumption)) | go_size))⟩
    · obtain ⟨g1, g2, g3⟩ := gap_next hx ⟨v1, v2⟩ hne
      obtain ⟨m1, m2⟩ := mod_bd (v + 1) hh
      have hr := t64 (n := v + 1) (g := 2 * h) (by omega) (by omega) (by omega)
      have hne' : (v == x) = false := by simpa using hne
      have hs := stM_bd ((v + 1) % (2 * h)) hh
      have hmd := md_bd hh hx ⟨m1, m2⟩
      obtain ⟨t, hte⟩ : ∃ t, stM h ((v + 1) % (2 * h)) = t := ⟨_, rfl⟩
      rw [hte] at hs g2
      have HT := Lib.hid hte
      clear hte
      go_wp2_with fail
      refine (strokes_is h _ w.heap.size _ (by go_simp) hh m1 (by omega) HT.out).mono ?_
      (rintro e1 w1 ⟨rfl, rfl⟩)
      go_wp2
      go_step3
      refine ⟨rfl, ⟨rfl, (v + 1) % (2 * h), p + 1, q + t, _, _, _, _, _, _, _, _, _, _, _, _, _, _, _, _, _, _, _, rfl, ⟨m1, m2⟩, by omega, by omega, by omega, by omega⟩, ?_⟩
      simp [intOf]
      omega

set_option maxHeartbeats 400000 in
theorem implStepsBack_any (h x v : Int) (w : World) :
    Calls Try.prog 22 #[.int .i64 h, .int .i64 x, .int .i64 v] w fun e w' => e = .returned (nv (backR h x v)) ∧ Below w.heap.size w w' := by
  cases ga : halfB h x
  · have HM := Lib.hid (show (0, false) = backR h x v from by simp [backR, ga])
    (go_enter Try.func22, Try.ntmps22)
    go_wp2_with fail
    refine (isHalf_is _ _ ga _).mono ?_
    (rintro e1 w1 ⟨rfl, rfl⟩)
    go_wp2
    (refine bodyPost_ret (by simp [results, Try.results22, go_sem, *]; try rfl) rfl ?_)
    exact ⟨ret_nv HM.out, by (repeat' (first | (with_reducible exact Below.refl _ _) | (with_reducible assumption) | (with_reducible refine Below.alloc ?_ ?_ _) | (with_reducible refine Below.drew ?_) | (with_reducible refine below_drewN ?_ _) | (with_reducible refine Below.setCell ?_ ?_ _) | (with_reducible refine below_call ?_ ?_ (by assumption)) | go_size))⟩
  · cases gb : halfB h v
    · have HM := Lib.hid (show (0, false) = backR h x v from by simp [backR, ga, gb])
      (go_enter Try.func22, Try.ntmps22)
      go_wp2_with fail
      refine (isHalf_is _ _ ga _).mono ?_
      (rintro e1 w1 ⟨rfl, rfl⟩)
      go_wp2_with fail
      refine (isHalf_is _ _ gb _).mono ?_
      (rintro e1 w1 ⟨rfl, rfl⟩)
      go_wp2
      (refine bodyPost_ret (by simp [results, Try.results22, go_sem, *]; try rfl) rfl ?_)
      exact ⟨ret_nv HM.out, by (repeat' (first | (with_reducible exact Below.refl _ _) | (with_reducible assumption) | (with_reducible refine Below.alloc ?_ ?_ _) | (with_reducible refine Below.drew ?_) | (with_reducible refine below_drewN ?_ _) | (with_reducible refine Below.setCell ?_ ?_ _) | (with_reducible refine below_call ?_ ?_ (by assumption)) | go_size))⟩
    · obtain ⟨hh, hx⟩ := halfB_bd ga
      obtain ⟨_, hv⟩ := halfB_bd gb
      have HM := Lib.hid (show (gapW h x v, true) = backR h x v from by simp [backR, ga, gb])
      (go_enter Try.func22, Try.ntmps22)
      go_wp2_with fail
      refine (isHalf_is _ _ ga _).mono ?_
      (rintro e1 w1 ⟨rfl, rfl⟩)
      go_wp2_with fail
      refine (isHalf_is _ _ gb _).mono ?_
      (rintro e1 w1 ⟨rfl, rfl⟩)
      go_wp2_with fail
      refine (letOff_any h x v hh hx hv _).mono ?_
      (rintro e1 w1 ⟨rfl, hb1⟩; obtain ⟨hc1, hf1⟩ := bcell hb1; have hz1 := hb1.size; (try simp only [World.size_alloc, World.size_setCell, World.size_drew] at hz1); have q1 : w.heap.size ≤ w1.heap.size := (by omega); (try have q1_0 : w.heap.size < w1.heap.size := (by omega)); (try have q1_1 : w.heap.size + 1 < w1.heap.size := (by omega)); (try have q1_2 : w.heap.size + 2 < w1.heap.size := (by omega)); (try have q1_3 : w.heap.size + 3 < w1.heap.size := (by omega)))
      go_wp2
      (refine bodyPost_ret (by simp [results, Try.results22, go_sem, *]; try rfl) rfl ?_)
      exact ⟨ret_nv HM.out, by (repeat' (first | (with_reducible exact Below.refl _ _) | (with_reducible assumption) | (with_reducible refine Below.alloc ?_ ?_ _) | (with_reducible refine Below.drew ?_) | (with_reducible refine below_drewN ?_ _) | (with_reducible refine Below.setCell ?_ ?_ _) | (with_reducible refine below_call ?_ ?_ (by assumption)) | go_size))⟩

set_option maxHeartbeats 400000 in
theorem implStrokesToMend_any (h x v : Int) (w : World) :
    Calls Try.prog 24 #[.int .i64 h, .int .i64 x, .int .i64 v] w fun e w' => e = .returned (nv (mendR h x v)) ∧ Below w.heap.size w w' := by
  cases ga : halfB h x
  · have HM := Lib.hid (show (0, false) = mendR h x v from by simp [mendR, ga])
    (go_enter Try.func24, Try.ntmps24)
    go_wp2_with fail
    refine (isHalf_is _ _ ga _).mono ?_
    (rintro e1 w1 ⟨rfl, rfl⟩)
    go_wp2
    (refine bodyPost_ret (by simp [results, Try.results24, go_sem, *]; try rfl) rfl ?_)
    exact ⟨ret_nv HM.out, by (repeat' (first | (with_reducible exact Below.refl _ _) | (with_reducible assumption) | (with_reducible refine Below.alloc ?_ ?_ _) | (with_reducible refine Below.drew ?_) | (with_reducible refine below_drewN ?_ _) | (with_reducible refine Below.setCell ?_ ?_ _) | (with_reducible refine below_call ?_ ?_ (by assumption)) | go_size))⟩
  · cases gb : halfB h v
    · have HM := Lib.hid (show (0, false) = mendR h x v from by simp [mendR, ga, gb])
      (go_enter Try.func24, Try.ntmps24)
      go_wp2_with fail
      refine (isHalf_is _ _ ga _).mono ?_
      (rintro e1 w1 ⟨rfl, rfl⟩)
      go_wp2_with fail
      refine (isHalf_is _ _ gb _).mono ?_
      (rintro e1 w1 ⟨rfl, rfl⟩)
      go_wp2
      (refine bodyPost_ret (by simp [results, Try.results24, go_sem, *]; try rfl) rfl ?_)
      exact ⟨ret_nv HM.out, by (repeat' (first | (with_reducible exact Below.refl _ _) | (with_reducible assumption) | (with_reducible refine Below.alloc ?_ ?_ _) | (with_reducible refine Below.drew ?_) | (with_reducible refine below_drewN ?_ _) | (with_reducible refine Below.setCell ?_ ?_ _) | (with_reducible refine below_call ?_ ?_ (by assumption)) | go_size))⟩
    · obtain ⟨hh, hx⟩ := halfB_bd ga
      obtain ⟨_, hv⟩ := halfB_bd gb
      have HM := Lib.hid (show (md h x v, true) = mendR h x v from by simp [mendR, ga, gb])
      (go_enter Try.func24, Try.ntmps24)
      go_wp2_with fail
      refine (isHalf_is _ _ ga _).mono ?_
      (rintro e1 w1 ⟨rfl, rfl⟩)
      go_wp2_with fail
      refine (isHalf_is _ _ gb _).mono ?_
      (rintro e1 w1 ⟨rfl, rfl⟩)
      go_wp2_with fail
      refine (letOff_any h x v hh hx hv _).mono ?_
      (rintro e1 w1 ⟨rfl, hb1⟩; obtain ⟨hc1, hf1⟩ := bcell hb1; have hz1 := hb1.size; (try simp only [World.size_alloc, World.size_setCell, World.size_drew] at hz1); have q1 : w.heap.size ≤ w1.heap.size := (by omega); (try have q1_0 : w.heap.size < w1.heap.size := (by omega)); (try have q1_1 : w.heap.size + 1 < w1.heap.size := (by omega)); (try have q1_2 : w.heap.size + 2 < w1.heap.size := (by omega)); (try have q1_3 : w.heap.size + 3 < w1.heap.size := (by omega)))
      go_wp2
      (refine bodyPost_ret (by simp [results, Try.results24, go_sem, *]; try rfl) rfl ?_)
      exact ⟨ret_nv HM.out, by (repeat' (first | (with_reducible exact Below.refl _ _) | (with_reducible assumption) | (with_reducible refine Below.alloc ?_ ?_ _) | (with_reducible refine Below.drew ?_) | (with_reducible refine below_drewN ?_ _) | (with_reducible refine Below.setCell ?_ ?_ _) | (with_reducible refine below_call ?_ ?_ (by assumption)) | go_size))⟩

set_option maxHeartbeats 400000 in
theorem specStepsBack_any (h x v : Int) (w : World) :
    Calls Try.prog 23 #[.int .i64 h, .int .i64 x, .int .i64 v] w fun e w' => e = .returned (nv (backR h x v)) ∧ Below w.heap.size w w' := by
  cases ga : halfB h x
  · have HM := Lib.hid (show (0, false) = backR h x v from by simp [backR, ga])
    (go_enter Try.func23, Try.ntmps23)
    go_wp2_with fail
    refine (stHalf_is _ _ ga _).mono ?_
    (rintro e1 w1 ⟨rfl, rfl⟩)
    go_wp2
    (refine bodyPost_ret (by simp [results, Try.results23, go_sem, *]; try rfl) rfl ?_)
    exact ⟨ret_nv HM.out, by (repeat' (first | (with_reducible exact Below.refl _ _) | (with_reducible assumption) | (with_reducible refine Below.alloc ?_ ?_ _) | (with_reducible refine Below.drew ?_) | (with_reducible refine below_drewN ?_ _) | (with_reducible refine Below.setCell ?_ ?_ _) | (with_reducible refine below_call ?_ ?_ (by assumption)) | go_size))⟩
  · cases gb : halfB h v
    · have HM := Lib.hid (show (0, false) = backR h x v from by simp [backR, ga, gb])
      (go_enter Try.func23, Try.ntmps23)
      go_wp2_with fail
      refine (stHalf_is _ _ ga _).mono ?_
      (rintro e1 w1 ⟨rfl, rfl⟩)
      go_wp2_with fail
      refine (stHalf_is _ _ gb _).mono ?_
      (rintro e1 w1 ⟨rfl, rfl⟩)
      go_wp2
      (refine bodyPost_ret (by simp [results, Try.results23, go_sem, *]; try rfl) rfl ?_)
      exact ⟨ret_nv HM.out, by (repeat' (first | (with_reducible exact Below.refl _ _) | (with_reducible assumption) | (with_reducible refine Below.alloc ?_ ?_ _) | (with_reducible refine Below.drew ?_) | (with_reducible refine below_drewN ?_ _) | (with_reducible refine Below.setCell ?_ ?_ _) | (with_reducible refine below_call ?_ ?_ (by assumption)) | go_size))⟩
    · obtain ⟨hh, hx⟩ := halfB_bd ga
      obtain ⟨_, hv⟩ := halfB_bd gb
      have hw2 := w64 (n := 2 * h) (by omega)
      have hz3 : ¬ (2 * h = 0) := by omega
      have hg := gap_mod hx hv
      have hr := t64 (n := x - v + 2 * h) (g := 2 * h) (by omega) (by omega) (by omega)
      rw [hg] at hr
      have hw3 := w64 (n := x - v) (by omega)
      have hw4 := w64 (n := x - v + 2 * h) (by omega)
      have HM := Lib.hid (show (gapW h x v, true) = backR h x v from by simp [backR, ga, gb])
      (go_enter Try.func23, Try.ntmps23)
      go_wp2_with fail
      refine (stHalf_is _ _ ga _).mono ?_
      (rintro e1 w1 ⟨rfl, rfl⟩)
      go_wp2_with fail
      refine (stHalf_is _ _ gb _).mono ?_
      (rintro e1 w1 ⟨rfl, rfl⟩)
      go_wp2
      (refine bodyPost_ret (by simp [results, Try.results23, go_sem, *]; try rfl) rfl ?_)
      exact ⟨ret_nv HM.out, by (repeat' (first | (with_reducible exact Below.refl _ _) | (with_reducible assumption) | (with_reducible refine Below.alloc ?_ ?_ _) | (with_reducible refine Below.drew ?_) | (with_reducible refine below_drewN ?_ _) | (with_reducible refine Below.setCell ?_ ?_ _) | (with_reducible refine below_call ?_ ?_ (by assumption)) | go_size))⟩

set_option maxHeartbeats 1600000 in
theorem specStrokesToMend_any (h x v : Int) (w : World) :
    Calls Try.prog 25 #[.int .i64 h, .int .i64 x, .int .i64 v] w fun e w' => e = .returned (nv (mendR h x v)) ∧ Below w.heap.size w w' := by
  cases ga : halfB h x
  · have HM := Lib.hid (show (0, false) = mendR h x v from by simp [mendR, ga])
    (go_enter Try.func25, Try.ntmps25)
    go_wp2_with fail
    refine (stHalf_is _ _ ga _).mono ?_
    (rintro e1 w1 ⟨rfl, rfl⟩)
    go_wp2
    (refine bodyPost_ret (by simp [results, Try.results25, go_sem, *]; try rfl) rfl ?_)
    exact ⟨ret_nv HM.out, by (repeat' (first | (with_reducible exact Below.refl _ _) | (with_reducible assumption) | (with_reducible refine Below.alloc ?_ ?_ _) | (with_reducible refine Below.drew ?_) | (with_reducible refine below_drewN ?_ _) | (with_reducible refine Below.setCell ?_ ?_ _) | (with_reducible refine below_call ?_ ?_ (by assumption)) | go_size))⟩
  · cases gb : halfB h v
    · have HM := Lib.hid (show (0, false) = mendR h x v from by simp [mendR, ga, gb])
      (go_enter Try.func25, Try.ntmps25)
      go_wp2_with fail
      refine (stHalf_is _ _ ga _).mono ?_
      (rintro e1 w1 ⟨rfl, rfl⟩)
      go_wp2_with fail
      refine (stHalf_is _ _ gb _).mono ?_
      (rintro e1 w1 ⟨rfl, rfl⟩)
      go_wp2
      (refine bodyPost_ret (by simp [results, Try.results25, go_sem, *]; try rfl) rfl ?_)
      exact ⟨ret_nv HM.out, by (repeat' (first | (with_reducible exact Below.refl _ _) | (with_reducible assumption) | (with_reducible refine Below.alloc ?_ ?_ _) | (with_reducible refine Below.drew ?_) | (with_reducible refine below_drewN ?_ _) | (with_reducible refine Below.setCell ?_ ?_ _) | (with_reducible refine below_call ?_ ?_ (by assumption)) | go_size))⟩
    · obtain ⟨hh, hx⟩ := halfB_bd ga
      obtain ⟨_, hv⟩ := halfB_bd gb
      have hw2 := w64 (n := 2 * h) (by omega)
      have hz3 : ¬ (2 * h = 0) := by omega
      have mb0 := md_bd hh hx hv
      have HM := Lib.hid (show (md h x v, true) = mendR h x v from by simp [mendR, ga, gb])
      (go_enter Try.func25, Try.ntmps25)
      go_wp2_with fail
      refine (stHalf_is _ _ ga _).mono ?_
      (rintro e1 w1 ⟨rfl, rfl⟩)
      go_wp2_with fail
      refine (stHalf_is _ _ gb _).mono ?_
      (rintro e1 w1 ⟨rfl, rfl⟩)
      go_wp2
      go_loop [2, 8] (fun a b => ∃ u q : Int, a = .int .i64 u ∧ b = .int .i64 q ∧ (0 ≤ u ∧ u < 2 * h) ∧ q + md h x u = md h x v ∧ 0 ≤ q) (fun a _ => (gapW h x (intOf a)).toNat)
      case atStart => exact ⟨v, 0, rfl, rfl, hv, by omega, by omega⟩
      case round =>
        obtain ⟨u, q, rfl, rfl, ⟨v1, v2⟩, hq, q0⟩ := hrel
        have mb := md_bd hh hx ⟨v1, v2⟩
        by_cases hne : u = x
        · obtain ⟨g1, g2⟩ := gap_self (h := h) (x := x)
          have HP := Lib.hid (show q = md h x v from by rw [hne] at hq; omega)
          go_wp2
          (refine bodyPost_ret (by simp [results, Try.results25, go_sem, *]; try rfl) rfl ?_)
          exact ⟨(show Ending.returned (nv (q, true)) = _ from by rw [HP.out]; exact ret_nv HM.out), by (repeat' (first | (with_reducible exact Below.refl _ _) | (with_reducible assumption) | (with_reducible refine Below.alloc ?_ ?_ _) | (with_reducible refine Below.drew ?_) | (with_reducible refine below_drewN ?_ _) | (with_reducible refine Below.setCell ?_ ?_ _) | (with_reducible refine below_call ?_ ?_ (by assumption)) | go_size))⟩
        · obtain ⟨g1, g2, g3⟩ := gap_next hx ⟨v1, v2⟩ hne
          obtain ⟨m1, m2⟩ := mod_bd (u + 1) hh
          have hr := t64 (n := u + 1) (g := 2 * h) (by omega) (by omega) (by omega)
          have hne' : (u == x) = false := by simpa using hne
          have hs := stM_bd ((u + 1) % (2 * h)) hh
          have hmd := md_bd hh hx ⟨m1, m2⟩
          obtain ⟨t, hte⟩ : ∃ t, stM h ((u + 1) % (2 * h)) = t := ⟨_, rfl⟩
          rw [hte] at hs g2
          have HT := Lib.hid ((stM_small m1 m2).symm.trans hte)
          clear hte
          go_wp2_with fail
          refine (stAt_is h _ m1 (by omega) HT.out _).mono ?_
          (rintro e1 w1 ⟨rfl, rfl⟩)
          go_wp2
          go_round
          case rel => exact ⟨(u + 1) % (2 * h), q + t, by go_num, by go_num, ⟨m1, m2⟩, by omega, by omega⟩
          case measure => simp [intOf]; omega

end Go.Proofs.Yteamijcnejjmjaa
