/- The small angle, by the program and by the model. -/
import Derived.Test.YtebjlaajddpbhaaDial5
set_option linter.unusedSimpArgs false
set_option linter.unusedVariables false
set_option maxRecDepth 100000
namespace Go.Proofs.Ytebjlaajddpbhaa
open Go.RowKit

/-- The lesser one of p / q and the turn to its other side. -/
def lesserN (p q : Int) : Int := if lowNum (-p) q < p then lowNum (-p) q else p
def smallN (n d h : Int) : Int := lesserN (lowNum (n * (h - 1)) d) (lowDen (n * (h - 1)) d)
def smallT (h n d : Int) : Int × Int × Bool := if askB h n d then (smallN n d h, lowDen (n * (h - 1)) d, true) else fail3
theorem angle_bd (n d h : Int) (h1 : (2 ≤ h ∧ h ≤ 24) ∧ 1 ≤ d ∧ d ≤ 1000000 ∧ 0 ≤ n ∧ n ≤ 999999) :
    1 ≤ lowDen (n * (h - 1)) d ∧ lowDen (n * (h - 1)) d ≤ 1000000 ∧ 0 ≤ lowNum (n * (h - 1)) d ∧ lowNum (n * (h - 1)) d ≤ 999999 := by
  obtain ⟨⟨c1, c2⟩, a1, a2, a3, a4⟩ := h1
  have b := low_bd (n * (h - 1)) d a1
  have l := low_lt (n * (h - 1)) d a1
  omega

set_option maxHeartbeats 400000 in
theorem smallAngle_any (n d h : Int) (h1 : (2 ≤ h ∧ h ≤ 24) ∧ 1 ≤ d ∧ d ≤ 1000000 ∧ 0 ≤ n ∧ n ≤ 999999) (w : World) :
    Calls Try.prog 73 #[dv n d h] w fun e w' => e = .returned (tv (smallN n d h) (lowDen (n * (h - 1)) d)) ∧ Below w.heap.size w w' := by
  have hb := angle_bd n d h h1
  have HA : Hid (∀ W : World, Calls Try.prog 72 #[dv n d h] W fun e w' => e = .returned (tv (lowNum (n * (h - 1)) d) (lowDen (n * (h - 1)) d)) ∧ Below W.heap.size W w') := fun W => angle_any n d h h1 W
  unfold smallN
  generalize lowNum (n * (h - 1)) d = p at *
  generalize lowDen (n * (h - 1)) d = q at *
  clear h1
  obtain ⟨b1, b2, b3, b4⟩ := hb
  by_cases hc : lowNum (-p) q < p
  · have HM := Lib.hid (show lowNum (-p) q = lesserN p q from (if_pos hc).symm)
    (go_enter Try.func73, Try.ntmps73)
    go_wp2_with fail
    refine (HA.out _).mono ?_
    (rintro e1 w1 ⟨rfl, hb1⟩; obtain ⟨hc1, hf1⟩ := bcell hb1; have hz1 := hb1.size; (try simp only [World.size_alloc, World.size_setCell, World.size_drew] at hz1); have q1 : w.heap.size ≤ w1.heap.size := (by omega); (try have q1_0 : w.heap.size < w1.heap.size := (by omega)); (try have q1_1 : w.heap.size + 1 < w1.heap.size := (by omega)); (try have q1_2 : w.heap.size + 2 < w1.heap.size := (by omega)); (try have q1_3 : w.heap.size + 3 < w1.heap.size := (by omega)))
    go_wp2_with fail
    refine (manyTimes_any p q (-1) b1 (by omega) (by omega) (by omega) _).mono ?_
    (rintro e2 w2 ⟨rfl, hb2⟩; obtain ⟨hc2, hf2⟩ := bcell hb2; have hz2 := hb2.size; (try simp only [World.size_alloc, World.size_setCell, World.size_drew] at hz2); have q2 : w.heap.size ≤ w2.heap.size := (by omega); (try have q2_0 : w.heap.size < w2.heap.size := (by omega)); (try have q2_1 : w.heap.size + 1 < w2.heap.size := (by omega)); (try have q2_2 : w.heap.size + 2 < w2.heap.size := (by omega)); (try have q2_3 : w.heap.size + 3 < w2.heap.size := (by omega)); (try have q2_1_0 : w1.heap.size < w2.heap.size := (by omega)); (try have q2_1_1 : w1.heap.size + 1 < w2.heap.size := (by omega)))
    go_wp2
    (refine bodyPost_ret (by simp [results, Try.results73, go_sem, *]; try rfl) rfl ?_)
    exact ⟨by rw [← HM.out], by (repeat' (first | (with_reducible exact Below.refl _ _) | (with_reducible assumption) | (with_reducible refine Below.alloc ?_ ?_ _) | (with_reducible refine Below.drew ?_) | (with_reducible refine below_drewN ?_ _) | (with_reducible refine Below.setCell ?_ ?_ _) | (with_reducible refine below_call ?_ ?_ (by assumption)) | go_size))⟩
  · have HM := Lib.hid (show p = lesserN p q from (if_neg hc).symm)
    (go_enter Try.func73, Try.ntmps73)
    go_wp2_with fail
    refine (HA.out _).mono ?_
    (rintro e1 w1 ⟨rfl, hb1⟩; obtain ⟨hc1, hf1⟩ := bcell hb1; have hz1 := hb1.size; (try simp only [World.size_alloc, World.size_setCell, World.size_drew] at hz1); have q1 : w.heap.size ≤ w1.heap.size := (by omega); (try have q1_0 : w.heap.size < w1.heap.size := (by omega)); (try have q1_1 : w.heap.size + 1 < w1.heap.size := (by omega)); (try have q1_2 : w.heap.size + 2 < w1.heap.size := (by omega)); (try have q1_3 : w.heap.size + 3 < w1.heap.size := (by omega)))
    go_wp2_with fail
    refine (manyTimes_any p q (-1) b1 (by omega) (by omega) (by omega) _).mono ?_
    (rintro e2 w2 ⟨rfl, hb2⟩; obtain ⟨hc2, hf2⟩ := bcell hb2; have hz2 := hb2.size; (try simp only [World.size_alloc, World.size_setCell, World.size_drew] at hz2); have q2 : w.heap.size ≤ w2.heap.size := (by omega); (try have q2_0 : w.heap.size < w2.heap.size := (by omega)); (try have q2_1 : w.heap.size + 1 < w2.heap.size := (by omega)); (try have q2_2 : w.heap.size + 2 < w2.heap.size := (by omega)); (try have q2_3 : w.heap.size + 3 < w2.heap.size := (by omega)); (try have q2_1_0 : w1.heap.size < w2.heap.size := (by omega)); (try have q2_1_1 : w1.heap.size + 1 < w2.heap.size := (by omega)))
    go_wp2
    (refine bodyPost_ret (by simp [results, Try.results73, go_sem, *]; try rfl) rfl ?_)
    exact ⟨by rw [← HM.out], by (repeat' (first | (with_reducible exact Below.refl _ _) | (with_reducible assumption) | (with_reducible refine Below.alloc ?_ ?_ _) | (with_reducible refine Below.drew ?_) | (with_reducible refine below_drewN ?_ _) | (with_reducible refine Below.setCell ?_ ?_ _) | (with_reducible refine below_call ?_ ?_ (by assumption)) | go_size))⟩

set_option maxHeartbeats 400000 in
theorem tell_smallAngle_ok (h n d : Int) (r : Int × Int) (hb : askB h n d = true) (HF : ∀ W : World, Calls Try.prog 73 #[dv n d h] W fun e w' => e = .returned (tv r.1 r.2) ∧ Below W.heap.size W w') (w : World) :
    Calls Try.prog 70 #[.int .i64 h, tv n d, .func (.func 73) #[] #[]] w fun e w' => e = .returned (.tuple #[tv r.1 r.2, .bool true]) ∧ Below w.heap.size w w' := by
  have H := Lib.hid HF
  clear HF
  obtain ⟨ga, gb⟩ : inB h 2 24 = true ∧ goodB n d = true := by simpa [askB] using hb
  clear hb
  (go_enter Try.func70, Try.ntmps70)
  go_wp2_with fail
  refine (isDial_is _ ga _).mono ?_
  (rintro e1 w1 ⟨rfl, rfl⟩)
  go_wp2_with fail
  refine (isTurn_is _ _ gb _).mono ?_
  (rintro e1 w1 ⟨rfl, hb1⟩; obtain ⟨hc1, hf1⟩ := bcell hb1; have hz1 := hb1.size; (try simp only [World.size_alloc, World.size_setCell, World.size_drew] at hz1); have q1 : w.heap.size ≤ w1.heap.size := (by omega); (try have q1_0 : w.heap.size < w1.heap.size := (by omega)); (try have q1_1 : w.heap.size + 1 < w1.heap.size := (by omega)); (try have q1_2 : w.heap.size + 2 < w1.heap.size := (by omega)); (try have q1_3 : w.heap.size + 3 < w1.heap.size := (by omega)))
  go_wp2_with fail
  refine (H.out _).mono ?_
  (rintro e2 w2 ⟨rfl, hb2⟩; obtain ⟨hc2, hf2⟩ := bcell hb2; have hz2 := hb2.size; (try simp only [World.size_alloc, World.size_setCell, World.size_drew] at hz2); have q2 : w.heap.size ≤ w2.heap.size := (by omega); (try have q2_0 : w.heap.size < w2.heap.size := (by omega)); (try have q2_1 : w.heap.size + 1 < w2.heap.size := (by omega)); (try have q2_2 : w.heap.size + 2 < w2.heap.size := (by omega)); (try have q2_3 : w.heap.size + 3 < w2.heap.size := (by omega)); (try have q2_1_0 : w1.heap.size < w2.heap.size := (by omega)); (try have q2_1_1 : w1.heap.size + 1 < w2.heap.size := (by omega)))
  go_wp2
  (refine bodyPost_ret (by simp [results, Try.results70, go_sem, *]; try rfl) rfl ?_)
  exact ⟨rfl, by (repeat' (first | (with_reducible exact Below.refl _ _) | (with_reducible assumption) | (with_reducible refine Below.alloc ?_ ?_ _) | (with_reducible refine Below.drew ?_) | (with_reducible refine below_drewN ?_ _) | (with_reducible refine Below.setCell ?_ ?_ _) | (with_reducible refine below_call ?_ ?_ (by assumption)) | go_size))⟩

set_option maxHeartbeats 400000 in
theorem tell_smallAngle_no (h n d : Int) (hb : askB h n d = false) (w : World) :
    Calls Try.prog 70 #[.int .i64 h, tv n d, .func (.func 73) #[] #[]] w fun e w' => e = .returned (rv fail3) ∧ Below w.heap.size w w' := by
  cases ga : inB h 2 24
  · (go_enter Try.func70, Try.ntmps70)
    go_wp2_with fail
    refine (isDial_is _ ga _).mono ?_
    (rintro e1 w1 ⟨rfl, rfl⟩)
    go_wp2
    (refine bodyPost_ret (by simp [results, Try.results70, go_sem, *]; try rfl) rfl ?_)
    exact ⟨rfl, by (repeat' (first | (with_reducible exact Below.refl _ _) | (with_reducible assumption) | (with_reducible refine Below.alloc ?_ ?_ _) | (with_reducible refine Below.drew ?_) | (with_reducible refine below_drewN ?_ _) | (with_reducible refine Below.setCell ?_ ?_ _) | (with_reducible refine below_call ?_ ?_ (by assumption)) | go_size))⟩
  · have gb : goodB n d = false := by simpa [askB, ga] using hb
    clear hb
    (go_enter Try.func70, Try.ntmps70)
    go_wp2_with fail
    refine (isDial_is _ ga _).mono ?_
    (rintro e1 w1 ⟨rfl, rfl⟩)
    go_wp2_with fail
    refine (isTurn_is _ _ gb _).mono ?_
    (rintro e1 w1 ⟨rfl, hb1⟩; obtain ⟨hc1, hf1⟩ := bcell hb1; have hz1 := hb1.size; (try simp only [World.size_alloc, World.size_setCell, World.size_drew] at hz1); have q1 : w.heap.size ≤ w1.heap.size := (by omega); (try have q1_0 : w.heap.size < w1.heap.size := (by omega)); (try have q1_1 : w.heap.size + 1 < w1.heap.size := (by omega)); (try have q1_2 : w.heap.size + 2 < w1.heap.size := (by omega)); (try have q1_3 : w.heap.size + 3 < w1.heap.size := (by omega)))
    go_wp2
    (refine bodyPost_ret (by simp [results, Try.results70, go_sem, *]; try rfl) rfl ?_)
    exact ⟨rfl, by (repeat' (first | (with_reducible exact Below.refl _ _) | (with_reducible assumption) | (with_reducible refine Below.alloc ?_ ?_ _) | (with_reducible refine Below.drew ?_) | (with_reducible refine below_drewN ?_ _) | (with_reducible refine Below.setCell ?_ ?_ _) | (with_reducible refine below_call ?_ ?_ (by assumption)) | go_size))⟩

set_option maxHeartbeats 400000 in
theorem implSmallAngle_any (h n d : Int) (w : World) :
    Calls Try.prog 42 #[.int .i64 h, tv n d] w fun e w' => e = .returned (rv (smallT h n d)) ∧ Below w.heap.size w w' := by
  cases ga : askB h n d
  · have HM := Lib.hid (show fail3 = smallT h n d from by simp [smallT, ga])
    (go_enter Try.func42, Try.ntmps42)
    go_wp2_with fail
    refine (tell_smallAngle_no h n d ga _).mono ?_
    (rintro e1 w1 ⟨rfl, hb1⟩; obtain ⟨hc1, hf1⟩ := bcell hb1; have hz1 := hb1.size; (try simp only [World.size_alloc, World.size_setCell, World.size_drew] at hz1); have q1 : w.heap.size ≤ w1.heap.size := (by omega); (try have q1_0 : w.heap.size < w1.heap.size := (by omega)); (try have q1_1 : w.heap.size + 1 < w1.heap.size := (by omega)); (try have q1_2 : w.heap.size + 2 < w1.heap.size := (by omega)); (try have q1_3 : w.heap.size + 3 < w1.heap.size := (by omega)))
    go_wp2
    (refine bodyPost_ret (by simp [results, Try.results42, go_sem, *]; try rfl) rfl ?_)
    exact ⟨ret_rv HM.out, by (repeat' (first | (with_reducible exact Below.refl _ _) | (with_reducible assumption) | (with_reducible refine Below.alloc ?_ ?_ _) | (with_reducible refine Below.drew ?_) | (with_reducible refine below_drewN ?_ _) | (with_reducible refine Below.setCell ?_ ?_ _) | (with_reducible refine below_call ?_ ?_ (by assumption)) | go_size))⟩
  · have h1 := askB_bd ga
    have HT := Lib.hid (fun W : World => smallAngle_any n d h h1 W)
    have HM := Lib.hid (show (smallN n d h, lowDen (n * (h - 1)) d, true) = smallT h n d from by simp [smallT, ga])
    (go_enter Try.func42, Try.ntmps42)
    go_wp2_with fail
    refine (tell_smallAngle_ok h n d (smallN n d h, lowDen (n * (h - 1)) d) ga HT.out _).mono ?_
    (rintro e1 w1 ⟨rfl, hb1⟩; obtain ⟨hc1, hf1⟩ := bcell hb1; have hz1 := hb1.size; (try simp only [World.size_alloc, World.size_setCell, World.size_drew] at hz1); have q1 : w.heap.size ≤ w1.heap.size := (by omega); (try have q1_0 : w.heap.size < w1.heap.size := (by omega)); (try have q1_1 : w.heap.size + 1 < w1.heap.size := (by omega)); (try have q1_2 : w.heap.size + 2 < w1.heap.size := (by omega)); (try have q1_3 : w.heap.size + 3 < w1.heap.size := (by omega)))
    go_wp2
    (refine bodyPost_ret (by simp [results, Try.results42, go_sem, *]; try rfl) rfl ?_)
    exact ⟨ret_rv HM.out, by (repeat' (first | (with_reducible exact Below.refl _ _) | (with_reducible assumption) | (with_reducible refine Below.alloc ?_ ?_ _) | (with_reducible refine Below.drew ?_) | (with_reducible refine below_drewN ?_ _) | (with_reducible refine Below.setCell ?_ ?_ _) | (with_reducible refine below_call ?_ ?_ (by assumption)) | go_size))⟩

theorem diMirror_low (p q : Int) (b : 1 ≤ q ∧ q ≤ 1000000 ∧ 0 ≤ p ∧ p ≤ 999999) (hg : gc p q = 1) (w : World) :
    Calls Try.prog 68 #[tv p q] w fun e w' => e = .returned (tv (lowNum (-p) q) q) ∧ Below w.heap.size w w' := by
  have h := diMirror_any p q b w
  rw [(mirror_low p q b.1 hg).2] at h
  exact h
theorem sg_neg {n : Int} (h : n < 0) : sg n < 0 := by unfold sg; rw [if_neg (by omega), if_pos h]; decide
theorem sg_nonneg {n : Int} (h : 0 ≤ n) : 0 ≤ sg n := by unfold sg; split <;> (try split) <;> omega
/-- The model's comparison of two turns with one Den. -/
theorem lesser_cmp (a p q : Int) (hq : 1 ≤ q) : (a < p ↔ a * q - p * q < 0) := by
  rw [← Int.sub_mul]
  constructor
  · intro h; exact Int.mul_neg_of_neg_of_pos (by omega) (by omega)
  · intro h
    rcases Int.lt_or_le a p with h1 | h1
    · exact h1
    · have := Int.mul_nonneg (show 0 ≤ a - p by omega) (show 0 ≤ q by omega); omega

set_option maxHeartbeats 400000 in
theorem specSmallAngle_any (h n d : Int) (kd : -9223372036854775808 ≤ d ∧ d ≤ 9223372036854775807) (w : World) :
    Calls Try.prog 41 #[.int .i64 h, tv n d] w fun e w' => e = .returned (rv (smallT h n d)) ∧ Below w.heap.size w w' := by
  cases ga : askB h n d
  · have HM := Lib.hid (show fail3 = smallT h n d from by simp [smallT, ga])
    (go_enter Try.func41, Try.ntmps41)
    go_wp2_with fail
    refine (diAsked_is h n d ga kd _).mono ?_
    (rintro e1 w1 ⟨rfl, hb1⟩; obtain ⟨hc1, hf1⟩ := bcell hb1; have hz1 := hb1.size; (try simp only [World.size_alloc, World.size_setCell, World.size_drew] at hz1); have q1 : w.heap.size ≤ w1.heap.size := (by omega); (try have q1_0 : w.heap.size < w1.heap.size := (by omega)); (try have q1_1 : w.heap.size + 1 < w1.heap.size := (by omega)); (try have q1_2 : w.heap.size + 2 < w1.heap.size := (by omega)); (try have q1_3 : w.heap.size + 3 < w1.heap.size := (by omega)))
    go_wp2
    (refine bodyPost_ret (by simp [results, Try.results41, go_sem, *]; try rfl) rfl ?_)
    exact ⟨ret_rv HM.out, by (repeat' (first | (with_reducible exact Below.refl _ _) | (with_reducible assumption) | (with_reducible refine Below.alloc ?_ ?_ _) | (with_reducible refine Below.drew ?_) | (with_reducible refine below_drewN ?_ _) | (with_reducible refine Below.setCell ?_ ?_ _) | (with_reducible refine below_call ?_ ?_ (by assumption)) | go_size))⟩
  · have h1 := askB_bd ga
    have hb := angle_bd n d h h1
    have hbb := hb
    have hlow := gc_low (n * (h - 1)) d h1.2.1
    have hT : ∀ W : World, Calls Try.prog 64 #[tv n d, .int .i64 (h - 1)] W fun e w' => e = .returned (tv (lowNum (n * (h - 1)) d) (lowDen (n * (h - 1)) d)) ∧ Below W.heap.size W w' := fun W => by
      obtain ⟨⟨c1, c2⟩, a1, a2, a3, a4⟩ := h1
      obtain ⟨p1, p2⟩ := mulb a3 a4 (show 0 ≤ h - 1 by omega) (show h - 1 ≤ 23 by omega)
      exact diTimes_any n d (h - 1) a1 a2 (by omega) (by omega) W
    have hS : smallT h n d = (smallN n d h, lowDen (n * (h - 1)) d, true) := by simp [smallT, ga]
    unfold smallN at hS
    obtain ⟨⟨c1, c2⟩, -⟩ := h1
    generalize lowNum (n * (h - 1)) d = p at *
    generalize lowDen (n * (h - 1)) d = q at *
    obtain ⟨b1, b2, b3, b4⟩ := hb
    have hml := low_lt (-p) q b1
    have hmb := low_bd (-p) q b1
    rw [(mirror_low p q b1 hlow).2] at hml
    have HG := Lib.hid hlow
    have HT := Lib.hid hT
    have HS := Lib.hid hS
    clear hlow hT hS
    obtain ⟨m1, -, -⟩ := hmb
    by_cases hc : lowNum (-p) q < p
    · have HM := Lib.hid (show (lowNum (-p) q, q, true) = smallT h n d from by rw [HS.out, lesserN, if_pos hc])
      have hs := sg_neg ((lesser_cmp _ p q b1).1 hc)
      clear hc
      (go_enter Try.func41, Try.ntmps41)
      go_wp2_with fail
      refine (diAsked_is h n d ga kd _).mono ?_
      (rintro e1 w1 ⟨rfl, hb1⟩; obtain ⟨hc1, hf1⟩ := bcell hb1; have hz1 := hb1.size; (try simp only [World.size_alloc, World.size_setCell, World.size_drew] at hz1); have q1 : w.heap.size ≤ w1.heap.size := (by omega); (try have q1_0 : w.heap.size < w1.heap.size := (by omega)); (try have q1_1 : w.heap.size + 1 < w1.heap.size := (by omega)); (try have q1_2 : w.heap.size + 2 < w1.heap.size := (by omega)); (try have q1_3 : w.heap.size + 3 < w1.heap.size := (by omega)))
      go_wp2_with fail
      refine (HT.out _).mono ?_
      (rintro e2 w2 ⟨rfl, hb2⟩; obtain ⟨hc2, hf2⟩ := bcell hb2; have hz2 := hb2.size; (try simp only [World.size_alloc, World.size_setCell, World.size_drew] at hz2); have q2 : w.heap.size ≤ w2.heap.size := (by omega); (try have q2_0 : w.heap.size < w2.heap.size := (by omega)); (try have q2_1 : w.heap.size + 1 < w2.heap.size := (by omega)); (try have q2_2 : w.heap.size + 2 < w2.heap.size := (by omega)); (try have q2_3 : w.heap.size + 3 < w2.heap.size := (by omega)); (try have q2_1_0 : w1.heap.size < w2.heap.size := (by omega)); (try have q2_1_1 : w1.heap.size + 1 < w2.heap.size := (by omega)))
      go_wp2_with fail
      refine (diMirror_low p q hbb HG.out _).mono ?_
      (rintro e3 w3 ⟨rfl, hb3⟩; obtain ⟨hc3, hf3⟩ := bcell hb3; have hz3 := hb3.size; (try simp only [World.size_alloc, World.size_setCell, World.size_drew] at hz3); have q3 : w.heap.size ≤ w3.heap.size := (by omega); (try have q3_0 : w.heap.size < w3.heap.size := (by omega)); (try have q3_1 : w.heap.size + 1 < w3.heap.size := (by omega)); (try have q3_2 : w.heap.size + 2 < w3.heap.size := (by omega)); (try have q3_3 : w.heap.size + 3 < w3.heap.size := (by omega)); (try have q3_1_0 : w1.heap.size < w3.heap.size := (by omega)); (try have q3_1_1 : w1.heap.size + 1 < w3.heap.size := (by omega)); (try have q3_2_0 : w2.heap.size < w3.heap.size := (by omega)); (try have q3_2_1 : w2.heap.size + 1 < w3.heap.size := (by omega)))
      go_wp2_with fail
      refine (diCompare_any (lowNum (-p) q) q p q ⟨b1, b2, m1, by omega⟩ ⟨b1, b2, b3, b4⟩ _).mono ?_
      (rintro e4 w4 ⟨rfl, hb4⟩; obtain ⟨hc4, hf4⟩ := bcell hb4; have hz4 := hb4.size; (try simp only [World.size_alloc, World.size_setCell, World.size_drew] at hz4); have q4 : w.heap.size ≤ w4.heap.size := (by omega); (try have q4_0 : w.heap.size < w4.heap.size := (by omega)); (try have q4_1 : w.heap.size + 1 < w4.heap.size := (by omega)); (try have q4_2 : w.heap.size + 2 < w4.heap.size := (by omega)); (try have q4_3 : w.heap.size + 3 < w4.heap.size := (by omega)); (try have q4_1_0 : w1.heap.size < w4.heap.size := (by omega)); (try have q4_1_1 : w1.heap.size + 1 < w4.heap.size := (by omega)); (try have q4_2_0 : w2.heap.size < w4.heap.size := (by omega)); (try have q4_2_1 : w2.heap.size + 1 < w4.heap.size := (by omega)); (try have q4_3_0 : w3.heap.size < w4.heap.size := (by omega)); (try have q4_3_1 : w3.heap.size + 1 < w4.heap.size := (by omega)))
      go_wp2
      (refine bodyPost_ret (by simp [results, Try.results41, go_sem, *]; try rfl) rfl ?_)
      exact ⟨ret_rv HM.out, by (repeat' (first | (with_reducible exact Below.refl _ _) | (with_reducible assumption) | (with_reducible refine Below.alloc ?_ ?_ _) | (with_reducible refine Below.drew ?_) | (with_reducible refine below_drewN ?_ _) | (with_reducible refine Below.setCell ?_ ?_ _) | (with_reducible refine below_call ?_ ?_ (by assumption)) | go_size))⟩
    · have HM := Lib.hid (show (p, q, true) = smallT h n d from by rw [HS.out, lesserN, if_neg hc])
      have hs : ¬ sg (lowNum (-p) q * q - p * q) < 0 := by
        have := sg_nonneg (n := lowNum (-p) q * q - p * q) (by have := (lesser_cmp (lowNum (-p) q) p q b1).2; omega)
        omega
      clear hc
      (go_enter Try.func41, Try.ntmps41)
      go_wp2_with fail
      refine (diAsked_is h n d ga kd _).mono ?_
      (rintro e1 w1 ⟨rfl, hb1⟩; obtain ⟨hc1, hf1⟩ := bcell hb1; have hz1 := hb1.size; (try simp only [World.size_alloc, World.size_setCell, World.size_drew] at hz1); have q1 : w.heap.size ≤ w1.heap.size := (by omega); (try have q1_0 : w.heap.size < w1.heap.size := (by omega)); (try have q1_1 : w.heap.size + 1 < w1.heap.size := (by omega)); (try have q1_2 : w.heap.size + 2 < w1.heap.size := (by omega)); (try have q1_3 : w.heap.size + 3 < w1.heap.size := (by omega)))
      go_wp2_with fail
      refine (HT.out _).mono ?_
      (rintro e2 w2 ⟨rfl, hb2⟩; obtain ⟨hc2, hf2⟩ := bcell hb2; have hz2 := hb2.size; (try simp only [World.size_alloc, World.size_setCell, World.size_drew] at hz2); have q2 : w.heap.size ≤ w2.heap.size := (by omega); (try have q2_0 : w.heap.size < w2.heap.size := (by omega)); (try have q2_1 : w.heap.size + 1 < w2.heap.size := (by omega)); (try have q2_2 : w.heap.size + 2 < w2.heap.size := (by omega)); (try have q2_3 : w.heap.size + 3 < w2.heap.size := (by omega)); (try have q2_1_0 : w1.heap.size < w2.heap.size := (by omega)); (try have q2_1_1 : w1.heap.size + 1 < w2.heap.size := (by omega)))
      go_wp2_with fail
      refine (diMirror_low p q hbb HG.out _).mono ?_
      (rintro e3 w3 ⟨rfl, hb3⟩; obtain ⟨hc3, hf3⟩ := bcell hb3; have hz3 := hb3.size; (try simp only [World.size_alloc, World.size_setCell, World.size_drew] at hz3); have q3 : w.heap.size ≤ w3.heap.size := (by omega); (try have q3_0 : w.heap.size < w3.heap.size := (by omega)); (try have q3_1 : w.heap.size + 1 < w3.heap.size := (by omega)); (try have q3_2 : w.heap.size + 2 < w3.heap.size := (by omega)); (try have q3_3 : w.heap.size + 3 < w3.heap.size := (by omega)); (try have q3_1_0 : w1.heap.size < w3.heap.size := (by omega)); (try have q3_1_1 : w1.heap.size + 1 < w3.heap.size := (by omega)); (try have q3_2_0 : w2.heap.size < w3.heap.size := (by omega)); (try have q3_2_1 : w2.heap.size + 1 < w3.heap.size := (by omega)))
      go_wp2_with fail
      refine (diCompare_any (lowNum (-p) q) q p q ⟨b1, b2, m1, by omega⟩ ⟨b1, b2, b3, b4⟩ _).mono ?_
      (rintro e4 w4 ⟨rfl, hb4⟩; obtain ⟨hc4, hf4⟩ := bcell hb4; have hz4 := hb4.size; (try simp only [World.size_alloc, World.size_setCell, World.size_drew] at hz4); have q4 : w.heap.size ≤ w4.heap.size := (by omega); (try have q4_0 : w.heap.size < w4.heap.size := (by omega)); (try have q4_1 : w.heap.size + 1 < w4.heap.size := (by omega)); (try have q4_2 : w.heap.size + 2 < w4.heap.size := (by omega)); (try have q4_3 : w.heap.size + 3 < w4.heap.size := (by omega)); (try have q4_1_0 : w1.heap.size < w4.heap.size := (by omega)); (try have q4_1_1 : w1.heap.size + 1 < w4.heap.size := (by omega)); (try have q4_2_0 : w2.heap.size < w4.heap.size := (by omega)); (try have q4_2_1 : w2.heap.size + 1 < w4.heap.size := (by omega)); (try have q4_3_0 : w3.heap.size < w4.heap.size := (by omega)); (try have q4_3_1 : w3.heap.size + 1 < w4.heap.size := (by omega)))
      go_wp2
      (refine bodyPost_ret (by simp [results, Try.results41, go_sem, *]; try rfl) rfl ?_)
      exact ⟨ret_rv HM.out, by (repeat' (first | (with_reducible exact Below.refl _ _) | (with_reducible assumption) | (with_reducible refine Below.alloc ?_ ?_ _) | (with_reducible refine Below.drew ?_) | (with_reducible refine below_drewN ?_ _) | (with_reducible refine Below.setCell ?_ ?_ _) | (with_reducible refine below_call ?_ ?_ (by assumption)) | go_size))⟩

end Go.Proofs.Ytebjlaajddpbhaa
