/- Desks: whether there is one, and the first one. -/
import Derived.Test.YtfddlmnfkmiomaaKRow
import Derived.Test.YtfddlmnfkmiomaaDial4
import Derived.Test.YtfddlmnfkmiomaaDrift2
set_option linter.unusedSimpArgs false
set_option linter.unusedVariables false
set_option maxRecDepth 100000
namespace Go.Proofs.Ytfddlmnfkmiomaa
open Go.RowKit

def deskB (h n d p q x y : Int) : Bool := askB h n d && clockB p q x y
theorem askB_no {h n d : Int} (g : inB h 2 24 = false) : askB h n d = false := by simp [askB, g]
set_option maxHeartbeats 800000 in
theorem isDesk_any (h n d p q x y : Int) (w : World) :
    Calls Try.prog 10 #[dkv h n d p q x y] w fun e w' => e = .returned (.bool (deskB h n d p q x y)) ∧ Below w.heap.size w w' := by
  cases ga : inB h 2 24
  · have HM := Lib.hid (show false = deskB h n d p q x y from by simp [deskB, askB, ga])
    (go_enter Try.func10, Try.ntmps10)
    go_wp2_with fail
    refine (isDial_is _ ga _).mono ?_
    (rintro e1 w1 ⟨rfl, rfl⟩)
    go_wp2
    go_ret
    exact ⟨ret_bool HM.out, by (repeat' (first | (with_reducible exact Below.refl _ _) | (with_reducible assumption) | (with_reducible refine Below.alloc ?_ ?_ _) | (with_reducible refine Below.drew ?_) | (with_reducible refine below_drewN ?_ _) | (with_reducible refine Below.setCell ?_ ?_ _) | (with_reducible refine below_call ?_ ?_ (by assumption)) | go_size))⟩
  · cases gb : goodB n d
    · have HM := Lib.hid (show false = deskB h n d p q x y from by simp [deskB, askB, ga, gb])
      (go_enter Try.func10, Try.ntmps10)
      go_wp2_with fail
      refine (isDial_is _ ga _).mono ?_
      (rintro e1 w1 ⟨rfl, rfl⟩)
      go_wp2_with fail
      refine (isTurn_is _ _ gb _).mono ?_
      (rintro e2 w2 ⟨rfl, hb2⟩; obtain ⟨hc2, hf2⟩ := bcell hb2; have hz2 := hb2.size; (try simp only [World.size_alloc, World.size_setCell, World.size_drew] at hz2); have q2 : w.heap.size ≤ w2.heap.size := (by omega); (try have q2_0 : w.heap.size < w2.heap.size := (by omega)); (try have q2_1 : w.heap.size + 1 < w2.heap.size := (by omega)); (try have q2_2 : w.heap.size + 2 < w2.heap.size := (by omega)); (try have q2_3 : w.heap.size + 3 < w2.heap.size := (by omega)); (try have q2_1_0 : w1.heap.size < w2.heap.size := (by omega)); (try have q2_1_1 : w1.heap.size + 1 < w2.heap.size := (by omega)))
      go_wp2
      go_ret
      exact ⟨ret_bool HM.out, by (repeat' (first | (with_reducible exact Below.refl _ _) | (with_reducible assumption) | (with_reducible refine Below.alloc ?_ ?_ _) | (with_reducible refine Below.drew ?_) | (with_reducible refine below_drewN ?_ _) | (with_reducible refine Below.setCell ?_ ?_ _) | (with_reducible refine below_call ?_ ?_ (by assumption)) | go_size))⟩
    · have HM := Lib.hid (show clockB p q x y = deskB h n d p q x y from by simp [deskB, askB, ga, gb])
      (go_enter Try.func10, Try.ntmps10)
      go_wp2_with fail
      refine (isDial_is _ ga _).mono ?_
      (rintro e1 w1 ⟨rfl, rfl⟩)
      go_wp2_with fail
      refine (isTurn_is _ _ gb _).mono ?_
      (rintro e2 w2 ⟨rfl, hb2⟩; obtain ⟨hc2, hf2⟩ := bcell hb2; have hz2 := hb2.size; (try simp only [World.size_alloc, World.size_setCell, World.size_drew] at hz2); have q2 : w.heap.size ≤ w2.heap.size := (by omega); (try have q2_0 : w.heap.size < w2.heap.size := (by omega)); (try have q2_1 : w.heap.size + 1 < w2.heap.size := (by omega)); (try have q2_2 : w.heap.size + 2 < w2.heap.size := (by omega)); (try have q2_3 : w.heap.size + 3 < w2.heap.size := (by omega)); (try have q2_1_0 : w1.heap.size < w2.heap.size := (by omega)); (try have q2_1_1 : w1.heap.size + 1 < w2.heap.size := (by omega)))
      go_wp2_with fail
      refine (isClock_any _ _ _ _ _).mono ?_
      (rintro e3 w3 ⟨rfl, hb3⟩; obtain ⟨hc3, hf3⟩ := bcell hb3; have hz3 := hb3.size; (try simp only [World.size_alloc, World.size_setCell, World.size_drew] at hz3); have q3 : w.heap.size ≤ w3.heap.size := (by omega); (try have q3_0 : w.heap.size < w3.heap.size := (by omega)); (try have q3_1 : w.heap.size + 1 < w3.heap.size := (by omega)); (try have q3_2 : w.heap.size + 2 < w3.heap.size := (by omega)); (try have q3_3 : w.heap.size + 3 < w3.heap.size := (by omega)); (try have q3_1_0 : w1.heap.size < w3.heap.size := (by omega)); (try have q3_1_1 : w1.heap.size + 1 < w3.heap.size := (by omega)); (try have q3_2_0 : w2.heap.size < w3.heap.size := (by omega)); (try have q3_2_1 : w2.heap.size + 1 < w3.heap.size := (by omega)))
      go_wp2
      go_ret
      exact ⟨ret_bool HM.out, by (repeat' (first | (with_reducible exact Below.refl _ _) | (with_reducible assumption) | (with_reducible refine Below.alloc ?_ ?_ _) | (with_reducible refine Below.drew ?_) | (with_reducible refine below_drewN ?_ _) | (with_reducible refine Below.setCell ?_ ?_ _) | (with_reducible refine below_call ?_ ?_ (by assumption)) | go_size))⟩
theorem isDesk_is {b : Bool} (h n d p q x y : Int) (hb : deskB h n d p q x y = b) (w : World) :
    Calls Try.prog 10 #[dkv h n d p q x y] w fun e w' => e = .returned (.bool b) ∧ Below w.heap.size w w' := by
  subst hb; exact isDesk_any h n d p q x y w
set_option maxHeartbeats 800000 in
theorem coGood_any (h n d p q x y : Int) (kd : (-9223372036854775808 ≤ d ∧ d ≤ 9223372036854775807)) (kq : (-9223372036854775808 ≤ q ∧ q ≤ 9223372036854775807)) (w : World) :
    Calls Try.prog 13 #[dkv h n d p q x y] w fun e w' => e = .returned (.bool (deskB h n d p q x y)) ∧ Below w.heap.size w w' := by
  cases ga : askB h n d
  · have HM := Lib.hid (show false = deskB h n d p q x y from by simp [deskB, ga])
    (go_enter Try.func13, Try.ntmps13)
    go_wp2_with fail
    refine (diAsked_is _ _ _ ga kd _).mono ?_
    (rintro e1 w1 ⟨rfl, hb1⟩; obtain ⟨hc1, hf1⟩ := bcell hb1; have hz1 := hb1.size; (try simp only [World.size_alloc, World.size_setCell, World.size_drew] at hz1); have q1 : w.heap.size ≤ w1.heap.size := (by omega); (try have q1_0 : w.heap.size < w1.heap.size := (by omega)); (try have q1_1 : w.heap.size + 1 < w1.heap.size := (by omega)); (try have q1_2 : w.heap.size + 2 < w1.heap.size := (by omega)); (try have q1_3 : w.heap.size + 3 < w1.heap.size := (by omega)))
    go_wp2
    go_ret
    exact ⟨ret_bool HM.out, by (repeat' (first | (with_reducible exact Below.refl _ _) | (with_reducible assumption) | (with_reducible refine Below.alloc ?_ ?_ _) | (with_reducible refine Below.drew ?_) | (with_reducible refine below_drewN ?_ _) | (with_reducible refine Below.setCell ?_ ?_ _) | (with_reducible refine below_call ?_ ?_ (by assumption)) | go_size))⟩
  · have HM := Lib.hid (show clockB p q x y = deskB h n d p q x y from by simp [deskB, ga])
    (go_enter Try.func13, Try.ntmps13)
    go_wp2_with fail
    refine (diAsked_is _ _ _ ga kd _).mono ?_
    (rintro e1 w1 ⟨rfl, hb1⟩; obtain ⟨hc1, hf1⟩ := bcell hb1; have hz1 := hb1.size; (try simp only [World.size_alloc, World.size_setCell, World.size_drew] at hz1); have q1 : w.heap.size ≤ w1.heap.size := (by omega); (try have q1_0 : w.heap.size < w1.heap.size := (by omega)); (try have q1_1 : w.heap.size + 1 < w1.heap.size := (by omega)); (try have q1_2 : w.heap.size + 2 < w1.heap.size := (by omega)); (try have q1_3 : w.heap.size + 3 < w1.heap.size := (by omega)))
    go_wp2_with fail
    refine (drClock_any _ _ _ _ kq _).mono ?_
    (rintro e2 w2 ⟨rfl, hb2⟩; obtain ⟨hc2, hf2⟩ := bcell hb2; have hz2 := hb2.size; (try simp only [World.size_alloc, World.size_setCell, World.size_drew] at hz2); have q2 : w.heap.size ≤ w2.heap.size := (by omega); (try have q2_0 : w.heap.size < w2.heap.size := (by omega)); (try have q2_1 : w.heap.size + 1 < w2.heap.size := (by omega)); (try have q2_2 : w.heap.size + 2 < w2.heap.size := (by omega)); (try have q2_3 : w.heap.size + 3 < w2.heap.size := (by omega)); (try have q2_1_0 : w1.heap.size < w2.heap.size := (by omega)); (try have q2_1_1 : w1.heap.size + 1 < w2.heap.size := (by omega)))
    go_wp2
    go_ret
    exact ⟨ret_bool HM.out, by (repeat' (first | (with_reducible exact Below.refl _ _) | (with_reducible assumption) | (with_reducible refine Below.alloc ?_ ?_ _) | (with_reducible refine Below.drew ?_) | (with_reducible refine below_drewN ?_ _) | (with_reducible refine Below.setCell ?_ ?_ _) | (with_reducible refine below_call ?_ ?_ (by assumption)) | go_size))⟩
theorem coGood_is {b : Bool} (h n d p q x y : Int) (hb : deskB h n d p q x y = b) (kd : (-9223372036854775808 ≤ d ∧ d ≤ 9223372036854775807)) (kq : (-9223372036854775808 ≤ q ∧ q ≤ 9223372036854775807)) (w : World) :
    Calls Try.prog 13 #[dkv h n d p q x y] w fun e w' => e = .returned (.bool b) ∧ Below w.heap.size w w' := by
  subst hb; exact coGood_any h n d p q x y kd kq w
set_option maxHeartbeats 800000 in
theorem specIsDesk_any (h n d p q x y : Int) (kd : (-9223372036854775808 ≤ d ∧ d ≤ 9223372036854775807)) (kq : (-9223372036854775808 ≤ q ∧ q ≤ 9223372036854775807)) (w : World) :
    Calls Try.prog 8 #[dkv h n d p q x y] w fun e w' => e = .returned (.bool (deskB h n d p q x y)) ∧ Below w.heap.size w w' := by
  (go_enter Try.func8, Try.ntmps8)
  go_wp2_with fail
  refine (coGood_any _ _ _ _ _ _ _ kd kq _).mono ?_
  (rintro e1 w1 ⟨rfl, hb1⟩; obtain ⟨hc1, hf1⟩ := bcell hb1; have hz1 := hb1.size; (try simp only [World.size_alloc, World.size_setCell, World.size_drew] at hz1); have q1 : w.heap.size ≤ w1.heap.size := (by omega); (try have q1_0 : w.heap.size < w1.heap.size := (by omega)); (try have q1_1 : w.heap.size + 1 < w1.heap.size := (by omega)); (try have q1_2 : w.heap.size + 2 < w1.heap.size := (by omega)); (try have q1_3 : w.heap.size + 3 < w1.heap.size := (by omega)))
  go_wp2
  go_ret
  exact ⟨rfl, by (repeat' (first | (with_reducible exact Below.refl _ _) | (with_reducible assumption) | (with_reducible refine Below.alloc ?_ ?_ _) | (with_reducible refine Below.drew ?_) | (with_reducible refine below_drewN ?_ _) | (with_reducible refine Below.setCell ?_ ?_ _) | (with_reducible refine below_call ?_ ?_ (by assumption)) | go_size))⟩
set_option maxHeartbeats 800000 in
theorem firstDesk_any (w : World) : Calls Try.prog 6 #[] w fun e w' => e = .returned (dkv 12 0 1 0 1 73 72) ∧ Below w.heap.size w w' := by
  (go_enter Try.func6, Try.ntmps6)
  go_wp2
  (refine bodyPost_ret (by simp [results, Try.results6, go_sem, *]; try rfl) rfl ?_)
  exact ⟨rfl, by (repeat' (first | (with_reducible exact Below.refl _ _) | (with_reducible assumption) | (with_reducible refine Below.alloc ?_ ?_ _) | (with_reducible refine Below.drew ?_) | (with_reducible refine below_drewN ?_ _) | (with_reducible refine Below.setCell ?_ ?_ _) | (with_reducible refine below_call ?_ ?_ (by assumption)) | go_size))⟩
set_option maxHeartbeats 800000 in
theorem specFirstDesk_any (w : World) : Calls Try.prog 5 #[] w fun e w' => e = .returned (dkv 12 0 1 0 1 73 72) ∧ Below w.heap.size w w' := by
  (go_enter Try.func5, Try.ntmps5)
  go_wp2
  (refine bodyPost_ret (by simp [results, Try.results5, go_sem, *]; try rfl) rfl ?_)
  exact ⟨rfl, by (repeat' (first | (with_reducible exact Below.refl _ _) | (with_reducible assumption) | (with_reducible refine Below.alloc ?_ ?_ _) | (with_reducible refine Below.drew ?_) | (with_reducible refine below_drewN ?_ _) | (with_reducible refine Below.setCell ?_ ?_ _) | (with_reducible refine below_call ?_ ?_ (by assumption)) | go_size))⟩
end Go.Proofs.Ytfddlmnfkmiomaa
