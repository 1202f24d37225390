/- Turns compared and mirrored, by the program and by the model. -/
import Derived.Test.YtjdjomoeeecdkaaDial2
set_option linter.unusedSimpArgs false
set_option linter.unusedVariables false
set_option maxRecDepth 100000
namespace Go.Proofs.Ytjdjomoeeecdkaa
open Go.RowKit

set_option maxHeartbeats 400000 in
theorem isNaN_any (a : Int) (w : World) :
    Calls Try.prog 47 #[.int .i64 a] w fun e w' => e = .returned (.bool false) ∧ w = w' := by
  (go_enter Try.func47, Try.ntmps47)
  go_wp2
  go_ret
  exact ⟨by simp, rfl⟩

set_option maxHeartbeats 400000 in
theorem cmpCompare_any (a b : Int) (w : World) :
    Calls Try.prog 44 #[.int .i64 a, .int .i64 b] w fun e w' => e = .returned (.int .i64 (sg (a - b))) ∧ w = w' := by
  rcases Int.lt_trichotomy (a - b) 0 with h | h | h
  · have HS := Lib.hid (show -1 = sg (a - b) from by unfold sg; rw [if_neg (by omega), if_pos h])
    have h1 : a < b := by omega
    clear h
    (go_enter Try.func44, Try.ntmps44)
    go_wp2_with (first | (go_at_call 47; refine (isNaN_any _ _).mono ?_; (rintro e1 w1 ⟨rfl, rfl⟩)))
    go_ret
    exact ⟨ret_int HS.out, rfl⟩
  · have HS := Lib.hid (show 0 = sg (a - b) from by unfold sg; rw [if_neg (by omega), if_neg (by omega)])
    obtain rfl : a = b := by omega
    clear h
    (go_enter Try.func44, Try.ntmps44)
    go_wp2_with (first | (go_at_call 47; refine (isNaN_any _ _).mono ?_; (rintro e1 w1 ⟨rfl, rfl⟩)))
    go_ret
    exact ⟨ret_int HS.out, rfl⟩
  · have HS := Lib.hid (show 1 = sg (a - b) from by unfold sg; rw [if_pos h])
    have h1 : b < a := by omega
    clear h
    (go_enter Try.func44, Try.ntmps44)
    go_wp2_with (first | (go_at_call 47; refine (isNaN_any _ _).mono ?_; (rintro e1 w1 ⟨rfl, rfl⟩)))
    go_ret
    exact ⟨ret_int HS.out, rfl⟩

set_option maxHeartbeats 400000 in
theorem l1Sign_any (n : Int) (w : World) :
    Calls Try.prog 45 #[.int .i64 n] w fun e w' => e = .returned (.int .i64 (sg n)) ∧ w = w' := by
  rcases Int.lt_trichotomy n 0 with h | h | h
  · have HS := Lib.hid (show -1 = sg n from by unfold sg; rw [if_neg (by omega), if_pos h])
    (go_enter Try.func45, Try.ntmps45)
    go_wp2
    go_ret
    exact ⟨ret_int HS.out, rfl⟩
  · have HS := Lib.hid (show 0 = sg n from by unfold sg; rw [if_neg (by omega), if_neg (by omega)])
    subst h
    (go_enter Try.func45, Try.ntmps45)
    go_wp2
    go_ret
    exact ⟨ret_int HS.out, rfl⟩
  · have HS := Lib.hid (show 1 = sg n from by unfold sg; rw [if_pos h])
    (go_enter Try.func45, Try.ntmps45)
    go_wp2
    go_ret
    exact ⟨ret_int HS.out, rfl⟩

set_option maxHeartbeats 400000 in
theorem diCompare_any (an ad bn bd : Int) (ga : 1 ≤ ad ∧ ad ≤ 1000000 ∧ 0 ≤ an ∧ an ≤ 999999) (gb : 1 ≤ bd ∧ bd ≤ 1000000 ∧ 0 ≤ bn ∧ bn ≤ 999999) (w : World) :
    Calls Try.prog 32 #[tv an ad, tv bn bd] w fun e w' => e = .returned (.int .i64 (sg (an * bd - bn * ad))) ∧ Below w.heap.size w w' := by
  obtain ⟨a1, a2, a3, a4⟩ := ga
  obtain ⟨b1, b2, b3, b4⟩ := gb
  obtain ⟨p1, p2⟩ := mulb a3 a4 (show 0 ≤ bd by omega) b2
  obtain ⟨p3, p4⟩ := mulb b3 b4 (show 0 ≤ ad by omega) a2
  obtain ⟨p5, p6⟩ := mulb (show 0 ≤ ad by omega) a2 (show 0 ≤ bd by omega) b2
  have p7 : 1 ≤ ad * bd := Int.mul_pos (by omega) (by omega)
  (go_enter Try.func32, Try.ntmps32)
  go_wp2_with fail
  refine (l1Sign_any (an * bd - bn * ad) _).mono ?_
  (rintro e1 w1 ⟨rfl, rfl⟩)
  go_wp2
  go_ret
  exact ⟨rfl, by (repeat' (first | (with_reducible exact Below.refl _ _) | (with_reducible assumption) | (with_reducible refine Below.alloc ?_ ?_ _) | (with_reducible refine Below.drew ?_) | (with_reducible refine below_drewN ?_ _) | (with_reducible refine Below.setCell ?_ ?_ _) | (with_reducible refine below_call ?_ ?_ (by assumption)) | go_size))⟩

set_option maxHeartbeats 400000 in
theorem turnOrder_any (an ad bn bd : Int) (ga : 1 ≤ ad ∧ ad ≤ 1000000 ∧ 0 ≤ an ∧ an ≤ 999999) (gb : 1 ≤ bd ∧ bd ≤ 1000000 ∧ 0 ≤ bn ∧ bn ≤ 999999) (w : World) :
    Calls Try.prog 31 #[tv an ad, tv bn bd] w fun e w' => e = .returned (.int .i64 (sg (an * bd - bn * ad))) ∧ Below w.heap.size w w' := by
  obtain ⟨a1, a2, a3, a4⟩ := ga
  obtain ⟨b1, b2, b3, b4⟩ := gb
  obtain ⟨p1, p2⟩ := mulb a3 a4 (show 0 ≤ bd by omega) b2
  obtain ⟨p3, p4⟩ := mulb b3 b4 (show 0 ≤ ad by omega) a2
  obtain ⟨p5, p6⟩ := mulb (show 0 ≤ ad by omega) a2 (show 0 ≤ bd by omega) b2
  have p7 : 1 ≤ ad * bd := Int.mul_pos (by omega) (by omega)
  (go_enter Try.func31, Try.ntmps31)
  go_wp2_with fail
  refine (cmpCompare_any (an * bd) (bn * ad) _).mono ?_
  (rintro e1 w1 ⟨rfl, rfl⟩)
  go_wp2
  go_ret
  exact ⟨rfl, by (repeat' (first | (with_reducible exact Below.refl _ _) | (with_reducible assumption) | (with_reducible refine Below.alloc ?_ ?_ _) | (with_reducible refine Below.drew ?_) | (with_reducible refine below_drewN ?_ _) | (with_reducible refine Below.setCell ?_ ?_ _) | (with_reducible refine below_call ?_ ?_ (by assumption)) | go_size))⟩

set_option maxHeartbeats 400000 in
theorem implCompareTurns_any (an ad bn bd : Int) (w : World) :
    Calls Try.prog 11 #[tv an ad, tv bn bd] w fun e w' => e = .returned (iv (cmpT an ad bn bd)) ∧ Below w.heap.size w w' := by
  cases ga : goodB an ad
  · have HM := Lib.hid (show fail2 = cmpT an ad bn bd from by simp [cmpT, ga])
    (go_enter Try.func11, Try.ntmps11)
    go_wp2_with fail
    refine (isTurn_is _ _ ga _).mono ?_
    (rintro e1 w1 ⟨rfl, hb1⟩; obtain ⟨hc1, hf1⟩ := bcell hb1; have hz1 := hb1.size; (try simp only [World.size_alloc, World.size_setCell, World.size_drew] at hz1); have q1 : w.heap.size ≤ w1.heap.size := (by omega); (try have q1_0 : w.heap.size < w1.heap.size := (by omega)); (try have q1_1 : w.heap.size + 1 < w1.heap.size := (by omega)); (try have q1_2 : w.heap.size + 2 < w1.heap.size := (by omega)); (try have q1_3 : w.heap.size + 3 < w1.heap.size := (by omega)))
    go_wp2
    go_ret2
    exact ⟨ret_iv HM.out, by (repeat' (first | (with_reducible exact Below.refl _ _) | (with_reducible assumption) | (with_reducible refine Below.alloc ?_ ?_ _) | (with_reducible refine Below.drew ?_) | (with_reducible refine below_drewN ?_ _) | (with_reducible refine Below.setCell ?_ ?_ _) | (with_reducible refine below_call ?_ ?_ (by assumption)) | go_size))⟩
  · cases gb : goodB bn bd
    · have HM := Lib.hid (show fail2 = cmpT an ad bn bd from by simp [cmpT, ga, gb])
      (go_enter Try.func11, Try.ntmps11)
      go_wp2_with fail
      refine (isTurn_is _ _ ga _).mono ?_
      (rintro e1 w1 ⟨rfl, hb1⟩; obtain ⟨hc1, hf1⟩ := bcell hb1; have hz1 := hb1.size; (try simp only [World.size_alloc, World.size_setCell, World.size_drew] at hz1); have q1 : w.heap.size ≤ w1.heap.size := (by omega); (try have q1_0 : w.heap.size < w1.heap.size := (by omega)); (try have q1_1 : w.heap.size + 1 < w1.heap.size := (by omega)); (try have q1_2 : w.heap.size + 2 < w1.heap.size := (by omega)); (try have q1_3 : w.heap.size + 3 < w1.heap.size := (by omega)))
      go_wp2_with fail
      refine (isTurn_is _ _ gb _).mono ?_
      (rintro e2 w2 ⟨rfl, hb2⟩; obtain ⟨hc2, hf2⟩ := bcell hb2; have hz2 := hb2.size; (try simp only [World.size_alloc, World.size_setCell, World.size_drew] at hz2); have q2 : w.heap.size ≤ w2.heap.size := (by omega); (try have q2_0 : w.heap.size < w2.heap.size := (by omega)); (try have q2_1 : w.heap.size + 1 < w2.heap.size := (by omega)); (try have q2_2 : w.heap.size + 2 < w2.heap.size := (by omega)); (try have q2_3 : w.heap.size + 3 < w2.heap.size := (by omega)); (try have q2_1_0 : w1.heap.size < w2.heap.size := (by omega)); (try have q2_1_1 : w1.heap.size + 1 < w2.heap.size := (by omega)))
      go_wp2
      go_ret2
      exact ⟨ret_iv HM.out, by (repeat' (first | (with_reducible exact Below.refl _ _) | (with_reducible assumption) | (with_reducible refine Below.alloc ?_ ?_ _) | (with_reducible refine Below.drew ?_) | (with_reducible refine below_drewN ?_ _) | (with_reducible refine Below.setCell ?_ ?_ _) | (with_reducible refine below_call ?_ ?_ (by assumption)) | go_size))⟩
    · obtain ⟨a1, a2, a3, a4⟩ := goodB_bd ga
      obtain ⟨b1, b2, b3, b4⟩ := goodB_bd gb
      obtain ⟨p1, p2⟩ := mulb a3 a4 (show 0 ≤ bd by omega) b2
      obtain ⟨p3, p4⟩ := mulb b3 b4 (show 0 ≤ ad by omega) a2
      obtain ⟨p5, p6⟩ := mulb (show 0 ≤ ad by omega) a2 (show 0 ≤ bd by omega) b2
      have p7 : 1 ≤ ad * bd := Int.mul_pos (by omega) (by omega)
      have HM := Lib.hid (show (sg (an * bd - bn * ad), true) = cmpT an ad bn bd from by simp [cmpT, ga, gb])
      (go_enter Try.func11, Try.ntmps11)
      go_wp2_with fail
      refine (isTurn_is _ _ ga _).mono ?_
      (rintro e1 w1 ⟨rfl, hb1⟩; obtain ⟨hc1, hf1⟩ := bcell hb1; have hz1 := hb1.size; (try simp only [World.size_alloc, World.size_setCell, World.size_drew] at hz1); have q1 : w.heap.size ≤ w1.heap.size := (by omega); (try have q1_0 : w.heap.size < w1.heap.size := (by omega)); (try have q1_1 : w.heap.size + 1 < w1.heap.size := (by omega)); (try have q1_2 : w.heap.size + 2 < w1.heap.size := (by omega)); (try have q1_3 : w.heap.size + 3 < w1.heap.size := (by omega)))
      go_wp2_with fail
      refine (isTurn_is _ _ gb _).mono ?_
      (rintro e2 w2 ⟨rfl, hb2⟩; obtain ⟨hc2, hf2⟩ := bcell hb2; have hz2 := hb2.size; (try simp only [World.size_alloc, World.size_setCell, World.size_drew] at hz2); have q2 : w.heap.size ≤ w2.heap.size := (by omega); (try have q2_0 : w.heap.size < w2.heap.size := (by omega)); (try have q2_1 : w.heap.size + 1 < w2.heap.size := (by omega)); (try have q2_2 : w.heap.size + 2 < w2.heap.size := (by omega)); (try have q2_3 : w.heap.size + 3 < w2.heap.size := (by omega)); (try have q2_1_0 : w1.heap.size < w2.heap.size := (by omega)); (try have q2_1_1 : w1.heap.size + 1 < w2.heap.size := (by omega)))
      go_wp2_with fail
      refine (turnOrder_any an ad bn bd (goodB_bd ga) (goodB_bd gb) _).mono ?_
      (rintro e3 w3 ⟨rfl, hb3⟩; obtain ⟨hc3, hf3⟩ := bcell hb3; have hz3 := hb3.size; (try simp only [World.size_alloc, World.size_setCell, World.size_drew] at hz3); have q3 : w.heap.size ≤ w3.heap.size := (by omega); (try have q3_0 : w.heap.size < w3.heap.size := (by omega)); (try have q3_1 : w.heap.size + 1 < w3.heap.size := (by omega)); (try have q3_2 : w.heap.size + 2 < w3.heap.size := (by omega)); (try have q3_3 : w.heap.size + 3 < w3.heap.size := (by omega)); (try have q3_1_0 : w1.heap.size < w3.heap.size := (by omega)); (try have q3_1_1 : w1.heap.size + 1 < w3.heap.size := (by omega)); (try have q3_2_0 : w2.heap.size < w3.heap.size := (by omega)); (try have q3_2_1 : w2.heap.size + 1 < w3.heap.size := (by omega)))
      go_wp2
      go_ret2
      exact ⟨ret_iv HM.out, by (repeat' (first | (with_reducible exact Below.refl _ _) | (with_reducible assumption) | (with_reducible refine Below.alloc ?_ ?_ _) | (with_reducible refine Below.drew ?_) | (with_reducible refine below_drewN ?_ _) | (with_reducible refine Below.setCell ?_ ?_ _) | (with_reducible refine below_call ?_ ?_ (by assumption)) | go_size))⟩

set_option maxHeartbeats 400000 in
theorem specCompareTurns_any (an ad bn bd : Int) (kad : -9223372036854775808 ≤ ad ∧ ad ≤ 9223372036854775807) (kbd : -9223372036854775808 ≤ bd ∧ bd ≤ 9223372036854775807) (w : World) :
    Calls Try.prog 12 #[tv an ad, tv bn bd] w fun e w' => e = .returned (iv (cmpT an ad bn bd)) ∧ Below w.heap.size w w' := by
  cases ga : goodB an ad
  · have HM := Lib.hid (show fail2 = cmpT an ad bn bd from by simp [cmpT, ga])
    (go_enter Try.func12, Try.ntmps12)
    go_wp2_with fail
    refine (diGood_is _ _ ga kad _).mono ?_
    (rintro e1 w1 ⟨rfl, hb1⟩; obtain ⟨hc1, hf1⟩ := bcell hb1; have hz1 := hb1.size; (try simp only [World.size_alloc, World.size_setCell, World.size_drew] at hz1); have q1 : w.heap.size ≤ w1.heap.size := (by omega); (try have q1_0 : w.heap.size < w1.heap.size := (by omega)); (try have q1_1 : w.heap.size + 1 < w1.heap.size := (by omega)); (try have q1_2 : w.heap.size + 2 < w1.heap.size := (by omega)); (try have q1_3 : w.heap.size + 3 < w1.heap.size := (by omega)))
    go_wp2
    go_ret2
    exact ⟨ret_iv HM.out, by (repeat' (first | (with_reducible exact Below.refl _ _) | (with_reducible assumption) | (with_reducible refine Below.alloc ?_ ?_ _) | (with_reducible refine Below.drew ?_) | (with_reducible refine below_drewN ?_ _) | (with_reducible refine Below.setCell ?_ ?_ _) | (with_reducible refine below_call ?_ ?_ (by assumption)) | go_size))⟩
  · cases gb : goodB bn bd
    · have HM := Lib.hid (show fail2 = cmpT an ad bn bd from by simp [cmpT, ga, gb])
      (go_enter Try.func12, Try.ntmps12)
      go_wp2_with fail
      refine (diGood_is _ _ ga kad _).mono ?_
      (rintro e1 w1 ⟨rfl, hb1⟩; obtain ⟨hc1, hf1⟩ := bcell hb1; have hz1 := hb1.size; (try simp only [World.size_alloc, World.size_setCell, World.size_drew] at hz1); have q1 : w.heap.size ≤ w1.heap.size := (by omega); (try have q1_0 : w.heap.size < w1.heap.size := (by omega)); (try have q1_1 : w.heap.size + 1 < w1.heap.size := (by omega)); (try have q1_2 : w.heap.size + 2 < w1.heap.size := (by omega)); (try have q1_3 : w.heap.size + 3 < w1.heap.size := (by omega)))
      go_wp2_with fail
      refine (diGood_is _ _ gb kbd _).mono ?_
      (rintro e2 w2 ⟨rfl, hb2⟩; obtain ⟨hc2, hf2⟩ := bcell hb2; have hz2 := hb2.size; (try simp only [World.size_alloc, World.size_setCell, World.size_drew] at hz2); have q2 : w.heap.size ≤ w2.heap.size := (by omega); (try have q2_0 : w.heap.size < w2.heap.size := (by omega)); (try have q2_1 : w.heap.size + 1 < w2.heap.size := (by omega)); (try have q2_2 : w.heap.size + 2 < w2.heap.size := (by omega)); (try have q2_3 : w.heap.size + 3 < w2.heap.size := (by omega)); (try have q2_1_0 : w1.heap.size < w2.heap.size := (by omega)); (try have q2_1_1 : w1.heap.size + 1 < w2.heap.size := (by omega)))
      go_wp2
      go_ret2
      exact ⟨ret_iv HM.out, by (repeat' (first | (with_reducible exact Below.refl _ _) | (with_reducible assumption) | (with_reducible refine Below.alloc ?_ ?_ _) | (with_reducible refine Below.drew ?_) | (with_reducible refine below_drewN ?_ _) | (with_reducible refine Below.setCell ?_ ?_ _) | (with_reducible refine below_call ?_ ?_ (by assumption)) | go_size))⟩
    · have HM := Lib.hid (show (sg (an * bd - bn * ad), true) = cmpT an ad bn bd from by simp [cmpT, ga, gb])
      (go_enter Try.func12, Try.ntmps12)
      go_wp2_with fail
      refine (diGood_is _ _ ga kad _).mono ?_
      (rintro e1 w1 ⟨rfl, hb1⟩; obtain ⟨hc1, hf1⟩ := bcell hb1; have hz1 := hb1.size; (try simp only [World.size_alloc, World.size_setCell, World.size_drew] at hz1); have q1 : w.heap.size ≤ w1.heap.size := (by omega); (try have q1_0 : w.heap.size < w1.heap.size := (by omega)); (try have q1_1 : w.heap.size + 1 < w1.heap.size := (by omega)); (try have q1_2 : w.heap.size + 2 < w1.heap.size := (by omega)); (try have q1_3 : w.heap.size + 3 < w1.heap.size := (by omega)))
      go_wp2_with fail
      refine (diGood_is _ _ gb kbd _).mono ?_
      (rintro e2 w2 ⟨rfl, hb2⟩; obtain ⟨hc2, hf2⟩ := bcell hb2; have hz2 := hb2.size; (try simp only [World.size_alloc, World.size_setCell, World.size_drew] at hz2); have q2 : w.heap.size ≤ w2.heap.size := (by omega); (try have q2_0 : w.heap.size < w2.heap.size := (by omega)); (try have q2_1 : w.heap.size + 1 < w2.heap.size := (by omega)); (try have q2_2 : w.heap.size + 2 < w2.heap.size := (by omega)); (try have q2_3 : w.heap.size + 3 < w2.heap.size := (by omega)); (try have q2_1_0 : w1.heap.size < w2.heap.size := (by omega)); (try have q2_1_1 : w1.heap.size + 1 < w2.heap.size := (by omega)))
      go_wp2_with fail
      refine (diCompare_any an ad bn bd (goodB_bd ga) (goodB_bd gb) _).mono ?_
      (rintro e3 w3 ⟨rfl, hb3⟩; obtain ⟨hc3, hf3⟩ := bcell hb3; have hz3 := hb3.size; (try simp only [World.size_alloc, World.size_setCell, World.size_drew] at hz3); have q3 : w.heap.size ≤ w3.heap.size := (by omega); (try have q3_0 : w.heap.size < w3.heap.size := (by omega)); (try have q3_1 : w.heap.size + 1 < w3.heap.size := (by omega)); (try have q3_2 : w.heap.size + 2 < w3.heap.size := (by omega)); (try have q3_3 : w.heap.size + 3 < w3.heap.size := (by omega)); (try have q3_1_0 : w1.heap.size < w3.heap.size := (by omega)); (try have q3_1_1 : w1.heap.size + 1 < w3.heap.size := (by omega)); (try have q3_2_0 : w2.heap.size < w3.heap.size := (by omega)); (try have q3_2_1 : w2.heap.size + 1 < w3.heap.size := (by omega)))
      go_wp2
      go_ret2
      exact ⟨ret_iv HM.out, by (repeat' (first | (with_reducible exact Below.refl _ _) | (with_reducible assumption) | (with_reducible refine Below.alloc ?_ ?_ _) | (with_reducible refine Below.drew ?_) | (with_reducible refine below_drewN ?_ _) | (with_reducible refine Below.setCell ?_ ?_ _) | (with_reducible refine below_call ?_ ?_ (by assumption)) | go_size))⟩

def mirrorT (n d : Int) : Int × Int × Bool := if goodB n d then (lowNum (-n) d, lowDen (-n) d, true) else fail3
theorem mirrorT_eq (n d : Int) : mirrorT n d = timesT n d (-1) := by simp [mirrorT, timesT, inB]

set_option maxHeartbeats 400000 in
theorem implMirrorTurn_any (n d : Int) (w : World) :
    Calls Try.prog 13 #[tv n d] w fun e w' => e = .returned (rv (mirrorT n d)) ∧ Below w.heap.size w w' := by
  rw [mirrorT_eq]
  (go_enter Try.func13, Try.ntmps13)
  go_wp2_with fail
  refine (implTimesTurn_any n d (-1) _).mono ?_
  (rintro e1 w1 ⟨rfl, hb1⟩; obtain ⟨hc1, hf1⟩ := bcell hb1; have hz1 := hb1.size; (try simp only [World.size_alloc, World.size_setCell, World.size_drew] at hz1); have q1 : w.heap.size ≤ w1.heap.size := (by omega); (try have q1_0 : w.heap.size < w1.heap.size := (by omega)); (try have q1_1 : w.heap.size + 1 < w1.heap.size := (by omega)); (try have q1_2 : w.heap.size + 2 < w1.heap.size := (by omega)); (try have q1_3 : w.heap.size + 3 < w1.heap.size := (by omega)))
  go_wp2
  (refine bodyPost_ret (by simp [results, Try.results13, go_sem, *]; try rfl) rfl ?_)
  exact ⟨rfl, by (repeat' (first | (with_reducible exact Below.refl _ _) | (with_reducible assumption) | (with_reducible refine Below.alloc ?_ ?_ _) | (with_reducible refine Below.drew ?_) | (with_reducible refine below_drewN ?_ _) | (with_reducible refine Below.setCell ?_ ?_ _) | (with_reducible refine below_call ?_ ?_ (by assumption)) | go_size))⟩

set_option maxHeartbeats 400000 in
theorem diMirror_any (n d : Int) (ga : 1 ≤ d ∧ d ≤ 1000000 ∧ 0 ≤ n ∧ n ≤ 999999) (w : World) :
    Calls Try.prog 33 #[tv n d] w fun e w' => e = .returned (tv (lowNum (-n) d) (lowDen (-n) d)) ∧ Below w.heap.size w w' := by
  obtain ⟨a1, a2, a3, a4⟩ := ga
  (go_enter Try.func33, Try.ntmps33)
  go_wp2_with fail
  refine (diTimes_any n d (-1) (by omega) (by omega) (by omega) (by omega) _).mono ?_
  (rintro e1 w1 ⟨rfl, hb1⟩; obtain ⟨hc1, hf1⟩ := bcell hb1; have hz1 := hb1.size; (try simp only [World.size_alloc, World.size_setCell, World.size_drew] at hz1); have q1 : w.heap.size ≤ w1.heap.size := (by omega); (try have q1_0 : w.heap.size < w1.heap.size := (by omega)); (try have q1_1 : w.heap.size + 1 < w1.heap.size := (by omega)); (try have q1_2 : w.heap.size + 2 < w1.heap.size := (by omega)); (try have q1_3 : w.heap.size + 3 < w1.heap.size := (by omega)))
  go_wp2
  (refine bodyPost_ret (by simp [results, Try.results33, go_sem, *]; try rfl) rfl ?_)
  exact ⟨rfl, by (repeat' (first | (with_reducible exact Below.refl _ _) | (with_reducible assumption) | (with_reducible refine Below.alloc ?_ ?_ _) | (with_reducible refine Below.drew ?_) | (with_reducible refine below_drewN ?_ _) | (with_reducible refine Below.setCell ?_ ?_ _) | (with_reducible refine below_call ?_ ?_ (by assumption)) | go_size))⟩

set_option maxHeartbeats 400000 in
theorem specMirrorTurn_any (n d : Int) (kd : -9223372036854775808 ≤ d ∧ d ≤ 9223372036854775807) (w : World) :
    Calls Try.prog 14 #[tv n d] w fun e w' => e = .returned (rv (mirrorT n d)) ∧ Below w.heap.size w w' := by
  cases ga : goodB n d
  · have HM := Lib.hid (show fail3 = mirrorT n d from by simp [mirrorT, ga])
    (go_enter Try.func14, Try.ntmps14)
    go_wp2_with fail
    refine (diGood_is _ _ ga kd _).mono ?_
    (rintro e1 w1 ⟨rfl, hb1⟩; obtain ⟨hc1, hf1⟩ := bcell hb1; have hz1 := hb1.size; (try simp only [World.size_alloc, World.size_setCell, World.size_drew] at hz1); have q1 : w.heap.size ≤ w1.heap.size := (by omega); (try have q1_0 : w.heap.size < w1.heap.size := (by omega)); (try have q1_1 : w.heap.size + 1 < w1.heap.size := (by omega)); (try have q1_2 : w.heap.size + 2 < w1.heap.size := (by omega)); (try have q1_3 : w.heap.size + 3 < w1.heap.size := (by omega)))
    go_wp2
    (refine bodyPost_ret (by simp [results, Try.results14, go_sem, *]; try rfl) rfl ?_)
    exact ⟨ret_rv HM.out, by (repeat' (first | (with_reducible exact Below.refl _ _) | (with_reducible assumption) | (with_reducible refine Below.alloc ?_ ?_ _) | (with_reducible refine Below.drew ?_) | (with_reducible refine below_drewN ?_ _) | (with_reducible refine Below.setCell ?_ ?_ _) | (with_reducible refine below_call ?_ ?_ (by assumption)) | go_size))⟩
  · have HM := Lib.hid (show (lowNum (-n) d, lowDen (-n) d, true) = mirrorT n d from by simp [mirrorT, ga])
    (go_enter Try.func14, Try.ntmps14)
    go_wp2_with fail
    refine (diGood_is _ _ ga kd _).mono ?_
    (rintro e1 w1 ⟨rfl, hb1⟩; obtain ⟨hc1, hf1⟩ := bcell hb1; have hz1 := hb1.size; (try simp only [World.size_alloc, World.size_setCell, World.size_drew] at hz1); have q1 : w.heap.size ≤ w1.heap.size := (by omega); (try have q1_0 : w.heap.size < w1.heap.size := (by omega)); (try have q1_1 : w.heap.size + 1 < w1.heap.size := (by omega)); (try have q1_2 : w.heap.size + 2 < w1.heap.size := (by omega)); (try have q1_3 : w.heap.size + 3 < w1.heap.size := (by omega)))
    go_wp2_with fail
    refine (diMirror_any n d (goodB_bd ga) _).mono ?_
    (rintro e2 w2 ⟨rfl, hb2⟩; obtain ⟨hc2, hf2⟩ := bcell hb2; have hz2 := hb2.size; (try simp only [World.size_alloc, World.size_setCell, World.size_drew] at hz2); have q2 : w.heap.size ≤ w2.heap.size := (by omega); (try have q2_0 : w.heap.size < w2.heap.size := (by omega)); (try have q2_1 : w.heap.size + 1 < w2.heap.size := (by omega)); (try have q2_2 : w.heap.size + 2 < w2.heap.size := (by omega)); (try have q2_3 : w.heap.size + 3 < w2.heap.size := (by omega)); (try have q2_1_0 : w1.heap.size < w2.heap.size := (by omega)); (try have q2_1_1 : w1.heap.size + 1 < w2.heap.size := (by omega)))
    go_wp2
    (refine bodyPost_ret (by simp [results, Try.results14, go_sem, *]; try rfl) rfl ?_)
    exact ⟨ret_rv HM.out, by (repeat' (first | (with_reducible exact Below.refl _ _) | (with_reducible assumption) | (with_reducible refine Below.alloc ?_ ?_ _) | (with_reducible refine Below.drew ?_) | (with_reducible refine below_drewN ?_ _) | (with_reducible refine Below.setCell ?_ ?_ _) | (with_reducible refine below_call ?_ ?_ (by assumption)) | go_size))⟩

set_option maxHeartbeats 400000 in
theorem specIsTurn_any (n d : Int) (kd : -9223372036854775808 ≤ d ∧ d ≤ 9223372036854775807) (w : World) :
    Calls Try.prog 16 #[tv n d] w fun e w' => e = .returned (.bool (goodB n d)) ∧ Below w.heap.size w w' := by
  (go_enter Try.func16, Try.ntmps16)
  go_wp2_with fail
  refine (diGood_any n d _ kd.1 kd.2).mono ?_
  (rintro e1 w1 ⟨rfl, hb1⟩; obtain ⟨hc1, hf1⟩ := bcell hb1; have hz1 := hb1.size; (try simp only [World.size_alloc, World.size_setCell, World.size_drew] at hz1); have q1 : w.heap.size ≤ w1.heap.size := (by omega); (try have q1_0 : w.heap.size < w1.heap.size := (by omega)); (try have q1_1 : w.heap.size + 1 < w1.heap.size := (by omega)); (try have q1_2 : w.heap.size + 2 < w1.heap.size := (by omega)); (try have q1_3 : w.heap.size + 3 < w1.heap.size := (by omega)))
  go_wp2
  go_ret
  exact ⟨rfl, by (repeat' (first | (with_reducible exact Below.refl _ _) | (with_reducible assumption) | (with_reducible refine Below.alloc ?_ ?_ _) | (with_reducible refine Below.drew ?_) | (with_reducible refine below_drewN ?_ _) | (with_reducible refine Below.setCell ?_ ?_ _) | (with_reducible refine below_call ?_ ?_ (by assumption)) | go_size))⟩

end Go.Proofs.Ytjdjomoeeecdkaa
