/- Clocks: which are, their rates, what is a product: by the program and by the model. -/
import Derived.Test.YtfddlmnfkmiomaaDrM
set_option linter.unusedSimpArgs false
set_option linter.unusedVariables false
set_option maxRecDepth 100000
namespace Go.Proofs.Ytfddlmnfkmiomaa
open Go.RowKit

set_option maxHeartbeats 800000 in
theorem isClock_any (n d a b : Int) (w : World) :
    Calls Try.prog 18 #[cv n d a b] w fun e w' => e = .returned (.bool (clockB n d a b)) ∧ Below w.heap.size w w' := by
  cases ga : goodB n d
  · have HM := Lib.hid (show false = clockB n d a b from by simp [clockB, ga])
    (go_enter Try.func18, Try.ntmps18)
    go_wp2_with fail
    refine (isTurn_is _ _ ga _).mono ?_
    (rintro e1 w1 ⟨rfl, hb1⟩; obtain ⟨hc1, hf1⟩ := bcell hb1; have hz1 := hb1.size; (try simp only [World.size_alloc, World.size_setCell, World.size_drew] at hz1); have q1 : w.heap.size ≤ w1.heap.size := (by omega); (try have q1_0 : w.heap.size < w1.heap.size := (by omega)); (try have q1_1 : w.heap.size + 1 < w1.heap.size := (by omega)); (try have q1_2 : w.heap.size + 2 < w1.heap.size := (by omega)); (try have q1_3 : w.heap.size + 3 < w1.heap.size := (by omega)))
    go_wp2
    go_ret
    exact ⟨ret_bool HM.out, by (repeat' (first | (with_reducible exact Below.refl _ _) | (with_reducible assumption) | (with_reducible refine Below.alloc ?_ ?_ _) | (with_reducible refine Below.drew ?_) | (with_reducible refine below_drewN ?_ _) | (with_reducible refine Below.setCell ?_ ?_ _) | (with_reducible refine below_call ?_ ?_ (by assumption)) | go_size))⟩
  · by_cases hd : d ≤ 1000
    · cases gb : inB a 1 1000
      · have HM := Lib.hid (show false = clockB n d a b from by simp [clockB, ga, hd, gb])
        (go_enter Try.func18, Try.ntmps18)
        go_wp2_with fail
        refine (isTurn_is _ _ ga _).mono ?_
        (rintro e1 w1 ⟨rfl, hb1⟩; obtain ⟨hc1, hf1⟩ := bcell hb1; have hz1 := hb1.size; (try simp only [World.size_alloc, World.size_setCell, World.size_drew] at hz1); have q1 : w.heap.size ≤ w1.heap.size := (by omega); (try have q1_0 : w.heap.size < w1.heap.size := (by omega)); (try have q1_1 : w.heap.size + 1 < w1.heap.size := (by omega)); (try have q1_2 : w.heap.size + 2 < w1.heap.size := (by omega)); (try have q1_3 : w.heap.size + 3 < w1.heap.size := (by omega)))
        go_wp2_with fail
        refine (isWithin_is _ _ _ gb _).mono ?_
        (rintro e1 w1 ⟨rfl, rfl⟩)
        go_wp2
        go_ret
        exact ⟨ret_bool HM.out, by (repeat' (first | (with_reducible exact Below.refl _ _) | (with_reducible assumption) | (with_reducible refine Below.alloc ?_ ?_ _) | (with_reducible refine Below.drew ?_) | (with_reducible refine below_drewN ?_ _) | (with_reducible refine Below.setCell ?_ ?_ _) | (with_reducible refine below_call ?_ ?_ (by assumption)) | go_size))⟩
      · cases gq : inB b 1 1000
        · have HM := Lib.hid (show false = clockB n d a b from by simp [clockB, ga, hd, gb, gq])
          (go_enter Try.func18, Try.ntmps18)
          go_wp2_with fail
          refine (isTurn_is _ _ ga _).mono ?_
          (rintro e1 w1 ⟨rfl, hb1⟩; obtain ⟨hc1, hf1⟩ := bcell hb1; have hz1 := hb1.size; (try simp only [World.size_alloc, World.size_setCell, World.size_drew] at hz1); have q1 : w.heap.size ≤ w1.heap.size := (by omega); (try have q1_0 : w.heap.size < w1.heap.size := (by omega)); (try have q1_1 : w.heap.size + 1 < w1.heap.size := (by omega)); (try have q1_2 : w.heap.size + 2 < w1.heap.size := (by omega)); (try have q1_3 : w.heap.size + 3 < w1.heap.size := (by omega)))
          go_wp2_with fail
          refine (isWithin_is _ _ _ gb _).mono ?_
          (rintro e1 w1 ⟨rfl, rfl⟩)
          go_wp2_with fail
          refine (isWithin_is _ _ _ gq _).mono ?_
          (rintro e1 w1 ⟨rfl, rfl⟩)
          go_wp2
          go_ret
          exact ⟨ret_bool HM.out, by (repeat' (first | (with_reducible exact Below.refl _ _) | (with_reducible assumption) | (with_reducible refine Below.alloc ?_ ?_ _) | (with_reducible refine Below.drew ?_) | (with_reducible refine below_drewN ?_ _) | (with_reducible refine Below.setCell ?_ ?_ _) | (with_reducible refine below_call ?_ ?_ (by assumption)) | go_size))⟩
        · obtain ⟨x1, x2⟩ := inB_bd gb
          obtain ⟨y1, y2⟩ := inB_bd gq
          have HM := Lib.hid (show (gc a b == 1) = clockB n d a b from by simp [clockB, ga, hd, gb, gq])
          (go_enter Try.func18, Try.ntmps18)
          go_wp2_with fail
          refine (isTurn_is _ _ ga _).mono ?_
          (rintro e1 w1 ⟨rfl, hb1⟩; obtain ⟨hc1, hf1⟩ := bcell hb1; have hz1 := hb1.size; (try simp only [World.size_alloc, World.size_setCell, World.size_drew] at hz1); have q1 : w.heap.size ≤ w1.heap.size := (by omega); (try have q1_0 : w.heap.size < w1.heap.size := (by omega)); (try have q1_1 : w.heap.size + 1 < w1.heap.size := (by omega)); (try have q1_2 : w.heap.size + 2 < w1.heap.size := (by omega)); (try have q1_3 : w.heap.size + 3 < w1.heap.size := (by omega)))
          go_wp2_with fail
          refine (isWithin_is _ _ _ gb _).mono ?_
          (rintro e1 w1 ⟨rfl, rfl⟩)
          go_wp2_with fail
          refine (isWithin_is _ _ _ gq _).mono ?_
          (rintro e1 w1 ⟨rfl, rfl⟩)
          go_wp2_with fail
          refine (commonDivisor_any a b (by omega) (by omega) _).mono ?_
          (rintro e2 w2 ⟨rfl, hb2⟩; obtain ⟨hc2, hf2⟩ := bcell hb2; have hz2 := hb2.size; (try simp only [World.size_alloc, World.size_setCell, World.size_drew] at hz2); have q2 : w.heap.size ≤ w2.heap.size := (by omega); (try have q2_0 : w.heap.size < w2.heap.size := (by omega)); (try have q2_1 : w.heap.size + 1 < w2.heap.size := (by omega)); (try have q2_2 : w.heap.size + 2 < w2.heap.size := (by omega)); (try have q2_3 : w.heap.size + 3 < w2.heap.size := (by omega)); (try have q2_1_0 : w1.heap.size < w2.heap.size := (by omega)); (try have q2_1_1 : w1.heap.size + 1 < w2.heap.size := (by omega)))
          go_wp2
          go_ret
          exact ⟨ret_bool HM.out, by (repeat' (first | (with_reducible exact Below.refl _ _) | (with_reducible assumption) | (with_reducible refine Below.alloc ?_ ?_ _) | (with_reducible refine Below.drew ?_) | (with_reducible refine below_drewN ?_ _) | (with_reducible refine Below.setCell ?_ ?_ _) | (with_reducible refine below_call ?_ ?_ (by assumption)) | go_size))⟩
    · have HM := Lib.hid (show false = clockB n d a b from by simp [clockB, ga, hd])
      (go_enter Try.func18, Try.ntmps18)
      go_wp2_with fail
      refine (isTurn_is _ _ ga _).mono ?_
      (rintro e1 w1 ⟨rfl, hb1⟩; obtain ⟨hc1, hf1⟩ := bcell hb1; have hz1 := hb1.size; (try simp only [World.size_alloc, World.size_setCell, World.size_drew] at hz1); have q1 : w.heap.size ≤ w1.heap.size := (by omega); (try have q1_0 : w.heap.size < w1.heap.size := (by omega)); (try have q1_1 : w.heap.size + 1 < w1.heap.size := (by omega)); (try have q1_2 : w.heap.size + 2 < w1.heap.size := (by omega)); (try have q1_3 : w.heap.size + 3 < w1.heap.size := (by omega)))
      go_wp2
      go_ret
      exact ⟨ret_bool HM.out, by (repeat' (first | (with_reducible exact Below.refl _ _) | (with_reducible assumption) | (with_reducible refine Below.alloc ?_ ?_ _) | (with_reducible refine Below.drew ?_) | (with_reducible refine below_drewN ?_ _) | (with_reducible refine Below.setCell ?_ ?_ _) | (with_reducible refine below_call ?_ ?_ (by assumption)) | go_size))⟩

theorem isClock_is {b0 : Bool} (n d a b : Int) (h : clockB n d a b = b0) (w : World) :
    Calls Try.prog 18 #[cv n d a b] w fun e w' => e = .returned (.bool b0) ∧ Below w.heap.size w w' := by
  subst h; exact isClock_any n d a b w

set_option maxHeartbeats 800000 in
theorem drClock_any (n d a b : Int) (kd : (-9223372036854775808 ≤ d ∧ d ≤ 9223372036854775807)) (w : World) :
    Calls Try.prog 20 #[cv n d a b] w fun e w' => e = .returned (.bool (clockB n d a b)) ∧ Below w.heap.size w w' := by
  cases ga : goodB n d
  · have HM := Lib.hid (show false = clockB n d a b from by simp [clockB, ga])
    (go_enter Try.func20, Try.ntmps20)
    go_wp2_with fail
    refine (diGood_is _ _ ga kd _).mono ?_
    (rintro e1 w1 ⟨rfl, hb1⟩; obtain ⟨hc1, hf1⟩ := bcell hb1; have hz1 := hb1.size; (try simp only [World.size_alloc, World.size_setCell, World.size_drew] at hz1); have q1 : w.heap.size ≤ w1.heap.size := (by omega); (try have q1_0 : w.heap.size < w1.heap.size := (by omega)); (try have q1_1 : w.heap.size + 1 < w1.heap.size := (by omega)); (try have q1_2 : w.heap.size + 2 < w1.heap.size := (by omega)); (try have q1_3 : w.heap.size + 3 < w1.heap.size := (by omega)))
    go_wp2
    go_ret
    exact ⟨ret_bool HM.out, by (repeat' (first | (with_reducible exact Below.refl _ _) | (with_reducible assumption) | (with_reducible refine Below.alloc ?_ ?_ _) | (with_reducible refine Below.drew ?_) | (with_reducible refine below_drewN ?_ _) | (with_reducible refine Below.setCell ?_ ?_ _) | (with_reducible refine below_call ?_ ?_ (by assumption)) | go_size))⟩
  · by_cases hd : d ≤ 1000
    · cases gb : inB a 1 1000
      · have HM := Lib.hid (show false = clockB n d a b from by simp [clockB, ga, hd, gb])
        (go_enter Try.func20, Try.ntmps20)
        go_wp2_with fail
        refine (diGood_is _ _ ga kd _).mono ?_
        (rintro e1 w1 ⟨rfl, hb1⟩; obtain ⟨hc1, hf1⟩ := bcell hb1; have hz1 := hb1.size; (try simp only [World.size_alloc, World.size_setCell, World.size_drew] at hz1); have q1 : w.heap.size ≤ w1.heap.size := (by omega); (try have q1_0 : w.heap.size < w1.heap.size := (by omega)); (try have q1_1 : w.heap.size + 1 < w1.heap.size := (by omega)); (try have q1_2 : w.heap.size + 2 < w1.heap.size := (by omega)); (try have q1_3 : w.heap.size + 3 < w1.heap.size := (by omega)))
        go_wp2_with fail
        refine (l1In_is _ _ _ gb _).mono ?_
        (rintro e1 w1 ⟨rfl, rfl⟩)
        go_wp2
        go_ret
        exact ⟨ret_bool HM.out, by (repeat' (first | (with_reducible exact Below.refl _ _) | (with_reducible assumption) | (with_reducible refine Below.alloc ?_ ?_ _) | (with_reducible refine Below.drew ?_) | (with_reducible refine below_drewN ?_ _) | (with_reducible refine Below.setCell ?_ ?_ _) | (with_reducible refine below_call ?_ ?_ (by assumption)) | go_size))⟩
      · cases gq : inB b 1 1000
        · have HM := Lib.hid (show false = clockB n d a b from by simp [clockB, ga, hd, gb, gq])
          (go_enter Try.func20, Try.ntmps20)
          go_wp2_with fail
          refine (diGood_is _ _ ga kd _).mono ?_
          (rintro e1 w1 ⟨rfl, hb1⟩; obtain ⟨hc1, hf1⟩ := bcell hb1; have hz1 := hb1.size; (try simp only [World.size_alloc, World.size_setCell, World.size_drew] at hz1); have q1 : w.heap.size ≤ w1.heap.size := (by omega); (try have q1_0 : w.heap.size < w1.heap.size := (by omega)); (try have q1_1 : w.heap.size + 1 < w1.heap.size := (by omega)); (try have q1_2 : w.heap.size + 2 < w1.heap.size := (by omega)); (try have q1_3 : w.heap.size + 3 < w1.heap.size := (by omega)))
          go_wp2_with fail
          refine (l1In_is _ _ _ gb _).mono ?_
          (rintro e1 w1 ⟨rfl, rfl⟩)
          go_wp2_with fail
          refine (l1In_is _ _ _ gq _).mono ?_
          (rintro e1 w1 ⟨rfl, rfl⟩)
          go_wp2
          go_ret
          exact ⟨ret_bool HM.out, by (repeat' (first | (with_reducible exact Below.refl _ _) | (with_reducible assumption) | (with_reducible refine Below.alloc ?_ ?_ _) | (with_reducible refine Below.drew ?_) | (with_reducible refine below_drewN ?_ _) | (with_reducible refine Below.setCell ?_ ?_ _) | (with_reducible refine below_call ?_ ?_ (by assumption)) | go_size))⟩
        · obtain ⟨x1, x2⟩ := inB_bd gb
          obtain ⟨y1, y2⟩ := inB_bd gq
          have HM := Lib.hid (show (gc a b == 1) = clockB n d a b from by simp [clockB, ga, hd, gb, gq])
          (go_enter Try.func20, Try.ntmps20)
          go_wp2_with fail
          refine (diGood_is _ _ ga kd _).mono ?_
          (rintro e1 w1 ⟨rfl, hb1⟩; obtain ⟨hc1, hf1⟩ := bcell hb1; have hz1 := hb1.size; (try simp only [World.size_alloc, World.size_setCell, World.size_drew] at hz1); have q1 : w.heap.size ≤ w1.heap.size := (by omega); (try have q1_0 : w.heap.size < w1.heap.size := (by omega)); (try have q1_1 : w.heap.size + 1 < w1.heap.size := (by omega)); (try have q1_2 : w.heap.size + 2 < w1.heap.size := (by omega)); (try have q1_3 : w.heap.size + 3 < w1.heap.size := (by omega)))
          go_wp2_with fail
          refine (l1In_is _ _ _ gb _).mono ?_
          (rintro e1 w1 ⟨rfl, rfl⟩)
          go_wp2_with fail
          refine (l1In_is _ _ _ gq _).mono ?_
          (rintro e1 w1 ⟨rfl, rfl⟩)
          go_wp2_with fail
          refine (diCommon_any a b (by omega) (by omega) _).mono ?_
          (rintro e2 w2 ⟨rfl, hb2⟩; obtain ⟨hc2, hf2⟩ := bcell hb2; have hz2 := hb2.size; (try simp only [World.size_alloc, World.size_setCell, World.size_drew] at hz2); have q2 : w.heap.size ≤ w2.heap.size := (by omega); (try have q2_0 : w.heap.size < w2.heap.size := (by omega)); (try have q2_1 : w.heap.size + 1 < w2.heap.size := (by omega)); (try have q2_2 : w.heap.size + 2 < w2.heap.size := (by omega)); (try have q2_3 : w.heap.size + 3 < w2.heap.size := (by omega)); (try have q2_1_0 : w1.heap.size < w2.heap.size := (by omega)); (try have q2_1_1 : w1.heap.size + 1 < w2.heap.size := (by omega)))
          go_wp2
          go_ret
          exact ⟨ret_bool HM.out, by (repeat' (first | (with_reducible exact Below.refl _ _) | (with_reducible assumption) | (with_reducible refine Below.alloc ?_ ?_ _) | (with_reducible refine Below.drew ?_) | (with_reducible refine below_drewN ?_ _) | (with_reducible refine Below.setCell ?_ ?_ _) | (with_reducible refine below_call ?_ ?_ (by assumption)) | go_size))⟩
    · have HM := Lib.hid (show false = clockB n d a b from by simp [clockB, ga, hd])
      (go_enter Try.func20, Try.ntmps20)
      go_wp2_with fail
      refine (diGood_is _ _ ga kd _).mono ?_
      (rintro e1 w1 ⟨rfl, hb1⟩; obtain ⟨hc1, hf1⟩ := bcell hb1; have hz1 := hb1.size; (try simp only [World.size_alloc, World.size_setCell, World.size_drew] at hz1); have q1 : w.heap.size ≤ w1.heap.size := (by omega); (try have q1_0 : w.heap.size < w1.heap.size := (by omega)); (try have q1_1 : w.heap.size + 1 < w1.heap.size := (by omega)); (try have q1_2 : w.heap.size + 2 < w1.heap.size := (by omega)); (try have q1_3 : w.heap.size + 3 < w1.heap.size := (by omega)))
      go_wp2
      go_ret
      exact ⟨ret_bool HM.out, by (repeat' (first | (with_reducible exact Below.refl _ _) | (with_reducible assumption) | (with_reducible refine Below.alloc ?_ ?_ _) | (with_reducible refine Below.drew ?_) | (with_reducible refine below_drewN ?_ _) | (with_reducible refine Below.setCell ?_ ?_ _) | (with_reducible refine below_call ?_ ?_ (by assumption)) | go_size))⟩

theorem drClock_is {b0 : Bool} (n d a b : Int) (h : clockB n d a b = b0) (kd : (-9223372036854775808 ≤ d ∧ d ≤ 9223372036854775807)) (w : World) :
    Calls Try.prog 20 #[cv n d a b] w fun e w' => e = .returned (.bool b0) ∧ Below w.heap.size w w' := by
  subst h; exact drClock_any n d a b kd w

def drTwoB (n d p q sn sd : Int) : Bool := clockB n d p q && spanB sn sd
end Go.Proofs.Ytfddlmnfkmiomaa
