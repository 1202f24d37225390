/- Hands: which are hands, where they stand, relative ones: by the program and by the model. -/
import Derived.Test.YtcfiaacpofpioaaDial3
import Derived.Test.YtcfiaacpofpioaaHRow
set_option linter.unusedSimpArgs false
set_option linter.unusedVariables false
set_option maxRecDepth 100000
namespace Go.Proofs.Ytcfiaacpofpioaa
open Go.RowKit

def startB (n d : Int) : Bool := goodB n d && decide (d ≤ 1000)
def handB (n d s : Int) : Bool := startB n d && inB s (-400) 400
theorem startB_bd {n d : Int} (h : startB n d = true) : 1 ≤ d ∧ d ≤ 1000 ∧ 0 ≤ n ∧ n ≤ 999 := by
  simp only [startB, Bool.and_eq_true, decide_eq_true_eq] at h
  obtain ⟨a, b, c, e, _⟩ := (goodB_iff _ _).1 h.1
  omega
theorem startB_good {n d : Int} (h : startB n d = true) : goodB n d = true := by simp only [startB, Bool.and_eq_true] at h; exact h.1
theorem handB_bd {n d s : Int} (h : handB n d s = true) : (1 ≤ d ∧ d ≤ 1000 ∧ 0 ≤ n ∧ n ≤ 999) ∧ -400 ≤ s ∧ s ≤ 400 := by
  simp only [handB, Bool.and_eq_true] at h
  exact ⟨startB_bd h.1, inB_bd h.2⟩

set_option maxHeartbeats 400000 in
theorem isStart_any (n d : Int) (w : World) :
    Calls Try.prog 53 #[tv n d] w fun e w' => e = .returned (.bool (startB n d)) ∧ Below w.heap.size w w' := by
  cases ga : goodB n d
  · have HM := Lib.hid (show false = startB n d from by simp [startB, ga])
    (go_enter Try.func53, Try.ntmps53)
    go_wp2_with fail
    refine (isTurn_is _ _ ga _).mono ?_
    (rintro e1 w1 ⟨rfl, hb1⟩; obtain ⟨hc1, hf1⟩ := bcell hb1; have hz1 := hb1.size; (try simp only [World.size_alloc, World.size_setCell, World.size_drew] at hz1); have q1 : w.heap.size ≤ w1.heap.size := (by omega); (try have q1_0 : w.heap.size < w1.heap.size := (by omega)); (try have q1_1 : w.heap.size + 1 < w1.heap.size := (by omega)); (try have q1_2 : w.heap.size + 2 < w1.heap.size := (by omega)); (try have q1_3 : w.heap.size + 3 < w1.heap.size := (by omega)))
    go_wp2
    go_ret
    exact ⟨ret_bool HM.out, by (repeat' (first | (with_reducible exact Below.refl _ _) | (with_reducible assumption) | (with_reducible refine Below.alloc ?_ ?_ _) | (with_reducible refine Below.drew ?_) | (with_reducible refine below_drewN ?_ _) | (with_reducible refine Below.setCell ?_ ?_ _) | (with_reducible refine below_call ?_ ?_ (by assumption)) | go_size))⟩
  · have HM := Lib.hid (show decide (d ≤ 1000) = startB n d from by simp [startB, ga])
    (go_enter Try.func53, Try.ntmps53)
    go_wp2_with fail
    refine (isTurn_is _ _ ga _).mono ?_
    (rintro e1 w1 ⟨rfl, hb1⟩; obtain ⟨hc1, hf1⟩ := bcell hb1; have hz1 := hb1.size; (try simp only [World.size_alloc, World.size_setCell, World.size_drew] at hz1); have q1 : w.heap.size ≤ w1.heap.size := (by omega); (try have q1_0 : w.heap.size < w1.heap.size := (by omega)); (try have q1_1 : w.heap.size + 1 < w1.heap.size := (by omega)); (try have q1_2 : w.heap.size + 2 < w1.heap.size := (by omega)); (try have q1_3 : w.heap.size + 3 < w1.heap.size := (by omega)))
    go_wp2
    go_ret
    exact ⟨ret_bool HM.out, by (repeat' (first | (with_reducible exact Below.refl _ _) | (with_reducible assumption) | (with_reducible refine Below.alloc ?_ ?_ _) | (with_reducible refine Below.drew ?_) | (with_reducible refine below_drewN ?_ _) | (with_reducible refine Below.setCell ?_ ?_ _) | (with_reducible refine below_call ?_ ?_ (by assumption)) | go_size))⟩

theorem isStart_is {b : Bool} (n d : Int) (h : startB n d = b) (w : World) :
    Calls Try.prog 53 #[tv n d] w fun e w' => e = .returned (.bool b) ∧ Below w.heap.size w w' := by
  subst h; exact isStart_any n d w

set_option maxHeartbeats 400000 in
theorem mePlace_any (n d : Int) (kd : (-9223372036854775808 ≤ d ∧ d ≤ 9223372036854775807)) (w : World) :
    Calls Try.prog 68 #[tv n d] w fun e w' => e = .returned (.bool (startB n d)) ∧ Below w.heap.size w w' := by
  cases ga : goodB n d
  · have HM := Lib.hid (show false = startB n d from by simp [startB, ga])
    (go_enter Try.func68, Try.ntmps68)
    go_wp2_with fail
    refine (diGood_is _ _ ga kd _).mono ?_
    (rintro e1 w1 ⟨rfl, hb1⟩; obtain ⟨hc1, hf1⟩ := bcell hb1; have hz1 := hb1.size; (try simp only [World.size_alloc, World.size_setCell, World.size_drew] at hz1); have q1 : w.heap.size ≤ w1.heap.size := (by omega); (try have q1_0 : w.heap.size < w1.heap.size := (by omega)); (try have q1_1 : w.heap.size + 1 < w1.heap.size := (by omega)); (try have q1_2 : w.heap.size + 2 < w1.heap.size := (by omega)); (try have q1_3 : w.heap.size + 3 < w1.heap.size := (by omega)))
    go_wp2
    go_ret
    exact ⟨ret_bool HM.out, by (repeat' (first | (with_reducible exact Below.refl _ _) | (with_reducible assumption) | (with_reducible refine Below.alloc ?_ ?_ _) | (with_reducible refine Below.drew ?_) | (with_reducible refine below_drewN ?_ _) | (with_reducible refine Below.setCell ?_ ?_ _) | (with_reducible refine below_call ?_ ?_ (by assumption)) | go_size))⟩
  · have HM := Lib.hid (show decide (d ≤ 1000) = startB n d from by simp [startB, ga])
    (go_enter Try.func68, Try.ntmps68)
    go_wp2_with fail
    refine (diGood_is _ _ ga kd _).mono ?_
    (rintro e1 w1 ⟨rfl, hb1⟩; obtain ⟨hc1, hf1⟩ := bcell hb1; have hz1 := hb1.size; (try simp only [World.size_alloc, World.size_setCell, World.size_drew] at hz1); have q1 : w.heap.size ≤ w1.heap.size := (by omega); (try have q1_0 : w.heap.size < w1.heap.size := (by omega)); (try have q1_1 : w.heap.size + 1 < w1.heap.size := (by omega)); (try have q1_2 : w.heap.size + 2 < w1.heap.size := (by omega)); (try have q1_3 : w.heap.size + 3 < w1.heap.size := (by omega)))
    go_wp2
    go_ret
    exact ⟨ret_bool HM.out, by (repeat' (first | (with_reducible exact Below.refl _ _) | (with_reducible assumption) | (with_reducible refine Below.alloc ?_ ?_ _) | (with_reducible refine Below.drew ?_) | (with_reducible refine below_drewN ?_ _) | (with_reducible refine Below.setCell ?_ ?_ _) | (with_reducible refine below_call ?_ ?_ (by assumption)) | go_size))⟩

theorem mePlace_is {b : Bool} (n d : Int) (h : startB n d = b) (kd : (-9223372036854775808 ≤ d ∧ d ≤ 9223372036854775807)) (w : World) :
    Calls Try.prog 68 #[tv n d] w fun e w' => e = .returned (.bool b) ∧ Below w.heap.size w w' := by
  subst h; exact mePlace_any n d kd w

set_option maxHeartbeats 400000 in
theorem isHand_any (n d s : Int) (w : World) :
    Calls Try.prog 18 #[hv n d s] w fun e w' => e = .returned (.bool (handB n d s)) ∧ Below w.heap.size w w' := by
  cases ga : startB n d
  · have HM := Lib.hid (show false = handB n d s from by simp [handB, ga])
    (go_enter Try.func18, Try.ntmps18)
    go_wp2_with fail
    refine (isStart_is _ _ ga _).mono ?_
    (rintro e1 w1 ⟨rfl, hb1⟩; obtain ⟨hc1, hf1⟩ := bcell hb1; have hz1 := hb1.size; (try simp only [World.size_alloc, World.size_setCell, World.size_drew] at hz1); have q1 : w.heap.size ≤ w1.heap.size := (by omega); (try have q1_0 : w.heap.size < w1.heap.size := (by omega)); (try have q1_1 : w.heap.size + 1 < w1.heap.size := (by omega)); (try have q1_2 : w.heap.size + 2 < w1.heap.size := (by omega)); (try have q1_3 : w.heap.size + 3 < w1.heap.size := (by omega)))
    go_wp2
    go_ret
    exact ⟨ret_bool HM.out, by (repeat' (first | (with_reducible exact Below.refl _ _) | (with_reducible assumption) | (with_reducible refine Below.alloc ?_ ?_ _) | (with_reducible refine Below.drew ?_) | (with_reducible refine below_drewN ?_ _) | (with_reducible refine Below.setCell ?_ ?_ _) | (with_reducible refine below_call ?_ ?_ (by assumption)) | go_size))⟩
  · cases gb : inB s (-400) 400
    · have HM := Lib.hid (show false = handB n d s from by simp [handB, ga, gb])
      (go_enter Try.func18, Try.ntmps18)
      go_wp2_with fail
      refine (isStart_is _ _ ga _).mono ?_
      (rintro e1 w1 ⟨rfl, hb1⟩; obtain ⟨hc1, hf1⟩ := bcell hb1; have hz1 := hb1.size; (try simp only [World.size_alloc, World.size_setCell, World.size_drew] at hz1); have q1 : w.heap.size ≤ w1.heap.size := (by omega); (try have q1_0 : w.heap.size < w1.heap.size := (by omega)); (try have q1_1 : w.heap.size + 1 < w1.heap.size := (by omega)); (try have q1_2 : w.heap.size + 2 < w1.heap.size := (by omega)); (try have q1_3 : w.heap.size + 3 < w1.heap.size := (by omega)))
      go_wp2_with fail
      refine (isWithin_is _ _ _ gb _).mono ?_
      (rintro e1 w1 ⟨rfl, rfl⟩)
      go_wp2
      go_ret
      exact ⟨ret_bool HM.out, by (repeat' (first | (with_reducible exact Below.refl _ _) | (with_reducible assumption) | (with_reducible refine Below.alloc ?_ ?_ _) | (with_reducible refine Below.drew ?_) | (with_reducible refine below_drewN ?_ _) | (with_reducible refine Below.setCell ?_ ?_ _) | (with_reducible refine below_call ?_ ?_ (by assumption)) | go_size))⟩
    · have HM := Lib.hid (show true = handB n d s from by simp [handB, ga, gb])
      (go_enter Try.func18, Try.ntmps18)
      go_wp2_with fail
      refine (isStart_is _ _ ga _).mono ?_
      (rintro e1 w1 ⟨rfl, hb1⟩; obtain ⟨hc1, hf1⟩ := bcell hb1; have hz1 := hb1.size; (try simp only [World.size_alloc, World.size_setCell, World.size_drew] at hz1); have q1 : w.heap.size ≤ w1.heap.size := (by omega); (try have q1_0 : w.heap.size < w1.heap.size := (by omega)); (try have q1_1 : w.heap.size + 1 < w1.heap.size := (by omega)); (try have q1_2 : w.heap.size + 2 < w1.heap.size := (by omega)); (try have q1_3 : w.heap.size + 3 < w1.heap.size := (by omega)))
      go_wp2_with fail
      refine (isWithin_is _ _ _ gb _).mono ?_
      (rintro e1 w1 ⟨rfl, rfl⟩)
      go_wp2
      go_ret
      exact ⟨ret_bool HM.out, by (repeat' (first | (with_reducible exact Below.refl _ _) | (with_reducible assumption) | (with_reducible refine Below.alloc ?_ ?_ _) | (with_reducible refine Below.drew ?_) | (with_reducible refine below_drewN ?_ _) | (with_reducible refine Below.setCell ?_ ?_ _) | (with_reducible refine below_call ?_ ?_ (by assumption)) | go_size))⟩

theorem isHand_is {b : Bool} (n d s : Int) (h : handB n d s = b) (w : World) :
    Calls Try.prog 18 #[hv n d s] w fun e w' => e = .returned (.bool b) ∧ Below w.heap.size w w' := by
  subst h; exact isHand_any n d s w

set_option maxHeartbeats 400000 in
theorem meGood_any (n d s : Int) (kd : (-9223372036854775808 ≤ d ∧ d ≤ 9223372036854775807)) (w : World) :
    Calls Try.prog 55 #[hv n d s] w fun e w' => e = .returned (.bool (handB n d s)) ∧ Below w.heap.size w w' := by
  cases ga : goodB n d
  · have HM := Lib.hid (show false = handB n d s from by simp [handB, startB, ga])
    (go_enter Try.func55, Try.ntmps55)
    go_wp2_with fail
    refine (diGood_is _ _ ga kd _).mono ?_
    (rintro e1 w1 ⟨rfl, hb1⟩; obtain ⟨hc1, hf1⟩ := bcell hb1; have hz1 := hb1.size; (try simp only [World.size_alloc, World.size_setCell, World.size_drew] at hz1); have q1 : w.heap.size ≤ w1.heap.size := (by omega); (try have q1_0 : w.heap.size < w1.heap.size := (by omega)); (try have q1_1 : w.heap.size + 1 < w1.heap.size := (by omega)); (try have q1_2 : w.heap.size + 2 < w1.heap.size := (by omega)); (try have q1_3 : w.heap.size + 3 < w1.heap.size := (by omega)))
    go_wp2
    go_ret
    exact ⟨ret_bool HM.out, by (repeat' (first | (with_reducible exact Below.refl _ _) | (with_reducible assumption) | (with_reducible refine Below.alloc ?_ ?_ _) | (with_reducible refine Below.drew ?_) | (with_reducible refine below_drewN ?_ _) | (with_reducible refine Below.setCell ?_ ?_ _) | (with_reducible refine below_call ?_ ?_ (by assumption)) | go_size))⟩
  · by_cases hd : d ≤ 1000
    · cases gb : inB s (-400) 400
      · have HM := Lib.hid (show false = handB n d s from by simp [handB, startB, ga, hd, gb])
        (go_enter Try.func55, Try.ntmps55)
        go_wp2_with fail
        refine (diGood_is _ _ ga kd _).mono ?_
        (rintro e1 w1 ⟨rfl, hb1⟩; obtain ⟨hc1, hf1⟩ := bcell hb1; have hz1 := hb1.size; (try simp only [World.size_alloc, World.size_setCell, World.size_drew] at hz1); have q1 : w.heap.size ≤ w1.heap.size := (by omega); (try have q1_0 : w.heap.size < w1.heap.size := (by omega)); (try have q1_1 : w.heap.size + 1 < w1.heap.size := (by omega)); (try have q1_2 : w.heap.size + 2 < w1.heap.size := (by omega)); (try have q1_3 : w.heap.size + 3 < w1.heap.size := (by omega)))
        go_wp2_with fail
        refine (l1In_is _ _ _ gb _).mono ?_
        (rintro e1 w1 ⟨rfl, rfl⟩)
        go_wp2
        go_ret
        exact ⟨ret_bool HM.out, by (repeat' (first | (with_reducible exact Below.refl _ _) | (with_reducible assumption) | (with_reducible refine Below.alloc ?_ ?_ _) | (with_reducible refine Below.drew ?_) | (with_reducible refine below_drewN ?_ _) | (with_reducible refine Below.setCell ?_ ?_ _) | (with_reducible refine below_call ?_ ?_ (by assumption)) | go_size))⟩
      · have HM := Lib.hid (show true = handB n d s from by simp [handB, startB, ga, hd, gb])
        (go_enter Try.func55, Try.ntmps55)
        go_wp2_with fail
        refine (diGood_is _ _ ga kd _).mono ?_
        (rintro e1 w1 ⟨rfl, hb1⟩; obtain ⟨hc1, hf1⟩ := bcell hb1; have hz1 := hb1.size; (try simp only [World.size_alloc, World.size_setCell, World.size_drew] at hz1); have q1 : w.heap.size ≤ w1.heap.size := (by omega); (try have q1_0 : w.heap.size < w1.heap.size := (by omega)); (try have q1_1 : w.heap.size + 1 < w1.heap.size := (by omega)); (try have q1_2 : w.heap.size + 2 < w1.heap.size := (by omega)); (try have q1_3 : w.heap.size + 3 < w1.heap.size := (by omega)))
        go_wp2_with fail
        refine (l1In_is _ _ _ gb _).mono ?_
        (rintro e1 w1 ⟨rfl, rfl⟩)
        go_wp2
        go_ret
        exact ⟨ret_bool HM.out, by (repeat' (first | (with_reducible exact Below.refl _ _) | (with_reducible assumption) | (with_reducible refine Below.alloc ?_ ?_ _) | (with_reducible refine Below.drew ?_) | (with_reducible refine below_drewN ?_ _) | (with_reducible refine Below.setCell ?_ ?_ _) | (with_reducible refine below_call ?_ ?_ (by assumption)) | go_size))⟩
    · have HM := Lib.hid (show false = handB n d s from by simp [handB, startB, ga, hd])
      (go_enter Try.func55, Try.ntmps55)
      go_wp2_with fail
      refine (diGood_is _ _ ga kd _).mono ?_
      (rintro e1 w1 ⟨rfl, hb1⟩; obtain ⟨hc1, hf1⟩ := bcell hb1; have hz1 := hb1.size; (try simp only [World.size_alloc, World.size_setCell, World.size_drew] at hz1); have q1 : w.heap.size ≤ w1.heap.size := (by omega); (try have q1_0 : w.heap.size < w1.heap.size := (by omega)); (try have q1_1 : w.heap.size + 1 < w1.heap.size := (by omega)); (try have q1_2 : w.heap.size + 2 < w1.heap.size := (by omega)); (try have q1_3 : w.heap.size + 3 < w1.heap.size := (by omega)))
      go_wp2
      go_ret
      exact ⟨ret_bool HM.out, by (repeat' (first | (with_reducible exact Below.refl _ _) | (with_reducible assumption) | (with_reducible refine Below.alloc ?_ ?_ _) | (with_reducible refine Below.drew ?_) | (with_reducible refine below_drewN ?_ _) | (with_reducible refine Below.setCell ?_ ?_ _) | (with_reducible refine below_call ?_ ?_ (by assumption)) | go_size))⟩

theorem meGood_is {b : Bool} (n d s : Int) (h : handB n d s = b) (kd : (-9223372036854775808 ≤ d ∧ d ≤ 9223372036854775807)) (w : World) :
    Calls Try.prog 55 #[hv n d s] w fun e w' => e = .returned (.bool b) ∧ Below w.heap.size w w' := by
  subst h; exact meGood_any n d s kd w

set_option maxHeartbeats 400000 in
theorem specIsHand_any (n d s : Int) (kd : (-9223372036854775808 ≤ d ∧ d ≤ 9223372036854775807)) (w : World) :
    Calls Try.prog 19 #[hv n d s] w fun e w' => e = .returned (.bool (handB n d s)) ∧ Below w.heap.size w w' := by
  (go_enter Try.func19, Try.ntmps19)
  go_wp2_with fail
  refine (meGood_any n d s kd _).mono ?_
  (rintro e1 w1 ⟨rfl, hb1⟩; obtain ⟨hc1, hf1⟩ := bcell hb1; have hz1 := hb1.size; (try simp only [World.size_alloc, World.size_setCell, World.size_drew] at hz1); have q1 : w.heap.size ≤ w1.heap.size := (by omega); (try have q1_0 : w.heap.size < w1.heap.size := (by omega)); (try have q1_1 : w.heap.size + 1 < w1.heap.size := (by omega)); (try have q1_2 : w.heap.size + 2 < w1.heap.size := (by omega)); (try have q1_3 : w.heap.size + 3 < w1.heap.size := (by omega)))
  go_wp2
  go_ret
  exact ⟨rfl, by (repeat' (first | (with_reducible exact Below.refl _ _) | (with_reducible assumption) | (with_reducible refine Below.alloc ?_ ?_ _) | (with_reducible refine Below.drew ?_) | (with_reducible refine below_drewN ?_ _) | (with_reducible refine Below.setCell ?_ ?_ _) | (with_reducible refine below_call ?_ ?_ (by assumption)) | go_size))⟩

def twoB (an ad av bn bd bv : Int) : Bool := handB an ad av && handB bn bd bv
/-- Two hands with different speeds. -/
def askedB (an ad av bn bd bv : Int) : Bool := twoB an ad av bn bd bv && (av != bv)
set_option maxHeartbeats 400000 in
theorem meTwo_any (an ad av bn bd bv : Int) (kad : (-9223372036854775808 ≤ ad ∧ ad ≤ 9223372036854775807)) (kbd : (-9223372036854775808 ≤ bd ∧ bd ≤ 9223372036854775807)) (w : World) :
    Calls Try.prog 69 #[hv an ad av, hv bn bd bv] w fun e w' => e = .returned (.bool (twoB an ad av bn bd bv)) ∧ Below w.heap.size w w' := by
  cases ga : handB an ad av
  · have HM := Lib.hid (show false = twoB an ad av bn bd bv from by simp [twoB, ga])
    (go_enter Try.func69, Try.ntmps69)
    go_wp2_with fail
    refine (meGood_is _ _ _ ga kad _).mono ?_
    (rintro e1 w1 ⟨rfl, hb1⟩; obtain ⟨hc1, hf1⟩ := bcell hb1; have hz1 := hb1.size; (try simp only [World.size_alloc, World.size_setCell, World.size_drew] at hz1); have q1 : w.heap.size ≤ w1.heap.size := (by omega); (try have q1_0 : w.heap.size < w1.heap.size := (by omega)); (try have q1_1 : w.heap.size + 1 < w1.heap.size := (by omega)); (try have q1_2 : w.heap.size + 2 < w1.heap.size := (by omega)); (try have q1_3 : w.heap.size + 3 < w1.heap.size := (by omega)))
    go_wp2
    go_ret
    exact ⟨ret_bool HM.out, by (repeat' (first | (with_reducible exact Below.refl _ _) | (with_reducible assumption) | (with_reducible refine Below.alloc ?_ ?_ _) | (with_reducible refine Below.drew ?_) | (with_reducible refine below_drewN ?_ _) | (with_reducible refine Below.setCell ?_ ?_ _) | (with_reducible refine below_call ?_ ?_ (by assumption)) | go_size))⟩
  · cases gb : handB bn bd bv
    · have HM := Lib.hid (show false = twoB an ad av bn bd bv from by simp [twoB, ga, gb])
      (go_enter Try.func69, Try.ntmps69)
      go_wp2_with fail
      refine (meGood_is _ _ _ ga kad _).mono ?_
      (rintro e1 w1 ⟨rfl, hb1⟩; obtain ⟨hc1, hf1⟩ := bcell hb1; have hz1 := hb1.size; (try simp only [World.size_alloc, World.size_setCell, World.size_drew] at hz1); have q1 : w.heap.size ≤ w1.heap.size := (by omega); (try have q1_0 : w.heap.size < w1.heap.size := (by omega)); (try have q1_1 : w.heap.size + 1 < w1.heap.size := (by omega)); (try have q1_2 : w.heap.size + 2 < w1.heap.size := (by omega)); (try have q1_3 : w.heap.size + 3 < w1.heap.size := (by omega)))
      go_wp2_with fail
      refine (meGood_is _ _ _ gb kbd _).mono ?_
      (rintro e2 w2 ⟨rfl, hb2⟩; obtain ⟨hc2, hf2⟩ := bcell hb2; have hz2 := hb2.size; (try simp only [World.size_alloc, World.size_setCell, World.size_drew] at hz2); have q2 : w.heap.size ≤ w2.heap.size := (by omega); (try have q2_0 : w.heap.size < w2.heap.size := (by omega)); (try have q2_1 : w.heap.size + 1 < w2.heap.size := (by omega)); (try have q2_2 : w.heap.size + 2 < w2.heap.size := (by omega)); (try have q2_3 : w.heap.size + 3 < w2.heap.size := (by omega)); (try have q2_1_0 : w1.heap.size < w2.heap.size := (by omega)); (try have q2_1_1 : w1.heap.size + 1 < w2.heap.size := (by omega)))
      go_wp2
      go_ret
      exact ⟨ret_bool HM.out, by (repeat' (first | (with_reducible exact Below.refl _ _) | (with_reducible assumption) | (with_reducible refine Below.alloc ?_ ?_ _) | (with_reducible refine Below.drew ?_) | (with_reducible refine below_drewN ?_ _) | (with_reducible refine Below.setCell ?_ ?_ _) | (with_reducible refine below_call ?_ ?_ (by assumption)) | go_size))⟩
    · have HM := Lib.hid (show true = twoB an ad av bn bd bv from by simp [twoB, ga, gb])
      (go_enter Try.func69, Try.ntmps69)
      go_wp2_with fail
      refine (meGood_is _ _ _ ga kad _).mono ?_
      (rintro e1 w1 ⟨rfl, hb1⟩; obtain ⟨hc1, hf1⟩ := bcell hb1; have hz1 := hb1.size; (try simp only [World.size_alloc, World.size_setCell, World.size_drew] at hz1); have q1 : w.heap.size ≤ w1.heap.size := (by omega); (try have q1_0 : w.heap.size < w1.heap.size := (by omega)); (try have q1_1 : w.heap.size + 1 < w1.heap.size := (by omega)); (try have q1_2 : w.heap.size + 2 < w1.heap.size := (by omega)); (try have q1_3 : w.heap.size + 3 < w1.heap.size := (by omega)))
      go_wp2_with fail
      refine (meGood_is _ _ _ gb kbd _).mono ?_
      (rintro e2 w2 ⟨rfl, hb2⟩; obtain ⟨hc2, hf2⟩ := bcell hb2; have hz2 := hb2.size; (try simp only [World.size_alloc, World.size_setCell, World.size_drew] at hz2); have q2 : w.heap.size ≤ w2.heap.size := (by omega); (try have q2_0 : w.heap.size < w2.heap.size := (by omega)); (try have q2_1 : w.heap.size + 1 < w2.heap.size := (by omega)); (try have q2_2 : w.heap.size + 2 < w2.heap.size := (by omega)); (try have q2_3 : w.heap.size + 3 < w2.heap.size := (by omega)); (try have q2_1_0 : w1.heap.size < w2.heap.size := (by omega)); (try have q2_1_1 : w1.heap.size + 1 < w2.heap.size := (by omega)))
      go_wp2
      go_ret
      exact ⟨ret_bool HM.out, by (repeat' (first | (with_reducible exact Below.refl _ _) | (with_reducible assumption) | (with_reducible refine Below.alloc ?_ ?_ _) | (with_reducible refine Below.drew ?_) | (with_reducible refine below_drewN ?_ _) | (with_reducible refine Below.setCell ?_ ?_ _) | (with_reducible refine below_call ?_ ?_ (by assumption)) | go_size))⟩

theorem meTwo_is {b : Bool} (an ad av bn bd bv : Int) (h : twoB an ad av bn bd bv = b) (kad : (-9223372036854775808 ≤ ad ∧ ad ≤ 9223372036854775807)) (kbd : (-9223372036854775808 ≤ bd ∧ bd ≤ 9223372036854775807)) (w : World) :
    Calls Try.prog 69 #[hv an ad av, hv bn bd bv] w fun e w' => e = .returned (.bool b) ∧ Below w.heap.size w w' := by
  subst h; exact meTwo_any an ad av bn bd bv kad kbd w

set_option maxHeartbeats 400000 in
theorem meAsked_any (an ad av bn bd bv : Int) (kad : (-9223372036854775808 ≤ ad ∧ ad ≤ 9223372036854775807)) (kbd : (-9223372036854775808 ≤ bd ∧ bd ≤ 9223372036854775807)) (w : World) :
    Calls Try.prog 44 #[hv an ad av, hv bn bd bv] w fun e w' => e = .returned (.bool (askedB an ad av bn bd bv)) ∧ Below w.heap.size w w' := by
  cases ga : twoB an ad av bn bd bv
  · have HM := Lib.hid (show false = askedB an ad av bn bd bv from by simp [askedB, ga])
    (go_enter Try.func44, Try.ntmps44)
    go_wp2_with fail
    refine (meTwo_is _ _ _ _ _ _ ga kad kbd _).mono ?_
    (rintro e1 w1 ⟨rfl, hb1⟩; obtain ⟨hc1, hf1⟩ := bcell hb1; have hz1 := hb1.size; (try simp only [World.size_alloc, World.size_setCell, World.size_drew] at hz1); have q1 : w.heap.size ≤ w1.heap.size := (by omega); (try have q1_0 : w.heap.size < w1.heap.size := (by omega)); (try have q1_1 : w.heap.size + 1 < w1.heap.size := (by omega)); (try have q1_2 : w.heap.size + 2 < w1.heap.size := (by omega)); (try have q1_3 : w.heap.size + 3 < w1.heap.size := (by omega)))
    go_wp2
    go_ret
    exact ⟨ret_bool HM.out, by (repeat' (first | (with_reducible exact Below.refl _ _) | (with_reducible assumption) | (with_reducible refine Below.alloc ?_ ?_ _) | (with_reducible refine Below.drew ?_) | (with_reducible refine below_drewN ?_ _) | (with_reducible refine Below.setCell ?_ ?_ _) | (with_reducible refine below_call ?_ ?_ (by assumption)) | go_size))⟩
  · have HM := Lib.hid (show (av != bv) = askedB an ad av bn bd bv from by simp [askedB, ga])
    (go_enter Try.func44, Try.ntmps44)
    go_wp2_with fail
    refine (meTwo_is _ _ _ _ _ _ ga kad kbd _).mono ?_
    (rintro e1 w1 ⟨rfl, hb1⟩; obtain ⟨hc1, hf1⟩ := bcell hb1; have hz1 := hb1.size; (try simp only [World.size_alloc, World.size_setCell, World.size_drew] at hz1); have q1 : w.heap.size ≤ w1.heap.size := (by omega); (try have q1_0 : w.heap.size < w1.heap.size := (by omega)); (try have q1_1 : w.heap.size + 1 < w1.heap.size := (by omega)); (try have q1_2 : w.heap.size + 2 < w1.heap.size := (by omega)); (try have q1_3 : w.heap.size + 3 < w1.heap.size := (by omega)))
    go_wp2
    go_ret
    exact ⟨ret_bool HM.out, by (repeat' (first | (with_reducible exact Below.refl _ _) | (with_reducible assumption) | (with_reducible refine Below.alloc ?_ ?_ _) | (with_reducible refine Below.drew ?_) | (with_reducible refine below_drewN ?_ _) | (with_reducible refine Below.setCell ?_ ?_ _) | (with_reducible refine below_call ?_ ?_ (by assumption)) | go_size))⟩

theorem meAsked_is {b : Bool} (an ad av bn bd bv : Int) (h : askedB an ad av bn bd bv = b) (kad : (-9223372036854775808 ≤ ad ∧ ad ≤ 9223372036854775807)) (kbd : (-9223372036854775808 ≤ bd ∧ bd ≤ 9223372036854775807)) (w : World) :
    Calls Try.prog 44 #[hv an ad av, hv bn bd bv] w fun e w' => e = .returned (.bool b) ∧ Below w.heap.size w w' := by
  subst h; exact meAsked_any an ad av bn bd bv kad kbd w

theorem twoB_split {an ad av bn bd bv : Int} (h : twoB an ad av bn bd bv = true) : handB an ad av = true ∧ handB bn bd bv = true := by simpa [twoB] using h
theorem askedB_split {an ad av bn bd bv : Int} (h : askedB an ad av bn bd bv = true) : handB an ad av = true ∧ handB bn bd bv = true ∧ av ≠ bv := by
  simp only [askedB, twoB, Bool.and_eq_true, bne_iff_ne, ne_eq] at h
  exact ⟨h.1.1, h.1.2, h.2⟩
/-- The bounds of a place that is reckoned with. -/
theorem at_bd {n d s tn td : Int} (h1 : 1 ≤ d ∧ d ≤ 1000000) (h2 : 0 ≤ n ∧ n ≤ 1000000) (h3 : -800 ≤ s ∧ s ≤ 800) (h4 : 1 ≤ td ∧ td ≤ 1000000) (h5 : 0 ≤ tn ∧ tn ≤ 1000000) :
    (0 ≤ n * td ∧ n * td ≤ 1000000000000) ∧ (-800000000 ≤ s * tn ∧ s * tn ≤ 800000000) ∧ (-800000000000000 ≤ s * tn * d ∧ s * tn * d ≤ 800000000000000) ∧ 1 ≤ d * td ∧ d * td ≤ 1000000000000 := by
  have a1 := mulb h2.1 h2.2 (show 0 ≤ td by omega) h4.2
  have a2 := mulk (K := 800) h5.1 h5.2 h3.1 h3.2
  rw [Int.mul_comm tn s] at a2
  have a3 := mulk (K := 800000000) (show 0 ≤ d by omega) h1.2 (show -800000000 ≤ s * tn by omega) (show s * tn ≤ 800000000 by omega)
  rw [Int.mul_comm d] at a3
  have a4 := mulb (show 0 ≤ d by omega) h1.2 (show 0 ≤ td by omega) h4.2
  have a5 : 1 ≤ d * td := Int.mul_pos (by omega) (by omega)
  omega
set_option maxHeartbeats 400000 in
theorem placeAt_any (n d s tn td : Int) (h1 : 1 ≤ d ∧ d ≤ 1000000) (h2 : 0 ≤ n ∧ n ≤ 1000000) (h3 : -800 ≤ s ∧ s ≤ 800) (h4 : 1 ≤ td ∧ td ≤ 1000000) (h5 : 0 ≤ tn ∧ tn ≤ 1000000) (w : World) :
    Calls Try.prog 58 #[hv n d s, tv tn td] w fun e w' => e = .returned (tv (lowNum (n * td + s * tn * d) (d * td)) (lowDen (n * td + s * tn * d) (d * td))) ∧ Below w.heap.size w w' := by
  obtain ⟨⟨p1, p2⟩, ⟨p3, p4⟩, ⟨p5, p6⟩, p7, p8⟩ := at_bd h1 h2 h3 h4 h5
  (go_enter Try.func58, Try.ntmps58)
  go_wp2_with fail
  refine (lowest_any (n * td + s * tn * d) (d * td) (by omega) (by omega) _).mono ?_
  (rintro e1 w1 ⟨rfl, hb1⟩; obtain ⟨hc1, hf1⟩ := bcell hb1; have hz1 := hb1.size; (try simp only [World.size_alloc, World.size_setCell, World.size_drew] at hz1); have q1 : w.heap.size ≤ w1.heap.size := (by omega); (try have q1_0 : w.heap.size < w1.heap.size := (by omega)); (try have q1_1 : w.heap.size + 1 < w1.heap.size := (by omega)); (try have q1_2 : w.heap.size + 2 < w1.heap.size := (by omega)); (try have q1_3 : w.heap.size + 3 < w1.heap.size := (by omega)))
  go_wp2
  (refine bodyPost_ret (by simp [results, Try.results58, go_sem, *]; try rfl) rfl ?_)
  exact ⟨rfl, by (repeat' (first | (with_reducible exact Below.refl _ _) | (with_reducible assumption) | (with_reducible refine Below.alloc ?_ ?_ _) | (with_reducible refine Below.drew ?_) | (with_reducible refine below_drewN ?_ _) | (with_reducible refine Below.setCell ?_ ?_ _) | (with_reducible refine below_call ?_ ?_ (by assumption)) | go_size))⟩

set_option maxHeartbeats 400000 in
theorem diAdd_many (n d s tn td : Int) (h1 : 1 ≤ d ∧ d ≤ 1000000) (h2 : 0 ≤ n ∧ n ≤ 1000000) (h3 : -800 ≤ s ∧ s ≤ 800) (h4 : 1 ≤ td ∧ td ≤ 1000000) (h5 : 0 ≤ tn ∧ tn ≤ 1000000) (w : World) :
    Calls Try.prog 73 #[tv n d, tv tn td, .int .i64 s] w fun e w' => e = .returned (rv (mk (n * td + s * tn * d) (d * td))) ∧ Below w.heap.size w w' := by
  obtain ⟨⟨p1, p2⟩, ⟨p3, p4⟩, ⟨p5, p6⟩, p7, p8⟩ := at_bd h1 h2 h3 h4 h5
  (go_enter Try.func73, Try.ntmps73)
  go_wp2_with fail
  refine (diMake_any (n * td + s * tn * d) (d * td) (by omega) (by omega) _).mono ?_
  (rintro e1 w1 ⟨rfl, hb1⟩; obtain ⟨hc1, hf1⟩ := bcell hb1; have hz1 := hb1.size; (try simp only [World.size_alloc, World.size_setCell, World.size_drew] at hz1); have q1 : w.heap.size ≤ w1.heap.size := (by omega); (try have q1_0 : w.heap.size < w1.heap.size := (by omega)); (try have q1_1 : w.heap.size + 1 < w1.heap.size := (by omega)); (try have q1_2 : w.heap.size + 2 < w1.heap.size := (by omega)); (try have q1_3 : w.heap.size + 3 < w1.heap.size := (by omega)))
  go_wp2
  (refine bodyPost_ret (by simp [results, Try.results73, go_sem, *]; try rfl) rfl ?_)
  exact ⟨rfl, by (repeat' (first | (with_reducible exact Below.refl _ _) | (with_reducible assumption) | (with_reducible refine Below.alloc ?_ ?_ _) | (with_reducible refine Below.drew ?_) | (with_reducible refine below_drewN ?_ _) | (with_reducible refine Below.setCell ?_ ?_ _) | (with_reducible refine below_call ?_ ?_ (by assumption)) | go_size))⟩

set_option maxHeartbeats 400000 in
theorem meAt_any (n d s tn td : Int) (h1 : 1 ≤ d ∧ d ≤ 1000000) (h2 : 0 ≤ n ∧ n ≤ 1000000) (h3 : -800 ≤ s ∧ s ≤ 800) (h4 : 1 ≤ td ∧ td ≤ 1000000) (h5 : 0 ≤ tn ∧ tn ≤ 1000000) (w : World) :
    Calls Try.prog 51 #[hv n d s, tv tn td] w fun e w' => e = .returned (rv (mk (n * td + s * tn * d) (d * td))) ∧ Below w.heap.size w w' := by
  (go_enter Try.func51, Try.ntmps51)
  go_wp2_with fail
  refine (diAdd_many n d s tn td h1 h2 h3 h4 h5 _).mono ?_
  (rintro e1 w1 ⟨rfl, hb1⟩; obtain ⟨hc1, hf1⟩ := bcell hb1; have hz1 := hb1.size; (try simp only [World.size_alloc, World.size_setCell, World.size_drew] at hz1); have q1 : w.heap.size ≤ w1.heap.size := (by omega); (try have q1_0 : w.heap.size < w1.heap.size := (by omega)); (try have q1_1 : w.heap.size + 1 < w1.heap.size := (by omega)); (try have q1_2 : w.heap.size + 2 < w1.heap.size := (by omega)); (try have q1_3 : w.heap.size + 3 < w1.heap.size := (by omega)))
  go_wp2
  (refine bodyPost_ret (by simp [results, Try.results51, go_sem, *]; try rfl) rfl ?_)
  exact ⟨rfl, by (repeat' (first | (with_reducible exact Below.refl _ _) | (with_reducible assumption) | (with_reducible refine Below.alloc ?_ ?_ _) | (with_reducible refine Below.drew ?_) | (with_reducible refine below_drewN ?_ _) | (with_reducible refine Below.setCell ?_ ?_ _) | (with_reducible refine below_call ?_ ?_ (by assumption)) | go_size))⟩

def handAtT (n d s tn td : Int) : Int × Int × Bool := if handB n d s && goodB tn td then mk (n * td + s * tn * d) (d * td) else fail3
set_option maxHeartbeats 400000 in
theorem implHandAt_any (n d s tn td : Int) (w : World) :
    Calls Try.prog 22 #[hv n d s, tv tn td] w fun e w' => e = .returned (rv (handAtT n d s tn td)) ∧ Below w.heap.size w w' := by
  cases ga : handB n d s
  · have HM := Lib.hid (show fail3 = handAtT n d s tn td from by simp [handAtT, ga])
    (go_enter Try.func22, Try.ntmps22)
    go_wp2_with fail
    refine (isHand_is _ _ _ ga _).mono ?_
    (rintro e1 w1 ⟨rfl, hb1⟩; obtain ⟨hc1, hf1⟩ := bcell hb1; have hz1 := hb1.size; (try simp only [World.size_alloc, World.size_setCell, World.size_drew] at hz1); have q1 : w.heap.size ≤ w1.heap.size := (by omega); (try have q1_0 : w.heap.size < w1.heap.size := (by omega)); (try have q1_1 : w.heap.size + 1 < w1.heap.size := (by omega)); (try have q1_2 : w.heap.size + 2 < w1.heap.size := (by omega)); (try have q1_3 : w.heap.size + 3 < w1.heap.size := (by omega)))
    go_wp2
    (refine bodyPost_ret (by simp [results, Try.results22, go_sem, *]; try rfl) rfl ?_)
    exact ⟨ret_rv HM.out, by (repeat' (first | (with_reducible exact Below.refl _ _) | (with_reducible assumption) | (with_reducible refine Below.alloc ?_ ?_ _) | (with_reducible refine Below.drew ?_) | (with_reducible refine below_drewN ?_ _) | (with_reducible refine Below.setCell ?_ ?_ _) | (with_reducible refine below_call ?_ ?_ (by assumption)) | go_size))⟩
  · cases gb : goodB tn td
    · have HM := Lib.hid (show fail3 = handAtT n d s tn td from by simp [handAtT, ga, gb])
      (go_enter Try.func22, Try.ntmps22)
      go_wp2_with fail
      refine (isHand_is _ _ _ ga _).mono ?_
      (rintro e1 w1 ⟨rfl, hb1⟩; obtain ⟨hc1, hf1⟩ := bcell hb1; have hz1 := hb1.size; (try simp only [World.size_alloc, World.size_setCell, World.size_drew] at hz1); have q1 : w.heap.size ≤ w1.heap.size := (by omega); (try have q1_0 : w.heap.size < w1.heap.size := (by omega)); (try have q1_1 : w.heap.size + 1 < w1.heap.size := (by omega)); (try have q1_2 : w.heap.size + 2 < w1.heap.size := (by omega)); (try have q1_3 : w.heap.size + 3 < w1.heap.size := (by omega)))
      go_wp2_with fail
      refine (isTurn_is _ _ gb _).mono ?_
      (rintro e2 w2 ⟨rfl, hb2⟩; obtain ⟨hc2, hf2⟩ := bcell hb2; have hz2 := hb2.size; (try simp only [World.size_alloc, World.size_setCell, World.size_drew] at hz2); have q2 : w.heap.size ≤ w2.heap.size := (by omega); (try have q2_0 : w.heap.size < w2.heap.size := (by omega)); (try have q2_1 : w.heap.size + 1 < w2.heap.size := (by omega)); (try have q2_2 : w.heap.size + 2 < w2.heap.size := (by omega)); (try have q2_3 : w.heap.size + 3 < w2.heap.size := (by omega)); (try have q2_1_0 : w1.heap.size < w2.heap.size := (by omega)); (try have q2_1_1 : w1.heap.size + 1 < w2.heap.size := (by omega)))
      go_wp2
      (refine bodyPost_ret (by simp [results, Try.results22, go_sem, *]; try rfl) rfl ?_)
      exact ⟨ret_rv HM.out, by (repeat' (first | (with_reducible exact Below.refl _ _) | (with_reducible assumption) | (with_reducible refine Below.alloc ?_ ?_ _) | (with_reducible refine Below.drew ?_) | (with_reducible refine below_drewN ?_ _) | (with_reducible refine Below.setCell ?_ ?_ _) | (with_reducible refine below_call ?_ ?_ (by assumption)) | go_size))⟩
    · obtain ⟨⟨a1, a2, a3, a4⟩, a5, a6⟩ := handB_bd ga
      obtain ⟨b1, b2, b3, b4⟩ := goodB_bd gb
      have HM := Lib.hid (show mk (n * td + s * tn * d) (d * td) = handAtT n d s tn td from by simp [handAtT, ga, gb])
      (go_enter Try.func22, Try.ntmps22)
      go_wp2_with fail
      refine (isHand_is _ _ _ ga _).mono ?_
      (rintro e1 w1 ⟨rfl, hb1⟩; obtain ⟨hc1, hf1⟩ := bcell hb1; have hz1 := hb1.size; (try simp only [World.size_alloc, World.size_setCell, World.size_drew] at hz1); have q1 : w.heap.size ≤ w1.heap.size := (by omega); (try have q1_0 : w.heap.size < w1.heap.size := (by omega)); (try have q1_1 : w.heap.size + 1 < w1.heap.size := (by omega)); (try have q1_2 : w.heap.size + 2 < w1.heap.size := (by omega)); (try have q1_3 : w.heap.size + 3 < w1.heap.size := (by omega)))
      go_wp2_with fail
      refine (isTurn_is _ _ gb _).mono ?_
      (rintro e2 w2 ⟨rfl, hb2⟩; obtain ⟨hc2, hf2⟩ := bcell hb2; have hz2 := hb2.size; (try simp only [World.size_alloc, World.size_setCell, World.size_drew] at hz2); have q2 : w.heap.size ≤ w2.heap.size := (by omega); (try have q2_0 : w.heap.size < w2.heap.size := (by omega)); (try have q2_1 : w.heap.size + 1 < w2.heap.size := (by omega)); (try have q2_2 : w.heap.size + 2 < w2.heap.size := (by omega)); (try have q2_3 : w.heap.size + 3 < w2.heap.size := (by omega)); (try have q2_1_0 : w1.heap.size < w2.heap.size := (by omega)); (try have q2_1_1 : w1.heap.size + 1 < w2.heap.size := (by omega)))
      go_wp2_with fail
      refine (placeAt_any n d s tn td ⟨by omega, by omega⟩ ⟨by omega, by omega⟩ ⟨by omega, by omega⟩ ⟨by omega, by omega⟩ ⟨by omega, by omega⟩ _).mono ?_
      (rintro e3 w3 ⟨rfl, hb3⟩; obtain ⟨hc3, hf3⟩ := bcell hb3; have hz3 := hb3.size; (try simp only [World.size_alloc, World.size_setCell, World.size_drew] at hz3); have q3 : w.heap.size ≤ w3.heap.size := (by omega); (try have q3_0 : w.heap.size < w3.heap.size := (by omega)); (try have q3_1 : w.heap.size + 1 < w3.heap.size := (by omega)); (try have q3_2 : w.heap.size + 2 < w3.heap.size := (by omega)); (try have q3_3 : w.heap.size + 3 < w3.heap.size := (by omega)); (try have q3_1_0 : w1.heap.size < w3.heap.size := (by omega)); (try have q3_1_1 : w1.heap.size + 1 < w3.heap.size := (by omega)); (try have q3_2_0 : w2.heap.size < w3.heap.size := (by omega)); (try have q3_2_1 : w2.heap.size + 1 < w3.heap.size := (by omega)))
      go_wp2_with fail
      refine (limitedTurn_low (n * td + s * tn * d) (d * td) _).mono ?_
      (rintro e4 w4 ⟨rfl, hb4⟩; obtain ⟨hc4, hf4⟩ := bcell hb4; have hz4 := hb4.size; (try simp only [World.size_alloc, World.size_setCell, World.size_drew] at hz4); have q4 : w.heap.size ≤ w4.heap.size := (by omega); (try have q4_0 : w.heap.size < w4.heap.size := (by omega)); (try have q4_1 : w.heap.size + 1 < w4.heap.size := (by omega)); (try have q4_2 : w.heap.size + 2 < w4.heap.size := (by omega)); (try have q4_3 : w.heap.size + 3 < w4.heap.size := (by omega)); (try have q4_1_0 : w1.heap.size < w4.heap.size := (by omega)); (try have q4_1_1 : w1.heap.size + 1 < w4.heap.size := (by omega)); (try have q4_2_0 : w2.heap.size < w4.heap.size := (by omega)); (try have q4_2_1 : w2.heap.size + 1 < w4.heap.size := (by omega)); (try have q4_3_0 : w3.heap.size < w4.heap.size := (by omega)); (try have q4_3_1 : w3.heap.size + 1 < w4.heap.size := (by omega)))
      go_wp2
      (refine bodyPost_ret (by simp [results, Try.results22, go_sem, *]; try rfl) rfl ?_)
      exact ⟨ret_rv HM.out, by (repeat' (first | (with_reducible exact Below.refl _ _) | (with_reducible assumption) | (with_reducible refine Below.alloc ?_ ?_ _) | (with_reducible refine Below.drew ?_) | (with_reducible refine below_drewN ?_ _) | (with_reducible refine Below.setCell ?_ ?_ _) | (with_reducible refine below_call ?_ ?_ (by assumption)) | go_size))⟩

set_option maxHeartbeats 400000 in
theorem specHandAt_any (n d s tn td : Int) (kd : (-9223372036854775808 ≤ d ∧ d ≤ 9223372036854775807)) (ktd : (-9223372036854775808 ≤ td ∧ td ≤ 9223372036854775807)) (w : World) :
    Calls Try.prog 42 #[hv n d s, tv tn td] w fun e w' => e = .returned (rv (handAtT n d s tn td)) ∧ Below w.heap.size w w' := by
  cases ga : handB n d s
  · have HM := Lib.hid (show fail3 = handAtT n d s tn td from by simp [handAtT, ga])
    (go_enter Try.func42, Try.ntmps42)
    go_wp2_with fail
    refine (meGood_is _ _ _ ga kd _).mono ?_
    (rintro e1 w1 ⟨rfl, hb1⟩; obtain ⟨hc1, hf1⟩ := bcell hb1; have hz1 := hb1.size; (try simp only [World.size_alloc, World.size_setCell, World.size_drew] at hz1); have q1 : w.heap.size ≤ w1.heap.size := (by omega); (try have q1_0 : w.heap.size < w1.heap.size := (by omega)); (try have q1_1 : w.heap.size + 1 < w1.heap.size := (by omega)); (try have q1_2 : w.heap.size + 2 < w1.heap.size := (by omega)); (try have q1_3 : w.heap.size + 3 < w1.heap.size := (by omega)))
    go_wp2
    (refine bodyPost_ret (by simp [results, Try.results42, go_sem, *]; try rfl) rfl ?_)
    exact ⟨ret_rv HM.out, by (repeat' (first | (with_reducible exact Below.refl _ _) | (with_reducible assumption) | (with_reducible refine Below.alloc ?_ ?_ _) | (with_reducible refine Below.drew ?_) | (with_reducible refine below_drewN ?_ _) | (with_reducible refine Below.setCell ?_ ?_ _) | (with_reducible refine below_call ?_ ?_ (by assumption)) | go_size))⟩
  · cases gb : goodB tn td
    · have HM := Lib.hid (show fail3 = handAtT n d s tn td from by simp [handAtT, ga, gb])
      (go_enter Try.func42, Try.ntmps42)
      go_wp2_with fail
      refine (meGood_is _ _ _ ga kd _).mono ?_
      (rintro e1 w1 ⟨rfl, hb1⟩; obtain ⟨hc1, hf1⟩ := bcell hb1; have hz1 := hb1.size; (try simp only [World.size_alloc, World.size_setCell, World.size_drew] at hz1); have q1 : w.heap.size ≤ w1.heap.size := (by omega); (try have q1_0 : w.heap.size < w1.heap.size := (by omega)); (try have q1_1 : w.heap.size + 1 < w1.heap.size := (by omega)); (try have q1_2 : w.heap.size + 2 < w1.heap.size := (by omega)); (try have q1_3 : w.heap.size + 3 < w1.heap.size := (by omega)))
      go_wp2_with fail
      refine (diGood_is _ _ gb ktd _).mono ?_
      (rintro e2 w2 ⟨rfl, hb2⟩; obtain ⟨hc2, hf2⟩ := bcell hb2; have hz2 := hb2.size; (try simp only [World.size_alloc, World.size_setCell, World.size_drew] at hz2); have q2 : w.heap.size ≤ w2.heap.size := (by omega); (try have q2_0 : w.heap.size < w2.heap.size := (by omega)); (try have q2_1 : w.heap.size + 1 < w2.heap.size := (by omega)); (try have q2_2 : w.heap.size + 2 < w2.heap.size := (by omega)); (try have q2_3 : w.heap.size + 3 < w2.heap.size := (by omega)); (try have q2_1_0 : w1.heap.size < w2.heap.size := (by omega)); (try have q2_1_1 : w1.heap.size + 1 < w2.heap.size := (by omega)))
      go_wp2
      (refine bodyPost_ret (by simp [results, Try.results42, go_sem, *]; try rfl) rfl ?_)
      exact ⟨ret_rv HM.out, by (repeat' (first | (with_reducible exact Below.refl _ _) | (with_reducible assumption) | (with_reducible refine Below.alloc ?_ ?_ _) | (with_reducible refine Below.drew ?_) | (with_reducible refine below_drewN ?_ _) | (with_reducible refine Below.setCell ?_ ?_ _) | (with_reducible refine below_call ?_ ?_ (by assumption)) | go_size))⟩
    · obtain ⟨⟨a1, a2, a3, a4⟩, a5, a6⟩ := handB_bd ga
      obtain ⟨b1, b2, b3, b4⟩ := goodB_bd gb
      have HM := Lib.hid (show mk (n * td + s * tn * d) (d * td) = handAtT n d s tn td from by simp [handAtT, ga, gb])
      (go_enter Try.func42, Try.ntmps42)
      go_wp2_with fail
      refine (meGood_is _ _ _ ga kd _).mono ?_
      (rintro e1 w1 ⟨rfl, hb1⟩; obtain ⟨hc1, hf1⟩ := bcell hb1; have hz1 := hb1.size; (try simp only [World.size_alloc, World.size_setCell, World.size_drew] at hz1); have q1 : w.heap.size ≤ w1.heap.size := (by omega); (try have q1_0 : w.heap.size < w1.heap.size := (by omega)); (try have q1_1 : w.heap.size + 1 < w1.heap.size := (by omega)); (try have q1_2 : w.heap.size + 2 < w1.heap.size := (by omega)); (try have q1_3 : w.heap.size + 3 < w1.heap.size := (by omega)))
      go_wp2_with fail
      refine (diGood_is _ _ gb ktd _).mono ?_
      (rintro e2 w2 ⟨rfl, hb2⟩; obtain ⟨hc2, hf2⟩ := bcell hb2; have hz2 := hb2.size; (try simp only [World.size_alloc, World.size_setCell, World.size_drew] at hz2); have q2 : w.heap.size ≤ w2.heap.size := (by omega); (try have q2_0 : w.heap.size < w2.heap.size := (by omega)); (try have q2_1 : w.heap.size + 1 < w2.heap.size := (by omega)); (try have q2_2 : w.heap.size + 2 < w2.heap.size := (by omega)); (try have q2_3 : w.heap.size + 3 < w2.heap.size := (by omega)); (try have q2_1_0 : w1.heap.size < w2.heap.size := (by omega)); (try have q2_1_1 : w1.heap.size + 1 < w2.heap.size := (by omega)))
      go_wp2_with fail
      refine (meAt_any n d s tn td ⟨by omega, by omega⟩ ⟨by omega, by omega⟩ ⟨by omega, by omega⟩ ⟨by omega, by omega⟩ ⟨by omega, by omega⟩ _).mono ?_
      (rintro e3 w3 ⟨rfl, hb3⟩; obtain ⟨hc3, hf3⟩ := bcell hb3; have hz3 := hb3.size; (try simp only [World.size_alloc, World.size_setCell, World.size_drew] at hz3); have q3 : w.heap.size ≤ w3.heap.size := (by omega); (try have q3_0 : w.heap.size < w3.heap.size := (by omega)); (try have q3_1 : w.heap.size + 1 < w3.heap.size := (by omega)); (try have q3_2 : w.heap.size + 2 < w3.heap.size := (by omega)); (try have q3_3 : w.heap.size + 3 < w3.heap.size := (by omega)); (try have q3_1_0 : w1.heap.size < w3.heap.size := (by omega)); (try have q3_1_1 : w1.heap.size + 1 < w3.heap.size := (by omega)); (try have q3_2_0 : w2.heap.size < w3.heap.size := (by omega)); (try have q3_2_1 : w2.heap.size + 1 < w3.heap.size := (by omega)))
      go_wp2
      (refine bodyPost_ret (by simp [results, Try.results42, go_sem, *]; try rfl) rfl ?_)
      exact ⟨ret_rv HM.out, by (repeat' (first | (with_reducible exact Below.refl _ _) | (with_reducible assumption) | (with_reducible refine Below.alloc ?_ ?_ _) | (with_reducible refine Below.drew ?_) | (with_reducible refine below_drewN ?_ _) | (with_reducible refine Below.setCell ?_ ?_ _) | (with_reducible refine below_call ?_ ?_ (by assumption)) | go_size))⟩

end Go.Proofs.Ytcfiaacpofpioaa
