/- Turns compared and mirrored, by the program and by the model. -/
import Derived.Test.YtcfiaacpofpioaaDial2
set_option linter.unusedSimpArgs false
set_option linter.unusedVariables false
set_option maxRecDepth 100000
namespace Go.Proofs.Ytcfiaacpofpioaa
open Go.RowKit

set_option maxHeartbeats 400000 in
theorem isNaN_any (a : Int) (w : World) :
    Calls Try.prog 101 #[.int .i64 a] w fun e w' => e = .returned (.bool false) ∧ w = w' := by
  (go_enter Try.func101, Try.ntmps101)
  go_wp2
  go_ret
  exact ⟨by simp, rfl⟩

set_option maxHeartbeats 400000 in
theorem cmpCompare_any (a b : Int) (w : World) :
    Calls Try.prog 79 #[.int .i64 a, .int .i64 b] w fun e w' => e = .returned (.int .i64 (sg (a - b))) ∧ w = w' := by
  rcases Int.lt_trichotomy (a - b) 0 with h | h | h
  · have HS := Lib.hid (show -1 = sg (a - b) from by unfold sg; rw [if_neg (by omega), if_pos h])
    have h1 : a < b := by omega
    clear h
    (go_enter Try.func79, Try.ntmps79)
    go_wp2_with (first | (go_at_call 101; refine (isNaN_any _ _).mono ?_; (rintro e1 w1 ⟨rfl, rfl⟩)))
    go_ret
    exact ⟨ret_int HS.out, rfl⟩
  · have HS := Lib.hid (show 0 = sg (a - b) from by unfold sg; rw [if_neg (by omega), if_neg (by omega)])
    obtain rfl : a = b := by omega
    clear h
    (go_enter Try.func79, Try.ntmps79)
    go_wp2_with (first | (go_at_call 101; refine (isNaN_any _ _).mono ?_; (rintro e1 w1 ⟨rfl, rfl⟩)))
    go_ret
    exact ⟨ret_int HS.out, rfl⟩
  · have HS := Lib.hid (show 1 = sg (a - b) from by unfold sg; rw [if_pos h])
    have h1 : b < a := by omega
    clear h
    (go_enter Try.func79, Try.ntmps79)
    go_wp2_with (first | (go_at_call 101; refine (isNaN_any _ _).mono ?_; (rintro e1 w1 ⟨rfl, rfl⟩)))
    go_ret
    exact ⟨ret_int HS.out, rfl⟩

set_option maxHeartbeats 400000 in
theorem l1Sign_any (n : Int) (w : World) :
    Calls Try.prog 86 #[.int .i64 n] w fun e w' => e = .returned (.int .i64 (sg n)) ∧ w = w' := by
  rcases Int.lt_trichotomy n 0 with h | h | h
  · have HS := Lib.hid (show -1 = sg n from by unfold sg; rw [if_neg (by omega), if_pos h])
    (go_enter Try.func86, Try.ntmps86)
    go_wp2
    go_ret
    exact ⟨ret_int HS.out, rfl⟩
  · have HS := Lib.hid (show 0 = sg n from by unfold sg; rw [if_neg (by omega), if_neg (by omega)])
    subst h
    (go_enter Try.func86, Try.ntmps86)
    go_wp2
    go_ret
    exact ⟨ret_int HS.out, rfl⟩
  · have HS := Lib.hid (show 1 = sg n from by unfold sg; rw [if_pos h])
    (go_enter Try.func86, Try.ntmps86)
    go_wp2
    go_ret
    exact ⟨ret_int HS.out, rfl⟩

set_option maxHeartbeats 400000 in
theorem diCompare_any (an ad bn bd : Int) (ga : 1 ≤ ad ∧ ad ≤ 1000000 ∧ 0 ≤ an ∧ an ≤ 999999) (gb : 1 ≤ bd ∧ bd ≤ 1000000 ∧ 0 ≤ bn ∧ bn ≤ 999999) (w : World) :
    Calls Try.prog 64 #[tv an ad, tv bn bd] w fun e w' => e = .returned (.int .i64 (sg (an * bd - bn * ad))) ∧ Below w.heap.size w w' := by
  obtain ⟨a1, a2, a3, a4⟩ := ga
  obtain ⟨b1, b2, b3, b4⟩ := gb
  obtain ⟨p1, p2⟩ := mulb a3 a4 (show 0 ≤ bd by omega) b2
  obtain ⟨p3, p4⟩ := mulb b3 b4 (show 0 ≤ ad by omega) a2
  obtain ⟨p5, p6⟩ := mulb (show 0 ≤ ad by omega) a2 (show 0 ≤ bd by omega) b2
  have p7 : 1 ≤ ad * bd := Int.mul_pos (by omega) (by omega)
  (go_enter Try.func64, Try.ntmps64)
  go_wp2_with fail
  refine (l1Sign_any (an * bd - bn * ad) _).mono ?_
  (rintro e1 w1 ⟨rfl, rfl⟩)
  go_wp2
  go_ret
  exact ⟨rfl, by (repeat' (first | (with_reducible exact Below.refl _ _) | (with_reducible assumption) | (with_reducible refine Below.alloc ?_ ?_ _) | (with_reducible refine Below.drew ?_) | (with_reducible refine below_drewN ?_ _) | (with_reducible refine Below.setCell ?_ ?_ _) | (with_reducible refine below_call ?_ ?_ (by assumption)) | go_size))⟩

set_option maxHeartbeats 400000 in
theorem turnOrder_any (an ad bn bd : Int) (ga : 1 ≤ ad ∧ ad ≤ 1000000 ∧ 0 ≤ an ∧ an ≤ 999999) (gb : 1 ≤ bd ∧ bd ≤ 1000000 ∧ 0 ≤ bn ∧ bn ≤ 999999) (w : World) :
    Calls Try.prog 49 #[tv an ad, tv bn bd] w fun e w' => e = .returned (.int .i64 (sg (an * bd - bn * ad))) ∧ Below w.heap.size w w' := by
  obtain ⟨a1, a2, a3, a4⟩ := ga
  obtain ⟨b1, b2, b3, b4⟩ := gb
  obtain ⟨p1, p2⟩ := mulb a3 a4 (show 0 ≤ bd by omega) b2
  obtain ⟨p3, p4⟩ := mulb b3 b4 (show 0 ≤ ad by omega) a2
  obtain ⟨p5, p6⟩ := mulb (show 0 ≤ ad by omega) a2 (show 0 ≤ bd by omega) b2
  have p7 : 1 ≤ ad * bd := Int.mul_pos (by omega) (by omega)
  (go_enter Try.func49, Try.ntmps49)
  go_wp2_with fail
  refine (cmpCompare_any (an * bd) (bn * ad) _).mono ?_
  (rintro e1 w1 ⟨rfl, rfl⟩)
  go_wp2
  go_ret
  exact ⟨rfl, by (repeat' (first | (with_reducible exact Below.refl _ _) | (with_reducible assumption) | (with_reducible refine Below.alloc ?_ ?_ _) | (with_reducible refine Below.drew ?_) | (with_reducible refine below_drewN ?_ _) | (with_reducible refine Below.setCell ?_ ?_ _) | (with_reducible refine below_call ?_ ?_ (by assumption)) | go_size))⟩

def mirrorT (n d : Int) : Int × Int × Bool := if goodB n d then (lowNum (-n) d, lowDen (-n) d, true) else fail3
theorem mirrorT_eq (n d : Int) : mirrorT n d = timesT n d (-1) := by simp [mirrorT, timesT, inB]

set_option maxHeartbeats 400000 in
theorem diMirror_any (n d : Int) (ga : 1 ≤ d ∧ d ≤ 1000000 ∧ 0 ≤ n ∧ n ≤ 999999) (w : World) :
    Calls Try.prog 74 #[tv n d] w fun e w' => e = .returned (tv (lowNum (-n) d) (lowDen (-n) d)) ∧ Below w.heap.size w w' := by
  obtain ⟨a1, a2, a3, a4⟩ := ga
  (go_enter Try.func74, Try.ntmps74)
  go_wp2_with fail
  refine (diTimes_any n d (-1) (by omega) (by omega) (by omega) (by omega) _).mono ?_
  (rintro e1 w1 ⟨rfl, hb1⟩; obtain ⟨hc1, hf1⟩ := bcell hb1; have hz1 := hb1.size; (try simp only [World.size_alloc, World.size_setCell, World.size_drew] at hz1); have q1 : w.heap.size ≤ w1.heap.size := (by omega); (try have q1_0 : w.heap.size < w1.heap.size := (by omega)); (try have q1_1 : w.heap.size + 1 < w1.heap.size := (by omega)); (try have q1_2 : w.heap.size + 2 < w1.heap.size := (by omega)); (try have q1_3 : w.heap.size + 3 < w1.heap.size := (by omega)))
  go_wp2
  (refine bodyPost_ret (by simp [results, Try.results74, go_sem, *]; try rfl) rfl ?_)
  exact ⟨rfl, by (repeat' (first | (with_reducible exact Below.refl _ _) | (with_reducible assumption) | (with_reducible refine Below.alloc ?_ ?_ _) | (with_reducible refine Below.drew ?_) | (with_reducible refine below_drewN ?_ _) | (with_reducible refine Below.setCell ?_ ?_ _) | (with_reducible refine below_call ?_ ?_ (by assumption)) | go_size))⟩

end Go.Proofs.Ytcfiaacpofpioaa
