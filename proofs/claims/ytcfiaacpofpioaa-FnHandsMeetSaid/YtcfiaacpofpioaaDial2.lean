/- Turns: added, multiplied, divided, compared by the model, multiplied, divided and compared by the program. -/
import Derived.Test.YtcfiaacpofpioaaDial1
set_option linter.unusedSimpArgs false
set_option linter.unusedVariables false
set_option maxRecDepth 100000
namespace Go.Proofs.Ytcfiaacpofpioaa
open Go.RowKit

theorem mulk {n k A K : Int} (h1 : 0 ≤ n) (h2 : n ≤ A) (h3 : -K ≤ k) (h4 : k ≤ K) : -(A * K) ≤ n * k ∧ n * k ≤ A * K := by
  have hK : 0 ≤ K := by omega
  have hA : 0 ≤ A := by omega
  constructor
  · have e1 : n * (-K) ≤ n * k := Int.mul_le_mul_of_nonneg_left h3 h1
    have e2 : n * K ≤ A * K := Int.mul_le_mul_of_nonneg_right h2 hK
    rw [Int.mul_neg] at e1; omega
  · have e1 : n * k ≤ n * K := Int.mul_le_mul_of_nonneg_left h4 h1
    have e2 : n * K ≤ A * K := Int.mul_le_mul_of_nonneg_right h2 hK
    omega

set_option maxHeartbeats 400000 in
theorem diAdd_one (an ad bn bd : Int) (ga : 1 ≤ ad ∧ ad ≤ 1000000 ∧ 0 ≤ an ∧ an ≤ 999999) (gb : 1 ≤ bd ∧ bd ≤ 1000000 ∧ 0 ≤ bn ∧ bn ≤ 999999) (w : World) :
    Calls Try.prog 73 #[tv an ad, tv bn bd, .int .i64 1] w fun e w' => e = .returned (rv (mk (an * bd + bn * ad) (ad * bd))) ∧ Below w.heap.size w w' := by
  obtain ⟨a1, a2, a3, a4⟩ := ga
  obtain ⟨b1, b2, b3, b4⟩ := gb
  obtain ⟨p1, p2⟩ := mulb a3 a4 (show 0 ≤ bd by omega) b2
  obtain ⟨p3, p4⟩ := mulb b3 b4 (show 0 ≤ ad by omega) a2
  obtain ⟨p5, p6⟩ := mulb (show 0 ≤ ad by omega) a2 (show 0 ≤ bd by omega) b2
  have p7 : 1 ≤ ad * bd := Int.mul_pos (by omega) (by omega)
  (go_enter Try.func73, Try.ntmps73)
  go_wp2_with fail
  refine (diMake_any (an * bd + bn * ad) (ad * bd) (by omega) (by omega) _).mono ?_
  (rintro e1 w1 ⟨rfl, hb1⟩; obtain ⟨hc1, hf1⟩ := bcell hb1; have hz1 := hb1.size; (try simp only [World.size_alloc, World.size_setCell, World.size_drew] at hz1); have q1 : w.heap.size ≤ w1.heap.size := (by omega); (try have q1_0 : w.heap.size < w1.heap.size := (by omega)); (try have q1_1 : w.heap.size + 1 < w1.heap.size := (by omega)); (try have q1_2 : w.heap.size + 2 < w1.heap.size := (by omega)); (try have q1_3 : w.heap.size + 3 < w1.heap.size := (by omega)))
  go_wp2
  (refine bodyPost_ret (by simp [results, Try.results73, go_sem, *]; try rfl) rfl ?_)
  exact ⟨rfl, by (repeat' (first | (with_reducible exact Below.refl _ _) | (with_reducible assumption) | (with_reducible refine Below.alloc ?_ ?_ _) | (with_reducible refine Below.drew ?_) | (with_reducible refine below_drewN ?_ _) | (with_reducible refine Below.setCell ?_ ?_ _) | (with_reducible refine below_call ?_ ?_ (by assumption)) | go_size))⟩

set_option maxHeartbeats 400000 in
theorem diAdd_less (an ad bn bd : Int) (ga : 1 ≤ ad ∧ ad ≤ 1000000 ∧ 0 ≤ an ∧ an ≤ 999999) (gb : 1 ≤ bd ∧ bd ≤ 1000000 ∧ 0 ≤ bn ∧ bn ≤ 999999) (w : World) :
    Calls Try.prog 73 #[tv an ad, tv bn bd, .int .i64 (-1)] w fun e w' => e = .returned (rv (mk (an * bd - bn * ad) (ad * bd))) ∧ Below w.heap.size w w' := by
  obtain ⟨a1, a2, a3, a4⟩ := ga
  obtain ⟨b1, b2, b3, b4⟩ := gb
  obtain ⟨p1, p2⟩ := mulb a3 a4 (show 0 ≤ bd by omega) b2
  obtain ⟨p3, p4⟩ := mulb b3 b4 (show 0 ≤ ad by omega) a2
  obtain ⟨p5, p6⟩ := mulb (show 0 ≤ ad by omega) a2 (show 0 ≤ bd by omega) b2
  have p7 : 1 ≤ ad * bd := Int.mul_pos (by omega) (by omega)
  have E := Lib.hid (show an * bd + -bn * ad = an * bd - bn * ad from by rw [Int.neg_mul]; omega)
  have p8 : -999999000000 ≤ -bn * ad := by rw [Int.neg_mul]; omega
  have p9 : -bn * ad ≤ 0 := by rw [Int.neg_mul]; omega
  (go_enter Try.func73, Try.ntmps73)
  go_wp2_with fail
  refine (diMake_any _ (ad * bd) (by omega) (by omega) _).mono ?_
  (rintro e1 w1 ⟨rfl, hb1⟩; obtain ⟨hc1, hf1⟩ := bcell hb1; have hz1 := hb1.size; (try simp only [World.size_alloc, World.size_setCell, World.size_drew] at hz1); have q1 : w.heap.size ≤ w1.heap.size := (by omega); (try have q1_0 : w.heap.size < w1.heap.size := (by omega)); (try have q1_1 : w.heap.size + 1 < w1.heap.size := (by omega)); (try have q1_2 : w.heap.size + 2 < w1.heap.size := (by omega)); (try have q1_3 : w.heap.size + 3 < w1.heap.size := (by omega)))
  go_wp2
  (refine bodyPost_ret (by simp [results, Try.results73, go_sem, *]; try rfl) rfl ?_)
  exact ⟨ret_rv (by rw [← E.out]), by (repeat' (first | (with_reducible exact Below.refl _ _) | (with_reducible assumption) | (with_reducible refine Below.alloc ?_ ?_ _) | (with_reducible refine Below.drew ?_) | (with_reducible refine below_drewN ?_ _) | (with_reducible refine Below.setCell ?_ ?_ _) | (with_reducible refine below_call ?_ ?_ (by assumption)) | go_size))⟩

theorem diMake_low (n d : Int) (hd : 1 ≤ d) (hd' : d ≤ 1000000) (w : World) :
    Calls Try.prog 75 #[.int .i64 n, .int .i64 d] w fun e w' => e = .returned (.tuple #[tv (lowNum n d) (lowDen n d), .bool true]) ∧ Below w.heap.size w w' := by
  have h := diMake_any n d hd (by omega) w
  rw [low_fits n d hd hd'] at h
  exact h

set_option maxHeartbeats 400000 in
theorem diTimes_any (n d k : Int) (h1 : 1 ≤ d) (h2 : d ≤ 1000000) (h3 : -9223372036854775808 ≤ n * k) (h4 : n * k ≤ 9223372036854775807) (w : World) :
    Calls Try.prog 90 #[tv n d, .int .i64 k] w fun e w' => e = .returned (tv (lowNum (n * k) d) (lowDen (n * k) d)) ∧ Below w.heap.size w w' := by
  (go_enter Try.func90, Try.ntmps90)
  go_wp2_with fail
  refine (diMake_low (n * k) d h1 h2 _).mono ?_
  (rintro e1 w1 ⟨rfl, hb1⟩; obtain ⟨hc1, hf1⟩ := bcell hb1; have hz1 := hb1.size; (try simp only [World.size_alloc, World.size_setCell, World.size_drew] at hz1); have q1 : w.heap.size ≤ w1.heap.size := (by omega); (try have q1_0 : w.heap.size < w1.heap.size := (by omega)); (try have q1_1 : w.heap.size + 1 < w1.heap.size := (by omega)); (try have q1_2 : w.heap.size + 2 < w1.heap.size := (by omega)); (try have q1_3 : w.heap.size + 3 < w1.heap.size := (by omega)))
  go_wp2
  (refine bodyPost_ret (by simp [results, Try.results90, go_sem, *]; try rfl) rfl ?_)
  exact ⟨rfl, by (repeat' (first | (with_reducible exact Below.refl _ _) | (with_reducible assumption) | (with_reducible refine Below.alloc ?_ ?_ _) | (with_reducible refine Below.drew ?_) | (with_reducible refine below_drewN ?_ _) | (with_reducible refine Below.setCell ?_ ?_ _) | (with_reducible refine below_call ?_ ?_ (by assumption)) | go_size))⟩

end Go.Proofs.Ytcfiaacpofpioaa
