/- Turns: added, multiplied, divided, compared by the model, multiplied, divided and compared by the program. -/
import Derived.Test.YtcpgjjmamclklaaDial1
set_option linter.unusedSimpArgs false
set_option linter.unusedVariables false
set_option maxRecDepth 100000
namespace Go.Proofs.Ytcpgjjmamclklaa
open Go.RowKit

theorem mulk {n k A K : Int} (h1 : 0 ≤ n) (h2 : n ≤ A) (h3 : -K ≤ k) (h4 : k ≤ K) : -(A * K) ≤ n * k ∧ n * k ≤ A * K := by
  have hK : 0 ≤ K := by omega
  have hA : 0 ≤ A := by omega
  constructor
  · have e1 : n * (-K) ≤ n * k := Int.mul_le_mul_of_nonneg_left h3 h1
    have e2 : n * K ≤ A * K := Int.mul_le_mul_of_nonneg_right h2 hK
    rw [Int.mul_neg] at e1; omega
  · have e1 : n * k ≤ n * K := Int.mul_le_mul_of_nonneg_left h4 h1
    have e2 : n * K ≤ A * K := Int.mul_le_mul_of_nonneg_right h2 hK
    omega

set_option maxHeartbeats 400000 in
theorem manyTimes_any (n d k : Int) (h1 : 1 ≤ d) (h2 : d ≤ 1000000000000000000) (h3 : -9223372036854775808 ≤ n * k) (h4 : n * k ≤ 9223372036854775807) (w : World) :
    Calls Try.prog 132 #[tv n d, .int .i64 k] w fun e w' => e = .returned (tv (lowNum (n * k) d) (lowDen (n * k) d)) ∧ Below w.heap.size w w' := by
  (go_enter Try.func132, Try.ntmps132)
  go_wp2_with fail
  refine (lowest_any (n * k) d h1 h2 _).mono ?_
  (rintro e1 w1 ⟨rfl, hb1⟩; obtain ⟨hc1, hf1⟩ := bcell hb1; have hz1 := hb1.size; (try simp only [World.size_alloc, World.size_setCell, World.size_drew] at hz1); have q1 : w.heap.size ≤ w1.heap.size := (by omega); (try have q1_0 : w.heap.size < w1.heap.size := (by omega)); (try have q1_1 : w.heap.size + 1 < w1.heap.size := (by omega)); (try have q1_2 : w.heap.size + 2 < w1.heap.size := (by omega)); (try have q1_3 : w.heap.size + 3 < w1.heap.size := (by omega)))
  go_wp2
  (refine bodyPost_ret (by simp [results, Try.results132, go_sem, *]; try rfl) rfl ?_)
  exact ⟨rfl, by (repeat' (first | (with_reducible exact Below.refl _ _) | (with_reducible assumption) | (with_reducible refine Below.alloc ?_ ?_ _) | (with_reducible refine Below.drew ?_) | (with_reducible refine below_drewN ?_ _) | (with_reducible refine Below.setCell ?_ ?_ _) | (with_reducible refine below_call ?_ ?_ (by assumption)) | go_size))⟩

theorem diMake_low (n d : Int) (hd : 1 ≤ d) (hd' : d ≤ 1000000) (w : World) :
    Calls Try.prog 111 #[.int .i64 n, .int .i64 d] w fun e w' => e = .returned (.tuple #[tv (lowNum n d) (lowDen n d), .bool true]) ∧ Below w.heap.size w w' := by
  have h := diMake_any n d hd (by omega) w
  rw [low_fits n d hd hd'] at h
  exact h

end Go.Proofs.Ytcpgjjmamclklaa
