/- When a clock shows a turn, by the model. -/
import Derived.Test.YtnokjdcgokfdhaaDrift4
set_option linter.unusedSimpArgs false
set_option linter.unusedVariables false
set_option maxRecDepth 100000
namespace Go.Proofs.Ytnokjdcgokfdhaa
open Go.RowKit

theorem rem_up {m D : Int} (hD : 1 ≤ D) (h : -D < m) : (m + D).tmod D = m % D := by
  rw [Int.tmod_eq_emod_of_nonneg (by omega), Int.add_emod_right]
theorem r64 {m D : Int} (h1 : 0 ≤ m % D) (h2 : m % D ≤ 9223372036854775807) (hD : 1 ≤ D) (h : -D < m) : IntKind.i64.wrap ((m + D).tmod D) = m % D := by
  rw [rem_up hD h]; exact w64 ⟨by omega, by omega⟩

set_option maxHeartbeats 3200000 in
theorem specFirstShown_any (n d p q tn td : Int) (kd : (-9223372036854775808 ≤ d ∧ d ≤ 9223372036854775807)) (ktd : (-9223372036854775808 ≤ td ∧ td ≤ 9223372036854775807)) (w : World) :
    Calls Try.prog 42 #[cv n d p q, tv tn td] w fun e w' => e = .returned (rv (shownS n d p q tn td)) ∧ Below w.heap.size w w' := by
  cases ga : clockB n d p q
  · have HM := Lib.hid (show fail3 = shownS n d p q tn td from by simp [shownS, ga])
    (go_enter Try.func42, Try.ntmps42)
    go_wp2_with fail
    refine (drClock_is _ _ _ _ ga kd _).mono ?_
    (rintro e1 w1 ⟨rfl, hb1⟩; obtain ⟨hc1, hf1⟩ := bcell hb1; have hz1 := hb1.size; (try simp only [World.size_alloc, World.size_setCell, World.size_drew] at hz1); have q1 : w.heap.size ≤ w1.heap.size := (by omega); (try have q1_0 : w.heap.size < w1.heap.size := (by omega)); (try have q1_1 : w.heap.size + 1 < w1.heap.size := (by omega)); (try have q1_2 : w.heap.size + 2 < w1.heap.size := (by omega)); (try have q1_3 : w.heap.size + 3 < w1.heap.size := (by omega)))
    go_wp2
    (refine bodyPost_ret (by simp [results, Try.results42, go_sem, *]; try rfl) rfl ?_)
    exact ⟨ret_rv HM.out, by (repeat' (first | (with_reducible exact Below.refl _ _) | (with_reducible assumption) | (with_reducible refine Below.alloc ?_ ?_ _) | (with_reducible refine Below.drew ?_) | (with_reducible refine below_drewN ?_ _) | (with_reducible refine Below.setCell ?_ ?_ _) | (with_reducible refine below_call ?_ ?_ (by assumption)) | go_size))⟩
  · cases gb : goodB tn td
    · have HM := Lib.hid (show fail3 = shownS n d p q tn td from by simp [shownS, ga, gb])
      (go_enter Try.func42, Try.ntmps42)
      go_wp2_with fail
      refine (drClock_is _ _ _ _ ga kd _).mono ?_
      (rintro e1 w1 ⟨rfl, hb1⟩; obtain ⟨hc1, hf1⟩ := bcell hb1; have hz1 := hb1.size; (try simp only [World.size_alloc, World.size_setCell, World.size_drew] at hz1); have q1 : w.heap.size ≤ w1.heap.size := (by omega); (try have q1_0 : w.heap.size < w1.heap.size := (by omega)); (try have q1_1 : w.heap.size + 1 < w1.heap.size := (by omega)); (try have q1_2 : w.heap.size + 2 < w1.heap.size := (by omega)); (try have q1_3 : w.heap.size + 3 < w1.heap.size := (by omega)))
      go_wp2_with fail
      refine (diGood_is _ _ gb ktd _).mono ?_
      (rintro e2 w2 ⟨rfl, hb2⟩; obtain ⟨hc2, hf2⟩ := bcell hb2; have hz2 := hb2.size; (try simp only [World.size_alloc, World.size_setCell, World.size_drew] at hz2); have q2 : w.heap.size ≤ w2.heap.size := (by omega); (try have q2_0 : w.heap.size < w2.heap.size := (by omega)); (try have q2_1 : w.heap.size + 1 < w2.heap.size := (by omega)); (try have q2_2 : w.heap.size + 2 < w2.heap.size := (by omega)); (try have q2_3 : w.heap.size + 3 < w2.heap.size := (by omega)); (try have q2_1_0 : w1.heap.size < w2.heap.size := (by omega)); (try have q2_1_1 : w1.heap.size + 1 < w2.heap.size := (by omega)))
      go_wp2
      (refine bodyPost_ret (by simp [results, Try.results42, go_sem, *]; try rfl) rfl ?_)
      exact ⟨ret_rv HM.out, by (repeat' (first | (with_reducible exact Below.refl _ _) | (with_reducible assumption) | (with_reducible refine Below.alloc ?_ ?_ _) | (with_reducible refine Below.drew ?_) | (with_reducible refine below_drewN ?_ _) | (with_reducible refine Below.setCell ?_ ?_ _) | (with_reducible refine below_call ?_ ?_ (by assumption)) | go_size))⟩
    · obtain ⟨⟨a1, a2, a3, a4⟩, ⟨a5, a6⟩, ⟨a7, a8⟩, a9, a10⟩ := clockB_bd ga
      obtain ⟨b1, b2, b3, b4, -⟩ := (goodB_iff _ _).1 gb
      obtain ⟨x1, x2⟩ := mulb a3 (show n ≤ 1000 by omega) (show 0 ≤ td by omega) b2
      obtain ⟨x3, x4⟩ := mulb b3 (show tn ≤ 1000000 by omega) (show 0 ≤ d by omega) a2
      obtain ⟨x5, x6⟩ := mulb (show 0 ≤ d by omega) a2 (show 0 ≤ td by omega) b2
      have x7 : 1 ≤ d * td := Int.mul_pos (by omega) (by omega)
      have x8 : tn * d < d * td := by rw [Int.mul_comm d td]; exact Int.mul_lt_mul_of_pos_right (by omega) (by omega)
      have x9 : n * td < d * td := Int.mul_lt_mul_of_pos_right (by omega) (by omega)
      have w1' := w64 (n := n * td) (by omega)
      have w2' := w64 (n := tn * d) (by omega)
      have w3' := w64 (n := n * td - tn * d) (by omega)
      have w4' := w64 (n := d * td) (by omega)
      have y1 : 0 ≤ (n * td - tn * d) % (d * td) := Int.emod_nonneg _ (by omega)
      have y2 : (n * td - tn * d) % (d * td) < d * td := Int.emod_lt_of_pos _ (by omega)
      have w5' := r64 (m := n * td - tn * d) (D := d * td) y1 (by omega) x7 (by omega)
      have w6' := w64 (n := n * td - tn * d + d * td) (by omega)
      have z1 := gcd_pos_of ((n * td - tn * d) % (d * td)) (d * td) x7
      have z2 : ¬ gc ((n * td - tn * d) % (d * td)) (d * td) = 0 := by omega
      have w7' := q64 (n := (n * td - tn * d) % (d * td)) (g := gc ((n * td - tn * d) % (d * td)) (d * td)) y1 (by omega) z1
      have w8' := q64 (n := d * td) (g := gc ((n * td - tn * d) % (d * td)) (d * td)) (by omega) (by omega) z1
      have l1 := low_bd (n * td - tn * d) (d * td) x7
      have l2 := low_lt (n * td - tn * d) (d * td) x7
      have zne : ¬ d * td = 0 := by omega
      have HF := Lib.hid (fun W => drFirst_any (lowNum (n * td - tn * d) (d * td)) (lowDen (n * td - tn * d) (d * td)) p q true ⟨by omega, by omega⟩ ⟨by omega, by omega⟩ ⟨by omega, by omega⟩ ⟨by omega, by omega⟩ W)
      clear l1 l2
      have HM := Lib.hid (show firstF (lowNum (n * td - tn * d) (d * td)) (lowDen (n * td - tn * d) (d * td)) p q true = shownS n d p q tn td from by simp [shownS, ga, gb])
      (go_enter Try.func42, Try.ntmps42)
      go_wp2_with fail
      refine (drClock_is _ _ _ _ ga kd _).mono ?_
      (rintro e1 w1 ⟨rfl, hb1⟩; obtain ⟨hc1, hf1⟩ := bcell hb1; have hz1 := hb1.size; (try simp only [World.size_alloc, World.size_setCell, World.size_drew] at hz1); have q1 : w.heap.size ≤ w1.heap.size := (by omega); (try have q1_0 : w.heap.size < w1.heap.size := (by omega)); (try have q1_1 : w.heap.size + 1 < w1.heap.size := (by omega)); (try have q1_2 : w.heap.size + 2 < w1.heap.size := (by omega)); (try have q1_3 : w.heap.size + 3 < w1.heap.size := (by omega)))
      go_wp2_with fail
      refine (diGood_is _ _ gb ktd _).mono ?_
      (rintro e2 w2 ⟨rfl, hb2⟩; obtain ⟨hc2, hf2⟩ := bcell hb2; have hz2 := hb2.size; (try simp only [World.size_alloc, World.size_setCell, World.size_drew] at hz2); have q2 : w.heap.size ≤ w2.heap.size := (by omega); (try have q2_0 : w.heap.size < w2.heap.size := (by omega)); (try have q2_1 : w.heap.size + 1 < w2.heap.size := (by omega)); (try have q2_2 : w.heap.size + 2 < w2.heap.size := (by omega)); (try have q2_3 : w.heap.size + 3 < w2.heap.size := (by omega)); (try have q2_1_0 : w1.heap.size < w2.heap.size := (by omega)); (try have q2_1_1 : w1.heap.size + 1 < w2.heap.size := (by omega)))
      go_wp2_with fail
      refine wp_region_below (by kernel_rfl) (by kernel_rfl) ?_
      (apply wpB_take (hw := rfl); (intro wq hq; obtain ⟨hcq, hfq⟩ := bcell hq; unfold atB; go_simp; exact ⟨rfl, rfl⟩); simp only [Act.put, List.setIfInBounds_toArray, List.set_cons_zero, List.set_cons_succ])
      (apply wpB_take (hw := rfl); (intro wq hq; obtain ⟨hcq, hfq⟩ := bcell hq; unfold atB; go_simp; exact ⟨rfl, rfl⟩); simp only [Act.put, List.setIfInBounds_toArray, List.set_cons_zero, List.set_cons_succ])
      (apply wpB_take (hw := rfl); (intro wq hq; obtain ⟨hcq, hfq⟩ := bcell hq; unfold atB; go_simp; exact ⟨rfl, rfl⟩); simp only [Act.put, List.setIfInBounds_toArray, List.set_cons_zero, List.set_cons_succ])
      (apply wpB_take (hw := rfl); (intro wq hq; obtain ⟨hcq, hfq⟩ := bcell hq; unfold atB; go_simp; exact ⟨rfl, rfl⟩); simp only [Act.put, List.setIfInBounds_toArray, List.set_cons_zero, List.set_cons_succ])
      (apply wpB_take (hw := rfl); (intro wq hq; obtain ⟨hcq, hfq⟩ := bcell hq; unfold atB; go_simp; exact ⟨rfl, rfl⟩); simp only [Act.put, List.setIfInBounds_toArray, List.set_cons_zero, List.set_cons_succ])
      (apply wpB_take (hw := rfl); (intro wq hq; obtain ⟨hcq, hfq⟩ := bcell hq; unfold atB; go_simp; exact ⟨rfl, rfl⟩); simp only [Act.put, List.setIfInBounds_toArray, List.set_cons_zero, List.set_cons_succ])
      (apply wpB_take (hw := rfl); (intro wq hq; obtain ⟨hcq, hfq⟩ := bcell hq; unfold atB; go_simp; exact ⟨rfl, rfl⟩); simp only [Act.put, List.setIfInBounds_toArray, List.set_cons_zero, List.set_cons_succ])
      (apply wpB_take (hw := rfl); (intro wq hq; obtain ⟨hcq, hfq⟩ := bcell hq; unfold atB; go_simp; exact ⟨rfl, rfl⟩); simp only [Act.put, List.setIfInBounds_toArray, List.set_cons_zero, List.set_cons_succ])
      (apply wpB_take (hw := rfl); (intro wq hq; obtain ⟨hcq, hfq⟩ := bcell hq; unfold atB; go_simp; exact ⟨rfl, rfl⟩); simp only [Act.put, List.setIfInBounds_toArray, List.set_cons_zero, List.set_cons_succ])
      (apply wpB_take (hw := rfl); (intro wq hq; obtain ⟨hcq, hfq⟩ := bcell hq; unfold atB; go_simp; exact ⟨rfl, rfl⟩); simp only [Act.put, List.setIfInBounds_toArray, List.set_cons_zero, List.set_cons_succ])
      (apply wpB_take (hw := rfl); (intro wq hq; obtain ⟨hcq, hfq⟩ := bcell hq; unfold atB; go_simp; exact ⟨rfl, rfl⟩); simp only [Act.put, List.setIfInBounds_toArray, List.set_cons_zero, List.set_cons_succ])
      (apply wpB_take (hw := rfl); (intro wq hq; obtain ⟨hcq, hfq⟩ := bcell hq; unfold atB; go_simp; exact ⟨rfl, rfl⟩); simp only [Act.put, List.setIfInBounds_toArray, List.set_cons_zero, List.set_cons_succ])
      (apply wpB_take (hw := rfl); (intro wq hq; obtain ⟨hcq, hfq⟩ := bcell hq; unfold atB; go_simp; exact ⟨rfl, rfl⟩); simp only [Act.put, List.setIfInBounds_toArray, List.set_cons_zero, List.set_cons_succ])
      (apply wpB_take (hw := rfl); (intro wq hq; obtain ⟨hcq, hfq⟩ := bcell hq; unfold atB; go_simp; exact ⟨rfl, rfl⟩); simp only [Act.put, List.setIfInBounds_toArray, List.set_cons_zero, List.set_cons_succ])
      (apply wpB_take (hw := rfl); (intro wq hq; obtain ⟨hcq, hfq⟩ := bcell hq; unfold atB; go_simp; exact ⟨rfl, rfl⟩); simp only [Act.put, List.setIfInBounds_toArray, List.set_cons_zero, List.set_cons_succ])
      (apply wpB_take (hw := rfl); (intro wq hq; obtain ⟨hcq, hfq⟩ := bcell hq; unfold atB; go_simp; exact ⟨rfl, rfl⟩); simp only [Act.put, List.setIfInBounds_toArray, List.set_cons_zero, List.set_cons_succ])
      (apply wpB_take (hw := rfl); (intro wq hq; obtain ⟨hcq, hfq⟩ := bcell hq; unfold atB; go_simp; exact ⟨rfl, rfl⟩); simp only [Act.put, List.setIfInBounds_toArray, List.set_cons_zero, List.set_cons_succ])
      (apply wpB_take (hw := rfl); (intro wq hq; obtain ⟨hcq, hfq⟩ := bcell hq; unfold atB; go_simp; exact ⟨rfl, rfl⟩); simp only [Act.put, List.setIfInBounds_toArray, List.set_cons_zero, List.set_cons_succ])
      (apply wpB_take (hw := rfl); (intro wq hq; obtain ⟨hcq, hfq⟩ := bcell hq; unfold atB; go_simp; exact ⟨rfl, rfl⟩); simp only [Act.put, List.setIfInBounds_toArray, List.set_cons_zero, List.set_cons_succ])
      (apply wpB_take (hw := rfl); (intro wq hq; obtain ⟨hcq, hfq⟩ := bcell hq; unfold atB; go_simp; exact ⟨rfl, rfl⟩); simp only [Act.put, List.setIfInBounds_toArray, List.set_cons_zero, List.set_cons_succ])
      (apply wpB_take (hw := rfl); (intro wq hq; obtain ⟨hcq, hfq⟩ := bcell hq; unfold atB; go_simp; exact ⟨rfl, rfl⟩); simp only [Act.put, List.setIfInBounds_toArray, List.set_cons_zero, List.set_cons_succ])
      refine fun w3 hb3 => ?_
      (obtain ⟨hc3, hf3⟩ := bcell hb3; have hz3 := hb3.size; (try simp only [World.size_alloc, World.size_setCell, World.size_drew] at hz3); have q3 : w.heap.size ≤ w3.heap.size := (by omega); (try have q3_0 : w.heap.size < w3.heap.size := (by omega)); (try have q3_1 : w.heap.size + 1 < w3.heap.size := (by omega)); (try have q3_2 : w.heap.size + 2 < w3.heap.size := (by omega)); (try have q3_3 : w.heap.size + 3 < w3.heap.size := (by omega)); (try have p3_1 : b1 < w3.heap.size := (by omega)); (try have p3_2 : b2 < w3.heap.size := (by omega)); try simp only [Act.put, List.setIfInBounds_toArray, List.set_cons_zero, List.set_cons_succ])
      go_wp2_with fail
      refine (diCommon_any ((n * td - tn * d) % (d * td)) (d * td) y1 (by omega) _).mono ?_
      (rintro e4 w4 ⟨rfl, hb4⟩; obtain ⟨hc4, hf4⟩ := bcell hb4; have hz4 := hb4.size; (try simp only [World.size_alloc, World.size_setCell, World.size_drew] at hz4); have q4 : w.heap.size ≤ w4.heap.size := (by omega); (try have q4_0 : w.heap.size < w4.heap.size := (by omega)); (try have q4_1 : w.heap.size + 1 < w4.heap.size := (by omega)); (try have q4_2 : w.heap.size + 2 < w4.heap.size := (by omega)); (try have q4_3 : w.heap.size + 3 < w4.heap.size := (by omega)); (try have q4_1_0 : w1.heap.size < w4.heap.size := (by omega)); (try have q4_1_1 : w1.heap.size + 1 < w4.heap.size := (by omega)); (try have q4_2_0 : w2.heap.size < w4.heap.size := (by omega)); (try have q4_2_1 : w2.heap.size + 1 < w4.heap.size := (by omega)); (try have q4_3_0 : w3.heap.size < w4.heap.size := (by omega)); (try have q4_3_1 : w3.heap.size + 1 < w4.heap.size := (by omega)))
      go_wp2_with fail
      refine wp_region_btail 14 (by kernel_rfl) (by kernel_rfl) ?_
      simp only [List.take_succ_cons, List.take_zero, List.drop_succ_cons, List.drop_zero]
      (apply wpB_take (hw := rfl); (intro wq hq; obtain ⟨hcq, hfq⟩ := bcell hq; unfold atB; go_simp; exact ⟨rfl, rfl⟩); simp only [Act.put, List.setIfInBounds_toArray, List.set_cons_zero, List.set_cons_succ])
      (apply wpB_take (hw := rfl); (intro wq hq; obtain ⟨hcq, hfq⟩ := bcell hq; unfold atB; go_simp; exact ⟨rfl, rfl⟩); simp only [Act.put, List.setIfInBounds_toArray, List.set_cons_zero, List.set_cons_succ])
      (apply wpB_take (hw := rfl); (intro wq hq; obtain ⟨hcq, hfq⟩ := bcell hq; unfold atB; go_simp; exact ⟨rfl, rfl⟩); simp only [Act.put, List.setIfInBounds_toArray, List.set_cons_zero, List.set_cons_succ])
      (apply wpB_take (hw := rfl); (intro wq hq; obtain ⟨hcq, hfq⟩ := bcell hq; unfold atB; go_simp; exact ⟨rfl, rfl⟩); simp only [Act.put, List.setIfInBounds_toArray, List.set_cons_zero, List.set_cons_succ])
      (apply wpB_take (hw := rfl); (intro wq hq; obtain ⟨hcq, hfq⟩ := bcell hq; unfold atB; go_simp; exact ⟨rfl, rfl⟩); simp only [Act.put, List.setIfInBounds_toArray, List.set_cons_zero, List.set_cons_succ])
      (apply wpB_take (hw := rfl); (intro wq hq; obtain ⟨hcq, hfq⟩ := bcell hq; unfold atB; go_simp; exact ⟨rfl, rfl⟩); simp only [Act.put, List.setIfInBounds_toArray, List.set_cons_zero, List.set_cons_succ])
      (apply wpB_take (hw := rfl); (intro wq hq; obtain ⟨hcq, hfq⟩ := bcell hq; unfold atB; go_simp; exact ⟨rfl, rfl⟩); simp only [Act.put, List.setIfInBounds_toArray, List.set_cons_zero, List.set_cons_succ])
      (apply wpB_take (hw := rfl); (intro wq hq; obtain ⟨hcq, hfq⟩ := bcell hq; unfold atB; go_simp; exact ⟨rfl, rfl⟩); simp only [Act.put, List.setIfInBounds_toArray, List.set_cons_zero, List.set_cons_succ])
      (apply wpB_take (hw := rfl); (intro wq hq; obtain ⟨hcq, hfq⟩ := bcell hq; unfold atB; go_simp; exact ⟨rfl, rfl⟩); simp only [Act.put, List.setIfInBounds_toArray, List.set_cons_zero, List.set_cons_succ])
      (apply wpB_take (hw := rfl); (intro wq hq; obtain ⟨hcq, hfq⟩ := bcell hq; unfold atB; go_simp; exact ⟨rfl, rfl⟩); simp only [Act.put, List.setIfInBounds_toArray, List.set_cons_zero, List.set_cons_succ])
      (apply wpB_take (hw := rfl); (intro wq hq; obtain ⟨hcq, hfq⟩ := bcell hq; unfold atB; go_simp; exact ⟨rfl, rfl⟩); simp only [Act.put, List.setIfInBounds_toArray, List.set_cons_zero, List.set_cons_succ])
      (apply wpB_take (hw := rfl); (intro wq hq; unfold atB; go_simp; exact ⟨rfl, HF.out _⟩); simp only [Act.put, List.setIfInBounds_toArray, List.set_cons_zero, List.set_cons_succ])
      (apply wpB_take (hw := rfl); (intro wq hq; obtain ⟨hcq, hfq⟩ := bcell hq; unfold atB; go_simp; exact ⟨rfl, rfl⟩); simp only [Act.put, List.setIfInBounds_toArray, List.set_cons_zero, List.set_cons_succ])
      (apply wpB_take (hw := rfl); (intro wq hq; obtain ⟨hcq, hfq⟩ := bcell hq; unfold atB; go_simp; exact ⟨rfl, rfl⟩); simp only [Act.put, List.setIfInBounds_toArray, List.set_cons_zero, List.set_cons_succ])
      refine fun w5 hb5 => ?_
      (obtain ⟨hc5, hf5⟩ := bcell hb5; have hz5 := hb5.size; (try simp only [World.size_alloc, World.size_setCell, World.size_drew] at hz5); have q5 : w.heap.size ≤ w5.heap.size := (by omega); (try have q5_0 : w.heap.size < w5.heap.size := (by omega)); (try have q5_1 : w.heap.size + 1 < w5.heap.size := (by omega)); (try have q5_2 : w.heap.size + 2 < w5.heap.size := (by omega)); (try have q5_3 : w.heap.size + 3 < w5.heap.size := (by omega)); (try have p5_1 : b1 < w5.heap.size := (by omega)); (try have p5_2 : b2 < w5.heap.size := (by omega)); (try have p5_3 : b3 < w5.heap.size := (by omega)); (try have p5_4 : b4 < w5.heap.size := (by omega)); try simp only [Act.put, List.setIfInBounds_toArray, List.set_cons_zero, List.set_cons_succ])
      go_wp2
      (refine bodyPost_ret (by simp [results, Try.results42, go_sem, *]; try rfl) rfl ?_)
      exact ⟨ret_rv HM.out, by (repeat' (first | (with_reducible exact Below.refl _ _) | (with_reducible assumption) | (with_reducible refine Below.alloc ?_ ?_ _) | (with_reducible refine Below.drew ?_) | (with_reducible refine below_drewN ?_ _) | (with_reducible refine Below.setCell ?_ ?_ _) | (with_reducible refine below_call ?_ ?_ (by assumption)) | go_size))⟩

end Go.Proofs.Ytnokjdcgokfdhaa
