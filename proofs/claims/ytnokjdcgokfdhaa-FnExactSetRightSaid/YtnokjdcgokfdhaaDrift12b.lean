/- How clocks are set right: by the model. -/
import Derived.Test.YtnokjdcgokfdhaaDrift12
import Derived.Test.YtnokjdcgokfdhaaLate0
set_option linter.unusedSimpArgs false
set_option linter.unusedVariables false
set_option maxRecDepth 100000
namespace Go.Proofs.Ytnokjdcgokfdhaa
open Go.RowKit

set_option maxHeartbeats 1600000 in
theorem specSetRight_any (n d p q sn sd : Int) (kd : (-9223372036854775808 ≤ d ∧ d ≤ 9223372036854775807)) (w : World) :
    Calls Try.prog 52 #[cv n d p q, tv sn sd] w fun e w' => e = .returned (rc (setS n d p q sn sd)) ∧ Below w.heap.size w w' := by
  cases g2 : drTwoB n d p q sn sd
  · have HM := Lib.hid (show fail5 = setS n d p q sn sd from by simp [setS, g2])
    (go_enter Try.func52, Try.ntmps52)
    go_wp2_with fail
    refine (drTwo_is _ _ _ _ _ _ g2 kd _).mono ?_
    (rintro e1 w1 ⟨rfl, hb1⟩; obtain ⟨hc1, hf1⟩ := bcell hb1; have hz1 := hb1.size; (try simp only [World.size_alloc, World.size_setCell, World.size_drew] at hz1); have q1 : w.heap.size ≤ w1.heap.size := (by omega); (try have q1_0 : w.heap.size < w1.heap.size := (by omega)); (try have q1_1 : w.heap.size + 1 < w1.heap.size := (by omega)); (try have q1_2 : w.heap.size + 2 < w1.heap.size := (by omega)); (try have q1_3 : w.heap.size + 3 < w1.heap.size := (by omega)))
    go_wp2
    (refine bodyPost_ret (by simp [results, Try.results52, go_sem, *]; try rfl) rfl ?_)
    exact ⟨ret_rc HM.out, by (repeat' (first | (with_reducible exact Below.refl _ _) | (with_reducible assumption) | (with_reducible refine Below.alloc ?_ ?_ _) | (with_reducible refine Below.drew ?_) | (with_reducible refine below_drewN ?_ _) | (with_reducible refine Below.setCell ?_ ?_ _) | (with_reducible refine below_call ?_ ?_ (by assumption)) | go_size))⟩
  · obtain ⟨ga, gb⟩ : clockB n d p q = true ∧ spanB sn sd = true := by simpa [drTwoB] using g2
    obtain ⟨⟨a1, a2, a3, a4⟩, ⟨a5, a6⟩, ⟨a7, a8⟩, a9, a10⟩ := clockB_bd ga
    obtain ⟨s1, s2, s3, s4, s5⟩ := spanB_bd gb
    obtain ⟨y1, y2⟩ := mulk (K := 1000) s3 s4 (show -1000 ≤ q - p by omega) (show q - p ≤ 1000 by omega)
    obtain ⟨z1, z2⟩ := mulb (show 0 ≤ sd by omega) s2 (show 0 ≤ q by omega) a8
    have z3 : 1 ≤ sd * q := Int.mul_pos (by omega) (by omega)
    have l1 := low_bd (sn * (q - p)) (sd * q) z3
    by_cases hf : (lowDen (sn * (q - p)) (sd * q)) ≤ 1000000
    · cases gs : clockB (lowNum (sn * (q - p)) (sd * q)) (lowDen (sn * (q - p)) (sd * q)) p q
      · have hmk : mk (sn * (q - p)) (sd * q) = ((lowNum (sn * (q - p)) (sd * q)), (lowDen (sn * (q - p)) (sd * q)), true) := if_pos hf
        have HM := Lib.hid (show fail5 = setS n d p q sn sd from by simp [setS, g2, limC, gs])
        have hcall := fun W => diMake_any (sn * (q - p)) (sd * q) z3 (by omega) W
        rw [hmk] at hcall
        (go_enter Try.func52, Try.ntmps52)
        go_wp2_with fail
        refine (drTwo_is _ _ _ _ _ _ g2 kd _).mono ?_
        (rintro e1 w1 ⟨rfl, hb1⟩; obtain ⟨hc1, hf1⟩ := bcell hb1; have hz1 := hb1.size; (try simp only [World.size_alloc, World.size_setCell, World.size_drew] at hz1); have q1 : w.heap.size ≤ w1.heap.size := (by omega); (try have q1_0 : w.heap.size < w1.heap.size := (by omega)); (try have q1_1 : w.heap.size + 1 < w1.heap.size := (by omega)); (try have q1_2 : w.heap.size + 2 < w1.heap.size := (by omega)); (try have q1_3 : w.heap.size + 3 < w1.heap.size := (by omega)))
        go_wp2_with fail
        refine (hcall _).mono ?_
        (rintro e2 w2 ⟨rfl, hb2⟩; obtain ⟨hc2, hf2⟩ := bcell hb2; have hz2 := hb2.size; (try simp only [World.size_alloc, World.size_setCell, World.size_drew] at hz2); have q2 : w.heap.size ≤ w2.heap.size := (by omega); (try have q2_0 : w.heap.size < w2.heap.size := (by omega)); (try have q2_1 : w.heap.size + 1 < w2.heap.size := (by omega)); (try have q2_2 : w.heap.size + 2 < w2.heap.size := (by omega)); (try have q2_3 : w.heap.size + 3 < w2.heap.size := (by omega)); (try have q2_1_0 : w1.heap.size < w2.heap.size := (by omega)); (try have q2_1_1 : w1.heap.size + 1 < w2.heap.size := (by omega)))
        go_wp2_with fail
        refine (drClock_is _ _ _ _ gs ⟨by omega, by omega⟩ _).mono ?_
        (rintro e3 w3 ⟨rfl, hb3⟩; obtain ⟨hc3, hf3⟩ := bcell hb3; have hz3 := hb3.size; (try simp only [World.size_alloc, World.size_setCell, World.size_drew] at hz3); have q3 : w.heap.size ≤ w3.heap.size := (by omega); (try have q3_0 : w.heap.size < w3.heap.size := (by omega)); (try have q3_1 : w.heap.size + 1 < w3.heap.size := (by omega)); (try have q3_2 : w.heap.size + 2 < w3.heap.size := (by omega)); (try have q3_3 : w.heap.size + 3 < w3.heap.size := (by omega)); (try have q3_1_0 : w1.heap.size < w3.heap.size := (by omega)); (try have q3_1_1 : w1.heap.size + 1 < w3.heap.size := (by omega)); (try have q3_2_0 : w2.heap.size < w3.heap.size := (by omega)); (try have q3_2_1 : w2.heap.size + 1 < w3.heap.size := (by omega)))
        go_wp2
        (refine bodyPost_ret (by simp [results, Try.results52, go_sem, *]; try rfl) rfl ?_)
        exact ⟨ret_rc HM.out, by (repeat' (first | (with_reducible exact Below.refl _ _) | (with_reducible assumption) | (with_reducible refine Below.alloc ?_ ?_ _) | (with_reducible refine Below.drew ?_) | (with_reducible refine below_drewN ?_ _) | (with_reducible refine Below.setCell ?_ ?_ _) | (with_reducible refine below_call ?_ ?_ (by assumption)) | go_size))⟩
      · have hmk : mk (sn * (q - p)) (sd * q) = ((lowNum (sn * (q - p)) (sd * q)), (lowDen (sn * (q - p)) (sd * q)), true) := if_pos hf
        have HM := Lib.hid (show ((lowNum (sn * (q - p)) (sd * q)), (lowDen (sn * (q - p)) (sd * q)), p, q, true) = setS n d p q sn sd from by simp [setS, g2, limC, gs])
        have hcall := fun W => diMake_any (sn * (q - p)) (sd * q) z3 (by omega) W
        rw [hmk] at hcall
        (go_enter Try.func52, Try.ntmps52)
        go_wp2_with fail
        refine (drTwo_is _ _ _ _ _ _ g2 kd _).mono ?_
        (rintro e1 w1 ⟨rfl, hb1⟩; obtain ⟨hc1, hf1⟩ := bcell hb1; have hz1 := hb1.size; (try simp only [World.size_alloc, World.size_setCell, World.size_drew] at hz1); have q1 : w.heap.size ≤ w1.heap.size := (by omega); (try have q1_0 : w.heap.size < w1.heap.size := (by omega)); (try have q1_1 : w.heap.size + 1 < w1.heap.size := (by omega)); (try have q1_2 : w.heap.size + 2 < w1.heap.size := (by omega)); (try have q1_3 : w.heap.size + 3 < w1.heap.size := (by omega)))
        go_wp2_with fail
        refine (hcall _).mono ?_
        (rintro e2 w2 ⟨rfl, hb2⟩; obtain ⟨hc2, hf2⟩ := bcell hb2; have hz2 := hb2.size; (try simp only [World.size_alloc, World.size_setCell, World.size_drew] at hz2); have q2 : w.heap.size ≤ w2.heap.size := (by omega); (try have q2_0 : w.heap.size < w2.heap.size := (by omega)); (try have q2_1 : w.heap.size + 1 < w2.heap.size := (by omega)); (try have q2_2 : w.heap.size + 2 < w2.heap.size := (by omega)); (try have q2_3 : w.heap.size + 3 < w2.heap.size := (by omega)); (try have q2_1_0 : w1.heap.size < w2.heap.size := (by omega)); (try have q2_1_1 : w1.heap.size + 1 < w2.heap.size := (by omega)))
        go_wp2_with fail
        refine (drClock_is _ _ _ _ gs ⟨by omega, by omega⟩ _).mono ?_
        (rintro e3 w3 ⟨rfl, hb3⟩; obtain ⟨hc3, hf3⟩ := bcell hb3; have hz3 := hb3.size; (try simp only [World.size_alloc, World.size_setCell, World.size_drew] at hz3); have q3 : w.heap.size ≤ w3.heap.size := (by omega); (try have q3_0 : w.heap.size < w3.heap.size := (by omega)); (try have q3_1 : w.heap.size + 1 < w3.heap.size := (by omega)); (try have q3_2 : w.heap.size + 2 < w3.heap.size := (by omega)); (try have q3_3 : w.heap.size + 3 < w3.heap.size := (by omega)); (try have q3_1_0 : w1.heap.size < w3.heap.size := (by omega)); (try have q3_1_1 : w1.heap.size + 1 < w3.heap.size := (by omega)); (try have q3_2_0 : w2.heap.size < w3.heap.size := (by omega)); (try have q3_2_1 : w2.heap.size + 1 < w3.heap.size := (by omega)))
        go_wp2
        (refine bodyPost_ret (by simp [results, Try.results52, go_sem, *]; try rfl) rfl ?_)
        exact ⟨ret_rc HM.out, by (repeat' (first | (with_reducible exact Below.refl _ _) | (with_reducible assumption) | (with_reducible refine Below.alloc ?_ ?_ _) | (with_reducible refine Below.drew ?_) | (with_reducible refine below_drewN ?_ _) | (with_reducible refine Below.setCell ?_ ?_ _) | (with_reducible refine below_call ?_ ?_ (by assumption)) | go_size))⟩
    · have hmk : mk (sn * (q - p)) (sd * q) = fail3 := if_neg hf
      have HM := Lib.hid (show fail5 = setS n d p q sn sd from by
        have : clockB (lowNum (sn * (q - p)) (sd * q)) (lowDen (sn * (q - p)) (sd * q)) p q = false := by
          rw [← Bool.not_eq_true]; intro h; have := (clockB_bd h).1; omega
        simp [setS, g2, limC, this])
      have hcall := fun W => diMake_any (sn * (q - p)) (sd * q) z3 (by omega) W
      rw [hmk] at hcall
      (go_enter Try.func52, Try.ntmps52)
      go_wp2_with fail
      refine (drTwo_is _ _ _ _ _ _ g2 kd _).mono ?_
      (rintro e1 w1 ⟨rfl, hb1⟩; obtain ⟨hc1, hf1⟩ := bcell hb1; have hz1 := hb1.size; (try simp only [World.size_alloc, World.size_setCell, World.size_drew] at hz1); have q1 : w.heap.size ≤ w1.heap.size := (by omega); (try have q1_0 : w.heap.size < w1.heap.size := (by omega)); (try have q1_1 : w.heap.size + 1 < w1.heap.size := (by omega)); (try have q1_2 : w.heap.size + 2 < w1.heap.size := (by omega)); (try have q1_3 : w.heap.size + 3 < w1.heap.size := (by omega)))
      go_wp2_with fail
      refine (hcall _).mono ?_
      (rintro e2 w2 ⟨rfl, hb2⟩; obtain ⟨hc2, hf2⟩ := bcell hb2; have hz2 := hb2.size; (try simp only [World.size_alloc, World.size_setCell, World.size_drew] at hz2); have q2 : w.heap.size ≤ w2.heap.size := (by omega); (try have q2_0 : w.heap.size < w2.heap.size := (by omega)); (try have q2_1 : w.heap.size + 1 < w2.heap.size := (by omega)); (try have q2_2 : w.heap.size + 2 < w2.heap.size := (by omega)); (try have q2_3 : w.heap.size + 3 < w2.heap.size := (by omega)); (try have q2_1_0 : w1.heap.size < w2.heap.size := (by omega)); (try have q2_1_1 : w1.heap.size + 1 < w2.heap.size := (by omega)))
      go_wp2
      (refine bodyPost_ret (by simp [results, Try.results52, go_sem, *]; try rfl) rfl ?_)
      exact ⟨ret_rc HM.out, by (repeat' (first | (with_reducible exact Below.refl _ _) | (with_reducible assumption) | (with_reducible refine Below.alloc ?_ ?_ _) | (with_reducible refine Below.drew ?_) | (with_reducible refine below_drewN ?_ _) | (with_reducible refine Below.setCell ?_ ?_ _) | (with_reducible refine below_call ?_ ?_ (by assumption)) | go_size))⟩

end Go.Proofs.Ytnokjdcgokfdhaa
