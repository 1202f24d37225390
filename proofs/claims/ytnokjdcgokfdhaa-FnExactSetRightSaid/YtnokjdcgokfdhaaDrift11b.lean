/- How clocks are set right: by the program. -/
import Derived.Test.YtnokjdcgokfdhaaDrift11
set_option linter.unusedSimpArgs false
set_option linter.unusedVariables false
set_option maxRecDepth 100000
namespace Go.Proofs.Ytnokjdcgokfdhaa
open Go.RowKit
attribute [local go_sem ↓] Go.wp_at_zero Go.wp_at_succ

set_option maxHeartbeats 3200000 in
theorem implSetRight_any (n d p q sn sd : Int) (w : World) :
    Calls Try.prog 53 #[cv n d p q, tv sn sd] w fun e w' => e = .returned (rc (setS n d p q sn sd)) ∧ Below w.heap.size w w' := by
  cases ga : clockB n d p q
  · have HM := Lib.hid (show fail5 = setS n d p q sn sd from by simp [setS, drTwoB, ga])
    (go_enter Try.func53, Try.ntmps53)
    go_wp2_with fail
    refine (isClock_is _ _ _ _ ga _).mono ?_
    (rintro e1 w1 ⟨rfl, hb1⟩; obtain ⟨hc1, hf1⟩ := bcell hb1; have hz1 := hb1.size; (try simp only [World.size_alloc, World.size_setCell, World.size_drew] at hz1); have q1 : w.heap.size ≤ w1.heap.size := (by omega); (try have q1_0 : w.heap.size < w1.heap.size := (by omega)); (try have q1_1 : w.heap.size + 1 < w1.heap.size := (by omega)); (try have q1_2 : w.heap.size + 2 < w1.heap.size := (by omega)); (try have q1_3 : w.heap.size + 3 < w1.heap.size := (by omega)))
    go_wp2
    (refine bodyPost_ret (by simp [results, Try.results53, go_sem, *]; try rfl) rfl ?_)
    exact ⟨ret_rc HM.out, by (repeat' (first | (with_reducible exact Below.refl _ _) | (with_reducible assumption) | (with_reducible refine Below.alloc ?_ ?_ _) | (with_reducible refine Below.drew ?_) | (with_reducible refine below_drewN ?_ _) | (with_reducible refine Below.setCell ?_ ?_ _) | (with_reducible refine below_call ?_ ?_ (by assumption)) | go_size))⟩
  · cases gb : spanB sn sd
    · have HM := Lib.hid (show fail5 = setS n d p q sn sd from by simp [setS, drTwoB, ga, gb])
      (go_enter Try.func53, Try.ntmps53)
      go_wp2_with fail
      refine (isClock_is _ _ _ _ ga _).mono ?_
      (rintro e1 w1 ⟨rfl, hb1⟩; obtain ⟨hc1, hf1⟩ := bcell hb1; have hz1 := hb1.size; (try simp only [World.size_alloc, World.size_setCell, World.size_drew] at hz1); have q1 : w.heap.size ≤ w1.heap.size := (by omega); (try have q1_0 : w.heap.size < w1.heap.size := (by omega)); (try have q1_1 : w.heap.size + 1 < w1.heap.size := (by omega)); (try have q1_2 : w.heap.size + 2 < w1.heap.size := (by omega)); (try have q1_3 : w.heap.size + 3 < w1.heap.size := (by omega)))
      go_wp2_with fail
      refine (isSpan_is _ _ gb _).mono ?_
      (rintro e2 w2 ⟨rfl, hb2⟩; obtain ⟨hc2, hf2⟩ := bcell hb2; have hz2 := hb2.size; (try simp only [World.size_alloc, World.size_setCell, World.size_drew] at hz2); have q2 : w.heap.size ≤ w2.heap.size := (by omega); (try have q2_0 : w.heap.size < w2.heap.size := (by omega)); (try have q2_1 : w.heap.size + 1 < w2.heap.size := (by omega)); (try have q2_2 : w.heap.size + 2 < w2.heap.size := (by omega)); (try have q2_3 : w.heap.size + 3 < w2.heap.size := (by omega)); (try have q2_1_0 : w1.heap.size < w2.heap.size := (by omega)); (try have q2_1_1 : w1.heap.size + 1 < w2.heap.size := (by omega)))
      go_wp2
      (refine bodyPost_ret (by simp [results, Try.results53, go_sem, *]; try rfl) rfl ?_)
      exact ⟨ret_rc HM.out, by (repeat' (first | (with_reducible exact Below.refl _ _) | (with_reducible assumption) | (with_reducible refine Below.alloc ?_ ?_ _) | (with_reducible refine Below.drew ?_) | (with_reducible refine below_drewN ?_ _) | (with_reducible refine Below.setCell ?_ ?_ _) | (with_reducible refine below_call ?_ ?_ (by assumption)) | go_size))⟩
    · obtain ⟨⟨a1, a2, a3, a4⟩, ⟨a5, a6⟩, ⟨a7, a8⟩, a9, a10⟩ := clockB_bd ga
      obtain ⟨s1, s2, s3, s4, s5⟩ := spanB_bd gb
      obtain ⟨-, -, -, -, ⟨m9, m10⟩, ⟨m11, m12⟩, m13⟩ := go_bd ⟨a5, a6⟩ ⟨a7, a8⟩ ⟨s3, s4⟩ ⟨s1, s2⟩
      obtain ⟨⟨r1, r2⟩, r3, r4⟩ := back_bd (sn := sn) ⟨s1, s2⟩
      have HK : SumOk (backL p q sn sd) := sumOk_two (x := lowNum (-sn) sd) (y := lowDen (-sn) sd) m13 ⟨m9, by omega⟩ ⟨m11, by omega⟩ ⟨r1, by omega⟩ ⟨r3, by omega⟩
      have hden := sum_den2 (x := lowNum (-sn) sd) (y := lowDen (-sn) sd) m13 ⟨m9, by omega⟩ ⟨m11, by omega⟩ ⟨r1, by omega⟩ ⟨r3, by omega⟩
      have hcall := fun (W : World) (g : Nat) (hg : g < W.heap.size) (HP : PartsAt W g 2 (backL p q sn sd)) => turnOfParts_any (backL p q sn sd) g 2 2 (by simp [backL]) (by simp [backL]) HK hden.2.1 (Int.le_trans hden.2.2 (by decide)) W hg HP
      have HM : Hid (lowNum (lowNum (sumK (backL p q sn sd) (backL p q sn sd).length).1 (sumK (backL p q sn sd) (backL p q sn sd).length).2 * -1) (lowDen (sumK (backL p q sn sd) (backL p q sn sd).length).1 (sumK (backL p q sn sd) (backL p q sn sd).length).2) = lowNum (sn * (q - p)) (sd * q) ∧ lowDen (lowNum (sumK (backL p q sn sd) (backL p q sn sd).length).1 (sumK (backL p q sn sd) (backL p q sn sd).length).2 * -1) (lowDen (sumK (backL p q sn sd) (backL p q sn sd).length).1 (sumK (backL p q sn sd) (backL p q sn sd).length).2) = lowDen (sn * (q - p)) (sd * q)) := set_cong a7 ⟨a5, a6⟩ a8 ⟨s3, s4⟩ ⟨s1, s2⟩
      have hdd : (0 ≤ (sumK (backL p q sn sd) (backL p q sn sd).length).1 ∧ (sumK (backL p q sn sd) (backL p q sn sd).length).1 ≤ 20000000000000000) ∧ 1 ≤ (sumK (backL p q sn sd) (backL p q sn sd).length).2 ∧ (sumK (backL p q sn sd) (backL p q sn sd).length).2 ≤ 10000000000000000 := hden
      generalize sumK (backL p q sn sd) (backL p q sn sd).length = s at hcall HM hdd
      obtain ⟨N, D⟩ := s
      simp only at hdd
      obtain ⟨-, d1, d2⟩ := hdd
      have l1 := low_bd N D d1
      have l2 := low_lt N D d1
      have HR := Lib.hid (show limC (lowNum (-lowNum N D) (lowDen N D)) (lowDen (-lowNum N D) (lowDen N D)) p q = setS n d p q sn sd from by
        rw [show -lowNum N D = lowNum N D * -1 by omega, HM.out.1, HM.out.2]; simp [setS, drTwoB, ga, gb])
      clear HM
      have HC := Lib.hid hcall
      clear hcall HK hden
      (go_enter Try.func53, Try.ntmps53)
      go_wp2_with fail
      refine (isClock_is _ _ _ _ ga _).mono ?_
      (rintro e1 w1 ⟨rfl, hb1⟩; obtain ⟨hc1, hf1⟩ := bcell hb1; have hz1 := hb1.size; (try simp only [World.size_alloc, World.size_setCell, World.size_drew] at hz1); have q1 : w.heap.size ≤ w1.heap.size := (by omega); (try have q1_0 : w.heap.size < w1.heap.size := (by omega)); (try have q1_1 : w.heap.size + 1 < w1.heap.size := (by omega)); (try have q1_2 : w.heap.size + 2 < w1.heap.size := (by omega)); (try have q1_3 : w.heap.size + 3 < w1.heap.size := (by omega)))
      go_wp2_with fail
      refine (isSpan_is _ _ gb _).mono ?_
      (rintro e2 w2 ⟨rfl, hb2⟩; obtain ⟨hc2, hf2⟩ := bcell hb2; have hz2 := hb2.size; (try simp only [World.size_alloc, World.size_setCell, World.size_drew] at hz2); have q2 : w.heap.size ≤ w2.heap.size := (by omega); (try have q2_0 : w.heap.size < w2.heap.size := (by omega)); (try have q2_1 : w.heap.size + 1 < w2.heap.size := (by omega)); (try have q2_2 : w.heap.size + 2 < w2.heap.size := (by omega)); (try have q2_3 : w.heap.size + 3 < w2.heap.size := (by omega)); (try have q2_1_0 : w1.heap.size < w2.heap.size := (by omega)); (try have q2_1_1 : w1.heap.size + 1 < w2.heap.size := (by omega)))
      have c2_0_0 : w2.cell? ⟨w.heap.size, 0, none⟩ = some (.int .i64 n) := (hc2 _ _ (by first | go_size | (simp; omega) | simp)).trans (by go_simp)
      have f2_0_0 : w2.frozen? ⟨w.heap.size, 0, none⟩ = false := (hf2 _ _ (by first | go_size | (simp; omega) | simp)).trans (by go_simp)
      have c2_0_1 : w2.cell? ⟨w.heap.size, 1, none⟩ = some (.int .i64 d) := (hc2 _ _ (by first | go_size | (simp; omega) | simp)).trans (by go_simp)
      have f2_0_1 : w2.frozen? ⟨w.heap.size, 1, none⟩ = false := (hf2 _ _ (by first | go_size | (simp; omega) | simp)).trans (by go_simp)
      have c2_0_2 : w2.cell? ⟨w.heap.size, 2, none⟩ = some (.int .i64 p) := (hc2 _ _ (by first | go_size | (simp; omega) | simp)).trans (by go_simp)
      have f2_0_2 : w2.frozen? ⟨w.heap.size, 2, none⟩ = false := (hf2 _ _ (by first | go_size | (simp; omega) | simp)).trans (by go_simp)
      have c2_0_3 : w2.cell? ⟨w.heap.size, 3, none⟩ = some (.int .i64 q) := (hc2 _ _ (by first | go_size | (simp; omega) | simp)).trans (by go_simp)
      have f2_0_3 : w2.frozen? ⟨w.heap.size, 3, none⟩ = false := (hf2 _ _ (by first | go_size | (simp; omega) | simp)).trans (by go_simp)
      have c2_1_0 : w2.cell? ⟨w.heap.size + 1, 0, none⟩ = some (.int .i64 sn) := (hc2 _ _ (by first | go_size | (simp; omega) | simp)).trans (by go_simp)
      have f2_1_0 : w2.frozen? ⟨w.heap.size + 1, 0, none⟩ = false := (hf2 _ _ (by first | go_size | (simp; omega) | simp)).trans (by go_simp)
      have c2_1_1 : w2.cell? ⟨w.heap.size + 1, 1, none⟩ = some (.int .i64 sd) := (hc2 _ _ (by first | go_size | (simp; omega) | simp)).trans (by go_simp)
      have f2_1_1 : w2.frozen? ⟨w.heap.size + 1, 1, none⟩ = false := (hf2 _ _ (by first | go_size | (simp; omega) | simp)).trans (by go_simp)
      have c2_2_0 : w2.cell? ⟨w.heap.size + 1 + 1, 0, none⟩ = some (.int .i64 0) := (hc2 _ _ (by first | go_size | (simp; omega) | simp)).trans (by go_simp)
      have f2_2_0 : w2.frozen? ⟨w.heap.size + 1 + 1, 0, none⟩ = false := (hf2 _ _ (by first | go_size | (simp; omega) | simp)).trans (by go_simp)
      have c2_2_1 : w2.cell? ⟨w.heap.size + 1 + 1, 1, none⟩ = some (.int .i64 0) := (hc2 _ _ (by first | go_size | (simp; omega) | simp)).trans (by go_simp)
      have f2_2_1 : w2.frozen? ⟨w.heap.size + 1 + 1, 1, none⟩ = false := (hf2 _ _ (by first | go_size | (simp; omega) | simp)).trans (by go_simp)
      have c2_2_2 : w2.cell? ⟨w.heap.size + 1 + 1, 2, none⟩ = some (.int .i64 0) := (hc2 _ _ (by first | go_size | (simp; omega) | simp)).trans (by go_simp)
      have f2_2_2 : w2.frozen? ⟨w.heap.size + 1 + 1, 2, none⟩ = false := (hf2 _ _ (by first | go_size | (simp; omega) | simp)).trans (by go_simp)
      have c2_2_3 : w2.cell? ⟨w.heap.size + 1 + 1, 3, none⟩ = some (.int .i64 0) := (hc2 _ _ (by first | go_size | (simp; omega) | simp)).trans (by go_simp)
      have f2_2_3 : w2.frozen? ⟨w.heap.size + 1 + 1, 3, none⟩ = false := (hf2 _ _ (by first | go_size | (simp; omega) | simp)).trans (by go_simp)
      go_wp2_with fail
      refine (partsOfAhead_any n d p q sn sd ga gb _).mono ?_
      rintro e3 w3 ⟨g, rfl, hP, hg1, hg2, hb3⟩
      obtain ⟨hc3, hf3⟩ := bcell hb3
      have hz3 := hb3.size
      have c3_0_0 : w3.cell? ⟨w.heap.size, 0, none⟩ = some (.int .i64 n) := (hc3 _ _ (by first | go_size | (simp; omega) | simp)).trans (by go_simp)
      have f3_0_0 : w3.frozen? ⟨w.heap.size, 0, none⟩ = false := (hf3 _ _ (by first | go_size | (simp; omega) | simp)).trans (by go_simp)
      have c3_0_1 : w3.cell? ⟨w.heap.size, 1, none⟩ = some (.int .i64 d) := (hc3 _ _ (by first | go_size | (simp; omega) | simp)).trans (by go_simp)
      have f3_0_1 : w3.frozen? ⟨w.heap.size, 1, none⟩ = false := (hf3 _ _ (by first | go_size | (simp; omega) | simp)).trans (by go_simp)
      have c3_0_2 : w3.cell? ⟨w.heap.size, 2, none⟩ = some (.int .i64 p) := (hc3 _ _ (by first | go_size | (simp; omega) | simp)).trans (by go_simp)
      have f3_0_2 : w3.frozen? ⟨w.heap.size, 2, none⟩ = false := (hf3 _ _ (by first | go_size | (simp; omega) | simp)).trans (by go_simp)
      have c3_0_3 : w3.cell? ⟨w.heap.size, 3, none⟩ = some (.int .i64 q) := (hc3 _ _ (by first | go_size | (simp; omega) | simp)).trans (by go_simp)
      have f3_0_3 : w3.frozen? ⟨w.heap.size, 3, none⟩ = false := (hf3 _ _ (by first | go_size | (simp; omega) | simp)).trans (by go_simp)
      have c3_1_0 : w3.cell? ⟨w.heap.size + 1 + 1, 0, none⟩ = some (.int .i64 0) := (hc3 _ _ (by first | go_size | (simp; omega) | simp)).trans (by go_simp)
      have f3_1_0 : w3.frozen? ⟨w.heap.size + 1 + 1, 0, none⟩ = false := (hf3 _ _ (by first | go_size | (simp; omega) | simp)).trans (by go_simp)
      have c3_1_1 : w3.cell? ⟨w.heap.size + 1 + 1, 1, none⟩ = some (.int .i64 0) := (hc3 _ _ (by first | go_size | (simp; omega) | simp)).trans (by go_simp)
      have f3_1_1 : w3.frozen? ⟨w.heap.size + 1 + 1, 1, none⟩ = false := (hf3 _ _ (by first | go_size | (simp; omega) | simp)).trans (by go_simp)
      have c3_1_2 : w3.cell? ⟨w.heap.size + 1 + 1, 2, none⟩ = some (.int .i64 0) := (hc3 _ _ (by first | go_size | (simp; omega) | simp)).trans (by go_simp)
      have f3_1_2 : w3.frozen? ⟨w.heap.size + 1 + 1, 2, none⟩ = false := (hf3 _ _ (by first | go_size | (simp; omega) | simp)).trans (by go_simp)
      have c3_1_3 : w3.cell? ⟨w.heap.size + 1 + 1, 3, none⟩ = some (.int .i64 0) := (hc3 _ _ (by first | go_size | (simp; omega) | simp)).trans (by go_simp)
      have f3_1_3 : w3.frozen? ⟨w.heap.size + 1 + 1, 3, none⟩ = false := (hf3 _ _ (by first | go_size | (simp; omega) | simp)).trans (by go_simp)
      have HPP : Hid (PartsAt w3 g 2 (backL p q sn sd)) := fun k hk => by
        have hk' : k = 0 ∨ k = 1 := by simp [backL] at hk; omega
        rcases hk' with rfl | rfl
        · exact hP 1 (by simp [allL])
        · exact hP 2 (by simp [allL])
      have B3 : Below w.heap.size w w3 := by (repeat' (first | (with_reducible exact Below.refl _ _) | (with_reducible assumption) | (with_reducible refine Below.alloc ?_ ?_ _) | (with_reducible refine Below.drew ?_) | (with_reducible refine below_drewN ?_ _) | (with_reducible refine Below.setCell ?_ ?_ _) | (with_reducible refine below_call ?_ ?_ (by assumption)) | go_size))
      clear hc3 hf3 hc2 hf2 hc1 hf1 hP
      have u3_0 : w.heap.size + 1 + 1 < w3.heap.size := by omega
      have u3_1 : w.heap.size < w3.heap.size := by omega
      go_wp2_with fail
      refine (HC.out _ g hg2 HPP.out).mono ?_
      (rintro e4 w4 ⟨rfl, hb4⟩; obtain ⟨hc4, hf4⟩ := bcell hb4; have hz4 := hb4.size; (try simp only [World.size_alloc, World.size_setCell, World.size_drew] at hz4); have q4 : w.heap.size ≤ w4.heap.size := (by omega); (try have q4_0 : w.heap.size < w4.heap.size := (by omega)); (try have q4_1 : w.heap.size + 1 < w4.heap.size := (by omega)); (try have q4_2 : w.heap.size + 2 < w4.heap.size := (by omega)); (try have q4_3 : w.heap.size + 3 < w4.heap.size := (by omega)); (try have q4_1_0 : w1.heap.size < w4.heap.size := (by omega)); (try have q4_1_1 : w1.heap.size + 1 < w4.heap.size := (by omega)); (try have q4_2_0 : w2.heap.size < w4.heap.size := (by omega)); (try have q4_2_1 : w2.heap.size + 1 < w4.heap.size := (by omega)); (try have q4_3_0 : w3.heap.size < w4.heap.size := (by omega)); (try have q4_3_1 : w3.heap.size + 1 < w4.heap.size := (by omega)))
      have c4_0_0 : w4.cell? ⟨w.heap.size, 0, none⟩ = some (.int .i64 n) := (hc4 _ _ (by first | go_size | (simp; omega) | simp)).trans (by go_simp)
      have f4_0_0 : w4.frozen? ⟨w.heap.size, 0, none⟩ = false := (hf4 _ _ (by first | go_size | (simp; omega) | simp)).trans (by go_simp)
      have c4_0_1 : w4.cell? ⟨w.heap.size, 1, none⟩ = some (.int .i64 d) := (hc4 _ _ (by first | go_size | (simp; omega) | simp)).trans (by go_simp)
      have f4_0_1 : w4.frozen? ⟨w.heap.size, 1, none⟩ = false := (hf4 _ _ (by first | go_size | (simp; omega) | simp)).trans (by go_simp)
      have c4_0_2 : w4.cell? ⟨w.heap.size, 2, none⟩ = some (.int .i64 p) := (hc4 _ _ (by first | go_size | (simp; omega) | simp)).trans (by go_simp)
      have f4_0_2 : w4.frozen? ⟨w.heap.size, 2, none⟩ = false := (hf4 _ _ (by first | go_size | (simp; omega) | simp)).trans (by go_simp)
      have c4_0_3 : w4.cell? ⟨w.heap.size, 3, none⟩ = some (.int .i64 q) := (hc4 _ _ (by first | go_size | (simp; omega) | simp)).trans (by go_simp)
      have f4_0_3 : w4.frozen? ⟨w.heap.size, 3, none⟩ = false := (hf4 _ _ (by first | go_size | (simp; omega) | simp)).trans (by go_simp)
      have c4_1_0 : w4.cell? ⟨w.heap.size + 1 + 1, 0, none⟩ = some (.int .i64 0) := (hc4 _ _ (by first | go_size | (simp; omega) | simp)).trans (by go_simp)
      have f4_1_0 : w4.frozen? ⟨w.heap.size + 1 + 1, 0, none⟩ = false := (hf4 _ _ (by first | go_size | (simp; omega) | simp)).trans (by go_simp)
      have c4_1_1 : w4.cell? ⟨w.heap.size + 1 + 1, 1, none⟩ = some (.int .i64 0) := (hc4 _ _ (by first | go_size | (simp; omega) | simp)).trans (by go_simp)
      have f4_1_1 : w4.frozen? ⟨w.heap.size + 1 + 1, 1, none⟩ = false := (hf4 _ _ (by first | go_size | (simp; omega) | simp)).trans (by go_simp)
      have c4_1_2 : w4.cell? ⟨w.heap.size + 1 + 1, 2, none⟩ = some (.int .i64 0) := (hc4 _ _ (by first | go_size | (simp; omega) | simp)).trans (by go_simp)
      have f4_1_2 : w4.frozen? ⟨w.heap.size + 1 + 1, 2, none⟩ = false := (hf4 _ _ (by first | go_size | (simp; omega) | simp)).trans (by go_simp)
      have c4_1_3 : w4.cell? ⟨w.heap.size + 1 + 1, 3, none⟩ = some (.int .i64 0) := (hc4 _ _ (by first | go_size | (simp; omega) | simp)).trans (by go_simp)
      have f4_1_3 : w4.frozen? ⟨w.heap.size + 1 + 1, 3, none⟩ = false := (hf4 _ _ (by first | go_size | (simp; omega) | simp)).trans (by go_simp)
      have B4 : Below w.heap.size w w4 := by (repeat' (first | (with_reducible exact Below.refl _ _) | (with_reducible assumption) | (with_reducible refine Below.alloc ?_ ?_ _) | (with_reducible refine Below.drew ?_) | (with_reducible refine below_drewN ?_ _) | (with_reducible refine Below.setCell ?_ ?_ _) | (with_reducible refine below_call ?_ ?_ (by assumption)) | go_size))
      clear hc4 hf4
      have u4_0 : w.heap.size + 1 + 1 < w4.heap.size := by omega
      go_wp2_with fail
      refine wp_region_btail 10 (by kernel_rfl) (by kernel_rfl) ?_
      simp only [List.take_succ_cons, List.take_zero, List.drop_succ_cons, List.drop_zero]
      (apply wpB_take (hw := rfl); (intro wq hq; obtain ⟨hcq, hfq⟩ := bcell hq; unfold atB; go_simp; exact ⟨rfl, rfl⟩); simp only [Act.put, List.setIfInBounds_toArray, List.set_cons_zero, List.set_cons_succ])
      (apply wpB_take (hw := rfl); (intro wq hq; unfold atB; go_simp; exact ⟨rfl, manyTimes_any (lowNum N D) (lowDen N D) (-1) (by omega) (by omega) (by omega) (by omega) _⟩); simp only [Act.put, List.setIfInBounds_toArray, List.set_cons_zero, List.set_cons_succ])
      (apply wpB_take (hw := rfl); (intro wq hq; obtain ⟨hcq, hfq⟩ := bcell hq; unfold atB; go_simp; exact ⟨rfl, rfl⟩); simp only [Act.put, List.setIfInBounds_toArray, List.set_cons_zero, List.set_cons_succ])
      (apply wpB_take (hw := rfl); (intro wq hq; obtain ⟨hcq, hfq⟩ := bcell hq; unfold atB; go_simp; exact ⟨rfl, rfl⟩); simp only [Act.put, List.setIfInBounds_toArray, List.set_cons_zero, List.set_cons_succ])
      (apply wpB_take (hw := rfl); (intro wq hq; obtain ⟨hcq, hfq⟩ := bcell hq; unfold atB; go_simp; exact ⟨rfl, rfl⟩); simp only [Act.put, List.setIfInBounds_toArray, List.set_cons_zero, List.set_cons_succ])
      (apply wpB_take (hw := rfl); (intro wq hq; obtain ⟨hcq, hfq⟩ := bcell hq; unfold atB; go_simp; exact ⟨rfl, rfl⟩); simp only [Act.put, List.setIfInBounds_toArray, List.set_cons_zero, List.set_cons_succ])
      (apply wpB_take (hw := rfl); (intro wq hq; obtain ⟨hcq, hfq⟩ := bcell hq; unfold atB; go_simp; exact ⟨rfl, rfl⟩); simp only [Act.put, List.setIfInBounds_toArray, List.set_cons_zero, List.set_cons_succ])
      (apply wpB_take (hw := rfl); (intro wq hq; unfold atB; go_simp; exact ⟨rfl, limitedClock_any _ _ _ _ _⟩); simp only [Act.put, List.setIfInBounds_toArray, List.set_cons_zero, List.set_cons_succ])
      (apply wpB_take (hw := rfl); (intro wq hq; obtain ⟨hcq, hfq⟩ := bcell hq; unfold atB; go_simp; exact ⟨rfl, rfl⟩); simp only [Act.put, List.setIfInBounds_toArray, List.set_cons_zero, List.set_cons_succ])
      (apply wpB_take (hw := rfl); (intro wq hq; obtain ⟨hcq, hfq⟩ := bcell hq; unfold atB; go_simp; exact ⟨rfl, rfl⟩); simp only [Act.put, List.setIfInBounds_toArray, List.set_cons_zero, List.set_cons_succ])
      refine fun w5 hb5 => ?_
      (obtain ⟨hc5, hf5⟩ := bcell hb5; have hz5 := hb5.size; (try simp only [World.size_alloc, World.size_setCell, World.size_drew] at hz5); have q5 : w.heap.size ≤ w5.heap.size := (by omega); (try have q5_0 : w.heap.size < w5.heap.size := (by omega)); (try have q5_1 : w.heap.size + 1 < w5.heap.size := (by omega)); (try have q5_2 : w.heap.size + 2 < w5.heap.size := (by omega)); (try have q5_3 : w.heap.size + 3 < w5.heap.size := (by omega)); (try have p5_1 : b1 < w5.heap.size := (by omega)); (try have p5_2 : b2 < w5.heap.size := (by omega)); (try have p5_3 : b3 < w5.heap.size := (by omega)); (try have p5_4 : b4 < w5.heap.size := (by omega)); try simp only [Act.put, List.setIfInBounds_toArray, List.set_cons_zero, List.set_cons_succ])
      have c5_0_0 : w5.cell? ⟨w.heap.size + 1 + 1, 0, none⟩ = some (.int .i64 0) := (hc5 _ _ (by first | go_size | (simp; omega) | simp)).trans (by go_simp)
      have f5_0_0 : w5.frozen? ⟨w.heap.size + 1 + 1, 0, none⟩ = false := (hf5 _ _ (by first | go_size | (simp; omega) | simp)).trans (by go_simp)
      have c5_0_1 : w5.cell? ⟨w.heap.size + 1 + 1, 1, none⟩ = some (.int .i64 0) := (hc5 _ _ (by first | go_size | (simp; omega) | simp)).trans (by go_simp)
      have f5_0_1 : w5.frozen? ⟨w.heap.size + 1 + 1, 1, none⟩ = false := (hf5 _ _ (by first | go_size | (simp; omega) | simp)).trans (by go_simp)
      have c5_0_2 : w5.cell? ⟨w.heap.size + 1 + 1, 2, none⟩ = some (.int .i64 0) := (hc5 _ _ (by first | go_size | (simp; omega) | simp)).trans (by go_simp)
      have f5_0_2 : w5.frozen? ⟨w.heap.size + 1 + 1, 2, none⟩ = false := (hf5 _ _ (by first | go_size | (simp; omega) | simp)).trans (by go_simp)
      have c5_0_3 : w5.cell? ⟨w.heap.size + 1 + 1, 3, none⟩ = some (.int .i64 0) := (hc5 _ _ (by first | go_size | (simp; omega) | simp)).trans (by go_simp)
      have f5_0_3 : w5.frozen? ⟨w.heap.size + 1 + 1, 3, none⟩ = false := (hf5 _ _ (by first | go_size | (simp; omega) | simp)).trans (by go_simp)
      go_wp2
      (refine bodyPost_ret (by simp [results, Try.results53, go_sem, *]; try rfl) rfl ?_)
      exact ⟨ret_rc HR.out, by (repeat' (first | (with_reducible exact Below.refl _ _) | (with_reducible assumption) | (with_reducible refine Below.alloc ?_ ?_ _) | (with_reducible refine Below.drew ?_) | (with_reducible refine below_drewN ?_ _) | (with_reducible refine Below.setCell ?_ ?_ _) | (with_reducible refine below_call ?_ ?_ (by assumption)) | go_size))⟩

end Go.Proofs.Ytnokjdcgokfdhaa
