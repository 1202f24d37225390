/- Spans added: by the program and by the model. -/
import Derived.Test.YtnokjdcgokfdhaaDrS
import Derived.Test.YtnokjdcgokfdhaaDrift1b
import Derived.Test.YtnokjdcgokfdhaaLate0
set_option linter.unusedSimpArgs false
set_option linter.unusedVariables false
set_option maxRecDepth 100000
namespace Go.Proofs.Ytnokjdcgokfdhaa
open Go.RowKit
attribute [local go_sem ↓] Go.wp_at_zero Go.wp_at_succ

set_option maxHeartbeats 800000 in
theorem specAddSpans_any (an ad bn bd : Int) (w : World) :
    Calls Try.prog 24 #[tv an ad, tv bn bd] w fun e w' => e = .returned (rv (addS an ad bn bd)) ∧ Below w.heap.size w w' := by
  cases ga : spanB an ad
  · have HM := Lib.hid (show fail3 = addS an ad bn bd from by simp [addS, ga])
    (go_enter Try.func24, Try.ntmps24)
    go_wp2_with fail
    refine (drGood_is _ _ ga _).mono ?_
    (rintro e1 w1 ⟨rfl, hb1⟩; obtain ⟨hc1, hf1⟩ := bcell hb1; have hz1 := hb1.size; (try simp only [World.size_alloc, World.size_setCell, World.size_drew] at hz1); have q1 : w.heap.size ≤ w1.heap.size := (by omega); (try have q1_0 : w.heap.size < w1.heap.size := (by omega)); (try have q1_1 : w.heap.size + 1 < w1.heap.size := (by omega)); (try have q1_2 : w.heap.size + 2 < w1.heap.size := (by omega)); (try have q1_3 : w.heap.size + 3 < w1.heap.size := (by omega)))
    go_wp2
    (refine bodyPost_ret (by simp [results, Try.results24, go_sem, *]; try rfl) rfl ?_)
    exact ⟨ret_rv HM.out, by (repeat' (first | (with_reducible exact Below.refl _ _) | (with_reducible assumption) | (with_reducible refine Below.alloc ?_ ?_ _) | (with_reducible refine Below.drew ?_) | (with_reducible refine below_drewN ?_ _) | (with_reducible refine Below.setCell ?_ ?_ _) | (with_reducible refine below_call ?_ ?_ (by assumption)) | go_size))⟩
  · cases gb : spanB bn bd
    · have HM := Lib.hid (show fail3 = addS an ad bn bd from by simp [addS, ga, gb])
      (go_enter Try.func24, Try.ntmps24)
      go_wp2_with fail
      refine (drGood_is _ _ ga _).mono ?_
      (rintro e1 w1 ⟨rfl, hb1⟩; obtain ⟨hc1, hf1⟩ := bcell hb1; have hz1 := hb1.size; (try simp only [World.size_alloc, World.size_setCell, World.size_drew] at hz1); have q1 : w.heap.size ≤ w1.heap.size := (by omega); (try have q1_0 : w.heap.size < w1.heap.size := (by omega)); (try have q1_1 : w.heap.size + 1 < w1.heap.size := (by omega)); (try have q1_2 : w.heap.size + 2 < w1.heap.size := (by omega)); (try have q1_3 : w.heap.size + 3 < w1.heap.size := (by omega)))
      go_wp2_with fail
      refine (drGood_is _ _ gb _).mono ?_
      (rintro e2 w2 ⟨rfl, hb2⟩; obtain ⟨hc2, hf2⟩ := bcell hb2; have hz2 := hb2.size; (try simp only [World.size_alloc, World.size_setCell, World.size_drew] at hz2); have q2 : w.heap.size ≤ w2.heap.size := (by omega); (try have q2_0 : w.heap.size < w2.heap.size := (by omega)); (try have q2_1 : w.heap.size + 1 < w2.heap.size := (by omega)); (try have q2_2 : w.heap.size + 2 < w2.heap.size := (by omega)); (try have q2_3 : w.heap.size + 3 < w2.heap.size := (by omega)); (try have q2_1_0 : w1.heap.size < w2.heap.size := (by omega)); (try have q2_1_1 : w1.heap.size + 1 < w2.heap.size := (by omega)))
      go_wp2
      (refine bodyPost_ret (by simp [results, Try.results24, go_sem, *]; try rfl) rfl ?_)
      exact ⟨ret_rv HM.out, by (repeat' (first | (with_reducible exact Below.refl _ _) | (with_reducible assumption) | (with_reducible refine Below.alloc ?_ ?_ _) | (with_reducible refine Below.drew ?_) | (with_reducible refine below_drewN ?_ _) | (with_reducible refine Below.setCell ?_ ?_ _) | (with_reducible refine below_call ?_ ?_ (by assumption)) | go_size))⟩
    · obtain ⟨a1, a2, a3, a4, a5⟩ := spanB_bd ga
      obtain ⟨b1, b2, b3, b4, b5⟩ := spanB_bd gb
      obtain ⟨p1, p2⟩ := mulb a3 a4 (show 0 ≤ bd by omega) b2
      obtain ⟨p3, p4⟩ := mulb b3 b4 (show 0 ≤ ad by omega) a2
      obtain ⟨p5, p6⟩ := mulb (show 0 ≤ ad by omega) a2 (show 0 ≤ bd by omega) b2
      have p7 : 1 ≤ ad * bd := Int.mul_pos (by omega) (by omega)
      have HM := Lib.hid (show mkS (an * bd + bn * ad) (ad * bd) = addS an ad bn bd from by simp [addS, ga, gb])
      (go_enter Try.func24, Try.ntmps24)
      go_wp2_with fail
      refine (drGood_is _ _ ga _).mono ?_
      (rintro e1 w1 ⟨rfl, hb1⟩; obtain ⟨hc1, hf1⟩ := bcell hb1; have hz1 := hb1.size; (try simp only [World.size_alloc, World.size_setCell, World.size_drew] at hz1); have q1 : w.heap.size ≤ w1.heap.size := (by omega); (try have q1_0 : w.heap.size < w1.heap.size := (by omega)); (try have q1_1 : w.heap.size + 1 < w1.heap.size := (by omega)); (try have q1_2 : w.heap.size + 2 < w1.heap.size := (by omega)); (try have q1_3 : w.heap.size + 3 < w1.heap.size := (by omega)))
      go_wp2_with fail
      refine (drGood_is _ _ gb _).mono ?_
      (rintro e2 w2 ⟨rfl, hb2⟩; obtain ⟨hc2, hf2⟩ := bcell hb2; have hz2 := hb2.size; (try simp only [World.size_alloc, World.size_setCell, World.size_drew] at hz2); have q2 : w.heap.size ≤ w2.heap.size := (by omega); (try have q2_0 : w.heap.size < w2.heap.size := (by omega)); (try have q2_1 : w.heap.size + 1 < w2.heap.size := (by omega)); (try have q2_2 : w.heap.size + 2 < w2.heap.size := (by omega)); (try have q2_3 : w.heap.size + 3 < w2.heap.size := (by omega)); (try have q2_1_0 : w1.heap.size < w2.heap.size := (by omega)); (try have q2_1_1 : w1.heap.size + 1 < w2.heap.size := (by omega)))
      go_wp2_with fail
      refine (drMake_any (an * bd + bn * ad) (ad * bd) (by omega) (by omega) (by omega) (by omega) _).mono ?_
      (rintro e3 w3 ⟨rfl, hb3⟩; obtain ⟨hc3, hf3⟩ := bcell hb3; have hz3 := hb3.size; (try simp only [World.size_alloc, World.size_setCell, World.size_drew] at hz3); have q3 : w.heap.size ≤ w3.heap.size := (by omega); (try have q3_0 : w.heap.size < w3.heap.size := (by omega)); (try have q3_1 : w.heap.size + 1 < w3.heap.size := (by omega)); (try have q3_2 : w.heap.size + 2 < w3.heap.size := (by omega)); (try have q3_3 : w.heap.size + 3 < w3.heap.size := (by omega)); (try have q3_1_0 : w1.heap.size < w3.heap.size := (by omega)); (try have q3_1_1 : w1.heap.size + 1 < w3.heap.size := (by omega)); (try have q3_2_0 : w2.heap.size < w3.heap.size := (by omega)); (try have q3_2_1 : w2.heap.size + 1 < w3.heap.size := (by omega)))
      go_wp2
      (refine bodyPost_ret (by simp [results, Try.results24, go_sem, *]; try rfl) rfl ?_)
      exact ⟨ret_rv HM.out, by (repeat' (first | (with_reducible exact Below.refl _ _) | (with_reducible assumption) | (with_reducible refine Below.alloc ?_ ?_ _) | (with_reducible refine Below.drew ?_) | (with_reducible refine below_drewN ?_ _) | (with_reducible refine Below.setCell ?_ ?_ _) | (with_reducible refine below_call ?_ ?_ (by assumption)) | go_size))⟩

set_option maxHeartbeats 1600000 in
theorem implAddSpans_any (an ad bn bd : Int) (w : World) :
    Calls Try.prog 25 #[tv an ad, tv bn bd] w fun e w' => e = .returned (rv (addS an ad bn bd)) ∧ Below w.heap.size w w' := by
  cases ga : spanB an ad
  · have HM := Lib.hid (show fail3 = addS an ad bn bd from by simp [addS, ga])
    (go_enter Try.func25, Try.ntmps25)
    go_wp2_with fail
    refine (isSpan_is _ _ ga _).mono ?_
    (rintro e1 w1 ⟨rfl, hb1⟩; obtain ⟨hc1, hf1⟩ := bcell hb1; have hz1 := hb1.size; (try simp only [World.size_alloc, World.size_setCell, World.size_drew] at hz1); have q1 : w.heap.size ≤ w1.heap.size := (by omega); (try have q1_0 : w.heap.size < w1.heap.size := (by omega)); (try have q1_1 : w.heap.size + 1 < w1.heap.size := (by omega)); (try have q1_2 : w.heap.size + 2 < w1.heap.size := (by omega)); (try have q1_3 : w.heap.size + 3 < w1.heap.size := (by omega)))
    go_wp2
    (refine bodyPost_ret (by simp [results, Try.results25, go_sem, *]; try rfl) rfl ?_)
    exact ⟨ret_rv HM.out, by (repeat' (first | (with_reducible exact Below.refl _ _) | (with_reducible assumption) | (with_reducible refine Below.alloc ?_ ?_ _) | (with_reducible refine Below.drew ?_) | (with_reducible refine below_drewN ?_ _) | (with_reducible refine Below.setCell ?_ ?_ _) | (with_reducible refine below_call ?_ ?_ (by assumption)) | go_size))⟩
  · cases gb : spanB bn bd
    · have HM := Lib.hid (show fail3 = addS an ad bn bd from by simp [addS, ga, gb])
      (go_enter Try.func25, Try.ntmps25)
      go_wp2_with fail
      refine (isSpan_is _ _ ga _).mono ?_
      (rintro e1 w1 ⟨rfl, hb1⟩; obtain ⟨hc1, hf1⟩ := bcell hb1; have hz1 := hb1.size; (try simp only [World.size_alloc, World.size_setCell, World.size_drew] at hz1); have q1 : w.heap.size ≤ w1.heap.size := (by omega); (try have q1_0 : w.heap.size < w1.heap.size := (by omega)); (try have q1_1 : w.heap.size + 1 < w1.heap.size := (by omega)); (try have q1_2 : w.heap.size + 2 < w1.heap.size := (by omega)); (try have q1_3 : w.heap.size + 3 < w1.heap.size := (by omega)))
      go_wp2_with fail
      refine (isSpan_is _ _ gb _).mono ?_
      (rintro e2 w2 ⟨rfl, hb2⟩; obtain ⟨hc2, hf2⟩ := bcell hb2; have hz2 := hb2.size; (try simp only [World.size_alloc, World.size_setCell, World.size_drew] at hz2); have q2 : w.heap.size ≤ w2.heap.size := (by omega); (try have q2_0 : w.heap.size < w2.heap.size := (by omega)); (try have q2_1 : w.heap.size + 1 < w2.heap.size := (by omega)); (try have q2_2 : w.heap.size + 2 < w2.heap.size := (by omega)); (try have q2_3 : w.heap.size + 3 < w2.heap.size := (by omega)); (try have q2_1_0 : w1.heap.size < w2.heap.size := (by omega)); (try have q2_1_1 : w1.heap.size + 1 < w2.heap.size := (by omega)))
      go_wp2
      (refine bodyPost_ret (by simp [results, Try.results25, go_sem, *]; try rfl) rfl ?_)
      exact ⟨ret_rv HM.out, by (repeat' (first | (with_reducible exact Below.refl _ _) | (with_reducible assumption) | (with_reducible refine Below.alloc ?_ ?_ _) | (with_reducible refine Below.drew ?_) | (with_reducible refine below_drewN ?_ _) | (with_reducible refine Below.setCell ?_ ?_ _) | (with_reducible refine below_call ?_ ?_ (by assumption)) | go_size))⟩
    · obtain ⟨a1, a2, a3, a4, a5⟩ := spanB_bd ga
      obtain ⟨b1, b2, b3, b4, b5⟩ := spanB_bd gb
      obtain ⟨p1, p2⟩ := mulb a3 a4 (show 0 ≤ bd by omega) b2
      obtain ⟨p3, p4⟩ := mulb b3 b4 (show 0 ≤ ad by omega) a2
      obtain ⟨p5, p6⟩ := mulb (show 0 ≤ ad by omega) a2 (show 0 ≤ bd by omega) b2
      have p7 : 1 ≤ ad * bd := Int.mul_pos (by omega) (by omega)
      have HS := Lib.hid (sum_two [] (x := bn) (y := bd) a5)
      have HK := Lib.hid (sumOk_two (x := bn) (y := bd) a5 ⟨a3, by omega⟩ ⟨a1, by omega⟩ ⟨b3, by omega⟩ ⟨b1, by omega⟩)
      have HM := Lib.hid (show limS (spN (an * bd + bn * ad) (ad * bd)) (spD (an * bd + bn * ad) (ad * bd)) = addS an ad bn bd from by simp [addS, ga, gb, mkS])
      (go_enter Try.func25, Try.ntmps25)
      go_wp2_with fail
      refine (isSpan_is _ _ ga _).mono ?_
      (rintro e1 w1 ⟨rfl, hb1⟩; obtain ⟨hc1, hf1⟩ := bcell hb1; have hz1 := hb1.size; (try simp only [World.size_alloc, World.size_setCell, World.size_drew] at hz1); have q1 : w.heap.size ≤ w1.heap.size := (by omega); (try have q1_0 : w.heap.size < w1.heap.size := (by omega)); (try have q1_1 : w.heap.size + 1 < w1.heap.size := (by omega)); (try have q1_2 : w.heap.size + 2 < w1.heap.size := (by omega)); (try have q1_3 : w.heap.size + 3 < w1.heap.size := (by omega)))
      go_wp2_with fail
      refine (isSpan_is _ _ gb _).mono ?_
      (rintro e2 w2 ⟨rfl, hb2⟩; obtain ⟨hc2, hf2⟩ := bcell hb2; have hz2 := hb2.size; (try simp only [World.size_alloc, World.size_setCell, World.size_drew] at hz2); have q2 : w.heap.size ≤ w2.heap.size := (by omega); (try have q2_0 : w.heap.size < w2.heap.size := (by omega)); (try have q2_1 : w.heap.size + 1 < w2.heap.size := (by omega)); (try have q2_2 : w.heap.size + 2 < w2.heap.size := (by omega)); (try have q2_3 : w.heap.size + 3 < w2.heap.size := (by omega)); (try have q2_1_0 : w1.heap.size < w2.heap.size := (by omega)); (try have q2_1_1 : w1.heap.size + 1 < w2.heap.size := (by omega)))
      have c2_0_0 : w2.cell? ⟨w.heap.size, 0, none⟩ = some (.int .i64 an) := (hc2 _ _ (by first | go_size | (simp; omega) | simp)).trans (by go_simp)
      have f2_0_0 : w2.frozen? ⟨w.heap.size, 0, none⟩ = false := (hf2 _ _ (by first | go_size | (simp; omega) | simp)).trans (by go_simp)
      have c2_0_1 : w2.cell? ⟨w.heap.size, 1, none⟩ = some (.int .i64 ad) := (hc2 _ _ (by first | go_size | (simp; omega) | simp)).trans (by go_simp)
      have f2_0_1 : w2.frozen? ⟨w.heap.size, 1, none⟩ = false := (hf2 _ _ (by first | go_size | (simp; omega) | simp)).trans (by go_simp)
      have c2_1_0 : w2.cell? ⟨w.heap.size + 1, 0, none⟩ = some (.int .i64 bn) := (hc2 _ _ (by first | go_size | (simp; omega) | simp)).trans (by go_simp)
      have f2_1_0 : w2.frozen? ⟨w.heap.size + 1, 0, none⟩ = false := (hf2 _ _ (by first | go_size | (simp; omega) | simp)).trans (by go_simp)
      have c2_1_1 : w2.cell? ⟨w.heap.size + 1, 1, none⟩ = some (.int .i64 bd) := (hc2 _ _ (by first | go_size | (simp; omega) | simp)).trans (by go_simp)
      have f2_1_1 : w2.frozen? ⟨w.heap.size + 1, 1, none⟩ = false := (hf2 _ _ (by first | go_size | (simp; omega) | simp)).trans (by go_simp)
      have c2_2_0 : w2.cell? ⟨w.heap.size + 1 + 1, 0, none⟩ = some (.int .i64 0) := (hc2 _ _ (by first | go_size | (simp; omega) | simp)).trans (by go_simp)
      have f2_2_0 : w2.frozen? ⟨w.heap.size + 1 + 1, 0, none⟩ = false := (hf2 _ _ (by first | go_size | (simp; omega) | simp)).trans (by go_simp)
      have c2_2_1 : w2.cell? ⟨w.heap.size + 1 + 1, 1, none⟩ = some (.int .i64 0) := (hc2 _ _ (by first | go_size | (simp; omega) | simp)).trans (by go_simp)
      have f2_2_1 : w2.frozen? ⟨w.heap.size + 1 + 1, 1, none⟩ = false := (hf2 _ _ (by first | go_size | (simp; omega) | simp)).trans (by go_simp)
      go_wp2_with fail
      refine (newSum_any _).mono ?_
      rintro e3 w3 ⟨rfl, n0, n1, n2, n3, n4, hb3⟩
      try simp only [World.size_alloc, World.size_setCell] at n0 n1 n2 n3 n4
      obtain ⟨hc3, hf3⟩ := bcell hb3
      have hz3 := hb3.size
      try simp only [World.size_alloc, World.size_setCell] at hz3
      have c3_0_0 : w3.cell? ⟨w.heap.size, 0, none⟩ = some (.int .i64 an) := (hc3 _ _ (by first | go_size | (simp; omega) | simp)).trans (by go_simp)
      have f3_0_0 : w3.frozen? ⟨w.heap.size, 0, none⟩ = false := (hf3 _ _ (by first | go_size | (simp; omega) | simp)).trans (by go_simp)
      have c3_0_1 : w3.cell? ⟨w.heap.size, 1, none⟩ = some (.int .i64 ad) := (hc3 _ _ (by first | go_size | (simp; omega) | simp)).trans (by go_simp)
      have f3_0_1 : w3.frozen? ⟨w.heap.size, 1, none⟩ = false := (hf3 _ _ (by first | go_size | (simp; omega) | simp)).trans (by go_simp)
      have c3_1_0 : w3.cell? ⟨w.heap.size + 1, 0, none⟩ = some (.int .i64 bn) := (hc3 _ _ (by first | go_size | (simp; omega) | simp)).trans (by go_simp)
      have f3_1_0 : w3.frozen? ⟨w.heap.size + 1, 0, none⟩ = false := (hf3 _ _ (by first | go_size | (simp; omega) | simp)).trans (by go_simp)
      have c3_1_1 : w3.cell? ⟨w.heap.size + 1, 1, none⟩ = some (.int .i64 bd) := (hc3 _ _ (by first | go_size | (simp; omega) | simp)).trans (by go_simp)
      have f3_1_1 : w3.frozen? ⟨w.heap.size + 1, 1, none⟩ = false := (hf3 _ _ (by first | go_size | (simp; omega) | simp)).trans (by go_simp)
      have c3_2_0 : w3.cell? ⟨w.heap.size + 1 + 1, 0, none⟩ = some (.int .i64 0) := (hc3 _ _ (by first | go_size | (simp; omega) | simp)).trans (by go_simp)
      have f3_2_0 : w3.frozen? ⟨w.heap.size + 1 + 1, 0, none⟩ = false := (hf3 _ _ (by first | go_size | (simp; omega) | simp)).trans (by go_simp)
      have c3_2_1 : w3.cell? ⟨w.heap.size + 1 + 1, 1, none⟩ = some (.int .i64 0) := (hc3 _ _ (by first | go_size | (simp; omega) | simp)).trans (by go_simp)
      have f3_2_1 : w3.frozen? ⟨w.heap.size + 1 + 1, 1, none⟩ = false := (hf3 _ _ (by first | go_size | (simp; omega) | simp)).trans (by go_simp)
      have B3 : Below w.heap.size w w3 := by (repeat' (first | (with_reducible exact Below.refl _ _) | (with_reducible assumption) | (with_reducible refine Below.alloc ?_ ?_ _) | (with_reducible refine Below.drew ?_) | (with_reducible refine below_drewN ?_ _) | (with_reducible refine Below.setCell ?_ ?_ _) | (with_reducible refine below_call ?_ ?_ (by assumption)) | go_size))
      have u3_0 : w.heap.size + 1 + 1 < w3.heap.size := by omega
      have u3_1 : w2.heap.size < w3.heap.size := by omega
      have u3_2 : w.heap.size < w3.heap.size := by omega
      have u3_3 : w.heap.size + 1 < w3.heap.size := by omega
      clear hc3 hf3 hc2 hf2 hc1 hf1
      go_wp2_with fail
      refine (add_any [(an, ad), (bn, bd)] w3.heap.size 0 w2.heap.size 2 _ (by simp) (by simp) (by simp) (by simp; omega) (by omega) ?parts HK.out (by go_simp) (by go_simp) (by go_simp) (by go_simp)).mono ?_
      case parts =>
        intro k hk
        have hk' : k = 0 ∨ k = 1 := by simp at hk; omega
        rcases hk' with rfl | rfl
        · exact ⟨by go_simp; try rfl, by go_simp; try rfl⟩
        · exact ⟨by go_simp; try rfl, by go_simp; try rfl⟩
      rintro e4 w4 ⟨rfl, hgb⟩
      have hz4 := hgb.size
      simp only [World.size_alloc] at hz4
      have c4_0 : w4.cell? ⟨w.heap.size + 1 + 1, 0, none⟩ = some (.int .i64 0) := (World.grownBy.cell_far hgb ⟨w.heap.size + 1 + 1, 0, none⟩ (by simp; omega) (by simp; omega)).trans (by go_simp)
      have f4_0 : w4.frozen? ⟨w.heap.size + 1 + 1, 0, none⟩ = false := (World.grownBy.frozen_far hgb ⟨w.heap.size + 1 + 1, 0, none⟩ (by simp; omega) (by simp; omega)).trans (by go_simp)
      have c4_1 : w4.cell? ⟨w.heap.size + 1 + 1, 1, none⟩ = some (.int .i64 0) := (World.grownBy.cell_far hgb ⟨w.heap.size + 1 + 1, 1, none⟩ (by simp; omega) (by simp; omega)).trans (by go_simp)
      have f4_1 : w4.frozen? ⟨w.heap.size + 1 + 1, 1, none⟩ = false := (World.grownBy.frozen_far hgb ⟨w.heap.size + 1 + 1, 1, none⟩ (by simp; omega) (by simp; omega)).trans (by go_simp)
      have B4 : Below w.heap.size w w4 := Below.grown (B3.alloc (by omega) _) hgb (by simp; omega) (fun k hk => by cases hk; omega)
      clear hgb
      rw [show ([(an, ad), (bn, bd)] : List (Int × Int)).length = 2 from rfl, HS.out]
      have u4_0 : w.heap.size + 1 + 1 < w4.heap.size := by omega
      go_wp2_with fail
      refine (limitedSpan_any _ _ _).mono ?_
      rintro e5 w5 ⟨rfl, hb5⟩
      obtain ⟨hc5, hf5⟩ := bcell hb5
      have c5_0_0 : w5.cell? ⟨w.heap.size + 1 + 1, 0, none⟩ = some (.int .i64 0) := (hc5 _ _ (by first | go_size | (simp; omega) | simp)).trans (by go_simp)
      have f5_0_0 : w5.frozen? ⟨w.heap.size + 1 + 1, 0, none⟩ = false := (hf5 _ _ (by first | go_size | (simp; omega) | simp)).trans (by go_simp)
      have c5_0_1 : w5.cell? ⟨w.heap.size + 1 + 1, 1, none⟩ = some (.int .i64 0) := (hc5 _ _ (by first | go_size | (simp; omega) | simp)).trans (by go_simp)
      have f5_0_1 : w5.frozen? ⟨w.heap.size + 1 + 1, 1, none⟩ = false := (hf5 _ _ (by first | go_size | (simp; omega) | simp)).trans (by go_simp)
      have B5 : Below w.heap.size w w5 := B4.trans (hb5.mono (by omega))
      go_wp2
      (refine bodyPost_ret (by simp [results, Try.results25, go_sem, *]; try rfl) rfl ?_)
      exact ⟨ret_rv HM.out, by (repeat' (first | (with_reducible exact Below.refl _ _) | (with_reducible assumption) | (with_reducible refine Below.alloc ?_ ?_ _) | (with_reducible refine Below.drew ?_) | (with_reducible refine below_drewN ?_ _) | (with_reducible refine Below.setCell ?_ ?_ _) | (with_reducible refine below_call ?_ ?_ (by assumption)) | go_size))⟩

set_option maxHeartbeats 800000 in
theorem turnOfParts_any (L : List (Int × Int)) (g off cap : Nat) (hl : L.length ≤ 100) (hcap : L.length ≤ cap) (HB : SumOk L) (b1 : 1 ≤ (sumK L L.length).2) (b2 : (sumK L L.length).2 ≤ 1000000000000000000) (w : World) (hg : g < w.heap.size) (HP : PartsAt w g off L) :
    Calls Try.prog 71 #[.slice (some ⟨g, off, none⟩) L.length cap] w fun e w' => e = .returned (tv (lowNum (sumK L L.length).1 (sumK L L.length).2) (lowDen (sumK L L.length).1 (sumK L L.length).2)) ∧ Below w.heap.size w w' := by
  have HPh := Lib.hid HP
  clear HP
  (go_enter Try.func71, Try.ntmps71)
  go_wp2_with fail
  refine (newSum_any _).mono ?_
  rintro e1 w1 ⟨rfl, n0, n1, n2, n3, n4, hb1⟩
  try simp only [World.size_alloc, World.size_setCell] at n0 n1 n2 n3 n4
  obtain ⟨hc1, hf1⟩ := bcell hb1
  have hz1 := hb1.size
  try simp only [World.size_alloc, World.size_setCell] at hz1
  have c1_0_0 : w1.cell? ⟨w.heap.size, 0, none⟩ = some (.int .i64 0) := (hc1 _ _ (by first | go_size | (simp; omega) | simp)).trans (by go_simp)
  have f1_0_0 : w1.frozen? ⟨w.heap.size, 0, none⟩ = false := (hf1 _ _ (by first | go_size | (simp; omega) | simp)).trans (by go_simp)
  have c1_0_1 : w1.cell? ⟨w.heap.size, 1, none⟩ = some (.int .i64 0) := (hc1 _ _ (by first | go_size | (simp; omega) | simp)).trans (by go_simp)
  have f1_0_1 : w1.frozen? ⟨w.heap.size, 1, none⟩ = false := (hf1 _ _ (by first | go_size | (simp; omega) | simp)).trans (by go_simp)
  have HPP : Hid (PartsAt w1 g off L) := fun k hk => by
    obtain ⟨p0, p1⟩ := HPh.out k hk
    exact ⟨(hc1 g _ (by simp; omega)).trans ((World.cell?_alloc_past _ _ _ hg).trans p0), (hc1 g _ (by simp; omega)).trans ((World.cell?_alloc_past _ _ _ hg).trans p1)⟩
  have B1 : Below w.heap.size w w1 := by (repeat' (first | (with_reducible exact Below.refl _ _) | (with_reducible assumption) | (with_reducible refine Below.alloc ?_ ?_ _) | (with_reducible refine Below.drew ?_) | (with_reducible refine below_drewN ?_ _) | (with_reducible refine Below.setCell ?_ ?_ _) | (with_reducible refine below_call ?_ ?_ (by assumption)) | go_size))
  clear hc1 hf1
  go_wp2_with fail
  refine (add_any L g off (w.heap.size + 1) cap _ hl hcap (by omega) (by omega) (by omega) HPP.out HB n0 n1 n2 n3).mono ?_
  rintro e2 w2 ⟨rfl, hgb⟩
  have hz2 := hgb.size
  have c2_0 : w2.cell? ⟨w.heap.size, 0, none⟩ = some (.int .i64 0) := (World.grownBy.cell_far hgb ⟨w.heap.size, 0, none⟩ (by simp; omega) (by simp)).trans (by go_simp)
  have f2_0 : w2.frozen? ⟨w.heap.size, 0, none⟩ = false := (World.grownBy.frozen_far hgb ⟨w.heap.size, 0, none⟩ (by simp; omega) (by simp)).trans (by go_simp)
  have c2_1 : w2.cell? ⟨w.heap.size, 1, none⟩ = some (.int .i64 0) := (World.grownBy.cell_far hgb ⟨w.heap.size, 1, none⟩ (by simp; omega) (by simp)).trans (by go_simp)
  have f2_1 : w2.frozen? ⟨w.heap.size, 1, none⟩ = false := (World.grownBy.frozen_far hgb ⟨w.heap.size, 1, none⟩ (by simp; omega) (by simp)).trans (by go_simp)
  have B2 : Below w.heap.size w w2 := Below.grown B1 hgb (by omega) (fun k hk => by cases hk; omega)
  clear hgb
  have u2_0 : w.heap.size < w2.heap.size := by omega
  go_wp2_with fail
  refine (lowest_any (sumK L L.length).1 (sumK L L.length).2 b1 b2 _).mono ?_
  rintro e3 w3 ⟨rfl, hb3⟩
  obtain ⟨hc3, hf3⟩ := bcell hb3
  have c3_0_0 : w3.cell? ⟨w.heap.size, 0, none⟩ = some (.int .i64 0) := (hc3 _ _ (by first | go_size | (simp; omega) | simp)).trans (by go_simp)
  have f3_0_0 : w3.frozen? ⟨w.heap.size, 0, none⟩ = false := (hf3 _ _ (by first | go_size | (simp; omega) | simp)).trans (by go_simp)
  have c3_0_1 : w3.cell? ⟨w.heap.size, 1, none⟩ = some (.int .i64 0) := (hc3 _ _ (by first | go_size | (simp; omega) | simp)).trans (by go_simp)
  have f3_0_1 : w3.frozen? ⟨w.heap.size, 1, none⟩ = false := (hf3 _ _ (by first | go_size | (simp; omega) | simp)).trans (by go_simp)
  go_wp2
  (refine bodyPost_ret (by simp [results, Try.results71, go_sem, *]; try rfl) rfl ?_)
  exact ⟨rfl, by (repeat' (first | (with_reducible exact Below.refl _ _) | (with_reducible assumption) | (with_reducible refine Below.alloc ?_ ?_ _) | (with_reducible refine Below.drew ?_) | (with_reducible refine below_drewN ?_ _) | (with_reducible refine Below.setCell ?_ ?_ _) | (with_reducible refine below_call ?_ ?_ (by assumption)) | go_size))⟩

end Go.Proofs.Ytnokjdcgokfdhaa
