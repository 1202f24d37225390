/- What clocks show, by how much they are ahead, and how they are set right: by the program. -/
import Derived.Test.YtnokjdcgokfdhaaDrift10
set_option linter.unusedSimpArgs false
set_option linter.unusedVariables false
set_option maxRecDepth 100000
namespace Go.Proofs.Ytnokjdcgokfdhaa
open Go.RowKit
attribute [local go_sem ↓] Go.wp_at_zero Go.wp_at_succ

theorem sum_den2 {n d x y : Int} (h : gc n d = 1) (h1 : 0 ≤ n ∧ n ≤ 100000000) (h2 : 1 ≤ d ∧ d ≤ 100000000) (h3 : 0 ≤ x ∧ x ≤ 100000000) (h4 : 1 ≤ y ∧ y ≤ 100000000) :
    (0 ≤ (sumK [(n, d), (x, y)] 2).1 ∧ (sumK [(n, d), (x, y)] 2).1 ≤ 20000000000000000) ∧ 1 ≤ (sumK [(n, d), (x, y)] 2).2 ∧ (sumK [(n, d), (x, y)] 2).2 ≤ 10000000000000000 := by
  rw [sum_two _ h]
  have a1 := mulb h1.1 h1.2 (show 0 ≤ y by omega) h4.2
  have a2 := mulb h3.1 h3.2 (show 0 ≤ d by omega) h2.2
  have a3 := mulb (show 0 ≤ d by omega) h2.2 (show 0 ≤ y by omega) h4.2
  have a4 : 1 ≤ d * y := Int.mul_pos (by omega) (by omega)
  have b := sp_bd (n * y + x * d) (d * y) (by omega) a4
  simp only
  omega
theorem sum_den3 {n d x y u v : Int} (h : gc n d = 1) (h1 : 0 ≤ n ∧ n ≤ 1000) (h2 : 1 ≤ d ∧ d ≤ 1000) (h3 : 0 ≤ x ∧ x ≤ 10000000) (h4 : 1 ≤ y ∧ y ≤ 10000000) (h5 : 0 ≤ u ∧ u ≤ 10000) (h6 : 1 ≤ v ∧ v ≤ 10000) :
    (0 ≤ (sumK [(n, d), (x, y), (u, v)] 3).1 ∧ (sumK [(n, d), (x, y), (u, v)] 3).1 ≤ 20000000000000000) ∧ 1 ≤ (sumK [(n, d), (x, y), (u, v)] 3).2 ∧ (sumK [(n, d), (x, y), (u, v)] 3).2 ≤ 10000000000000000 := by
  have e : sumK [(n, d), (x, y), (u, v)] 3 = stepS (sumK [(n, d), (x, y), (u, v)] 2) (u, v) := rfl
  rw [e, sum_two _ h]
  obtain ⟨⟨b1, b2⟩, b3, b4⟩ := sum2_bd h1 h2 h3 h4
  generalize spN (n * y + x * d) (d * y) = N at *
  generalize spD (n * y + x * d) (d * y) = D at *
  have a1 := mulb b1 b2 (show 0 ≤ v by omega) h6.2
  have a2 := mulb h5.1 h5.2 (show 0 ≤ D by omega) b4
  have a3 := mulb (show 0 ≤ D by omega) b4 (show 0 ≤ v by omega) h6.2
  have a4 : 1 ≤ D * v := Int.mul_pos (by omega) (by omega)
  have b := sp_bd (N * v + u * D) (D * v) (by omega) a4
  unfold stepS
  simp only
  omega

set_option maxHeartbeats 3200000 in
theorem implShownAfter_any (n d p q sn sd : Int) (w : World) :
    Calls Try.prog 34 #[cv n d p q, tv sn sd] w fun e w' => e = .returned (rv (shownT n d p q sn sd 0)) ∧ Below w.heap.size w w' := by
  cases ga : clockB n d p q
  · have HM := Lib.hid (show fail3 = shownT n d p q sn sd 0 from by simp [shownT, drTwoB, ga])
    (go_enter Try.func34, Try.ntmps34)
    go_wp2_with fail
    refine (isClock_is _ _ _ _ ga _).mono ?_
    (rintro e1 w1 ⟨rfl, hb1⟩; obtain ⟨hc1, hf1⟩ := bcell hb1; have hz1 := hb1.size; (try simp only [World.size_alloc, World.size_setCell, World.size_drew] at hz1); have q1 : w.heap.size ≤ w1.heap.size := (by omega); (try have q1_0 : w.heap.size < w1.heap.size := (by omega)); (try have q1_1 : w.heap.size + 1 < w1.heap.size := (by omega)); (try have q1_2 : w.heap.size + 2 < w1.heap.size := (by omega)); (try have q1_3 : w.heap.size + 3 < w1.heap.size := (by omega)))
    go_wp2
    (refine bodyPost_ret (by simp [results, Try.results34, go_sem, *]; try rfl) rfl ?_)
    exact ⟨ret_rv HM.out, by (repeat' (first | (with_reducible exact Below.refl _ _) | (with_reducible assumption) | (with_reducible refine Below.alloc ?_ ?_ _) | (with_reducible refine Below.drew ?_) | (with_reducible refine below_drewN ?_ _) | (with_reducible refine Below.setCell ?_ ?_ _) | (with_reducible refine below_call ?_ ?_ (by assumption)) | go_size))⟩
  · cases gb : spanB sn sd
    · have HM := Lib.hid (show fail3 = shownT n d p q sn sd 0 from by simp [shownT, drTwoB, ga, gb])
      (go_enter Try.func34, Try.ntmps34)
      go_wp2_with fail
      refine (isClock_is _ _ _ _ ga _).mono ?_
      (rintro e1 w1 ⟨rfl, hb1⟩; obtain ⟨hc1, hf1⟩ := bcell hb1; have hz1 := hb1.size; (try simp only [World.size_alloc, World.size_setCell, World.size_drew] at hz1); have q1 : w.heap.size ≤ w1.heap.size := (by omega); (try have q1_0 : w.heap.size < w1.heap.size := (by omega)); (try have q1_1 : w.heap.size + 1 < w1.heap.size := (by omega)); (try have q1_2 : w.heap.size + 2 < w1.heap.size := (by omega)); (try have q1_3 : w.heap.size + 3 < w1.heap.size := (by omega)))
      go_wp2_with fail
      refine (isSpan_is _ _ gb _).mono ?_
      (rintro e2 w2 ⟨rfl, hb2⟩; obtain ⟨hc2, hf2⟩ := bcell hb2; have hz2 := hb2.size; (try simp only [World.size_alloc, World.size_setCell, World.size_drew] at hz2); have q2 : w.heap.size ≤ w2.heap.size := (by omega); (try have q2_0 : w.heap.size < w2.heap.size := (by omega)); (try have q2_1 : w.heap.size + 1 < w2.heap.size := (by omega)); (try have q2_2 : w.heap.size + 2 < w2.heap.size := (by omega)); (try have q2_3 : w.heap.size + 3 < w2.heap.size := (by omega)); (try have q2_1_0 : w1.heap.size < w2.heap.size := (by omega)); (try have q2_1_1 : w1.heap.size + 1 < w2.heap.size := (by omega)))
      go_wp2
      (refine bodyPost_ret (by simp [results, Try.results34, go_sem, *]; try rfl) rfl ?_)
      exact ⟨ret_rv HM.out, by (repeat' (first | (with_reducible exact Below.refl _ _) | (with_reducible assumption) | (with_reducible refine Below.alloc ?_ ?_ _) | (with_reducible refine Below.drew ?_) | (with_reducible refine below_drewN ?_ _) | (with_reducible refine Below.setCell ?_ ?_ _) | (with_reducible refine below_call ?_ ?_ (by assumption)) | go_size))⟩
    · obtain ⟨⟨a1, a2, a3, a4⟩, ⟨a5, a6⟩, ⟨a7, a8⟩, a9, a10⟩ := clockB_bd ga
      obtain ⟨s1, s2, s3, s4, s5⟩ := spanB_bd gb
      obtain ⟨-, -, -, -, ⟨m9, m10⟩, ⟨m11, m12⟩, m13⟩ := go_bd ⟨a5, a6⟩ ⟨a7, a8⟩ ⟨s3, s4⟩ ⟨s1, s2⟩
      obtain ⟨⟨r1, r2⟩, r3, r4⟩ := back_bd (sn := sn) ⟨s1, s2⟩
      have HK : SumOk (twoL n d p q sn sd) := sumOk_two (x := goN p q sn sd) (y := goD p q sn sd) a10 ⟨a3, by omega⟩ ⟨a1, by omega⟩ ⟨m9, by omega⟩ ⟨m11, by omega⟩
      have hden := sum_den2 (x := goN p q sn sd) (y := goD p q sn sd) a10 ⟨a3, by omega⟩ ⟨a1, by omega⟩ ⟨m9, by omega⟩ ⟨m11, by omega⟩
      have hcall := fun (W : World) (g : Nat) (hg : g < W.heap.size) (HP : PartsAt W g 0 (twoL n d p q sn sd)) => turnOfParts_any (twoL n d p q sn sd) g 0 2 (by simp [twoL]) (by simp [twoL]) HK hden.2.1 (Int.le_trans hden.2.2 (by decide)) W hg HP
      have HM : Hid (mk (sumK (twoL n d p q sn sd) (twoL n d p q sn sd).length).1 (sumK (twoL n d p q sn sd) (twoL n d p q sn sd).length).2 = shownT n d p q sn sd 0) := shown_cong ga gb
      generalize sumK (twoL n d p q sn sd) (twoL n d p q sn sd).length = s at hcall HM
      obtain ⟨N, D⟩ := s
      have HC := Lib.hid hcall
      clear hcall HK hden
      (go_enter Try.func34, Try.ntmps34)
      go_wp2_with fail
      refine (isClock_is _ _ _ _ ga _).mono ?_
      (rintro e1 w1 ⟨rfl, hb1⟩; obtain ⟨hc1, hf1⟩ := bcell hb1; have hz1 := hb1.size; (try simp only [World.size_alloc, World.size_setCell, World.size_drew] at hz1); have q1 : w.heap.size ≤ w1.heap.size := (by omega); (try have q1_0 : w.heap.size < w1.heap.size := (by omega)); (try have q1_1 : w.heap.size + 1 < w1.heap.size := (by omega)); (try have q1_2 : w.heap.size + 2 < w1.heap.size := (by omega)); (try have q1_3 : w.heap.size + 3 < w1.heap.size := (by omega)))
      go_wp2_with fail
      refine (isSpan_is _ _ gb _).mono ?_
      (rintro e2 w2 ⟨rfl, hb2⟩; obtain ⟨hc2, hf2⟩ := bcell hb2; have hz2 := hb2.size; (try simp only [World.size_alloc, World.size_setCell, World.size_drew] at hz2); have q2 : w.heap.size ≤ w2.heap.size := (by omega); (try have q2_0 : w.heap.size < w2.heap.size := (by omega)); (try have q2_1 : w.heap.size + 1 < w2.heap.size := (by omega)); (try have q2_2 : w.heap.size + 2 < w2.heap.size := (by omega)); (try have q2_3 : w.heap.size + 3 < w2.heap.size := (by omega)); (try have q2_1_0 : w1.heap.size < w2.heap.size := (by omega)); (try have q2_1_1 : w1.heap.size + 1 < w2.heap.size := (by omega)))
      have c2_0_0 : w2.cell? ⟨w.heap.size, 0, none⟩ = some (.int .i64 n) := (hc2 _ _ (by first | go_size | (simp; omega) | simp)).trans (by go_simp)
      have f2_0_0 : w2.frozen? ⟨w.heap.size, 0, none⟩ = false := (hf2 _ _ (by first | go_size | (simp; omega) | simp)).trans (by go_simp)
      have c2_0_1 : w2.cell? ⟨w.heap.size, 1, none⟩ = some (.int .i64 d) := (hc2 _ _ (by first | go_size | (simp; omega) | simp)).trans (by go_simp)
      have f2_0_1 : w2.frozen? ⟨w.heap.size, 1, none⟩ = false := (hf2 _ _ (by first | go_size | (simp; omega) | simp)).trans (by go_simp)
      have c2_0_2 : w2.cell? ⟨w.heap.size, 2, none⟩ = some (.int .i64 p) := (hc2 _ _ (by first | go_size | (simp; omega) | simp)).trans (by go_simp)
      have f2_0_2 : w2.frozen? ⟨w.heap.size, 2, none⟩ = false := (hf2 _ _ (by first | go_size | (simp; omega) | simp)).trans (by go_simp)
      have c2_0_3 : w2.cell? ⟨w.heap.size, 3, none⟩ = some (.int .i64 q) := (hc2 _ _ (by first | go_size | (simp; omega) | simp)).trans (by go_simp)
      have f2_0_3 : w2.frozen? ⟨w.heap.size, 3, none⟩ = false := (hf2 _ _ (by first | go_size | (simp; omega) | simp)).trans (by go_simp)
      have c2_1_0 : w2.cell? ⟨w.heap.size + 1, 0, none⟩ = some (.int .i64 sn) := (hc2 _ _ (by first | go_size | (simp; omega) | simp)).trans (by go_simp)
      have f2_1_0 : w2.frozen? ⟨w.heap.size + 1, 0, none⟩ = false := (hf2 _ _ (by first | go_size | (simp; omega) | simp)).trans (by go_simp)
      have c2_1_1 : w2.cell? ⟨w.heap.size + 1, 1, none⟩ = some (.int .i64 sd) := (hc2 _ _ (by first | go_size | (simp; omega) | simp)).trans (by go_simp)
      have f2_1_1 : w2.frozen? ⟨w.heap.size + 1, 1, none⟩ = false := (hf2 _ _ (by first | go_size | (simp; omega) | simp)).trans (by go_simp)
      have c2_2_0 : w2.cell? ⟨w.heap.size + 1 + 1, 0, none⟩ = some (.int .i64 0) := (hc2 _ _ (by first | go_size | (simp; omega) | simp)).trans (by go_simp)
      have f2_2_0 : w2.frozen? ⟨w.heap.size + 1 + 1, 0, none⟩ = false := (hf2 _ _ (by first | go_size | (simp; omega) | simp)).trans (by go_simp)
      have c2_2_1 : w2.cell? ⟨w.heap.size + 1 + 1, 1, none⟩ = some (.int .i64 0) := (hc2 _ _ (by first | go_size | (simp; omega) | simp)).trans (by go_simp)
      have f2_2_1 : w2.frozen? ⟨w.heap.size + 1 + 1, 1, none⟩ = false := (hf2 _ _ (by first | go_size | (simp; omega) | simp)).trans (by go_simp)
      go_wp2_with fail
      refine (partsOfAhead_any n d p q sn sd ga gb _).mono ?_
      rintro e3 w3 ⟨g, rfl, hP, hg1, hg2, hb3⟩
      obtain ⟨hc3, hf3⟩ := bcell hb3
      have hz3 := hb3.size
      have c3_0_0 : w3.cell? ⟨w.heap.size, 0, none⟩ = some (.int .i64 n) := (hc3 _ _ (by first | go_size | (simp; omega) | simp)).trans (by go_simp)
      have f3_0_0 : w3.frozen? ⟨w.heap.size, 0, none⟩ = false := (hf3 _ _ (by first | go_size | (simp; omega) | simp)).trans (by go_simp)
      have c3_0_1 : w3.cell? ⟨w.heap.size, 1, none⟩ = some (.int .i64 d) := (hc3 _ _ (by first | go_size | (simp; omega) | simp)).trans (by go_simp)
      have f3_0_1 : w3.frozen? ⟨w.heap.size, 1, none⟩ = false := (hf3 _ _ (by first | go_size | (simp; omega) | simp)).trans (by go_simp)
      have c3_0_2 : w3.cell? ⟨w.heap.size, 2, none⟩ = some (.int .i64 p) := (hc3 _ _ (by first | go_size | (simp; omega) | simp)).trans (by go_simp)
      have f3_0_2 : w3.frozen? ⟨w.heap.size, 2, none⟩ = false := (hf3 _ _ (by first | go_size | (simp; omega) | simp)).trans (by go_simp)
      have c3_0_3 : w3.cell? ⟨w.heap.size, 3, none⟩ = some (.int .i64 q) := (hc3 _ _ (by first | go_size | (simp; omega) | simp)).trans (by go_simp)
      have f3_0_3 : w3.frozen? ⟨w.heap.size, 3, none⟩ = false := (hf3 _ _ (by first | go_size | (simp; omega) | simp)).trans (by go_simp)
      have c3_1_0 : w3.cell? ⟨w.heap.size + 1 + 1, 0, none⟩ = some (.int .i64 0) := (hc3 _ _ (by first | go_size | (simp; omega) | simp)).trans (by go_simp)
      have f3_1_0 : w3.frozen? ⟨w.heap.size + 1 + 1, 0, none⟩ = false := (hf3 _ _ (by first | go_size | (simp; omega) | simp)).trans (by go_simp)
      have c3_1_1 : w3.cell? ⟨w.heap.size + 1 + 1, 1, none⟩ = some (.int .i64 0) := (hc3 _ _ (by first | go_size | (simp; omega) | simp)).trans (by go_simp)
      have f3_1_1 : w3.frozen? ⟨w.heap.size + 1 + 1, 1, none⟩ = false := (hf3 _ _ (by first | go_size | (simp; omega) | simp)).trans (by go_simp)
      have HPP : Hid (PartsAt w3 g 0 (twoL n d p q sn sd)) := fun k hk => by
        have hk' : k = 0 ∨ k = 1 := by simp [twoL] at hk; omega
        rcases hk' with rfl | rfl
        · exact hP 0 (by simp [allL])
        · exact hP 1 (by simp [allL])
      have B3 : Below w.heap.size w w3 := by (repeat' (first | (with_reducible exact Below.refl _ _) | (with_reducible assumption) | (with_reducible refine Below.alloc ?_ ?_ _) | (with_reducible refine Below.drew ?_) | (with_reducible refine below_drewN ?_ _) | (with_reducible refine Below.setCell ?_ ?_ _) | (with_reducible refine below_call ?_ ?_ (by assumption)) | go_size))
      clear hc3 hf3 hc2 hf2 hc1 hf1 hP
      have u3_0 : w.heap.size + 1 + 1 < w3.heap.size := by omega
      have u3_1 : w.heap.size < w3.heap.size := by omega
      go_wp2_with fail
      refine (HC.out _ g hg2 HPP.out).mono ?_
      (rintro e4 w4 ⟨rfl, hb4⟩; obtain ⟨hc4, hf4⟩ := bcell hb4; have hz4 := hb4.size; (try simp only [World.size_alloc, World.size_setCell, World.size_drew] at hz4); have q4 : w.heap.size ≤ w4.heap.size := (by omega); (try have q4_0 : w.heap.size < w4.heap.size := (by omega)); (try have q4_1 : w.heap.size + 1 < w4.heap.size := (by omega)); (try have q4_2 : w.heap.size + 2 < w4.heap.size := (by omega)); (try have q4_3 : w.heap.size + 3 < w4.heap.size := (by omega)); (try have q4_1_0 : w1.heap.size < w4.heap.size := (by omega)); (try have q4_1_1 : w1.heap.size + 1 < w4.heap.size := (by omega)); (try have q4_2_0 : w2.heap.size < w4.heap.size := (by omega)); (try have q4_2_1 : w2.heap.size + 1 < w4.heap.size := (by omega)); (try have q4_3_0 : w3.heap.size < w4.heap.size := (by omega)); (try have q4_3_1 : w3.heap.size + 1 < w4.heap.size := (by omega)))
      have c4_0_0 : w4.cell? ⟨w.heap.size, 0, none⟩ = some (.int .i64 n) := (hc4 _ _ (by first | go_size | (simp; omega) | simp)).trans (by go_simp)
      have f4_0_0 : w4.frozen? ⟨w.heap.size, 0, none⟩ = false := (hf4 _ _ (by first | go_size | (simp; omega) | simp)).trans (by go_simp)
      have c4_0_1 : w4.cell? ⟨w.heap.size, 1, none⟩ = some (.int .i64 d) := (hc4 _ _ (by first | go_size | (simp; omega) | simp)).trans (by go_simp)
      have f4_0_1 : w4.frozen? ⟨w.heap.size, 1, none⟩ = false := (hf4 _ _ (by first | go_size | (simp; omega) | simp)).trans (by go_simp)
      have c4_0_2 : w4.cell? ⟨w.heap.size, 2, none⟩ = some (.int .i64 p) := (hc4 _ _ (by first | go_size | (simp; omega) | simp)).trans (by go_simp)
      have f4_0_2 : w4.frozen? ⟨w.heap.size, 2, none⟩ = false := (hf4 _ _ (by first | go_size | (simp; omega) | simp)).trans (by go_simp)
      have c4_0_3 : w4.cell? ⟨w.heap.size, 3, none⟩ = some (.int .i64 q) := (hc4 _ _ (by first | go_size | (simp; omega) | simp)).trans (by go_simp)
      have f4_0_3 : w4.frozen? ⟨w.heap.size, 3, none⟩ = false := (hf4 _ _ (by first | go_size | (simp; omega) | simp)).trans (by go_simp)
      have c4_1_0 : w4.cell? ⟨w.heap.size + 1 + 1, 0, none⟩ = some (.int .i64 0) := (hc4 _ _ (by first | go_size | (simp; omega) | simp)).trans (by go_simp)
      have f4_1_0 : w4.frozen? ⟨w.heap.size + 1 + 1, 0, none⟩ = false := (hf4 _ _ (by first | go_size | (simp; omega) | simp)).trans (by go_simp)
      have c4_1_1 : w4.cell? ⟨w.heap.size + 1 + 1, 1, none⟩ = some (.int .i64 0) := (hc4 _ _ (by first | go_size | (simp; omega) | simp)).trans (by go_simp)
      have f4_1_1 : w4.frozen? ⟨w.heap.size + 1 + 1, 1, none⟩ = false := (hf4 _ _ (by first | go_size | (simp; omega) | simp)).trans (by go_simp)
      have B4 : Below w.heap.size w w4 := by (repeat' (first | (with_reducible exact Below.refl _ _) | (with_reducible assumption) | (with_reducible refine Below.alloc ?_ ?_ _) | (with_reducible refine Below.drew ?_) | (with_reducible refine below_drewN ?_ _) | (with_reducible refine Below.setCell ?_ ?_ _) | (with_reducible refine below_call ?_ ?_ (by assumption)) | go_size))
      clear hc4 hf4
      have u4_0 : w.heap.size + 1 + 1 < w4.heap.size := by omega
      go_wp2_with fail
      refine (limitedTurn_low N D _).mono ?_
      (rintro e5 w5 ⟨rfl, hb5⟩; obtain ⟨hc5, hf5⟩ := bcell hb5; have hz5 := hb5.size; (try simp only [World.size_alloc, World.size_setCell, World.size_drew] at hz5); have q5 : w.heap.size ≤ w5.heap.size := (by omega); (try have q5_0 : w.heap.size < w5.heap.size := (by omega)); (try have q5_1 : w.heap.size + 1 < w5.heap.size := (by omega)); (try have q5_2 : w.heap.size + 2 < w5.heap.size := (by omega)); (try have q5_3 : w.heap.size + 3 < w5.heap.size := (by omega)); (try have q5_1_0 : w1.heap.size < w5.heap.size := (by omega)); (try have q5_1_1 : w1.heap.size + 1 < w5.heap.size := (by omega)); (try have q5_2_0 : w2.heap.size < w5.heap.size := (by omega)); (try have q5_2_1 : w2.heap.size + 1 < w5.heap.size := (by omega)); (try have q5_3_0 : w3.heap.size < w5.heap.size := (by omega)); (try have q5_3_1 : w3.heap.size + 1 < w5.heap.size := (by omega)); (try have q5_4_0 : w4.heap.size < w5.heap.size := (by omega)); (try have q5_4_1 : w4.heap.size + 1 < w5.heap.size := (by omega)))
      have c5_0_0 : w5.cell? ⟨w.heap.size + 1 + 1, 0, none⟩ = some (.int .i64 0) := (hc5 _ _ (by first | go_size | (simp; omega) | simp)).trans (by go_simp)
      have f5_0_0 : w5.frozen? ⟨w.heap.size + 1 + 1, 0, none⟩ = false := (hf5 _ _ (by first | go_size | (simp; omega) | simp)).trans (by go_simp)
      have c5_0_1 : w5.cell? ⟨w.heap.size + 1 + 1, 1, none⟩ = some (.int .i64 0) := (hc5 _ _ (by first | go_size | (simp; omega) | simp)).trans (by go_simp)
      have f5_0_1 : w5.frozen? ⟨w.heap.size + 1 + 1, 1, none⟩ = false := (hf5 _ _ (by first | go_size | (simp; omega) | simp)).trans (by go_simp)
      go_wp2
      (refine bodyPost_ret (by simp [results, Try.results34, go_sem, *]; try rfl) rfl ?_)
      exact ⟨ret_rv HM.out, by (repeat' (first | (with_reducible exact Below.refl _ _) | (with_reducible assumption) | (with_reducible refine Below.alloc ?_ ?_ _) | (with_reducible refine Below.drew ?_) | (with_reducible refine below_drewN ?_ _) | (with_reducible refine Below.setCell ?_ ?_ _) | (with_reducible refine below_call ?_ ?_ (by assumption)) | go_size))⟩

set_option maxHeartbeats 3200000 in
theorem implAheadAfter_any (n d p q sn sd : Int) (w : World) :
    Calls Try.prog 37 #[cv n d p q, tv sn sd] w fun e w' => e = .returned (rv (shownT n d p q sn sd 1)) ∧ Below w.heap.size w w' := by
  cases ga : clockB n d p q
  · have HM := Lib.hid (show fail3 = shownT n d p q sn sd 1 from by simp [shownT, drTwoB, ga])
    (go_enter Try.func37, Try.ntmps37)
    go_wp2_with fail
    refine (isClock_is _ _ _ _ ga _).mono ?_
    (rintro e1 w1 ⟨rfl, hb1⟩; obtain ⟨hc1, hf1⟩ := bcell hb1; have hz1 := hb1.size; (try simp only [World.size_alloc, World.size_setCell, World.size_drew] at hz1); have q1 : w.heap.size ≤ w1.heap.size := (by omega); (try have q1_0 : w.heap.size < w1.heap.size := (by omega)); (try have q1_1 : w.heap.size + 1 < w1.heap.size := (by omega)); (try have q1_2 : w.heap.size + 2 < w1.heap.size := (by omega)); (try have q1_3 : w.heap.size + 3 < w1.heap.size := (by omega)))
    go_wp2
    (refine bodyPost_ret (by simp [results, Try.results37, go_sem, *]; try rfl) rfl ?_)
    exact ⟨ret_rv HM.out, by (repeat' (first | (with_reducible exact Below.refl _ _) | (with_reducible assumption) | (with_reducible refine Below.alloc ?_ ?_ _) | (with_reducible refine Below.drew ?_) | (with_reducible refine below_drewN ?_ _) | (with_reducible refine Below.setCell ?_ ?_ _) | (with_reducible refine below_call ?_ ?_ (by assumption)) | go_size))⟩
  · cases gb : spanB sn sd
    · have HM := Lib.hid (show fail3 = shownT n d p q sn sd 1 from by simp [shownT, drTwoB, ga, gb])
      (go_enter Try.func37, Try.ntmps37)
      go_wp2_with fail
      refine (isClock_is _ _ _ _ ga _).mono ?_
      (rintro e1 w1 ⟨rfl, hb1⟩; obtain ⟨hc1, hf1⟩ := bcell hb1; have hz1 := hb1.size; (try simp only [World.size_alloc, World.size_setCell, World.size_drew] at hz1); have q1 : w.heap.size ≤ w1.heap.size := (by omega); (try have q1_0 : w.heap.size < w1.heap.size := (by omega)); (try have q1_1 : w.heap.size + 1 < w1.heap.size := (by omega)); (try have q1_2 : w.heap.size + 2 < w1.heap.size := (by omega)); (try have q1_3 : w.heap.size + 3 < w1.heap.size := (by omega)))
      go_wp2_with fail
      refine (isSpan_is _ _ gb _).mono ?_
      (rintro e2 w2 ⟨rfl, hb2⟩; obtain ⟨hc2, hf2⟩ := bcell hb2; have hz2 := hb2.size; (try simp only [World.size_alloc, World.size_setCell, World.size_drew] at hz2); have q2 : w.heap.size ≤ w2.heap.size := (by omega); (try have q2_0 : w.heap.size < w2.heap.size := (by omega)); (try have q2_1 : w.heap.size + 1 < w2.heap.size := (by omega)); (try have q2_2 : w.heap.size + 2 < w2.heap.size := (by omega)); (try have q2_3 : w.heap.size + 3 < w2.heap.size := (by omega)); (try have q2_1_0 : w1.heap.size < w2.heap.size := (by omega)); (try have q2_1_1 : w1.heap.size + 1 < w2.heap.size := (by omega)))
      go_wp2
      (refine bodyPost_ret (by simp [results, Try.results37, go_sem, *]; try rfl) rfl ?_)
      exact ⟨ret_rv HM.out, by (repeat' (first | (with_reducible exact Below.refl _ _) | (with_reducible assumption) | (with_reducible refine Below.alloc ?_ ?_ _) | (with_reducible refine Below.drew ?_) | (with_reducible refine below_drewN ?_ _) | (with_reducible refine Below.setCell ?_ ?_ _) | (with_reducible refine below_call ?_ ?_ (by assumption)) | go_size))⟩
    · obtain ⟨⟨a1, a2, a3, a4⟩, ⟨a5, a6⟩, ⟨a7, a8⟩, a9, a10⟩ := clockB_bd ga
      obtain ⟨s1, s2, s3, s4, s5⟩ := spanB_bd gb
      obtain ⟨-, -, -, -, ⟨m9, m10⟩, ⟨m11, m12⟩, m13⟩ := go_bd ⟨a5, a6⟩ ⟨a7, a8⟩ ⟨s3, s4⟩ ⟨s1, s2⟩
      obtain ⟨⟨r1, r2⟩, r3, r4⟩ := back_bd (sn := sn) ⟨s1, s2⟩
      have HK : SumOk (allL n d p q sn sd) := sumOk_three (x := goN p q sn sd) (y := goD p q sn sd) (u := lowNum (-sn) sd) (v := lowDen (-sn) sd) a10 ⟨a3, by omega⟩ ⟨a1, by omega⟩ ⟨m9, by omega⟩ ⟨m11, by omega⟩ ⟨r1, by omega⟩ ⟨r3, by omega⟩
      have hden := sum_den3 (x := goN p q sn sd) (y := goD p q sn sd) (u := lowNum (-sn) sd) (v := lowDen (-sn) sd) a10 ⟨a3, by omega⟩ ⟨a1, by omega⟩ ⟨m9, by omega⟩ ⟨m11, by omega⟩ ⟨r1, by omega⟩ ⟨r3, by omega⟩
      have hcall := fun (W : World) (g : Nat) (hg : g < W.heap.size) (HP : PartsAt W g 0 (allL n d p q sn sd)) => turnOfParts_any (allL n d p q sn sd) g 0 3 (by simp [allL]) (by simp [allL]) HK hden.2.1 (Int.le_trans hden.2.2 (by decide)) W hg HP
      have HM : Hid (mk (sumK (allL n d p q sn sd) (allL n d p q sn sd).length).1 (sumK (allL n d p q sn sd) (allL n d p q sn sd).length).2 = shownT n d p q sn sd 1) := ahead_cong ga gb
      generalize sumK (allL n d p q sn sd) (allL n d p q sn sd).length = s at hcall HM
      obtain ⟨N, D⟩ := s
      have HC := Lib.hid hcall
      clear hcall HK hden
      (go_enter Try.func37, Try.ntmps37)
      go_wp2_with fail
      refine (isClock_is _ _ _ _ ga _).mono ?_
      (rintro e1 w1 ⟨rfl, hb1⟩; obtain ⟨hc1, hf1⟩ := bcell hb1; have hz1 := hb1.size; (try simp only [World.size_alloc, World.size_setCell, World.size_drew] at hz1); have q1 : w.heap.size ≤ w1.heap.size := (by omega); (try have q1_0 : w.heap.size < w1.heap.size := (by omega)); (try have q1_1 : w.heap.size + 1 < w1.heap.size := (by omega)); (try have q1_2 : w.heap.size + 2 < w1.heap.size := (by omega)); (try have q1_3 : w.heap.size + 3 < w1.heap.size := (by omega)))
      go_wp2_with fail
      refine (isSpan_is _ _ gb _).mono ?_
      (rintro e2 w2 ⟨rfl, hb2⟩; obtain ⟨hc2, hf2⟩ := bcell hb2; have hz2 := hb2.size; (try simp only [World.size_alloc, World.size_setCell, World.size_drew] at hz2); have q2 : w.heap.size ≤ w2.heap.size := (by omega); (try have q2_0 : w.heap.size < w2.heap.size := (by omega)); (try have q2_1 : w.heap.size + 1 < w2.heap.size := (by omega)); (try have q2_2 : w.heap.size + 2 < w2.heap.size := (by omega)); (try have q2_3 : w.heap.size + 3 < w2.heap.size := (by omega)); (try have q2_1_0 : w1.heap.size < w2.heap.size := (by omega)); (try have q2_1_1 : w1.heap.size + 1 < w2.heap.size := (by omega)))
      have c2_0_0 : w2.cell? ⟨w.heap.size, 0, none⟩ = some (.int .i64 n) := (hc2 _ _ (by first | go_size | (simp; omega) | simp)).trans (by go_simp)
      have f2_0_0 : w2.frozen? ⟨w.heap.size, 0, none⟩ = false := (hf2 _ _ (by first | go_size | (simp; omega) | simp)).trans (by go_simp)
      have c2_0_1 : w2.cell? ⟨w.heap.size, 1, none⟩ = some (.int .i64 d) := (hc2 _ _ (by first | go_size | (simp; omega) | simp)).trans (by go_simp)
      have f2_0_1 : w2.frozen? ⟨w.heap.size, 1, none⟩ = false := (hf2 _ _ (by first | go_size | (simp; omega) | simp)).trans (by go_simp)
      have c2_0_2 : w2.cell? ⟨w.heap.size, 2, none⟩ = some (.int .i64 p) := (hc2 _ _ (by first | go_size | (simp; omega) | simp)).trans (by go_simp)
      have f2_0_2 : w2.frozen? ⟨w.heap.size, 2, none⟩ = false := (hf2 _ _ (by first | go_size | (simp; omega) | simp)).trans (by go_simp)
      have c2_0_3 : w2.cell? ⟨w.heap.size, 3, none⟩ = some (.int .i64 q) := (hc2 _ _ (by first | go_size | (simp; omega) | simp)).trans (by go_simp)
      have f2_0_3 : w2.frozen? ⟨w.heap.size, 3, none⟩ = false := (hf2 _ _ (by first | go_size | (simp; omega) | simp)).trans (by go_simp)
      have c2_1_0 : w2.cell? ⟨w.heap.size + 1, 0, none⟩ = some (.int .i64 sn) := (hc2 _ _ (by first | go_size | (simp; omega) | simp)).trans (by go_simp)
      have f2_1_0 : w2.frozen? ⟨w.heap.size + 1, 0, none⟩ = false := (hf2 _ _ (by first | go_size | (simp; omega) | simp)).trans (by go_simp)
      have c2_1_1 : w2.cell? ⟨w.heap.size + 1, 1, none⟩ = some (.int .i64 sd) := (hc2 _ _ (by first | go_size | (simp; omega) | simp)).trans (by go_simp)
      have f2_1_1 : w2.frozen? ⟨w.heap.size + 1, 1, none⟩ = false := (hf2 _ _ (by first | go_size | (simp; omega) | simp)).trans (by go_simp)
      have c2_2_0 : w2.cell? ⟨w.heap.size + 1 + 1, 0, none⟩ = some (.int .i64 0) := (hc2 _ _ (by first | go_size | (simp; omega) | simp)).trans (by go_simp)
      have f2_2_0 : w2.frozen? ⟨w.heap.size + 1 + 1, 0, none⟩ = false := (hf2 _ _ (by first | go_size | (simp; omega) | simp)).trans (by go_simp)
      have c2_2_1 : w2.cell? ⟨w.heap.size + 1 + 1, 1, none⟩ = some (.int .i64 0) := (hc2 _ _ (by first | go_size | (simp; omega) | simp)).trans (by go_simp)
      have f2_2_1 : w2.frozen? ⟨w.heap.size + 1 + 1, 1, none⟩ = false := (hf2 _ _ (by first | go_size | (simp; omega) | simp)).trans (by go_simp)
      go_wp2_with fail
      refine (partsOfAhead_any n d p q sn sd ga gb _).mono ?_
      rintro e3 w3 ⟨g, rfl, hP, hg1, hg2, hb3⟩
      obtain ⟨hc3, hf3⟩ := bcell hb3
      have hz3 := hb3.size
      have c3_0_0 : w3.cell? ⟨w.heap.size, 0, none⟩ = some (.int .i64 n) := (hc3 _ _ (by first | go_size | (simp; omega) | simp)).trans (by go_simp)
      have f3_0_0 : w3.frozen? ⟨w.heap.size, 0, none⟩ = false := (hf3 _ _ (by first | go_size | (simp; omega) | simp)).trans (by go_simp)
      have c3_0_1 : w3.cell? ⟨w.heap.size, 1, none⟩ = some (.int .i64 d) := (hc3 _ _ (by first | go_size | (simp; omega) | simp)).trans (by go_simp)
      have f3_0_1 : w3.frozen? ⟨w.heap.size, 1, none⟩ = false := (hf3 _ _ (by first | go_size | (simp; omega) | simp)).trans (by go_simp)
      have c3_0_2 : w3.cell? ⟨w.heap.size, 2, none⟩ = some (.int .i64 p) := (hc3 _ _ (by first | go_size | (simp; omega) | simp)).trans (by go_simp)
      have f3_0_2 : w3.frozen? ⟨w.heap.size, 2, none⟩ = false := (hf3 _ _ (by first | go_size | (simp; omega) | simp)).trans (by go_simp)
      have c3_0_3 : w3.cell? ⟨w.heap.size, 3, none⟩ = some (.int .i64 q) := (hc3 _ _ (by first | go_size | (simp; omega) | simp)).trans (by go_simp)
      have f3_0_3 : w3.frozen? ⟨w.heap.size, 3, none⟩ = false := (hf3 _ _ (by first | go_size | (simp; omega) | simp)).trans (by go_simp)
      have c3_1_0 : w3.cell? ⟨w.heap.size + 1 + 1, 0, none⟩ = some (.int .i64 0) := (hc3 _ _ (by first | go_size | (simp; omega) | simp)).trans (by go_simp)
      have f3_1_0 : w3.frozen? ⟨w.heap.size + 1 + 1, 0, none⟩ = false := (hf3 _ _ (by first | go_size | (simp; omega) | simp)).trans (by go_simp)
      have c3_1_1 : w3.cell? ⟨w.heap.size + 1 + 1, 1, none⟩ = some (.int .i64 0) := (hc3 _ _ (by first | go_size | (simp; omega) | simp)).trans (by go_simp)
      have f3_1_1 : w3.frozen? ⟨w.heap.size + 1 + 1, 1, none⟩ = false := (hf3 _ _ (by first | go_size | (simp; omega) | simp)).trans (by go_simp)
      have HPP : Hid (PartsAt w3 g 0 (allL n d p q sn sd)) := fun k hk => by
        exact hP k hk
      have B3 : Below w.heap.size w w3 := by (repeat' (first | (with_reducible exact Below.refl _ _) | (with_reducible assumption) | (with_reducible refine Below.alloc ?_ ?_ _) | (with_reducible refine Below.drew ?_) | (with_reducible refine below_drewN ?_ _) | (with_reducible refine Below.setCell ?_ ?_ _) | (with_reducible refine below_call ?_ ?_ (by assumption)) | go_size))
      clear hc3 hf3 hc2 hf2 hc1 hf1 hP
      have u3_0 : w.heap.size + 1 + 1 < w3.heap.size := by omega
      have u3_1 : w.heap.size < w3.heap.size := by omega
      go_wp2_with fail
      refine (HC.out _ g hg2 HPP.out).mono ?_
      (rintro e4 w4 ⟨rfl, hb4⟩; obtain ⟨hc4, hf4⟩ := bcell hb4; have hz4 := hb4.size; (try simp only [World.size_alloc, World.size_setCell, World.size_drew] at hz4); have q4 : w.heap.size ≤ w4.heap.size := (by omega); (try have q4_0 : w.heap.size < w4.heap.size := (by omega)); (try have q4_1 : w.heap.size + 1 < w4.heap.size := (by omega)); (try have q4_2 : w.heap.size + 2 < w4.heap.size := (by omega)); (try have q4_3 : w.heap.size + 3 < w4.heap.size := (by omega)); (try have q4_1_0 : w1.heap.size < w4.heap.size := (by omega)); (try have q4_1_1 : w1.heap.size + 1 < w4.heap.size := (by omega)); (try have q4_2_0 : w2.heap.size < w4.heap.size := (by omega)); (try have q4_2_1 : w2.heap.size + 1 < w4.heap.size := (by omega)); (try have q4_3_0 : w3.heap.size < w4.heap.size := (by omega)); (try have q4_3_1 : w3.heap.size + 1 < w4.heap.size := (by omega)))
      have c4_0_0 : w4.cell? ⟨w.heap.size, 0, none⟩ = some (.int .i64 n) := (hc4 _ _ (by first | go_size | (simp; omega) | simp)).trans (by go_simp)
      have f4_0_0 : w4.frozen? ⟨w.heap.size, 0, none⟩ = false := (hf4 _ _ (by first | go_size | (simp; omega) | simp)).trans (by go_simp)
      have c4_0_1 : w4.cell? ⟨w.heap.size, 1, none⟩ = some (.int .i64 d) := (hc4 _ _ (by first | go_size | (simp; omega) | simp)).trans (by go_simp)
      have f4_0_1 : w4.frozen? ⟨w.heap.size, 1, none⟩ = false := (hf4 _ _ (by first | go_size | (simp; omega) | simp)).trans (by go_simp)
      have c4_0_2 : w4.cell? ⟨w.heap.size, 2, none⟩ = some (.int .i64 p) := (hc4 _ _ (by first | go_size | (simp; omega) | simp)).trans (by go_simp)
      have f4_0_2 : w4.frozen? ⟨w.heap.size, 2, none⟩ = false := (hf4 _ _ (by first | go_size | (simp; omega) | simp)).trans (by go_simp)
      have c4_0_3 : w4.cell? ⟨w.heap.size, 3, none⟩ = some (.int .i64 q) := (hc4 _ _ (by first | go_size | (simp; omega) | simp)).trans (by go_simp)
      have f4_0_3 : w4.frozen? ⟨w.heap.size, 3, none⟩ = false := (hf4 _ _ (by first | go_size | (simp; omega) | simp)).trans (by go_simp)
      have c4_1_0 : w4.cell? ⟨w.heap.size + 1 + 1, 0, none⟩ = some (.int .i64 0) := (hc4 _ _ (by first | go_size | (simp; omega) | simp)).trans (by go_simp)
      have f4_1_0 : w4.frozen? ⟨w.heap.size + 1 + 1, 0, none⟩ = false := (hf4 _ _ (by first | go_size | (simp; omega) | simp)).trans (by go_simp)
      have c4_1_1 : w4.cell? ⟨w.heap.size + 1 + 1, 1, none⟩ = some (.int .i64 0) := (hc4 _ _ (by first | go_size | (simp; omega) | simp)).trans (by go_simp)
      have f4_1_1 : w4.frozen? ⟨w.heap.size + 1 + 1, 1, none⟩ = false := (hf4 _ _ (by first | go_size | (simp; omega) | simp)).trans (by go_simp)
      have B4 : Below w.heap.size w w4 := by (repeat' (first | (with_reducible exact Below.refl _ _) | (with_reducible assumption) | (with_reducible refine Below.alloc ?_ ?_ _) | (with_reducible refine Below.drew ?_) | (with_reducible refine below_drewN ?_ _) | (with_reducible refine Below.setCell ?_ ?_ _) | (with_reducible refine below_call ?_ ?_ (by assumption)) | go_size))
      clear hc4 hf4
      have u4_0 : w.heap.size + 1 + 1 < w4.heap.size := by omega
      go_wp2_with fail
      refine (limitedTurn_low N D _).mono ?_
      (rintro e5 w5 ⟨rfl, hb5⟩; obtain ⟨hc5, hf5⟩ := bcell hb5; have hz5 := hb5.size; (try simp only [World.size_alloc, World.size_setCell, World.size_drew] at hz5); have q5 : w.heap.size ≤ w5.heap.size := (by omega); (try have q5_0 : w.heap.size < w5.heap.size := (by omega)); (try have q5_1 : w.heap.size + 1 < w5.heap.size := (by omega)); (try have q5_2 : w.heap.size + 2 < w5.heap.size := (by omega)); (try have q5_3 : w.heap.size + 3 < w5.heap.size := (by omega)); (try have q5_1_0 : w1.heap.size < w5.heap.size := (by omega)); (try have q5_1_1 : w1.heap.size + 1 < w5.heap.size := (by omega)); (try have q5_2_0 : w2.heap.size < w5.heap.size := (by omega)); (try have q5_2_1 : w2.heap.size + 1 < w5.heap.size := (by omega)); (try have q5_3_0 : w3.heap.size < w5.heap.size := (by omega)); (try have q5_3_1 : w3.heap.size + 1 < w5.heap.size := (by omega)); (try have q5_4_0 : w4.heap.size < w5.heap.size := (by omega)); (try have q5_4_1 : w4.heap.size + 1 < w5.heap.size := (by omega)))
      have c5_0_0 : w5.cell? ⟨w.heap.size + 1 + 1, 0, none⟩ = some (.int .i64 0) := (hc5 _ _ (by first | go_size | (simp; omega) | simp)).trans (by go_simp)
      have f5_0_0 : w5.frozen? ⟨w.heap.size + 1 + 1, 0, none⟩ = false := (hf5 _ _ (by first | go_size | (simp; omega) | simp)).trans (by go_simp)
      have c5_0_1 : w5.cell? ⟨w.heap.size + 1 + 1, 1, none⟩ = some (.int .i64 0) := (hc5 _ _ (by first | go_size | (simp; omega) | simp)).trans (by go_simp)
      have f5_0_1 : w5.frozen? ⟨w.heap.size + 1 + 1, 1, none⟩ = false := (hf5 _ _ (by first | go_size | (simp; omega) | simp)).trans (by go_simp)
      go_wp2
      (refine bodyPost_ret (by simp [results, Try.results37, go_sem, *]; try rfl) rfl ?_)
      exact ⟨ret_rv HM.out, by (repeat' (first | (with_reducible exact Below.refl _ _) | (with_reducible assumption) | (with_reducible refine Below.alloc ?_ ?_ _) | (with_reducible refine Below.drew ?_) | (with_reducible refine below_drewN ?_ _) | (with_reducible refine Below.setCell ?_ ?_ _) | (with_reducible refine below_call ?_ ?_ (by assumption)) | go_size))⟩

end Go.Proofs.Ytnokjdcgokfdhaa
