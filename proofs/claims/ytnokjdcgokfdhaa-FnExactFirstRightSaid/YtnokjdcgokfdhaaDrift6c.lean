/- When clocks agree first, by the program. -/
import Derived.Test.YtnokjdcgokfdhaaDrift6
set_option linter.unusedSimpArgs false
set_option linter.unusedVariables false
set_option maxRecDepth 100000
namespace Go.Proofs.Ytnokjdcgokfdhaa
open Go.RowKit

set_option maxHeartbeats 3200000 in
theorem firstAgree_down_zero (an ad ap aq bn bd bp bq : Int) (ga : clockB an ad ap aq = true) (gb : clockB bn bd bp bq = true) (hg : askC an ad ap aq bn bd bp bq = true) (hp : gainI ap aq bp bq < 0) (hz : (lowNum (an * bd - bn * ad) (ad * bd)) = 0) (w : World) :
    Calls Try.prog 48 #[cv an ad ap aq, cv bn bd bp bq] w fun e w' => e = .returned (rv (firstAgreeS an ad ap aq bn bd bp bq)) ∧ Below w.heap.size w w' := by
  have hr : gainR an ad ap aq bn bd bp bq = ((spN (aq * bq) (absC (gainI ap aq bp bq))), (spD (aq * bq) (absC (gainI ap aq bp bq))), true) := by simp [gainR, hg]
  obtain ⟨⟨a1, a2, a3, a4⟩, ⟨a5, a6⟩, ⟨a7, a8⟩, a9, a10⟩ := clockB_bd ga
  obtain ⟨⟨b1, b2, b3, b4⟩, ⟨b5, b6⟩, ⟨b7, b8⟩, b9, b10⟩ := clockB_bd gb
  obtain ⟨⟨g1, g2⟩, ⟨g3, g4⟩, ⟨g5, g6⟩, g7, g8⟩ := gain_bd ⟨a5, a6⟩ ⟨a7, a8⟩ ⟨b5, b6⟩ ⟨b7, b8⟩
  have HF := Lib.hid (first_down ga gb hp)
  have hs : sg (ap * bq - bp * aq) = -1 := sg_neg hp
  obtain ⟨m1, m2⟩ := mulb (show 0 ≤ ad by omega) (show ad ≤ 1000 by omega) (show 0 ≤ bd by omega) (show bd ≤ 1000 by omega)
  have m3 : 1 ≤ ad * bd := Int.mul_pos (by omega) (by omega)
  have l1 := low_bd (an * bd - bn * ad) (ad * bd) m3
  have l2 := low_lt (an * bd - bn * ad) (ad * bd) m3
  have x1 : 1 ≤ absC (gainI ap aq bp bq) ∧ absC (gainI ap aq bp bq) ≤ 1000000 := by unfold absC; split <;> omega
  have e1 := sp_bd (aq * bq) (absC (gainI ap aq bp bq)) (by omega) x1.1
  clear hp
  obtain ⟨v1, v2⟩ := mulb (show 0 ≤ (lowNum (an * bd - bn * ad) (ad * bd)) by omega) (show (lowNum (an * bd - bn * ad) (ad * bd)) ≤ 1000000 by omega) (show 0 ≤ (spN (aq * bq) (absC (gainI ap aq bp bq))) by omega) (show (spN (aq * bq) (absC (gainI ap aq bp bq))) ≤ 1000000 by omega)
  obtain ⟨v3, v4⟩ := mulb (show 0 ≤ (lowDen (an * bd - bn * ad) (ad * bd)) by omega) (show (lowDen (an * bd - bn * ad) (ad * bd)) ≤ 1000000 by omega) (show 0 ≤ (spD (aq * bq) (absC (gainI ap aq bp bq))) by omega) (show (spD (aq * bq) (absC (gainI ap aq bp bq))) ≤ 1000000 by omega)
  have v5 : 1 ≤ (lowDen (an * bd - bn * ad) (ad * bd)) * (spD (aq * bq) (absC (gainI ap aq bp bq))) := Int.mul_pos (by omega) (by omega)
  clear x1
  have hz' : ((lowNum (an * bd - bn * ad) (ad * bd)) == 0) = true := by simpa using hz
  have HM := Lib.hid (show limS (spN (aq * bq) (absC (gainI ap aq bp bq))) (spD (aq * bq) (absC (gainI ap aq bp bq))) = firstAgreeS an ad ap aq bn bd bp bq from by rw [HF.out, if_pos hz]; rfl)
  clear hz
  (go_enter Try.func48, Try.ntmps48)
  go_wp2_with fail
  refine (timeToGain_val an ad ap aq bn bd bp bq hr _).mono ?_
  (rintro e1 w1 ⟨rfl, hb1⟩; obtain ⟨hc1, hf1⟩ := bcell hb1; have hz1 := hb1.size; (try simp only [World.size_alloc, World.size_setCell, World.size_drew] at hz1); have q1 : w.heap.size ≤ w1.heap.size := (by omega); (try have q1_0 : w.heap.size < w1.heap.size := (by omega)); (try have q1_1 : w.heap.size + 1 < w1.heap.size := (by omega)); (try have q1_2 : w.heap.size + 2 < w1.heap.size := (by omega)); (try have q1_3 : w.heap.size + 3 < w1.heap.size := (by omega)))
  have c1_0_0 : w1.cell? ⟨w.heap.size, 0, none⟩ = some (.int .i64 an) := (hc1 _ _ (by first | go_size | (simp; omega) | simp)).trans (by go_simp)
  have f1_0_0 : w1.frozen? ⟨w.heap.size, 0, none⟩ = false := (hf1 _ _ (by first | go_size | (simp; omega) | simp)).trans (by go_simp)
  have c1_0_1 : w1.cell? ⟨w.heap.size, 1, none⟩ = some (.int .i64 ad) := (hc1 _ _ (by first | go_size | (simp; omega) | simp)).trans (by go_simp)
  have f1_0_1 : w1.frozen? ⟨w.heap.size, 1, none⟩ = false := (hf1 _ _ (by first | go_size | (simp; omega) | simp)).trans (by go_simp)
  have c1_0_2 : w1.cell? ⟨w.heap.size, 2, none⟩ = some (.int .i64 ap) := (hc1 _ _ (by first | go_size | (simp; omega) | simp)).trans (by go_simp)
  have f1_0_2 : w1.frozen? ⟨w.heap.size, 2, none⟩ = false := (hf1 _ _ (by first | go_size | (simp; omega) | simp)).trans (by go_simp)
  have c1_0_3 : w1.cell? ⟨w.heap.size, 3, none⟩ = some (.int .i64 aq) := (hc1 _ _ (by first | go_size | (simp; omega) | simp)).trans (by go_simp)
  have f1_0_3 : w1.frozen? ⟨w.heap.size, 3, none⟩ = false := (hf1 _ _ (by first | go_size | (simp; omega) | simp)).trans (by go_simp)
  have c1_1_0 : w1.cell? ⟨w.heap.size + 1, 0, none⟩ = some (.int .i64 bn) := (hc1 _ _ (by first | go_size | (simp; omega) | simp)).trans (by go_simp)
  have f1_1_0 : w1.frozen? ⟨w.heap.size + 1, 0, none⟩ = false := (hf1 _ _ (by first | go_size | (simp; omega) | simp)).trans (by go_simp)
  have c1_1_1 : w1.cell? ⟨w.heap.size + 1, 1, none⟩ = some (.int .i64 bd) := (hc1 _ _ (by first | go_size | (simp; omega) | simp)).trans (by go_simp)
  have f1_1_1 : w1.frozen? ⟨w.heap.size + 1, 1, none⟩ = false := (hf1 _ _ (by first | go_size | (simp; omega) | simp)).trans (by go_simp)
  have c1_1_2 : w1.cell? ⟨w.heap.size + 1, 2, none⟩ = some (.int .i64 bp) := (hc1 _ _ (by first | go_size | (simp; omega) | simp)).trans (by go_simp)
  have f1_1_2 : w1.frozen? ⟨w.heap.size + 1, 2, none⟩ = false := (hf1 _ _ (by first | go_size | (simp; omega) | simp)).trans (by go_simp)
  have c1_1_3 : w1.cell? ⟨w.heap.size + 1, 3, none⟩ = some (.int .i64 bq) := (hc1 _ _ (by first | go_size | (simp; omega) | simp)).trans (by go_simp)
  have f1_1_3 : w1.frozen? ⟨w.heap.size + 1, 3, none⟩ = false := (hf1 _ _ (by first | go_size | (simp; omega) | simp)).trans (by go_simp)
  have c1_2_0 : w1.cell? ⟨w.heap.size + 1 + 1, 0, none⟩ = some (.int .i64 0) := (hc1 _ _ (by first | go_size | (simp; omega) | simp)).trans (by go_simp)
  have f1_2_0 : w1.frozen? ⟨w.heap.size + 1 + 1, 0, none⟩ = false := (hf1 _ _ (by first | go_size | (simp; omega) | simp)).trans (by go_simp)
  have c1_2_1 : w1.cell? ⟨w.heap.size + 1 + 1, 1, none⟩ = some (.int .i64 0) := (hc1 _ _ (by first | go_size | (simp; omega) | simp)).trans (by go_simp)
  have f1_2_1 : w1.frozen? ⟨w.heap.size + 1 + 1, 1, none⟩ = false := (hf1 _ _ (by first | go_size | (simp; omega) | simp)).trans (by go_simp)
  have z0_0 : w.heap.size < w1.heap.size := by omega
  have y0_0 : w.heap.size ≤ w1.heap.size := by omega
  have z0_1 : w.heap.size < w1.heap.size + 1 := by omega
  have y0_1 : w.heap.size ≤ w1.heap.size + 1 := by omega
  have z0_2 : w.heap.size < w1.heap.size + 1 + 1 := by omega
  have y0_2 : w.heap.size ≤ w1.heap.size + 1 + 1 := by omega
  have z0_3 : w.heap.size < w1.heap.size + 1 + 1 + 1 := by omega
  have y0_3 : w.heap.size ≤ w1.heap.size + 1 + 1 + 1 := by omega
  have z1_0 : w.heap.size + 1 < w1.heap.size := by omega
  have y1_0 : w.heap.size + 1 ≤ w1.heap.size := by omega
  have z1_1 : w.heap.size + 1 < w1.heap.size + 1 := by omega
  have y1_1 : w.heap.size + 1 ≤ w1.heap.size + 1 := by omega
  have z1_2 : w.heap.size + 1 < w1.heap.size + 1 + 1 := by omega
  have y1_2 : w.heap.size + 1 ≤ w1.heap.size + 1 + 1 := by omega
  have z1_3 : w.heap.size + 1 < w1.heap.size + 1 + 1 + 1 := by omega
  have y1_3 : w.heap.size + 1 ≤ w1.heap.size + 1 + 1 + 1 := by omega
  have z2_0 : w.heap.size + 1 + 1 < w1.heap.size := by omega
  have y2_0 : w.heap.size + 1 + 1 ≤ w1.heap.size := by omega
  have z2_1 : w.heap.size + 1 + 1 < w1.heap.size + 1 := by omega
  have y2_1 : w.heap.size + 1 + 1 ≤ w1.heap.size + 1 := by omega
  have z2_2 : w.heap.size + 1 + 1 < w1.heap.size + 1 + 1 := by omega
  have y2_2 : w.heap.size + 1 + 1 ≤ w1.heap.size + 1 + 1 := by omega
  have z2_3 : w.heap.size + 1 + 1 < w1.heap.size + 1 + 1 + 1 := by omega
  have y2_3 : w.heap.size + 1 + 1 ≤ w1.heap.size + 1 + 1 + 1 := by omega
  have u0_0 : (((w1.alloc (Obj.cells #[.int .i64 (spN (aq * bq) (absC (gainI ap aq bp bq))), .int .i64 (spD (aq * bq) (absC (gainI ap aq bp bq)))] 25)).alloc (Obj.cells #[.int .i64 0, .int .i64 0, .int .i64 0, .int .i64 0] 42)).alloc (Obj.cells #[.int .i64 0, .int .i64 0, .int .i64 0, .int .i64 0] 42)).cell? ⟨w.heap.size, 0, none⟩ = some (.int .i64 an) := by go_simp
  have u0_1 : (((w1.alloc (Obj.cells #[.int .i64 (spN (aq * bq) (absC (gainI ap aq bp bq))), .int .i64 (spD (aq * bq) (absC (gainI ap aq bp bq)))] 25)).alloc (Obj.cells #[.int .i64 0, .int .i64 0, .int .i64 0, .int .i64 0] 42)).alloc (Obj.cells #[.int .i64 0, .int .i64 0, .int .i64 0, .int .i64 0] 42)).cell? ⟨w.heap.size, 1, none⟩ = some (.int .i64 ad) := by go_simp
  have u0_2 : (((w1.alloc (Obj.cells #[.int .i64 (spN (aq * bq) (absC (gainI ap aq bp bq))), .int .i64 (spD (aq * bq) (absC (gainI ap aq bp bq)))] 25)).alloc (Obj.cells #[.int .i64 0, .int .i64 0, .int .i64 0, .int .i64 0] 42)).alloc (Obj.cells #[.int .i64 0, .int .i64 0, .int .i64 0, .int .i64 0] 42)).cell? ⟨w.heap.size, 2, none⟩ = some (.int .i64 ap) := by go_simp
  have u0_3 : (((w1.alloc (Obj.cells #[.int .i64 (spN (aq * bq) (absC (gainI ap aq bp bq))), .int .i64 (spD (aq * bq) (absC (gainI ap aq bp bq)))] 25)).alloc (Obj.cells #[.int .i64 0, .int .i64 0, .int .i64 0, .int .i64 0] 42)).alloc (Obj.cells #[.int .i64 0, .int .i64 0, .int .i64 0, .int .i64 0] 42)).cell? ⟨w.heap.size, 3, none⟩ = some (.int .i64 aq) := by go_simp
  have u1_0 : (((w1.alloc (Obj.cells #[.int .i64 (spN (aq * bq) (absC (gainI ap aq bp bq))), .int .i64 (spD (aq * bq) (absC (gainI ap aq bp bq)))] 25)).alloc (Obj.cells #[.int .i64 0, .int .i64 0, .int .i64 0, .int .i64 0] 42)).alloc (Obj.cells #[.int .i64 0, .int .i64 0, .int .i64 0, .int .i64 0] 42)).cell? ⟨w.heap.size + 1, 0, none⟩ = some (.int .i64 bn) := by go_simp
  have u1_1 : (((w1.alloc (Obj.cells #[.int .i64 (spN (aq * bq) (absC (gainI ap aq bp bq))), .int .i64 (spD (aq * bq) (absC (gainI ap aq bp bq)))] 25)).alloc (Obj.cells #[.int .i64 0, .int .i64 0, .int .i64 0, .int .i64 0] 42)).alloc (Obj.cells #[.int .i64 0, .int .i64 0, .int .i64 0, .int .i64 0] 42)).cell? ⟨w.heap.size + 1, 1, none⟩ = some (.int .i64 bd) := by go_simp
  have u1_2 : (((w1.alloc (Obj.cells #[.int .i64 (spN (aq * bq) (absC (gainI ap aq bp bq))), .int .i64 (spD (aq * bq) (absC (gainI ap aq bp bq)))] 25)).alloc (Obj.cells #[.int .i64 0, .int .i64 0, .int .i64 0, .int .i64 0] 42)).alloc (Obj.cells #[.int .i64 0, .int .i64 0, .int .i64 0, .int .i64 0] 42)).cell? ⟨w.heap.size + 1, 2, none⟩ = some (.int .i64 bp) := by go_simp
  have u1_3 : (((w1.alloc (Obj.cells #[.int .i64 (spN (aq * bq) (absC (gainI ap aq bp bq))), .int .i64 (spD (aq * bq) (absC (gainI ap aq bp bq)))] 25)).alloc (Obj.cells #[.int .i64 0, .int .i64 0, .int .i64 0, .int .i64 0] 42)).alloc (Obj.cells #[.int .i64 0, .int .i64 0, .int .i64 0, .int .i64 0] 42)).cell? ⟨w.heap.size + 1, 3, none⟩ = some (.int .i64 bq) := by go_simp
  go_wp2
  go_region
  all_goals (go_wp2_with fail)
  all_goals (refine wp_region_below (by kernel_rfl) (by kernel_rfl) ?_)
  all_goals ((apply wpB_take (hw := rfl); (intro wq hq; obtain ⟨hcq, hfq⟩ := bcell hq; unfold atB; go_simp; exact ⟨rfl, rfl⟩); simp only [Act.put, List.setIfInBounds_toArray, List.set_cons_zero, List.set_cons_succ]))
  all_goals ((apply wpB_take (hw := rfl); (intro wq hq; unfold atB; go_simp; exact ⟨rfl, rateOf_any _ _ _ _ _⟩); simp only [Act.put, List.setIfInBounds_toArray, List.set_cons_zero, List.set_cons_succ]))
  all_goals ((apply wpB_take (hw := rfl); (intro wq hq; obtain ⟨hcq, hfq⟩ := bcell hq; unfold atB; go_simp; exact ⟨rfl, rfl⟩); simp only [Act.put, List.setIfInBounds_toArray, List.set_cons_zero, List.set_cons_succ]))
  all_goals ((apply wpB_take (hw := rfl); (intro wq hq; unfold atB; go_simp; exact ⟨rfl, rateOf_any _ _ _ _ _⟩); simp only [Act.put, List.setIfInBounds_toArray, List.set_cons_zero, List.set_cons_succ]))
  all_goals ((apply wpB_take (hw := rfl); (intro wq hq; unfold atB; go_simp; exact ⟨rfl, spanOrder_val ap aq bp bq hs ⟨by omega, by omega, by omega, by omega⟩ ⟨by omega, by omega, by omega, by omega⟩ _⟩); simp only [Act.put, List.setIfInBounds_toArray, List.set_cons_zero, List.set_cons_succ]))
  all_goals ((apply wpB_take (hw := rfl); (intro wq hq; obtain ⟨hcq, hfq⟩ := bcell hq; unfold atB; go_simp; exact ⟨rfl, rfl⟩); simp only [Act.put, List.setIfInBounds_toArray, List.set_cons_zero, List.set_cons_succ]))
  all_goals (refine fun w2 hb2 => ?_)
  all_goals ((obtain ⟨hc2, hf2⟩ := bcell hb2; have hz2 := hb2.size; (try simp only [World.size_alloc, World.size_setCell, World.size_drew] at hz2); have q2 : w.heap.size ≤ w2.heap.size := (by omega); (try have q2_0 : w.heap.size < w2.heap.size := (by omega)); (try have q2_1 : w.heap.size + 1 < w2.heap.size := (by omega)); (try have q2_2 : w.heap.size + 2 < w2.heap.size := (by omega)); (try have q2_3 : w.heap.size + 3 < w2.heap.size := (by omega)); (try have p2_1 : b1 < w2.heap.size := (by omega)); try simp only [Act.put, List.setIfInBounds_toArray, List.set_cons_zero, List.set_cons_succ]))
  all_goals (try (replace hc2 := undrewC hc2; replace hf2 := undrewF hf2))
  have c2_0_0 : w2.cell? ⟨w.heap.size, 0, none⟩ = some (.int .i64 an) := (hc2 _ _ (by first | go_size | (simp; omega) | simp)).trans (by go_simp)
  have f2_0_0 : w2.frozen? ⟨w.heap.size, 0, none⟩ = false := (hf2 _ _ (by first | go_size | (simp; omega) | simp)).trans (by go_simp)
  have c2_0_1 : w2.cell? ⟨w.heap.size, 1, none⟩ = some (.int .i64 ad) := (hc2 _ _ (by first | go_size | (simp; omega) | simp)).trans (by go_simp)
  have f2_0_1 : w2.frozen? ⟨w.heap.size, 1, none⟩ = false := (hf2 _ _ (by first | go_size | (simp; omega) | simp)).trans (by go_simp)
  have c2_0_2 : w2.cell? ⟨w.heap.size, 2, none⟩ = some (.int .i64 ap) := (hc2 _ _ (by first | go_size | (simp; omega) | simp)).trans (by go_simp)
  have f2_0_2 : w2.frozen? ⟨w.heap.size, 2, none⟩ = false := (hf2 _ _ (by first | go_size | (simp; omega) | simp)).trans (by go_simp)
  have c2_0_3 : w2.cell? ⟨w.heap.size, 3, none⟩ = some (.int .i64 aq) := (hc2 _ _ (by first | go_size | (simp; omega) | simp)).trans (by go_simp)
  have f2_0_3 : w2.frozen? ⟨w.heap.size, 3, none⟩ = false := (hf2 _ _ (by first | go_size | (simp; omega) | simp)).trans (by go_simp)
  have c2_1_0 : w2.cell? ⟨w.heap.size + 1, 0, none⟩ = some (.int .i64 bn) := (hc2 _ _ (by first | go_size | (simp; omega) | simp)).trans (by go_simp)
  have f2_1_0 : w2.frozen? ⟨w.heap.size + 1, 0, none⟩ = false := (hf2 _ _ (by first | go_size | (simp; omega) | simp)).trans (by go_simp)
  have c2_1_1 : w2.cell? ⟨w.heap.size + 1, 1, none⟩ = some (.int .i64 bd) := (hc2 _ _ (by first | go_size | (simp; omega) | simp)).trans (by go_simp)
  have f2_1_1 : w2.frozen? ⟨w.heap.size + 1, 1, none⟩ = false := (hf2 _ _ (by first | go_size | (simp; omega) | simp)).trans (by go_simp)
  have c2_1_2 : w2.cell? ⟨w.heap.size + 1, 2, none⟩ = some (.int .i64 bp) := (hc2 _ _ (by first | go_size | (simp; omega) | simp)).trans (by go_simp)
  have f2_1_2 : w2.frozen? ⟨w.heap.size + 1, 2, none⟩ = false := (hf2 _ _ (by first | go_size | (simp; omega) | simp)).trans (by go_simp)
  have c2_1_3 : w2.cell? ⟨w.heap.size + 1, 3, none⟩ = some (.int .i64 bq) := (hc2 _ _ (by first | go_size | (simp; omega) | simp)).trans (by go_simp)
  have f2_1_3 : w2.frozen? ⟨w.heap.size + 1, 3, none⟩ = false := (hf2 _ _ (by first | go_size | (simp; omega) | simp)).trans (by go_simp)
  have c2_2_0 : w2.cell? ⟨w.heap.size + 1 + 1, 0, none⟩ = some (.int .i64 0) := (hc2 _ _ (by first | go_size | (simp; omega) | simp)).trans (by go_simp)
  have f2_2_0 : w2.frozen? ⟨w.heap.size + 1 + 1, 0, none⟩ = false := (hf2 _ _ (by first | go_size | (simp; omega) | simp)).trans (by go_simp)
  have c2_2_1 : w2.cell? ⟨w.heap.size + 1 + 1, 1, none⟩ = some (.int .i64 0) := (hc2 _ _ (by first | go_size | (simp; omega) | simp)).trans (by go_simp)
  have f2_2_1 : w2.frozen? ⟨w.heap.size + 1 + 1, 1, none⟩ = false := (hf2 _ _ (by first | go_size | (simp; omega) | simp)).trans (by go_simp)
  have c2_3_0 : w2.cell? ⟨w1.heap.size, 0, none⟩ = some (.int .i64 (spN (aq * bq) (absC (gainI ap aq bp bq)))) := (hc2 _ _ (by first | go_size | (simp; omega) | simp)).trans (by go_simp)
  have f2_3_0 : w2.frozen? ⟨w1.heap.size, 0, none⟩ = false := (hf2 _ _ (by first | go_size | (simp; omega) | simp)).trans (by go_simp)
  have c2_3_1 : w2.cell? ⟨w1.heap.size, 1, none⟩ = some (.int .i64 (spD (aq * bq) (absC (gainI ap aq bp bq)))) := (hc2 _ _ (by first | go_size | (simp; omega) | simp)).trans (by go_simp)
  have f2_3_1 : w2.frozen? ⟨w1.heap.size, 1, none⟩ = false := (hf2 _ _ (by first | go_size | (simp; omega) | simp)).trans (by go_simp)
  have c2_4_0 : w2.cell? ⟨w1.heap.size + 1, 0, none⟩ = some (.int .i64 an) := (hc2 _ _ (by first | go_size | (simp; omega) | simp)).trans (by go_simp)
  have f2_4_0 : w2.frozen? ⟨w1.heap.size + 1, 0, none⟩ = false := (hf2 _ _ (by first | go_size | (simp; omega) | simp)).trans (by go_simp)
  have c2_4_1 : w2.cell? ⟨w1.heap.size + 1, 1, none⟩ = some (.int .i64 ad) := (hc2 _ _ (by first | go_size | (simp; omega) | simp)).trans (by go_simp)
  have f2_4_1 : w2.frozen? ⟨w1.heap.size + 1, 1, none⟩ = false := (hf2 _ _ (by first | go_size | (simp; omega) | simp)).trans (by go_simp)
  have c2_4_2 : w2.cell? ⟨w1.heap.size + 1, 2, none⟩ = some (.int .i64 ap) := (hc2 _ _ (by first | go_size | (simp; omega) | simp)).trans (by go_simp)
  have f2_4_2 : w2.frozen? ⟨w1.heap.size + 1, 2, none⟩ = false := (hf2 _ _ (by first | go_size | (simp; omega) | simp)).trans (by go_simp)
  have c2_4_3 : w2.cell? ⟨w1.heap.size + 1, 3, none⟩ = some (.int .i64 aq) := (hc2 _ _ (by first | go_size | (simp; omega) | simp)).trans (by go_simp)
  have f2_4_3 : w2.frozen? ⟨w1.heap.size + 1, 3, none⟩ = false := (hf2 _ _ (by first | go_size | (simp; omega) | simp)).trans (by go_simp)
  have c2_5_0 : w2.cell? ⟨w1.heap.size + 1 + 1, 0, none⟩ = some (.int .i64 bn) := (hc2 _ _ (by first | go_size | (simp; omega) | simp)).trans (by go_simp)
  have f2_5_0 : w2.frozen? ⟨w1.heap.size + 1 + 1, 0, none⟩ = false := (hf2 _ _ (by first | go_size | (simp; omega) | simp)).trans (by go_simp)
  have c2_5_1 : w2.cell? ⟨w1.heap.size + 1 + 1, 1, none⟩ = some (.int .i64 bd) := (hc2 _ _ (by first | go_size | (simp; omega) | simp)).trans (by go_simp)
  have f2_5_1 : w2.frozen? ⟨w1.heap.size + 1 + 1, 1, none⟩ = false := (hf2 _ _ (by first | go_size | (simp; omega) | simp)).trans (by go_simp)
  have c2_5_2 : w2.cell? ⟨w1.heap.size + 1 + 1, 2, none⟩ = some (.int .i64 bp) := (hc2 _ _ (by first | go_size | (simp; omega) | simp)).trans (by go_simp)
  have f2_5_2 : w2.frozen? ⟨w1.heap.size + 1 + 1, 2, none⟩ = false := (hf2 _ _ (by first | go_size | (simp; omega) | simp)).trans (by go_simp)
  have c2_5_3 : w2.cell? ⟨w1.heap.size + 1 + 1, 3, none⟩ = some (.int .i64 bq) := (hc2 _ _ (by first | go_size | (simp; omega) | simp)).trans (by go_simp)
  have f2_5_3 : w2.frozen? ⟨w1.heap.size + 1 + 1, 3, none⟩ = false := (hf2 _ _ (by first | go_size | (simp; omega) | simp)).trans (by go_simp)
  rotate_left
  have c2_0_0 : w2.cell? ⟨w.heap.size, 0, none⟩ = some (.int .i64 an) := (hc2 _ _ (by first | go_size | (simp; omega) | simp)).trans (by go_simp)
  have f2_0_0 : w2.frozen? ⟨w.heap.size, 0, none⟩ = false := (hf2 _ _ (by first | go_size | (simp; omega) | simp)).trans (by go_simp)
  have c2_0_1 : w2.cell? ⟨w.heap.size, 1, none⟩ = some (.int .i64 ad) := (hc2 _ _ (by first | go_size | (simp; omega) | simp)).trans (by go_simp)
  have f2_0_1 : w2.frozen? ⟨w.heap.size, 1, none⟩ = false := (hf2 _ _ (by first | go_size | (simp; omega) | simp)).trans (by go_simp)
  have c2_0_2 : w2.cell? ⟨w.heap.size, 2, none⟩ = some (.int .i64 ap) := (hc2 _ _ (by first | go_size | (simp; omega) | simp)).trans (by go_simp)
  have f2_0_2 : w2.frozen? ⟨w.heap.size, 2, none⟩ = false := (hf2 _ _ (by first | go_size | (simp; omega) | simp)).trans (by go_simp)
  have c2_0_3 : w2.cell? ⟨w.heap.size, 3, none⟩ = some (.int .i64 aq) := (hc2 _ _ (by first | go_size | (simp; omega) | simp)).trans (by go_simp)
  have f2_0_3 : w2.frozen? ⟨w.heap.size, 3, none⟩ = false := (hf2 _ _ (by first | go_size | (simp; omega) | simp)).trans (by go_simp)
  have c2_1_0 : w2.cell? ⟨w.heap.size + 1, 0, none⟩ = some (.int .i64 bn) := (hc2 _ _ (by first | go_size | (simp; omega) | simp)).trans (by go_simp)
  have f2_1_0 : w2.frozen? ⟨w.heap.size + 1, 0, none⟩ = false := (hf2 _ _ (by first | go_size | (simp; omega) | simp)).trans (by go_simp)
  have c2_1_1 : w2.cell? ⟨w.heap.size + 1, 1, none⟩ = some (.int .i64 bd) := (hc2 _ _ (by first | go_size | (simp; omega) | simp)).trans (by go_simp)
  have f2_1_1 : w2.frozen? ⟨w.heap.size + 1, 1, none⟩ = false := (hf2 _ _ (by first | go_size | (simp; omega) | simp)).trans (by go_simp)
  have c2_1_2 : w2.cell? ⟨w.heap.size + 1, 2, none⟩ = some (.int .i64 bp) := (hc2 _ _ (by first | go_size | (simp; omega) | simp)).trans (by go_simp)
  have f2_1_2 : w2.frozen? ⟨w.heap.size + 1, 2, none⟩ = false := (hf2 _ _ (by first | go_size | (simp; omega) | simp)).trans (by go_simp)
  have c2_1_3 : w2.cell? ⟨w.heap.size + 1, 3, none⟩ = some (.int .i64 bq) := (hc2 _ _ (by first | go_size | (simp; omega) | simp)).trans (by go_simp)
  have f2_1_3 : w2.frozen? ⟨w.heap.size + 1, 3, none⟩ = false := (hf2 _ _ (by first | go_size | (simp; omega) | simp)).trans (by go_simp)
  have c2_2_0 : w2.cell? ⟨w.heap.size + 1 + 1, 0, none⟩ = some (.int .i64 0) := (hc2 _ _ (by first | go_size | (simp; omega) | simp)).trans (by go_simp)
  have f2_2_0 : w2.frozen? ⟨w.heap.size + 1 + 1, 0, none⟩ = false := (hf2 _ _ (by first | go_size | (simp; omega) | simp)).trans (by go_simp)
  have c2_2_1 : w2.cell? ⟨w.heap.size + 1 + 1, 1, none⟩ = some (.int .i64 0) := (hc2 _ _ (by first | go_size | (simp; omega) | simp)).trans (by go_simp)
  have f2_2_1 : w2.frozen? ⟨w.heap.size + 1 + 1, 1, none⟩ = false := (hf2 _ _ (by first | go_size | (simp; omega) | simp)).trans (by go_simp)
  have c2_3_0 : w2.cell? ⟨w1.heap.size, 0, none⟩ = some (.int .i64 (spN (aq * bq) (absC (gainI ap aq bp bq)))) := (hc2 _ _ (by first | go_size | (simp; omega) | simp)).trans (by go_simp)
  have f2_3_0 : w2.frozen? ⟨w1.heap.size, 0, none⟩ = false := (hf2 _ _ (by first | go_size | (simp; omega) | simp)).trans (by go_simp)
  have c2_3_1 : w2.cell? ⟨w1.heap.size, 1, none⟩ = some (.int .i64 (spD (aq * bq) (absC (gainI ap aq bp bq)))) := (hc2 _ _ (by first | go_size | (simp; omega) | simp)).trans (by go_simp)
  have f2_3_1 : w2.frozen? ⟨w1.heap.size, 1, none⟩ = false := (hf2 _ _ (by first | go_size | (simp; omega) | simp)).trans (by go_simp)
  have c2_4_0 : w2.cell? ⟨w1.heap.size + 1, 0, none⟩ = some (.int .i64 bn) := (hc2 _ _ (by first | go_size | (simp; omega) | simp)).trans (by go_simp)
  have f2_4_0 : w2.frozen? ⟨w1.heap.size + 1, 0, none⟩ = false := (hf2 _ _ (by first | go_size | (simp; omega) | simp)).trans (by go_simp)
  have c2_4_1 : w2.cell? ⟨w1.heap.size + 1, 1, none⟩ = some (.int .i64 bd) := (hc2 _ _ (by first | go_size | (simp; omega) | simp)).trans (by go_simp)
  have f2_4_1 : w2.frozen? ⟨w1.heap.size + 1, 1, none⟩ = false := (hf2 _ _ (by first | go_size | (simp; omega) | simp)).trans (by go_simp)
  have c2_4_2 : w2.cell? ⟨w1.heap.size + 1, 2, none⟩ = some (.int .i64 bp) := (hc2 _ _ (by first | go_size | (simp; omega) | simp)).trans (by go_simp)
  have f2_4_2 : w2.frozen? ⟨w1.heap.size + 1, 2, none⟩ = false := (hf2 _ _ (by first | go_size | (simp; omega) | simp)).trans (by go_simp)
  have c2_4_3 : w2.cell? ⟨w1.heap.size + 1, 3, none⟩ = some (.int .i64 bq) := (hc2 _ _ (by first | go_size | (simp; omega) | simp)).trans (by go_simp)
  have f2_4_3 : w2.frozen? ⟨w1.heap.size + 1, 3, none⟩ = false := (hf2 _ _ (by first | go_size | (simp; omega) | simp)).trans (by go_simp)
  have c2_5_0 : w2.cell? ⟨w1.heap.size + 1 + 1, 0, none⟩ = some (.int .i64 an) := (hc2 _ _ (by first | go_size | (simp; omega) | simp)).trans (by go_simp)
  have f2_5_0 : w2.frozen? ⟨w1.heap.size + 1 + 1, 0, none⟩ = false := (hf2 _ _ (by first | go_size | (simp; omega) | simp)).trans (by go_simp)
  have c2_5_1 : w2.cell? ⟨w1.heap.size + 1 + 1, 1, none⟩ = some (.int .i64 ad) := (hc2 _ _ (by first | go_size | (simp; omega) | simp)).trans (by go_simp)
  have f2_5_1 : w2.frozen? ⟨w1.heap.size + 1 + 1, 1, none⟩ = false := (hf2 _ _ (by first | go_size | (simp; omega) | simp)).trans (by go_simp)
  have c2_5_2 : w2.cell? ⟨w1.heap.size + 1 + 1, 2, none⟩ = some (.int .i64 ap) := (hc2 _ _ (by first | go_size | (simp; omega) | simp)).trans (by go_simp)
  have f2_5_2 : w2.frozen? ⟨w1.heap.size + 1 + 1, 2, none⟩ = false := (hf2 _ _ (by first | go_size | (simp; omega) | simp)).trans (by go_simp)
  have c2_5_3 : w2.cell? ⟨w1.heap.size + 1 + 1, 3, none⟩ = some (.int .i64 aq) := (hc2 _ _ (by first | go_size | (simp; omega) | simp)).trans (by go_simp)
  have f2_5_3 : w2.frozen? ⟨w1.heap.size + 1 + 1, 3, none⟩ = false := (hf2 _ _ (by first | go_size | (simp; omega) | simp)).trans (by go_simp)
  rotate_left
  all_goals (have s2_0 : w1.heap.size < w2.heap.size := by omega)
  all_goals (have s2_1 : w1.heap.size + 1 < w2.heap.size := by omega)
  all_goals (have s2_2 : w1.heap.size + 1 + 1 < w2.heap.size := by omega)
  all_goals (clear hc2 hf2)
  all_goals (go_wp2)
  all_goals (go_region)
  all_goals (go_wp2_with fail)
  all_goals (refine (difference_any an ad bn bd ⟨by omega, by omega⟩ ⟨by omega, by omega⟩ ⟨by omega, by omega⟩ ⟨by omega, by omega⟩ _).mono ?_)
  all_goals ((rintro e3 w3 ⟨rfl, hb3⟩; obtain ⟨hc3, hf3⟩ := bcell hb3; have hz3 := hb3.size; (try simp only [World.size_alloc, World.size_setCell, World.size_drew] at hz3); have q3 : w.heap.size ≤ w3.heap.size := (by omega); (try have q3_0 : w.heap.size < w3.heap.size := (by omega)); (try have q3_1 : w.heap.size + 1 < w3.heap.size := (by omega)); (try have q3_2 : w.heap.size + 2 < w3.heap.size := (by omega)); (try have q3_3 : w.heap.size + 3 < w3.heap.size := (by omega)); (try have q3_1_0 : w1.heap.size < w3.heap.size := (by omega)); (try have q3_1_1 : w1.heap.size + 1 < w3.heap.size := (by omega)); (try have q3_2_0 : w2.heap.size < w3.heap.size := (by omega)); (try have q3_2_1 : w2.heap.size + 1 < w3.heap.size := (by omega))))
  all_goals (try (replace hc3 := undrewC hc3; replace hf3 := undrewF hf3))
  all_goals (have c3_0_0 : w3.cell? ⟨w.heap.size + 1 + 1, 0, none⟩ = some (.int .i64 0) := (hc3 _ _ (by first | go_size | (simp; omega) | simp)).trans (by go_simp); have f3_0_0 : w3.frozen? ⟨w.heap.size + 1 + 1, 0, none⟩ = false := (hf3 _ _ (by first | go_size | (simp; omega) | simp)).trans (by go_simp); have c3_0_1 : w3.cell? ⟨w.heap.size + 1 + 1, 1, none⟩ = some (.int .i64 0) := (hc3 _ _ (by first | go_size | (simp; omega) | simp)).trans (by go_simp); have f3_0_1 : w3.frozen? ⟨w.heap.size + 1 + 1, 1, none⟩ = false := (hf3 _ _ (by first | go_size | (simp; omega) | simp)).trans (by go_simp); have c3_1_0 : w3.cell? ⟨w1.heap.size, 0, none⟩ = some (.int .i64 (spN (aq * bq) (absC (gainI ap aq bp bq)))) := (hc3 _ _ (by first | go_size | (simp; omega) | simp)).trans (by go_simp); have f3_1_0 : w3.frozen? ⟨w1.heap.size, 0, none⟩ = false := (hf3 _ _ (by first | go_size | (simp; omega) | simp)).trans (by go_simp); have c3_1_1 : w3.cell? ⟨w1.heap.size, 1, none⟩ = some (.int .i64 (spD (aq * bq) (absC (gainI ap aq bp bq)))) := (hc3 _ _ (by first | go_size | (simp; omega) | simp)).trans (by go_simp); have f3_1_1 : w3.frozen? ⟨w1.heap.size, 1, none⟩ = false := (hf3 _ _ (by first | go_size | (simp; omega) | simp)).trans (by go_simp))
  all_goals (have s3_0 : w1.heap.size < w3.heap.size := by omega)
  all_goals (clear hc3 hf3)
  all_goals (go_wp2_with fail)
  all_goals (refine (limitedSpan_any (spN (aq * bq) (absC (gainI ap aq bp bq))) (spD (aq * bq) (absC (gainI ap aq bp bq))) _).mono ?_)
  all_goals ((rintro e4 w4 ⟨rfl, hb4⟩; obtain ⟨hc4, hf4⟩ := bcell hb4; have hz4 := hb4.size; (try simp only [World.size_alloc, World.size_setCell, World.size_drew] at hz4); have q4 : w.heap.size ≤ w4.heap.size := (by omega); (try have q4_0 : w.heap.size < w4.heap.size := (by omega)); (try have q4_1 : w.heap.size + 1 < w4.heap.size := (by omega)); (try have q4_2 : w.heap.size + 2 < w4.heap.size := (by omega)); (try have q4_3 : w.heap.size + 3 < w4.heap.size := (by omega)); (try have q4_1_0 : w1.heap.size < w4.heap.size := (by omega)); (try have q4_1_1 : w1.heap.size + 1 < w4.heap.size := (by omega)); (try have q4_2_0 : w2.heap.size < w4.heap.size := (by omega)); (try have q4_2_1 : w2.heap.size + 1 < w4.heap.size := (by omega)); (try have q4_3_0 : w3.heap.size < w4.heap.size := (by omega)); (try have q4_3_1 : w3.heap.size + 1 < w4.heap.size := (by omega))))
  all_goals (try (replace hc4 := undrewC hc4; replace hf4 := undrewF hf4))
  all_goals (have c4_0_0 : w4.cell? ⟨w.heap.size + 1 + 1, 0, none⟩ = some (.int .i64 0) := (hc4 _ _ (by first | go_size | (simp; omega) | simp)).trans (by go_simp); have f4_0_0 : w4.frozen? ⟨w.heap.size + 1 + 1, 0, none⟩ = false := (hf4 _ _ (by first | go_size | (simp; omega) | simp)).trans (by go_simp); have c4_0_1 : w4.cell? ⟨w.heap.size + 1 + 1, 1, none⟩ = some (.int .i64 0) := (hc4 _ _ (by first | go_size | (simp; omega) | simp)).trans (by go_simp); have f4_0_1 : w4.frozen? ⟨w.heap.size + 1 + 1, 1, none⟩ = false := (hf4 _ _ (by first | go_size | (simp; omega) | simp)).trans (by go_simp))
  all_goals (go_wp2)
  all_goals ((refine bodyPost_ret (by simp [results, Try.results48, go_sem, *]; try rfl) rfl ?_))
  all_goals (exact ⟨ret_rv HM.out, by (repeat' (first | (with_reducible exact Below.refl _ _) | (with_reducible assumption) | (with_reducible refine Below.alloc ?_ ?_ _) | (with_reducible refine Below.drew ?_) | (with_reducible refine below_drewN ?_ _) | (with_reducible refine Below.setCell ?_ ?_ _) | (with_reducible refine below_call ?_ ?_ (by assumption)) | go_size))⟩)

end Go.Proofs.Ytnokjdcgokfdhaa
