/- When clocks agree, by the program. -/
import Derived.Test.YtnokjdcgokfdhaaDrift3
import Derived.Test.YtnokjdcgokfdhaaDrR
import Derived.Test.YtnokjdcgokfdhaaDrift1b
set_option linter.unusedSimpArgs false
set_option linter.unusedVariables false
set_option maxRecDepth 100000
namespace Go.Proofs.Ytnokjdcgokfdhaa
open Go.RowKit

theorem timeToGain_val {r : Int × Int × Bool} (an ad ap aq bn bd bp bq : Int) (hr : gainR an ad ap aq bn bd bp bq = r) (w : World) :
    Calls Try.prog 79 #[cv an ad ap aq, cv bn bd bp bq] w fun e w' => e = .returned (rv r) ∧ Below w.heap.size w w' := by
  subst hr; exact timeToGain_any an ad ap aq bn bd bp bq w
theorem spanOrder_val {r : Int} (an ad bn bd : Int) (hr : sg (an * bd - bn * ad) = r) (ga : 1 ≤ ad ∧ ad ≤ 1000000 ∧ 0 ≤ an ∧ an ≤ 1000000) (gb : 1 ≤ bd ∧ bd ≤ 1000000 ∧ 0 ≤ bn ∧ bn ≤ 1000000) (w : World) :
    Calls Try.prog 63 #[tv an ad, tv bn bd] w fun e w' => e = .returned (.int .i64 r) ∧ Below w.heap.size w w' := by
  subst hr; exact spanOrder_any an ad bn bd ga gb w

set_option maxHeartbeats 800000 in
theorem implAgreeEvery_any (an ad ap aq bn bd bp bq : Int) (w : World) :
    Calls Try.prog 46 #[cv an ad ap aq, cv bn bd bp bq] w fun e w' => e = .returned (rv (agreeS an ad ap aq bn bd bp bq)) ∧ Below w.heap.size w w' := by
  cases hg : askC an ad ap aq bn bd bp bq
  · have hr : gainR an ad ap aq bn bd bp bq = fail3 := by simp [gainR, hg]
    have hR : agreeS an ad ap aq bn bd bp bq = fail3 := by have h := hg; unfold askC at h; unfold agreeS; rw [h]; rfl
    have HM := Lib.hid (show fail3 = agreeS an ad ap aq bn bd bp bq from by simp [hR])
    (go_enter Try.func46, Try.ntmps46)
    go_wp2_with fail
    refine (timeToGain_val an ad ap aq bn bd bp bq hr _).mono ?_
    (rintro e1 w1 ⟨rfl, hb1⟩; obtain ⟨hc1, hf1⟩ := bcell hb1; have hz1 := hb1.size; (try simp only [World.size_alloc, World.size_setCell, World.size_drew] at hz1); have q1 : w.heap.size ≤ w1.heap.size := (by omega); (try have q1_0 : w.heap.size < w1.heap.size := (by omega)); (try have q1_1 : w.heap.size + 1 < w1.heap.size := (by omega)); (try have q1_2 : w.heap.size + 2 < w1.heap.size := (by omega)); (try have q1_3 : w.heap.size + 3 < w1.heap.size := (by omega)))
    go_wp2
    (refine bodyPost_ret (by simp [results, Try.results46, go_sem, *]; try rfl) rfl ?_)
    exact ⟨ret_rv HM.out, by (repeat' (first | (with_reducible exact Below.refl _ _) | (with_reducible assumption) | (with_reducible refine Below.alloc ?_ ?_ _) | (with_reducible refine Below.drew ?_) | (with_reducible refine below_drewN ?_ _) | (with_reducible refine Below.setCell ?_ ?_ _) | (with_reducible refine below_call ?_ ?_ (by assumption)) | go_size))⟩
  · have hr : gainR an ad ap aq bn bd bp bq = ((spN (aq * bq) (absC (gainI ap aq bp bq))), (spD (aq * bq) (absC (gainI ap aq bp bq))), true) := by simp [gainR, hg]
    have hR : agreeS an ad ap aq bn bd bp bq = limS (spN (aq * bq) (absC (gainI ap aq bp bq))) (spD (aq * bq) (absC (gainI ap aq bp bq))) := by have h := hg; unfold askC at h; unfold agreeS; rw [if_pos h]; rfl
    have HM := Lib.hid (show limS (spN (aq * bq) (absC (gainI ap aq bp bq))) (spD (aq * bq) (absC (gainI ap aq bp bq))) = agreeS an ad ap aq bn bd bp bq from by simp [hR])
    (go_enter Try.func46, Try.ntmps46)
    go_wp2_with fail
    refine (timeToGain_val an ad ap aq bn bd bp bq hr _).mono ?_
    (rintro e1 w1 ⟨rfl, hb1⟩; obtain ⟨hc1, hf1⟩ := bcell hb1; have hz1 := hb1.size; (try simp only [World.size_alloc, World.size_setCell, World.size_drew] at hz1); have q1 : w.heap.size ≤ w1.heap.size := (by omega); (try have q1_0 : w.heap.size < w1.heap.size := (by omega)); (try have q1_1 : w.heap.size + 1 < w1.heap.size := (by omega)); (try have q1_2 : w.heap.size + 2 < w1.heap.size := (by omega)); (try have q1_3 : w.heap.size + 3 < w1.heap.size := (by omega)))
    go_wp2_with fail
    refine (limitedSpan_any (spN (aq * bq) (absC (gainI ap aq bp bq))) (spD (aq * bq) (absC (gainI ap aq bp bq))) _).mono ?_
    (rintro e2 w2 ⟨rfl, hb2⟩; obtain ⟨hc2, hf2⟩ := bcell hb2; have hz2 := hb2.size; (try simp only [World.size_alloc, World.size_setCell, World.size_drew] at hz2); have q2 : w.heap.size ≤ w2.heap.size := (by omega); (try have q2_0 : w.heap.size < w2.heap.size := (by omega)); (try have q2_1 : w.heap.size + 1 < w2.heap.size := (by omega)); (try have q2_2 : w.heap.size + 2 < w2.heap.size := (by omega)); (try have q2_3 : w.heap.size + 3 < w2.heap.size := (by omega)); (try have q2_1_0 : w1.heap.size < w2.heap.size := (by omega)); (try have q2_1_1 : w1.heap.size + 1 < w2.heap.size := (by omega)))
    go_wp2
    (refine bodyPost_ret (by simp [results, Try.results46, go_sem, *]; try rfl) rfl ?_)
    exact ⟨ret_rv HM.out, by (repeat' (first | (with_reducible exact Below.refl _ _) | (with_reducible assumption) | (with_reducible refine Below.alloc ?_ ?_ _) | (with_reducible refine Below.drew ?_) | (with_reducible refine below_drewN ?_ _) | (with_reducible refine Below.setCell ?_ ?_ _) | (with_reducible refine below_call ?_ ?_ (by assumption)) | go_size))⟩

end Go.Proofs.Ytnokjdcgokfdhaa
