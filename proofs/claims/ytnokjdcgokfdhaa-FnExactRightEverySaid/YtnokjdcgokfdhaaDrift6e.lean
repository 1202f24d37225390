/- When clocks agree first, by the program. -/
import Derived.Test.YtnokjdcgokfdhaaDrift6a
import Derived.Test.YtnokjdcgokfdhaaDrift6b
import Derived.Test.YtnokjdcgokfdhaaDrift6c
import Derived.Test.YtnokjdcgokfdhaaDrift6d
set_option linter.unusedSimpArgs false
set_option linter.unusedVariables false
set_option maxRecDepth 100000
namespace Go.Proofs.Ytnokjdcgokfdhaa
open Go.RowKit

set_option maxHeartbeats 6400000 in
theorem implFirstAgree_any (an ad ap aq bn bd bp bq : Int) (w : World) :
    Calls Try.prog 48 #[cv an ad ap aq, cv bn bd bp bq] w fun e w' => e = .returned (rv (firstAgreeS an ad ap aq bn bd bp bq)) ∧ Below w.heap.size w w' := by
  cases hg : askC an ad ap aq bn bd bp bq
  · have hr : gainR an ad ap aq bn bd bp bq = fail3 := by simp [gainR, hg]
    have hR := first_no hg
    have HM := Lib.hid (show fail3 = firstAgreeS an ad ap aq bn bd bp bq from by simp [hR])
    (go_enter Try.func48, Try.ntmps48)
    go_wp2_with fail
    refine (timeToGain_val an ad ap aq bn bd bp bq hr _).mono ?_
    (rintro e1 w1 ⟨rfl, hb1⟩; obtain ⟨hc1, hf1⟩ := bcell hb1; have hz1 := hb1.size; (try simp only [World.size_alloc, World.size_setCell, World.size_drew] at hz1); have q1 : w.heap.size ≤ w1.heap.size := (by omega); (try have q1_0 : w.heap.size < w1.heap.size := (by omega)); (try have q1_1 : w.heap.size + 1 < w1.heap.size := (by omega)); (try have q1_2 : w.heap.size + 2 < w1.heap.size := (by omega)); (try have q1_3 : w.heap.size + 3 < w1.heap.size := (by omega)))
    go_wp2
    (refine bodyPost_ret (by simp [results, Try.results48, go_sem, *]; try rfl) rfl ?_)
    exact ⟨ret_rv HM.out, by (repeat' (first | (with_reducible exact Below.refl _ _) | (with_reducible assumption) | (with_reducible refine Below.alloc ?_ ?_ _) | (with_reducible refine Below.drew ?_) | (with_reducible refine below_drewN ?_ _) | (with_reducible refine Below.setCell ?_ ?_ _) | (with_reducible refine below_call ?_ ?_ (by assumption)) | go_size))⟩
  · obtain ⟨ga, gb, hne⟩ := askC_split hg
    by_cases hp : 0 < gainI ap aq bp bq
    · by_cases hz : lowNum (bn * ad - an * bd) (bd * ad) = 0
      · exact firstAgree_up_zero an ad ap aq bn bd bp bq ga gb hg hp hz w
      · exact firstAgree_up_more an ad ap aq bn bd bp bq ga gb hg hp hz w
    · have hp : gainI ap aq bp bq < 0 := by omega
      by_cases hz : lowNum (an * bd - bn * ad) (ad * bd) = 0
      · exact firstAgree_down_zero an ad ap aq bn bd bp bq ga gb hg hp hz w
      · exact firstAgree_down_more an ad ap aq bn bd bp bq ga gb hg hp hz w

end Go.Proofs.Ytnokjdcgokfdhaa
