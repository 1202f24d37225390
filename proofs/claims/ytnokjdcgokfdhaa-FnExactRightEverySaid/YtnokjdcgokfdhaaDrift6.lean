/- When clocks agree first, by the program. -/
import Derived.Test.YtnokjdcgokfdhaaDrift5
set_option linter.unusedSimpArgs false
set_option linter.unusedVariables false
set_option maxRecDepth 100000
namespace Go.Proofs.Ytnokjdcgokfdhaa
open Go.RowKit

theorem first_no {an ad ap aq bn bd bp bq : Int} (hg : askC an ad ap aq bn bd bp bq = false) : firstAgreeS an ad ap aq bn bd bp bq = fail3 := by
  unfold firstAgreeS
  unfold askC at hg
  split
  · rename_i h
    rw [h] at hg
    have : gainI ap aq bp bq = 0 := by simpa using hg
    rw [this]; exact firstF_no
  · rfl
theorem sg_pos {n : Int} (h : 0 < n) : sg n = 1 := if_pos h
theorem sg_neg {n : Int} (h : n < 0) : sg n = -1 := by unfold sg; rw [if_neg (by omega), if_pos h]
theorem first_up {an ad ap aq bn bd bp bq : Int} (ga : clockB an ad ap aq = true) (gb : clockB bn bd bp bq = true) (hp : 0 < gainI ap aq bp bq) : firstAgreeS an ad ap aq bn bd bp bq =
    if lowNum (bn * ad - an * bd) (bd * ad) = 0 then mkS (aq * bq) (absC (gainI ap aq bp bq)) else mkS (lowNum (bn * ad - an * bd) (bd * ad) * spN (aq * bq) (absC (gainI ap aq bp bq))) (lowDen (bn * ad - an * bd) (bd * ad) * spD (aq * bq) (absC (gainI ap aq bp bq))) := by
  obtain ⟨⟨a1, a2, a3, a4⟩, ⟨a5, a6⟩, ⟨a7, a8⟩, -, -⟩ := clockB_bd ga
  obtain ⟨⟨b1, b2, b3, b4⟩, ⟨b5, b6⟩, ⟨b7, b8⟩, -, -⟩ := clockB_bd gb
  unfold firstAgreeS
  rw [ga, gb, Bool.and_true, if_pos rfl, firstF_up (Int.mul_pos (by omega) (by omega)) hp (Int.mul_pos (by omega) (by omega)), absC_pos hp]
  have e : -(an * bd - bn * ad) = bn * ad - an * bd := by omega
  rw [e, Int.mul_comm ad bd]
theorem first_down {an ad ap aq bn bd bp bq : Int} (ga : clockB an ad ap aq = true) (gb : clockB bn bd bp bq = true) (hp : gainI ap aq bp bq < 0) : firstAgreeS an ad ap aq bn bd bp bq =
    if lowNum (an * bd - bn * ad) (ad * bd) = 0 then mkS (aq * bq) (absC (gainI ap aq bp bq)) else mkS (lowNum (an * bd - bn * ad) (ad * bd) * spN (aq * bq) (absC (gainI ap aq bp bq))) (lowDen (an * bd - bn * ad) (ad * bd) * spD (aq * bq) (absC (gainI ap aq bp bq))) := by
  obtain ⟨⟨a1, a2, a3, a4⟩, ⟨a5, a6⟩, ⟨a7, a8⟩, -, -⟩ := clockB_bd ga
  obtain ⟨⟨b1, b2, b3, b4⟩, ⟨b5, b6⟩, ⟨b7, b8⟩, -, -⟩ := clockB_bd gb
  unfold firstAgreeS
  rw [ga, gb, Bool.and_true, if_pos rfl, firstF_down (Int.mul_pos (by omega) (by omega)) hp (Int.mul_pos (by omega) (by omega)), absC_neg hp]

end Go.Proofs.Ytnokjdcgokfdhaa
