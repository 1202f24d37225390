/- Two hands in one place; the list of the times that are kept; three hands that meet: by the program and by the model. -/
import Derived.Test.YtcfiaacpofpioaaMeet6
import Derived.Test.YtcfiaacpofpioaaLowSame
set_option linter.unusedSimpArgs false
set_option linter.unusedVariables false
set_option maxRecDepth 100000
namespace Go.Proofs.Ytcfiaacpofpioaa
open Go.RowKit

/-- Two hands stand in one place where one is ahead of the other by 0. -/
theorem same_place (an ad as_ cn cd cs tn td : Int) (h1 : 1 ≤ ad) (h2 : 1 ≤ cd) (h3 : 1 ≤ td) :
    (lowNum (an * td + as_ * tn * ad) (ad * td) = lowNum (cn * td + cs * tn * cd) (cd * td) ∧ lowDen (an * td + as_ * tn * ad) (ad * td) = lowDen (cn * td + cs * tn * cd) (cd * td)) ↔
      relD an ad cn cd * td ∣ relN an ad cn cd * td + (as_ - cs) * tn * relD an ad cn cd := by
  have p1 : 1 ≤ ad * td := Int.mul_pos (by omega) (by omega)
  have p2 : 1 ≤ cd * td := Int.mul_pos (by omega) (by omega)
  have p3 : 1 ≤ ad * cd := Int.mul_pos (by omega) (by omega)
  rw [low_same _ _ _ _ p1 p2]
  obtain ⟨g, k, a1, b1, c1⟩ := gc_split (an * cd - cn * ad) (ad * cd) p3
  unfold relN relD
  generalize lowNum (an * cd - cn * ad) (ad * cd) = p at *
  generalize lowDen (an * cd - cn * ad) (ad * cd) = q at *
  have key : (an * td + as_ * tn * ad) * (cd * td) - (cn * td + cs * tn * cd) * (ad * td) = td * (g * (p * td + (as_ - cs) * tn * q)) + (ad * td * (cd * td)) * k := by
    have e1 : (an * td + as_ * tn * ad) * (cd * td) - (cn * td + cs * tn * cd) * (ad * td) = td * (td * (an * cd - cn * ad) + tn * (ad * cd) * (as_ - cs)) := by grind
    have e2 : ad * td * (cd * td) = td * (td * (ad * cd)) := by grind
    rw [e1, e2, c1]
    generalize ad * cd = D at *
    subst b1
    grind
  have e0 : ad * td * (cd * td) = td * g * (q * td) := by
    have e2 : ad * td * (cd * td) = td * (td * (ad * cd)) := by grind
    rw [e2, b1]; grind
  have hg : td * g ≠ 0 := by
    have : 0 < td * g := Int.mul_pos (by omega) (by omega)
    omega
  rw [key]
  constructor
  · rintro ⟨c, hc⟩
    rw [e0] at hc
    refine ⟨c - k, Int.eq_of_mul_eq_mul_left hg ?_⟩
    grind
  · rintro ⟨c, hc⟩
    rw [e0, hc]
    exact ⟨c + k, by grind⟩
end Go.Proofs.Ytcfiaacpofpioaa
