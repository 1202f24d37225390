/- Fractions that are the same without whole turns: arithmetic alone (for a seat without chapter 3's texts). -/
import Derived.Test.YtcfiaacpofpioaaLowSame
set_option linter.unusedSimpArgs false
set_option linter.unusedVariables false
set_option maxRecDepth 100000
namespace Go.Proofs.Ytcfiaacpofpioaa
open Go.RowKit

/-! ### The same without whole turns -/
def congI (m1 D1 m2 D2 : Int) : Prop := ∃ k : Int, m1 * D2 = m2 * D1 + k * (D1 * D2)
theorem congI.same {m1 D1 m2 D2 : Int} (h1 : 1 ≤ D1) (h2 : 1 ≤ D2) (h : congI m1 D1 m2 D2) : lowNum m1 D1 = lowNum m2 D2 ∧ lowDen m1 D1 = lowDen m2 D2 := by
  obtain ⟨k, hk⟩ := h
  refine (low_same m1 D1 m2 D2 h1 h2).2 ⟨k, ?_⟩
  rw [hk, Int.mul_comm k]; omega
theorem congI.eq {m1 D1 m2 D2 : Int} (h : m1 * D2 = m2 * D1) : congI m1 D1 m2 D2 := ⟨0, by omega⟩
theorem congI.low (m D : Int) (hD : 1 ≤ D) : congI (lowNum m D) (lowDen m D) m D := by
  obtain ⟨g, k, g1, e1, e2⟩ := gc_split m D hD
  refine ⟨-k, ?_⟩
  generalize lowNum m D = p at *
  generalize lowDen m D = q at *
  subst e2
  subst e1
  grind
theorem congI.symm {m1 D1 m2 D2 : Int} (h : congI m1 D1 m2 D2) : congI m2 D2 m1 D1 := by
  obtain ⟨k, hk⟩ := h
  exact ⟨-k, by grind⟩
theorem congI.add {a b c d a' b' c' d' : Int} (h : congI a b a' b') (h' : congI c d c' d') : congI (a * d + c * b) (b * d) (a' * d' + c' * b') (b' * d') := by
  obtain ⟨k, hk⟩ := h
  obtain ⟨l, hl⟩ := h'
  refine ⟨k + l, ?_⟩
  have e1 : (a * d + c * b) * (b' * d') = (a * b') * (d * d') + (c * d') * (b * b') := by grind
  rw [e1, hk, hl]
  grind
theorem congI.neg {a b c d : Int} (h : congI a b c d) : congI (-a) b (-c) d := by
  obtain ⟨k, hk⟩ := h
  exact ⟨-k, by grind⟩
theorem congI.trans {a b c d e f : Int} (hd : 1 ≤ d) (h : congI a b c d) (h' : congI c d e f) : congI a b e f := by
  obtain ⟨k, hk⟩ := h
  obtain ⟨l, hl⟩ := h'
  refine ⟨k + l, ?_⟩
  refine Int.eq_of_mul_eq_mul_left (show d ≠ 0 by omega) ?_
  have e1 : d * (a * f) = (a * d) * f := by grind
  rw [e1, hk]
  have e2 : (c * b + k * (b * d)) * f = b * (c * f) + k * (b * d) * f := by grind
  rw [e2, hl]
  grind
end Go.Proofs.Ytcfiaacpofpioaa
