/- Fractions without whole turns, in lowest terms: when two are the same. -/
import Derived.Test.YtcfiaacpofpioaaDial1
set_option linter.unusedSimpArgs false
set_option linter.unusedVariables false
set_option maxRecDepth 100000
namespace Go.Proofs.Ytcfiaacpofpioaa
open Go.RowKit

theorem gc_split (m D : Int) (hD : 1 ≤ D) : ∃ g k, 1 ≤ g ∧ D = g * lowDen m D ∧ m = D * k + g * lowNum m D := by
  have hq : gc (m % D) D * (D / gc (m % D) D) = D := gc_mul (m % D) D
  have hp : gc (m % D) D * ((m % D) / gc (m % D) D) = m % D := Int.mul_ediv_cancel' (by unfold gc; exact Int.gcd_dvd_left ..)
  refine ⟨gc (m % D) D, m / D, gcd_pos_of _ _ hD, hq.symm, ?_⟩
  show m = D * (m / D) + gc (m % D) D * ((m % D) / gc (m % D) D)
  rw [hp]
  exact (Int.mul_ediv_add_emod m D).symm
theorem low_zero (m D : Int) (hD : 1 ≤ D) : lowNum m D = 0 ↔ D ∣ m := by
  obtain ⟨g, k, g1, e1, e2⟩ := gc_split m D hD
  constructor
  · intro h
    rw [h, Int.mul_zero, Int.add_zero] at e2
    exact ⟨k, e2⟩
  · intro h
    unfold lowNum
    rw [Int.emod_eq_zero_of_dvd h]; simp
theorem lowDen_one (m D : Int) (hD : 1 ≤ D) (h : D ∣ m) : lowDen m D = 1 := by
  unfold lowDen
  rw [Int.emod_eq_zero_of_dvd h]
  have : gc 0 D = D := by unfold gc; simp; omega
  rw [this]
  exact Int.ediv_self (by omega)
theorem cop_dvd {p q c : Int} (h : gc p q = 1) (hd : q ∣ p * c) : q ∣ c := by
  have h1 : Nat.Coprime q.natAbs p.natAbs := by
    unfold gc at h
    have : Int.gcd p q = 1 := by omega
    rw [Nat.coprime_comm]
    exact this
  have h2 : q.natAbs ∣ p.natAbs * c.natAbs := by
    rw [← Int.natAbs_mul]
    exact Int.natAbs_dvd_natAbs.2 hd
  exact Int.natAbs_dvd_natAbs.1 (h1.dvd_of_dvd_mul_left h2)
theorem low_same (m1 D1 m2 D2 : Int) (h1 : 1 ≤ D1) (h2 : 1 ≤ D2) : (lowNum m1 D1 = lowNum m2 D2 ∧ lowDen m1 D1 = lowDen m2 D2) ↔ D1 * D2 ∣ m1 * D2 - m2 * D1 := by
  obtain ⟨g1, k1, a1, b1, c1⟩ := gc_split m1 D1 h1
  obtain ⟨g2, k2, a2, b2, c2⟩ := gc_split m2 D2 h2
  have x1 := low_bd m1 D1 h1
  have x2 := low_bd m2 D2 h2
  have y1 := low_lt m1 D1 h1
  have y2 := low_lt m2 D2 h2
  have z1 := gc_low m1 D1 h1
  have z2 := gc_low m2 D2 h2
  generalize lowNum m1 D1 = p1 at *
  generalize lowNum m2 D2 = p2 at *
  generalize lowDen m1 D1 = q1 at *
  generalize lowDen m2 D2 = q2 at *
  have key : m1 * D2 - m2 * D1 = D1 * D2 * (k1 - k2) + g1 * g2 * (p1 * q2 - p2 * q1) := by
    subst c1 c2 b1 b2
    grind
  constructor
  · rintro ⟨rfl, rfl⟩
    rw [key, show p1 * q1 - p1 * q1 = 0 by omega]
    exact ⟨k1 - k2, by simp⟩
  · rintro ⟨c, hc⟩
    rw [key] at hc
    have e : D1 * D2 = g1 * g2 * (q1 * q2) := by subst b1 b2; grind
    have hg : 0 < g1 * g2 := Int.mul_pos (by omega) (by omega)
    have e2 : p1 * q2 - p2 * q1 = q1 * q2 * (c - (k1 - k2)) := by
      refine Int.eq_of_mul_eq_mul_left (show g1 * g2 ≠ 0 by omega) ?_
      rw [e] at hc
      grind
    have u1 : 0 ≤ p1 * q2 := Int.mul_nonneg (by omega) (by omega)
    have u2 : 0 ≤ p2 * q1 := Int.mul_nonneg (by omega) (by omega)
    have v1 : p1 * q2 < q1 * q2 := Int.mul_lt_mul_of_pos_right (by omega) (by omega)
    have v2 : p2 * q1 < q1 * q2 := by rw [Int.mul_comm q1 q2]; exact Int.mul_lt_mul_of_pos_right (by omega) (by omega)
    have hz : c - (k1 - k2) = 0 := by
      generalize c - (k1 - k2) = t at e2
      rcases Int.lt_trichotomy t 0 with h | h | h
      · have : q1 * q2 * t ≤ q1 * q2 * (-1) := Int.mul_le_mul_of_nonneg_left (by omega) (by omega)
        omega
      · exact h
      · have : q1 * q2 * 1 ≤ q1 * q2 * t := Int.mul_le_mul_of_nonneg_left (by omega) (by omega)
        omega
    rw [hz, Int.mul_zero] at e2
    have e3 : p1 * q2 = p2 * q1 := by omega
    have d1 : q1 ∣ q2 := cop_dvd z1 ⟨p2, by rw [e3, Int.mul_comm]⟩
    have d2 : q2 ∣ q1 := cop_dvd z2 ⟨p1, by rw [← e3, Int.mul_comm]⟩
    have l1 := Int.le_of_dvd (by omega) d1
    have l2 := Int.le_of_dvd (by omega) d2
    have hq : q1 = q2 := by omega
    subst hq
    refine ⟨Int.eq_of_mul_eq_mul_right (show q1 ≠ 0 by omega) e3, rfl⟩
end Go.Proofs.Ytcfiaacpofpioaa
