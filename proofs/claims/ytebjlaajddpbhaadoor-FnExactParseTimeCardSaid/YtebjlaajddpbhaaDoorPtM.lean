/- The times that texts tell: what a text of a time spells is the time. -/
import Derived.Test.YtebjlaajddpbhaaDoorHms
import Derived.Test.YtebjlaajddpbhaaDoorDecM
import Derived.Test.YtebjlaajddpbhaaDoorLowSame
set_option linter.unusedSimpArgs false
set_option linter.unusedVariables false
set_option maxRecDepth 100000
namespace Go.Proofs.YtebjlaajddpbhaaDoor
open Go.RowKit

theorem gc_sure (m D : Int) (hD : 1 ≤ D) : ∃ g, 1 ≤ g ∧ D = g * lowDen m D ∧ m = D * (m / D) + g * lowNum m D := by
  have hq : gc (m % D) D * (D / gc (m % D) D) = D := gc_mul (m % D) D
  have hp : gc (m % D) D * ((m % D) / gc (m % D) D) = m % D := Int.mul_ediv_cancel' (by unfold gc; exact Int.gcd_dvd_left ..)
  refine ⟨gc (m % D) D, gcd_pos_of _ _ hD, hq.symm, ?_⟩
  show m = D * (m / D) + gc (m % D) D * ((m % D) / gc (m % D) D)
  rw [hp]
  exact (Int.mul_ediv_add_emod m D).symm
/-- A fraction in lowest terms, below a whole turn, is its own. -/
theorem low_self {p q : Int} (h0 : 0 ≤ p) (h1 : p < q) (hc : gc p q = 1) : lowNum p q = p ∧ lowDen p q = q := by
  unfold lowNum lowDen
  rw [Int.emod_eq_of_lt h0 h1, hc, Int.ediv_one, Int.ediv_one]
  exact ⟨rfl, rfl⟩
theorem low_is {m D p q : Int} (hD : 1 ≤ D) (h0 : 0 ≤ p) (h1 : p < q) (hc : gc p q = 1) (e : D * q ∣ m * q - p * D) : lowNum m D = p ∧ lowDen m D = q := by
  have := (low_same m D p q hD (by omega)).2 e
  obtain ⟨s1, s2⟩ := low_self h0 h1 hc
  rw [s1, s2] at this
  exact this

/-- The seconds and the part of one that are gone. -/
def secN (n d h : Int) : Int := n * (h * 3600) / d
def parN (n d h : Int) : Int := lowNum (n * (h * 3600)) d
def parD (n d h : Int) : Int := lowDen (n * (h * 3600)) d
theorem hms_sec (n d h : Int) (hd : 1 ≤ d) : hourN n d h = secN n d h / 3600 ∧ minuteN n d h = secN n d h / 60 % 60 ∧ secondN n d h = secN n d h % 60 := by
  refine ⟨?_, ?_, rfl⟩
  · unfold hourN secN
    rw [← Int.mul_assoc, div_div_3600 _ _ hd]
  · unfold minuteN secN
    have e := div_div_60 (n * h) d hd
    rw [Int.mul_assoc, Int.mul_assoc] at e
    rw [e]
theorem sec_of_hms (n d h : Int) (hd : 1 ≤ d) : hourN n d h * 3600 + minuteN n d h * 60 + secondN n d h = secN n d h := by
  obtain ⟨e1, e2, e3⟩ := hms_sec n d h hd
  rw [e1, e2, e3]
  omega
theorem sec_bd {n d h : Int} (hb : askB h n d = true) : 0 ≤ secN n d h ∧ secN n d h < h * 3600 := by
  have hg : goodB n d = true := by simp only [askB, Bool.and_eq_true] at hb; exact hb.2
  have hg2 := (goodB_iff _ _).1 hg
  obtain ⟨⟨c1, c2⟩, a1, a2, a3, a4⟩ := askB_bd hb
  unfold secN
  refine ⟨Int.ediv_nonneg (Int.mul_nonneg a3 (by omega)) (by omega), ?_⟩
  apply Int.ediv_lt_of_lt_mul (by omega)
  rw [Int.mul_comm (h * 3600) d]
  exact Int.mul_lt_mul_of_pos_right (by omega) (by omega)
theorem par_bd {n d h : Int} (hb : askB h n d = true) : 0 ≤ parN n d h ∧ parN n d h < parD n d h ∧ parD n d h < 1000000 ∧ gc (parN n d h) (parD n d h) = 1 := by
  obtain ⟨⟨c1, c2⟩, a1, a2, a3, a4⟩ := askB_bd hb
  obtain ⟨b1, b2, b3⟩ := low_bd (n * (h * 3600)) d a1
  have l := low_lt (n * (h * 3600)) d a1
  have hc := gc_low (n * (h * 3600)) d a1
  obtain ⟨g, g1, e1, e2⟩ := gc_sure (n * (h * 3600)) d a1
  unfold parN parD
  generalize lowNum (n * (h * 3600)) d = p at *
  generalize lowDen (n * (h * 3600)) d = q at *
  refine ⟨b1, by omega, ?_, hc⟩
  rcases Int.lt_or_le q 1000000 with hq | hq
  · exact hq
  · exfalso
    obtain rfl : q = 1000000 := by omega
    obtain rfl : g = 1 := by omega
    obtain rfl : d = 1000000 := by omega
    generalize n * (h * 3600) / 1000000 = k at e2
    have e3 : n * (h * 3600) = 3600 * (n * h) := by rw [← Int.mul_assoc, Int.mul_comm]
    rw [e3] at e2
    generalize n * h = m at e2
    have d1 : (2 : Int) ∣ p := ⟨1800 * m - 500000 * k, by omega⟩
    have d2 : (2 : Int) ∣ 1000000 := ⟨500000, by omega⟩
    have h2 : (2 : Int) ∣ gc p 1000000 := Int.dvd_coe_gcd d1 d2
    rw [hc] at h2
    omega
/-- Seconds and part put together again are the time. -/
theorem put_back {n d h : Int} (hb : askB h n d = true) : lowNum (secN n d h * parD n d h + parN n d h) (h * 3600 * parD n d h) = n ∧ lowDen (secN n d h * parD n d h + parN n d h) (h * 3600 * parD n d h) = d := by
  have hg : goodB n d = true := by simp only [askB, Bool.and_eq_true] at hb; exact hb.2
  obtain ⟨-, -, n0, n1, hc⟩ := (goodB_iff _ _).1 hg
  obtain ⟨⟨c1, c2⟩, a1, a2, a3, a4⟩ := askB_bd hb
  obtain ⟨b1, b2, b3⟩ := low_bd (n * (h * 3600)) d a1
  obtain ⟨g, g1, e1, e2⟩ := gc_sure (n * (h * 3600)) d a1
  have hp : 1 ≤ h * 3600 * parD n d h := Int.mul_pos (by omega) (by unfold parD; omega)
  refine low_is hp n0 (by omega) hc ⟨0, ?_⟩
  unfold secN parN parD
  generalize lowNum (n * (h * 3600)) d = p at *
  generalize lowDen (n * (h * 3600)) d = q at *
  generalize n * (h * 3600) / d = k at *
  rw [Int.mul_zero]
  subst e1
  grind
/-- And the seconds and the part of what is put together are the same. -/
theorem take_apart {s p q h : Int} (h1 : 2 ≤ h) (s0 : 0 ≤ s) (s1 : s < h * 3600) (p0 : 0 ≤ p) (p1 : p < q) (hc : gc p q = 1) :
    let n := lowNum (s * q + p) (h * 3600 * q); let d := lowDen (s * q + p) (h * 3600 * q)
    secN n d h = s ∧ parN n d h = p ∧ parD n d h = q := by
  intro n d
  have hD : 1 ≤ h * 3600 * q := Int.mul_pos (by omega) (by omega)
  have hm0 : 0 ≤ s * q + p := by have := Int.mul_nonneg s0 (show 0 ≤ q by omega); omega
  have hm1 : s * q + p < h * 3600 * q := by
    have : (s + 1) * q ≤ h * 3600 * q := Int.mul_le_mul_of_nonneg_right (by omega) (by omega)
    have e : (s + 1) * q = s * q + q := by grind
    omega
  obtain ⟨g, g1, e1, e2⟩ := gc_sure (s * q + p) (h * 3600 * q) hD
  rw [Int.ediv_eq_zero_of_lt hm0 hm1, Int.mul_zero, Int.zero_add] at e2
  obtain ⟨b1, b2, b3⟩ := low_bd (s * q + p) (h * 3600 * q) hD
  have e : n * (h * 3600) * q = (s * q + p) * d := by
    refine Int.eq_of_mul_eq_mul_left (show g ≠ 0 by omega) ?_
    have x1 : g * (n * (h * 3600) * q) = g * n * (h * 3600 * q) := by grind
    have x2 : g * ((s * q + p) * d) = (s * q + p) * (g * d) := by grind
    rw [x1, x2, ← e1, ← e2]
  have hd : 1 ≤ d := b2
  clear_value n d
  have hs : n * (h * 3600) / d = s := by
    have h2 : n * (h * 3600) / d = (n * (h * 3600) * q) / (d * q) := (Int.mul_ediv_mul_of_pos_left _ _ (by omega)).symm
    rw [h2, e, Int.mul_comm d q, Int.mul_ediv_mul_of_pos_left _ _ (by omega), Int.mul_comm s q, Int.mul_add_ediv_left _ _ (by omega), Int.ediv_eq_zero_of_lt p0 p1, Int.add_zero]
  refine ⟨hs, ?_⟩
  unfold parN parD
  exact low_is hd p0 p1 hc ⟨s, by rw [e]; grind⟩
end Go.Proofs.YtebjlaajddpbhaaDoor
