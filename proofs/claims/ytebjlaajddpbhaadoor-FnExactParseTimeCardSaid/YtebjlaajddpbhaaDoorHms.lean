/- Hours, minutes, seconds and the part of a second of a time, and their bytes. -/
import Derived.Test.YtebjlaajddpbhaaDoorDial5
import Derived.Test.YtebjlaajddpbhaaDoorText
set_option linter.unusedSimpArgs false
set_option linter.unusedVariables false
set_option maxRecDepth 100000
namespace Go.Proofs.YtebjlaajddpbhaaDoor
open Go.RowKit

theorem low_lt' (n d : Int) (hd : 1 ≤ d) : lowNum n d ≤ d := by
  have hg := gcd_pos_of (n % d) d hd
  have h0 : 0 ≤ n % d := Int.emod_nonneg _ (by omega)
  have h1 : n % d < d := Int.emod_lt_of_pos _ (by omega)
  have h2 : (n % d) / gc (n % d) d ≤ n % d := Int.ediv_le_self _ h0
  unfold lowNum
  omega
/-- The hours, minutes and seconds of a time. -/
def hourN (n d h : Int) : Int := n * h / d
def minuteN (n d h : Int) : Int := n * (h * 60) / d % 60
def secondN (n d h : Int) : Int := n * (h * 3600) / d % 60
def hmsL (n d h : Int) : List UInt8 := [d1 (hourN n d h), d2 (hourN n d h), 58, d1 (minuteN n d h), d2 (minuteN n d h), 58, d1 (secondN n d h), d2 (secondN n d h)]
def fracL (p q : Int) : List UInt8 := if 0 < p then [43] ++ dec p ++ [47] ++ dec q else []
def timeL (n d h : Int) : List UInt8 := hmsL n d h ++ fracL (lowNum (n * (h * 3600)) d) (lowDen (n * (h * 3600)) d)
theorem hms_bd {n d h : Int} (hb : askB h n d = true) : (0 ≤ hourN n d h ∧ hourN n d h < 100) ∧ (0 ≤ minuteN n d h ∧ minuteN n d h < 100) ∧ (0 ≤ secondN n d h ∧ secondN n d h < 100) := by
  have hg : goodB n d = true := by simp only [askB, Bool.and_eq_true] at hb; exact hb.2
  have hg2 := (goodB_iff _ _).1 hg
  obtain ⟨⟨c1, c2⟩, a1, a2, a3, a4⟩ := askB_bd hb
  unfold hourN minuteN secondN
  refine ⟨⟨Int.ediv_nonneg (Int.mul_nonneg a3 (by omega)) (by omega), ?_⟩, by omega, by omega⟩
  have : n * h / d < h := by
    apply Int.ediv_lt_of_lt_mul (by omega)
    rw [Int.mul_comm h d]
    exact Int.mul_lt_mul_of_pos_right (by omega) (by omega)
  omega

theorem div_div_3600 (a d : Int) (hd : 1 ≤ d) : a * 3600 / d / 3600 = a / d := by
  rw [Int.ediv_ediv_of_nonneg (by omega), Int.mul_ediv_mul_of_pos_left _ _ (by omega)]
theorem div_div_60 (a d : Int) (hd : 1 ≤ d) : a * 3600 / d / 60 = a * 60 / d := by
  rw [Int.ediv_ediv_of_nonneg (by omega), show a * 3600 = (a * 60) * 60 by omega, Int.mul_ediv_mul_of_pos_left _ _ (by omega)]

end Go.Proofs.YtebjlaajddpbhaaDoor
