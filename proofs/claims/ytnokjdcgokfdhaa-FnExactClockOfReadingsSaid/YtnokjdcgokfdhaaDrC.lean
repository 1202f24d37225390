/- Clocks told by readings: arithmetic alone. -/
import Derived.Test.YtnokjdcgokfdhaaDrR
set_option linter.unusedSimpArgs false
set_option linter.unusedVariables false
set_option maxRecDepth 100000
namespace Go.Proofs.Ytnokjdcgokfdhaa
open Go.RowKit

/-- The way between two readings. -/
def wayN (an ad bn bd : Int) : Int := lowNum (bn * ad - an * bd) (bd * ad)
def wayD (an ad bn bd : Int) : Int := lowDen (bn * ad - an * bd) (bd * ad)
def readB (an ad sn sd bn bd : Int) : Bool := goodB an ad && spanB sn sd && goodB bn bd && !(sn == 0)
def readC (an ad sn sd bn bd : Int) : Int × Int × Int × Int × Bool :=
  if readB an ad sn sd bn bd then limC an ad (spN (wayN an ad bn bd * sd) (wayD an ad bn bd * sn)) (spD (wayN an ad bn bd * sd) (wayD an ad bn bd * sn)) else fail5
theorem cop_of {a b : Int} (h : gc a b = 1) : Nat.Coprime a.natAbs b.natAbs := by
  unfold gc at h
  have : Int.gcd a b = 1 := by omega
  exact this
theorem of_cop {a b : Int} (h : Nat.Coprime a.natAbs b.natAbs) : gc a b = 1 := by
  unfold gc
  have : Int.gcd a b = 1 := h
  omega
/-- A product of two fractions, each reduced by the other's numbers first, is in lowest terms. -/
theorem cross_cop {x1 x2 y1 y2 : Int} (h1 : gc x1 y1 = 1) (h2 : gc x1 y2 = 1) (h3 : gc x2 y1 = 1) (h4 : gc x2 y2 = 1) : gc (x1 * x2) (y1 * y2) = 1 := by
  refine of_cop ?_
  rw [Int.natAbs_mul, Int.natAbs_mul]
  refine Nat.Coprime.mul_left ?_ ?_
  · exact Nat.Coprime.mul_right (cop_of h1) (cop_of h2)
  · exact Nat.Coprime.mul_right (cop_of h3) (cop_of h4)
theorem cop_div {a b g k : Int} (h : gc (g * a) (k * b) = 1) : gc a b = 1 := by
  have := cop_of h
  rw [Int.natAbs_mul, Int.natAbs_mul] at this
  exact of_cop (Nat.Coprime.coprime_mul_left (Nat.Coprime.coprime_mul_left_right this))
/-- n / d by s / e, in lowest terms each: reduced crosswise. -/
theorem read_sp {n d sn sd : Int} (hn : 0 ≤ n) (hd : 1 ≤ d) (hsn : 1 ≤ sn) (hsd : 1 ≤ sd) (h1 : gc n d = 1) (h2 : gc sn sd = 1) :
    spN (n * sd) (d * sn) = n / gc n sn * (sd / gc sd d) ∧ spD (n * sd) (d * sn) = d / gc sd d * (sn / gc n sn) := by
  have ga := gcd_pos_of n sn hsn
  have gb := gcd_pos_of sd d hd
  have e1 : n = gc n sn * (n / gc n sn) := (Int.mul_ediv_cancel' (by unfold gc; exact Int.gcd_dvd_left ..)).symm
  have e2 : sn = gc n sn * (sn / gc n sn) := (Int.mul_ediv_cancel' (by unfold gc; exact Int.gcd_dvd_right ..)).symm
  have e3 : sd = gc sd d * (sd / gc sd d) := (Int.mul_ediv_cancel' (by unfold gc; exact Int.gcd_dvd_left ..)).symm
  have e4 : d = gc sd d * (d / gc sd d) := (Int.mul_ediv_cancel' (by unfold gc; exact Int.gcd_dvd_right ..)).symm
  have c1 : gc (n / gc n sn) (sn / gc n sn) = 1 := sp_cop n sn hsn
  have c2 : gc (sd / gc sd d) (d / gc sd d) = 1 := sp_cop sd d hd
  generalize n / gc n sn = x at *
  generalize sn / gc n sn = z at *
  generalize sd / gc sd d = u at *
  generalize d / gc sd d = v at *
  generalize gc n sn = g at *
  generalize gc sd d = k at *
  have c3 : gc x v = 1 := cop_div (g := g) (k := k) (by rw [← e1, ← e4]; exact h1)
  have c4 : gc z u = 1 := cop_div (g := g) (k := k) (by rw [← e2, ← e3]; exact h2)
  have c5 : gc u z = 1 := by unfold gc at c4 ⊢; rw [Int.gcd_comm]; exact c4
  have hz : 1 ≤ z := by
    rcases Int.lt_or_le 0 z with h | h
    · omega
    · have : g * z ≤ 0 := Int.mul_nonpos_of_nonneg_of_nonpos (by omega) h
      omega
  have hv : 1 ≤ v := by
    rcases Int.lt_or_le 0 v with h | h
    · omega
    · have : k * v ≤ 0 := Int.mul_nonpos_of_nonneg_of_nonpos (by omega) h
      omega
  refine sp_of (Int.mul_pos (by omega) (by omega)) (Int.mul_pos (by omega) (by omega)) (cross_cop c3 c1 c2 c5) ?_
  rw [e1, e2, e3, e4]
  grind
theorem way_bd {an ad bn bd : Int} (ga : goodB an ad = true) (gb : goodB bn bd = true) : (1 ≤ bd * ad ∧ bd * ad ≤ 1000000000000) ∧ (0 ≤ wayN an ad bn bd ∧ wayN an ad bn bd ≤ 1000000000000) ∧ (1 ≤ wayD an ad bn bd ∧ wayD an ad bn bd ≤ 1000000000000) ∧ gc (wayN an ad bn bd) (wayD an ad bn bd) = 1 := by
  obtain ⟨a1, a2, a3, a4⟩ := goodB_bd ga
  obtain ⟨b1, b2, b3, b4⟩ := goodB_bd gb
  have m := mulb (show 0 ≤ bd by omega) b2 (show 0 ≤ ad by omega) a2
  have h : 1 ≤ bd * ad := Int.mul_pos (by omega) (by omega)
  have l := low_bd (bn * ad - an * bd) (bd * ad) h
  have l' := low_lt (bn * ad - an * bd) (bd * ad) h
  have g := gc_low (bn * ad - an * bd) (bd * ad) h
  unfold wayN wayD
  exact ⟨by omega, by omega, by omega, g⟩
theorem limC_num {n d a b : Int} (h : inB a 1 1000 = false) : limC n d a b = fail5 := by simp [limC, clockB, h]
theorem limC_den {n d a b : Int} (h : inB b 1 1000 = false) : limC n d a b = fail5 := by simp [limC, clockB, h]
end Go.Proofs.Ytnokjdcgokfdhaa
