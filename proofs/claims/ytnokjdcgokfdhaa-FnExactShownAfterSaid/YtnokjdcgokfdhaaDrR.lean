/- What the right clock is like; when a clock shows a turn: arithmetic alone. -/
import Derived.Test.YtnokjdcgokfdhaaDrM
set_option linter.unusedSimpArgs false
set_option linter.unusedVariables false
set_option maxRecDepth 100000
namespace Go.Proofs.Ytnokjdcgokfdhaa
open Go.RowKit

def rightS (n d p q : Int) : Int × Int × Bool := if clockB n d p q && !(p == q) then mkS q (absC (p - q)) else fail3
def firstRightS (n d p q : Int) : Int × Int × Bool := if clockB n d p q then firstF n d (p - q) q false else fail3
theorem right_clock : clockB 0 1 1 1 = true := by decide
theorem low_good {n d : Int} (h1 : 1 ≤ d) (h2 : 0 ≤ n ∧ n ≤ d - 1) (h3 : gc n d = 1) : lowNum n d = n ∧ lowDen n d = d := by
  unfold lowNum lowDen
  rw [Int.emod_eq_of_lt h2.1 (by omega), h3]
  simp
theorem agreeS_right (n d p q : Int) : agreeS n d p q 0 1 1 1 = rightS n d p q := by
  unfold agreeS rightS
  rw [right_clock]
  have e : gainI p q 1 1 = p - q := by unfold gainI; omega
  rw [e, Int.mul_one]
  by_cases h : p = q
  · subst h; simp
  · have h1 : (p == q) = false := by simpa using h
    have h2 : (p - q == 0) = false := by simp; omega
    rw [h1, h2]; simp
theorem firstAgreeS_right (n d p q : Int) : firstAgreeS n d p q 0 1 1 1 = firstRightS n d p q := by
  unfold firstAgreeS firstRightS
  rw [right_clock, Bool.and_true]
  split
  · rename_i h
    obtain ⟨⟨a1, a2, a3, a4⟩, -, -, -, a5⟩ := clockB_bd h
    have e : gainI p q 1 1 = p - q := by unfold gainI; omega
    have e1 : n * 1 - 0 * d = n := by omega
    rw [e, e1, Int.mul_one, Int.mul_one, (low_good a1 ⟨a3, a4⟩ a5).1, (low_good a1 ⟨a3, a4⟩ a5).2]
  · rfl
theorem shown_impl {n d p q tn td : Int} (ga : clockB n d p q = true) (gb : goodB tn td = true) :
    mkS (lowNum (tn * d - n * td) (td * d) * q) (lowDen (tn * d - n * td) (td * d) * p) = shownS n d p q tn td := by
  obtain ⟨⟨a1, a2, a3, a4⟩, ⟨a5, a6⟩, ⟨a7, a8⟩, -, -⟩ := clockB_bd ga
  obtain ⟨b1, -⟩ := goodB_bd gb
  unfold shownS
  rw [ga, gb, Bool.and_true, if_pos rfl, firstF_shown (Int.mul_pos (by omega) (by omega)) a5 a7]
  have e : -(n * td - tn * d) = tn * d - n * td := by omega
  rw [e, Int.mul_comm d td]
end Go.Proofs.Ytnokjdcgokfdhaa
