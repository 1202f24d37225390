/- What is a turn in lowest terms, by the program and by the model. -/
import Derived.Test.YtnokjdcgokfdhaaDoorGcd
set_option linter.unusedSimpArgs false
set_option linter.unusedVariables false
set_option maxRecDepth 100000
namespace Go.Proofs.YtnokjdcgokfdhaaDoor
open Go.RowKit

theorem tmod_neg_of (n d : Int) (hn : n < 0) (hd : 1 ≤ d) (h : n.tmod d < 0) : n.tmod d + d = n % d := by
  rw [Int.tmod_eq_emod]
  rw [Int.tmod_eq_emod] at h
  split at h
  · have := Int.emod_nonneg n (b := d) (by omega); omega
  · rename_i hx
    rw [if_neg hx]; omega
theorem tmod_zero_of (n d : Int) (hn : n < 0) (hd : 1 ≤ d) (h : n.tmod d = 0) : 0 = n % d := by
  rw [← Int.dvd_iff_tmod_eq_zero] at h
  exact (Int.emod_eq_zero_of_dvd h).symm
theorem tmod_range (n d : Int) (hn : n < 0) (hd : 1 ≤ d) : -d < n.tmod d ∧ n.tmod d ≤ 0 := by
  constructor
  · have := Int.tmod_lt_of_pos (-n) (b := d) (by omega)
    rw [Int.neg_tmod] at this; omega
  · have := Int.tmod_nonneg d (a := -n) (by omega)
    rw [Int.neg_tmod] at this; omega

def lowOf (r d : Int) : Value := tv (r / gc r d) (d / gc r d)
theorem lowOf_eq (r n d : Int) (h : r = n % d) : lowOf r d = tv (lowNum n d) (lowDen n d) := by
  subst h; rfl

/-- What a function hands back that returns a turn and whether there is one: num, den, ok. -/
abbrev rv (r : Int × Int × Bool) : Value := .tuple #[.agg #[.int .i64 r.1, .int .i64 r.2.1], .bool r.2.2]
def fail3 : Int × Int × Bool := (0, 0, false)
/-- num / den without whole turns, if its Den is not too great. -/
def mk (n d : Int) : Int × Int × Bool := if lowDen n d ≤ 1000000 then (lowNum n d, lowDen n d, true) else fail3
theorem ret_rv {a b : Int × Int × Bool} (h : a = b) : Ending.returned (rv a) = .returned (rv b) := by rw [h]

theorem low_bd (n d : Int) (hd : 1 ≤ d) : 0 ≤ lowNum n d ∧ 1 ≤ lowDen n d ∧ lowDen n d ≤ d := by
  have h0 : 0 ≤ n % d := Int.emod_nonneg _ (by omega)
  have hg := gcd_pos_of (n % d) d hd
  have hl := gcd_le_of (n % d) d hd
  refine ⟨Int.ediv_nonneg h0 (by omega), ?_, ?_⟩
  · exact (Int.le_ediv_iff_mul_le (by omega)).2 (by omega)
  · exact Int.ediv_le_self _ (by omega)

/-- A turn whose Den may be too great. -/
def lim (n d : Int) : Int × Int × Bool := if d ≤ 1000000 then (n, d, true) else fail3
theorem mk_yes (r n d : Int) (h : r = n % d) (hf : d / gc r d ≤ 1000000) : (r / gc r d, d / gc r d, true) = mk n d := by
  subst h; exact (if_pos hf).symm
theorem mk_no (r n d : Int) (h : r = n % d) (hf : ¬ d / gc r d ≤ 1000000) : fail3 = mk n d := by
  subst h; exact (if_neg hf).symm
theorem tmod_add_emod (n d : Int) (hn : n < 0) (hd : 1 ≤ d) : n.tmod d % d = n % d := by
  obtain ⟨h1, h2⟩ := tmod_range n d hn hd
  by_cases hz : n.tmod d = 0
  · rw [hz, ← tmod_zero_of n d hn hd hz]; simp
  · rw [← Int.add_emod_right, tmod_neg_of n d hn hd (by omega), Int.emod_emod_of_dvd _ (Int.dvd_refl d)]
theorem ret_bool {a b : Bool} (h : a = b) : Ending.returned (.bool a) = .returned (.bool b) := by rw [h]

def goodB (n d : Int) : Bool := decide (1 ≤ d ∧ d ≤ 1000000 ∧ 0 ≤ n ∧ n ≤ d - 1 ∧ gc n d = 1)
theorem goodB_iff (n d : Int) : goodB n d = true ↔ (1 ≤ d ∧ d ≤ 1000000 ∧ 0 ≤ n ∧ n ≤ d - 1 ∧ gc n d = 1) := by simp [goodB]

end Go.Proofs.YtnokjdcgokfdhaaDoor
