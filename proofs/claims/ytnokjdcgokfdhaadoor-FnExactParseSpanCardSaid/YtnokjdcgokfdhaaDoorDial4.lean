/- What is told of a time on a dial: the program's door for it, and the model's. -/
import Derived.Test.YtnokjdcgokfdhaaDoorDial3
set_option linter.unusedSimpArgs false
set_option linter.unusedVariables false
set_option maxRecDepth 100000
namespace Go.Proofs.YtnokjdcgokfdhaaDoor
open Go.RowKit

/-- There are a dial and a time. -/
def askB (h n d : Int) : Bool := inB h 2 24 && goodB n d
theorem askB_bd {h n d : Int} (hh : askB h n d = true) : (2 ≤ h ∧ h ≤ 24) ∧ 1 ≤ d ∧ d ≤ 1000000 ∧ 0 ≤ n ∧ n ≤ 999999 := by
  simp only [askB, Bool.and_eq_true] at hh
  exact ⟨inB_bd hh.1, goodB_bd hh.2⟩
/-- A time of a dial, as the program's own methods take it. -/
abbrev dv (n d h : Int) : Value := .agg #[.int .i64 n, .int .i64 d, .int .i64 h]
/-- A time's turn so many times, if there are such a dial and such a turn. -/
def askT (h n d k : Int) : Int × Int × Bool := if askB h n d then (lowNum (n * k) d, lowDen (n * k) d, true) else fail3

end Go.Proofs.YtnokjdcgokfdhaaDoor
