/- The text of a time: the program's function and the model's. -/
import Derived.Test.YtnokjdcgokfdhaaDoorText2
set_option linter.unusedSimpArgs false
set_option linter.unusedVariables false
set_option maxRecDepth 100000
namespace Go.Proofs.YtnokjdcgokfdhaaDoor
open Go.RowKit

/-- A text and whether there is one. -/
abbrev sv (r : List UInt8 × Bool) : Value := .tuple #[str r.1, .bool r.2]
theorem ret_sv {a b : List UInt8 × Bool} (h : a = b) : Ending.returned (sv a) = .returned (sv b) := by rw [h]
def failS : List UInt8 × Bool := ([], false)
def timeT' (h n d : Int) : List UInt8 × Bool := if askB h n d then (timeL n d h, true) else failS

end Go.Proofs.YtnokjdcgokfdhaaDoor
