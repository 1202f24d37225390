/- Hours, minutes, small angles, times told by hours, minutes and seconds: by the program and by the model. -/
import Derived.Test.YtnokjdcgokfdhaaDoorDial4
set_option linter.unusedSimpArgs false
set_option linter.unusedVariables false
set_option maxRecDepth 100000
namespace Go.Proofs.YtnokjdcgokfdhaaDoor
open Go.RowKit

def hourT (h n d : Int) : Int × Bool := if askB h n d then (n * h / d, true) else fail2
def minuteT (h n d : Int) : Int × Bool := if askB h n d then (n * (h * 60) / d % 60, true) else fail2

def timeOk (h a b c : Int) : Bool := inB h 2 24 && inB a 0 (h - 1) && inB b 0 59 && inB c 0 59
def timeT (h a b c : Int) : Int × Int × Bool := if timeOk h a b c then (lowNum (a * 3600 + b * 60 + c) (h * 3600), lowDen (a * 3600 + b * 60 + c) (h * 3600), true) else fail3

end Go.Proofs.YtnokjdcgokfdhaaDoor
