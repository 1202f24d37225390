/- Spans: which are, made: by the program and by the model. -/
import Derived.Test.YtfddlmnfkmiomaaDrift0
set_option linter.unusedSimpArgs false
set_option linter.unusedVariables false
set_option maxRecDepth 100000
namespace Go.Proofs.Ytfddlmnfkmiomaa
open Go.RowKit

def makeS (n d : Int) : Int × Int × Bool := if inB n 0 1000000000000 && inB d 1 1000000000000 then mkS n d else fail3
end Go.Proofs.Ytfddlmnfkmiomaa
