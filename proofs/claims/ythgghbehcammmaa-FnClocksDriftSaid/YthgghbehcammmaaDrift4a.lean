/- When clocks agree, by the model. -/
import Derived.Test.YthgghbehcammmaaDrift3
import Derived.BigRegion
set_option linter.unusedSimpArgs false
set_option linter.unusedVariables false
set_option maxRecDepth 100000
namespace Go.Proofs.Ythgghbehcammmaa
open Go.RowKit

end Go.Proofs.Ythgghbehcammmaa
