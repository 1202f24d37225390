/- The text of a time, by the program. -/
import Derived.Test.YtnokjdcgokfdhaaDoorDial5
import Derived.Test.YtnokjdcgokfdhaaDoorItoa
import Derived.Test.YtnokjdcgokfdhaaDoorHms
set_option linter.unusedSimpArgs false
set_option linter.unusedVariables false
set_option maxRecDepth 100000
namespace Go.Proofs.YtnokjdcgokfdhaaDoor
open Go.RowKit

end Go.Proofs.YtnokjdcgokfdhaaDoor
