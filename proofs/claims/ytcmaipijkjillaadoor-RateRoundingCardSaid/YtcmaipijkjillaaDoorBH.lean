/- Whole numbers of any size, continued: the digits of a sum. -/
import Derived.Test.YtcmaipijkjillaaDoorB3
set_option linter.unusedVariables false
set_option linter.unusedSimpArgs false
set_option linter.unusedSectionVars false

namespace Go.Proofs.YtcmaipijkjillaaDoor
open Go Go.AM
set_option maxRecDepth 10000

variable {S:AM.Sys} (hS:Only S 6)
include hS

end Go.Proofs.YtcmaipijkjillaaDoor
