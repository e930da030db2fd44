/- The greatest common divisor of two ints. -/
import Derived.Test.YtcmaipijkjillaaDoorBF
set_option linter.unusedVariables false
set_option linter.unusedSimpArgs false
set_option linter.unusedSectionVars false

namespace Go.Proofs.YtcmaipijkjillaaDoor
open Go Go.AM
set_option maxRecDepth 10000

variable {S:AM.Sys} (hS:Only S 6)
include hS

end Go.Proofs.YtcmaipijkjillaaDoor
