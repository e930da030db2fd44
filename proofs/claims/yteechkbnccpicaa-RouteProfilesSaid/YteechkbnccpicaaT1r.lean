/- Points of profiles: what the reference checks and looks up. -/
import Derived.Test.YteechkbnccpicaaS1P
import Derived.Test.YteechkbnccpicaaT6
set_option linter.unusedVariables false
set_option linter.unusedSimpArgs false
set_option linter.unusedSectionVars false

namespace Go.Proofs.Yteechkbnccpicaa
open Go Go.AM
set_option maxRecDepth 10000

variable {S:AM.Sys} (hS:Only S 11)
include hS

end Go.Proofs.Yteechkbnccpicaa

namespace Go.Proofs.Yteechkbnccpicaa
open Go Go.AM
set_option maxRecDepth 10000

variable {S:AM.Sys} (hS:Only S 11)
include hS

end Go.Proofs.Yteechkbnccpicaa
