/- What no error says; what is few. -/
import Derived.Test.YthkdnlegolphkaaR8a
set_option linter.unusedVariables false
set_option linter.unusedSimpArgs false
set_option linter.unusedSectionVars false

namespace Go.Proofs.Ythkdnlegolphkaa
open Go Go.AM
set_option maxRecDepth 10000

variable {S : AM.Sys} (hS : Only S 10)
include hS

end Go.Proofs.Ythkdnlegolphkaa
