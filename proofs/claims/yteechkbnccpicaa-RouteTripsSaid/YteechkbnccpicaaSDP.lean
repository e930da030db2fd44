/- Sorting. -/
import Derived.Test.YteechkbnccpicaaS9P
set_option linter.unusedVariables false
set_option linter.unusedSimpArgs false
set_option linter.unusedSectionVars false

namespace Go.Proofs.Yteechkbnccpicaa
open Go Go.AM
set_option maxRecDepth 10000
variable {S:AM.Sys} (hS:Only S 11) {g:FuncId} {pre cs:List Value} {HB:Base} {V:(Int × Int) → Prop} {lt:(Int × Int) → (Int × Int) → Bool} (hc:CmpP S g pre cs HB V lt) (hLB:HB.low ≤ HB.size) {b r c:Nat} {k:Bool}
include hS hc hLB

end Go.Proofs.Yteechkbnccpicaa
