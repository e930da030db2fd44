/- Insertion sort. -/
import Derived.Test.YteechkbnccpicaaS1P
import Derived.Sort.LotC
set_option linter.unusedVariables false
set_option linter.unusedSimpArgs false
set_option linter.unusedSectionVars false

namespace Go.Proofs.Yteechkbnccpicaa
open Go Go.AM
set_option maxRecDepth 10000
def PostIP (HB:Base) (b r:Nat) (k:Bool) (lt:(Int × Int) → (Int × Int) → Bool) (d:Array (Int × Int)) (lo hi:Nat) (H H':Heap):Prop:=SaP HB H' b r k (Sort.insertionSort lt d lo hi) ∧ H.size ≤ H'.size

variable {S:AM.Sys} (hS:Only S 11) {g:FuncId} {pre cs:List Value} {HB:Base} {V:(Int × Int) → Prop} {lt:(Int × Int) → (Int × Int) → Bool} (hc:CmpP S g pre cs HB V lt) (hLB:HB.low ≤ HB.size) {b r c:Nat} {k:Bool}
include hS hc hLB

end Go.Proofs.Yteechkbnccpicaa

namespace Go.Proofs.Yteechkbnccpicaa
open Go Go.AM
set_option maxRecDepth 10000
def PostAP (HB:Base) (b r:Nat) (k:Bool) (d:Array (Int × Int)) (H H':Heap):Prop:=SaP HB H' b r k d ∧ H.size ≤ H'.size
variable {S:AM.Sys} (hS:Only S 11) {g:FuncId} {pre cs:List Value} {HB:Base} {V:(Int × Int) → Prop} {lt:(Int × Int) → (Int × Int) → Bool} (hc:CmpP S g pre cs HB V lt) (hLB:HB.low ≤ HB.size) {b r c:Nat} {k:Bool}
include hS hc hLB

end Go.Proofs.Yteechkbnccpicaa
