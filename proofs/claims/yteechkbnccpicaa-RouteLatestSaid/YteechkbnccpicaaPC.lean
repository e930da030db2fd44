/- A profile, by the reference. -/
import Derived.Test.YteechkbnccpicaaPB
set_option linter.unusedVariables false
set_option linter.unusedSimpArgs false
set_option linter.unusedSectionVars false

namespace Go.Proofs.Yteechkbnccpicaa
open Go Go.AM
set_option maxRecDepth 10000

def PostRf (ls:List Lg) (ch fr to e:Int) (H:Heap) (u:Value) (H':Heap):Prop:=
  ∃ (v:Value) (Q:List Pt) (r:Nat),u = .tuple ⟨[v,.int .i64 e]⟩ ∧ Keep H H' ∧ SlP H' v Q r 0 ∧ (e ≠ 0 ∨ fr = to → Q = []) ∧ (e = 0 → fr ≠ to → BestOf (JP ls ch fr to) Q)
variable {S:AM.Sys} (hS:Only S 11)
include hS

end Go.Proofs.Yteechkbnccpicaa
