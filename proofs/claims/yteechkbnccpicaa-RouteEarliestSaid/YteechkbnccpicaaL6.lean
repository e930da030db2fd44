/- slices.Backward of points; the last point that comes in time. -/
import Derived.Test.YteechkbnccpicaaL5
set_option linter.unusedVariables false
set_option linter.unusedSimpArgs false
set_option linter.unusedSectionVars false

namespace Go.Proofs.Yteechkbnccpicaa
open Go Go.AM
set_option maxRecDepth 10000

def BackQ (w:List Pt) (by':Int) (x:Int) (b:Bool):Prop:=
  (∃ k,k < w.length ∧ (w.getD k default).2 ≤ by' ∧ (∀ j,k < j → j < w.length → ¬ (w.getD j default).2 ≤ by') ∧ x = (w.getD k default).1 ∧ b = true) ∨
  ((∀ j,j < w.length → ¬ (w.getD j default).2 ≤ by') ∧ x = 0 ∧ b = false)

variable {S:AM.Sys} (hS:Only S 11)
include hS

end Go.Proofs.Yteechkbnccpicaa
