/- RuleRun: what one gets, as a sum over who comes next; who has more gets no less; with more nobody gets less. -/
import Derived.Test.YtpeoleimmabceaaED
set_option linter.unusedVariables false
set_option linter.unusedSimpArgs false
set_option linter.unusedSectionVars false

namespace Go.Proofs.Ytpeoleimmabceaa
open Go Go.AM

def UR (c : List Int) : Nat → Nat → Int → Int → Int
  | 0, set, left, x => DR c.length 0 set * min x left
  | m + 1, set, left, x => DR c.length (m + 1) set * min x left + ((List.range c.length).map fun k => if set.testBit k then 0 else UR c m (set ||| 2 ^ k) (left - min (c.getD k 0) left) x).sum
def WR (n : Nat) : Nat → Nat → Int
  | 0, set => DR n 0 set
  | m + 1, set => DR n (m + 1) set + ((List.range n).map fun k => if set.testBit k then 0 else WR n m (set ||| 2 ^ k)).sum
variable {c : List Int} (h7 : c.length < 8)
include h7
omit h7
end Go.Proofs.Ytpeoleimmabceaa
