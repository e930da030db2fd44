/- Looking up: binary search. -/
import Derived.Test.YteechkbnccpicaaS1P
set_option linter.unusedVariables false
set_option linter.unusedSimpArgs false
set_option linter.unusedSectionVars false

namespace Go.Proofs.Yteechkbnccpicaa
open Go Go.AM
set_option maxRecDepth 10000

def cmp3 (x y:Int):Int:=if x < y then -1 else if y < x then 1 else 0
variable {S:AM.Sys} (hS:Only S 11)
include hS

end Go.Proofs.Yteechkbnccpicaa
