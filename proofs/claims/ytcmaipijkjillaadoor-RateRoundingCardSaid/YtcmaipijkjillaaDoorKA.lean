/- Gains, by the reference. -/
import Derived.Test.YtcmaipijkjillaaDoorK9
import Derived.Test.YtcmaipijkjillaaDoorBM
set_option linter.unusedVariables false
set_option linter.unusedSimpArgs false
set_option linter.unusedSectionVars false

namespace Go.Proofs.YtcmaipijkjillaaDoor
open Go Go.AM
set_option maxRecDepth 10000

theorem sgn3_more {x y:Int}:0 < sgn3 x y ↔ y < x:=by
  unfold sgn3;split
  · exact ⟨fun h => absurd h (by decide),fun _ => by omega⟩
  · split
    · exact ⟨fun _ => by omega,fun _ => by decide⟩
    · exact ⟨fun h => absurd h (by decide),fun _ => by omega⟩
theorem big20:(10000:Int) ^ 20 = 100000000000000000000000000000000000000000000000000000000000000000000000000000000:=by decide
variable {S:AM.Sys} (hS:Only S 6)
include hS

end Go.Proofs.YtcmaipijkjillaaDoor
