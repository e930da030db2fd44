/- Fractions, continued: the product. -/
import Derived.Test.YtcmaipijkjillaaDoorBE
set_option linter.unusedVariables false
set_option linter.unusedSimpArgs false
set_option linter.unusedSectionVars false

namespace Go.Proofs.YtcmaipijkjillaaDoor
open Go Go.AM
set_option maxRecDepth 10000

theorem QIs.addr {H:Heap} {v:Value} {n d:Int} {lo l:Nat} (h:QIs H v n d lo):QIs (H.relow l) v n d lo:=by
  obtain ⟨a,b,c,e,h1,h2,h3⟩:=h;exact ⟨a,b,c,e,h1,h2.addr,h3.addr⟩

variable {S:AM.Sys} (hS:Only S 6)
include hS

end Go.Proofs.YtcmaipijkjillaaDoor
