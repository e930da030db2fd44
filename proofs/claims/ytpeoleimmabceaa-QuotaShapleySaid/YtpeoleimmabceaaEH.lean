/- The law QuotaCore on the canonical machine. -/
import Derived.Test.YtpeoleimmabceaaEG
set_option linter.unusedVariables false
set_option linter.unusedSimpArgs false
set_option linter.unusedSectionVars false

namespace Go.Proofs.Ytpeoleimmabceaa
open Go Go.AM
set_option maxRecDepth 10000

theorem in_out (s n : Nat) (w : List Int) : inS s n w + outS s n w = ((List.range n).map fun i => w.getD i 0).sum := by
  unfold inS outS
  rw [← sum_add]
  refine sum_congr fun i _ => ?_
  split <;> omega
variable {S : AM.Sys} (hS : Only S 11)
include hS

end Go.Proofs.Ytpeoleimmabceaa
