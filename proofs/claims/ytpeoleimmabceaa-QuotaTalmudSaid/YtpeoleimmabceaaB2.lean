/- Whole numbers of any size, continued: the digits of a product. -/
import Derived.Test.YtpeoleimmabceaaB1
set_option linter.unusedVariables false
set_option linter.unusedSimpArgs false
set_option linter.unusedSectionVars false

namespace Go.Proofs.Ytpeoleimmabceaa
open Go Go.AM
set_option maxRecDepth 10000

theorem mkI (H : Heap) {l : Int} (h0 : 0 ≤ l) (h1 : l ≤ 268435456) : aMakeSlice Try.prog H 22 (.int .i64 l) (.int .i64 l) = some (.slice (some ⟨H.size, 0, none⟩) l.toNat l.toNat, H.newExact ((List.replicate l.toNat (0 : Int)).map fun z => .int .i64 z) 3) := by
  have h2 := makeSlice_eq (P := Try.prog) (t := 22) (e := 3) (inf := Try.t3) (z := .int .i64 0) Try.underlying22 (by kernel_rfl) (by kernel_rfl) rfl (by kernel_rfl) (of_decide_eq_true (by kernel_rfl)) H .i64 .i64 h0 h1
  rw [h2]
  have h3 : Try.t3.size = 1 := by kernel_rfl
  rw [h3, Nat.mul_one, List.map_replicate]
  rfl
variable {S : AM.Sys} (hS : Only S 11)
include hS

end Go.Proofs.Ytpeoleimmabceaa
