/- Whole numbers of any size, as the reference keeps them: digits without the highest ones that are 0, and digits compared, on the canonical machine. -/
import Derived.Test.YtpeoleimmabceaaProg
import Derived.KernelRfl
import Derived.Test.YtpeoleimmabceaaGk
import Derived.Test.YtpeoleimmabceaaGj
set_option linter.unusedVariables false
set_option linter.unusedSimpArgs false
set_option linter.unusedSectionVars false

namespace Go.Proofs.Ytpeoleimmabceaa
open Go Go.AM
set_option maxRecDepth 10000

/-! The words of the program. -/
theorem ldI (H : Heap) (r o : Nat) : aLoad Try.prog H 3 (.pointer (some ⟨r, o, none⟩)) = (H.read r o 1).bind one1 := by kernel_rfl
theorem ldIs (H : Heap) (r o : Nat) : aLoad Try.prog H 22 (.pointer (some ⟨r, o, none⟩)) = (H.read r o 1).bind one1 := by kernel_rfl
theorem lenI (a : Option Addr) (n c : Nat) : aLen Try.prog #[22] (.slice a n c) = some (.int .i64 n) := by kernel_rfl
theorem ixI (r o n c : Nat) (k : IntKind) (i : Int) : aIndexAt Try.prog 22 (.slice (some ⟨r, o, none⟩) n c) (.int k i) = if 0 ≤ i ∧ i < (n : Int) then some (.pointer (some ⟨r, o + i.toNat * 1, none⟩)) else none := by kernel_rfl
theorem SlI_ix {H : Heap} {w : List Int} {r o : Nat} {a : Option Addr} {cap : Nat} (h : SlI .i64 H (.slice a w.length cap) w r o) {k : Nat} (h1 : k < w.length) :
    aIndexAt Try.prog 22 (.slice a w.length cap) (.int .i64 (k : Int)) = some (.pointer (some ⟨r, o + k, none⟩)) := by
  obtain ⟨a', cap', e, ha⟩ := h.isv
  cases e
  rw [ha (by omega), ixI, if_pos ⟨by omega, by omega⟩, Int.toNat_natCast, Nat.mul_one]
theorem infoI : ∃ i z, Try.prog.info? 3 = some i ∧ i.size = 1 ∧ i.zero = some z ∧ plain z = true ∧ z.cells.toList.length = 1 ∧ i.bytes ≤ 65536 := ⟨Try.t3, .int .i64 0, by kernel_rfl, by kernel_rfl, by kernel_rfl, by kernel_rfl, by kernel_rfl, of_decide_eq_true (by kernel_rfl)⟩
def Out (S : AM.Sys) (f : FuncId) (args : List Value) (H : Heap) (w : List Int) : Prop := ∃ H' v' r' o', Keep H H' ∧ Grp H' ∧ SlI .i64 H' v' w r' o' ∧ Fine v' ∧ (0 < w.length → H.size ≤ r') ∧ Runs Try.prog S (.fn f) args H v' H'
variable {S : AM.Sys} (hS : Only S 11)
include hS

end Go.Proofs.Ytpeoleimmabceaa
