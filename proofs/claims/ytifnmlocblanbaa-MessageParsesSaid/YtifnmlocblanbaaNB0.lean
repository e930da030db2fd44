/- From arguments as they come in, in any world, to the machine's memory. -/
import Derived.Test.YtifnmlocblanbaaR0
import Derived.Test.YtifnmlocblanbaaN9
import Derived.Test.YtifnmlocblanbaaGg
import Derived.Test.YtifnmlocblanbaaRows
set_option linter.unusedVariables false
set_option linter.unusedSimpArgs false
set_option linter.unusedSectionVars false

namespace Go.Proofs.Ytifnmlocblanbaa
open Go Go.ChangeShapes Go.WideShapes Go.ChangeAt Go.RowKit Go.Deep
set_option linter.unusedVariables false
set_option maxRecDepth 100000

theorem own : ownKnob Try.prog.godebug = none := by kernel_rfl
theorem laidOut : laidOutB Try.prog = true := by kernel_rfl
theorem cellsS : Try.prog.cellsOf 9 = 1 := by kernel_rfl
theorem cellsT : Try.prog.cellsOf 29 = 1 := by kernel_rfl
theorem cellsE : Try.prog.cellsOf 30 = 1 := by kernel_rfl
theorem cellsG : Try.prog.cellsOf 32 = 2 := by kernel_rfl
theorem cellsM : Try.prog.cellsOf 23 = 1 := by kernel_rfl
open AM in
theorem txt_imp : Imp Try.prog 9 txtE := mapE_imp (fun s : ByteArray => s.data.toList) (fun s => rfl) (strE_imp Try.underlying9)
open AM in
theorem elem_imp : Imp Try.prog 29 elemE := sliceE_imp txt_imp Try.underlying29 cellsS Nat.one_pos
open AM in
theorem elems_imp : Imp Try.prog 30 elemsE := sliceE_imp elem_imp Try.underlying30 cellsT Nat.one_pos
open AM in
theorem seg_imp : Imp Try.prog 32 segE := structE_imp Try.underlying32 cellsG (FImp.cons txt_imp cellsS rfl (FImp.one elems_imp cellsE))
open AM in
theorem segs_imp : Imp Try.prog 23 (sliceE segE) := sliceE_imp seg_imp Try.underlying23 cellsG (Nat.succ_pos 1)
open AM in
theorem segsX_imp : Imp Try.prog 23 (sliceX segE) := sliceX_imp seg_imp Try.underlying23 cellsG (Nat.succ_pos 1)
end Go.Proofs.Ytifnmlocblanbaa
