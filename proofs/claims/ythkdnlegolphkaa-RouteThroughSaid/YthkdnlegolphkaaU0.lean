/- From arguments as they come in, in any world, to the machine's memory: numbers. -/
import Derived.Test.YthkdnlegolphkaaR0
import Derived.Test.YthkdnlegolphkaaGg
import Derived.Test.YthkdnlegolphkaaRows
import Derived.Test.YthkdnlegolphkaaR1
set_option linter.unusedVariables false
set_option linter.unusedSimpArgs false
set_option linter.unusedSectionVars false

namespace Go.Proofs.Ythkdnlegolphkaa
open Go Go.ChangeShapes Go.WideShapes Go.ChangeAt Go.RowKit Go.Deep
set_option maxRecDepth 100000
theorem own : ownKnob Try.prog.godebug = none := by kernel_rfl
theorem laidOut : laidOutB Try.prog = true := by kernel_rfl
theorem cellsI : Try.prog.cellsOf 3 = 1 := by kernel_rfl
open AM in
theorem int_imp : Imp Try.prog 3 (intE .i64) := intE_imp Try.underlying3
end Go.Proofs.Ythkdnlegolphkaa

namespace Go.Proofs.Ythkdnlegolphkaa
open Go Go.ChangeShapes Go.WideShapes Go.ChangeAt Go.RowKit Go.Deep
set_option maxRecDepth 100000
theorem cellsL : Try.prog.cellsOf 32 = 5 := by kernel_rfl
open AM in
theorem leg5_imp : Imp Try.prog 32 (prodE (intE .i64) (prodE (intE .i64) (prodE (intE .i64) (prodE (intE .i64) (intE .i64))))) :=
  structE_imp Try.underlying32 cellsL (FImp.cons int_imp cellsI rfl (FImp.cons int_imp cellsI rfl (FImp.cons int_imp cellsI rfl (FImp.cons int_imp cellsI rfl (FImp.one int_imp cellsI)))))
open AM in
theorem leg_imp : Imp Try.prog 32 legE := mapE_imp (fun z : Int × Int × Int × Int × Int => (⟨z.1, z.2.1, z.2.2.1, z.2.2.2.1, z.2.2.2.2⟩ : Lg)) (fun z => rfl) leg5_imp
open AM in
theorem legs_imp : Imp Try.prog 22 (sliceE legE) := sliceE_imp leg_imp Try.underlying22 cellsL (show 0 < 5 by omega)
end Go.Proofs.Ythkdnlegolphkaa
