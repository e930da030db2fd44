/- From arguments as they come in, in any world, to the machine's memory: numbers, Parts. -/
import Derived.Test.YtpeoleimmabceaaR0
import Derived.Test.YtpeoleimmabceaaGj
import Derived.Test.YtpeoleimmabceaaRows
set_option linter.unusedVariables false
set_option linter.unusedSimpArgs false
set_option linter.unusedSectionVars false

namespace Go.Proofs.Ytpeoleimmabceaa
open Go Go.ChangeShapes Go.WideShapes Go.ChangeAt Go.RowKit Go.Deep
set_option maxRecDepth 100000
theorem own : ownKnob Try.prog.godebug = none := by kernel_rfl
theorem laidOut : laidOutB Try.prog = true := by kernel_rfl
theorem cellsI : Try.prog.cellsOf 3 = 1 := by kernel_rfl
open AM in
theorem int_imp : Imp Try.prog 3 (intE .i64) := intE_imp Try.underlying3
open AM in
theorem ints_imp : Imp Try.prog 22 (sliceE (intE .i64)) := sliceE_imp int_imp Try.underlying22 cellsI Nat.one_pos
open AM in
abbrev partsE : Enc (List Int × Int) := prodE (sliceE (intE .i64)) (intE .i64)
end Go.Proofs.Ytpeoleimmabceaa
