/- From arguments as they come in, in any world, to the machine's memory: numbers, Parts. -/
import Derived.Test.YtmpbapffjapghaaR0
import Derived.Test.YtmpbapffjapghaaRows
set_option linter.unusedVariables false
set_option linter.unusedSimpArgs false
set_option linter.unusedSectionVars false

namespace Go.Proofs.Ytmpbapffjapghaa
open Go Go.ChangeShapes Go.WideShapes Go.ChangeAt Go.RowKit Go.Deep
set_option maxRecDepth 100000
theorem own:ownKnob Try.prog.godebug = none:=by kernel_rfl
theorem laidOut:laidOutB Try.prog = true:=by kernel_rfl
theorem cellsI:Try.prog.cellsOf 3 = 1:=by kernel_rfl
theorem cellsIs:Try.prog.cellsOf 22 = 1:=by kernel_rfl
theorem cellsP:Try.prog.cellsOf 24 = 2:=by kernel_rfl
open AM in
theorem int_imp:Imp Try.prog 3 (intE .i64):=intE_imp Try.underlying3
open AM in
theorem ints_imp:Imp Try.prog 22 (sliceE (intE .i64)):=sliceE_imp int_imp Try.underlying22 cellsI Nat.one_pos
open AM in
abbrev partsE:Enc (List Int × Int):=prodE (sliceE (intE .i64)) (intE .i64)
open AM in
theorem parts_imp:Imp Try.prog 24 partsE:=structE_imp Try.underlying24 cellsP (FImp.cons ints_imp cellsIs rfl (FImp.one int_imp cellsI))
end Go.Proofs.Ytmpbapffjapghaa
