/- From arguments as they come in, in any world, to the machine's memory: numbers, Parts. -/
import Derived.Test.YtpeoleimmabceaaGreatR0
import Derived.Test.YtpeoleimmabceaaGreatGj
import Derived.Test.YtpeoleimmabceaaGreatRows
set_option linter.unusedVariables false
set_option linter.unusedSimpArgs false
set_option linter.unusedSectionVars false

namespace Go.Proofs.YtpeoleimmabceaaGreat
open Go Go.ChangeShapes Go.WideShapes Go.ChangeAt Go.RowKit Go.Deep
set_option maxRecDepth 100000
theorem own:ownKnob Tryz.prog.godebug = none:=by kernel_rfl
theorem laidOut:laidOutB Tryz.prog = true:=by kernel_rfl
theorem cellsI:Tryz.prog.cellsOf 3 = 1:=by kernel_rfl
open AM in
theorem int_imp:Imp Tryz.prog 3 (intE .i64):=intE_imp Tryz.underlying3
open AM in
theorem ints0_imp:Imp Tryz.prog 22 (slice0 (intE .i64)):=slice0_imp int_imp Tryz.underlying22 cellsI Nat.one_pos
open AM in
abbrev partsE:Enc (List Int × Int):=prodE (sliceE (intE .i64)) (intE .i64)
end Go.Proofs.YtpeoleimmabceaaGreat
