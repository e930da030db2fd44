/- From arguments as they come in, in any world, to the machine's memory: numbers. -/
import Derived.Test.YteechkbnccpicaaR0
import Derived.Test.YteechkbnccpicaaRows
set_option linter.unusedVariables false
set_option linter.unusedSimpArgs false
set_option linter.unusedSectionVars false

namespace Go.Proofs.Yteechkbnccpicaa
open Go Go.ChangeShapes Go.WideShapes Go.ChangeAt Go.RowKit Go.Deep
set_option maxRecDepth 100000
theorem own:ownKnob Try.prog.godebug = none:=by kernel_rfl
theorem laidOut:laidOutB Try.prog = true:=by kernel_rfl
theorem cellsI:Try.prog.cellsOf 3 = 1:=by kernel_rfl
open AM in
theorem int_imp:Imp Try.prog 3 (intE .i64):=intE_imp Try.underlying3
end Go.Proofs.Yteechkbnccpicaa
