/- The walk of MessageLimits: it returns true and nothing that was there has turned. -/
import Derived.Test.YtifnmlocblanbaaNB0
import Derived.Test.YtifnmlocblanbaaGA
set_option linter.unusedVariables false
set_option linter.unusedSimpArgs false
set_option linter.unusedSectionVars false

namespace Go.Proofs.Ytifnmlocblanbaa
open Go Go.ChangeShapes Go.WideShapes Go.ChangeAt Go.RowKit Go.Deep
set_option linter.unusedVariables false
set_option maxRecDepth 100000

theorem enterG : AM.EnterOk Try.prog 4 := ⟨Try.f4, Try.func4, by kernel_rfl, by kernel_rfl⟩
open AM in
/-- THE WALK: whatever came in, the law answers true, and what was there stays. -/
theorem walkLimits (b1 b2 : Bool) (W : World) :
    Calls Try.prog 4 #[.bool b1, .bool b2] W fun e w' => e = .returned (.bool true) ∧ Below W.heap.size W w' := by
  have i1 := Ins.empty (P := Try.prog) W
  obtain ⟨H', hr⟩ := limits_runs sys_only b1 b2 _ i1.low i1.grp (fun H' => sys_known)
  refine calls_of_runs (S := sys) okP mixP sys_ok hr enterG i1.hr ?_ (args' := [.bool b1, .bool b2]) ?_ rfl
  · intro g hg
    exact absurd hg (Nat.not_lt_zero g)
  · exact .cons (.plain rfl) (.cons (.plain rfl) .nil)
end Go.Proofs.Ytifnmlocblanbaa
