/- The walk of RouteLimit. -/
import Derived.Test.YthllcobgfjoleaaU0
import Derived.Test.YthllcobgfjoleaaTB
set_option linter.unusedVariables false
set_option linter.unusedSimpArgs false
set_option linter.unusedSectionVars false

namespace Go.Proofs.Ythllcobgfjoleaa
set_option linter.unusedSectionVars false
open Go Go.ChangeShapes Go.WideShapes Go.ChangeAt Go.RowKit Go.Deep
set_option linter.unusedVariables false
set_option maxRecDepth 100000
theorem enterI : AM.EnterOk Try.prog 9 := ⟨Try.f9, Try.func9, by kernel_rfl, by kernel_rfl⟩
open AM in
/-- THE WALK: whatever came in, the law answers true, and what was there stays. -/
theorem walkLimit (more : Bool) (z : Int) (hz : 0 ≤ z ∧ z ≤ 65535) (W : World) :
    Calls Try.prog 9 #[.bool more, .int .u16 z] W fun e w' => e = .returned (.bool true) ∧ Below W.heap.size W w' := by
  have i1 := Ins.empty (P := Try.prog) W
  obtain ⟨H', hr⟩ := lawLimit_runs sys_only more z hz emptyH i1.low i1.grp (fun H' => sys_known)
  refine calls_of_runs (S := sys) okP mixP sys_ok hr enterI i1.hr ?_ (args' := [.bool more, .int .u16 z]) ?_ rfl
  · intro g hg
    exact absurd hg (Nat.not_lt_zero g)
  · exact .cons .bool (.cons .int .nil)
end Go.Proofs.Ythllcobgfjoleaa
