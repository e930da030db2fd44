/- The walk of MessageParses: it returns true and nothing that was there has turned. -/
import Derived.Test.YtifnmlocblanbaaNB0
import Derived.Test.YtifnmlocblanbaaPB
set_option linter.unusedVariables false
set_option linter.unusedSimpArgs false
set_option linter.unusedSectionVars false

namespace Go.Proofs.Ytifnmlocblanbaa
open Go Go.ChangeShapes Go.WideShapes Go.ChangeAt Go.RowKit Go.Deep
set_option linter.unusedVariables false
set_option maxRecDepth 100000

theorem enterR : AM.EnterOk Try.prog 3 := ⟨Try.f3, Try.func3, by kernel_rfl, by kernel_rfl⟩
open AM in
/-- THE WALK: whatever came in, the law answers true, and what was there stays. -/
theorem walkParses {X : Type} {enc : TypeId × Value → X} {v1 : Value} {x1 : DataW X} {p1 : List MemPlace} (W : World) (h1 : DataW.Trod enc Try.prog W 0 (fun _ => true) true 9 v1 x1 p1) (c1 : v1.cells.toList = [v1]) :
    Calls Try.prog 3 #[v1] W fun e w' => e = .returned (.bool true) ∧ Below W.heap.size W w' := by
  have i1 := Ins.empty (P := Try.prog) W
  obtain ⟨l, m2, H2, w1, i2, hm2, hk2, hv1, hc⟩ := txt_imp.arg h1 c1 i1
  obtain ⟨e2, _⟩ := txtE_inv hc
  cases e2
  obtain ⟨H', hr⟩ := parses_runs sys_only l H2 i2.low i2.grp (fun H' => sys_known)
  refine calls_of_runs (S := sys) okP mixP sys_ok hr enterR i2.hr ?_ (args' := [v1]) ?_ rfl
  · intro g hg
    exact absurd hg (Nat.not_lt_zero g)
  · exact .cons hv1 .nil
end Go.Proofs.Ytifnmlocblanbaa
