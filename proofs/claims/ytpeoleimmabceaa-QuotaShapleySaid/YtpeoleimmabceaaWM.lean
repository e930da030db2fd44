/- The walk of QuotaShapley. -/
import Derived.Test.YtpeoleimmabceaaW0
import Derived.Test.YtpeoleimmabceaaEV
set_option linter.unusedVariables false
set_option linter.unusedSimpArgs false
set_option linter.unusedSectionVars false

namespace Go.Proofs.Ytpeoleimmabceaa
open Go Go.ChangeShapes Go.WideShapes Go.ChangeAt Go.RowKit Go.Deep
set_option maxRecDepth 100000
theorem enterL : AM.EnterOk Try.prog 9 := ⟨Try.f9, Try.func9, by kernel_rfl, by kernel_rfl⟩
open AM in
theorem walkShap {X : Type} {enc : TypeId × Value → X} (e : Int) (W : World) {v1 : Value} {x1 : DataW X} {p1 : List MemPlace} (h1 : DataW.Trod enc Try.prog W 0 (fun _ => true) true 22 v1 x1 p1) (c1 : v1.cells.toList = [v1]) :
    Calls Try.prog 9 #[.int .i64 e, v1] W fun e w' => e = .returned (.bool true) ∧ Below W.heap.size W w' := by
  have i1 := Ins.empty (P := Try.prog) W
  obtain ⟨c, m2, H2, w1, i2, hm2, hk2, hv1, hc⟩ := ints_imp.arg h1 c1 i1
  obtain ⟨w1', r1, o1, e1, hc⟩ := hc
  cases e1
  obtain ⟨H', hr⟩ := lawShap_runs sys_only e w1 c r1 o1 H2 i2.grp i2.low hc (fun H' => sys_known)
  refine calls_of_runs (S := sys) okP mixP sys_ok hr enterL i2.hr ?_ (args' := [.int .i64 e, v1]) ?_ rfl
  · intro g hg
    exact absurd hg (Nat.not_lt_zero g)
  · exact .cons .int (.cons hv1 .nil)
end Go.Proofs.Ytpeoleimmabceaa
