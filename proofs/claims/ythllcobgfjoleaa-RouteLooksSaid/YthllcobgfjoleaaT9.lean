/- The walk of RouteLooks. -/
import Derived.Test.YthllcobgfjoleaaU0
import Derived.Test.YthllcobgfjoleaaT8
set_option linter.unusedVariables false
set_option linter.unusedSimpArgs false
set_option linter.unusedSectionVars false

namespace Go.Proofs.Ythllcobgfjoleaa
set_option linter.unusedSectionVars false
open Go Go.ChangeShapes Go.WideShapes Go.ChangeAt Go.RowKit Go.Deep
set_option linter.unusedVariables false
set_option maxRecDepth 100000
theorem cellsS : Try.prog.cellsOf 40 = 2 := by kernel_rfl
open AM in
theorem stop_imp : Imp Try.prog 40 stE := structE_imp Try.underlying40 cellsS (FImp.cons int_imp cellsI rfl (FImp.one int_imp cellsI))
open AM in
theorem stops_imp : Imp Try.prog 35 (sliceE stE) := sliceE_imp stop_imp Try.underlying35 cellsS (show 0 < 2 by omega)
theorem enterI : AM.EnterOk Try.prog 7 := ⟨Try.f7, Try.func7, by kernel_rfl, by kernel_rfl⟩
open AM in
/-- THE WALK: whatever came in, the law answers true, and what was there stays. -/
theorem walkLooks {X : Type} {enc : TypeId × Value → X} (at' wait : Int) (W : World) {v1 v2 : Value} {x1 x2 : DataW X} {p1 p2 : List MemPlace} (h1 : DataW.Trod enc Try.prog W 0 (fun _ => true) true 35 v1 x1 p1) (c1 : v1.cells.toList = [v1])
    (h2 : DataW.Trod enc Try.prog W 0 (fun _ => true) true 35 v2 x2 p2) (c2 : v2.cells.toList = [v2]) :
    Calls Try.prog 7 #[v1, v2, .int .i64 at', .int .i64 wait] W fun e w' => e = .returned (.bool true) ∧ Below W.heap.size W w' := by
  have i1 := Ins.empty (P := Try.prog) W
  obtain ⟨ls, m2, H2, w1, i2, hm2, hk2, hv1, hc⟩ := stops_imp.arg h1 c1 i1
  obtain ⟨js, m3, H3, w2, i3, hm3, hk3, hv2, hd⟩ := stops_imp.arg h2 c2 i2
  have hc := (sliceE stE).keep hk3 hc
  obtain ⟨w1', r1, o1, e1, hc⟩ := hc
  cases e1
  obtain ⟨w2', r2, o2, e2, hd⟩ := hd
  cases e2
  obtain ⟨H', hr⟩ := lawLooks_runs sys_only ls js w1 w2 r1 o1 r2 o2 at' wait H3 i3.low i3.grp hc hd (fun H' => sys_known)
  refine calls_of_runs (S := sys) okP mixP sys_ok hr enterI i3.hr ?_ (args' := [v1, v2, .int .i64 at', .int .i64 wait]) ?_ rfl
  · intro g hg
    exact absurd hg (Nat.not_lt_zero g)
  · exact .cons (hv1.mono hm3) (.cons hv2 (.cons .int (.cons .int .nil)))
end Go.Proofs.Ythllcobgfjoleaa
