/- The walk of MessageFeeds: it returns true and nothing that was there has turned. -/
import Derived.Test.YtifnmlocblanbaaNB0
import Derived.Test.YtifnmlocblanbaaFA
set_option linter.unusedVariables false
set_option linter.unusedSimpArgs false
set_option linter.unusedSectionVars false

namespace Go.Proofs.Ytifnmlocblanbaa
open Go Go.ChangeShapes Go.WideShapes Go.ChangeAt Go.RowKit Go.Deep
set_option linter.unusedVariables false
set_option maxRecDepth 100000

theorem cellsU : Try.prog.cellsOf 5 = 1 := by kernel_rfl
open AM in
theorem bytes_imp : Imp Try.prog 35 (sliceE (intE .u8)) := sliceE_imp (intE_imp Try.underlying5) Try.underlying35 cellsU Nat.one_pos
theorem enterF : AM.EnterOk Try.prog 5 := ⟨Try.f5, Try.func5, by kernel_rfl, by kernel_rfl⟩
open AM in
/-- THE WALK: whatever came in, the law answers true, and what was there stays. -/
theorem walkFeeds {X : Type} {enc : TypeId × Value → X} {v1 v2 : Value} {x1 x2 : DataW X} {p1 p2 : List MemPlace} (W : World) (h1 : DataW.Trod enc Try.prog W 0 (fun _ => true) true 23 v1 x1 p1) (c1 : v1.cells.toList = [v1])
    (h2 : DataW.Trod enc Try.prog W 0 (fun _ => true) true 35 v2 x2 p2) (c2 : v2.cells.toList = [v2]) :
    Calls Try.prog 5 #[v1, v2] W fun e w' => e = .returned (.bool true) ∧ Below W.heap.size W w' := by
  have i1 := Ins.empty (P := Try.prog) W
  obtain ⟨w, m2, H2, w1, i2, hm2, hk2, hv1, hc⟩ := segsX_imp.arg h1 c1 i1
  obtain ⟨l, m3, H3, w2, i3, hm3, hk3, hv2, hd⟩ := bytes_imp.arg h2 c2 i2
  have hc := (sliceX segE).keep hk3 hc
  obtain ⟨w1', r1, o1, e1, hc, hx⟩ := hc
  cases e1
  obtain ⟨w2', r2, o2, e2, hd⟩ := hd
  cases e2
  obtain ⟨H', hr⟩ := feeds_runs sys_only w w1 r1 o1 l w2 r2 o2 H3 i3.low i3.grp hc hx hd (fun H' => sys_known)
  refine calls_of_runs (S := sys) okP mixP sys_ok hr enterF i3.hr ?_ (args' := [v1, v2]) ?_ rfl
  · intro g hg
    exact absurd hg (Nat.not_lt_zero g)
  · exact .cons (hv1.mono hm3) (.cons hv2 .nil)
end Go.Proofs.Ytifnmlocblanbaa
