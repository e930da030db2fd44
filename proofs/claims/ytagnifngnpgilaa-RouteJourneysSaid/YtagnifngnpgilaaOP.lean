/- The walk of RouteJourneys. -/
import Derived.Test.YtagnifngnpgilaaU0
import Derived.Test.YtagnifngnpgilaaOK
set_option linter.unusedVariables false
set_option linter.unusedSimpArgs false
set_option linter.unusedSectionVars false

namespace Go.Proofs.Ytagnifngnpgilaa
open Go Go.ChangeShapes Go.WideShapes Go.ChangeAt Go.RowKit Go.Deep
set_option maxRecDepth 100000
theorem enterI : AM.EnterOk Try.prog 3 := ⟨Try.f3, Try.func3, by kernel_rfl, by kernel_rfl⟩
open AM in
theorem walkJour {X : Type} {enc : TypeId × Value → X} (n ch fr to at' : Int) (hat : R64 at') (W : World) {v1 v2 : Value} {x1 x2 : DataW X} {p1 p2 : List MemPlace} (h1 : DataW.Trod enc Try.prog W 0 (fun _ => true) true 22 v1 x1 p1) (c1 : v1.cells.toList = [v1])
    (h2 : DataW.Trod enc Try.prog W 0 (fun _ => true) true 23 v2 x2 p2) (c2 : v2.cells.toList = [v2]) :
    Calls Try.prog 3 #[.int .i64 n, v1, .int .i64 ch, .int .i64 fr, .int .i64 to, .int .i64 at', v2] W fun e w' => e = .returned (.bool true) ∧ Below W.heap.size W w' := by
  have i1 := Ins.empty (P := Try.prog) W
  obtain ⟨ls, m2, H2, w1, i2, hm2, hk2, hv1, hc⟩ := legs_imp.arg h1 c1 i1
  obtain ⟨js, m3, H3, w2, i3, hm3, hk3, hv2, hd⟩ := ints_imp.arg h2 c2 i2
  have hc := (sliceE legE).keep hk3 hc
  obtain ⟨w1', r1, o1, e1, hc⟩ := hc
  cases e1
  obtain ⟨w2', r2, o2, e2, hd⟩ := hd
  cases e2
  obtain ⟨H', hr⟩ := lawJour_runs sys_only n ls w1 r1 o1 ch fr to at' js w2 r2 o2 H3 i3.low i3.grp hc hd hat (fun H' => sys_known)
  refine calls_of_runs (S := sys) okP mixP sys_ok hr enterI i3.hr ?_ (args' := [.int .i64 n, v1, .int .i64 ch, .int .i64 fr, .int .i64 to, .int .i64 at', v2]) ?_ rfl
  · intro g hg
    exact absurd hg (Nat.not_lt_zero g)
  · exact .cons .int (.cons (hv1.mono hm3) (.cons .int (.cons .int (.cons .int (.cons .int (.cons hv2 .nil))))))
end Go.Proofs.Ytagnifngnpgilaa
