/- The walk of RouteProfiles. -/
import Derived.Test.YteechkbnccpicaaU1
import Derived.Test.YteechkbnccpicaaT8
set_option linter.unusedVariables false
set_option linter.unusedSimpArgs false
set_option linter.unusedSectionVars false

namespace Go.Proofs.Yteechkbnccpicaa
open Go Go.ChangeShapes Go.WideShapes Go.ChangeAt Go.RowKit Go.Deep
set_option maxRecDepth 100000
theorem enterI:AM.EnterOk Try.prog 6:=⟨Try.f6,Try.func6,by kernel_rfl,by kernel_rfl⟩
open AM in
theorem walkProf {X:Type} {enc:TypeId × Value → X} (n ch fr to:Int) (W:World) {v1:Value} {x1:DataW X} {p1:List MemPlace} (h1:DataW.Trod enc Try.prog W 0 (fun _ => true) true 22 v1 x1 p1) (c1:v1.cells.toList = [v1]) :
    Calls Try.prog 6 #[.int .i64 n,v1,.int .i64 ch,.int .i64 fr,.int .i64 to] W fun e w' => e = .returned (.bool true) ∧ Below W.heap.size W w':=by
  have i1:=Ins.empty (P:=Try.prog) W;obtain ⟨ls,m2,H2,w1,i2,hm2,hk2,hv1,hc⟩:=legs_imp.arg h1 c1 i1;obtain ⟨w1',r1,o1,e1,hc⟩:=hc;cases e1;obtain ⟨H',hr⟩:=lawProf_runs sys_only n ls w1 r1 o1 ch fr to H2 i2.low i2.grp hc (fun H' => sys_known)
  refine calls_of_runs (S:=sys) okP mixP sys_ok hr enterI i2.hr ?_ (args':=[.int .i64 n,v1,.int .i64 ch,.int .i64 fr,.int .i64 to]) ?_ rfl
  · intro g hg;exact absurd hg (Nat.not_lt_zero g)
  · exact .cons .int (.cons hv1 (.cons .int (.cons .int (.cons .int .nil))))
end Go.Proofs.Yteechkbnccpicaa
