/- The walk of RouteEarliest. -/
import Derived.Test.YteechkbnccpicaaPL
set_option linter.unusedVariables false
set_option linter.unusedSimpArgs false
set_option linter.unusedSectionVars false

namespace Go.Proofs.Yteechkbnccpicaa
open Go Go.ChangeShapes Go.WideShapes Go.ChangeAt Go.RowKit Go.Deep
set_option maxRecDepth 100000
theorem enterI:AM.EnterOk Try.prog 3:=⟨Try.f3,Try.func3,by kernel_rfl,by kernel_rfl⟩
open AM in
theorem legs0_imp:Imp Try.prog 22 (slice0 legE):=slice0_imp leg_imp Try.underlying22 cellsL (show 0 < 5 by omega)
open AM in
theorem walkEarl {X:Type} {enc:TypeId × Value → X} (n ch fr to at':Int) (hat:R64 at') (W:World) {v1:Value} {x1:DataW X} {p1:List MemPlace} (h1:DataW.Trod enc Try.prog W 0 (fun _ => true) true 22 v1 x1 p1) (c1:v1.cells.toList = [v1]) :
    Calls Try.prog 3 #[.int .i64 n,v1,.int .i64 ch,.int .i64 fr,.int .i64 to,.int .i64 at'] W fun e w' => e = .returned (.bool true) ∧ Below W.heap.size W w':=by
  have i1:=Ins.empty (P:=Try.prog) W;obtain ⟨ls,m2,H2,w1,i2,hm2,hk2,hv1,hc⟩:=legs0_imp.arg h1 c1 i1;obtain ⟨w1',r1,o1,e1,hc,_,hp0⟩:=hc;cases e1;obtain ⟨H',hr⟩:=lawEarl_runs sys_only n ls w1 r1 o1 ch fr to at' H2 i2.low i2.grp hc hp0 hat (fun H' => sys_known)
  refine calls_of_runs (S:=sys) okP mixP sys_ok hr enterI i2.hr ?_ (args':=[.int .i64 n,v1,.int .i64 ch,.int .i64 fr,.int .i64 to,.int .i64 at']) ?_ rfl
  · intro g hg;exact absurd hg (Nat.not_lt_zero g)
  · exact .cons .int (.cons hv1 (.cons .int (.cons .int (.cons .int (.cons .int .nil)))))
end Go.Proofs.Yteechkbnccpicaa
