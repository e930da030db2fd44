/- The walk of QuotaGames. -/
import Derived.Test.YtmpbapffjapghaaW0
import Derived.Test.YtmpbapffjapghaaG6
set_option linter.unusedVariables false
set_option linter.unusedSimpArgs false
set_option linter.unusedSectionVars false

namespace Go.Proofs.Ytmpbapffjapghaa
open Go Go.ChangeShapes Go.WideShapes Go.ChangeAt Go.RowKit Go.Deep
set_option maxRecDepth 100000
theorem enterI:AM.EnterOk Try.prog 3:=⟨Try.f3,Try.func3,by kernel_rfl,by kernel_rfl⟩
open AM in
theorem walkGames {X:Type} {enc:TypeId × Value → X} (e:Int) (W:World) {v1:Value} {x1:DataW X} {p1:List MemPlace} (h1:DataW.Trod enc Try.prog W 0 (fun _ => true) true 22 v1 x1 p1) (c1:v1.cells.toList = [v1])
    {cs2:Array Value} {x2:DataW X} {p2:List MemPlace} (h2:DataW.Trod enc Try.prog W 0 (fun _ => true) true 24 (.agg cs2) x2 p2) :
    Calls Try.prog 3 #[.int .i64 e,v1,.agg cs2] W fun u w' => u = .returned (.bool true) ∧ Below W.heap.size W w':=by
  have i1:=Ins.empty (P:=Try.prog) W;obtain ⟨c,m2,H2,w1,i2,hm2,hk2,hv1,hc⟩:=ints_imp.arg h1 c1 i1;obtain ⟨x,m3,H3,cs',i3,hm3,hk3,hv2,hx⟩:=parts_imp.argS h2 i2;obtain ⟨w1',r1,o1,e1,hc⟩:=hc;cases e1;obtain ⟨q1,q2,rfl,⟨v,r2,o2,rfl,hsl⟩,rfl,_⟩:=hx;obtain ⟨H',hr⟩:=lawGames_runs sys_only e w1 v c x.1 x.2 r1 o1 r2 o2 H3 i3.grp i3.low (hc.keep hk3) hsl (fun H' => sys_known)
  refine calls_of_runs (S:=sys) okP mixP sys_ok hr enterI i3.hr ?_ (args':=[.int .i64 e,v1,.agg cs2]) ?_ rfl
  · intro g hg;exact absurd hg (Nat.not_lt_zero g)
  · exact .cons .int (.cons (hv1.mono hm3) (.cons hv2 .nil))
end Go.Proofs.Ytmpbapffjapghaa
