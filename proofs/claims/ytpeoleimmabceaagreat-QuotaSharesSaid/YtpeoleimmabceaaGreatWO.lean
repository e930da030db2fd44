/- The walk of QuotaShares. -/
import Derived.Test.YtpeoleimmabceaaGreatW0
import Derived.Test.YtpeoleimmabceaaGreatFG
set_option linter.unusedVariables false
set_option linter.unusedSimpArgs false
set_option linter.unusedSectionVars false

namespace Go.Proofs.YtpeoleimmabceaaGreat
open Go Go.ChangeShapes Go.WideShapes Go.ChangeAt Go.RowKit Go.Deep
set_option maxRecDepth 100000
theorem enterS:AM.EnterOk Tryz.prog 3:=⟨Tryz.f3,Tryz.func3,by kernel_rfl,by kernel_rfl⟩
open AM in
theorem walkShares {X:Type} {enc:TypeId × Value → X} (rule e:Int) (W:World) {v1:Value} {x1:DataW X} {p1:List MemPlace} (h1:DataW.Trod enc Tryz.prog W 0 (fun _ => true) true 22 v1 x1 p1) (c1:v1.cells.toList = [v1]) :
    Calls Tryz.prog 3 #[.int .i64 rule,.int .i64 e,v1] W fun e w' => e = .returned (.bool true) ∧ Below W.heap.size W w':=by
  have i1:=Ins.empty (P:=Tryz.prog) W;obtain ⟨c,m2,H2,w1,i2,hm2,hk2,hv1,hc⟩:=ints0_imp.arg h1 c1 i1;obtain ⟨w1',r1,o1,e1,hc,_,hp0⟩:=hc;cases e1;obtain ⟨H',hr⟩:=lawShares_runs sys_only rule e w1 c r1 o1 H2 i2.grp i2.low hc hp0 (fun H' => sys_known)
  refine calls_of_runs (S:=sys) okP mixP sys_ok hr enterS i2.hr ?_ (args':=[.int .i64 rule,.int .i64 e,v1]) ?_ rfl
  · intro g hg;exact absurd hg (Nat.not_lt_zero g)
  · exact .cons .int (.cons .int (.cons hv1 .nil))
end Go.Proofs.YtpeoleimmabceaaGreat
