/- From arguments as they come in, in any world, to the machine's memory; and the walk: RateRounding returns true and nothing that was there has turned. -/
import Derived.Test.YtcmaipijkjillaaDoorW0
import Derived.Test.YtcmaipijkjillaaDoorL2
set_option linter.unusedVariables false
set_option linter.unusedSimpArgs false
set_option linter.unusedSectionVars false

namespace Go.Proofs.YtcmaipijkjillaaDoor
open Go Go.ChangeShapes Go.WideShapes Go.ChangeAt Go.RowKit Go.Deep
set_option maxRecDepth 100000
theorem enterX:AM.EnterOk Tryd.prog 4:=⟨Tryd.f4,Tryd.func4,by kernel_rfl,by kernel_rfl⟩
theorem read0 (t:TypeId):(H0 t).read 0 0 2 = some [.int .i64 1,.int .i64 1]:=by kernel_rfl
open AM in
theorem walkX {X:Type} {enc:TypeId × Value → X} {v1 v2:Value} {x1 x2:DataW X} {p1 p2:List MemPlace} (n am:Int) (W:World) (h1:DataW.Trod enc Tryd.prog W 0 (fun _ => true) true 22 v1 x1 p1) (c1:v1.cells.toList = [v1])
    (h2:DataW.Trod enc Tryd.prog W 0 (fun _ => true) true 23 v2 x2 p2) (c2:v2.cells.toList = [v2])
    (hL:laidMetH Tryd.prog [("cocket/rate.one",Rows.laid_cocket_rate_one)] W) :
    Calls Tryd.prog 4 #[.int .i64 n,v1,v2,.int .i64 am] W fun e w' => e = .returned (.bool true) ∧ Below W.heap.size W w':=by
  obtain ⟨t,fz,hb⟩:=of_laid hL;have i1:=(Ins.empty (P:=Tryd.prog) W).addPlain hb rfl;obtain ⟨l,m2,H2,w1,i2,hm2,hk2,hv1,hl⟩:=offs_imp.arg h1 c1 i1;obtain ⟨w,m3,H3,w2,i3,hm3,hk3,hv2,hw⟩:=ints_imp.arg h2 c2 i2;obtain ⟨w1',r,o,e1,hl⟩:=hl;cases e1;obtain ⟨w2',r1,o1,e2,hw⟩:=hw;cases e2;have hrow:(H0 t).rows.get 0 = some (row0 t):=by unfold H0; rw [Heap.add_get]; exact if_pos rfl
  have hkeep:Keep (H0 t) H3:=Keep.trans (show Keep (H0 t) H2 from hk2) hk3
  have hz:0 < (H0 t).size:=by unfold H0; rw [Heap.add_size]; omega
  obtain ⟨H',hr⟩:=rr_law (sys_only t) n l w am w1 w2 r o r1 o1 H3 i3.grp i3.low (hl.keep hk3) hw (hkeep.read hz (read0 t)) (Nat.lt_of_lt_of_le hz hkeep.size) (fun H' hk => sys_known ((hkeep.trans hk).row 0 _ hz hrow).1)
  refine calls_of_runs (S:=sys t) okP mixP (sys_ok t) hr enterX i3.hr ?_ (args':=[.int .i64 n,v1,v2,.int .i64 am]) ?_ rfl
  · intro g hg;have hg0:g = 0:=by have hg:g < 1:=hg; omega
    subst hg0;exact ⟨_,hm3 _ _ (hm2 _ _ (Map.put_same _ _ _)),rfl,rfl⟩
  · exact .cons (.plain rfl) (.cons (hv1.mono hm3) (.cons hv2 (.cons (.plain rfl) .nil)))
end Go.Proofs.YtcmaipijkjillaaDoor
