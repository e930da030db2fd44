/- From arguments as they come in, in any world, to the machine's memory; and the walk: RateChecks returns true and nothing that was there has turned. -/
import Derived.Test.YtcmaipijkjillaaDoorW0
import Derived.Test.YtcmaipijkjillaaDoorKD
set_option linter.unusedVariables false
set_option linter.unusedSimpArgs false
set_option linter.unusedSectionVars false

namespace Go.Proofs.YtcmaipijkjillaaDoor
open Go Go.ChangeShapes Go.WideShapes Go.ChangeAt Go.RowKit Go.Deep
set_option maxRecDepth 100000
theorem enterX:AM.EnterOk Tryd.prog 3:=⟨Tryd.f3,Tryd.func3,by kernel_rfl,by kernel_rfl⟩
theorem read0 (t:TypeId):(H0 t).read 0 0 2 = some [.int .i64 1,.int .i64 1]:=by kernel_rfl
open AM in
theorem walkX {X:Type} {enc:TypeId × Value → X} {v1 v2 v3:Value} {x1 x2 x3:DataW X} {p1 p2 p3:List MemPlace} (n:Int) (W:World) (h1:DataW.Trod enc Tryd.prog W 0 (fun _ => true) true 22 v1 x1 p1) (c1:v1.cells.toList = [v1])
    (h2:DataW.Trod enc Tryd.prog W 0 (fun _ => true) true 23 v2 x2 p2) (c2:v2.cells.toList = [v2]) (h3:DataW.Trod enc Tryd.prog W 0 (fun _ => true) true 24 v3 x3 p3) (c3:v3.cells.toList = [v3])
    (hL:laidMetH Tryd.prog [("cocket/rate.one",Rows.laid_cocket_rate_one)] W) :
    Calls Tryd.prog 3 #[.int .i64 n,v1,v2,v3] W fun e w' => e = .returned (.bool true) ∧ Below W.heap.size W w':=by
  obtain ⟨t,fz,hb⟩:=of_laid hL;have i1:=(Ins.empty (P:=Tryd.prog) W).addPlain hb rfl;obtain ⟨l,m2,H2,w1,i2,hm2,hk2,hv1,hl⟩:=offs_imp.arg h1 c1 i1;obtain ⟨w,m3,H3,w2,i3,hm3,hk3,hv2,hw⟩:=ints_imp.arg h2 c2 i2;obtain ⟨ps,m4,H4,w3,i4,hm4,hk4,hv3,hp⟩:=ratios_imp.arg h3 c3 i3;obtain ⟨w1',r,o,e1,hl⟩:=hl;cases e1;obtain ⟨w2',r1,o1,e2,hw⟩:=hw;cases e2;obtain ⟨w3',r2,o2,e3,hp⟩:=hp;cases e3;have hrow:(H0 t).rows.get 0 = some (row0 t):=by unfold H0; rw [Heap.add_get]; exact if_pos rfl
  have hkeep:Keep (H0 t) H4:=(Keep.trans (show Keep (H0 t) H2 from hk2) hk3).trans hk4
  have hz:0 < (H0 t).size:=by unfold H0; rw [Heap.add_size]; omega
  obtain ⟨H',hr⟩:=rc_law (sys_only t) n l w ps w1 w2 w3 r o r1 o1 r2 o2 H4 i4.grp i4.low (hl.keep (hk3.trans hk4)) (hw.keep hk4) hp (hkeep.read hz (read0 t)) (Nat.lt_of_lt_of_le hz hkeep.size) (fun H' hk => sys_known ((hkeep.trans hk).row 0 _ hz hrow).1)
  refine calls_of_runs (S:=sys t) okP mixP (sys_ok t) hr enterX i4.hr ?_ (args':=[.int .i64 n,v1,v2,v3]) ?_ rfl
  · intro g hg;have hg0:g = 0:=by have hg:g < 1:=hg; omega
    subst hg0;exact ⟨_,hm4 _ _ (hm3 _ _ (hm2 _ _ (Map.put_same _ _ _))),rfl,rfl⟩
  · exact .cons (.plain rfl) (.cons ((hv1.mono hm3).mono hm4) (.cons (hv2.mono hm4) (.cons hv3 .nil)))
end Go.Proofs.YtcmaipijkjillaaDoor
