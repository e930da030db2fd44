/- From arguments as they come in, in any world, to the machine's memory; and the walk: InspectPays returns true and nothing that was there has turned. -/
import Derived.Test.YtdfjaoncabanbaaGreatDoorW0
import Derived.Test.YtdfjaoncabanbaaGreatDoorJH
set_option linter.unusedVariables false
set_option linter.unusedSimpArgs false
set_option linter.unusedSectionVars false

namespace Go.Proofs.YtdfjaoncabanbaaGreatDoor
open Go Go.ChangeShapes Go.WideShapes Go.ChangeAt Go.RowKit Go.Deep
set_option maxRecDepth 100000
theorem enterP:AM.EnterOk Tryz.prog 3:=⟨Tryz.f3,Tryz.func3,by kernel_rfl,by kernel_rfl⟩
open AM in
theorem walkPays {X:Type} {enc:TypeId × Value → X} {v1:Value} {cs2 cs3:Array Value} {x1 x2 x3:DataW X} {p1 p2 p3:List MemPlace} (W:World) (h1:DataW.Trod enc Tryz.prog W 0 (fun _ => true) true 22 v1 x1 p1) (c1:v1.cells.toList = [v1])
    (h2:DataW.Trod enc Tryz.prog W 0 (fun _ => true) true 25 (.agg cs2) x2 p2) (h3:DataW.Trod enc Tryz.prog W 0 (fun _ => true) true 25 (.agg cs3) x3 p3) (hL:laidMetH Tryz.prog [("math/bits.deBruijn32tab",Rows.laid_math_bits_deBruijn32tab)] W) :
    Calls Tryz.prog 3 #[v1,.agg cs2,.agg cs3] W fun e w' => e = .returned (.bool true) ∧ Below W.heap.size W w':=by
  obtain ⟨t,fz,hb⟩:=of_laid hL;have i1:=(Ins.empty (P:=Tryz.prog) W).addPlain hb rfl;obtain ⟨g,m2,H2,w1,i2,hm2,hk2,hv1,hg⟩:=intss_imp.arg h1 c1 i1;obtain ⟨⟨x,dx⟩,m3,H3,cs2',i3,hm3,hk3,hv2,hx⟩:=parts_imp.argS h2 i2;obtain ⟨⟨y,dy⟩,m4,H4,cs3',i4,hm4,hk4,hv3,hy⟩:=parts_imp.argS h3 i3;obtain ⟨w1',r,o,e1,hg⟩:=hg;cases e1;obtain ⟨la,lb,rfl,⟨w2',r1,o1,e2,hxs⟩,hb2⟩:=hx;obtain ⟨rfl,hdx⟩:=hb2;cases e2;obtain ⟨lc,ld,rfl,⟨w3',r2,o2,e3,hys⟩,hb3⟩:=hy;obtain ⟨rfl,hdy⟩:=hb3;cases e3;have hrow:(H0 t).rows.get 0 = some (row0 t):=by unfold H0; rw [Heap.add_get]; exact if_pos rfl
  have hkeep:Keep (H0 t) H4:=(hk2.trans hk3).trans hk4;obtain ⟨H',hr⟩:=pays_law (sys_only t) g w1 w2' w3' x y dx dy r o r1 o1 r2 o2 H4 hdx hdy i4.grp i4.low ((hg.keep hk3).keep hk4) (hxs.keep hk4) hys (fun H' hk => sys_known ((hkeep.trans hk).row 0 _ (by unfold H0; rw [Heap.add_size]; omega) hrow).1)
  refine calls_of_runs (S:=sys t) okP mixP (sys_ok t) hr enterP i4.hr ?_ (args':=[v1,.agg cs2,.agg cs3]) ?_ rfl
  · intro g hg;have hg0:g = 0:=by have hg:g < 1:=hg; omega
    subst hg0;exact ⟨_,hm4 _ _ (hm3 _ _ (hm2 _ _ (Map.put_same _ _ _))),rfl,rfl⟩
  · exact .cons ((hv1.mono hm3).mono hm4) (.cons (hv2.mono hm4) (.cons hv3 .nil))
end Go.Proofs.YtdfjaoncabanbaaGreatDoor
