/- From arguments as they come in, in any world, to the machine's memory; and the walk: InspectIs returns true and nothing that was there has turned. -/
import Derived.Test.YtdfjaoncabanbaaDoorS4
set_option linter.unusedVariables false
set_option linter.unusedSimpArgs false
set_option linter.unusedSectionVars false

namespace Go.Proofs.YtdfjaoncabanbaaDoor
open Go Go.ChangeShapes Go.WideShapes Go.ChangeAt Go.RowKit Go.Deep
set_option maxRecDepth 100000
theorem enterI:AM.EnterOk Tryd.prog 3:=⟨Tryd.f3,Tryd.func3,by kernel_rfl,by kernel_rfl⟩
open AM in
theorem walkIs {X:Type} {enc:TypeId × Value → X} {v1:Value} {cs2:Array Value} {x1 x2:DataW X} {p1 p2:List MemPlace} (W:World) (h1:DataW.Trod enc Tryd.prog W 0 (fun _ => true) true 22 v1 x1 p1) (c1:v1.cells.toList = [v1])
    (h2:DataW.Trod enc Tryd.prog W 0 (fun _ => true) true 29 (.agg cs2) x2 p2) (hL:laidMetH Tryd.prog [("math/bits.deBruijn32tab",Rows.laid_math_bits_deBruijn32tab)] W) :
    Calls Tryd.prog 3 #[v1,.agg cs2] W fun e w' => e = .returned (.bool true) ∧ Below W.heap.size W w':=by
  obtain ⟨t,fz,hb⟩:=of_laid hL;have i1:=(Ins.empty (P:=Tryd.prog) W).addPlain hb rfl;obtain ⟨g,m2,H2,w1,i2,hm2,hk2,hv1,hg⟩:=intss_imp.arg h1 c1 i1;obtain ⟨⟨⟨p,q⟩,⟨x,dx⟩,⟨y,dy⟩⟩,m3,H3,cs2',i3,hm3,hk3,hv2,hs⟩:=saddle_imp.argS h2 i2;obtain ⟨w1',r,o,e1,hg⟩:=hg;cases e1;obtain ⟨la,lb,rfl,⟨l1,l2,rfl,⟨rfl,hp⟩,⟨rfl,hq⟩⟩,⟨lc,ld,rfl,⟨l3,l4,rfl,⟨w2',r1,o1,e2,hxs⟩,⟨rfl,hdx⟩⟩,⟨l5,l6,rfl,⟨w3',r2,o2,e3,hys⟩,⟨rfl,hdy⟩⟩⟩⟩:=hs;cases e2;cases e3;have hrow:(H0 t).rows.get 0 = some (row0 t):=by unfold H0; rw [Heap.add_get]; exact if_pos rfl
  have hkeep:Keep (H0 t) H3:=hk2.trans hk3;obtain ⟨H',hr⟩:=is_law (sys_only t) g w1 w2' w3' p q x y dx dy r o r1 o1 r2 o2 H3 hdx hdy i3.grp i3.low (hg.keep hk3) hxs hys (fun H' hk => sys_known ((hkeep.trans hk).row 0 _ (by unfold H0; rw [Heap.add_size]; omega) hrow).1)
  refine calls_of_runs (S:=sys t) okP mixP (sys_ok t) hr enterI i3.hr ?_ (args':=[v1,.agg cs2]) ?_ rfl
  · intro g hg;have hg0:g = 0:=by have hg:g < 1:=hg; omega
    subst hg0;exact ⟨_,hm3 _ _ (hm2 _ _ (Map.put_same _ _ _)),rfl,rfl⟩
  · exact .cons (hv1.mono hm3) (.cons hv2 .nil)
end Go.Proofs.YtdfjaoncabanbaaDoor
