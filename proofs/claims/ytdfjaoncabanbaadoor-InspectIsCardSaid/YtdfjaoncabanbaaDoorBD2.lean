/- Fractions, continued: the quotient; a fraction as a Ratio; of any two ints. -/
import Derived.Test.YtdfjaoncabanbaaDoorBF
import Derived.Test.YtdfjaoncabanbaaDoorIC
set_option linter.unusedVariables false
set_option linter.unusedSimpArgs false
set_option linter.unusedSectionVars false

namespace Go.Proofs.YtdfjaoncabanbaaDoor
open Go Go.AM
set_option maxRecDepth 10000

theorem cross_div {n1 d1 n1' d1' n2 d2 n2' d2':Int} (h1:n1' * d1 = n1 * d1') (h2:n2' * d2 = n2 * d2'):(n1' * d2') * (d1 * n2) = (n1 * d2) * (d1' * n2'):=by
  calc (n1' * d2') * (d1 * n2) = (n1' * d1) * (n2 * d2'):=by ac_rfl
    _ = (n1 * d1') * (n2' * d2):=by rw [h1,h2]
    _ = (n1 * d2) * (d1' * n2'):=by ac_rfl
theorem low_eq {n d n' d':Int} (hd:0 < d) (hc:n.natAbs.gcd d.natAbs = 1) (hd':0 < d') (hc':n'.natAbs.gcd d'.natAbs = 1) (h:n' * d = n * d'):n' = n ∧ d' = d:=by
  have a:=(low_le hd hd' hc' h).1;have b:=(low_le hd' hd hc h.symm).1;obtain rfl:d' = d:=by omega
  exact ⟨Int.eq_of_mul_eq_mul_right (by omega) h,rfl⟩
theorem QV.low {H:Heap} {v:Value} {n d:Int} (h:QV H v n d) (hd:0 < d) (hc:n.natAbs.gcd d.natAbs = 1):QIs H v n d 400:=by
  obtain ⟨n',d',q,h1,h2,h3⟩:=h;obtain ⟨rfl,rfl⟩:=low_eq hd hc h1 h2 h3;exact q

variable {S:AM.Sys} (hS:Only S 5)
include hS

theorem Div_all (v1 v2:Value) (n1 d1 n2 d2:Int) (H:Heap) (hg:Grp H) (hL:H.low ≤ H.size) (h1:QV H v1 n1 d1) (h2:QV H v2 n2 d2) (z1:0 < d1) (z2:0 < d2) (b1:(n1.natAbs:Int) < 10000 ^ 20) (b2:d1 < 10000 ^ 20) (b3:(n2.natAbs:Int) < 10000 ^ 20) (b4:d2 < 10000 ^ 20) (z5:0 < n2):QOut S 84 [v1,v2] H (n1 * d2) (d1 * n2):=by
  suffices h:WCall Tryd.prog S (.fn 84) [v1,v2] H (fun v H' => Keep H H' ∧ Grp H' ∧ QV H' v (n1 * d2) (d1 * n2)) by
    obtain ⟨v,H',hr,h1,h2,h3⟩:=h; exact ⟨H',v,h1,h2,h3,hr⟩
  obtain ⟨m1,e1,⟨t1,t2,t3,t4,rfl,p1,p2⟩,y1,_,c1⟩:=h1.short z1 b1 b2;obtain ⟨m2,e2,⟨t5,t6,t7,t8,rfl,p3,p4⟩,y2,_,c2⟩:=h2.short z2 b3 b4;have y3:0 < m2:=by
    have h:=Int.mul_pos z5 y2;rw [← c2] at h;exact Int.pos_of_mul_pos_left h z2
  clear b1 b2 b3 b4 h1 h2;obtain ⟨H1,b1,hK1,hs1,zz1,hr1⟩:=box1 H [t1,t2,t3,t4] 68;obtain ⟨H2,b2,hK2,hs2,zz2,hr2⟩:=box1 H1 [t5,t6,t7,t8] 68;obtain ⟨H2r,b3,hK3,hs3,zz3,hr3⟩:=box1 H2 [.bool false,.slice none 0 0,.bool false,.slice none 0 0] 68;have ow3:Own H2r H2.size 68 [.bool false,.slice none 0 0,.bool false,.slice none 0 0]:=(b3 ▸ Own.new H2 _ _);clear zz1 zz2 zz3 hr3;have lt1:=Nat.lt_of_lt_of_le hs1 (hK2.trans hK3).size;have lt2:=Nat.lt_of_lt_of_le hs2 hK3.size;have q0:H2r.read H.size 0 2 = some [t1,t2]:=(hK2.trans hK3).read hs1 (hr1 0 2 (show 0 + 2 ≤ 4 by omega))
  have q1:H2r.read H.size 2 2 = some [t3,t4]:=(hK2.trans hK3).read hs1 (hr1 2 2 (show 2 + 2 ≤ 4 by omega))
  have q2:H2r.read H1.size 0 2 = some [t5,t6]:=hK3.read hs2 (hr2 0 2 (show 0 + 2 ≤ 4 by omega))
  have q3:H2r.read H1.size 2 2 = some [t7,t8]:=hK3.read hs2 (hr2 2 2 (show 2 + 2 ≤ 4 by omega))
  have hK02:=(hK1.trans hK2).trans hK3;have hL2:=hK02.low hL;have hg2:=hK02.grp hg;replace p1:=p1.keep hK02;replace p2:=p2.keep hK02;replace p3:=p3.keep hK02;replace p4:=p4.keep hK02;have hra:=Keep.relowS H2r;obtain ⟨xa,Haa,Ha,hKa,hLa,fa,ga,bxa⟩:=drawnBig hL2 (Times_runs hS _ _ m1 e2 _ _ (H2r.relow H2r.size) (hra.grp hg2) (Nat.le_refl _) ((p1).keep hra) ((p4).keep hra) (by omega) (by omega))
  have hga:=hKa.grp hg2;have hK2a:=hKa;have q1a:=hKa.read lt1 q1;have q2a:=hKa.read lt2 q2;have hrb:=Keep.relowS Ha;obtain ⟨xb,Hba,Hb,hKb,hLb,fb,gb,bxb⟩:=drawnBig hLa (Times_runs hS _ _ e1 m2 _ _ (Ha.relow Ha.size) (hrb.grp hga) (Nat.le_refl _) ((p2.keep hK2a).keep hrb) ((p3.keep hK2a).keep hrb) (by omega) (by omega))
  have hgb:=hKb.grp hga;have hK2b:=hKa.trans hKb;have hcr:=cross_div c1 c2;have hrz:=Keep.relowS Hb;have hob:=lowest_all hS xa xb (m1 * e2) (e1 * m2) _ _ (Hb.relow Hb.size) (hrz.grp hgb) (Nat.le_refl _) (Int.mul_pos y1 y3) ((bxa.keep hKb).keep hrz) ((bxb).keep hrz) (by omega) (by omega)
  have hob':QOut S 78 [xa,xb] (Hb.relow Hb.size) (n1 * d2) (d1 * n2):=by
    obtain ⟨Hz,vz,k1,k2,k3,k4⟩:=hob;exact ⟨Hz,vz,k1,k2,k3.as (Int.mul_pos y1 y3) hcr,k4⟩
  obtain ⟨v9,Hm,Hn,Ho,fm,fn,ps,hld,hLn,hK9,hg9,hq9⟩:=endQ (hK02.trans hK2b) (Nat.le_trans hK1.size hK2.size) hLb hg (ow3.keep hK2b) hob';have hc1:(Value.agg ⟨[t1,t2,t3,t4]⟩).cells.toList = [t1,t2,t3,t4]:=rfl;have hc2:(Value.agg ⟨[t5,t6,t7,t8]⟩).cells.toList = [t5,t6,t7,t8]:=rfl;refine Zaaw Tryd.func84 rfl (Nat.le_of_ble_eq_true rfl) (hS.no rfl _ _) ?_
  rw [Tryd.ntmps84,Tryd.results84];clear p1 p2 p3 p4 ow3 hob hob' c1 c2 hcr bxa bxb
  repeat' (first | simp only [↓Zabm,↓Zabo,↓Zabq,↓Zabp,↓Zaci,↓Zach,↓Zacb,↓Zaai,↓Zaby,↓Zabw,↓sxD_same,↓Zacn,↓bxOp_alloc,↓Zaal,↓Zaaq,↓Zaat,↓Zaan,↓Zaau,↓Zack,↓bxPut,↓Zabj,↓Zabh,↓Zacl,↓bxRes_cell,↓Zaco,↓Zaba,↓Zaaz,Zacj,Zabs,Zabf,List.map,List.nil_append,List.append_nil,↓reduceIte,Nat.reduceEqDiff,Nat.reduceLT,and_self,Zaaa,Nat.add_zero,Option.map_some, *,argF,List.getD_cons_zero,List.getD_cons_succ,alQ,qaG0,qaG1,ldBig,Nat.zero_add] | (with_reducible first | refine Zabu (by assumption) (by decide +kernel) ?_ | refine Zabt (by decide +kernel) ?_ | refine Zaca (by decide +kernel) ?_ | refine Zabv ?_))
theorem Frac_any (x y:Int) (H:Heap) (hg:Grp H) (hL:H.low ≤ H.size) (hx:-9223372036854775808 ≤ x ∧ x ≤ 9223372036854775807) (hy:0 < y) (hy2:y ≤ 9223372036854775807):QOut S 61 [.int .i64 x,.int .i64 y] H x y:=by
  suffices h:WCall Tryd.prog S (.fn 61) [.int .i64 x,.int .i64 y] H (fun v H' => Keep H H' ∧ Grp H' ∧ QV H' v x y) by
    obtain ⟨v,H',hr,h1,h2,h3⟩:=h; exact ⟨H',v,h1,h2,h3,hr⟩
  obtain ⟨H3,b3,hK3,hs3,zz3,hr3⟩:=box1 H [.bool false,.slice none 0 0,.bool false,.slice none 0 0] 68;have ow3:Own H3 H.size 68 [.bool false,.slice none 0 0,.bool false,.slice none 0 0]:=(b3 ▸ Own.new H _ _);clear zz3 hr3;have hob:=Of_runs hS x H3 (hK3.grp hg) (hK3.low hL) (by omega)
  obtain ⟨H4,vx,hK4,hg4,bx,hR4⟩:=hob;have f4:=hR4.bx;have hob5:=Of_runs hS y H4 hg4 ((hK3.trans hK4).low hL) (by omega)
  obtain ⟨H5,vy,hK5,hg5,by',hR5⟩:=hob5
  have f5:=hR5.bx;have hob6:=lowest_all hS vx vy x y 5 5 H5 hg5 (((hK3.trans hK4).trans hK5).low hL) hy (bx.keep hK5) by' (by omega) (by omega)
  obtain ⟨H6,vq,hK6,hg6,hq,hR6⟩:=hob6;have f6:=hR6.bx;have hK36:=(hK4.trans hK5).trans hK6;obtain ⟨H7,ps,hld,hq7,hkp⟩:=retQV (ow3.keep hK36) hq;have hK7:=hkp H (hK3.trans hK36) (Nat.le_refl _);have hg7:=hK7.grp hg;refine Zaaw Tryd.func61 rfl (Nat.le_of_ble_eq_true rfl) (hS.no rfl _ _) ?_
  rw [Tryd.ntmps61,Tryd.results61];clear hR4 hR5 hR6 bx by' hq ow3 hkp
  repeat' simp only [↓Zabo,↓Zabq,↓Zabp,↓Zaci,↓Zach,↓Zacn,↓Zaar,↓bxOp_alloc,↓Zaat,↓Zaau,↓Zack,↓bxPut,↓Zabj,↓Zabh,↓Zacl,↓bxRes_cell,↓Zaco,↓Zaba,↓Zaaz,Zacj,Zabs,Zabf,List.map,List.nil_append,List.append_nil,↓reduceIte,Nat.reduceEqDiff,Nat.reduceLT,and_self, *,argF,List.getD_cons_zero,List.getD_cons_succ,alQ]
end Go.Proofs.YtdfjaoncabanbaaDoor

namespace Go.Proofs.YtdfjaoncabanbaaDoor
open Go Go.AM
set_option maxRecDepth 10000

def BShape (cells:List Value):Prop:=∃ s a n c,cells = [.bool s,.slice a n c]
theorem BShape.len {cells:List Value} (h:BShape cells):cells.length = 2:=by
  obtain ⟨_,_,_,_,rfl⟩:=h; rfl
theorem BShape.empty:BShape [.bool false,.slice none 0 0]:=⟨_,_,_,_,rfl⟩
theorem BigIs.shape {H:Heap} {v:Value} {z:Int} {lo:Nat} (h:BigIs H v z lo):v = .agg ⟨v.cells.toList⟩ ∧ BShape v.cells.toList:=by
  obtain ⟨u,w,r,o,rfl,s,_⟩:=h;obtain ⟨a,c,rfl⟩:=s.v0;exact ⟨rfl,_,_,_,_,rfl⟩
theorem ne_rowB {H:Heap} {r:Nat} {e:TypeId} {cells:List Value} (h:Own H r e cells) (hs:BShape cells) {k:IntKind} {v:Value} {w:List Int} {r' o':Nat} (hx:SlI k H v w r' o') (h0:0 < w.length):r' ≠ r:=by
  intro he;subst he;have h1:=(hx.rdI h0).1;obtain ⟨_,_,_,_,rfl⟩:=hs
  by_cases hle:o' + 0 + 1 ≤ 2
  · rw [h.read (o:=o' + 0) (n:=1) hle] at h1;rcases o' with _ | _ | o';all_goals first | (simp at h1; done) | omega
  · unfold Heap.read at h1;rw [h.get] at h1;simp only [] at h1;rw [show Nat.ble (o' + 0 + 1) (List.length [_,_]) = false from Bool.eq_false_iff.2 (fun hb => hle (Nat.le_of_ble_eq_true hb))] at h1
    simp at h1
theorem storeB {H:Heap} {r:Nat} {cells:List Value} (ow:Own H r 66 cells) (hs:BShape cells) {v:Value} {z:Int} {lo:Nat} (hq:BigIs H v z lo) :
    ∃ H2,aStore Tryd.prog H 66 (.pointer (some ⟨r,0,none⟩)) v = some H2 ∧ H2.size = H.size ∧ Own H2 r 66 v.cells.toList ∧ BigIs H2 v z lo ∧ (∀ r' e' c',r' ≠ r → Own H r' e' c' → Own H2 r' e' c') ∧ (∀ H0,Keep H0 H → H0.size ≤ r → Keep H0 H2):=by
  obtain ⟨hv,s,a,n,c,hcs⟩:=hq.shape;obtain ⟨u,w,r',o',hu,s1,h3⟩:=hq;have hob:=ow.store (P:=Tryd.prog) (t:=66) (i:=Tryd.t66) (by kernel_rfl) (v:=v) (new:=[.bool s,.slice a n c]) hcs (by kernel_rfl) rfl (o:=0) (by rw [hs.len]; exact Nat.le_refl 2)
  obtain ⟨H2,h1,h2,h4,h5,h6⟩:=hob;refine ⟨H2,h1,h4,?_,⟨u,w,r',o',hu,SlE.other ow h1 h4 s1 (ne_rowB ow hs s1),h3⟩,h5,h6⟩;rw [hcs];have hl:=hs.len;obtain ⟨_,_,_,_,rfl⟩:=hs;exact h2
theorem storeBD {H0 H:Heap} {r:Nat} {cells:List Value} (hk:Keep H0 H) (hr:H0.size ≤ r) (hL:H.low ≤ H.size) (ow:Own H r 66 cells) (hs:BShape cells) {v:Value} {z:Int} {lo:Nat} (hq:BigIs H v z lo) :
    ∃ Ha Hb,aStore Tryd.prog (H.relow H.size) 66 (.pointer (some ⟨r,0,none⟩)) v = some Ha ∧ Ha.relow (Nat.min H.low Ha.low) = Hb ∧ Keep H0 Hb ∧ Hb.size = H.size ∧ Hb.low ≤ Hb.size ∧ Own Hb r 66 v.cells.toList ∧ BigIs Hb v z lo ∧ (∀ r' e' c',r' ≠ r → Own H r' e' c' → Own Hb r' e' c'):=by
  obtain ⟨Ha,h1,h2,h3,h4,h5,h6⟩:=storeB (ow.addr (l:=H.size)) hs (hq.addr0 (l:=H.size));refine ⟨Ha,_,h1,rfl,Keep.lower hk (h6 H0 (hk.trans (Keep.relowS _)) hr),h2,?_,h3.addr,h4.addr0,fun r' e' c' hne ho => (h5 r' e' c' hne ho.addr).addr⟩
  show Nat.min H.low Ha.low ≤ Ha.size;rw [h2];exact Nat.le_trans (Nat.min_le_left _ _) hL
theorem own_ldB {H:Heap} {r:Nat} {v:Value} {z:Int} {lo:Nat} (h:Own H r 66 v.cells.toList) (hq:BigIs H v z lo):aLoad Tryd.prog H 66 (.pointer (some ⟨r,0,none⟩)) = some v:=by
  obtain ⟨hv,hs⟩:=hq.shape;have hl:=hs.len;rw [ldBig,h.read (o:=0) (n:=2) (by omega),List.drop_zero,← hl,List.take_length,Option.map_some,← hv]
theorem QV.ofBig {H:Heap} {s1 s2 a1 a2:Value} {n:Int} {l1 l2:Nat} (h1:BigIs H (.agg ⟨[s1,a1]⟩) n l1) (h2:BigIs H (.agg ⟨[s2,a2]⟩) 1 l2) (k1:l1 ≤ 400) (k2:l2 ≤ 400):QV H (.agg ⟨[s1,a1,s2,a2]⟩) n 1:=
  ⟨n,1,⟨s1,a1,s2,a2,rfl,h1.mono0 k1,h2.mono0 k2⟩,by decide,by simp,by simp⟩
variable {S:AM.Sys} (hS:Only S 5)
include hS

theorem rOver_runs (v:Value) (z d:Int) (lo:Nat) (H:Heap) (hg:Grp H) (hL:H.low ≤ H.size) (hv:BigIs H v z lo) (hlo:lo ≤ 400) (hz:(z.natAbs:Int) < 10000 ^ 20) (hd:0 < d) (hd2:d ≤ 2199023255552):QOut S 66 [v,.int .i64 d] H z d:=by
  suffices h:WCall Tryd.prog S (.fn 66) [v,.int .i64 d] H (fun v H' => Keep H H' ∧ Grp H' ∧ QV H' v z d) by
    obtain ⟨v,H',hr,h1,h2,h3⟩:=h; exact ⟨H',v,h1,h2,h3,hr⟩
  obtain ⟨hv1,s,a,n,c,hcs⟩:=hv.shape;rw [hcs] at hv1;subst hv1;obtain ⟨H1,e1,k1,z1,-,r1⟩:=box1 H [.bool s,.slice a n c] 66;have rd1:H1.read H.size 0 2 = some [.bool s,.slice a n c]:=r1 0 2 (Nat.le_refl 2);obtain ⟨H2,e2,k2,z2,-,-⟩:=box1 H1 [.bool false,.slice none 0 0,.bool false,.slice none 0 0] 68;have ow2:Own H2 H1.size 68 [.bool false,.slice none 0 0,.bool false,.slice none 0 0]:=e2 ▸ Own.new H1 _ _;have k02:=k1.trans k2;have g2:=k02.grp hg;have l2:=k02.low hL;have rd2:=k2.read z1 rd1;have hb:(10000:Int) ^ 20 = 100000000000000000000000000000000000000000000000000000000000000000000000000000000:=by decide
  obtain ⟨v3,H3a,H3,k3,l3,f3,d3,b3⟩:=drawnBig l2 (Of_runs hS 1 (H2.relow H2.size) ((Keep.relowS H2).grp g2) (Nat.le_refl _) (by decide))
  obtain ⟨hv3,s3,a3,n3,c3,hcs3⟩:=b3.shape;rw [hcs3] at hv3;subst hv3;have g3:=k3.grp g2;obtain ⟨v4,H4a,H4,k4,l4,f4,d4,q4⟩:=drawnQ l3 (Frac_any hS d 1 (H3.relow H3.size) ((Keep.relowS H3).grp g3) (Nat.le_refl _) (by omega) (by decide) (by decide))
  have g4:=k4.grp g3;have k24:=k3.trans k4;have qa:QV H4 (.agg ⟨[.bool s,.slice a n c,.bool s3,.slice a3 n3 c3]⟩) z 1:=QV.ofBig ((hv.keep k02).keep k24) (b3.keep k4) hlo (by decide)
  have hob:QOut S 84 [.agg ⟨[.bool s,.slice a n c,.bool s3,.slice a3 n3 c3]⟩,v4] (H4.relow H4.size) z d:=by
    have h:=Div_all hS _ v4 z 1 d 1 (H4.relow H4.size) ((Keep.relowS H4).grp g4) (Nat.le_refl _) qa.addr q4.addr (by decide) (by decide) hz (by rw [hb]; decide) (by rw [hb]; omega) (by rw [hb]; decide) hd
    rwa [Int.mul_one,Int.one_mul] at h
  obtain ⟨v9,Hm,Hn,Ho,fm,fn,ps,hld,hLn,hK9,hg9,hq9⟩:=endQ (k02.trans k24) k1.size l4 hg (ow2.keep k24) hob;have hc1:(Value.agg ⟨[.bool s,.slice a n c]⟩).cells.toList = [.bool s,.slice a n c]:=rfl;refine Zaaw Tryd.func66 rfl (Nat.le_of_ble_eq_true rfl) (hS.no rfl _ _) ?_
  rw [Tryd.ntmps66,Tryd.results66];clear hv qa q4 b3 ow2 hob r1 hcs hcs3 hz hb
  repeat' (first | simp only [↓Zabm,↓Zabo,↓Zabq,↓Zabp,↓Zaci,↓Zach,↓Zacb,↓Zaai,↓Zabz,↓sxDL_build,↓Zaby,↓sxD_same,↓Zacn,↓Zaar,↓bxOp_alloc,↓Zaal,↓bxOp_build,↓Zaaq,↓Zaat,↓Zaau,↓Zack,↓bxPut,↓Zabj,↓Zabh,↓Zacl,↓bxRes_cell,↓Zaco,↓Zaba,↓Zaay,↓Zaaz,Zacj,Zabs,Zabf,List.map,List.nil_append,List.append_nil,↓reduceIte,Nat.reduceEqDiff,Nat.reduceLT,and_self,Zaaa,Option.map_some, *,argF,List.getD_cons_zero,List.getD_cons_succ,alQ,bdQ,ldBig] | (with_reducible first | refine Zabu (by assumption) (by decide +kernel) ?_ | refine Zabt (by decide +kernel) ?_ | refine Zaca (by decide +kernel) ?_ | refine Zabv ?_))

end Go.Proofs.YtdfjaoncabanbaaDoor
