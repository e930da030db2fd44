/- The reference's lists of fractions: whole numbers, halves, differences, the sum, the lesser of two. -/
import Derived.Test.YtpeoleimmabceaaGreatBD2
set_option linter.unusedVariables false
set_option linter.unusedSimpArgs false
set_option linter.unusedSectionVars false

namespace Go.Proofs.YtpeoleimmabceaaGreat
open Go Go.AM
set_option maxRecDepth 10000

theorem big20:(10000:Int) ^ 20 = 100000000000000000000000000000000000000000000000000000000000000000000000000000000:=by decide +kernel
def QsOut (S:AM.Sys) (f:FuncId) (args:List Value) (H:Heap) (D:Int) (ws:List Int):Prop:=∃ H' v r o,Keep H H' ∧ Grp H' ∧ SlE (qdE D) H' v ws r o ∧ Runs Tryz.prog S (.fn f) args H v H'
theorem qsout_of {S:AM.Sys} {f:FuncId} {args:List Value} {H:Heap} {D:Int} {ws:List Int} (h:WCall Tryz.prog S (.fn f) args H (fun u H' => ∃ r o,Keep H H' ∧ Grp H' ∧ SlE (qdE D) H' u ws r o)):QsOut S f args H D ws:=by
  obtain ⟨u,H',hr,r,o,h1,h2,h3⟩:=h; exact ⟨H',u,r,o,h1,h2,h3,hr⟩
theorem take_snoc {α:Type} {l:List α} {k:Nat} {d:α} (h:k < l.length):l.take (k + 1) = l.take k ++ [l.getD k d]:=by
  rw [List.take_add_one,List.getElem?_eq_getElem h,List.getD_eq_getElem?_getD,List.getElem?_eq_getElem h]; rfl
def Sml (x:Int):Prop:=-1000000000000000 ≤ x ∧ x ≤ 1000000000000000
theorem Sml.lt {x:Int} (h:Sml x):(x.natAbs:Int) < 10000 ^ 20:=by rw [big20]; obtain ⟨h1,h2⟩:=h; omega
theorem Sml.lt' {x:Int} (h:Sml x):x < 10000 ^ 20:=by rw [big20]; obtain ⟨h1,h2⟩:=h; omega

variable {S:AM.Sys} (hS:Only S 5)
include hS

theorem rWhole_runs (v:Value) (c:List Int) (r o:Nat) (H:Heap) (hg:Grp H) (hL:H.low ≤ H.size) (hl:SlI .i64 H v c r o) (hs:c.length ≤ 1000):QsOut S 24 [v] H 1 c:=by
  obtain ⟨a,cp,rfl⟩:=hl.v0;refine qsout_of ?_
  refine Zaaw Tryz.func24 rfl (Nat.le_of_ble_eq_true rfl) (hS.no rfl _ _) ?_
  rw [Tryz.ntmps24,Tryz.results24]
  repeat' (first | simp only [↓Zabp,↓Zabr,↓Zaaf,↓Zabm,↓Zabq,↓Zacj,↓Zaci,↓Zaco,↓Zaaq,↓Zaaj,↓bxPut,↓Zabk,↓Zabi,↓Zacm,↓Zacn,↓Zaba,↓Zaay,Zabg,Nat.reduceLT, *])
  refine sxL_of (fun m ρ X => ∃ (k:Nat) (lv:Value),m = c.length - k ∧ k ≤ c.length ∧ Keep H X ∧ Grp X ∧ LstG (qdE 1) 53 H.size X lv (c.take k) ∧ ρ 0 = .slice a c.length cp ∧ ρ 3 = lv ∧ ρ 4 = .int .i64 (k:Int))
    ⟨0,.slice none 0 0,rfl,Nat.zero_le _,Keep.refl _,hg,LstG.nil,rfl,rfl,rfl⟩ ?_
  rintro m ρ X ⟨k,lv,rfl,hk,kX,gX,hlst,e0,e3,e4⟩
  by_cases hlt:k < c.length
  · have hlt':(k:Int) < (c.length:Int):=by omega
    have hw:=wrap_succ hlt hl.ml;have hix:=SlI_ix (hl.keep kX) hlt;have hrd:=(hl.keep kX).rdI hlt;obtain ⟨hrd,hb1,hb2⟩:=hrd;have m1:IntKind.i64.min = -9223372036854775808:=by decide
    have m2:IntKind.i64.max = 9223372036854775807:=by decide
    have hob:=Frac_any hS (c.getD k 0) 1 X gX (kX.low hL) ⟨by omega,by omega⟩ (by omega) (by omega)
    obtain ⟨X1,vx,k1,g1,q1,R1⟩:=hob;have f1:=R1.bx;have hln:(c.take k).length = k:=by rw [List.length_take]; omega
    have hob:=pushQ g1 (hlst.keep k1) (Nat.le_trans kX.size k1.size) q1 (by omega)
    obtain ⟨X2,v2,X3,b2,a2,l3,gr⟩:=hob;rw [← take_snoc hlt] at l3;have kX3:=gr.base H hg (kX.trans k1) (Nat.le_refl _);have gX3:=gr.grp g1;clear hlst kX gX k1 g1 q1 R1 gr hb1 hb2 hl
    repeat' (first | simp only [↓Zabs,↓Zabp,↓Zabr,↓Zaae,↓Zabm,↓Zabo,↓Zacj,↓Zaci,↓Zaco,↓Zaaq,↓Zaaj,↓Zaal,↓Zaap,↓Zaak,↓Zaan,↓Zaat,↓Zaao,↓Zaai,↓bxPut,↓Zabk,↓Zabj,↓Zaad,↓Zaac,↓Zabf,↓Zabe,↓Zacp,↓Zaba,↓Zaay,↓Zaaz,Zack,Zaab,Zabd,Zabt,Zach,List.map_cons,List.map_nil,List.nil_append,List.append_nil,↓reduceIte,Nat.reduceEqDiff,Nat.reduceLT,dec_T,true_and,one1,Option.bind_some, *,lenI,ldI,one1])
    exact ⟨c.length - (k + 1),by omega,k + 1,v2,rfl,by omega,l3,rfl,rfl⟩
  have hlt':¬ (k:Int) < (c.length:Int):=by omega
  have hke:k = c.length:=Nat.le_antisymm hk (Nat.not_lt.1 hlt);have hml:=hl.ml;rw [hke,List.take_length] at hlst;have hp:=hlst.sl hml;obtain ⟨r',hp,_⟩:=hp;have hpost:∃ r o,Keep H X ∧ Grp X ∧ SlE (qdE 1) X lv c r o:=⟨r',0,kX,gX,hp⟩;clear hlst hp hke hlt hl kX gX
  repeat' (first | simp only [↓Zabs,↓Zabp,↓Zabr,↓Zaae,↓Zabm,↓Zabo,↓Zacj,↓Zaci,↓Zaco,↓Zaaq,↓Zaaj,↓Zaal,↓Zaap,↓Zaak,↓Zaan,↓Zaat,↓Zaao,↓Zaai,↓bxPut,↓Zabk,↓Zabj,↓Zaad,↓Zaac,↓Zabf,↓Zabe,↓Zacp,↓Zaba,↓Zaay,↓Zaaz,Zack,Zaab,Zabd,Zabt,Zacg,List.nil_append,↓reduceIte,Nat.reduceEqDiff,Nat.reduceLT,dec_F, *,lenI])

theorem subQD (v1 v2:Value) (x y D:Int) (H:Heap) (hg:Grp H) (hL:H.low ≤ H.size) (h1:QV H v1 x D) (h2:QV H v2 y D) (hD:0 < D ∧ D ≤ 1000000000000000) (bx:Sml x) (by':Sml y) :
    ∃ v H4 H5,Keep H H5 ∧ H5.low ≤ H5.size ∧ (∀ (K:Value → Heap → Prop) (b:Blk K),sxCallB Tryz.prog S (.fn 26) [v1,v2] (H.relow H.size) K b = K v H4) ∧ (∀ (all:List Oper) (n:Nat) (k:Heap → Prop),sxD all n H H4 k = k H5) ∧ QV H5 v (x - y) D:=by
  have hr:=Keep.relowS H;have hDs:Sml D:=⟨by omega,hD.2⟩
  have hob:=drawnQ hL (Sub_all hS v1 v2 x D y D (H.relow H.size) (hr.grp hg) (Nat.le_refl _) h1.addr h2.addr hD.1 hD.1 bx.lt hDs.lt' by'.lt hDs.lt')
  obtain ⟨v,H4,H5,k,l,f,fd,q⟩:=hob;exact ⟨v,H4,H5,k,l,f,fd,q.as (Int.mul_pos hD.1 hD.1) (by rw [← Int.sub_mul,Int.mul_assoc])⟩
theorem addQD (v1 v2:Value) (x y D:Int) (H:Heap) (hg:Grp H) (hL:H.low ≤ H.size) (h1:QV H v1 x D) (h2:QV H v2 y D) (hD:0 < D ∧ D ≤ 1000000000000000) (bx:Sml x) (by':Sml y) :
    ∃ v H4 H5,Keep H H5 ∧ H5.low ≤ H5.size ∧ (∀ (K:Value → Heap → Prop) (b:Blk K),sxCallB Tryz.prog S (.fn 62) [v1,v2] (H.relow H.size) K b = K v H4) ∧ (∀ (all:List Oper) (n:Nat) (k:Heap → Prop),sxD all n H H4 k = k H5) ∧ QV H5 v (x + y) D:=by
  have hr:=Keep.relowS H;have hDs:Sml D:=⟨by omega,hD.2⟩
  have hob:=drawnQ hL (Add_all hS v1 v2 x D y D (H.relow H.size) (hr.grp hg) (Nat.le_refl _) h1.addr h2.addr hD.1 hD.1 bx.lt hDs.lt' by'.lt hDs.lt')
  obtain ⟨v,H4,H5,k,l,f,fd,q⟩:=hob;exact ⟨v,H4,H5,k,l,f,fd,q.as (Int.mul_pos hD.1 hD.1) (by rw [← Int.add_mul,Int.mul_assoc])⟩

theorem rLess_runs (v1 v2:Value) (xs ys:List Int) (D:Int) (r1 o1 r2 o2:Nat) (H:Heap) (hg:Grp H) (hL:H.low ≤ H.size) (h1:SlE (qdE D) H v1 xs r1 o1) (h2:SlE (qdE D) H v2 ys r2 o2) (hs:xs.length ≤ 1000) (hxy:ys.length = xs.length) (hD:0 < D ∧ D ≤ 1000000000000000)
    (bx:∀ i,i < xs.length → Sml (xs.getD i 0) ∧ Sml (ys.getD i 0)):QsOut S 28 [v1,v2] H D ((List.range xs.length).map fun i => xs.getD i 0 - ys.getD i 0):=by
  obtain ⟨a,cp,rfl⟩:=h1.v0;obtain ⟨a2,cp2,rfl⟩:=h2.v0;obtain ⟨zs,hzs⟩:∃ zs,zs = (List.range xs.length).map fun i => xs.getD i 0 - ys.getD i 0:=⟨_,rfl⟩
  have hzl1:zs.length = xs.length:=by rw [hzs]; simp
  have hzl:zs.length ≤ xs.length:=by omega
  have hzl2:xs.length ≤ zs.length:=by omega
  clear hzl1;have hzat:∀ i,i < xs.length → zs.getD i 0 = xs.getD i 0 - ys.getD i 0:=fun i hi => by
    rw [hzs,List.getD_eq_getElem?_getD,List.getElem?_map,List.getElem?_range hi]; rfl
  rw [← hzs];clear hzs;have hxy1:ys.length ≤ xs.length:=by omega
  have hxy2:xs.length ≤ ys.length:=by omega
  clear hxy;refine qsout_of ?_
  refine Zaaw Tryz.func28 rfl (Nat.le_of_ble_eq_true rfl) (hS.no rfl _ _) ?_
  rw [Tryz.ntmps28,Tryz.results28]
  repeat' (first | simp only [↓Zabp,↓Zabr,↓Zaaf,↓Zabm,↓Zabq,↓Zacj,↓Zaci,↓Zaco,↓Zaaq,↓Zaaj,↓bxPut,↓Zabk,↓Zabi,↓Zacm,↓Zacn,↓Zaba,↓Zaay,Zabg,Nat.reduceLT, *])
  refine sxL_of (fun m ρ X => ∃ (k:Nat) (lv:Value),m = xs.length - k ∧ k ≤ xs.length ∧ Keep H X ∧ Grp X ∧ LstG (qdE D) 53 H.size X lv (zs.take k) ∧ ρ 0 = .slice a xs.length cp ∧ ρ 1 = .slice a2 ys.length cp2 ∧ ρ 5 = lv ∧ ρ 6 = .int .i64 (k:Int))
    ⟨0,.slice none 0 0,rfl,Nat.zero_le _,Keep.refl _,hg,LstG.nil,rfl,rfl,rfl,rfl⟩ ?_
  rintro m ρ X ⟨k,lv,rfl,hk,kX,gX,hlst,e0,e1,e5,e6⟩;have hLX:=kX.low hL
  by_cases hlt:k < xs.length
  · have hlt':(k:Int) < (xs.length:Int):=by omega
    have hw:=wrap_succ hlt h1.ml;have hob:=qd_at (h1.keep kX) hlt;obtain ⟨x,p,ix1,ld1,qx,_⟩:=hob;have hob:=qd_at (h2.keep kX) (i:=k) (by omega)
    obtain ⟨y,p2,ix2,ld2,qy,_⟩:=hob;have hbb:=bx k hlt;have hob:=subQD hS x y _ _ D X gX hLX qx qy hD hbb.1 hbb.2;obtain ⟨z,Xa,Xb,kb,lb,f1,fd1,qz⟩:=hob;rw [← hzat k hlt] at qz;have hln:(zs.take k).length = k:=by rw [List.length_take]; omega
    have hob:=pushQD (kb.grp gX) lb (hlst.keep kb) (Nat.le_trans kX.size kb.size) qz (by omega)
    obtain ⟨X1,X2,w2,X3,X4,bs,fd2,l2,ap,rl,l4,base,g4,ge4,low4⟩:=hob;rw [← take_snoc (by omega)] at l4
    have kX4:=base H hg (kX.trans kb) (Nat.le_refl _);clear hlst kX gX kb qz qx qy base ge4 h1 h2 hbb hzat bx
    repeat' (first | simp only [↓Zabs,↓Zabn,↓Zabp,↓Zabr,↓Zaae,↓Zabm,↓Zabo,↓Zacj,↓Zaci,↓Zacd,↓Zaag,↓Zacb,↓sxDL_assign,↓sxDL_buildSlice,↓Zaca,↓Zabz,↓sxD_same,↓Zaco,↓Zaaq,↓Zaaj,↓Zaal,↓Zaap,↓Zaak,↓Zaan,↓Zaat,↓Zaao,↓Zaai,↓bxPut,↓Zabk,↓Zabj,↓Zaad,↓Zaac,↓Zabf,↓Zabe,↓Zacp,↓Zaba,↓Zaay,↓Zaaz,Zack,Zaab,Zabd,Zabt,Zach,List.map_cons,List.map_nil,List.nil_append,List.append_nil,↓reduceIte,Nat.reduceEqDiff,Nat.reduceLT,dec_T,true_and,Zaaa, *,lenQ] | (with_reducible first | refine Zabv (by assumption) (by decide +kernel) ?_ | refine Zabu (by decide +kernel) ?_ | refine Zacc (by decide +kernel) ?_ | refine Zabx ?_))
    exact ⟨xs.length - (k + 1),by omega,k + 1,w2,rfl,by omega,l4,rfl,rfl⟩
  have hlt':¬ (k:Int) < (xs.length:Int):=by omega
  have hke:k = xs.length:=Nat.le_antisymm hk (Nat.not_lt.1 hlt);rw [hke,List.take_of_length_le (by omega)] at hlst
  have hml:=h1.ml;have hp:=hlst.sl (by omega)
  obtain ⟨r',hp,_⟩:=hp;have hpost:∃ r o,Keep H X ∧ Grp X ∧ SlE (qdE D) X lv zs r o:=⟨r',0,kX,gX,hp⟩;clear hlst hp hke hlt h1 h2 kX gX hzat bx
  repeat' (first | simp only [↓Zabs,↓Zabn,↓Zabp,↓Zabr,↓Zaae,↓Zabm,↓Zabo,↓Zacj,↓Zaci,↓Zacd,↓Zaag,↓Zacb,↓sxDL_assign,↓sxDL_buildSlice,↓Zaca,↓Zabz,↓Zaco,↓Zaaq,↓Zaaj,↓Zaal,↓Zaap,↓Zaak,↓Zaan,↓Zaat,↓Zaao,↓Zaai,↓bxPut,↓Zabk,↓Zabj,↓Zaad,↓Zaac,↓Zabf,↓Zabe,↓Zacp,↓Zaba,↓Zaay,↓Zaaz,Zack,Zaab,Zabd,Zabt,Zacg,List.nil_append,↓reduceIte,Nat.reduceEqDiff,Nat.reduceLT,dec_F, *,lenQ] | (with_reducible first | refine Zabv (by assumption) (by decide +kernel) ?_ | refine Zabu (by decide +kernel) ?_ | refine Zacc (by decide +kernel) ?_ | refine Zabx ?_))

theorem rHalves_runs (v1:Value) (xs:List Int) (r1 o1:Nat) (H:Heap) (hg:Grp H) (hL:H.low ≤ H.size) (h1:SlE (qdE 1) H v1 xs r1 o1) (hs:xs.length ≤ 1000) (bx:∀ i,i < xs.length → Sml (xs.getD i 0)):QsOut S 31 [v1] H 2 xs:=by
  obtain ⟨a,cp,rfl⟩:=h1.v0;refine qsout_of ?_
  refine Zaaw Tryz.func31 rfl (Nat.le_of_ble_eq_true rfl) (hS.no rfl _ _) ?_
  rw [Tryz.ntmps31,Tryz.results31]
  repeat' (first | simp only [↓Zabp,↓Zabr,↓Zaaf,↓Zabm,↓Zabq,↓Zacj,↓Zaci,↓Zaco,↓Zaaq,↓Zaaj,↓bxPut,↓Zabk,↓Zabi,↓Zacm,↓Zacn,↓Zaba,↓Zaay,Zabg,Nat.reduceLT, *])
  refine sxL_of (fun m ρ X => ∃ (k:Nat) (lv:Value),m = xs.length - k ∧ k ≤ xs.length ∧ Keep H X ∧ Grp X ∧ LstG (qdE 2) 53 H.size X lv (xs.take k) ∧ ρ 0 = .slice a xs.length cp ∧ ρ 3 = lv ∧ ρ 4 = .int .i64 (k:Int))
    ⟨0,.slice none 0 0,rfl,Nat.zero_le _,Keep.refl _,hg,LstG.nil,rfl,rfl,rfl⟩ ?_
  rintro m ρ X ⟨k,lv,rfl,hk,kX,gX,hlst,e0,e3,e4⟩;have hLX:=kX.low hL
  by_cases hlt:k < xs.length
  · have hlt':(k:Int) < (xs.length:Int):=by omega
    have hw:=wrap_succ hlt h1.ml;have hob:=qd_at (h1.keep kX) hlt;obtain ⟨x,p,ix1,ld1,qx,_⟩:=hob;have hr:=Keep.relowS X;have hob:=drawnQ hLX (Frac_any hS 1 2 (X.relow X.size) (hr.grp gX) (Nat.le_refl _) (by omega) (by omega) (by omega))
    obtain ⟨y,Xa,Xb,kb,lb,f1,fd1,qy⟩:=hob;have hr2:=Keep.relowS Xb;have hbb:=bx k hlt;have s1:Sml 1:=⟨by omega,by omega⟩
    have s2:Sml 2:=⟨by omega,by omega⟩
    have hob:=drawnQ lb (Mul_all hS x y _ 1 1 2 (Xb.relow Xb.size) (hr2.grp (kb.grp gX)) (Nat.le_refl _) (qx.keep kb).addr qy.addr (by omega) (by omega) hbb.lt s1.lt' s1.lt s2.lt')
    obtain ⟨z,Xc,Xd,kd,ld,f2,fd2,qz⟩:=hob;rw [Int.mul_one,Int.one_mul] at qz;have hln:(xs.take k).length = k:=by rw [List.length_take]; omega
    have hob:=pushQD (kd.grp (kb.grp gX)) ld ((hlst.keep kb).keep kd) (Nat.le_trans kX.size (Nat.le_trans kb.size kd.size)) qz (by omega)
    obtain ⟨X1,X2,w2,X3,X4,bs,fd3,l2,ap,rl,l4,base,g4,ge4,low4⟩:=hob;rw [← take_snoc (by omega)] at l4
    have kX4:=base H hg ((kX.trans kb).trans kd) (Nat.le_refl _);clear hlst kX gX kb kd qz qx qy base ge4 h1 hbb bx hr hr2 s1 s2
    repeat' (first | simp only [↓Zabs,↓Zabn,↓Zabp,↓Zabr,↓Zaae,↓Zabm,↓Zabo,↓Zacj,↓Zaci,↓Zacd,↓Zaag,↓Zacb,↓sxDL_assign,↓sxDL_buildSlice,↓Zaca,↓Zabz,↓sxD_same,↓Zaco,↓Zaaq,↓Zaaj,↓Zaal,↓Zaap,↓Zaak,↓Zaan,↓Zaat,↓Zaao,↓Zaai,↓bxPut,↓Zabk,↓Zabj,↓Zaad,↓Zaac,↓Zabf,↓Zabe,↓Zacp,↓Zaba,↓Zaay,↓Zaaz,Zack,Zaab,Zabd,Zabt,Zach,List.map_cons,List.map_nil,List.nil_append,List.append_nil,↓reduceIte,Nat.reduceEqDiff,Nat.reduceLT,dec_T,true_and,Zaaa, *,lenQ] | (with_reducible first | refine Zabv (by assumption) (by decide +kernel) ?_ | refine Zabu (by decide +kernel) ?_ | refine Zacc (by decide +kernel) ?_ | refine Zabx ?_))
    exact ⟨xs.length - (k + 1),by omega,k + 1,w2,rfl,by omega,l4,rfl,rfl⟩
  have hlt':¬ (k:Int) < (xs.length:Int):=by omega
  have hke:k = xs.length:=Nat.le_antisymm hk (Nat.not_lt.1 hlt);rw [hke,List.take_of_length_le (Nat.le_refl _)] at hlst;have hml:=h1.ml;have hp:=hlst.sl (by omega)
  obtain ⟨r',hp,_⟩:=hp;have hpost:∃ r o,Keep H X ∧ Grp X ∧ SlE (qdE 2) X lv xs r o:=⟨r',0,kX,gX,hp⟩;clear hlst hp hke hlt h1 kX gX bx
  repeat' (first | simp only [↓Zabs,↓Zabn,↓Zabp,↓Zabr,↓Zaae,↓Zabm,↓Zabo,↓Zacj,↓Zaci,↓Zacd,↓Zaag,↓Zacb,↓sxDL_assign,↓sxDL_buildSlice,↓Zaca,↓Zabz,↓Zaco,↓Zaaq,↓Zaaj,↓Zaal,↓Zaap,↓Zaak,↓Zaan,↓Zaat,↓Zaao,↓Zaai,↓bxPut,↓Zabk,↓Zabj,↓Zaad,↓Zaac,↓Zabf,↓Zabe,↓Zacp,↓Zaba,↓Zaay,↓Zaaz,Zack,Zaab,Zabd,Zabt,Zacg,List.nil_append,↓reduceIte,Nat.reduceEqDiff,Nat.reduceLT,dec_F, *,lenQ] | (with_reducible first | refine Zabv (by assumption) (by decide +kernel) ?_ | refine Zabu (by decide +kernel) ?_ | refine Zacc (by decide +kernel) ?_ | refine Zabx ?_))

theorem rTotal_runs (v1:Value) (xs:List Int) (D:Int) (r1 o1:Nat) (H:Heap) (hg:Grp H) (hL:H.low ≤ H.size) (h1:SlE (qdE D) H v1 xs r1 o1) (hs:xs.length ≤ 1000) (hD:0 < D ∧ D ≤ 1000000000000000) (bx:∀ k,k ≤ xs.length → Sml (xs.take k).sum) (bx2:∀ i,i < xs.length → Sml (xs.getD i 0)):QOut S 25 [v1] H xs.sum D:=by
  suffices h:WCall Tryz.prog S (.fn 25) [v1] H (fun v H' => Keep H H' ∧ Grp H' ∧ QV H' v xs.sum D) by
    obtain ⟨v,H',hr,h1,h2,h3⟩:=h; exact ⟨H',v,h1,h2,h3,hr⟩
  obtain ⟨a,cp,rfl⟩:=h1.v0;obtain ⟨H1,b1,hK1,hs1,zz1,-⟩:=box1 H [.bool false,.slice none 0 0,.bool false,.slice none 0 0] 53;have ow1:Own H1 H.size 53 [.bool false,.slice none 0 0,.bool false,.slice none 0 0]:=(b1 ▸ Own.new H _ _);have hob:=Frac_any hS 0 1 H1 (hK1.grp hg) (hK1.low hL) (by omega) (by omega) (by omega)
  obtain ⟨H2,vx,k2,g2,q2,R2⟩:=hob;have f2:=R2.bx;obtain ⟨H3,b3,hK3,hs3,zz3,-⟩:=box1 H2 [.bool false,.slice none 0 0,.bool false,.slice none 0 0] 53;have ow3:Own H3 H2.size 53 [.bool false,.slice none 0 0,.bool false,.slice none 0 0]:=(b3 ▸ Own.new H2 _ _);have kk3:=(hK1.trans k2).trans hK3;have hob:=storeQ ow3 QShape.empty (q2.keep hK3);obtain ⟨H4,st4,z4,ow4,qk4,ot4,bs4⟩:=hob;have hne:H.size ≠ H2.size:=by have:=hK1.size; have:=k2.size; omega
  have ow14:=ot4 _ _ _ hne ((ow1.keep k2).keep hK3);have kk4:=bs4 H kk3 (by have:=hK1.size; have:=k2.size; omega)
  have q4:=(qk4 _ _ _ (q2.keep hK3)).as (n2:=0) (d2:=D) (by omega) (by simp)
  have hle2:H.size ≤ H2.size:=by have:=hK1.size; have:=k2.size; omega
  refine Zaaw Tryz.func25 rfl (Nat.le_of_ble_eq_true rfl) (hS.no rfl _ _) ?_
  rw [Tryz.ntmps25,Tryz.results25];clear hK1 hs1 zz1 R2 hK3 hs3 zz3 q2 g2 k2 ow1 ow3 qk4 ot4 bs4 kk3 z4
  repeat' (first | simp only [↓Zabp,↓Zabr,↓Zaaf,↓Zabm,↓Zabq,↓Zacj,↓Zaci,↓Zaco,↓Zaaj,↓Zaah,↓Zaap,↓Zaas,↓Zaat,↓Zacl,↓bxPut,↓Zabk,↓Zabi,↓Zacm,↓Zaau,↓Zacp,↓Zaba,↓Zaay,↓Zaaz,Zack,Zabt,Zabg,List.map_cons,List.map_nil,List.nil_append,List.append_nil,↓reduceIte,Nat.reduceEqDiff,Nat.reduceLT, *,alQ])
  refine sxL_of (fun m ρ X => ∃ (k:Nat) (vs:Value),m = xs.length - k ∧ k ≤ xs.length ∧ Keep H X ∧ Own X H.size 53 [.bool false,.slice none 0 0,.bool false,.slice none 0 0] ∧ Own X H2.size 53 vs.cells.toList ∧ QV X vs (xs.take k).sum D ∧ ρ 0 = .slice a xs.length cp ∧ ρ 2 = .pointer (some ⟨H.size,0,none⟩) ∧ ρ 3 = .pointer (some ⟨H2.size,0,none⟩) ∧ ρ 4 = .int .i64 (k:Int))
    ⟨0,vx,rfl,Nat.zero_le _,kk4,ow14,ow4,q4,rfl,rfl,rfl,rfl⟩ ?_
  clear kk4 ow14 ow4 q4 st4 f2 b1 b3;rintro m ρ X ⟨k,vs,rfl,hk,kX,ow1,ow3,qs,e0,e2,e3,e4⟩;have hLX:=kX.low hL;have gX:=kX.grp hg;have lds:=own_ldQ ow3 qs
  by_cases hlt:k < xs.length
  · have hlt':(k:Int) < (xs.length:Int):=by omega
    have hw:=wrap_succ hlt h1.ml;have hob:=qd_at (h1.keep kX) hlt;obtain ⟨x,p,ix1,ld1,qx,_⟩:=hob;have hob:=addQD hS vs x _ _ D X gX hLX qs qx hD (bx k hk) (bx2 k hlt);obtain ⟨y,Xa,Xb,kb,lb,f1,fd1,qy⟩:=hob;have hsum:(xs.take k).sum + xs.getD k 0 = (xs.take (k + 1)).sum:=by rw [take_snoc (d:=0) hlt,List.sum_append]; simp
    rw [hsum] at qy;have hob:=storeQD (kX.trans kb) hle2 lb (ow3.keep kb) qs.shape.2 qy;obtain ⟨Xc,Xd,st,rl,kd,_,ld,ow3',qk,ot⟩:=hob;have ow1':=ot _ _ _ hne (ow1.keep kb);have qy':=qk _ _ _ qy;clear kX ow1 ow3 qs gX hsum qx qy qk ot kb h1 bx bx2
    repeat' (first | simp only [↓Zabs,↓Zabn,↓Zabp,↓Zabr,↓Zaae,↓Zabm,↓Zabo,↓Zacj,↓Zaci,↓Zacd,↓Zaag,↓Zacb,↓Zaca,↓Zabz,↓sxD_same,↓Zaco,↓Zaaq,↓Zaaj,↓Zaap,↓Zaas,↓Zaak,↓Zaan,↓Zaat,↓Zaao,↓Zacl,↓bxPut,↓Zabk,↓Zabj,↓Zaad,↓Zaac,↓Zabf,↓Zabe,↓Zacp,↓Zaba,↓Zaay,↓Zaaz,Zack,Zaab,Zabd,Zabt,Zach,List.map_cons,List.map_nil,List.nil_append,List.append_nil,↓reduceIte,Nat.reduceEqDiff,Nat.reduceLT,dec_T,true_and,Zaaa, *,lenQ] | (with_reducible first | refine Zabv (by assumption) (by decide +kernel) ?_ | refine Zabu (by decide +kernel) ?_ | refine Zacc (by decide +kernel) ?_ | refine Zabx ?_))
    exact ⟨xs.length - (k + 1),by omega,k + 1,y,rfl,by omega,ow3',qy',rfl⟩
  have hlt':¬ (k:Int) < (xs.length:Int):=by omega
  have hke:k = xs.length:=Nat.le_antisymm hk (Nat.not_lt.1 hlt);rw [hke,List.take_of_length_le (Nat.le_refl _)] at qs;have hob:=retQV ow1 qs;obtain ⟨X7,ps,hld,hq7,hkp⟩:=hob;have hK7:=hkp H kX (Nat.le_refl _);have hg7:=hK7.grp hg;clear hke hlt h1 kX gX bx bx2 ow1 ow3 qs hkp
  repeat' (first | simp only [↓Zabs,↓Zabn,↓Zabp,↓Zabr,↓Zaae,↓Zabm,↓Zabo,↓Zacj,↓Zaci,↓Zacd,↓Zaag,↓Zacb,↓Zaca,↓Zabz,↓Zaco,↓Zaaq,↓Zaaj,↓Zaap,↓Zaas,↓Zaak,↓Zaan,↓Zaat,↓Zaao,↓Zacl,↓bxPut,↓Zabk,↓Zabj,↓Zaad,↓Zaac,↓Zabf,↓Zabe,↓Zacp,↓Zaba,↓Zaay,↓Zaaz,Zack,Zaab,Zabd,Zabt,Zacg,List.nil_append,↓reduceIte,Nat.reduceEqDiff,Nat.reduceLT,dec_F,and_self, *,lenQ] | (with_reducible first | refine Zabv (by assumption) (by decide +kernel) ?_ | refine Zabu (by decide +kernel) ?_ | refine Zacc (by decide +kernel) ?_ | refine Zabx ?_))

theorem rLesser_runs (v1 v2:Value) (x y D:Int) (H:Heap) (hg:Grp H) (hL:H.low ≤ H.size) (h1:QV H v1 x D) (h2:QV H v2 y D) (hD:0 < D):QOut S 64 [v1,v2] H (min x y) D:=by
  suffices h:WCall Tryz.prog S (.fn 64) [v1,v2] H (fun v H' => Keep H H' ∧ Grp H' ∧ QV H' v (min x y) D) by
    obtain ⟨v,H',hr,h1,h2,h3⟩:=h; exact ⟨H',v,h1,h2,h3,hr⟩
  obtain ⟨s1,a1,n1,c1,s2,a2,n2,c2,rfl⟩:=h1.agg;obtain ⟨s3,a3,n3,c3,s4,a4,n4,c4,rfl⟩:=h2.agg;obtain ⟨H1,b1,hK1,hs1,zz1,hr1⟩:=box1 H [.bool s1,.slice a1 n1 c1,.bool s2,.slice a2 n2 c2] 53;obtain ⟨H2,b2,hK2,hs2,zz2,hr2⟩:=box1 H1 [.bool s3,.slice a3 n3 c3,.bool s4,.slice a4 n4 c4] 53;obtain ⟨H3,b3,hK3,hs3,zz3,hr3⟩:=box1 H2 [.bool false,.slice none 0 0,.bool false,.slice none 0 0] 53;have ow3:Own H3 H2.size 53 [.bool false,.slice none 0 0,.bool false,.slice none 0 0]:=(b3 ▸ Own.new H2 _ _);have kk:=(hK1.trans hK2).trans hK3;have q0:H3.read H.size 0 4 = some [.bool s1,.slice a1 n1 c1,.bool s2,.slice a2 n2 c2]:=(hK2.trans hK3).read hs1 (hr1 0 4 (Nat.le_refl 4));have q1:H3.read H1.size 0 4 = some [.bool s3,.slice a3 n3 c3,.bool s4,.slice a4 n4 c4]:=hK3.read hs2 (hr2 0 4 (Nat.le_refl 4));have hob:=Cmp_all hS _ _ x D y D H3 (kk.grp hg) (kk.low hL) (h1.keep kk) (h2.keep kk) hD hD;obtain ⟨H4,k4,R4⟩:=hob;have f4:=R4.bx;have kk4:=kk.trans k4;have p0:=k4.read (Nat.lt_of_lt_of_le hs1 (hK2.trans hK3).size) q0;have p1:=k4.read (Nat.lt_of_lt_of_le hs2 hK3.size) q1;have hle:H.size ≤ H2.size:=Nat.le_trans hK1.size hK2.size;have hc1:(Value.agg ⟨[.bool s1,.slice a1 n1 c1,.bool s2,.slice a2 n2 c2]⟩).cells.toList = [.bool s1,.slice a1 n1 c1,.bool s2,.slice a2 n2 c2]:=rfl;have hc2:(Value.agg ⟨[.bool s3,.slice a3 n3 c3,.bool s4,.slice a4 n4 c4]⟩).cells.toList = [.bool s3,.slice a3 n3 c3,.bool s4,.slice a4 n4 c4]:=rfl;have hsg:sgn3 (x * D) (y * D) < 0 ↔ x < y:=by
    rw [sgn3_mul hD];unfold sgn3;split
    · omega
    · split <;> omega
  by_cases hxy:x < y
  · have d1:decide (sgn3 (x * D) (y * D) < 0) = true:=decide_eq_true (hsg.2 hxy);rw [Int.min_eq_left (by omega)]
    have hob:=retQV (ow3.keep k4) (h1.keep kk4);obtain ⟨H7,ps,hld,hq7,hkp⟩:=hob;have hK7:=hkp H kk4 hle;have hg7:=hK7.grp hg;refine Zaaw Tryz.func64 rfl (Nat.le_of_ble_eq_true rfl) (hS.no rfl _ _) ?_
    rw [Tryz.ntmps64,Tryz.results64];clear hsg hxy hkp kk kk4 k4 R4 h1 h2 ow3 hK1 hK2 hK3 hr1 hr2 hr3 hs1 hs2 hs3 zz1 zz2 zz3
    repeat' (first | simp only [↓Zabs,↓Zabp,↓Zabr,↓Zaae,↓Zabq,↓Zacj,↓Zaci,↓Zaco,↓Zaah,↓bxOp_box,↓Zaap,↓Zaas,↓Zaak,↓Zaat,↓Zacl,↓bxPut,↓Zabk,↓Zabl,↓Zabi,↓Zacm,↓Zaau,↓Zacp,↓Zaba,↓Zaay,↓Zaaz,Zack,Zaab,Zabd,Zabt,Zach,Zabg,List.map_cons,List.map_nil,List.nil_append,List.append_nil,↓reduceIte,Nat.reduceEqDiff,Nat.reduceLT,and_self,Option.map_some, *,argF,List.getD_cons_zero,List.getD_cons_succ,alQ,ldQ])
  · have d1:decide (sgn3 (x * D) (y * D) < 0) = false:=decide_eq_false (fun h => hxy (hsg.1 h))
    rw [Int.min_eq_right (by omega)]
    have hob:=retQV (ow3.keep k4) (h2.keep kk4);obtain ⟨H7,ps,hld,hq7,hkp⟩:=hob;have hK7:=hkp H kk4 hle;have hg7:=hK7.grp hg;refine Zaaw Tryz.func64 rfl (Nat.le_of_ble_eq_true rfl) (hS.no rfl _ _) ?_
    rw [Tryz.ntmps64,Tryz.results64];clear hsg hxy hkp kk kk4 k4 R4 h1 h2 ow3 hK1 hK2 hK3 hr1 hr2 hr3 hs1 hs2 hs3 zz1 zz2 zz3
    repeat' (first | simp only [↓Zabs,↓Zabp,↓Zabr,↓Zaae,↓Zabq,↓Zacj,↓Zaci,↓Zaco,↓Zaah,↓bxOp_box,↓Zaap,↓Zaas,↓Zaak,↓Zaat,↓Zacl,↓bxPut,↓Zabk,↓Zabl,↓Zabi,↓Zacm,↓Zaau,↓Zacp,↓Zaba,↓Zaay,↓Zaaz,Zack,Zaab,Zabd,Zabt,Zacg,Zabg,List.map_cons,List.map_nil,List.nil_append,List.append_nil,↓reduceIte,Nat.reduceEqDiff,Nat.reduceLT,and_self,Option.map_some, *,argF,List.getD_cons_zero,List.getD_cons_succ,alQ,ldQ])
end Go.Proofs.YtpeoleimmabceaaGreat
