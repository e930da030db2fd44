/- The difference of numbers, and how a fraction compares with a value. -/
import Derived.Test.YtdfjaoncabanbaaDoorN5
import Derived.Test.YtdfjaoncabanbaaDoorIC
set_option linter.unusedVariables false
set_option linter.unusedSimpArgs false
set_option linter.unusedSectionVars false

namespace Go.Proofs.YtdfjaoncabanbaaDoor
open Go Go.AM
set_option maxRecDepth 10000

def WOut (S:AM.Sys) (f:FuncId) (args:List Value) (H:Heap) (x:Int) (lo:Nat):Prop:=
  ∃ H' M r c,Runs Tryd.prog S (.fn f) args H (.slice (some ⟨r,0,none⟩) M.length c) H' ∧ Keep H H' ∧ SlI .u32 H' (.slice (some ⟨r,0,none⟩) M.length c) M r 0 ∧ M.length ≤ c ∧ (0 < M.length → CutR H' r) ∧ W.Digs M ∧ W.val M = x ∧ M.length ≤ lo
theorem CutR.addr {H:Heap} {r l:Nat} (h:CutR H r):CutR (H.relow l) r:=h
theorem ldNb (H:Heap) (r o:Nat):aLoad Tryd.prog H 4 (.pointer (some ⟨r,o,none⟩)) = (H.read r o 1).bind one1:=by kernel_rfl

variable {S:AM.Sys} (hS:Only S 5)
include hS

theorem endDiff {f:FuncId} {args:List Value} {H0 H:Heap} {r:Nat} (hk:Keep H0 H) (hr:H0.size ≤ r) (hL:H.low ≤ H.size) (ow:Own H r 61 [.bool false,.slice none 0 0]) {z:Int} {lo:Nat} (hlo:lo < 1000) (neg:Bool) (hs:z ≠ 0 → neg = decide (z < 0))
    (h:WOut S f args (H.relow H.size) z.natAbs lo) :
    ∃ w H4 H5 v H6 H7 H8,(∀ (K:Value → Heap → Prop) (b:Blk K),sxCallB Tryd.prog S (.fn f) args (H.relow H.size) K b = K w H4) ∧ (∀ (all:List Oper) (n:Nat) (k:Heap → Prop),sxD all n H H4 k = k H5) ∧ H5.low ≤ H5.size ∧
      (∀ (K:Value → Heap → Prop) (b:Blk K),sxCallB Tryd.prog S (.fn 56) [.bool neg,w] (H5.relow H5.size) K b = K v H6) ∧ (∀ (all:List Oper) (n:Nat) (k:Heap → Prop),sxD all n H5 H6 k = k H7) ∧
      aStore Tryd.prog (H7.relow H7.size) 61 (.pointer (some ⟨r,0,none⟩)) v = some H8 ∧ aLoad Tryd.prog H8 61 (.pointer (some ⟨r,0,none⟩)) = some v ∧ H7.low ≤ H7.size ∧
      Keep H0 (H8.relow (Nat.min H7.low H8.low)) ∧ NumIs (H8.relow (Nat.min H7.low H8.low)) v z lo:=by
  obtain ⟨H4,M,r4,c4,R4,k4,s4,hc4,hcut,hd4,hv4,hl4⟩:=h;have k5:=Keep.draw k4;have l5:=k5.low hL;have hob:=endNum (S:=S) (f:=56) (args:=[.bool neg,.slice (some ⟨r4,0,none⟩) M.length c4]) (hk.trans k5) hr l5 (ow.keep k5) (z:=z) (lo:=lo)
    (signed_num hS neg z M r4 c4 lo _ (Nat.le_refl _) ⟨s4.isv,s4.rd,s4.lt,s4.ml⟩ hc4 (by omega) (fun h => hcut h) hd4 hv4 hs hl4)
  obtain ⟨v,H6,H7,H8,q1,q2,q3,q4,q5,q6,q7⟩:=hob;exact ⟨_,H4,_,v,H6,H7,H8,R4.bx,fun all n k => sxD_keep k4 k,l5,q1,q2,q3,q4,q5,q6,q7⟩

set_option maxHeartbeats 4000000 in
theorem nminus_runs (v1 v2:Value) (x y:Int) (l1 l2:Nat) (H:Heap) (hg:Grp H) (hL:H.low ≤ H.size) (hx:NumIs H v1 x l1) (hy:NumIs H v2 y l2) (hl1:l1 ≤ 100) (hl2:l2 ≤ 100):NumOut S 57 [v1,v2] H (x - y) (l1 + l2 + 1):=by
  suffices h:WCall Tryd.prog S (.fn 57) [v1,v2] H (fun v H' => Keep H H' ∧ NumIs H' v (x - y) (l1 + l2 + 1)) by
    obtain ⟨v,H',hr,h1,h2⟩:=h; exact ⟨H',v,h1,h2,hr⟩
  obtain ⟨a,r1,c1,rfl,h1,ha,na,va,hsa⟩:=hx;obtain ⟨b,r2,c2,rfl,h2,hb,nb,vb,hsb⟩:=hy;obtain ⟨H1,e1,k1,z1,rx2,rx0,rx1⟩:=boxN H (.bool (decide (x < 0))) (.slice (some ⟨r1,0,none⟩) a.length c1);obtain ⟨H2,e2,k2,z2,ry2,ry0,ry1⟩:=boxN H1 (.bool (decide (y < 0))) (.slice (some ⟨r2,0,none⟩) b.length c2);obtain ⟨H3,e3,k3,z3,-,-⟩:=box1 H2 [.bool false,.slice none 0 0] 61;have ow3:Own H3 H2.size 61 [.bool false,.slice none 0 0]:=e3 ▸ Own.new H2 _ _;have k02:=k1.trans k2;have k03:=k02.trans k3;have zb:H.size < H2.size:=Nat.lt_of_lt_of_le z1 k2.size;rw [Nat.zero_add] at rx1 ry1;have rx1':=k3.read zb (k2.read z1 rx1);have rx0':=k3.read zb (k2.read z1 rx0);have ry1':=k3.read z2 ry1;have ry0':=k3.read z2 ry0;have hcs1:(Value.agg ⟨[.bool (decide (x < 0)),.slice (some ⟨r1,0,none⟩) a.length c1]⟩).cells.toList = [.bool (decide (x < 0)),.slice (some ⟨r1,0,none⟩) a.length c1]:=rfl;have hcs2:(Value.agg ⟨[.bool (decide (y < 0)),.slice (some ⟨r2,0,none⟩) b.length c2]⟩).cells.toList = [.bool (decide (y < 0)),.slice (some ⟨r2,0,none⟩) b.length c2]:=rfl;have L3:=k03.low hL;have hrl:=Keep.relowS H3;have sa:=(h1.keep k03).keep hrl;have sb:=(h2.keep k03).keep hrl;have hz0:H.size ≤ H2.size:=Nat.le_of_lt zb;refine Zaaw Tryd.func57 rfl (Nat.le_of_ble_eq_true rfl) (hS.no rfl _ _) ?_
  rw [Tryd.ntmps57,Tryd.results57]
  by_cases hxy:decide (x < 0) = decide (y < 0)
  case neg =>
    have hne:(!(decide (x < 0) == decide (y < 0))) = true:=by
      cases h:decide (x < 0) <;> cases h':decide (y < 0) <;> rw [h,h'] at hxy <;> first | rfl | exact absurd rfl hxy
    have hiff:¬ (x < 0 ↔ y < 0):=fun h => hxy (decide_eq_decide.2 h)
    have hob:=endDiff hS k03 hz0 L3 ow3 (z:=x - y) (lo:=l1 + l2 + 1) (by omega) (decide (x < 0)) (fun h => decide_eq_decide.2 (by omega)) (f:=75) (args:=[.slice (some ⟨r1,0,none⟩) a.length c1,.slice (some ⟨r2,0,none⟩) b.length c2]) (by
      obtain ⟨H4,out,R,k,o,d,v,l⟩:=added_runs hS _ _ a b r1 0 r2 0 (H3.relow H3.size) (Nat.le_refl _) sa sb ha hb (by omega) (by omega)
      exact ⟨H4,out,_,out.length,R,k,wslice o d (by omega) _,Nat.le_refl _,fun _ => CutR.own o,d,by rw [v,va,vb]; omega,by omega⟩)
    obtain ⟨w,H4,H5,v,H6,H7,H8,q1,q2,q3,q4,q5,q6,q7,q8,q9,q10⟩:=hob;clear h1 h2 ha hb na nb va vb ow3 sa sb hxy hiff k1 k2 k3 k02 k03 hrl
    repeat' (first | simp only [↓Zabr,↓Zabm,↓Zabo,↓Zabq,↓Zaag,↓Zabp,↓Zaci,↓Zach,↓Zacb,↓Zaai,↓Zaby,↓sxDL_unOp,↓Zabw,↓sxD_same,↓Zacn,↓bxOp_alloc,↓Zaal,↓Zaaq,↓Zaat,↓Zaak,↓bxOp_un,↓Zaan,↓Zaau,↓Zack,↓bxPut,↓Zabj,↓Zabk,↓Zabh,↓Zacl,↓bxRes_cell,↓Zaco,↓Zaba,↓Zaaz,Zacj,Zabs,Zacg,Zabf,List.map,List.nil_append,List.append_nil,↓reduceIte,Nat.reduceEqDiff,Nat.reduceLT,and_self,Zaaa,one1,Option.bind_some, *,argF,List.getD_cons_zero,List.getD_cons_succ,alNum,faN0,faN1,ldUs,ldNb,neqB] | (with_reducible first | refine Zabu (by assumption) (by decide +kernel) ?_ | refine Zabt (by decide +kernel) ?_ | refine Zaca (by decide +kernel) ?_ | refine Zabv ?_))
  have hne:(!(decide (x < 0) == decide (y < 0))) = false:=by rw [hxy]; simp
  have hiff:(x < 0 ↔ y < 0):=decide_eq_decide.1 hxy;have fl:=(isLess_runs hS _ _ a b r1 0 r2 0 H3 (h1.keep k03) (h2.keep k03) ha hb (by omega) (by omega)).bx
  by_cases hlt:W.val a < W.val b
  · rw [decide_eq_true hlt] at fl
    have hob:=endDiff hS k03 hz0 L3 ow3 (z:=x - y) (lo:=l1 + l2 + 1) (by omega) (decide (¬ x < 0)) (fun h => decide_eq_decide.2 (by omega)) (f:=77) (args:=[.slice (some ⟨r2,0,none⟩) b.length c2,.slice (some ⟨r1,0,none⟩) a.length c1]) (by
      obtain ⟨H4,M,r,c,R,k,s,hc,hcut,d,v,l⟩:=reduced_runs hS b a r2 c2 _ r1 0 (H3.relow H3.size) (hrl.grp (k03.grp hg)) (Nat.le_refl _) sb sa hb nb ha na (by omega) (by omega)
      exact ⟨H4,M,r,c,R,k,s,hc,hcut,d,by rw [v,va,vb]; omega,by omega⟩)
    obtain ⟨w,H4,H5,v,H6,H7,H8,q1,q2,q3,q4,q5,q6,q7,q8,q9,q10⟩:=hob;clear h1 h2 ha hb na nb va vb ow3 sa sb hxy hiff k1 k2 k3 k02 k03 hrl hlt
    repeat' (first | simp only [↓Zabr,↓Zabm,↓Zabo,↓Zabq,↓Zaag,↓Zabp,↓Zaci,↓Zach,↓Zacb,↓Zaai,↓Zaby,↓sxDL_unOp,↓Zabw,↓sxD_same,↓Zacn,↓bxOp_alloc,↓Zaal,↓Zaaq,↓Zaat,↓Zaak,↓bxOp_un,↓Zaan,↓Zaau,↓Zack,↓bxPut,↓Zabj,↓Zabk,↓Zabh,↓Zacl,↓bxRes_cell,↓Zaco,↓Zaba,↓Zaaz,Zacj,una_not_dec,Zabs,Zacg,Zacf,Zabf,List.map,List.nil_append,List.append_nil,↓reduceIte,Nat.reduceEqDiff,Nat.reduceLT,and_self,Zaaa,one1,Option.bind_some, *,argF,List.getD_cons_zero,List.getD_cons_succ,alNum,faN0,faN1,ldUs,ldNb,neqB] | (with_reducible first | refine Zabu (by assumption) (by decide +kernel) ?_ | refine Zabt (by decide +kernel) ?_ | refine Zaca (by decide +kernel) ?_ | refine Zabv ?_))
  · rw [decide_eq_false hlt] at fl
    have hob:=endDiff hS k03 hz0 L3 ow3 (z:=x - y) (lo:=l1 + l2 + 1) (by omega) (decide (x < 0)) (fun h => decide_eq_decide.2 (by omega)) (f:=77) (args:=[.slice (some ⟨r1,0,none⟩) a.length c1,.slice (some ⟨r2,0,none⟩) b.length c2]) (by
      obtain ⟨H4,M,r,c,R,k,s,hc,hcut,d,v,l⟩:=reduced_runs hS a b r1 c1 _ r2 0 (H3.relow H3.size) (hrl.grp (k03.grp hg)) (Nat.le_refl _) sa sb ha na hb nb (by omega) (by omega)
      exact ⟨H4,M,r,c,R,k,s,hc,hcut,d,by rw [v,va,vb]; omega,by omega⟩)
    obtain ⟨w,H4,H5,v,H6,H7,H8,q1,q2,q3,q4,q5,q6,q7,q8,q9,q10⟩:=hob;clear h1 h2 ha hb na nb va vb ow3 sa sb hxy hiff k1 k2 k3 k02 k03 hrl hlt
    repeat' (first | simp only [↓Zabr,↓Zabm,↓Zabo,↓Zabq,↓Zaag,↓Zabp,↓Zaci,↓Zach,↓Zacb,↓Zaai,↓Zaby,↓sxDL_unOp,↓Zabw,↓sxD_same,↓Zacn,↓bxOp_alloc,↓Zaal,↓Zaaq,↓Zaat,↓Zaak,↓bxOp_un,↓Zaan,↓Zaau,↓Zack,↓bxPut,↓Zabj,↓Zabk,↓Zabh,↓Zacl,↓bxRes_cell,↓Zaco,↓Zaba,↓Zaaz,Zacj,Zabs,Zacf,Zabf,List.map,List.nil_append,List.append_nil,↓reduceIte,Nat.reduceEqDiff,Nat.reduceLT,and_self,Zaaa,one1,Option.bind_some, *,argF,List.getD_cons_zero,List.getD_cons_succ,alNum,faN0,faN1,ldUs,ldNb,neqB] | (with_reducible first | refine Zabu (by assumption) (by decide +kernel) ?_ | refine Zabt (by decide +kernel) ?_ | refine Zaca (by decide +kernel) ?_ | refine Zabv ?_))

theorem ncompare_runs (v1 v2:Value) (x y:Int) (l1 l2:Nat) (H:Heap) (hg:Grp H) (hL:H.low ≤ H.size) (hx:NumIs H v1 x l1) (hy:NumIs H v2 y l2) (hl1:l1 ≤ 100) (hl2:l2 ≤ 100) :
    ∃ H',Keep H H' ∧ Runs Tryd.prog S (.fn 34) [v1,v2] H (.int .i64 (if x - y < 0 then -1 else if 0 < x - y then 1 else 0)) H':=by
  obtain ⟨sg,hsg⟩:∃ sg:Int,(if x - y < 0 then -1 else if 0 < x - y then 1 else 0) = sg:=⟨_,rfl⟩
  rw [hsg]
  suffices h:WCall Tryd.prog S (.fn 34) [v1,v2] H (fun v H' => v = .int .i64 sg ∧ Keep H H') by
    obtain ⟨_,H',hr,rfl,hk⟩:=h; exact ⟨H',hk,hr⟩
  have hx':=hx;have hy':=hy;obtain ⟨a,r1,c1,rfl,-⟩:=hx;obtain ⟨b,r2,c2,rfl,-⟩:=hy;obtain ⟨H1,e1,k1,z1,rx2,rx0,rx1⟩:=boxN H (.bool (decide (x < 0))) (.slice (some ⟨r1,0,none⟩) a.length c1);obtain ⟨H2,e2,k2,z2,ry2,ry0,ry1⟩:=boxN H1 (.bool (decide (y < 0))) (.slice (some ⟨r2,0,none⟩) b.length c2);have k02:=k1.trans k2;have rx2':=k2.read z1 rx2;obtain ⟨H3,v3,k3,q3,R3⟩:=nminus_runs hS _ _ x y l1 l2 H2 (k02.grp hg) (k02.low hL) (hx'.keep k02) (hy'.keep k02) hl1 hl2;have k03:=k02.trans k3;obtain ⟨H4,k4,R4⟩:=nsign_runs hS v3 (x - y) _ H3 (k03.low hL) q3;rw [hsg] at R4;have f3:=R3.bx;have f4:=R4.bx;have k04:=k03.trans k4;have hcs1:(Value.agg ⟨[.bool (decide (x < 0)),.slice (some ⟨r1,0,none⟩) a.length c1]⟩).cells.toList = [.bool (decide (x < 0)),.slice (some ⟨r1,0,none⟩) a.length c1]:=rfl;have hcs2:(Value.agg ⟨[.bool (decide (y < 0)),.slice (some ⟨r2,0,none⟩) b.length c2]⟩).cells.toList = [.bool (decide (y < 0)),.slice (some ⟨r2,0,none⟩) b.length c2]:=rfl;clear R3 R4 hx' hy' q3 k1 k2 k02 k3 k03 k4 hsg rx0 rx1 ry0 ry1;refine Zaaw Tryd.func34 rfl (Nat.le_of_ble_eq_true rfl) (hS.no rfl _ _) ?_
  rw [Tryd.ntmps34,Tryd.results34]
  repeat' simp only [↓Zabo,↓Zabq,↓Zabp,↓Zaci,↓Zach,↓Zacn,↓Zaaj,↓Zaal,↓Zaaq,↓Zaau,↓bxPut,↓Zabj,↓Zabh,↓Zacl,↓Zacm,↓Zaco,↓Zaba,↓Zaay,↓Zaaz,Zacj,Zabs,Zabf,List.map,List.nil_append,List.append_nil,↓reduceIte,Nat.reduceEqDiff,Nat.reduceLT,and_self,Option.map_some, *,argF,List.getD_cons_zero,List.getD_cons_succ,ldNum]

set_option maxHeartbeats 4000000 in
theorem pcompare_runs (n d p q:Int) (H:Heap) (hg:Grp H) (hL:H.low ≤ H.size) (hn:-4611686018427387904 ≤ n ∧ n ≤ 4611686018427387904) (hd:-4611686018427387904 ≤ d ∧ d ≤ 4611686018427387904) (hp:-4611686018427387904 ≤ p ∧ p ≤ 4611686018427387904) (hq:-4611686018427387904 ≤ q ∧ q ≤ 4611686018427387904) :
    ∃ H',Keep H H' ∧ Runs Tryd.prog S (.fn 18) [.int .i64 n,.int .i64 d,.agg ⟨[.int .i64 p,.int .i64 q]⟩] H (.int .i64 (if n * q - p * d < 0 then -1 else if 0 < n * q - p * d then 1 else 0)) H':=by
  obtain ⟨sg,hsg⟩:∃ sg:Int,(if n * q - p * d < 0 then -1 else if 0 < n * q - p * d then 1 else 0) = sg:=⟨_,rfl⟩
  rw [hsg]
  suffices h:WCall Tryd.prog S (.fn 18) [.int .i64 n,.int .i64 d,.agg ⟨[.int .i64 p,.int .i64 q]⟩] H (fun v H' => v = .int .i64 sg ∧ Keep H H') by
    obtain ⟨_,H',hr,rfl,hk⟩:=h; exact ⟨H',hk,hr⟩
  obtain ⟨H1,e1,k1,z1,-,rx2,rx0,rx1⟩:=box2 H p q 24;have l1:=k1.low hL;have gr1:=k1.grp hg;obtain ⟨va,Xa,X2,ka,l2,fa,da,qa⟩:=drawnN l1 (numberOf_runs hS n (H1.relow H1.size) (Nat.le_refl _) hn);have rx12:=ka.read z1 rx1;obtain ⟨vb,Xb,X3,kb,l3,fb,db,qb⟩:=drawnN l2 (numberOf_runs hS q (X2.relow X2.size) (Nat.le_refl _) hq);obtain ⟨vc,Xc,X4,kc,l4,fc,dc,qc⟩:=drawnN l3 (ntimes_runs hS va vb n q 2 2 (X3.relow X3.size) (Nat.le_refl _) ((qa.keep kb).addr) qb.addr (by decide) (by decide))
  have kac:=(ka.trans kb).trans kc;have rx04:=kac.read z1 rx0;obtain ⟨vd,Xd,X5,kd,l5,fd,dd,qd⟩:=drawnN l4 (numberOf_runs hS p (X4.relow X4.size) (Nat.le_refl _) hp);obtain ⟨ve,Xe,X6,ke,l6,fe,de,qe⟩:=drawnN l5 (numberOf_runs hS d (X5.relow X5.size) (Nat.le_refl _) hd);obtain ⟨vf,Xf,X7,kf,l7,ff,df,qf⟩:=drawnN l6 (ntimes_runs hS vd ve p d 2 2 (X6.relow X6.size) (Nat.le_refl _) ((qd.keep ke).addr) qe.addr (by decide) (by decide))
  have kdf:=(kd.trans ke).trans kf;have k17:=(k1.trans kac).trans kdf;obtain ⟨Xg,X8,k8,l8,f8,d8⟩:=drawn l7 (ncompare_runs hS vc vf (n * q) (p * d) 4 4 (X7.relow X7.size) ((Keep.relowS X7).grp (k17.grp hg)) (Nat.le_refl _) ((qc.keep kdf).addr) qf.addr (by decide) (by decide))
  rw [hsg] at f8;have k18:=k17.trans k8;clear hsg qa qb qc qd qe qf k1 ka kb kc kd ke kf kac kdf k17 k8 hn hd hp hq;refine Zaaw Tryd.func18 rfl (Nat.le_of_ble_eq_true rfl) (hS.no rfl _ _) ?_
  rw [Tryd.ntmps18,Tryd.results18]
  repeat' (first | simp only [↓Zabm,↓Zabo,↓Zabq,↓Zabp,↓Zaci,↓Zach,↓Zacb,↓Zaai,↓Zabz,↓sxDL_assign,↓Zaby,↓Zabw,↓sxD_same,↓Zacn,↓Zaar,↓Zaaj,↓Zaal,↓Zaaq,↓Zaan,↓Zaau,↓bxPut,↓Zabj,↓Zabh,↓Zacl,↓Zacm,↓Zaco,↓Zaba,↓Zaay,↓Zaaz,Zacj,Zabs,Zabf,List.map,List.nil_append,List.append_nil,↓reduceIte,Nat.reduceEqDiff,Nat.reduceLT,true_and,Zaaa,Nat.add_zero,one1,Option.bind_some, *,argF,List.getD_cons_zero,List.getD_cons_succ,cells2,faR0,faR1,ldI,Nat.zero_add] | (with_reducible first | refine Zabu (by assumption) (by decide +kernel) ?_ | refine Zabt (by decide +kernel) ?_ | refine Zaca (by decide +kernel) ?_ | refine Zabv ?_))
end Go.Proofs.YtdfjaoncabanbaaDoor
