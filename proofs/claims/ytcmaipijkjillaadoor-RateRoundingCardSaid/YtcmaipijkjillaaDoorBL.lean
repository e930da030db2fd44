/- Fractions: sum, difference, product; which one is greater. -/
import Derived.Test.YtcmaipijkjillaaDoorBI
set_option linter.unusedVariables false
set_option linter.unusedSimpArgs false
set_option linter.unusedSectionVars false

namespace Go.Proofs.YtcmaipijkjillaaDoor
open Go Go.AM
set_option maxRecDepth 10000

theorem drawnBig {S:AM.Sys} {f:FuncId} {args:List Value} {H:Heap} {z:Int} {lo:Nat} (hL:H.low ≤ H.size) (h:BigOut S f args (H.relow H.size) z lo) :
    ∃ v H4 H5,Keep H H5 ∧ H5.low ≤ H5.size ∧ (∀ (K:Value → Heap → Prop) (b:Blk K),sxCallB Tryd.prog S (.fn f) args (H.relow H.size) K b = K v H4) ∧ (∀ (all:List Oper) (n:Nat) (k:Heap → Prop),sxD all n H H4 k = k H5) ∧ BigIs H5 v z lo:=by
  obtain ⟨H6,v,hK6,hg6,hb,hR⟩:=h;exact ⟨v,H6,H6.relow (Nat.min H.low H6.low),Keep.draw hK6,(Keep.draw hK6).low hL,hR.bx,fun all n k => sxD_keep hK6 k,hb.addr0⟩
def QOut (S:AM.Sys) (f:FuncId) (args:List Value) (H:Heap) (n d:Int):Prop:=∃ H' v,Keep H H' ∧ Grp H' ∧ QV H' v n d ∧ Runs Tryd.prog S (.fn f) args H v H'
theorem drawnQ {S:AM.Sys} {f:FuncId} {args:List Value} {H:Heap} {n d:Int} (hL:H.low ≤ H.size) (h:QOut S f args (H.relow H.size) n d) :
    ∃ v H4 H5,Keep H H5 ∧ H5.low ≤ H5.size ∧ (∀ (K:Value → Heap → Prop) (b:Blk K),sxCallB Tryd.prog S (.fn f) args (H.relow H.size) K b = K v H4) ∧ (∀ (all:List Oper) (n:Nat) (k:Heap → Prop),sxD all n H H4 k = k H5) ∧ QV H5 v n d:=by
  obtain ⟨H6,v,hK6,hg6,hb,hR⟩:=h;exact ⟨v,H6,H6.relow (Nat.min H.low H6.low),Keep.draw hK6,(Keep.draw hK6).low hL,hR.bx,fun all n k => sxD_keep hK6 k,hb.addr⟩
theorem retQV {H:Heap} {r:Nat} (h:Own H r 37 [.bool false,.slice none 0 0,.bool false,.slice none 0 0]) {v:Value} {n d:Int} (hq:QV H v n d) :
    ∃ H2,aStore Tryd.prog H 37 (.pointer (some ⟨r,0,none⟩)) v = some H2 ∧ aLoad Tryd.prog H2 37 (.pointer (some ⟨r,0,none⟩)) = some v ∧ QV H2 v n d ∧ (∀ H0,Keep H0 H → H0.size ≤ r → Keep H0 H2):=by
  obtain ⟨n',d',h1,h2⟩:=hq;obtain ⟨H2,k1,k2,k3,k4⟩:=retQ h h1;exact ⟨H2,k1,k2,⟨n',d',k3,h2⟩,k4⟩
theorem endQ {S:AM.Sys} {f:FuncId} {args:List Value} {H0 H:Heap} {r:Nat} (hk:Keep H0 H) (hr:H0.size ≤ r) (hL:H.low ≤ H.size) (hg0:Grp H0) (ow:Own H r 37 [.bool false,.slice none 0 0,.bool false,.slice none 0 0]) {n d:Int} (h:QOut S f args (H.relow H.size) n d) :
    ∃ v H6 H7 H8,(∀ (K:Value → Heap → Prop) (b:Blk K),sxCallB Tryd.prog S (.fn f) args (H.relow H.size) K b = K v H6) ∧ (∀ (all:List Oper) (n:Nat) (k:Heap → Prop),sxD all n H H6 k = k H7) ∧
      aStore Tryd.prog (H7.relow H7.size) 37 (.pointer (some ⟨r,0,none⟩)) v = some H8 ∧ aLoad Tryd.prog H8 37 (.pointer (some ⟨r,0,none⟩)) = some v ∧ H7.low ≤ H7.size ∧
      Keep H0 (H8.relow (Nat.min H7.low H8.low)) ∧ Grp (H8.relow (Nat.min H7.low H8.low)) ∧ QV (H8.relow (Nat.min H7.low H8.low)) v n d:=by
  obtain ⟨H6,v,hK6,hg6,hb,hR⟩:=h;have hK67:=Keep.draw hK6;have hK7:=hk.trans hK67;have ow7:=(ow.keep hK67).addr (l:=(H6.relow (Nat.min H.low H6.low)).size);obtain ⟨H8,ps,hld,hq,hkp⟩:=retQV ow7 (hb.addr.addr);have hK8:=Keep.lower hK7 (hkp H0 (hK7.trans (Keep.relowS _)) hr);exact ⟨v,H6,H6.relow (Nat.min H.low H6.low),H8,hR.bx,fun all n k => sxD_keep hK6 k,ps,hld,hK67.low hL,hK8,hK8.grp hg0,hq.addr⟩
theorem cross {n1 d1 n1' d1' n2 d2 n2' d2':Int} (h1:n1' * d1 = n1 * d1') (h2:n2' * d2 = n2 * d2'):(n1' * n2') * (d1 * d2) = (n1 * n2) * (d1' * d2'):=by
  calc (n1' * n2') * (d1 * d2) = (n1' * d1) * (n2' * d2):=by ac_rfl
    _ = (n1 * d1') * (n2 * d2'):=by rw [h1,h2]
    _ = (n1 * n2) * (d1' * d2'):=by ac_rfl
theorem cross1 {n1 d1 n1' d1' d2 d2':Int} (h1:n1' * d1 = n1 * d1'):(n1' * d2') * (d1 * d2) = (n1 * d2) * (d1' * d2'):=by
  calc (n1' * d2') * (d1 * d2) = (n1' * d1) * (d2' * d2):=by ac_rfl
    _ = (n1 * d1') * (d2' * d2):=by rw [h1]
    _ = (n1 * d2) * (d1' * d2'):=by ac_rfl
theorem sgn3_mul {x y k:Int} (hk:0 < k):sgn3 (x * k) (y * k) = sgn3 x y:=by
  unfold sgn3;have a:∀ p q:Int,(p * k < q * k) = (p < q):=fun p q => propext (Int.mul_lt_mul_right hk)
  simp only [a]
theorem sgn3_cross {n1 d1 n1' d1' n2 d2 n2' d2':Int} (h1:n1' * d1 = n1 * d1') (h2:n2' * d2 = n2 * d2') (p1:0 < d1) (p2:0 < d2) (p3:0 < d1') (p4:0 < d2'):sgn3 (n1' * d2') (n2' * d1') = sgn3 (n1 * d2) (n2 * d1):=by
  rw [← sgn3_mul (Int.mul_pos p1 p2),cross1 h1,Int.mul_comm d1 d2,cross1 h2,Int.mul_comm d2' d1',sgn3_mul (Int.mul_pos p3 p4)]

variable {S:AM.Sys} (hS:Only S 6)
include hS

theorem Cmp_all (v1 v2:Value) (n1 d1 n2 d2:Int) (H:Heap) (hg:Grp H) (hL:H.low ≤ H.size) (h1:QV H v1 n1 d1) (h2:QV H v2 n2 d2) (z1:0 < d1) (z2:0 < d2):∃ H',Keep H H' ∧ Runs Tryd.prog S (.fn 14) [v1,v2] H (.int .i64 (sgn3 (n1 * d2) (n2 * d1))) H':=by
  obtain ⟨n1',d1',q1,p1,_,c1⟩:=h1;obtain ⟨n2',d2',q2,p2,_,c2⟩:=h2;obtain ⟨H',k1,k2⟩:=Cmp_runs hS v1 v2 n1' d1' n2' d2' 400 H hg hL q1 q2 (Nat.le_refl _);rw [sgn3_cross c1 c2 z1 z2 p1 p2] at k2;exact ⟨H',k1,k2⟩

theorem Mul_all (v1 v2:Value) (n1 d1 n2 d2:Int) (H:Heap) (hg:Grp H) (hL:H.low ≤ H.size) (h1:QV H v1 n1 d1) (h2:QV H v2 n2 d2) (z1:0 < d1) (z2:0 < d2) (b1:(n1.natAbs:Int) < 10000 ^ 20) (b2:d1 < 10000 ^ 20) (b3:(n2.natAbs:Int) < 10000 ^ 20) (b4:d2 < 10000 ^ 20):QOut S 13 [v1,v2] H (n1 * n2) (d1 * d2):=by
  suffices h:WCall Tryd.prog S (.fn 13) [v1,v2] H (fun v H' => Keep H H' ∧ Grp H' ∧ QV H' v (n1 * n2) (d1 * d2)) by
    obtain ⟨v,H',hr,h1,h2,h3⟩:=h; exact ⟨H',v,h1,h2,h3,hr⟩
  obtain ⟨m1,e1,⟨t1,t2,t3,t4,rfl,p1,p2⟩,y1,_,c1⟩:=h1.short z1 b1 b2;obtain ⟨m2,e2,⟨t5,t6,t7,t8,rfl,p3,p4⟩,y2,_,c2⟩:=h2.short z2 b3 b4;clear b1 b2 b3 b4 h1 h2;obtain ⟨H1,b1,hK1,hs1,zz1,hr1⟩:=box1 H [t1,t2,t3,t4] 37;obtain ⟨H2,b2,hK2,hs2,zz2,hr2⟩:=box1 H1 [t5,t6,t7,t8] 37;obtain ⟨H2r,b3,hK3,hs3,zz3,hr3⟩:=box1 H2 [.bool false,.slice none 0 0,.bool false,.slice none 0 0] 37;have ow3:Own H2r H2.size 37 [.bool false,.slice none 0 0,.bool false,.slice none 0 0]:=(b3 ▸ Own.new H2 _ _);clear zz1 zz2 zz3 hr3;have lt1:=Nat.lt_of_lt_of_le hs1 (hK2.trans hK3).size;have lt2:=Nat.lt_of_lt_of_le hs2 hK3.size;have q0:H2r.read H.size 0 2 = some [t1,t2]:=(hK2.trans hK3).read hs1 (hr1 0 2 (show 0 + 2 ≤ 4 by omega))
  have q1:H2r.read H.size 2 2 = some [t3,t4]:=(hK2.trans hK3).read hs1 (hr1 2 2 (show 2 + 2 ≤ 4 by omega))
  have q2:H2r.read H1.size 0 2 = some [t5,t6]:=hK3.read hs2 (hr2 0 2 (show 0 + 2 ≤ 4 by omega))
  have q3:H2r.read H1.size 2 2 = some [t7,t8]:=hK3.read hs2 (hr2 2 2 (show 2 + 2 ≤ 4 by omega))
  have hK02:=(hK1.trans hK2).trans hK3;have hL2:=hK02.low hL;have hg2:=hK02.grp hg;replace p1:=p1.keep hK02;replace p2:=p2.keep hK02;replace p3:=p3.keep hK02;replace p4:=p4.keep hK02;have hra:=Keep.relowS H2r;obtain ⟨xa,Haa,Ha,hKa,hLa,fa,ga,bxa⟩:=drawnBig hL2 (Times_runs hS _ _ m1 m2 _ _ (H2r.relow H2r.size) (hra.grp hg2) (Nat.le_refl _) ((p1).keep hra) ((p3).keep hra) (by omega) (by omega))
  have hga:=hKa.grp hg2;have hK2a:=hKa;have q1a:=hKa.read lt1 q1;have q3a:=hKa.read lt2 q3;have hrb:=Keep.relowS Ha;obtain ⟨xb,Hba,Hb,hKb,hLb,fb,gb,bxb⟩:=drawnBig hLa (Times_runs hS _ _ e1 e2 _ _ (Ha.relow Ha.size) (hrb.grp hga) (Nat.le_refl _) ((p2.keep hK2a).keep hrb) ((p4.keep hK2a).keep hrb) (by omega) (by omega))
  have hgb:=hKb.grp hga;have hK2b:=hKa.trans hKb;have hcr:=cross c1 c2;have hrz:=Keep.relowS Hb;have hob:=lowest_all hS xa xb (m1 * m2) (e1 * e2) _ _ (Hb.relow Hb.size) (hrz.grp hgb) (Nat.le_refl _) (Int.mul_pos y1 y2) ((bxa.keep hKb).keep hrz) ((bxb).keep hrz) (by omega) (by omega)
  have hob':QOut S 34 [xa,xb] (Hb.relow Hb.size) (n1 * n2) (d1 * d2):=by
    obtain ⟨Hz,vz,k1,k2,k3,k4⟩:=hob;exact ⟨Hz,vz,k1,k2,k3.as (Int.mul_pos y1 y2) hcr,k4⟩
  obtain ⟨v9,Hm,Hn,Ho,fm,fn,ps,hld,hLn,hK9,hg9,hq9⟩:=endQ (hK02.trans hK2b) (Nat.le_trans hK1.size hK2.size) hLb hg (ow3.keep hK2b) hob';have hc1:(Value.agg ⟨[t1,t2,t3,t4]⟩).cells.toList = [t1,t2,t3,t4]:=rfl;have hc2:(Value.agg ⟨[t5,t6,t7,t8]⟩).cells.toList = [t5,t6,t7,t8]:=rfl;refine call_of Tryd.func13 rfl (Nat.le_of_ble_eq_true rfl) (hS.no rfl _ _) ?_
  rw [Tryd.ntmps13,Tryd.results13];clear p1 p2 p3 p4 ow3 hob hob' c1 c2 hcr bxa bxb
  repeat' (first | simp only [↓Zabm,↓Zabo,↓Zabq,↓Zabp,↓Zacj,↓Zaci,↓Zacc,↓Zaai,↓Zabz,↓Zabx,↓sxD_same,↓Zaco,↓Zaaj,↓bxOp_box,↓Zaaq,↓Zaat,↓Zaan,↓Zaau,↓Zacl,↓bxPut,↓Zabj,↓Zabh,↓Zacm,↓bxRes_cell,↓Zacp,↓Zaaz,↓Zaay,Zack,Zabs,Zabe,List.map,List.nil_append,List.append_nil,↓reduceIte,Nat.reduceEqDiff,Nat.reduceLT,and_self,Zaaa,Nat.add_zero,Option.map_some, *,argF,List.getD_cons_zero,List.getD_cons_succ,alQ,qaG0,qaG1,ldBig,Nat.zero_add] | (with_reducible first | refine Zabu (by assumption) (by decide +kernel) ?_ | refine Zabt (by decide +kernel) ?_ | refine Zacb (by decide +kernel) ?_ | refine Zabw ?_))
end Go.Proofs.YtcmaipijkjillaaDoor
