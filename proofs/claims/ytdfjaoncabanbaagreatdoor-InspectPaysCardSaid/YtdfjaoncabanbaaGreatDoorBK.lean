/- Fractions: which number they are. -/
import Derived.Test.YtdfjaoncabanbaaGreatDoorBD
import Derived.Test.YtdfjaoncabanbaaGreatDoorBI
set_option linter.unusedVariables false
set_option linter.unusedSimpArgs false
set_option linter.unusedSectionVars false

namespace Go.Proofs.YtdfjaoncabanbaaGreatDoor
open Go Go.AM
set_option maxRecDepth 10000

theorem BigIs.short {H:Heap} {v:Value} {z:Int} {lo:Nat} (h:BigIs H v z lo) {k:Nat} (hz:(z.natAbs:Int) < 10000 ^ k):BigIs H v z k:=by
  obtain ⟨v',w,r',o',h1,h2,h3,h4,h5,h6⟩:=h;refine ⟨v',w,r',o',h1,h2,h3,h4,h5,?_⟩;rcases Nat.lt_or_ge k w.length with hk | hk
  · exfalso;have h7:=(Dg.of h3 h4).ge (by omega)
    rw [Int.toNat_of_nonneg h3.nonneg,h5] at h7;have h8:=pow_mono (show k ≤ w.length - 1 by omega)
    omega
  · exact hk

def QV (H:Heap) (v:Value) (n d:Int):Prop:=
  ∃ n' d':Int,QIs H v n' d' 400 ∧ 0 < d' ∧ n'.natAbs.gcd d'.natAbs = 1 ∧ n' * d = n * d'

theorem QV.keep {H H':Heap} {v:Value} {n d:Int} (h:QV H v n d) (hk:Keep H H'):QV H' v n d:=by
  obtain ⟨n',d',⟨s1,w1,s2,w2,h1,h2,h3⟩,h4⟩:=h;exact ⟨n',d',⟨s1,w1,s2,w2,h1,h2.keep hk,h3.keep hk⟩,h4⟩
theorem QV.addr {H:Heap} {v:Value} {n d:Int} {l:Nat} (h:QV H v n d):QV (H.relow l) v n d:=by
  obtain ⟨n',d',⟨s1,w1,s2,w2,h1,h2,h3⟩,h4⟩:=h;exact ⟨n',d',⟨s1,w1,s2,w2,h1,h2.addr0,h3.addr0⟩,h4⟩
theorem QV.as {H:Heap} {v:Value} {n d n2 d2:Int} (h:QV H v n d) (hd:0 < d) (he:n * d2 = n2 * d):QV H v n2 d2:=by
  obtain ⟨n',d',h1,h2,h3,h4⟩:=h;refine ⟨n',d',h1,h2,h3,?_⟩;have h5:d * (n' * d2) = d * (n2 * d'):=by
    calc d * (n' * d2) = (n' * d) * d2:=by rw [Int.mul_comm n' d,Int.mul_assoc]
      _ = (n * d') * d2:=by rw [h4]
      _ = (n * d2) * d':=by rw [Int.mul_assoc,Int.mul_comm d' d2,← Int.mul_assoc]
      _ = (n2 * d) * d':=by rw [he]
      _ = d * (n2 * d'):=by rw [Int.mul_comm n2 d,Int.mul_assoc]
  exact Int.eq_of_mul_eq_mul_left (by omega) h5
theorem low_le {n d n' d':Int} (hd:0 < d) (h2:0 < d') (h3:n'.natAbs.gcd d'.natAbs = 1) (h4:n' * d = n * d'):d' ≤ d ∧ n'.natAbs ≤ n.natAbs:=by
  have h5:n'.natAbs * d.natAbs = n.natAbs * d'.natAbs:=by rw [← Int.natAbs_mul,← Int.natAbs_mul,h4]
  have h6:d'.natAbs ∣ n'.natAbs * d.natAbs:=⟨n.natAbs,by rw [h5,Nat.mul_comm]⟩
  have h7:d'.natAbs ∣ d.natAbs:=(Nat.Coprime.symm h3).dvd_of_dvd_mul_left h6;have h8:n'.natAbs ∣ n.natAbs * d'.natAbs:=⟨d.natAbs,h5.symm⟩;have h9:n'.natAbs ∣ n.natAbs:=(show Nat.Coprime n'.natAbs d'.natAbs from h3).dvd_of_dvd_mul_right h8
  have h10:=Nat.le_of_dvd (by omega) h7
  refine ⟨by omega,?_⟩
  rcases Nat.eq_zero_or_pos n.natAbs with h0 | h0
  · have:n'.natAbs * d.natAbs = 0:=by rw [h5,h0,Nat.zero_mul]
    rcases Nat.mul_eq_zero.1 this with h | h <;> omega
  · exact Nat.le_of_dvd h0 h9
theorem QV.short {H:Heap} {v:Value} {n d:Int} (h:QV H v n d) (hd:0 < d) {k:Nat} (b1:(n.natAbs:Int) < 10000 ^ k) (b2:d < 10000 ^ k) :
    ∃ n' d':Int,QIs H v n' d' k ∧ 0 < d' ∧ n'.natAbs.gcd d'.natAbs = 1 ∧ n' * d = n * d':=by
  obtain ⟨n',d',⟨s1,w1,s2,w2,h1,h2,h3⟩,h4,h5,h6⟩:=h;have h7:=low_le hd h4 h5 h6;exact ⟨n',d',⟨s1,w1,s2,w2,h1,h2.short (by omega),h3.short (by omega)⟩,h4,h5,h6⟩
theorem QV.of {H:Heap} {v:Value} {x y:Int} (hy:0 < y) (h:QIs H v (x / ((Nat.gcd x.natAbs y.toNat:Nat):Int)) (y / ((Nat.gcd x.natAbs y.toNat:Nat):Int)) 400):QV H v x y:=by
  have hyn:y.natAbs = y.toNat:=by omega
  have hgp:0 < Nat.gcd x.natAbs y.toNat:=Nat.gcd_pos_of_pos_right _ (by omega)
  have hdx:((Nat.gcd x.natAbs y.toNat:Nat):Int) ∣ x:=Int.ofNat_dvd_left.2 (Nat.gcd_dvd_left _ _);have hdy:((Nat.gcd x.natAbs y.toNat:Nat):Int) ∣ y:=Int.ofNat_dvd_left.2 (hyn ▸ Nat.gcd_dvd_right _ _);refine ⟨_,_,h,Int.ediv_pos_of_pos_of_dvd hy (by omega) hdy,?_,?_⟩
  · rw [Int.natAbs_ediv_of_dvd hdx,Int.natAbs_ediv_of_dvd hdy,hyn,Int.natAbs_natCast];exact Nat.coprime_div_gcd_div_gcd hgp
  · generalize ((Nat.gcd x.natAbs y.toNat:Nat):Int) = G at *;obtain ⟨p,rfl⟩:=hdx;obtain ⟨q,rfl⟩:=hdy;have hG:G ≠ 0:=fun h0 => by subst h0; omega
    rw [Int.mul_ediv_cancel_left _ hG,Int.mul_ediv_cancel_left _ hG,← Int.mul_assoc,Int.mul_comm p G,]

variable {S:AM.Sys} (hS:Only S 5)
include hS

theorem lowest_all (v1 v2:Value) (x y:Int) (l1 l2:Nat) (H:Heap) (hg:Grp H) (hL:H.low ≤ H.size) (hy:0 < y) (h1:BigIs H v1 x l1) (h2:BigIs H v2 y l2) (hl1:l1 ≤ 400) (hl2:l2 ≤ 400):∃ H' v,Keep H H' ∧ Grp H' ∧ QV H' v x y ∧ Runs Tryz.prog S (.fn 42) [v1,v2] H v H':=by
  by_cases hx:x < 0
  · obtain ⟨H',v,k1,k2,k3,k4⟩:=lowest_neg hS v1 v2 x y l1 l2 H hg hL hx hy h1 h2 hl1 hl2;exact ⟨H',v,k1,k2,QV.of hy k3,k4⟩
  · obtain ⟨H',v,k1,k2,k3,k4⟩:=lowest_runs hS v1 v2 x y l1 l2 H hg hL (by omega) hy h1 h2 hl1 hl2
    have hxn:x.natAbs = x.toNat:=by omega
    rw [← hxn] at k3;exact ⟨H',v,k1,k2,QV.of hy k3,k4⟩
end Go.Proofs.YtdfjaoncabanbaaGreatDoor

namespace Go.Proofs.YtdfjaoncabanbaaGreatDoor
open Go Go.AM
set_option maxRecDepth 10000

theorem drawnBig {S:AM.Sys} {f:FuncId} {args:List Value} {H:Heap} {z:Int} {lo:Nat} (hL:H.low ≤ H.size) (h:BigOut S f args (H.relow H.size) z lo) :
    ∃ v H4 H5,Keep H H5 ∧ H5.low ≤ H5.size ∧ (∀ (K:Value → Heap → Prop) (b:Blk K),sxCallB Tryz.prog S (.fn f) args (H.relow H.size) K b = K v H4) ∧ (∀ (all:List Oper) (n:Nat) (k:Heap → Prop),sxD all n H H4 k = k H5) ∧ BigIs H5 v z lo:=by
  obtain ⟨H6,v,hK6,hg6,hb,hR⟩:=h;exact ⟨v,H6,H6.relow (Nat.min H.low H6.low),Keep.draw hK6,(Keep.draw hK6).low hL,hR.bx,fun all n k => sxD_keep hK6 k,hb.addr0⟩
def QOut (S:AM.Sys) (f:FuncId) (args:List Value) (H:Heap) (n d:Int):Prop:=∃ H' v,Keep H H' ∧ Grp H' ∧ QV H' v n d ∧ Runs Tryz.prog S (.fn f) args H v H'
theorem drawnQ {S:AM.Sys} {f:FuncId} {args:List Value} {H:Heap} {n d:Int} (hL:H.low ≤ H.size) (h:QOut S f args (H.relow H.size) n d) :
    ∃ v H4 H5,Keep H H5 ∧ H5.low ≤ H5.size ∧ (∀ (K:Value → Heap → Prop) (b:Blk K),sxCallB Tryz.prog S (.fn f) args (H.relow H.size) K b = K v H4) ∧ (∀ (all:List Oper) (n:Nat) (k:Heap → Prop),sxD all n H H4 k = k H5) ∧ QV H5 v n d:=by
  obtain ⟨H6,v,hK6,hg6,hb,hR⟩:=h;exact ⟨v,H6,H6.relow (Nat.min H.low H6.low),Keep.draw hK6,(Keep.draw hK6).low hL,hR.bx,fun all n k => sxD_keep hK6 k,hb.addr⟩
theorem retQV {H:Heap} {r:Nat} (h:Own H r 48 [.bool false,.slice none 0 0,.bool false,.slice none 0 0]) {v:Value} {n d:Int} (hq:QV H v n d) :
    ∃ H2,aStore Tryz.prog H 48 (.pointer (some ⟨r,0,none⟩)) v = some H2 ∧ aLoad Tryz.prog H2 48 (.pointer (some ⟨r,0,none⟩)) = some v ∧ QV H2 v n d ∧ (∀ H0,Keep H0 H → H0.size ≤ r → Keep H0 H2):=by
  obtain ⟨n',d',h1,h2⟩:=hq;obtain ⟨H2,k1,k2,k3,k4⟩:=retQ h h1;exact ⟨H2,k1,k2,⟨n',d',k3,h2⟩,k4⟩
theorem endQ {S:AM.Sys} {f:FuncId} {args:List Value} {H0 H:Heap} {r:Nat} (hk:Keep H0 H) (hr:H0.size ≤ r) (hL:H.low ≤ H.size) (hg0:Grp H0) (ow:Own H r 48 [.bool false,.slice none 0 0,.bool false,.slice none 0 0]) {n d:Int} (h:QOut S f args (H.relow H.size) n d) :
    ∃ v H6 H7 H8,(∀ (K:Value → Heap → Prop) (b:Blk K),sxCallB Tryz.prog S (.fn f) args (H.relow H.size) K b = K v H6) ∧ (∀ (all:List Oper) (n:Nat) (k:Heap → Prop),sxD all n H H6 k = k H7) ∧
      aStore Tryz.prog (H7.relow H7.size) 48 (.pointer (some ⟨r,0,none⟩)) v = some H8 ∧ aLoad Tryz.prog H8 48 (.pointer (some ⟨r,0,none⟩)) = some v ∧ H7.low ≤ H7.size ∧
      Keep H0 (H8.relow (Nat.min H7.low H8.low)) ∧ Grp (H8.relow (Nat.min H7.low H8.low)) ∧ QV (H8.relow (Nat.min H7.low H8.low)) v n d:=by
  obtain ⟨H6,v,hK6,hg6,hb,hR⟩:=h;have hK67:=Keep.draw hK6;have hK7:=hk.trans hK67;have ow7:=(ow.keep hK67).addr (l:=(H6.relow (Nat.min H.low H6.low)).size);obtain ⟨H8,ps,hld,hq,hkp⟩:=retQV ow7 (hb.addr.addr);have hK8:=Keep.lower hK7 (hkp H0 (hK7.trans (Keep.relowS _)) hr);exact ⟨v,H6,H6.relow (Nat.min H.low H6.low),H8,hR.bx,fun all n k => sxD_keep hK6 k,ps,hld,hK67.low hL,hK8,hK8.grp hg0,hq.addr⟩
theorem cross {n1 d1 n1' d1' n2 d2 n2' d2':Int} (h1:n1' * d1 = n1 * d1') (h2:n2' * d2 = n2 * d2'):(n1' * n2') * (d1 * d2) = (n1 * n2) * (d1' * d2'):=by
  calc (n1' * n2') * (d1 * d2) = (n1' * d1) * (n2' * d2):=by ac_rfl
    _ = (n1 * d1') * (n2 * d2'):=by rw [h1,h2]
    _ = (n1 * n2) * (d1' * d2'):=by ac_rfl
theorem cross1 {n1 d1 n1' d1' d2 d2':Int} (h1:n1' * d1 = n1 * d1'):(n1' * d2') * (d1 * d2) = (n1 * d2) * (d1' * d2'):=by
  calc (n1' * d2') * (d1 * d2) = (n1' * d1) * (d2' * d2):=by ac_rfl
    _ = (n1 * d1') * (d2' * d2):=by rw [h1]
    _ = (n1 * d2) * (d1' * d2'):=by ac_rfl
theorem cross_add {n1 d1 n1' d1' n2 d2 n2' d2':Int} (h1:n1' * d1 = n1 * d1') (h2:n2' * d2 = n2 * d2'):(n1' * d2' + n2' * d1') * (d1 * d2) = (n1 * d2 + n2 * d1) * (d1' * d2'):=by
  have a:=cross1 (d2:=d2) (d2':=d2') h1;have b:=cross1 (d2:=d1) (d2':=d1') h2;rw [Int.add_mul,Int.add_mul,a,Int.mul_comm d1 d2,b,Int.mul_comm d2' d1']
theorem sgn3_mul {x y k:Int} (hk:0 < k):sgn3 (x * k) (y * k) = sgn3 x y:=by
  unfold sgn3;have a:∀ p q:Int,(p * k < q * k) = (p < q):=fun p q => propext (Int.mul_lt_mul_right hk)
  simp only [a]
theorem sgn3_cross {n1 d1 n1' d1' n2 d2 n2' d2':Int} (h1:n1' * d1 = n1 * d1') (h2:n2' * d2 = n2 * d2') (p1:0 < d1) (p2:0 < d2) (p3:0 < d1') (p4:0 < d2'):sgn3 (n1' * d2') (n2' * d1') = sgn3 (n1 * d2) (n2 * d1):=by
  rw [← sgn3_mul (Int.mul_pos p1 p2),cross1 h1,Int.mul_comm d1 d2,cross1 h2,Int.mul_comm d2' d1',sgn3_mul (Int.mul_pos p3 p4)]

variable {S:AM.Sys} (hS:Only S 5)
include hS

theorem Cmp_all (v1 v2:Value) (n1 d1 n2 d2:Int) (H:Heap) (hg:Grp H) (hL:H.low ≤ H.size) (h1:QV H v1 n1 d1) (h2:QV H v2 n2 d2) (z1:0 < d1) (z2:0 < d2):∃ H',Keep H H' ∧ Runs Tryz.prog S (.fn 28) [v1,v2] H (.int .i64 (sgn3 (n1 * d2) (n2 * d1))) H':=by
  obtain ⟨n1',d1',q1,p1,_,c1⟩:=h1;obtain ⟨n2',d2',q2,p2,_,c2⟩:=h2;obtain ⟨H',k1,k2⟩:=Cmp_runs hS v1 v2 n1' d1' n2' d2' 400 H hg hL q1 q2 (Nat.le_refl _);rw [sgn3_cross c1 c2 z1 z2 p1 p2] at k2;exact ⟨H',k1,k2⟩

theorem Mul_all (v1 v2:Value) (n1 d1 n2 d2:Int) (H:Heap) (hg:Grp H) (hL:H.low ≤ H.size) (h1:QV H v1 n1 d1) (h2:QV H v2 n2 d2) (z1:0 < d1) (z2:0 < d2) (b1:(n1.natAbs:Int) < 10000 ^ 20) (b2:d1 < 10000 ^ 20) (b3:(n2.natAbs:Int) < 10000 ^ 20) (b4:d2 < 10000 ^ 20):QOut S 21 [v1,v2] H (n1 * n2) (d1 * d2):=by
  suffices h:WCall Tryz.prog S (.fn 21) [v1,v2] H (fun v H' => Keep H H' ∧ Grp H' ∧ QV H' v (n1 * n2) (d1 * d2)) by
    obtain ⟨v,H',hr,h1,h2,h3⟩:=h; exact ⟨H',v,h1,h2,h3,hr⟩
  obtain ⟨m1,e1,⟨t1,t2,t3,t4,rfl,p1,p2⟩,y1,_,c1⟩:=h1.short z1 b1 b2;obtain ⟨m2,e2,⟨t5,t6,t7,t8,rfl,p3,p4⟩,y2,_,c2⟩:=h2.short z2 b3 b4;clear b1 b2 b3 b4 h1 h2;obtain ⟨H1,b1,hK1,hs1,zz1,hr1⟩:=box1 H [t1,t2,t3,t4] 48;obtain ⟨H2,b2,hK2,hs2,zz2,hr2⟩:=box1 H1 [t5,t6,t7,t8] 48;obtain ⟨H2r,b3,hK3,hs3,zz3,hr3⟩:=box1 H2 [.bool false,.slice none 0 0,.bool false,.slice none 0 0] 48;have ow3:Own H2r H2.size 48 [.bool false,.slice none 0 0,.bool false,.slice none 0 0]:=(b3 ▸ Own.new H2 _ _);clear zz1 zz2 zz3 hr3;have lt1:=Nat.lt_of_lt_of_le hs1 (hK2.trans hK3).size;have lt2:=Nat.lt_of_lt_of_le hs2 hK3.size;have q0:H2r.read H.size 0 2 = some [t1,t2]:=(hK2.trans hK3).read hs1 (hr1 0 2 (show 0 + 2 ≤ 4 by omega))
  have q1:H2r.read H.size 2 2 = some [t3,t4]:=(hK2.trans hK3).read hs1 (hr1 2 2 (show 2 + 2 ≤ 4 by omega))
  have q2:H2r.read H1.size 0 2 = some [t5,t6]:=hK3.read hs2 (hr2 0 2 (show 0 + 2 ≤ 4 by omega))
  have q3:H2r.read H1.size 2 2 = some [t7,t8]:=hK3.read hs2 (hr2 2 2 (show 2 + 2 ≤ 4 by omega))
  have hK02:=(hK1.trans hK2).trans hK3;have hL2:=hK02.low hL;have hg2:=hK02.grp hg;replace p1:=p1.keep hK02;replace p2:=p2.keep hK02;replace p3:=p3.keep hK02;replace p4:=p4.keep hK02;have hra:=Keep.relowS H2r;obtain ⟨xa,Haa,Ha,hKa,hLa,fa,ga,bxa⟩:=drawnBig hL2 (Times_runs hS _ _ m1 m2 _ _ (H2r.relow H2r.size) (hra.grp hg2) (Nat.le_refl _) ((p1).keep hra) ((p3).keep hra) (by omega) (by omega))
  have hga:=hKa.grp hg2;have hK2a:=hKa;have q1a:=hKa.read lt1 q1;have q3a:=hKa.read lt2 q3;have hrb:=Keep.relowS Ha;obtain ⟨xb,Hba,Hb,hKb,hLb,fb,gb,bxb⟩:=drawnBig hLa (Times_runs hS _ _ e1 e2 _ _ (Ha.relow Ha.size) (hrb.grp hga) (Nat.le_refl _) ((p2.keep hK2a).keep hrb) ((p4.keep hK2a).keep hrb) (by omega) (by omega))
  have hgb:=hKb.grp hga;have hK2b:=hKa.trans hKb;have hcr:=cross c1 c2;have hrz:=Keep.relowS Hb;have hob:=lowest_all hS xa xb (m1 * m2) (e1 * e2) _ _ (Hb.relow Hb.size) (hrz.grp hgb) (Nat.le_refl _) (Int.mul_pos y1 y2) ((bxa.keep hKb).keep hrz) ((bxb).keep hrz) (by omega) (by omega)
  have hob':QOut S 42 [xa,xb] (Hb.relow Hb.size) (n1 * n2) (d1 * d2):=by
    obtain ⟨Hz,vz,k1,k2,k3,k4⟩:=hob;exact ⟨Hz,vz,k1,k2,k3.as (Int.mul_pos y1 y2) hcr,k4⟩
  obtain ⟨v9,Hm,Hn,Ho,fm,fn,ps,hld,hLn,hK9,hg9,hq9⟩:=endQ (hK02.trans hK2b) (Nat.le_trans hK1.size hK2.size) hLb hg (ow3.keep hK2b) hob';have hc1:(Value.agg ⟨[t1,t2,t3,t4]⟩).cells.toList = [t1,t2,t3,t4]:=rfl;have hc2:(Value.agg ⟨[t5,t6,t7,t8]⟩).cells.toList = [t5,t6,t7,t8]:=rfl;refine call_of Tryz.func21 rfl (Nat.le_of_ble_eq_true rfl) (hS.no rfl _ _) ?_
  rw [Tryz.ntmps21,Tryz.results21];clear p1 p2 p3 p4 ow3 hob hob' c1 c2 hcr bxa bxb
  repeat' (first | simp only [↓Zabm,↓Zabo,↓Zabq,↓Zabp,↓Zaci,↓Zach,↓Zacb,↓Zaah,↓Zaby,↓Zabw,↓sxD_same,↓Zacn,↓Zaai,↓Zaal,↓Zaaq,↓Zaat,↓Zaan,↓Zaau,↓Zack,↓bxPut,↓Zabj,↓Zabh,↓Zacl,↓Zaav,↓Zaco,↓Zaba,↓Zaaz,Zacj,Zabs,Zabf,List.map,List.nil_append,List.append_nil,↓reduceIte,Nat.reduceEqDiff,Nat.reduceLT,and_self,Zaaa,Nat.add_zero,Option.map_some, *,argF,List.getD_cons_zero,List.getD_cons_succ,alQ,qaG0,qaG1,ldBig,Nat.zero_add] | (with_reducible first | refine Zabu (by assumption) (by decide +kernel) ?_ | refine Zabt (by decide +kernel) ?_ | refine Zaca (by decide +kernel) ?_ | refine Zabv ?_))
theorem Add_all (v1 v2:Value) (n1 d1 n2 d2:Int) (H:Heap) (hg:Grp H) (hL:H.low ≤ H.size) (h1:QV H v1 n1 d1) (h2:QV H v2 n2 d2) (z1:0 < d1) (z2:0 < d2) (b1:(n1.natAbs:Int) < 10000 ^ 20) (b2:d1 < 10000 ^ 20) (b3:(n2.natAbs:Int) < 10000 ^ 20) (b4:d2 < 10000 ^ 20):QOut S 20 [v1,v2] H (n1 * d2 + n2 * d1) (d1 * d2):=by
  suffices h:WCall Tryz.prog S (.fn 20) [v1,v2] H (fun v H' => Keep H H' ∧ Grp H' ∧ QV H' v (n1 * d2 + n2 * d1) (d1 * d2)) by
    obtain ⟨v,H',hr,h1,h2,h3⟩:=h; exact ⟨H',v,h1,h2,h3,hr⟩
  obtain ⟨m1,e1,⟨t1,t2,t3,t4,rfl,p1,p2⟩,y1,_,c1⟩:=h1.short z1 b1 b2;obtain ⟨m2,e2,⟨t5,t6,t7,t8,rfl,p3,p4⟩,y2,_,c2⟩:=h2.short z2 b3 b4;clear b1 b2 b3 b4 h1 h2;obtain ⟨H1,b1,hK1,hs1,zz1,hr1⟩:=box1 H [t1,t2,t3,t4] 48;obtain ⟨H2,b2,hK2,hs2,zz2,hr2⟩:=box1 H1 [t5,t6,t7,t8] 48;obtain ⟨H2r,b3,hK3,hs3,zz3,hr3⟩:=box1 H2 [.bool false,.slice none 0 0,.bool false,.slice none 0 0] 48;have ow3:Own H2r H2.size 48 [.bool false,.slice none 0 0,.bool false,.slice none 0 0]:=(b3 ▸ Own.new H2 _ _);clear zz1 zz2 zz3 hr3;have lt1:=Nat.lt_of_lt_of_le hs1 (hK2.trans hK3).size;have lt2:=Nat.lt_of_lt_of_le hs2 hK3.size;have q0:H2r.read H.size 0 2 = some [t1,t2]:=(hK2.trans hK3).read hs1 (hr1 0 2 (show 0 + 2 ≤ 4 by omega))
  have q1:H2r.read H.size 2 2 = some [t3,t4]:=(hK2.trans hK3).read hs1 (hr1 2 2 (show 2 + 2 ≤ 4 by omega))
  have q2:H2r.read H1.size 0 2 = some [t5,t6]:=hK3.read hs2 (hr2 0 2 (show 0 + 2 ≤ 4 by omega))
  have q3:H2r.read H1.size 2 2 = some [t7,t8]:=hK3.read hs2 (hr2 2 2 (show 2 + 2 ≤ 4 by omega))
  have hK02:=(hK1.trans hK2).trans hK3;have hL2:=hK02.low hL;have hg2:=hK02.grp hg;replace p1:=p1.keep hK02;replace p2:=p2.keep hK02;replace p3:=p3.keep hK02;replace p4:=p4.keep hK02;have hra:=Keep.relowS H2r;obtain ⟨xa,Haa,Ha,hKa,hLa,fa,ga,bxa⟩:=drawnBig hL2 (Times_runs hS _ _ m1 e2 _ _ (H2r.relow H2r.size) (hra.grp hg2) (Nat.le_refl _) ((p1).keep hra) ((p4).keep hra) (by omega) (by omega))
  have hga:=hKa.grp hg2;have hK2a:=hKa;have q2a:=hKa.read lt2 q2;have q1a:=hKa.read lt1 q1;have hrb:=Keep.relowS Ha;obtain ⟨xb,Hba,Hb,hKb,hLb,fb,gb,bxb⟩:=drawnBig hLa (Times_runs hS _ _ m2 e1 _ _ (Ha.relow Ha.size) (hrb.grp hga) (Nat.le_refl _) ((p3.keep hK2a).keep hrb) ((p2.keep hK2a).keep hrb) (by omega) (by omega))
  have hgb:=hKb.grp hga;have hK2b:=hKa.trans hKb;have hrc:=Keep.relowS Hb;obtain ⟨xc,Hca,Hc,hKc,hLc,fc,gc,bxc⟩:=drawnBig hLb (Plus_runs hS _ _ (m1 * e2) (m2 * e1) _ _ (Hb.relow Hb.size) (hrc.grp hgb) (Nat.le_refl _) ((bxa.keep hKb).keep hrc) ((bxb).keep hrc) (by omega) (by omega))
  have hgc:=hKc.grp hgb;have hK2c:=hK2b.trans hKc;have q1c:=hK2c.read lt1 q1;have q3c:=hK2c.read lt2 q3;have hrd:=Keep.relowS Hc;obtain ⟨xd,Hda,Hd,hKd,hLd,fd,gd,bxd⟩:=drawnBig hLc (Times_runs hS _ _ e1 e2 _ _ (Hc.relow Hc.size) (hrd.grp hgc) (Nat.le_refl _) ((p2.keep hK2c).keep hrd) ((p4.keep hK2c).keep hrd) (by omega) (by omega))
  have hgd:=hKd.grp hgc;have hK2d:=hK2c.trans hKd;have hcr:=cross_add c1 c2;have hrz:=Keep.relowS Hd;have hob:=lowest_all hS xc xd (m1 * e2 + m2 * e1) (e1 * e2) _ _ (Hd.relow Hd.size) (hrz.grp hgd) (Nat.le_refl _) (Int.mul_pos y1 y2) ((bxc.keep hKd).keep hrz) ((bxd).keep hrz) (by omega) (by omega)
  have hob':QOut S 42 [xc,xd] (Hd.relow Hd.size) (n1 * d2 + n2 * d1) (d1 * d2):=by
    obtain ⟨Hz,vz,k1,k2,k3,k4⟩:=hob;exact ⟨Hz,vz,k1,k2,k3.as (Int.mul_pos y1 y2) hcr,k4⟩
  obtain ⟨v9,Hm,Hn,Ho,fm,fn,ps,hld,hLn,hK9,hg9,hq9⟩:=endQ (hK02.trans hK2d) (Nat.le_trans hK1.size hK2.size) hLd hg (ow3.keep hK2d) hob';have hc1:(Value.agg ⟨[t1,t2,t3,t4]⟩).cells.toList = [t1,t2,t3,t4]:=rfl;have hc2:(Value.agg ⟨[t5,t6,t7,t8]⟩).cells.toList = [t5,t6,t7,t8]:=rfl;refine call_of Tryz.func20 rfl (Nat.le_of_ble_eq_true rfl) (hS.no rfl _ _) ?_
  rw [Tryz.ntmps20,Tryz.results20];clear p1 p2 p3 p4 ow3 hob hob' c1 c2 hcr bxa bxb bxc bxd
  repeat' (first | simp only [↓Zabm,↓Zabo,↓Zabq,↓Zabp,↓Zaci,↓Zach,↓Zacb,↓Zaah,↓Zaby,↓Zabw,↓sxD_same,↓Zacn,↓Zaai,↓Zaal,↓Zaaq,↓Zaat,↓Zaan,↓Zaau,↓Zack,↓bxPut,↓Zabj,↓Zabh,↓Zacl,↓Zaav,↓Zaco,↓Zaba,↓Zaaz,Zacj,Zabs,Zabf,List.map,List.nil_append,List.append_nil,↓reduceIte,Nat.reduceEqDiff,Nat.reduceLT,and_self,Zaaa,Nat.add_zero,Option.map_some, *,argF,List.getD_cons_zero,List.getD_cons_succ,alQ,qaG0,qaG1,ldBig,Nat.zero_add] | (with_reducible first | refine Zabu (by assumption) (by decide +kernel) ?_ | refine Zabt (by decide +kernel) ?_ | refine Zaca (by decide +kernel) ?_ | refine Zabv ?_))
end Go.Proofs.YtdfjaoncabanbaaGreatDoor
