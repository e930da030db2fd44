/- Fractions, continued: the quotient; a fraction as a Ratio; of any two ints. -/
import Derived.Test.YtpeoleimmabceaaGreatBL
import Derived.Test.YtpeoleimmabceaaGreatBM
import Derived.Test.YtpeoleimmabceaaGreatBR
set_option linter.unusedVariables false
set_option linter.unusedSimpArgs false
set_option linter.unusedSectionVars false

namespace Go.Proofs.YtpeoleimmabceaaGreat
open Go Go.AM
set_option maxRecDepth 10000

theorem cross_div {n1 d1 n1' d1' n2 d2 n2' d2':Int} (h1:n1' * d1 = n1 * d1') (h2:n2' * d2 = n2 * d2'):(n1' * d2') * (d1 * n2) = (n1 * d2) * (d1' * n2'):=by
  calc (n1' * d2') * (d1 * n2) = (n1' * d1) * (n2 * d2'):=by ac_rfl
    _ = (n1 * d1') * (n2' * d2):=by rw [h1,h2]
    _ = (n1 * d2) * (d1' * n2'):=by ac_rfl
theorem low_eq {n d n' d':Int} (hd:0 < d) (hc:n.natAbs.gcd d.natAbs = 1) (hd':0 < d') (hc':n'.natAbs.gcd d'.natAbs = 1) (h:n' * d = n * d'):n' = n ∧ d' = d:=by
  have a:=(low_le hd hd' hc' h).1;have b:=(low_le hd' hd hc h.symm).1;obtain rfl:d' = d:=by omega
  exact ⟨Int.eq_of_mul_eq_mul_right (by omega) h,rfl⟩
theorem QV.low {H:Heap} {v:Value} {n d:Int} (h:QV H v n d) (hd:0 < d) (hc:n.natAbs.gcd d.natAbs = 1):QIs H v n d 400:=by
  obtain ⟨n',d',q,h1,h2,h3⟩:=h;obtain ⟨rfl,rfl⟩:=low_eq hd hc h1 h2 h3;exact q

variable {S:AM.Sys} (hS:Only S 5)
include hS

theorem Div_all (v1 v2:Value) (n1 d1 n2 d2:Int) (H:Heap) (hg:Grp H) (hL:H.low ≤ H.size) (h1:QV H v1 n1 d1) (h2:QV H v2 n2 d2) (z1:0 < d1) (z2:0 < d2) (b1:(n1.natAbs:Int) < 10000 ^ 20) (b2:d1 < 10000 ^ 20) (b3:(n2.natAbs:Int) < 10000 ^ 20) (b4:d2 < 10000 ^ 20) (z5:0 < n2):QOut S 30 [v1,v2] H (n1 * d2) (d1 * n2):=by
  suffices h:WCall Tryz.prog S (.fn 30) [v1,v2] H (fun v H' => Keep H H' ∧ Grp H' ∧ QV H' v (n1 * d2) (d1 * n2)) by
    obtain ⟨v,H',hr,h1,h2,h3⟩:=h; exact ⟨H',v,h1,h2,h3,hr⟩
  obtain ⟨m1,e1,⟨t1,t2,t3,t4,rfl,p1,p2⟩,y1,_,c1⟩:=h1.short z1 b1 b2;obtain ⟨m2,e2,⟨t5,t6,t7,t8,rfl,p3,p4⟩,y2,_,c2⟩:=h2.short z2 b3 b4;have y3:0 < m2:=by
    have h:=Int.mul_pos z5 y2;rw [← c2] at h;exact Int.pos_of_mul_pos_left h z2
  clear b1 b2 b3 b4 h1 h2;obtain ⟨H1,b1,hK1,hs1,zz1,hr1⟩:=box1 H [t1,t2,t3,t4] 53;obtain ⟨H2,b2,hK2,hs2,zz2,hr2⟩:=box1 H1 [t5,t6,t7,t8] 53;obtain ⟨H2r,b3,hK3,hs3,zz3,hr3⟩:=box1 H2 [.bool false,.slice none 0 0,.bool false,.slice none 0 0] 53;have ow3:Own H2r H2.size 53 [.bool false,.slice none 0 0,.bool false,.slice none 0 0]:=(b3 ▸ Own.new H2 _ _);clear zz1 zz2 zz3 hr3;have lt1:=Nat.lt_of_lt_of_le hs1 (hK2.trans hK3).size;have lt2:=Nat.lt_of_lt_of_le hs2 hK3.size;have q0:H2r.read H.size 0 2 = some [t1,t2]:=(hK2.trans hK3).read hs1 (hr1 0 2 (show 0 + 2 ≤ 4 by omega))
  have q1:H2r.read H.size 2 2 = some [t3,t4]:=(hK2.trans hK3).read hs1 (hr1 2 2 (show 2 + 2 ≤ 4 by omega))
  have q2:H2r.read H1.size 0 2 = some [t5,t6]:=hK3.read hs2 (hr2 0 2 (show 0 + 2 ≤ 4 by omega))
  have q3:H2r.read H1.size 2 2 = some [t7,t8]:=hK3.read hs2 (hr2 2 2 (show 2 + 2 ≤ 4 by omega))
  have hK02:=(hK1.trans hK2).trans hK3;have hL2:=hK02.low hL;have hg2:=hK02.grp hg;replace p1:=p1.keep hK02;replace p2:=p2.keep hK02;replace p3:=p3.keep hK02;replace p4:=p4.keep hK02;have hra:=Keep.relowS H2r;obtain ⟨xa,Haa,Ha,hKa,hLa,fa,ga,bxa⟩:=drawnBig hL2 (Times_runs hS _ _ m1 e2 _ _ (H2r.relow H2r.size) (hra.grp hg2) (Nat.le_refl _) ((p1).keep hra) ((p4).keep hra) (by omega) (by omega))
  have hga:=hKa.grp hg2;have hK2a:=hKa;have q1a:=hKa.read lt1 q1;have q2a:=hKa.read lt2 q2;have hrb:=Keep.relowS Ha;obtain ⟨xb,Hba,Hb,hKb,hLb,fb,gb,bxb⟩:=drawnBig hLa (Times_runs hS _ _ e1 m2 _ _ (Ha.relow Ha.size) (hrb.grp hga) (Nat.le_refl _) ((p2.keep hK2a).keep hrb) ((p3.keep hK2a).keep hrb) (by omega) (by omega))
  have hgb:=hKb.grp hga;have hK2b:=hKa.trans hKb;have hcr:=cross_div c1 c2;have hrz:=Keep.relowS Hb;have hob:=lowest_all hS xa xb (m1 * e2) (e1 * m2) _ _ (Hb.relow Hb.size) (hrz.grp hgb) (Nat.le_refl _) (Int.mul_pos y1 y3) ((bxa.keep hKb).keep hrz) ((bxb).keep hrz) (by omega) (by omega)
  have hob':QOut S 60 [xa,xb] (Hb.relow Hb.size) (n1 * d2) (d1 * n2):=by
    obtain ⟨Hz,vz,k1,k2,k3,k4⟩:=hob;exact ⟨Hz,vz,k1,k2,k3.as (Int.mul_pos y1 y3) hcr,k4⟩
  obtain ⟨v9,Hm,Hn,Ho,fm,fn,ps,hld,hLn,hK9,hg9,hq9⟩:=endQ (hK02.trans hK2b) (Nat.le_trans hK1.size hK2.size) hLb hg (ow3.keep hK2b) hob';have hc1:(Value.agg ⟨[t1,t2,t3,t4]⟩).cells.toList = [t1,t2,t3,t4]:=rfl;have hc2:(Value.agg ⟨[t5,t6,t7,t8]⟩).cells.toList = [t5,t6,t7,t8]:=rfl;refine Zaaw Tryz.func30 rfl (Nat.le_of_ble_eq_true rfl) (hS.no rfl _ _) ?_
  rw [Tryz.ntmps30,Tryz.results30];clear p1 p2 p3 p4 ow3 hob hob' c1 c2 hcr bxa bxb
  repeat' (first | simp only [↓Zabn,↓Zabp,↓Zabr,↓Zabq,↓Zacj,↓Zaci,↓Zacd,↓Zaag,↓Zaca,↓Zaby,↓sxD_same,↓Zaco,↓Zaah,↓bxOp_box,↓Zaap,↓Zaas,↓Zaam,↓Zaat,↓Zacl,↓bxPut,↓Zabk,↓Zabi,↓Zacm,↓Zaau,↓Zacp,↓Zaba,↓Zaaz,Zack,Zabt,Zabg,List.map_cons,List.map_nil,List.nil_append,List.append_nil,↓reduceIte,Nat.reduceEqDiff,Nat.reduceLT,and_self,Zaaa,Nat.add_zero,Option.map_some, *,argF,List.getD_cons_zero,List.getD_cons_succ,alQ,qaG0,qaG1,ldBig,Nat.zero_add] | (with_reducible first | refine Zabv (by assumption) (by decide +kernel) ?_ | refine Zabu (by decide +kernel) ?_ | refine Zacc (by decide +kernel) ?_ | refine Zabx ?_))
theorem Frac_any (x y:Int) (H:Heap) (hg:Grp H) (hL:H.low ≤ H.size) (hx:-9223372036854775808 ≤ x ∧ x ≤ 9223372036854775807) (hy:0 < y) (hy2:y ≤ 9223372036854775807):QOut S 23 [.int .i64 x,.int .i64 y] H x y:=by
  suffices h:WCall Tryz.prog S (.fn 23) [.int .i64 x,.int .i64 y] H (fun v H' => Keep H H' ∧ Grp H' ∧ QV H' v x y) by
    obtain ⟨v,H',hr,h1,h2,h3⟩:=h; exact ⟨H',v,h1,h2,h3,hr⟩
  obtain ⟨H3,b3,hK3,hs3,zz3,hr3⟩:=box1 H [.bool false,.slice none 0 0,.bool false,.slice none 0 0] 53;have ow3:Own H3 H.size 53 [.bool false,.slice none 0 0,.bool false,.slice none 0 0]:=(b3 ▸ Own.new H _ _);clear zz3 hr3;have hob:=Of_runs hS x H3 (hK3.grp hg) (hK3.low hL) (by omega)
  obtain ⟨H4,vx,hK4,hg4,bx,hR4⟩:=hob;have f4:=hR4.bx;have hob5:=Of_runs hS y H4 hg4 ((hK3.trans hK4).low hL) (by omega)
  obtain ⟨H5,vy,hK5,hg5,by',hR5⟩:=hob5
  have f5:=hR5.bx;have hob6:=lowest_all hS vx vy x y 5 5 H5 hg5 (((hK3.trans hK4).trans hK5).low hL) hy (bx.keep hK5) by' (by omega) (by omega)
  obtain ⟨H6,vq,hK6,hg6,hq,hR6⟩:=hob6;have f6:=hR6.bx;have hK36:=(hK4.trans hK5).trans hK6;obtain ⟨H7,ps,hld,hq7,hkp⟩:=retQV (ow3.keep hK36) hq;have hK7:=hkp H (hK3.trans hK36) (Nat.le_refl _);have hg7:=hK7.grp hg;refine Zaaw Tryz.func23 rfl (Nat.le_of_ble_eq_true rfl) (hS.no rfl _ _) ?_
  rw [Tryz.ntmps23,Tryz.results23];clear hR4 hR5 hR6 bx by' hq ow3 hkp
  repeat' (first | simp only [↓Zabp,↓Zabr,↓Zabq,↓Zacj,↓Zaci,↓Zaco,↓Zaaq,↓Zaah,↓Zaas,↓Zaat,↓Zacl,↓bxPut,↓Zabk,↓Zabi,↓Zacm,↓Zaau,↓Zacp,↓Zaba,↓Zaaz,Zack,Zabt,Zabg,List.map_cons,List.map_nil,List.nil_append,List.append_nil,↓reduceIte,Nat.reduceEqDiff,Nat.reduceLT,and_self, *,argF,List.getD_cons_zero,List.getD_cons_succ,alQ])
end Go.Proofs.YtpeoleimmabceaaGreat

namespace Go.Proofs.YtpeoleimmabceaaGreat
open Go Go.AM
set_option maxRecDepth 10000

theorem BigIs.ge {H H':Heap} {v:Value} {z:Int} {lo:Nat} (h:BigIs H v z lo) (hk:Ge 0 H H'):BigIs H' v z lo:=by
  obtain ⟨v',w,r,o,h1,h2,h3⟩:=h;exact ⟨v',w,r,o,h1,h2.ge (stable_int _ 0) (fun _ => Nat.zero_le _) hk,h3⟩
theorem QV.ge {H H':Heap} {v:Value} {n d:Int} (h:QV H v n d) (hk:Ge 0 H H'):QV H' v n d:=by
  obtain ⟨n',d',⟨s1,w1,s2,w2,h1,h2,h3⟩,h4⟩:=h;exact ⟨n',d',⟨s1,w1,s2,w2,h1,h2.ge hk,h3.ge hk⟩,h4⟩
def qdE (D:Int):Enc Int where
  sz:=4
  At:=fun H x cs => QV H (.agg ⟨cs⟩) x D
  len:=fun h => h.shape.2.len
  keep:=fun hk h => h.keep hk
theorem stable_qd (D:Int):Stable (qdE D) 0:=fun hk h => QV.ge h hk
theorem QV.agg {H:Heap} {v:Value} {n d:Int} (h:QV H v n d):∃ s1 a1 n1 c1 s2 a2 n2 c2,v = .agg ⟨[.bool s1,.slice a1 n1 c1,.bool s2,.slice a2 n2 c2]⟩:=by
  obtain ⟨h1,s1,a1,n1,c1,s2,a2,n2,c2,h2⟩:=h.shape;exact ⟨s1,a1,n1,c1,s2,a2,n2,c2,by rw [h1,h2]⟩
theorem okQ:ElemOk Tryz.prog #[37,37] 53 4:=⟨⟨37,37,_,Tryz.t53,.agg ⟨[.bool false,.slice none 0 0,.bool false,.slice none 0 0]⟩,rfl,rfl,Tryz.underlying37,Tryz.underlying37,rfl,by kernel_rfl,by kernel_rfl,by kernel_rfl,by kernel_rfl,of_decide_eq_true (by kernel_rfl)⟩,by show 0 < 4; decide⟩
theorem bsQ1 (H:Heap) (s1 s2:Bool) (a1 a2:Option Addr) (n1 n2 c1 c2:Nat):aBuildSlice Tryz.prog H 37 1 [(0,.agg ⟨[.bool s1,.slice a1 n1 c1,.bool s2,.slice a2 n2 c2]⟩)] = some (.slice (some ⟨H.size,0,none⟩) 1 1,H.newExact [.bool s1,.slice a1 n1 c1,.bool s2,.slice a2 n2 c2] 53):=by kernel_rfl
variable {D:Int} {L:Nat} {H:Heap} {v:Value} {xs:List Int} {r o:Nat}
theorem pushQ (hg:Grp H) (h:LstG (qdE D) 53 L H v xs) (hL:L ≤ H.size) {x:Value} {z:Int} (hx:QV H x z D) (hs:xs.length + 1 ≤ 268435456) :
    ∃ H1 v2 H2,aBuildSlice Tryz.prog H 37 1 [(0,x)] = some (.slice (some ⟨H.size,0,none⟩) 1 1,H1) ∧ aAppend Tryz.prog H1 #[37,37] v (.slice (some ⟨H.size,0,none⟩) 1 1) = some (v2,H2) ∧ LstG (qdE D) 53 L H2 v2 (xs ++ [z]) ∧ Grow L H H2:=by
  obtain ⟨s1,a1,n1,c1,s2,a2,n2,c2,rfl⟩:=hx.agg;obtain ⟨v2,H2,h1,h2,h3⟩:=h.push (P:=Tryz.prog) (ts:=#[37,37]) okQ (stable_qd D) hg hL (x:=z) (es:=[.bool s1,.slice a1 n1 c1,.bool s2,.slice a2 n2 c2]) hx rfl hs 53;exact ⟨_,v2,H2,bsQ1 _ _ _ _ _ _ _ _ _,h1,h2,h3⟩
theorem pushQD (hg:Grp H) (hlow:H.low ≤ H.size) (h:LstG (qdE D) 53 L H v xs) (hL:L ≤ H.size) {x:Value} {z:Int} (hx:QV H x z D) (hs:xs.length + 1 ≤ 268435456) :
    ∃ H1 H2 v2 H3 H4,aBuildSlice Tryz.prog (H.relow H.size) 37 1 [(0,x)] = some (.slice (some ⟨H.size,0,none⟩) 1 1,H1) ∧ (∀ (all:List Oper) (n:Nat) (k:Heap → Prop),sxD all n H H1 k = k H2) ∧ H2.low ≤ H2.size ∧
      aAppend Tryz.prog (H2.relow H2.size) #[37,37] v (.slice (some ⟨H.size,0,none⟩) 1 1) = some (v2,H3) ∧ H3.relow (Nat.min H2.low H3.low) = H4 ∧ LstG (qdE D) 53 L H4 v2 (xs ++ [z]) ∧
      (∀ H0,Grp H0 → Keep H0 H → H0.size ≤ L → Keep H0 H4) ∧ Grp H4 ∧ Ge 0 H H4 ∧ H4.low ≤ H4.size:=by
  obtain ⟨s1,a1,n1,c1,s2,a2,n2,c2,rfl⟩:=hx.agg;obtain ⟨H1,H2,v2,H3,H4,h1,h2,_,h3,h4,h5,h6,h7,h8,h9,h10⟩:=h.pushD (P:=Tryz.prog) (ts:=#[37,37]) okQ (stable_qd D) hg hlow hL (x:=z) (es:=[.bool s1,.slice a1 n1 c1,.bool s2,.slice a2 n2 c2]) hx rfl hs 53;exact ⟨H1,H2,v2,H3,H4,by rw [← h1]; exact bsQ1 _ _ _ _ _ _ _ _ _,h2,h3,h4,h5,h6,h7,h8,h9,h10⟩
theorem qd_at (h:SlE (qdE D) H v xs r o) {i:Nat} (hi:i < xs.length):∃ x q,aIndexAt Tryz.prog 37 v (.int .i64 (i:Int)) = some (.pointer (some ⟨r,q,none⟩)) ∧ aLoad Tryz.prog H 53 (.pointer (some ⟨r,q,none⟩)) = some x ∧ QV H x (xs.getD i 0) D ∧ ∃ es,H.read r q 4 = some es ∧ x = .agg ⟨es⟩:=by
  obtain ⟨a,c,rfl,ha⟩:=h.isv;obtain ⟨es,h1,h2⟩:=h.rd i hi;refine ⟨.agg ⟨es⟩,o + i * 4,?_,?_,h2,es,h1,rfl⟩
  · rw [ha (by omega),ixQ,if_pos ⟨by omega,by omega⟩,Int.toNat_natCast]
  · rw [ldQ];have:H.read r (o + i * 4) 4 = some es:=h1;rw [this]; rfl
theorem qd_ql (hD:0 < D) (h:SlE (qdE D) H v xs r o):∃ ys:List (Int × Int),SlE qE H v ys r o ∧ ys.length = xs.length ∧ ∀ i,i < xs.length → (ys.getD i default).1 * D = xs.getD i 0 * (ys.getD i default).2 ∧ 0 < (ys.getD i default).2 ∧ (ys.getD i default).1.natAbs.gcd (ys.getD i default).2.natAbs = 1:=by
  have hch:∀ i:Nat,∃ y:Int × Int,i < xs.length → ∃ es,H.read r (o + i * 4) 4 = some es ∧ QL H (.agg ⟨es⟩) y.1 y.2 ∧ y.1 * D = xs.getD i 0 * y.2:=fun i => by
    by_cases hi:i < xs.length
    · obtain ⟨es,h1,h2⟩:=h.rd i hi;obtain ⟨n',d',k1,k2⟩:=QV.ql h2;exact ⟨(n',d'),fun _ => ⟨es,h1,k1,k2⟩⟩
    · exact ⟨(0,0),fun hh => absurd hh hi⟩
  obtain ⟨f,hf⟩:=Classical.axiomOfChoice hch;have hg:∀ i,i < xs.length → ((List.range xs.length).map f).getD i default = f i:=fun i hi => by
    rw [List.getD_eq_getElem?_getD,List.getElem?_map,List.getElem?_range hi]; rfl
  refine ⟨(List.range xs.length).map f,⟨?_,fun i hi => ?_,fun h0 => h.lt (by simpa using h0),by simpa using h.ml⟩,by simp,fun i hi => ?_⟩
  · obtain ⟨a,c,e,ha⟩:=h.isv;exact ⟨a,c,by simpa using e,fun h0 => ha (by simpa using h0)⟩
  · have hi':i < xs.length:=by simpa using hi
    obtain ⟨es,h1,h2,_⟩:=hf i hi';refine ⟨es,h1,?_⟩;rw [hg i hi']; exact h2
  · obtain ⟨es,h1,h2,h3⟩:=hf i hi;rw [hg i hi];exact ⟨h3,h2.2.1,h2.2.2⟩
end Go.Proofs.YtpeoleimmabceaaGreat
