/- Fractions, continued: the product. -/
import Derived.Test.YtdfjaoncabanbaaDoorBCn
import Derived.Test.YtdfjaoncabanbaaDoorBI
set_option linter.unusedVariables false
set_option linter.unusedSimpArgs false
set_option linter.unusedSectionVars false

namespace Go.Proofs.YtdfjaoncabanbaaDoor
open Go Go.AM
set_option maxRecDepth 10000

theorem QIs.addr {H:Heap} {v:Value} {n d:Int} {lo l:Nat} (h:QIs H v n d lo):QIs (H.relow l) v n d lo:=by
  obtain ⟨a,b,c,e,h1,h2,h3⟩:=h;exact ⟨a,b,c,e,h1,h2.addr,h3.addr⟩

variable {S:AM.Sys} (hS:Only S 5)
include hS

end Go.Proofs.YtdfjaoncabanbaaDoor

namespace Go.Proofs.YtdfjaoncabanbaaDoor
open Go Go.AM
set_option maxRecDepth 10000

theorem BigIs.short {H:Heap} {v:Value} {z:Int} {lo:Nat} (h:BigIs H v z lo) {k:Nat} (hz:(z.natAbs:Int) < 10000 ^ k):BigIs H v z k:=by
  obtain ⟨v',w,r',o',h1,h2,h3,h4,h5,h6⟩:=h;refine ⟨v',w,r',o',h1,h2,h3,h4,h5,?_⟩;rcases Nat.lt_or_ge k w.length with hk | hk
  · exfalso;have h7:=(Dg.of h3 h4).ge (by omega)
    rw [Int.toNat_of_nonneg h3.nonneg,h5] at h7;have h8:=pow_mono (show k ≤ w.length - 1 by omega)
    omega
  · exact hk

def QV (H:Heap) (v:Value) (n d:Int):Prop:=
  ∃ n' d':Int,QIs H v n' d' 400 ∧ 0 < d' ∧ n'.natAbs.gcd d'.natAbs = 1 ∧ n' * d = n * d'

theorem QV.keep {H H':Heap} {v:Value} {n d:Int} (h:QV H v n d) (hk:Keep H H'):QV H' v n d:=by
  obtain ⟨n',d',⟨s1,w1,s2,w2,h1,h2,h3⟩,h4⟩:=h;exact ⟨n',d',⟨s1,w1,s2,w2,h1,h2.keep hk,h3.keep hk⟩,h4⟩
theorem QV.addr {H:Heap} {v:Value} {n d:Int} {l:Nat} (h:QV H v n d):QV (H.relow l) v n d:=by
  obtain ⟨n',d',⟨s1,w1,s2,w2,h1,h2,h3⟩,h4⟩:=h;exact ⟨n',d',⟨s1,w1,s2,w2,h1,h2.addr0,h3.addr0⟩,h4⟩
theorem QV.as {H:Heap} {v:Value} {n d n2 d2:Int} (h:QV H v n d) (hd:0 < d) (he:n * d2 = n2 * d):QV H v n2 d2:=by
  obtain ⟨n',d',h1,h2,h3,h4⟩:=h;refine ⟨n',d',h1,h2,h3,?_⟩;have h5:d * (n' * d2) = d * (n2 * d'):=by
    calc d * (n' * d2) = (n' * d) * d2:=by rw [Int.mul_comm n' d,Int.mul_assoc]
      _ = (n * d') * d2:=by rw [h4]
      _ = (n * d2) * d':=by rw [Int.mul_assoc,Int.mul_comm d' d2,← Int.mul_assoc]
      _ = (n2 * d) * d':=by rw [he]
      _ = d * (n2 * d'):=by rw [Int.mul_comm n2 d,Int.mul_assoc]
  exact Int.eq_of_mul_eq_mul_left (by omega) h5
theorem low_le {n d n' d':Int} (hd:0 < d) (h2:0 < d') (h3:n'.natAbs.gcd d'.natAbs = 1) (h4:n' * d = n * d'):d' ≤ d ∧ n'.natAbs ≤ n.natAbs:=by
  have h5:n'.natAbs * d.natAbs = n.natAbs * d'.natAbs:=by rw [← Int.natAbs_mul,← Int.natAbs_mul,h4]
  have h6:d'.natAbs ∣ n'.natAbs * d.natAbs:=⟨n.natAbs,by rw [h5,Nat.mul_comm]⟩
  have h7:d'.natAbs ∣ d.natAbs:=(Nat.Coprime.symm h3).dvd_of_dvd_mul_left h6;have h8:n'.natAbs ∣ n.natAbs * d'.natAbs:=⟨d.natAbs,h5.symm⟩;have h9:n'.natAbs ∣ n.natAbs:=(show Nat.Coprime n'.natAbs d'.natAbs from h3).dvd_of_dvd_mul_right h8
  have h10:=Nat.le_of_dvd (by omega) h7
  refine ⟨by omega,?_⟩
  rcases Nat.eq_zero_or_pos n.natAbs with h0 | h0
  · have:n'.natAbs * d.natAbs = 0:=by rw [h5,h0,Nat.zero_mul]
    rcases Nat.mul_eq_zero.1 this with h | h <;> omega
  · exact Nat.le_of_dvd h0 h9
theorem QV.short {H:Heap} {v:Value} {n d:Int} (h:QV H v n d) (hd:0 < d) {k:Nat} (b1:(n.natAbs:Int) < 10000 ^ k) (b2:d < 10000 ^ k) :
    ∃ n' d':Int,QIs H v n' d' k ∧ 0 < d' ∧ n'.natAbs.gcd d'.natAbs = 1 ∧ n' * d = n * d':=by
  obtain ⟨n',d',⟨s1,w1,s2,w2,h1,h2,h3⟩,h4,h5,h6⟩:=h;have h7:=low_le hd h4 h5 h6;exact ⟨n',d',⟨s1,w1,s2,w2,h1,h2.short (by omega),h3.short (by omega)⟩,h4,h5,h6⟩
theorem QV.of {H:Heap} {v:Value} {x y:Int} (hy:0 < y) (h:QIs H v (x / ((Nat.gcd x.natAbs y.toNat:Nat):Int)) (y / ((Nat.gcd x.natAbs y.toNat:Nat):Int)) 400):QV H v x y:=by
  have hyn:y.natAbs = y.toNat:=by omega
  have hgp:0 < Nat.gcd x.natAbs y.toNat:=Nat.gcd_pos_of_pos_right _ (by omega)
  have hdx:((Nat.gcd x.natAbs y.toNat:Nat):Int) ∣ x:=Int.ofNat_dvd_left.2 (Nat.gcd_dvd_left _ _);have hdy:((Nat.gcd x.natAbs y.toNat:Nat):Int) ∣ y:=Int.ofNat_dvd_left.2 (hyn ▸ Nat.gcd_dvd_right _ _);refine ⟨_,_,h,Int.ediv_pos_of_pos_of_dvd hy (by omega) hdy,?_,?_⟩
  · rw [Int.natAbs_ediv_of_dvd hdx,Int.natAbs_ediv_of_dvd hdy,hyn,Int.natAbs_natCast];exact Nat.coprime_div_gcd_div_gcd hgp
  · generalize ((Nat.gcd x.natAbs y.toNat:Nat):Int) = G at *;obtain ⟨p,rfl⟩:=hdx;obtain ⟨q,rfl⟩:=hdy;have hG:G ≠ 0:=fun h0 => by subst h0; omega
    rw [Int.mul_ediv_cancel_left _ hG,Int.mul_ediv_cancel_left _ hG,← Int.mul_assoc,Int.mul_comm p G,]

variable {S:AM.Sys} (hS:Only S 5)
include hS

theorem lowest_all (v1 v2:Value) (x y:Int) (l1 l2:Nat) (H:Heap) (hg:Grp H) (hL:H.low ≤ H.size) (hy:0 < y) (h1:BigIs H v1 x l1) (h2:BigIs H v2 y l2) (hl1:l1 ≤ 400) (hl2:l2 ≤ 400):∃ H' v,Keep H H' ∧ Grp H' ∧ QV H' v x y ∧ Runs Tryd.prog S (.fn 78) [v1,v2] H v H':=by
  by_cases hx:x < 0
  · obtain ⟨H',v,k1,k2,k3,k4⟩:=lowest_neg hS v1 v2 x y l1 l2 H hg hL hx hy h1 h2 hl1 hl2;exact ⟨H',v,k1,k2,QV.of hy k3,k4⟩
  · obtain ⟨H',v,k1,k2,k3,k4⟩:=lowest_runs hS v1 v2 x y l1 l2 H hg hL (by omega) hy h1 h2 hl1 hl2
    have hxn:x.natAbs = x.toNat:=by omega
    rw [← hxn] at k3;exact ⟨H',v,k1,k2,QV.of hy k3,k4⟩
end Go.Proofs.YtdfjaoncabanbaaDoor

namespace Go.Proofs.YtdfjaoncabanbaaDoor
open Go Go.AM
set_option maxRecDepth 10000

theorem drawnBig {S:AM.Sys} {f:FuncId} {args:List Value} {H:Heap} {z:Int} {lo:Nat} (hL:H.low ≤ H.size) (h:BigOut S f args (H.relow H.size) z lo) :
    ∃ v H4 H5,Keep H H5 ∧ H5.low ≤ H5.size ∧ (∀ (K:Value → Heap → Prop) (b:Blk K),sxCallB Tryd.prog S (.fn f) args (H.relow H.size) K b = K v H4) ∧ (∀ (all:List Oper) (n:Nat) (k:Heap → Prop),sxD all n H H4 k = k H5) ∧ BigIs H5 v z lo:=by
  obtain ⟨H6,v,hK6,hg6,hb,hR⟩:=h;exact ⟨v,H6,H6.relow (Nat.min H.low H6.low),Keep.draw hK6,(Keep.draw hK6).low hL,hR.bx,fun all n k => sxD_keep hK6 k,hb.addr0⟩
def QOut (S:AM.Sys) (f:FuncId) (args:List Value) (H:Heap) (n d:Int):Prop:=∃ H' v,Keep H H' ∧ Grp H' ∧ QV H' v n d ∧ Runs Tryd.prog S (.fn f) args H v H'
theorem drawnQ {S:AM.Sys} {f:FuncId} {args:List Value} {H:Heap} {n d:Int} (hL:H.low ≤ H.size) (h:QOut S f args (H.relow H.size) n d) :
    ∃ v H4 H5,Keep H H5 ∧ H5.low ≤ H5.size ∧ (∀ (K:Value → Heap → Prop) (b:Blk K),sxCallB Tryd.prog S (.fn f) args (H.relow H.size) K b = K v H4) ∧ (∀ (all:List Oper) (n:Nat) (k:Heap → Prop),sxD all n H H4 k = k H5) ∧ QV H5 v n d:=by
  obtain ⟨H6,v,hK6,hg6,hb,hR⟩:=h;exact ⟨v,H6,H6.relow (Nat.min H.low H6.low),Keep.draw hK6,(Keep.draw hK6).low hL,hR.bx,fun all n k => sxD_keep hK6 k,hb.addr⟩
theorem retQV {H:Heap} {r:Nat} (h:Own H r 68 [.bool false,.slice none 0 0,.bool false,.slice none 0 0]) {v:Value} {n d:Int} (hq:QV H v n d) :
    ∃ H2,aStore Tryd.prog H 68 (.pointer (some ⟨r,0,none⟩)) v = some H2 ∧ aLoad Tryd.prog H2 68 (.pointer (some ⟨r,0,none⟩)) = some v ∧ QV H2 v n d ∧ (∀ H0,Keep H0 H → H0.size ≤ r → Keep H0 H2):=by
  obtain ⟨n',d',h1,h2⟩:=hq;obtain ⟨H2,k1,k2,k3,k4⟩:=retQ h h1;exact ⟨H2,k1,k2,⟨n',d',k3,h2⟩,k4⟩
theorem endQ {S:AM.Sys} {f:FuncId} {args:List Value} {H0 H:Heap} {r:Nat} (hk:Keep H0 H) (hr:H0.size ≤ r) (hL:H.low ≤ H.size) (hg0:Grp H0) (ow:Own H r 68 [.bool false,.slice none 0 0,.bool false,.slice none 0 0]) {n d:Int} (h:QOut S f args (H.relow H.size) n d) :
    ∃ v H6 H7 H8,(∀ (K:Value → Heap → Prop) (b:Blk K),sxCallB Tryd.prog S (.fn f) args (H.relow H.size) K b = K v H6) ∧ (∀ (all:List Oper) (n:Nat) (k:Heap → Prop),sxD all n H H6 k = k H7) ∧
      aStore Tryd.prog (H7.relow H7.size) 68 (.pointer (some ⟨r,0,none⟩)) v = some H8 ∧ aLoad Tryd.prog H8 68 (.pointer (some ⟨r,0,none⟩)) = some v ∧ H7.low ≤ H7.size ∧
      Keep H0 (H8.relow (Nat.min H7.low H8.low)) ∧ Grp (H8.relow (Nat.min H7.low H8.low)) ∧ QV (H8.relow (Nat.min H7.low H8.low)) v n d:=by
  obtain ⟨H6,v,hK6,hg6,hb,hR⟩:=h;have hK67:=Keep.draw hK6;have hK7:=hk.trans hK67;have ow7:=(ow.keep hK67).addr (l:=(H6.relow (Nat.min H.low H6.low)).size);obtain ⟨H8,ps,hld,hq,hkp⟩:=retQV ow7 (hb.addr.addr);have hK8:=Keep.lower hK7 (hkp H0 (hK7.trans (Keep.relowS _)) hr);exact ⟨v,H6,H6.relow (Nat.min H.low H6.low),H8,hR.bx,fun all n k => sxD_keep hK6 k,ps,hld,hK67.low hL,hK8,hK8.grp hg0,hq.addr⟩
theorem cross1 {n1 d1 n1' d1' d2 d2':Int} (h1:n1' * d1 = n1 * d1'):(n1' * d2') * (d1 * d2) = (n1 * d2) * (d1' * d2'):=by
  calc (n1' * d2') * (d1 * d2) = (n1' * d1) * (d2' * d2):=by ac_rfl
    _ = (n1 * d1') * (d2' * d2):=by rw [h1]
    _ = (n1 * d2) * (d1' * d2'):=by ac_rfl
theorem sgn3_mul {x y k:Int} (hk:0 < k):sgn3 (x * k) (y * k) = sgn3 x y:=by
  unfold sgn3;have a:∀ p q:Int,(p * k < q * k) = (p < q):=fun p q => propext (Int.mul_lt_mul_right hk)
  simp only [a]
theorem sgn3_cross {n1 d1 n1' d1' n2 d2 n2' d2':Int} (h1:n1' * d1 = n1 * d1') (h2:n2' * d2 = n2 * d2') (p1:0 < d1) (p2:0 < d2) (p3:0 < d1') (p4:0 < d2'):sgn3 (n1' * d2') (n2' * d1') = sgn3 (n1 * d2) (n2 * d1):=by
  rw [← sgn3_mul (Int.mul_pos p1 p2),cross1 h1,Int.mul_comm d1 d2,cross1 h2,Int.mul_comm d2' d1',sgn3_mul (Int.mul_pos p3 p4)]

variable {S:AM.Sys} (hS:Only S 5)
include hS

theorem Cmp_all (v1 v2:Value) (n1 d1 n2 d2:Int) (H:Heap) (hg:Grp H) (hL:H.low ≤ H.size) (h1:QV H v1 n1 d1) (h2:QV H v2 n2 d2) (z1:0 < d1) (z2:0 < d2):∃ H',Keep H H' ∧ Runs Tryd.prog S (.fn 38) [v1,v2] H (.int .i64 (sgn3 (n1 * d2) (n2 * d1))) H':=by
  obtain ⟨n1',d1',q1,p1,_,c1⟩:=h1;obtain ⟨n2',d2',q2,p2,_,c2⟩:=h2;obtain ⟨H',k1,k2⟩:=Cmp_runs hS v1 v2 n1' d1' n2' d2' 400 H hg hL q1 q2 (Nat.le_refl _);rw [sgn3_cross c1 c2 z1 z2 p1 p2] at k2;exact ⟨H',k1,k2⟩

end Go.Proofs.YtdfjaoncabanbaaDoor

namespace Go.Proofs.YtdfjaoncabanbaaDoor
open Go Go.AM
set_option maxRecDepth 10000

def QShape (cells:List Value):Prop:=∃ s1 a1 n1 c1 s2 a2 n2 c2,cells = [.bool s1,.slice a1 n1 c1,.bool s2,.slice a2 n2 c2]
theorem QShape.len {cells:List Value} (h:QShape cells):cells.length = 4:=by
  obtain ⟨_,_,_,_,_,_,_,_,rfl⟩:=h; rfl
theorem QShape.empty:QShape [.bool false,.slice none 0 0,.bool false,.slice none 0 0]:=⟨_,_,_,_,_,_,_,_,rfl⟩
theorem QV.shape {H:Heap} {v:Value} {n d:Int} (h:QV H v n d):v = .agg ⟨v.cells.toList⟩ ∧ QShape v.cells.toList:=by
  obtain ⟨n',d',⟨t1,t2,t3,t4,rfl,q1,q2⟩,_⟩:=h;obtain ⟨u1,w1,r1,o1,hu1,s1,_⟩:=q1;obtain ⟨u2,w2,r2,o2,hu2,s2,_⟩:=q2;obtain ⟨a1,c1,rfl⟩:=s1.v0;obtain ⟨a2,c2,rfl⟩:=s2.v0;cases hu1;cases hu2;exact ⟨rfl,_,_,_,_,_,_,_,_,rfl⟩
theorem ne_rowG {H:Heap} {r:Nat} {e:TypeId} {cells:List Value} (h:Own H r e cells) (hs:QShape cells) {k:IntKind} {v:Value} {w:List Int} {r' o':Nat} (hx:SlI k H v w r' o') (h0:0 < w.length):r' ≠ r:=by
  intro he;subst he;have h1:=(hx.rdI h0).1;obtain ⟨_,_,_,_,_,_,_,_,rfl⟩:=hs
  by_cases hle:o' + 0 + 1 ≤ 4
  · rw [h.read (o:=o' + 0) (n:=1) hle] at h1;rcases o' with _ | _ | _ | _ | o';all_goals first | (simp at h1; done) | omega
  · unfold Heap.read at h1;rw [h.get] at h1;simp only [] at h1;rw [show Nat.ble (o' + 0 + 1) (List.length [_,_,_,_]) = false from Bool.eq_false_iff.2 (fun hb => hle (Nat.le_of_ble_eq_true hb))] at h1
    simp at h1
theorem QV.other {H H2:Heap} {r:Nat} {e t:TypeId} {cells:List Value} (h:Own H r e cells) (hc:QShape cells) {o:Nat} {u v:Value} (hs:aStore Tryd.prog H t (.pointer (some ⟨r,o,none⟩)) u = some H2) (hsz:H2.size = H.size) {n d:Int} (hq:QV H v n d):QV H2 v n d:=by
  obtain ⟨n',d',⟨t1,t2,t3,t4,rfl,q1,q2⟩,h4⟩:=hq;obtain ⟨u1,w1,r1,o1,hu1,s1,k1⟩:=q1;obtain ⟨u2,w2,r2,o2,hu2,s2,k2⟩:=q2;exact ⟨n',d',⟨t1,t2,t3,t4,rfl,⟨u1,w1,r1,o1,hu1,SlE.other h hs hsz s1 (ne_rowG h hc s1),k1⟩,⟨u2,w2,r2,o2,hu2,SlE.other h hs hsz s2 (ne_rowG h hc s2),k2⟩⟩,h4⟩
theorem storeQ {H:Heap} {r:Nat} {cells:List Value} (ow:Own H r 68 cells) (hs:QShape cells) {v:Value} {n d:Int} (hq:QV H v n d) :
    ∃ H2,aStore Tryd.prog H 68 (.pointer (some ⟨r,0,none⟩)) v = some H2 ∧ H2.size = H.size ∧ Own H2 r 68 v.cells.toList ∧ (∀ v' n' d',QV H v' n' d' → QV H2 v' n' d') ∧ (∀ r' e' c',r' ≠ r → Own H r' e' c' → Own H2 r' e' c') ∧ (∀ H0,Keep H0 H → H0.size ≤ r → Keep H0 H2):=by
  obtain ⟨hv,s1,a1,n1,c1,s2,a2,n2,c2,hcs⟩:=hq.shape;have hob:=ow.store (P:=Tryd.prog) (t:=68) (i:=Tryd.t68) (by kernel_rfl) (v:=v) (new:=[.bool s1,.slice a1 n1 c1,.bool s2,.slice a2 n2 c2]) hcs (by kernel_rfl) rfl (o:=0) (by rw [hs.len]; exact Nat.le_refl 4)
  obtain ⟨H2,h1,h2,h3,h4,h5⟩:=hob;refine ⟨H2,h1,h3,?_,fun v' n' d' hv' => hv'.other ow hs h1 h3,h4,h5⟩
  rw [hcs];have hl:=hs.len;obtain ⟨_,_,_,_,_,_,_,_,rfl⟩:=hs;exact h2
theorem own_ldQ {H:Heap} {r:Nat} {v:Value} {n d:Int} (h:Own H r 68 v.cells.toList) (hq:QV H v n d):aLoad Tryd.prog H 68 (.pointer (some ⟨r,0,none⟩)) = some v:=by
  obtain ⟨hv,hs⟩:=hq.shape;have hl:=hs.len;rw [Go.Proofs.YtdfjaoncabanbaaDoor.ldQ,h.read (o:=0) (n:=4) (by omega),List.drop_zero,← hl,List.take_length,Option.map_some,← hv]
end Go.Proofs.YtdfjaoncabanbaaDoor
