/- Fractions: in lowest terms. -/
import Derived.Test.YtcmaipijkjillaaDoorBB
set_option linter.unusedVariables false
set_option linter.unusedSimpArgs false
set_option linter.unusedSectionVars false

namespace Go.Proofs.YtcmaipijkjillaaDoor
open Go Go.AM
set_option maxRecDepth 10000

theorem alQ (H:Heap):aAlloc Tryd.prog H 37 = some (.pointer (some ⟨H.size,0,none⟩),H.newExact [.bool false,.slice none 0 0,.bool false,.slice none 0 0] 37):=by kernel_rfl
theorem ldQ (H:Heap) (r o:Nat):aLoad Tryd.prog H 37 (.pointer (some ⟨r,o,none⟩)) = (H.read r o 4).map fun l => .agg ⟨l⟩:=by kernel_rfl
theorem qaG0 (r o:Nat):aFieldAt Tryd.prog 37 0 (.pointer (some ⟨r,o,none⟩)) = some (.pointer (some ⟨r,o + 0,none⟩)):=by kernel_rfl
theorem qaG1 (r o:Nat):aFieldAt Tryd.prog 37 1 (.pointer (some ⟨r,o,none⟩)) = some (.pointer (some ⟨r,o + 2,none⟩)):=by kernel_rfl

def QIs (H:Heap) (v:Value) (n d:Int) (lo:Nat):Prop:=
  ∃ s1 w1 s2 w2,v = .agg ⟨[s1,w1,s2,w2]⟩ ∧ BigIs H (.agg ⟨[s1,w1]⟩) n lo ∧ BigIs H (.agg ⟨[s2,w2]⟩) d lo
theorem bdQ (s1 s2:Bool) (a1 a2:Option Addr) (n1 n2 c1 c2:Nat):aBuild Tryd.prog 37 [(0,.agg ⟨[.bool s1,.slice a1 n1 c1]⟩),(1,.agg ⟨[.bool s2,.slice a2 n2 c2]⟩)] = some (.agg ⟨[.bool s1,.slice a1 n1 c1,.bool s2,.slice a2 n2 c2]⟩):=by kernel_rfl
theorem stQ {H:Heap} {r:Nat} {cells:List Value} (h:Own H r 37 cells) (hl:cells.length = 4) (s1 s2:Bool) (a1 a2:Option Addr) (n1 n2 c1 c2:Nat) :
    ∃ H2,aStore Tryd.prog H 37 (.pointer (some ⟨r,0,none⟩)) (.agg ⟨[.bool s1,.slice a1 n1 c1,.bool s2,.slice a2 n2 c2]⟩) = some H2 ∧ H2.read r 0 4 = some [.bool s1,.slice a1 n1 c1,.bool s2,.slice a2 n2 c2] ∧ H2.size = H.size ∧ (∀ H0,Keep H0 H → H0.size ≤ r → Keep H0 H2):=by
  have hob:=h.store (P:=Tryd.prog) (t:=37) (i:=Tryd.t37) (by kernel_rfl) (v:=.agg ⟨[.bool s1,.slice a1 n1 c1,.bool s2,.slice a2 n2 c2]⟩) (new:=[.bool s1,.slice a1 n1 c1,.bool s2,.slice a2 n2 c2]) rfl (by kernel_rfl) rfl (o:=0) (show 0 + 4 ≤ cells.length by omega)
  obtain ⟨H2,h1,h2,h3,_,h5⟩:=hob;refine ⟨H2,h1,?_,h3,h5⟩;have h6:=h2.read (o:=0) (n:=4) (by rw [splice_length (show 0 + 4 ≤ cells.length by omega)]; omega)
  rw [h6];exact congrArg some (splice_at (l:=cells) (off:=0) (vs:=[.bool s1,.slice a1 n1 c1,.bool s2,.slice a2 n2 c2]) (show 0 + 4 ≤ cells.length by omega))
theorem ne_row {H:Heap} {r:Nat} {e:TypeId} (h:Own H r e [.bool false,.slice none 0 0,.bool false,.slice none 0 0]) {k:IntKind} {v:Value} {w:List Int} {r' o':Nat} (hx:SlI k H v w r' o') (h0:0 < w.length):r' ≠ r:=by
  intro he;subst he;have h1:=(hx.rdI h0).1
  by_cases hle:o' + 0 + 1 ≤ 4
  · rw [h.read (o:=o' + 0) (n:=1) hle] at h1;rcases o' with _ | _ | _ | _ | o';all_goals first | (simp at h1; done) | omega
  · unfold Heap.read at h1;rw [h.get] at h1;simp only [] at h1;rw [show Nat.ble (o' + 0 + 1) [Value.bool false,.slice none 0 0,.bool false,.slice none 0 0].length = false from Bool.eq_false_iff.2 (fun hb => hle (Nat.le_of_ble_eq_true hb))] at h1
    simp at h1
theorem BigIs.mono {H:Heap} {v:Value} {z:Int} {a b:Nat} (h:BigIs H v z a) (hab:a ≤ b):BigIs H v z b:=by
  obtain ⟨v',w,r',o',h1,h2,h3,h4,h5,h6⟩:=h;exact ⟨v',w,r',o',h1,h2,h3,h4,h5,Nat.le_trans h6 hab⟩
theorem BigIs.other {H H2:Heap} {r:Nat} {e t:TypeId} (h:Own H r e [.bool false,.slice none 0 0,.bool false,.slice none 0 0]) {o:Nat} {u v:Value} (hs:aStore Tryd.prog H t (.pointer (some ⟨r,o,none⟩)) u = some H2) (hsz:H2.size = H.size) {z:Int} {lo:Nat} (hb:BigIs H v z lo):BigIs H2 v z lo:=by
  obtain ⟨v',w,r',o',h1,h2,h3⟩:=hb;exact ⟨v',w,r',o',h1,SlE.other h hs hsz h2 (ne_row h h2),h3⟩

theorem twoBig {H:Heap} {va vb:Value} {x y:Int} {la lb:Nat} (h1:BigIs H va x la) (h2:BigIs H vb y lb) :
    ∃ Hm Hn Ha Hb b a n c,va = .agg ⟨[.bool b,.slice a n c]⟩ ∧ H.newExact [.bool false,.slice none 0 0] 35 = Hm ∧ Hm.newExact [.bool false,.slice none 0 0] 35 = Hn ∧
      aStore Tryd.prog Hn 35 (.pointer (some ⟨H.size,0,none⟩)) va = some Ha ∧ aStore Tryd.prog Ha 35 (.pointer (some ⟨Hm.size,0,none⟩)) vb = some Hb ∧
      Hb.read H.size 0 2 = some [.bool b,.slice a n c] ∧ Keep H Hb ∧ H.size < Hb.size:=by
  obtain ⟨u1,w1,r1,o1,rfl,s1,_⟩:=h1;obtain ⟨u2,w2,r2,o2,rfl,s2,_⟩:=h2;obtain ⟨a1,c1,rfl⟩:=s1.v0;obtain ⟨a2,c2,rfl⟩:=s2.v0;obtain ⟨Hm,b1,hK1,hs1,zz1,_⟩:=box1 H [.bool false,.slice none 0 0] 35;obtain ⟨Hn,b2,hK2,hs2,zz2,_⟩:=box1 Hm [.bool false,.slice none 0 0] 35;have ow1:Own Hn H.size 35 [.bool false,.slice none 0 0]:=(b1 ▸ Own.new H _ _:Own Hm H.size 35 [.bool false,.slice none 0 0]).keep hK2;have ow2:Own Hn Hm.size 35 [.bool false,.slice none 0 0]:=b2 ▸ Own.new Hm _ _;have hne:Hm.size ≠ H.size:=by omega
  obtain ⟨Ha,p1,q1,z1,k1,m1⟩:=stBig2 ow1 rfl (decide (x < 0)) a1 w1.length c1;have ow2':=k1 _ _ _ hne ow2;obtain ⟨Hb,p2,q2,z2,k2,m2⟩:=stBig2 ow2' rfl (decide (y < 0)) a2 w2.length c2;exact ⟨Hm,Hn,Ha,Hb,_,a1,w1.length,c1,rfl,b1,b2,p1,p2,Own.store_other ow2' p2 (Ne.symm hne) q1,m2 H (m1 H (hK1.trans hK2) (Nat.le_refl _)) (by omega),by omega⟩

variable {S:AM.Sys} (hS:Only S 6)
include hS

theorem lowest_runs (v1 v2:Value) (x y:Int) (l1 l2:Nat) (H:Heap) (hg:Grp H) (hL:H.low ≤ H.size) (hx:0 ≤ x) (hy:0 < y) (h1:BigIs H v1 x l1) (h2:BigIs H v2 y l2) (hl1:l1 ≤ 400) (hl2:l2 ≤ 400):∃ H' v,Keep H H' ∧ Grp H' ∧ QIs H' v (x / (Nat.gcd x.toNat y.toNat:Nat)) (y / (Nat.gcd x.toNat y.toNat:Nat)) 400 ∧ Runs Tryd.prog S (.fn 34) [v1,v2] H v H':=by
  suffices h:WCall Tryd.prog S (.fn 34) [v1,v2] H (fun v H' => Keep H H' ∧ Grp H' ∧ QIs H' v (x / (Nat.gcd x.toNat y.toNat:Nat)) (y / (Nat.gcd x.toNat y.toNat:Nat)) 400) by
    obtain ⟨v,H',hr,h1,h2,h3⟩:=h; exact ⟨H',v,h1,h2,h3,hr⟩
  obtain ⟨u1,w1,r1,o1,rfl,s1,d1,n1,e1,g1⟩:=h1;obtain ⟨u2,w2,r2,o2,rfl,s2,d2,n2,e2,g2⟩:=h2;obtain ⟨a1,c1,rfl⟩:=s1.v0;obtain ⟨a2,c2,rfl⟩:=s2.v0;rw [decide_eq_false (show ¬ x < 0 by omega),decide_eq_false (show ¬ y < 0 by omega)]
  obtain ⟨H1,b1,hK1,hs1,zz1,hr1⟩:=box1 H [.bool false,.slice a1 w1.length c1] 35;obtain ⟨H2,b2,hK2,hs2,zz2,hr2⟩:=box1 H1 [.bool false,.slice a2 w2.length c2] 35;obtain ⟨H3,b3,hK3,hs3,zz3,hr3⟩:=box1 H2 [.bool false,.slice none 0 0,.bool false,.slice none 0 0] 37;have ow3:Own H3 H2.size 37 [.bool false,.slice none 0 0,.bool false,.slice none 0 0]:=(b3 ▸ Own.new H2 _ _);have q0:=(hK2.trans hK3).read hs1 (hr1 0 1 (show 0 + 1 ≤ 2 by omega))
  have q1:=(hK2.trans hK3).read hs1 (hr1 1 1 (show 1 + 1 ≤ 2 by omega))
  have q2:=hK3.read hs2 (hr2 0 1 (show 0 + 1 ≤ 2 by omega))
  have q3:=hK3.read hs2 (hr2 1 1 (show 1 + 1 ≤ 2 by omega))
  replace q0:H3.read H.size 0 1 = some [.bool false]:=q0;replace q1:H3.read H.size 1 1 = some [.slice a1 w1.length c1]:=q1;replace q2:H3.read H1.size 0 1 = some [.bool false]:=q2;replace q3:H3.read H1.size 1 1 = some [.slice a2 w2.length c2]:=q3;clear zz1 zz2 zz3;have p0:=(hK2.trans hK3).read hs1 (hr1 0 2 (show 0 + 2 ≤ 2 by omega))
  have p1:=hK3.read hs2 (hr2 0 2 (show 0 + 2 ≤ 2 by omega))
  replace p0:H3.read H.size 0 2 = some [.bool false,.slice a1 w1.length c1]:=p0;replace p1:H3.read H1.size 0 2 = some [.bool false,.slice a2 w2.length c2]:=p1;have hK03:=(hK1.trans hK2).trans hK3;have hL3:=hK03.low hL;have hg3:=hK03.grp hg;have hob:=gcdD_runs hS (.slice a1 w1.length c1) (.slice a2 w2.length c2) w1 w2 r1 o1 r2 o2 H3 hg3 hL3 (s1.keep hK03) (s2.keep hK03) d1 n1 d2 n2 (by omega) (by omega)
  obtain ⟨H4,vg,wg,rg,og,hK4,hg4,sg,dg,ng,lg,hgv,hR4⟩:=hob;have f4:=hR4.bx;have hL4:=hK4.low hL3;have hob5:=whole_runs hS false vg wg rg og H4 hg4 hL4 sg (by omega)
  obtain ⟨H5,v5,r5,o5,hK5,hg5,s5,hF5,hfr5,hR5⟩:=hob5;rw [Bool.false_and] at hR5;have f5:=hR5.bx;obtain ⟨a5,c5,rfl⟩:=s5.v0;obtain ⟨H5a,b5,hK5a,_,zz5,_⟩:=box1 H5 [.bool false,.slice none 0 0] 35;have ow5:Own H5a H5.size 35 [.bool false,.slice none 0 0]:=b5 ▸ Own.new H5 _ _;have hob5b:=stBig2 ow5 rfl false a5 (trimL wg).length c5;obtain ⟨H5b,ps5,q5,hsz5,_,hkp5⟩:=hob5b;have hK5b:=hkp5 H5 hK5a (Nat.le_refl _);have hlt5:H5.size < H5b.size:=by rw [hsz5]; exact ow5.lt
  have hL5:=(hK5.trans hK5b).low hL4;have hg5b:=hK5b.grp hg5;have hK35:=(hK4.trans hK5).trans hK5b;clear zz5;have hgn:=dg.nonneg;have hx2:(val w1).toNat = x.toNat:=by rw [e1]; omega
  have hy2:(val w2).toNat = y.toNat:=by rw [e2]; omega
  rw [hx2,hy2] at hgv;have hgp:0 < Nat.gcd x.toNat y.toNat:=Nat.gcd_pos_of_pos_right _ (by omega)
  generalize hG:Nat.gcd x.toNat y.toNat = G at *;have hbg:BigIs H5b (.agg ⟨[.bool false,.slice a5 (trimL wg).length c5]⟩) (G:Int) 400:=
    ⟨_,trimL wg,r5,o5,by rw [decide_eq_false (show ¬ (G:Int) < 0 by omega)],s5.keep hK5b,trimL_digs dg,trimL_norm wg,by rw [trimL_val]; omega,by have:=trimL_le wg; omega⟩
  have hbx:BigIs H3 (.agg ⟨[.bool false,.slice a1 w1.length c1]⟩) x l1:=⟨_,w1,r1,o1,by rw [decide_eq_false (show ¬ x < 0 by omega)],s1.keep hK03,d1,n1,e1,g1⟩
  have hby:BigIs H3 (.agg ⟨[.bool false,.slice a2 w2.length c2]⟩) y l2:=⟨_,w2,r2,o2,by rw [decide_eq_false (show ¬ y < 0 by omega)],s2.keep hK03,d2,n2,e2,g2⟩
  have hob6:=Over_runs hS _ _ x G l1 400 H5b hg5b hL5 hx (by omega) (hbx.keep hK35) hbg hl1 (by omega)
  obtain ⟨H6,va,vm,hK6,hg6,ba,bm,hR6⟩:=hob6;have f6:=hR6.bx;obtain ⟨H6m,H6n,H6a,H6b,sa,aa,na,ca,rfl,b61,b62,p61,p62,q61,hK6b,hlt6⟩:=twoBig ba bm;have hg6b:=hK6b.grp hg6;have hL6:=(hK6.trans hK6b).low hL5;have hob7:=Over_runs hS _ _ y G l2 400 H6b hg6b hL6 (by omega) (by omega) (hby.keep (hK35.trans (hK6.trans hK6b))) (hbg.keep (hK6.trans hK6b)) hl2 (by omega)
  obtain ⟨H7,vb,vm2,hK7,hg7,bb,bm2,hR7⟩:=hob7;have f7:=hR7.bx;obtain ⟨H7m,H7n,H7a,H7b,sb,ab,nb,cb,rfl,b71,b72,p71,p72,q71,hK7b,hlt7⟩:=twoBig bb bm2;have q61':=(hK7.trans hK7b).read hlt6 q61;replace p0:H5b.read H.size 0 2 = some [.bool false,.slice a1 w1.length c1]:=hK35.read (Nat.lt_of_lt_of_le hs1 (hK2.trans hK3).size) p0;replace p1:H6b.read H1.size 0 2 = some [.bool false,.slice a2 w2.length c2]:=(hK35.trans (hK6.trans hK6b)).read (Nat.lt_of_lt_of_le hs2 hK3.size) p1;have q6:=(hK6.trans hK6b).read hlt5 q5;have hK37:=((hK35.trans (hK6.trans hK6b)).trans hK7).trans hK7b;have ow7:=ow3.keep hK37;obtain ⟨H8,ps8,q8,hsz8,hkp8⟩:=stQ ow7 rfl sa sb aa ab na nb ca cb;have hK8:=hkp8 H (hK03.trans hK37) (Nat.le_trans hK1.size hK2.size);have hg8:=hK8.grp hg;have hq:QIs H8 (.agg ⟨[.bool sa,.slice aa na ca,.bool sb,.slice ab nb cb]⟩) (x / (G:Int)) (y / (G:Int)) 400:=
    ⟨_,_,_,_,rfl,BigIs.other ow7 ps8 hsz8 ((ba.keep ((hK6b.trans hK7).trans hK7b)).mono hl1),BigIs.other ow7 ps8 hsz8 ((bb.keep hK7b).mono hl2)⟩
  have hc1:(Value.agg ⟨[.bool false,.slice a1 w1.length c1]⟩).cells.toList = [.bool false,.slice a1 w1.length c1]:=rfl;have hc2:(Value.agg ⟨[.bool false,.slice a2 w2.length c2]⟩).cells.toList = [.bool false,.slice a2 w2.length c2]:=rfl;have hnot:una UnOp.not (Value.bool false) = some (.bool true):=rfl;refine call_of Tryd.func34 rfl (Nat.le_of_ble_eq_true rfl) (hS.no rfl _ _) ?_
  rw [Tryd.ntmps34,Tryd.results34];clear hR4 hR5 hR6 hR7 s1 s2 sg s5 ow3 ow5 ow7 hkp5 hkp8 hr1 hr2 hgv hgp hG dg ng lg hgn d1 d2 n1 n2 e1 e2 g1 g2 hsz5 hsz8 hx2 hy2 hbx hby hbg ba bb bm bm2 hlt5 hlt6 hlt7;generalize (trimL wg).length = tg at *
  repeat' simp only [↓Zabr,↓Zabo,↓Zabq,↓Zaah,↓Zabp,↓Zacj,↓Zaci,↓Zaco,↓Zaar,↓Zaaj,↓bxOp_box,↓bxOp_build,↓Zaaq,↓Zaat,↓Zaan,↓bxOp_extract,↓Zaau,↓Zacl,↓bxPut,↓Zabj,↓Zabh,↓Zacm,↓bxRes_cell,↓Zacp,↓Zaaz,↓Zaax,↓Zaay,Zack,Zabs,Zacg,Zabe,List.map,List.nil_append,List.append_nil,↓reduceIte,Nat.reduceEqDiff,Nat.reduceLT,and_self,Nat.add_zero,one1,Option.bind_some,Option.map_some, *,argF,List.getD_cons_zero,List.getD_cons_succ,alQ,ldQ,bdQ,alBig,ldBig,faG0,faG1,ldB4,ldIs,ex20,ex21,Nat.zero_add]
end Go.Proofs.YtcmaipijkjillaaDoor
