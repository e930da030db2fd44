/- Rows that hold a whole number; a whole number over an int; a fraction as a ratio. -/
import Derived.Test.YtdfjaoncabanbaaGreatDoorBM
import Derived.Test.YtdfjaoncabanbaaGreatDoorIG
set_option linter.unusedVariables false
set_option linter.unusedSimpArgs false
set_option linter.unusedSectionVars false

namespace Go.Proofs.YtdfjaoncabanbaaGreatDoor
open Go Go.AM
set_option maxRecDepth 10000

def BShape (cells:List Value):Prop:=∃ s a n c,cells = [.bool s,.slice a n c]
theorem BShape.len {cells:List Value} (h:BShape cells):cells.length = 2:=by
  obtain ⟨_,_,_,_,rfl⟩:=h; rfl
theorem BShape.empty:BShape [.bool false,.slice none 0 0]:=⟨_,_,_,_,rfl⟩
theorem BigIs.shape {H:Heap} {v:Value} {z:Int} {lo:Nat} (h:BigIs H v z lo):v = .agg ⟨v.cells.toList⟩ ∧ BShape v.cells.toList:=by
  obtain ⟨u,w,r,o,rfl,s,_⟩:=h;obtain ⟨a,c,rfl⟩:=s.v0;exact ⟨rfl,_,_,_,_,rfl⟩
theorem ne_rowB {H:Heap} {r:Nat} {e:TypeId} {cells:List Value} (h:Own H r e cells) (hs:BShape cells) {k:IntKind} {v:Value} {w:List Int} {r' o':Nat} (hx:SlI k H v w r' o') (h0:0 < w.length):r' ≠ r:=by
  intro he;subst he;have h1:=(hx.rdI h0).1;obtain ⟨_,_,_,_,rfl⟩:=hs
  by_cases hle:o' + 0 + 1 ≤ 2
  · rw [h.read (o:=o' + 0) (n:=1) hle] at h1;rcases o' with _ | _ | o';all_goals first | (simp at h1; done) | omega
  · unfold Heap.read at h1;rw [h.get] at h1;simp only [] at h1;rw [show Nat.ble (o' + 0 + 1) (List.length [_,_]) = false from Bool.eq_false_iff.2 (fun hb => hle (Nat.le_of_ble_eq_true hb))] at h1
    simp at h1
theorem storeB {H:Heap} {r:Nat} {cells:List Value} (ow:Own H r 46 cells) (hs:BShape cells) {v:Value} {z:Int} {lo:Nat} (hq:BigIs H v z lo) :
    ∃ H2,aStore Tryz.prog H 46 (.pointer (some ⟨r,0,none⟩)) v = some H2 ∧ H2.size = H.size ∧ Own H2 r 46 v.cells.toList ∧ BigIs H2 v z lo ∧ (∀ r' e' c',r' ≠ r → Own H r' e' c' → Own H2 r' e' c') ∧ (∀ H0,Keep H0 H → H0.size ≤ r → Keep H0 H2):=by
  obtain ⟨hv,s,a,n,c,hcs⟩:=hq.shape;obtain ⟨u,w,r',o',hu,s1,h3⟩:=hq;have hob:=ow.store (P:=Tryz.prog) (t:=46) (i:=Tryz.t46) (by kernel_rfl) (v:=v) (new:=[.bool s,.slice a n c]) hcs (by kernel_rfl) rfl (o:=0) (by rw [hs.len]; exact Nat.le_refl 2)
  obtain ⟨H2,h1,h2,h4,h5,h6⟩:=hob;refine ⟨H2,h1,h4,?_,⟨u,w,r',o',hu,SlE.other ow h1 h4 s1 (ne_rowB ow hs s1),h3⟩,h5,h6⟩;rw [hcs];have hl:=hs.len;obtain ⟨_,_,_,_,rfl⟩:=hs;exact h2
theorem storeBD {H0 H:Heap} {r:Nat} {cells:List Value} (hk:Keep H0 H) (hr:H0.size ≤ r) (hL:H.low ≤ H.size) (ow:Own H r 46 cells) (hs:BShape cells) {v:Value} {z:Int} {lo:Nat} (hq:BigIs H v z lo) :
    ∃ Ha Hb,aStore Tryz.prog (H.relow H.size) 46 (.pointer (some ⟨r,0,none⟩)) v = some Ha ∧ Ha.relow (Nat.min H.low Ha.low) = Hb ∧ Keep H0 Hb ∧ Hb.size = H.size ∧ Hb.low ≤ Hb.size ∧ Own Hb r 46 v.cells.toList ∧ BigIs Hb v z lo ∧ (∀ r' e' c',r' ≠ r → Own H r' e' c' → Own Hb r' e' c'):=by
  obtain ⟨Ha,h1,h2,h3,h4,h5,h6⟩:=storeB (ow.addr (l:=H.size)) hs (hq.addr0 (l:=H.size));refine ⟨Ha,_,h1,rfl,Keep.lower hk (h6 H0 (hk.trans (Keep.relowS _)) hr),h2,?_,h3.addr,h4.addr0,fun r' e' c' hne ho => (h5 r' e' c' hne ho.addr).addr⟩
  show Nat.min H.low Ha.low ≤ Ha.size;rw [h2];exact Nat.le_trans (Nat.min_le_left _ _) hL
theorem own_ldB {H:Heap} {r:Nat} {v:Value} {z:Int} {lo:Nat} (h:Own H r 46 v.cells.toList) (hq:BigIs H v z lo):aLoad Tryz.prog H 46 (.pointer (some ⟨r,0,none⟩)) = some v:=by
  obtain ⟨hv,hs⟩:=hq.shape;have hl:=hs.len;rw [ldBig,h.read (o:=0) (n:=2) (by omega),List.drop_zero,← hl,List.take_length,Option.map_some,← hv]
theorem QV.ofBig {H:Heap} {s1 s2 a1 a2:Value} {n:Int} {l1 l2:Nat} (h1:BigIs H (.agg ⟨[s1,a1]⟩) n l1) (h2:BigIs H (.agg ⟨[s2,a2]⟩) 1 l2) (k1:l1 ≤ 400) (k2:l2 ≤ 400):QV H (.agg ⟨[s1,a1,s2,a2]⟩) n 1:=
  ⟨n,1,⟨s1,a1,s2,a2,rfl,h1.mono0 k1,h2.mono0 k2⟩,by decide,by simp,by simp⟩
theorem qvRat {H:Heap} {v:Value} {n d:Int} (h:QV H v n d) (hd:0 < d):QIs H v (rat n d).1 (rat n d).2 400:=
  (h.as hd (rat_facts hd).2.2.1.symm).low (rat_facts hd).1 (rat_facts hd).2.1

variable {S:AM.Sys} (hS:Only S 5)
include hS

theorem rOver_runs (v:Value) (z d:Int) (lo:Nat) (H:Heap) (hg:Grp H) (hL:H.low ≤ H.size) (hv:BigIs H v z lo) (hlo:lo ≤ 400) (hz:(z.natAbs:Int) < 10000 ^ 20) (hd:0 < d) (hd2:d ≤ 1000000):QOut S 46 [v,.int .i64 d] H z d:=by
  suffices h:WCall Tryz.prog S (.fn 46) [v,.int .i64 d] H (fun v H' => Keep H H' ∧ Grp H' ∧ QV H' v z d) by
    obtain ⟨v,H',hr,h1,h2,h3⟩:=h; exact ⟨H',v,h1,h2,h3,hr⟩
  obtain ⟨hv1,s,a,n,c,hcs⟩:=hv.shape;rw [hcs] at hv1;subst hv1;obtain ⟨H1,e1,k1,z1,-,r1⟩:=box1 H [.bool s,.slice a n c] 46;have rd1:H1.read H.size 0 2 = some [.bool s,.slice a n c]:=r1 0 2 (Nat.le_refl 2);obtain ⟨H2,e2,k2,z2,-,-⟩:=box1 H1 [.bool false,.slice none 0 0,.bool false,.slice none 0 0] 48;have ow2:Own H2 H1.size 48 [.bool false,.slice none 0 0,.bool false,.slice none 0 0]:=e2 ▸ Own.new H1 _ _;have k02:=k1.trans k2;have g2:=k02.grp hg;have l2:=k02.low hL;have rd2:=k2.read z1 rd1;have hb:(10000:Int) ^ 20 = 100000000000000000000000000000000000000000000000000000000000000000000000000000000:=by decide
  obtain ⟨v3,H3a,H3,k3,l3,f3,d3,b3⟩:=drawnBig l2 (Of_runs hS 1 (H2.relow H2.size) ((Keep.relowS H2).grp g2) (Nat.le_refl _) (by decide))
  obtain ⟨hv3,s3,a3,n3,c3,hcs3⟩:=b3.shape;rw [hcs3] at hv3;subst hv3;have g3:=k3.grp g2;obtain ⟨v4,H4a,H4,k4,l4,f4,d4,q4⟩:=drawnQ l3 (Frac_any hS d 1 (H3.relow H3.size) ((Keep.relowS H3).grp g3) (Nat.le_refl _) (by omega) (by decide) (by decide))
  have g4:=k4.grp g3;have k24:=k3.trans k4;have qa:QV H4 (.agg ⟨[.bool s,.slice a n c,.bool s3,.slice a3 n3 c3]⟩) z 1:=QV.ofBig ((hv.keep k02).keep k24) (b3.keep k4) hlo (by decide)
  have hob:QOut S 72 [.agg ⟨[.bool s,.slice a n c,.bool s3,.slice a3 n3 c3]⟩,v4] (H4.relow H4.size) z d:=by
    have h:=Div_all hS _ v4 z 1 d 1 (H4.relow H4.size) ((Keep.relowS H4).grp g4) (Nat.le_refl _) qa.addr q4.addr (by decide) (by decide) hz (by rw [hb]; decide) (by rw [hb]; omega) (by rw [hb]; decide) hd
    rwa [Int.mul_one,Int.one_mul] at h
  obtain ⟨v9,Hm,Hn,Ho,fm,fn,ps,hld,hLn,hK9,hg9,hq9⟩:=endQ (k02.trans k24) k1.size l4 hg (ow2.keep k24) hob;have hc1:(Value.agg ⟨[.bool s,.slice a n c]⟩).cells.toList = [.bool s,.slice a n c]:=rfl;refine call_of Tryz.func46 rfl (Nat.le_of_ble_eq_true rfl) (hS.no rfl _ _) ?_
  rw [Tryz.ntmps46,Tryz.results46];clear hv qa q4 b3 ow2 hob r1 hcs hcs3 hz hb
  repeat' (first | simp only [↓Zabm,↓Zabo,↓Zabq,↓Zabp,↓Zaci,↓Zach,↓Zacb,↓Zaah,↓Zabz,↓sxDL_build,↓Zaby,↓sxD_same,↓Zacn,↓Zaar,↓Zaai,↓Zaal,↓bxOp_build,↓Zaaq,↓Zaat,↓Zaau,↓Zack,↓bxPut,↓Zabj,↓Zabh,↓Zacl,↓Zaav,↓Zaco,↓Zaba,↓Zaay,↓Zaaz,Zacj,Zabs,Zabf,List.map,List.nil_append,List.append_nil,↓reduceIte,Nat.reduceEqDiff,Nat.reduceLT,and_self,Zaaa,Option.map_some, *,argF,List.getD_cons_zero,List.getD_cons_succ,alQ,bdQ,ldBig] | (with_reducible first | refine Zabu (by assumption) (by decide +kernel) ?_ | refine Zabt (by decide +kernel) ?_ | refine Zaca (by decide +kernel) ?_ | refine Zabv ?_))

theorem ToRatio_runs (v:Value) (n d:Int) (H:Heap) (hg:Grp H) (hL:H.low ≤ H.size) (hq:QV H v n d) (hp:0 < d) (hb:d ≤ 1152921504606846976 ∧ (n.natAbs:Int) ≤ 1152921504606846976) :
    ∃ H',Keep H H' ∧ Runs Tryz.prog S (.fn 24) [v,.int .i64 1152921504606846976] H (.tuple #[.agg ⟨[.int .i64 (rat n d).1,.int .i64 (rat n d).2]⟩,.bool true]) H':=by
  have hl:=qvRat hq hp;obtain ⟨-,-,-,q2,q3,-⟩:=rat_facts (n:=n) hp;have q1:=(rat_facts (n:=n) hp).1;generalize rat n d = x at *
  suffices h:WCall Tryz.prog S (.fn 24) [v,.int .i64 1152921504606846976] H (fun v H' => v = .tuple #[.agg ⟨[.int .i64 x.1,.int .i64 x.2]⟩,.bool true] ∧ Keep H H') by
    obtain ⟨_,H',hr,rfl,hk⟩:=h; exact ⟨H',hk,hr⟩
  obtain ⟨t1,t2,t3,t4,rfl,b1,b2⟩:=hl;obtain ⟨H1,e1,k1,s1,-,r1⟩:=box1 H [t1,t2,t3,t4] 48;have g0:H1.read H.size 0 2 = some [t1,t2]:=r1 0 2 (show 0 + 2 ≤ 4 by omega)
  have g2:H1.read H.size 2 2 = some [t3,t4]:=r1 2 2 (show 2 + 2 ≤ 4 by omega)
  obtain ⟨H2,e2,k2,z2,ow2,-,-,-⟩:=box2 H1 0 0 29;have k12:=k1.trans k2;have g0':=k2.read s1 g0;obtain ⟨H3,k3,R3⟩:=Within_runs hS _ x.1 1152921504606846976 400 H2 (k12.grp hg) (k12.low hL) (b1.keep k12) (Nat.le_refl _) (by omega) (by omega)
  have k13:=k12.trans k3;have g2':=(k2.trans k3).read s1 g2;obtain ⟨H4,k4,R4⟩:=Within_runs hS _ x.2 1152921504606846976 400 H3 (k13.grp hg) (k13.low hL) (b2.keep k13) (Nat.le_refl _) (by omega) (by omega)
  have f3:=R3.bx;have f4:=R4.bx;obtain ⟨H5,p5,k5,z5,ow5,-⟩:=stH infR.1 (k13.trans k4) k1.size (ow2.keep (k3.trans k4)) (v:=.agg ⟨[.int .i64 x.1,.int .i64 x.2]⟩) (new:=[.int .i64 x.1,.int .i64 x.2]) rfl infR.2 rfl rfl;obtain ⟨m5,-,-⟩:=own2 ow5;have hc1:(Value.agg ⟨[t1,t2,t3,t4]⟩).cells.toList = [t1,t2,t3,t4]:=rfl;clear R3 R4 ow2 ow5 b1 b2 g0 g2 r1 hq;refine call_of Tryz.func24 rfl (Nat.le_of_ble_eq_true rfl) (hS.no rfl _ _) ?_
  rw [Tryz.ntmps24,Tryz.results24]
  repeat' simp only [↓Zabr,↓Zabo,↓Zabq,↓Zaaf,↓Zabp,↓Zaci,↓Zach,↓Zacn,↓Zaaw,↓Zaar,↓Zaaj,↓Zaas,↓Zaai,↓Zaal,↓bxOp_build,↓Zaaq,↓Zaat,↓bxOp_un,↓Zaan,↓bxOp_extract,↓Zaau,↓Zack,↓bxPut,↓Zabj,↓Zabk,↓Zabh,↓Zacl,↓Zacm,↓Zaav,↓Zaco,↓Zaba,↓Zaay,↓Zaaz,↓dstAt,↓Zabb,Zacj,una_nt,Zaab,Zabs,Zacc,Zacf,packRes_two,List.map,List.nil_append,List.append_nil,↓reduceIte,Nat.reduceEqDiff,Nat.reduceLT,and_self,Nat.add_zero,Option.map_some, *,argF,List.getD_cons_zero,List.getD_cons_succ,qaG0,qaG1,ldBig,alR,bdR,ldRt,ex20,ex21,Nat.zero_add]
end Go.Proofs.YtdfjaoncabanbaaGreatDoor

namespace Go.Proofs.YtdfjaoncabanbaaGreatDoor
open Go Go.AM
set_option maxRecDepth 10000

def CB (b L:Nat) (X:Heap) (v:Value) (x:List Int):Prop:=
  (x = [] ∧ v = .slice none 0 0) ∨ ∃ r cells,L ≤ b ∧ b < X.size ∧ App X b r 3 1 cells ∧ Full X b cells.length ∧ v = .slice (some ⟨r,0,none⟩) x.length x.length ∧ 0 < x.length ∧ Chunks (intE .i64) X x cells
theorem CB.lst {b L:Nat} {X:Heap} {v:Value} {x:List Int} (h:CB b L X v x):LstG (intE .i64) 3 L X v x:=by
  rcases h with h | ⟨r,cells,h1,h2,h3,h4⟩
  · exact .inl h
  · exact .inr ⟨b,r,cells,h1,h2,h3,h4⟩
theorem CB.keep {b L:Nat} {X Y:Heap} {v:Value} {x:List Int} (h:CB b L X v x) (hk:Keep X Y):CB b L Y v x:=by
  rcases h with h | ⟨r,cells,h1,h2,h3,h4,h5,h6,h7⟩
  · exact .inl h
  · exact .inr ⟨r,cells,h1,Nat.lt_of_lt_of_le h2 hk.size,h3.keep hk,h4.ge (Nat.zero_le _) (hk.ge 0) (hk.mem _ (by omega)),h5,h6,h7.mono fun _ _ => (intE .i64).keep hk⟩
theorem CB.ge {b L M:Nat} {X Y:Heap} {v:Value} {x:List Int} (h:CB b L X v x) (hM:M ≤ L) (hk:Ge M X Y) (hm:x ≠ [] → Y.grps.get (2 * b + 1) = X.grps.get (2 * b + 1)):CB b L Y v x:=by
  rcases h with h | ⟨r,cells,h1,h2,h3,h4,h5,h6,h7⟩
  · exact .inl h
  · exact .inr ⟨r,cells,h1,Nat.lt_of_lt_of_le h2 hk.size,h3.geH (by omega) hk,h4.ge (by omega) hk (hm (List.length_pos_iff.1 h6)),h5,h6,h7.mono fun _ _ h => h⟩
theorem CB.push {b L:Nat} {X:Heap} {v:Value} {x:List Int} (hg:Grp X) (h:CB b L X v x) (hL:L ≤ X.size) (z:Int) (hz:IntKind.i64.min ≤ z ∧ z ≤ IntKind.i64.max) (hs:x.length + 1 ≤ 1000) :
    ∃ b2 v2 X2,aAppend Tryz.prog (X.newExact [.int .i64 z] 3) #[23,23] v (.slice (some ⟨X.size,0,none⟩) 1 1) = some (v2,X2) ∧ CB b2 L X2 v2 (x ++ [z]) ∧ Ge 0 X X2 ∧ Grp X2 ∧ (X.low ≤ X.size → X2.low ≤ X2.size) ∧
      (∀ H0,Grp H0 → Keep H0 X → H0.size ≤ L → Keep H0 X2) ∧ (∀ g,g < 2 * X.size → g ≠ 2 * b2 + 1 → X2.grps.get g = X.grps.get g) ∧ (X.size ≤ b2 ∨ (b2 = b ∧ x ≠ [])):=by
  have hkn:=Keep.newExact X [.int .i64 z] 3;have hon:=Own.new X [.int .i64 z] 3;have hgn:=hkn.grp hg;have hread:(X.newExact [.int .i64 z] 3).read X.size 0 (1 * 1) = some [.int .i64 z]:=hon.read (o:=0) (n:=1) (Nat.le_refl 1);have hch:Chunks (intE .i64) (X.newExact [.int .i64 z] 3) [z] [.int .i64 z]:=Chunks.one ⟨rfl,hz⟩;have hn:=h.keep hkn;generalize hX1:X.newExact [.int .i64 z] 3 = X1 at *;have hsz:X.size ≤ X1.size:=hkn.size;obtain ⟨⟨sT,xT,d,inf,zz,q1,q2,q3,q4,q5,q6,q7,q8,q9,q10⟩,hp⟩:=okI;have hfst:aFirst X1 1 1 (.slice (some ⟨X.size,0,none⟩) 1 1) = some [.int .i64 z]:=by
    show cond (Nat.beq (1 * 1) 0) (some []) (X1.read X.size 0 (1 * 1)) = some [.int .i64 z];rw [show Nat.beq (1 * 1) 0 = false from rfl,cond_false]; exact hread
  have hn1:lenV (.slice (some ⟨X.size,0,none⟩) 1 1) = some 1:=rfl;rcases hn with ⟨rfl,rfl⟩ | ⟨r,cells,h1,h2,h3,h4,rfl,h6,h7⟩
  · obtain ⟨hk,hA⟩:=App.first (P:=Tryz.prog) hgn (e:=3) (sz:=1) (cells:=[.int .i64 z]);have hkk:=hkn.trans hk;refine ⟨X1.size,_,_,?_,.inr ⟨X1.size,[.int .i64 z],by omega,hA.lt,hA,?_,rfl,by simp,?_⟩,hkk.ge 0,hkk.grp hg,hkk.low,fun H0 _ k _ => k.trans hkk,fun g hg' _ => hkk.mem g hg',.inl hsz⟩
    · unfold aAppend;rw [q1,q2];simp only [q3,q4,q5,q6,hn1,q7,q9];rw [hfst];simp only [];rw [Trie.beq_tt (q8.trans q9),show Nat.blt 0 1 = true from rfl,show small 1 inf.bytes = true by unfold small; rw [Nat.ble_eq_true_of_le (show 1 ≤ 268435456 by omega),Nat.ble_eq_true_of_le q10]; rfl]
      rfl
    · intro q hq;rw [Heap.add_grps,cond_false,Trie.get_put,if_pos rfl,Option.getD_some] at hq;obtain rfl:=memN_single hq;exact ⟨_,hA.get,rfl,by simp,hA.lt,Nat.le_refl _⟩
    · exact hch.mono fun _ _ h => h
  · have hcl:cells.length = x.length * 1:=h7.1;obtain ⟨H2,e2,k1,k2,k3,k4,_⟩:=h3.more (new:=[.int .i64 z]) hgn;obtain ⟨f1,f2⟩:=h3.fullG (new:=[.int .i64 z]) h4;rw [e2] at f1 f2;have hlt:=h3.lt;refine ⟨b,_,H2,?_,.inr ⟨X1.size,cells ++ [.int .i64 z],h1,by omega,k1,f2,rfl,by simp,?_⟩,(hkn.ge 0).trans f1,k4,fun hl => ?_,fun H0 g0 hk hl0 => k3 H0 g0 (hk.trans hkn) (by omega),fun g hg1 hg2 => ?_,.inr ⟨rfl,List.length_pos_iff.1 h6⟩⟩
    · unfold aAppend;rw [q1,q2];simp only [q3,q4,q5,q6,hn1,q7,q9];rw [hfst];simp only [];rw [Trie.beq_tt (q8.trans q9),show Nat.blt 0 1 = true from rfl,show small (x.length + 1) inf.bytes = true by unfold small; rw [Nat.ble_eq_true_of_le (show x.length + 1 ≤ 268435456 by omega),Nat.ble_eq_true_of_le q10]; rfl]
      simp only [Bool.and_self,cond_true];unfold aAppendSome;rw [h3.get];simp only []
      rw [show Nat.beq 1 0 = false from rfl,cond_false,show Nat.ble (x.length + 1) x.length = false by
        cases hq:Nat.ble (x.length + 1) x.length with
        | false => rfl
        | true => have:=Nat.le_of_ble_eq_true hq; omega,Bool.false_and,cond_false,cond_false,h3.alive,Trie.beq_tt rfl,Trie.beq_tt rfl,show ones [Value.int .i64 z] = true from rfl,Nat.ble_eq_true_of_le (Nat.le_refl x.length),show Nat.ble (0 + x.length * 1) cells.length = true from Nat.ble_eq_true_of_le (by omega)]
      simp only [Bool.and_self,cond_true];rw [← hcl,e2,List.length_append];rfl
    · exact (h7.append hch).mono fun _ _ h => h
    · rw [← e2,Heap.grow_size];have h1:=(grow_low (H:=X1) (r:=r) (row:={ cells:=cells,elem:=3,exact:=false,ro:=false,esz:=1,grp:=2 * b + 1,gpos:=0 }) (off:=0) (n:=cells.length) (vs:=[.int .i64 z])).1;have:=hkn.low hl;omega
    · have hm1:X1.grps.get g = X.grps.get g:=hkn.mem g hg1;rw [← hm1,← e2,Heap.grow_grps,Trie.get_put,if_neg (by show ¬ g = 2 * b + 1; omega)]
structure TW (A X:Heap) (nr:Nat) (w:List (List Int)) (n:Nat):Prop where
  keep:Keep A X
  grp:Grp X
  low:A.low ≤ A.size → X.low ≤ X.size
  len:w.length = n
  row:∃ (vals:List Value) (bs:Nat → Nat),vals.length = n ∧ Own X nr 23 vals ∧ (∀ i,i < n → CB (bs i) (nr + 1) X (vals.getD i (.slice none 0 0)) (w.getD i [])) ∧ (∀ i j,i < n → j < n → i ≠ j → w.getD i [] ≠ [] → w.getD j [] ≠ [] → bs i ≠ bs j)
theorem TW.get {A X:Heap} {nr n:Nat} {w:List (List Int)} (h:TW A X nr w n) {i:Nat} (hi:i < n):∃ v,X.read nr i 1 = some [v]:=by
  obtain ⟨vals,bs,h1,h2,h3,_⟩:=h.row;refine ⟨vals.getD i (.slice none 0 0),?_⟩;rw [h2.read (o:=i) (n:=1) (by omega),List.drop_eq_getElem_cons (by omega),List.getD_eq_getElem?_getD,List.getElem?_eq_getElem (by omega)]; rfl
theorem setDl {α:Type} {l:List α} {i j:Nat} {x d:α} (hi:i < l.length):(l.set i x).getD j d = if i = j then x else l.getD j d:=by
  rw [List.getD_eq_getElem?_getD,List.getElem?_set];split
  · rfl
  · rw [List.getD_eq_getElem?_getD]
theorem splice_one {vals:List Value} {o:Nat} (ho:o < vals.length) (v:Value):splice vals o [v] = vals.set o v:=by
  unfold splice;apply List.ext_getElem?;intro i;simp only [List.length_cons,List.length_nil];rw [List.getElem?_set];rcases Nat.lt_trichotomy i o with h | h | h
  · rw [List.getElem?_append_left (by simp; omega),List.getElem?_take,if_pos h,if_neg (by omega)]
  · subst h;rw [List.getElem?_append_right (by simp; omega),if_pos rfl,if_pos ho]
    rw [List.length_take,Nat.min_eq_left (Nat.le_of_lt ho),Nat.sub_self]; rfl
  · rw [List.getElem?_append_right (by simp; omega),if_neg (by omega),List.getElem?_append_right (by simp; omega),List.getElem?_drop]
    congr 1;simp; omega
theorem TW.push {A X:Heap} {nr n:Nat} {w:List (List Int)} (h:TW A X nr w n) (hg:Grp A) (hr:A.size ≤ nr) {i:Nat} (hi:i < n) (z:Int) (hz:IntKind.i64.min ≤ z ∧ z ≤ IntKind.i64.max) (hs:(w.getD i []).length + 1 ≤ 1000) :
    ∃ v v2 X2 X3,X.read nr i 1 = some [v] ∧ aAppend Tryz.prog (X.newExact [.int .i64 z] 3) #[23,23] v (.slice (some ⟨X.size,0,none⟩) 1 1) = some (v2,X2) ∧
      aStore Tryz.prog X2 23 (.pointer (some ⟨nr,i,none⟩)) v2 = some X3 ∧ TW A X3 nr (w.set i (w.getD i [] ++ [z])) n:=by
  obtain ⟨vals,bs,h1,h2,h3,h5⟩:=h.row;have hrd:X.read nr i 1 = some [vals.getD i (.slice none 0 0)]:=by
    rw [h2.read (o:=i) (n:=1) (by omega),List.drop_eq_getElem_cons (by omega),List.getD_eq_getElem?_getD,List.getElem?_eq_getElem (by omega)]; rfl
  have hlt:=h2.lt;obtain ⟨b2,v2,X2,p1,p2,p3,p4,p5,p6,p7,p8⟩:=(h3 i hi).push h.grp hlt z hz hs;have ow2:Own X2 nr 23 vals:=h2.ge (Nat.zero_le _) p3;have hv2:∃ a m c,v2 = .slice a m c:=by
    rcases p2 with ⟨_,e⟩ | ⟨r,cells,_,_,_,_,e,_⟩
    · exact ⟨_,_,_,e⟩
    · exact ⟨_,_,_,e⟩
  obtain ⟨a,m,c,rfl⟩:=hv2;obtain ⟨X3,k1,k2,k3,_⟩:=ow2.storeX (P:=Tryz.prog) (t:=23) (i:=Tryz.t23) (by kernel_rfl) (v:=.slice a m c) (new:=[.slice a m c]) rfl (by kernel_rfl) rfl (o:=i) (by show i + 1 ≤ vals.length; omega)
  rw [splice_one (by omega)] at k2
  have kA:Keep A X2:=p6 A hg h.keep (by omega)
  have kA3:Keep A X3:=k3.base A hg kA hr;have hwl:=h.len;have hoth:∀ j,j < n → j ≠ i → CB (bs j) (nr + 1) X2 (vals.getD j (.slice none 0 0)) (w.getD j []):=fun j hj hji => by
    refine (h3 j hj).ge (Nat.zero_le _) p3 fun hne => ?_
    have hbl:bs j < X.size:=by
      rcases h3 j hj with ⟨e,_⟩ | ⟨_,_,_,hb,_⟩
      · exact absurd e hne
      · exact hb
    refine p7 _ (by omega) fun he => ?_
    rcases p8 with h8 | ⟨h8,h9⟩
    · omega
    · have:=h5 j i hj hi hji hne h9; omega
  have hother:∀ j,j < n → j ≠ i → w.getD j [] ≠ [] → bs j ≠ b2:=fun j hj hji hne he => by
    have hbl:bs j < X.size:=by
      rcases h3 j hj with ⟨e,_⟩ | ⟨_,_,_,hb,_⟩
      · exact absurd e hne
      · exact hb
    rcases p8 with h8 | ⟨h8,h9⟩
    · omega
    · have:=h5 j i hj hi hji hne h9; omega
  refine ⟨_,_,X2,X3,hrd,p1,k1,⟨kA3,k3.grp p4,fun hl => k3.low (p5 (h.low hl)),by rw [List.length_set]; exact hwl,vals.set i (.slice a m c),fun j => if j = i then b2 else bs j,by rw [List.length_set]; exact h1,k2,fun j hj => ?_,fun j k hj hk hjk e1 e2 => ?_⟩⟩
  · show CB (if j = i then b2 else bs j) _ _ _ _
    rw [setDl (by omega),setDl (by omega)]
    by_cases hji:j = i
    · subst hji;rw [if_pos rfl,if_pos rfl,if_pos rfl]
      exact p2.ge (Nat.le_refl _) k3.ge fun hne => k3.mem _ (by
        rcases p2 with ⟨e,_⟩ | ⟨_,_,_,hb,_⟩
        · simp at e
        · omega)
    · rw [if_neg hji,if_neg (Ne.symm hji),if_neg (Ne.symm hji)]
      exact (hoth j hj hji).ge (Nat.le_refl _) k3.ge fun hne => k3.mem _ (by
        rcases hoth j hj hji with ⟨e,_⟩ | ⟨_,_,_,hb,_⟩
        · exact absurd e hne
        · omega)
  · show (if j = i then b2 else bs j) ≠ (if k = i then b2 else bs k)
    rw [setDl (by omega)] at e1 e2
    by_cases hji:j = i
    · subst hji;rw [if_pos rfl,if_neg (Ne.symm hjk)];rw [if_neg hjk] at e2;exact (hother k hk (Ne.symm hjk) e2).symm
    · rw [if_neg hji];rw [if_neg (Ne.symm hji)] at e1
      by_cases hki:k = i
      · subst hki;rw [if_pos rfl];exact hother j hj hji e1
      · rw [if_neg hki];rw [if_neg (Ne.symm hki)] at e2;exact h5 j k hj hk hjk e1 e2
theorem TW.sl {A X:Heap} {nr n:Nat} {w:List (List Int)} (h:TW A X nr w n) (hn:n ≤ 1000) (hw:∀ i,i < n → (w.getD i []).length ≤ 1000):SlG X (.slice (some ⟨nr,0,none⟩) n n) w nr 0:=by
  obtain ⟨vals,bs,h1,h2,h3,_⟩:=h.row;have hl:=h.len;refine ⟨⟨_,_,by rw [hl],fun _ => rfl⟩,fun i hi => ?_,fun _ => h2.lt,by have:Go.maxLen = 9223372036854775807:=rfl; omega⟩
  have hrd:X.read nr i 1 = some [vals.getD i (.slice none 0 0)]:=by
    rw [h2.read (o:=i) (n:=1) (by omega),List.drop_eq_getElem_cons (by omega),List.getD_eq_getElem?_getD,List.getElem?_eq_getElem (by omega)]; rfl
  have e1:0 + i * (sliceE (intE .i64)).sz = i:=by show 0 + i * 1 = i; omega
  rw [e1];obtain ⟨r,hs,_⟩:=(h3 i (by omega)).lst.sl (by have:=hw i (by omega); have:Go.maxLen = 9223372036854775807:=rfl; omega)
  exact ⟨_,hrd,_,r,0,rfl,hs⟩
theorem mkG (H:Heap) (hg:Grp H) {n:Nat} (h:n ≤ 60):∃ H2,aMakeSlice Tryz.prog H 22 (.int .i64 (n:Int)) (.int .i64 (n:Int)) = some (.slice (some ⟨H.size,0,none⟩) n n,H2) ∧ TW H H2 H.size (List.replicate n []) n:=by
  have h2:=makeSlice_eq (P:=Tryz.prog) (t:=22) (e:=23) (inf:=Tryz.t23) (z:=.slice none 0 0) Tryz.underlying22 (by kernel_rfl) (by kernel_rfl) rfl (by kernel_rfl) (of_decide_eq_true (by kernel_rfl)) H .i64 .i64 (l:=(n:Int)) (by omega) (by omega)
  have h3:Tryz.t23.size = 1:=by kernel_rfl
  rw [h3,Nat.mul_one,Int.toNat_natCast] at h2;have hk:=Keep.newExact H (List.replicate n (Value.slice none 0 0)) 23;refine ⟨_,h2,hk,hk.grp hg,hk.low,by simp,List.replicate n (.slice none 0 0),fun _ => 0,by simp,Own.new _ _ _,fun i hi => ?_,fun i j _ _ _ e1 => ?_⟩
  · have e1:(List.replicate n (Value.slice none 0 0)).getD i (.slice none 0 0) = .slice none 0 0:=by rw [List.getD_eq_getElem?_getD,List.getElem?_replicate]; split <;> rfl
    have e2:(List.replicate n ([] : List Int)).getD i [] = []:=by rw [List.getD_eq_getElem?_getD,List.getElem?_replicate]; split <;> rfl
    rw [e1,e2];exact .inl ⟨rfl,rfl⟩
  · rw [List.getD_eq_getElem?_getD,List.getElem?_replicate] at e1;exact absurd (by split <;> rfl) e1
end Go.Proofs.YtdfjaoncabanbaaGreatDoor
