/- Whole numbers of any size, continued: the sum. -/
import Derived.Test.YtpeoleimmabceaaGreatBA
import Derived.Test.YtpeoleimmabceaaGreatBH
import Derived.Test.YtpeoleimmabceaaGreatBBn
set_option linter.unusedVariables false
set_option linter.unusedSimpArgs false
set_option linter.unusedSectionVars false

namespace Go.Proofs.YtpeoleimmabceaaGreat
open Go Go.AM
set_option maxRecDepth 10000

theorem BigIs.addr0 {H:Heap} {v:Value} {z:Int} {lo l:Nat} (h:BigIs H v z lo):BigIs (H.relow l) v z lo:=by
  obtain ⟨v',w,r,o,h1,h2,h3⟩:=h;exact ⟨v',w,r,o,h1,⟨h2.isv,h2.rd,h2.lt,h2.ml⟩,h3⟩
theorem BigIs.mono0 {H:Heap} {v:Value} {z:Int} {a b:Nat} (h:BigIs H v z a) (hab:a ≤ b):BigIs H v z b:=by
  obtain ⟨v',w,r',o',h1,h2,h3,h4,h5,h6⟩:=h;exact ⟨v',w,r',o',h1,h2,h3,h4,h5,Nat.le_trans h6 hab⟩
theorem SlI.addr0 {k:IntKind} {H:Heap} {v:Value} {w:List Int} {r o l:Nat} (h:SlI k H v w r o):SlI k (H.relow l) v w r o:=⟨h.isv,h.rd,h.lt,h.ml⟩
theorem ne_row2 {H:Heap} {r:Nat} {e:TypeId} (h:Own H r e [.bool false,.slice none 0 0]) {k:IntKind} {v:Value} {w:List Int} {r' o':Nat} (hx:SlI k H v w r' o') (h0:0 < w.length):r' ≠ r:=by
  intro he;subst he;have h1:=(hx.rdI h0).1
  by_cases hle:o' + 0 + 1 ≤ 2
  · rw [h.read (o:=o' + 0) (n:=1) hle] at h1;rcases o' with _ | _ | o';all_goals first | (simp at h1; done) | omega
  · unfold Heap.read at h1;rw [h.get] at h1;simp only [] at h1;rw [show Nat.ble (o' + 0 + 1) [Value.bool false,.slice none 0 0].length = false from Bool.eq_false_iff.2 (fun hb => hle (Nat.le_of_ble_eq_true hb))] at h1
    simp at h1
theorem retBig {H:Heap} {r:Nat} (h:Own H r 51 [.bool false,.slice none 0 0]) {v:Value} {z:Int} {lo:Nat} (hq:BigIs H v z lo) :
    ∃ H2,aStore Tryz.prog H 51 (.pointer (some ⟨r,0,none⟩)) v = some H2 ∧ aLoad Tryz.prog H2 51 (.pointer (some ⟨r,0,none⟩)) = some v ∧ BigIs H2 v z lo ∧ (∀ H0,Keep H0 H → H0.size ≤ r → Keep H0 H2):=by
  obtain ⟨v',w,r',o',rfl,s1,h3⟩:=hq;obtain ⟨a1,c1,rfl⟩:=s1.v0;obtain ⟨H2,ps,q8,hsz,hkp⟩:=stBig h rfl (decide (z < 0)) a1 w.length c1;exact ⟨H2,ps,by rw [ldBig,q8]; rfl,⟨_,w,r',o',rfl,SlE.other h ps hsz s1 (ne_row2 h s1),h3⟩,hkp⟩

theorem endBig {S:AM.Sys} {f:FuncId} {args:List Value} {H0 H:Heap} {r:Nat} (hk:Keep H0 H) (hr:H0.size ≤ r) (hL:H.low ≤ H.size) (hg0:Grp H0) (ow:Own H r 51 [.bool false,.slice none 0 0]) {z:Int} {lo:Nat} (h:BigOut S f args (H.relow H.size) z lo) :
    ∃ v H6 H7 H8,(∀ (K:Value → Heap → Prop) (b:Blk K),sxCallB Tryz.prog S (.fn f) args (H.relow H.size) K b = K v H6) ∧ (∀ (all:List Oper) (n:Nat) (k:Heap → Prop),sxD all n H H6 k = k H7) ∧
      aStore Tryz.prog (H7.relow H7.size) 51 (.pointer (some ⟨r,0,none⟩)) v = some H8 ∧ aLoad Tryz.prog H8 51 (.pointer (some ⟨r,0,none⟩)) = some v ∧ H7.low ≤ H7.size ∧
      Keep H0 (H8.relow (Nat.min H7.low H8.low)) ∧ Grp (H8.relow (Nat.min H7.low H8.low)) ∧ BigIs (H8.relow (Nat.min H7.low H8.low)) v z lo:=by
  obtain ⟨H6,v,hK6,hg6,hb,hR⟩:=h;have hK67:=Keep.draw hK6;have hK7:=hk.trans hK67;have ow7:=(ow.keep hK67).addr (l:=(H6.relow (Nat.min H.low H6.low)).size);obtain ⟨H8,ps,hld,hq,hkp⟩:=retBig ow7 (hb.addr0.addr0);have hK8:=Keep.lower hK7 (hkp H0 (hK7.trans (Keep.relowS _)) hr);exact ⟨v,H6,H6.relow (Nat.min H.low H6.low),H8,hR.bx,fun all n k => sxD_keep hK6 k,ps,hld,hK67.low hL,hK8,hK8.grp hg0,hq.addr0⟩

variable {S:AM.Sys} (hS:Only S 5)
include hS

theorem whole_big (sg:Bool) (v:Value) (w:List Int) (r o:Nat) (H:Heap) (hg:Grp H) (hL:H.low ≤ H.size) (hd:SlI .i64 H v w r o) (hdg:Digs w) (hs:w.length ≤ 100000) (z:Int) (hv:val w = z.natAbs) (hsg:z ≠ 0 → sg = decide (z < 0)):BigOut S 75 [.bool sg,v] H z w.length:=by
  have hob:=whole_runs hS sg v w r o H hg hL hd hs;obtain ⟨H',v',r',o',hK,hg',s',hF,hfr,hR⟩:=hob;have hvt:val (trimL w) = z.natAbs:=by rw [trimL_val,hv]
  have htd:=trimL_digs hdg;have htn:=trimL_norm w;have hpos:=val_zero htd htn;rw [hvt] at hpos;have hsg2:(sg && decide (0 < (trimL w).length)) = decide (z < 0):=by
    by_cases h0:z = 0
    · have hl:¬ 0 < (trimL w).length:=fun h => by have:=hpos.1 h; omega
      rw [decide_eq_false hl,decide_eq_false (show ¬ z < 0 by omega),Bool.and_false]
    · rw [decide_eq_true (hpos.2 (by omega)),Bool.and_true,hsg h0]
  rw [hsg2] at hR;exact ⟨H',_,hK,hg',⟨_,trimL w,r',o',rfl,s',htd,htn,hvt,trimL_le w⟩,hR⟩

theorem Plus_runs (v1 v2:Value) (x y:Int) (l1 l2:Nat) (H:Heap) (hg:Grp H) (hL:H.low ≤ H.size) (h1:BigIs H v1 x l1) (h2:BigIs H v2 y l2) (hl1:l1 ≤ 400) (hl2:l2 ≤ 400):BigOut S 80 [v1,v2] H (x + y) (l1 + l2 + 1):=by
  suffices h:WCall Tryz.prog S (.fn 80) [v1,v2] H (fun v H' => Keep H H' ∧ Grp H' ∧ BigIs H' v (x + y) (l1 + l2 + 1)) by
    obtain ⟨v,H',hr,h1,h2,h3⟩:=h; exact ⟨H',v,h1,h2,h3,hr⟩
  obtain ⟨u1,w1,r1,o1,rfl,s1,d1,n1,e1,g1⟩:=h1;obtain ⟨u2,w2,r2,o2,rfl,s2,d2,n2,e2,g2⟩:=h2;obtain ⟨a1,c1,rfl⟩:=s1.v0;obtain ⟨a2,c2,rfl⟩:=s2.v0;obtain ⟨H1,b1,hK1,hs1,zz1,hr1⟩:=box1 H [.bool (decide (x < 0)),.slice a1 w1.length c1] 51;obtain ⟨H2,b2,hK2,hs2,zz2,hr2⟩:=box1 H1 [.bool (decide (y < 0)),.slice a2 w2.length c2] 51;obtain ⟨H3,b3,hK3,hs3,zz3,_⟩:=box1 H2 [.bool false,.slice none 0 0] 51;have ow:Own H3 H2.size 51 [.bool false,.slice none 0 0]:=b3 ▸ Own.new H2 _ _;clear zz1 zz2 zz3;have q0:=(hK2.trans hK3).read hs1 (hr1 0 1 (show 0 + 1 ≤ 2 by omega))
  have q1:=(hK2.trans hK3).read hs1 (hr1 1 1 (show 1 + 1 ≤ 2 by omega))
  have q2:=hK3.read hs2 (hr2 0 1 (show 0 + 1 ≤ 2 by omega))
  have q3:=hK3.read hs2 (hr2 1 1 (show 1 + 1 ≤ 2 by omega))
  replace q0:H3.read H.size 0 1 = some [.bool (decide (x < 0))]:=q0;replace q1:H3.read H.size 1 1 = some [.slice a1 w1.length c1]:=q1;replace q2:H3.read H1.size 0 1 = some [.bool (decide (y < 0))]:=q2;replace q3:H3.read H1.size 1 1 = some [.slice a2 w2.length c2]:=q3;have hc1:(Value.agg ⟨[.bool (decide (x < 0)),.slice a1 w1.length c1]⟩).cells.toList = [.bool (decide (x < 0)),.slice a1 w1.length c1]:=rfl;have hc2:(Value.agg ⟨[.bool (decide (y < 0)),.slice a2 w2.length c2]⟩).cells.toList = [.bool (decide (y < 0)),.slice a2 w2.length c2]:=rfl;have hK03:=(hK1.trans hK2).trans hK3;have hL3:=hK03.low hL;have hg3:=hK03.grp hg;clear hr1 hr2;refine Zaaw Tryz.func80 rfl (Nat.le_of_ble_eq_true rfl) (hS.no rfl _ _) ?_
  rw [Tryz.ntmps80,Tryz.results80];have hrl:=Keep.relowS H3;have hgr:=hrl.grp hg3;have sa:=(s1.keep hK03).keep hrl;have sb:=(s2.keep hK03).keep hrl;have key:∀ (f:FuncId) (args:List Value) (sg:Bool),(x + y ≠ 0 → sg = decide (x + y < 0)) → (∃ w,Digs w ∧ val w = ((x + y).natAbs:Int) ∧ w.length ≤ l1 + l2 + 1 ∧ Out S f args (H3.relow H3.size) w) →
      ∃ v4 H4 H5 v6 H6 H7 H8,(∀ (K:Value → Heap → Prop) (b:Blk K),sxCallB Tryz.prog S (.fn f) args (H3.relow H3.size) K b = K v4 H4) ∧ (∀ (all:List Oper) (n:Nat) (k:Heap → Prop),sxD all n H3 H4 k = k H5) ∧ H5.low ≤ H5.size ∧
        (∀ (K:Value → Heap → Prop) (b:Blk K),sxCallB Tryz.prog S (.fn 75) [.bool sg,v4] (H5.relow H5.size) K b = K v6 H6) ∧ (∀ (all:List Oper) (n:Nat) (k:Heap → Prop),sxD all n H5 H6 k = k H7) ∧
        aStore Tryz.prog (H7.relow H7.size) 51 (.pointer (some ⟨H2.size,0,none⟩)) v6 = some H8 ∧ aLoad Tryz.prog H8 51 (.pointer (some ⟨H2.size,0,none⟩)) = some v6 ∧ H7.low ≤ H7.size ∧
        Keep H (H8.relow (Nat.min H7.low H8.low)) ∧ Grp (H8.relow (Nat.min H7.low H8.low)) ∧ BigIs (H8.relow (Nat.min H7.low H8.low)) v6 (x + y) (l1 + l2 + 1):=by
    rintro f args sg hsg ⟨w,wd,wv,wl,H4,v4,r4,o4,hK4,hg4,s4,hF4,hfr4,hR4⟩;have hK45:=Keep.draw hK4;have hL5:=hK45.low hL3;have hK05:=hK03.trans hK45;have hw:=whole_big hS sg v4 w r4 o4 ((H4.relow (Nat.min H3.low H4.low)).relow (H4.relow (Nat.min H3.low H4.low)).size) ((Keep.relowS _).grp (hK45.grp hg3)) (Nat.le_refl _) (SlI.addr0 (SlI.addr0 s4)) wd (by omega) (x + y) wv hsg
    obtain ⟨Hw,vw,k1,k2,k3,k4⟩:=hw;obtain ⟨v6,H6,H7,H8,a1,a2,a3,a4,a5,a6,a7,a8⟩:=endBig hK05 (Nat.le_trans hK1.size hK2.size) hL5 hg (ow.keep hK45) ⟨Hw,vw,k1,k2,BigIs.mono0 k3 wl,k4⟩;exact ⟨v4,H4,H4.relow (Nat.min H3.low H4.low),v6,H6,H7,H8,hR4.bx,fun all n k => sxD_keep hK4 k,hL5,a1,a2,a3,a4,a5,a6,a7,a8⟩
  by_cases hxy:decide (x < 0) = decide (y < 0)
  · have hb:(decide (x < 0) == decide (y < 0)) = true:=by rw [hxy]; exact beq_self_eq_true _
    have hiff:=decide_eq_decide.1 hxy
    have hob:=key 94 [.slice a1 w1.length c1,.slice a2 w2.length c2] (decide (x < 0)) (fun _ => decide_eq_decide.2 (by omega)) (by
      obtain ⟨w,k1,k2,k3,k4⟩:=addD_runs hS _ _ w1 w2 r1 o1 r2 o2 (H3.relow H3.size) hgr (Nat.le_refl _) sa sb d1 d2 (by omega) (by omega)
      exact ⟨w,k1,by rw [k2,e1,e2]; omega,by omega,k4⟩)
    obtain ⟨v4,H4,H5,v6,H6,H7,H8,fa,fb,hL5,fc,fd,ps,hld,hL7,hK8,hg8,hbig⟩:=hob;rw [ldBig] at hld;clear hxy hiff key sa sb ow s1 s2 d1 d2 n1 n2 e1 e2
    repeat' (first | simp only [↓Zabs,↓Zabn,↓Zabp,↓Zabr,↓Zaae,↓Zabq,↓Zacj,↓Zaci,↓Zacd,↓Zaag,↓Zaca,↓Zaby,↓sxD_same,↓Zaco,↓Zaah,↓bxOp_box,↓Zaap,↓Zaas,↓Zaak,↓Zaam,↓Zaat,↓Zacl,↓bxPut,↓Zabk,↓Zabl,↓Zabi,↓Zacm,↓Zaau,↓Zacp,↓Zaba,↓Zaay,↓Zaaz,Zack,Zabt,Zach,Zabg,List.map_cons,List.map_nil,List.nil_append,List.append_nil,↓reduceIte,Nat.reduceEqDiff,Nat.reduceLT,and_self,read_relow,Zaaa,Nat.add_zero,one1,Option.bind_some, *,argF,List.getD_cons_zero,List.getD_cons_succ,alBig,ldBig,faG0,faG1,ldB4,ldIs,eqlB,Nat.zero_add] | (with_reducible first | refine Zabv (by assumption) (by decide +kernel) ?_ | refine Zabu (by decide +kernel) ?_ | refine Zacc (by decide +kernel) ?_ | refine Zabx ?_))
  · have hb:(decide (x < 0) == decide (y < 0)) = false:=beq_false_of_ne hxy;have hiff:¬ ((x < 0) ↔ (y < 0)):=fun h => hxy (decide_eq_decide.2 h)
    have hcm:=(cmpD_runs hS _ _ w1 w2 r1 o1 r2 o2 H3 hL3 (s1.keep hK03) (s2.keep hK03)).bx;have hcv:=cmpL_val d1 n1 d2 n2;rw [e1,e2] at hcv
    by_cases hge:0 ≤ cmpL w1 w2
    · have hle:y.natAbs ≤ x.natAbs:=by
        rw [hcv] at hge;split at hge
        · omega
        · omega
      have hob:=key 95 [.slice a1 w1.length c1,.slice a2 w2.length c2] (decide (x < 0)) (fun hz => decide_eq_decide.2 (by omega)) (by
        obtain ⟨w,k1,k2,k3⟩:=subD_runs hS _ _ w1 w2 r1 o1 r2 o2 (H3.relow H3.size) hgr (Nat.le_refl _) sa sb d1 d2 (by omega) (len_le d2 n2 d1 (by rw [e1,e2]; omega)) (by rw [e1,e2]; omega)
        exact ⟨w,k1.1,by rw [k1.2.2,e1,e2]; omega,by omega,k3⟩)
      obtain ⟨v4,H4,H5,v6,H6,H7,H8,fa,fb,hL5,fc,fd,ps,hld,hL7,hK8,hg8,hbig⟩:=hob;rw [ldBig] at hld;clear hxy hiff key sa sb ow s1 s2 d1 d2 n1 n2 e1 e2 hcv hle
      repeat' (first | simp only [↓Zabs,↓Zabn,↓Zabp,↓Zabr,↓Zaae,↓Zabq,↓Zacj,↓Zaci,↓Zacd,↓Zaag,↓Zaca,↓Zaby,↓sxD_same,↓Zaco,↓Zaah,↓bxOp_box,↓Zaap,↓Zaas,↓Zaak,↓Zaam,↓Zaat,↓Zacl,↓bxPut,↓Zabk,↓Zabl,↓Zabi,↓Zacm,↓Zaau,↓Zacp,↓Zaba,↓Zaay,↓Zaaz,Zack,Zaab,Zabd,Zabt,Zach,Zacg,Zabg,List.map_cons,List.map_nil,List.nil_append,List.append_nil,↓reduceIte,Nat.reduceEqDiff,Nat.reduceLT,dec_T,and_self,read_relow,Zaaa,Nat.add_zero,one1,Option.bind_some, *,argF,List.getD_cons_zero,List.getD_cons_succ,alBig,ldBig,faG0,faG1,ldB4,ldIs,eqlB,Nat.zero_add] | (with_reducible first | refine Zabv (by assumption) (by decide +kernel) ?_ | refine Zabu (by decide +kernel) ?_ | refine Zacc (by decide +kernel) ?_ | refine Zabx ?_))
    · have hle:x.natAbs ≤ y.natAbs:=by
        rw [hcv] at hge;split at hge
        · omega
        · omega
      have hob:=key 95 [.slice a2 w2.length c2,.slice a1 w1.length c1] (decide (y < 0)) (fun hz => decide_eq_decide.2 (by omega)) (by
        obtain ⟨w,k1,k2,k3⟩:=subD_runs hS _ _ w2 w1 r2 o2 r1 o1 (H3.relow H3.size) hgr (Nat.le_refl _) sb sa d2 d1 (by omega) (len_le d1 n1 d2 (by rw [e1,e2]; omega)) (by rw [e1,e2]; omega)
        exact ⟨w,k1.1,by rw [k1.2.2,e1,e2]; omega,by omega,k3⟩)
      obtain ⟨v4,H4,H5,v6,H6,H7,H8,fa,fb,hL5,fc,fd,ps,hld,hL7,hK8,hg8,hbig⟩:=hob;rw [ldBig] at hld;clear hxy hiff key sa sb ow s1 s2 d1 d2 n1 n2 e1 e2 hcv hle
      repeat' (first | simp only [↓Zabs,↓Zabn,↓Zabp,↓Zabr,↓Zaae,↓Zabq,↓Zacj,↓Zaci,↓Zacd,↓Zaag,↓Zaca,↓Zaby,↓sxD_same,↓Zaco,↓Zaah,↓bxOp_box,↓Zaap,↓Zaas,↓Zaak,↓Zaam,↓Zaat,↓Zacl,↓bxPut,↓Zabk,↓Zabl,↓Zabi,↓Zacm,↓Zaau,↓Zacp,↓Zaba,↓Zaay,↓Zaaz,Zack,Zaab,Zabd,Zabt,Zacg,Zabg,List.map_cons,List.map_nil,List.nil_append,List.append_nil,↓reduceIte,Nat.reduceEqDiff,Nat.reduceLT,dec_F,and_self,read_relow,Zaaa,Nat.add_zero,one1,Option.bind_some, *,argF,List.getD_cons_zero,List.getD_cons_succ,alBig,ldBig,faG0,faG1,ldB4,ldIs,eqlB,Nat.zero_add] | (with_reducible first | refine Zabv (by assumption) (by decide +kernel) ?_ | refine Zabu (by decide +kernel) ?_ | refine Zacc (by decide +kernel) ?_ | refine Zabx ?_))
end Go.Proofs.YtpeoleimmabceaaGreat

namespace Go.Proofs.YtpeoleimmabceaaGreat
open Go Go.AM
set_option maxRecDepth 10000

variable {S:AM.Sys} (hS:Only S 5)
include hS

theorem Minus_runs (v1 v2:Value) (x y:Int) (l1 l2:Nat) (H:Heap) (hg:Grp H) (hL:H.low ≤ H.size) (h1:BigIs H v1 x l1) (h2:BigIs H v2 y l2) (hl1:l1 ≤ 400) (hl2:l2 ≤ 400):BigOut S 63 [v1,v2] H (x - y) (l1 + l2 + 1):=by
  suffices h:WCall Tryz.prog S (.fn 63) [v1,v2] H (fun v H' => Keep H H' ∧ Grp H' ∧ BigIs H' v (x - y) (l1 + l2 + 1)) by
    obtain ⟨v,H',hr,h1,h2,h3⟩:=h; exact ⟨H',v,h1,h2,h3,hr⟩
  have h1':=h1;have h2':=h2;obtain ⟨u1,w1,r1,o1,rfl,s1,-⟩:=h1;obtain ⟨u2,w2,r2,o2,rfl,s2,-⟩:=h2;clear s1 s2;obtain ⟨H1,b1,hK1,hs1,zz1,hr1⟩:=box1 H [.bool (decide (x < 0)),u1] 51;obtain ⟨H2,b2,hK2,hs2,zz2,hr2⟩:=box1 H1 [.bool (decide (y < 0)),u2] 51;obtain ⟨H3,b3,hK3,hs3,zz3,_⟩:=box1 H2 [.bool false,.slice none 0 0] 51;have ow:Own H3 H2.size 51 [.bool false,.slice none 0 0]:=b3 ▸ Own.new H2 _ _;clear zz1 zz2 zz3;have q0:=(hK2.trans hK3).read hs1 (hr1 0 2 (show 0 + 2 ≤ 2 by omega))
  have q2:=hK3.read hs2 (hr2 0 2 (show 0 + 2 ≤ 2 by omega))
  replace q0:H3.read H.size 0 2 = some [.bool (decide (x < 0)),u1]:=q0;replace q2:H3.read H1.size 0 2 = some [.bool (decide (y < 0)),u2]:=q2;have hc1:(Value.agg ⟨[.bool (decide (x < 0)),u1]⟩).cells.toList = [.bool (decide (x < 0)),u1]:=rfl;have hc2:(Value.agg ⟨[.bool (decide (y < 0)),u2]⟩).cells.toList = [.bool (decide (y < 0)),u2]:=rfl;have hK03:=(hK1.trans hK2).trans hK3;have hL3:=hK03.low hL;have hg3:=hK03.grp hg;clear hr1 hr2;have hrl:=Keep.relowS H3;have hob:=Neg_runs hS _ y l2 (H3.relow H3.size) (hrl.grp hg3) (Nat.le_refl _) ((h2'.keep hK03).keep hrl) (by omega)
  obtain ⟨H4,v4,hK4,hg4,hb4,hR4⟩:=hob;have f4:=hR4.bx;have hd1:∀ (all:List Oper) (n:Nat) (k:Heap → Prop),sxD all n H3 H4 k = k (H4.relow (Nat.min H3.low H4.low)):=fun all n k => sxD_keep hK4 k
  have hK35:=Keep.draw hK4;have hb5:BigIs (H4.relow (Nat.min H3.low H4.low)) v4 (0 - y) l2:=hb4.addr0;have hL5:=hK35.low hL3;generalize hH5:H4.relow (Nat.min H3.low H4.low) = H5 at *;have hrl5:=Keep.relowS H5;have hz:x + (0 - y) = x - y:=by omega
  have hob2:=Plus_runs hS _ _ x (0 - y) l1 l2 (H5.relow H5.size) (hrl5.grp (hK35.grp hg3)) (Nat.le_refl _) ((h1'.keep (hK03.trans hK35)).keep hrl5) (hb5.keep hrl5) hl1 hl2;rw [hz] at hob2;obtain ⟨v6,H6,H7,H8,fc,fd,ps,hld,hL7,hK8,hg8,hbig⟩:=endBig (hK03.trans hK35) (Nat.le_trans hK1.size hK2.size) hL5 hg (ow.keep hK35) hob2;rw [ldBig] at hld;have q0':=hK35.read (Nat.lt_of_lt_of_le hs1 (hK2.trans hK3).size) q0;refine Zaaw Tryz.func63 rfl (Nat.le_of_ble_eq_true rfl) (hS.no rfl _ _) ?_
  rw [Tryz.ntmps63,Tryz.results63];clear hR4 ow h1' h2' hb4 hb5 hob2
  repeat' (first | simp only [↓Zabn,↓Zabp,↓Zabr,↓Zabq,↓Zacj,↓Zaci,↓Zacd,↓Zaag,↓Zaca,↓sxD_same,↓Zaco,↓Zaah,↓bxOp_box,↓Zaap,↓Zaas,↓Zaat,↓Zacl,↓bxPut,↓Zabk,↓Zabi,↓Zacm,↓Zaau,↓Zacp,↓Zaba,↓Zaaz,Zack,Zabt,Zabg,List.map_cons,List.map_nil,List.nil_append,List.append_nil,↓reduceIte,Nat.reduceEqDiff,Nat.reduceLT,and_self,read_relow,Zaaa,Option.map_some, *,argF,List.getD_cons_zero,List.getD_cons_succ,alBig,ldBig] | (with_reducible first | refine Zabv (by assumption) (by decide +kernel) ?_ | refine Zabu (by decide +kernel) ?_ | refine Zacc (by decide +kernel) ?_ | refine Zabx ?_))
end Go.Proofs.YtpeoleimmabceaaGreat

namespace Go.Proofs.YtpeoleimmabceaaGreat
open Go Go.AM
set_option maxRecDepth 10000

theorem BigIs.short {H:Heap} {v:Value} {z:Int} {lo:Nat} (h:BigIs H v z lo) {k:Nat} (hz:(z.natAbs:Int) < 10000 ^ k):BigIs H v z k:=by
  obtain ⟨v',w,r',o',h1,h2,h3,h4,h5,h6⟩:=h;refine ⟨v',w,r',o',h1,h2,h3,h4,h5,?_⟩;rcases Nat.lt_or_ge k w.length with hk | hk
  · exfalso;have h7:=(Dg.of h3 h4).ge (by omega)
    rw [Int.toNat_of_nonneg h3.nonneg,h5] at h7;have h8:=pow_mono (show k ≤ w.length - 1 by omega)
    omega
  · exact hk

def QV (H:Heap) (v:Value) (n d:Int):Prop:=
  ∃ n' d':Int,QIs H v n' d' 400 ∧ 0 < d' ∧ n'.natAbs.gcd d'.natAbs = 1 ∧ n' * d = n * d'

theorem QV.keep {H H':Heap} {v:Value} {n d:Int} (h:QV H v n d) (hk:Keep H H'):QV H' v n d:=by
  obtain ⟨n',d',⟨s1,w1,s2,w2,h1,h2,h3⟩,h4⟩:=h;exact ⟨n',d',⟨s1,w1,s2,w2,h1,h2.keep hk,h3.keep hk⟩,h4⟩
theorem QV.addr {H:Heap} {v:Value} {n d:Int} {l:Nat} (h:QV H v n d):QV (H.relow l) v n d:=by
  obtain ⟨n',d',⟨s1,w1,s2,w2,h1,h2,h3⟩,h4⟩:=h;exact ⟨n',d',⟨s1,w1,s2,w2,h1,h2.addr0,h3.addr0⟩,h4⟩
theorem QV.as {H:Heap} {v:Value} {n d n2 d2:Int} (h:QV H v n d) (hd:0 < d) (he:n * d2 = n2 * d):QV H v n2 d2:=by
  obtain ⟨n',d',h1,h2,h3,h4⟩:=h;refine ⟨n',d',h1,h2,h3,?_⟩;have h5:d * (n' * d2) = d * (n2 * d'):=by
    calc d * (n' * d2) = (n' * d) * d2:=by rw [Int.mul_comm n' d,Int.mul_assoc]
      _ = (n * d') * d2:=by rw [h4]
      _ = (n * d2) * d':=by rw [Int.mul_assoc,Int.mul_comm d' d2,← Int.mul_assoc]
      _ = (n2 * d) * d':=by rw [he]
      _ = d * (n2 * d'):=by rw [Int.mul_comm n2 d,Int.mul_assoc]
  exact Int.eq_of_mul_eq_mul_left (by omega) h5
theorem low_le {n d n' d':Int} (hd:0 < d) (h2:0 < d') (h3:n'.natAbs.gcd d'.natAbs = 1) (h4:n' * d = n * d'):d' ≤ d ∧ n'.natAbs ≤ n.natAbs:=by
  have h5:n'.natAbs * d.natAbs = n.natAbs * d'.natAbs:=by rw [← Int.natAbs_mul,← Int.natAbs_mul,h4]
  have h6:d'.natAbs ∣ n'.natAbs * d.natAbs:=⟨n.natAbs,by rw [h5,Nat.mul_comm]⟩
  have h7:d'.natAbs ∣ d.natAbs:=(Nat.Coprime.symm h3).dvd_of_dvd_mul_left h6;have h8:n'.natAbs ∣ n.natAbs * d'.natAbs:=⟨d.natAbs,h5.symm⟩;have h9:n'.natAbs ∣ n.natAbs:=(show Nat.Coprime n'.natAbs d'.natAbs from h3).dvd_of_dvd_mul_right h8
  have h10:=Nat.le_of_dvd (by omega) h7
  refine ⟨by omega,?_⟩
  rcases Nat.eq_zero_or_pos n.natAbs with h0 | h0
  · have:n'.natAbs * d.natAbs = 0:=by rw [h5,h0,Nat.zero_mul]
    rcases Nat.mul_eq_zero.1 this with h | h <;> omega
  · exact Nat.le_of_dvd h0 h9
theorem QV.short {H:Heap} {v:Value} {n d:Int} (h:QV H v n d) (hd:0 < d) {k:Nat} (b1:(n.natAbs:Int) < 10000 ^ k) (b2:d < 10000 ^ k) :
    ∃ n' d':Int,QIs H v n' d' k ∧ 0 < d' ∧ n'.natAbs.gcd d'.natAbs = 1 ∧ n' * d = n * d':=by
  obtain ⟨n',d',⟨s1,w1,s2,w2,h1,h2,h3⟩,h4,h5,h6⟩:=h;have h7:=low_le hd h4 h5 h6;exact ⟨n',d',⟨s1,w1,s2,w2,h1,h2.short (by omega),h3.short (by omega)⟩,h4,h5,h6⟩
theorem QV.of {H:Heap} {v:Value} {x y:Int} (hy:0 < y) (h:QIs H v (x / ((Nat.gcd x.natAbs y.toNat:Nat):Int)) (y / ((Nat.gcd x.natAbs y.toNat:Nat):Int)) 400):QV H v x y:=by
  have hyn:y.natAbs = y.toNat:=by omega
  have hgp:0 < Nat.gcd x.natAbs y.toNat:=Nat.gcd_pos_of_pos_right _ (by omega)
  have hdx:((Nat.gcd x.natAbs y.toNat:Nat):Int) ∣ x:=Int.ofNat_dvd_left.2 (Nat.gcd_dvd_left _ _);have hdy:((Nat.gcd x.natAbs y.toNat:Nat):Int) ∣ y:=Int.ofNat_dvd_left.2 (hyn ▸ Nat.gcd_dvd_right _ _);refine ⟨_,_,h,Int.ediv_pos_of_pos_of_dvd hy (by omega) hdy,?_,?_⟩
  · rw [Int.natAbs_ediv_of_dvd hdx,Int.natAbs_ediv_of_dvd hdy,hyn,Int.natAbs_natCast];exact Nat.coprime_div_gcd_div_gcd hgp
  · generalize ((Nat.gcd x.natAbs y.toNat:Nat):Int) = G at *;obtain ⟨p,rfl⟩:=hdx;obtain ⟨q,rfl⟩:=hdy;have hG:G ≠ 0:=fun h0 => by subst h0; omega
    rw [Int.mul_ediv_cancel_left _ hG,Int.mul_ediv_cancel_left _ hG,← Int.mul_assoc,Int.mul_comm p G,]

variable {S:AM.Sys} (hS:Only S 5)
include hS

theorem lowest_all (v1 v2:Value) (x y:Int) (l1 l2:Nat) (H:Heap) (hg:Grp H) (hL:H.low ≤ H.size) (hy:0 < y) (h1:BigIs H v1 x l1) (h2:BigIs H v2 y l2) (hl1:l1 ≤ 400) (hl2:l2 ≤ 400):∃ H' v,Keep H H' ∧ Grp H' ∧ QV H' v x y ∧ Runs Tryz.prog S (.fn 60) [v1,v2] H v H':=by
  by_cases hx:x < 0
  · obtain ⟨H',v,k1,k2,k3,k4⟩:=lowest_neg hS v1 v2 x y l1 l2 H hg hL hx hy h1 h2 hl1 hl2;exact ⟨H',v,k1,k2,QV.of hy k3,k4⟩
  · obtain ⟨H',v,k1,k2,k3,k4⟩:=lowest_runs hS v1 v2 x y l1 l2 H hg hL (by omega) hy h1 h2 hl1 hl2
    have hxn:x.natAbs = x.toNat:=by omega
    rw [← hxn] at k3;exact ⟨H',v,k1,k2,QV.of hy k3,k4⟩
theorem Frac_all (x y:Int) (H:Heap) (hg:Grp H) (hL:H.low ≤ H.size) (hx:0 ≤ x) (hy:0 < y) (hx2:x ≤ 9223372036854775807) (hy2:y ≤ 9223372036854775807):∃ H' v,Keep H H' ∧ Grp H' ∧ QV H' v x y ∧ Runs Tryz.prog S (.fn 23) [.int .i64 x,.int .i64 y] H v H':=by
  obtain ⟨H',v,k1,k2,k3,k4⟩:=Frac_runs hS x y H hg hL hx hy hx2 hy2;have hxn:x.natAbs = x.toNat:=by omega
  rw [← hxn] at k3;exact ⟨H',v,k1,k2,QV.of hy k3,k4⟩
end Go.Proofs.YtpeoleimmabceaaGreat
