/- Whole numbers of any size, continued: the sum. -/
import Derived.Test.YtdfjaoncabanbaaDoorBH
import Derived.Test.YtdfjaoncabanbaaDoorBB
import Derived.Test.YtdfjaoncabanbaaDoorN1
set_option linter.unusedVariables false
set_option linter.unusedSimpArgs false
set_option linter.unusedSectionVars false

namespace Go.Proofs.YtdfjaoncabanbaaDoor
open Go Go.AM
set_option maxRecDepth 10000

theorem BigIs.addr0 {H:Heap} {v:Value} {z:Int} {lo l:Nat} (h:BigIs H v z lo):BigIs (H.relow l) v z lo:=by
  obtain ⟨v',w,r,o,h1,h2,h3⟩:=h;exact ⟨v',w,r,o,h1,⟨h2.isv,h2.rd,h2.lt,h2.ml⟩,h3⟩
theorem BigIs.mono0 {H:Heap} {v:Value} {z:Int} {a b:Nat} (h:BigIs H v z a) (hab:a ≤ b):BigIs H v z b:=by
  obtain ⟨v',w,r',o',h1,h2,h3,h4,h5,h6⟩:=h;exact ⟨v',w,r',o',h1,h2,h3,h4,h5,Nat.le_trans h6 hab⟩
theorem SlI.addr0 {k:IntKind} {H:Heap} {v:Value} {w:List Int} {r o l:Nat} (h:SlI k H v w r o):SlI k (H.relow l) v w r o:=⟨h.isv,h.rd,h.lt,h.ml⟩
theorem ne_row2 {H:Heap} {r:Nat} {e:TypeId} (h:Own H r e [.bool false,.slice none 0 0]) {k:IntKind} {v:Value} {w:List Int} {r' o':Nat} (hx:SlI k H v w r' o') (h0:0 < w.length):r' ≠ r:=by
  intro he;subst he;have h1:=(hx.rdI h0).1
  by_cases hle:o' + 0 + 1 ≤ 2
  · rw [h.read (o:=o' + 0) (n:=1) hle] at h1;rcases o' with _ | _ | o';all_goals first | (simp at h1; done) | omega
  · unfold Heap.read at h1;rw [h.get] at h1;simp only [] at h1;rw [show Nat.ble (o' + 0 + 1) [Value.bool false,.slice none 0 0].length = false from Bool.eq_false_iff.2 (fun hb => hle (Nat.le_of_ble_eq_true hb))] at h1
    simp at h1
theorem retBig {H:Heap} {r:Nat} (h:Own H r 66 [.bool false,.slice none 0 0]) {v:Value} {z:Int} {lo:Nat} (hq:BigIs H v z lo) :
    ∃ H2,aStore Tryd.prog H 66 (.pointer (some ⟨r,0,none⟩)) v = some H2 ∧ aLoad Tryd.prog H2 66 (.pointer (some ⟨r,0,none⟩)) = some v ∧ BigIs H2 v z lo ∧ (∀ H0,Keep H0 H → H0.size ≤ r → Keep H0 H2):=by
  obtain ⟨v',w,r',o',rfl,s1,h3⟩:=hq;obtain ⟨a1,c1,rfl⟩:=s1.v0;obtain ⟨H2,ps,q8,hsz,hkp⟩:=stBig h rfl (decide (z < 0)) a1 w.length c1;exact ⟨H2,ps,by rw [ldBig,q8]; rfl,⟨_,w,r',o',rfl,SlE.other h ps hsz s1 (ne_row2 h s1),h3⟩,hkp⟩

theorem endBig {S:AM.Sys} {f:FuncId} {args:List Value} {H0 H:Heap} {r:Nat} (hk:Keep H0 H) (hr:H0.size ≤ r) (hL:H.low ≤ H.size) (hg0:Grp H0) (ow:Own H r 66 [.bool false,.slice none 0 0]) {z:Int} {lo:Nat} (h:BigOut S f args (H.relow H.size) z lo) :
    ∃ v H6 H7 H8,(∀ (K:Value → Heap → Prop) (b:Blk K),sxCallB Tryd.prog S (.fn f) args (H.relow H.size) K b = K v H6) ∧ (∀ (all:List Oper) (n:Nat) (k:Heap → Prop),sxD all n H H6 k = k H7) ∧
      aStore Tryd.prog (H7.relow H7.size) 66 (.pointer (some ⟨r,0,none⟩)) v = some H8 ∧ aLoad Tryd.prog H8 66 (.pointer (some ⟨r,0,none⟩)) = some v ∧ H7.low ≤ H7.size ∧
      Keep H0 (H8.relow (Nat.min H7.low H8.low)) ∧ Grp (H8.relow (Nat.min H7.low H8.low)) ∧ BigIs (H8.relow (Nat.min H7.low H8.low)) v z lo:=by
  obtain ⟨H6,v,hK6,hg6,hb,hR⟩:=h;have hK67:=Keep.draw hK6;have hK7:=hk.trans hK67;have ow7:=(ow.keep hK67).addr (l:=(H6.relow (Nat.min H.low H6.low)).size);obtain ⟨H8,ps,hld,hq,hkp⟩:=retBig ow7 (hb.addr0.addr0);have hK8:=Keep.lower hK7 (hkp H0 (hK7.trans (Keep.relowS _)) hr);exact ⟨v,H6,H6.relow (Nat.min H.low H6.low),H8,hR.bx,fun all n k => sxD_keep hK6 k,ps,hld,hK67.low hL,hK8,hK8.grp hg0,hq.addr0⟩

variable {S:AM.Sys} (hS:Only S 5)
include hS

theorem whole_big (sg:Bool) (v:Value) (w:List Int) (r o:Nat) (H:Heap) (hg:Grp H) (hL:H.low ≤ H.size) (hd:SlI .i64 H v w r o) (hdg:Digs w) (hs:w.length ≤ 100000) (z:Int) (hv:val w = z.natAbs) (hsg:z ≠ 0 → sg = decide (z < 0)):BigOut S 80 [.bool sg,v] H z w.length:=by
  have hob:=whole_runs hS sg v w r o H hg hL hd hs;obtain ⟨H',v',r',o',hK,hg',s',hF,hfr,hR⟩:=hob;have hvt:val (trimL w) = z.natAbs:=by rw [trimL_val,hv]
  have htd:=trimL_digs hdg;have htn:=trimL_norm w;have hpos:=val_zero htd htn;rw [hvt] at hpos;have hsg2:(sg && decide (0 < (trimL w).length)) = decide (z < 0):=by
    by_cases h0:z = 0
    · have hl:¬ 0 < (trimL w).length:=fun h => by have:=hpos.1 h; omega
      rw [decide_eq_false hl,decide_eq_false (show ¬ z < 0 by omega),Bool.and_false]
    · rw [decide_eq_true (hpos.2 (by omega)),Bool.and_true,hsg h0]
  rw [hsg2] at hR;exact ⟨H',_,hK,hg',⟨_,trimL w,r',o',rfl,s',htd,htn,hvt,trimL_le w⟩,hR⟩

theorem Plus_runs (v1 v2:Value) (x y:Int) (l1 l2:Nat) (H:Heap) (hg:Grp H) (hL:H.low ≤ H.size) (h1:BigIs H v1 x l1) (h2:BigIs H v2 y l2) (hl1:l1 ≤ 400) (hl2:l2 ≤ 400):BigOut S 65 [v1,v2] H (x + y) (l1 + l2 + 1):=by
  suffices h:WCall Tryd.prog S (.fn 65) [v1,v2] H (fun v H' => Keep H H' ∧ Grp H' ∧ BigIs H' v (x + y) (l1 + l2 + 1)) by
    obtain ⟨v,H',hr,h1,h2,h3⟩:=h; exact ⟨H',v,h1,h2,h3,hr⟩
  obtain ⟨u1,w1,r1,o1,rfl,s1,d1,n1,e1,g1⟩:=h1;obtain ⟨u2,w2,r2,o2,rfl,s2,d2,n2,e2,g2⟩:=h2;obtain ⟨a1,c1,rfl⟩:=s1.v0;obtain ⟨a2,c2,rfl⟩:=s2.v0;obtain ⟨H1,b1,hK1,hs1,zz1,hr1⟩:=box1 H [.bool (decide (x < 0)),.slice a1 w1.length c1] 66;obtain ⟨H2,b2,hK2,hs2,zz2,hr2⟩:=box1 H1 [.bool (decide (y < 0)),.slice a2 w2.length c2] 66;obtain ⟨H3,b3,hK3,hs3,zz3,_⟩:=box1 H2 [.bool false,.slice none 0 0] 66;have ow:Own H3 H2.size 66 [.bool false,.slice none 0 0]:=b3 ▸ Own.new H2 _ _;clear zz1 zz2 zz3;have q0:=(hK2.trans hK3).read hs1 (hr1 0 1 (show 0 + 1 ≤ 2 by omega))
  have q1:=(hK2.trans hK3).read hs1 (hr1 1 1 (show 1 + 1 ≤ 2 by omega))
  have q2:=hK3.read hs2 (hr2 0 1 (show 0 + 1 ≤ 2 by omega))
  have q3:=hK3.read hs2 (hr2 1 1 (show 1 + 1 ≤ 2 by omega))
  replace q0:H3.read H.size 0 1 = some [.bool (decide (x < 0))]:=q0;replace q1:H3.read H.size 1 1 = some [.slice a1 w1.length c1]:=q1;replace q2:H3.read H1.size 0 1 = some [.bool (decide (y < 0))]:=q2;replace q3:H3.read H1.size 1 1 = some [.slice a2 w2.length c2]:=q3;have hc1:(Value.agg ⟨[.bool (decide (x < 0)),.slice a1 w1.length c1]⟩).cells.toList = [.bool (decide (x < 0)),.slice a1 w1.length c1]:=rfl;have hc2:(Value.agg ⟨[.bool (decide (y < 0)),.slice a2 w2.length c2]⟩).cells.toList = [.bool (decide (y < 0)),.slice a2 w2.length c2]:=rfl;have hK03:=(hK1.trans hK2).trans hK3;have hL3:=hK03.low hL;have hg3:=hK03.grp hg;clear hr1 hr2;refine Zaaw Tryd.func65 rfl (Nat.le_of_ble_eq_true rfl) (hS.no rfl _ _) ?_
  rw [Tryd.ntmps65,Tryd.results65];have hrl:=Keep.relowS H3;have hgr:=hrl.grp hg3;have sa:=(s1.keep hK03).keep hrl;have sb:=(s2.keep hK03).keep hrl;have key:∀ (f:FuncId) (args:List Value) (sg:Bool),(x + y ≠ 0 → sg = decide (x + y < 0)) → (∃ w,Digs w ∧ val w = ((x + y).natAbs:Int) ∧ w.length ≤ l1 + l2 + 1 ∧ Out S f args (H3.relow H3.size) w) →
      ∃ v4 H4 H5 v6 H6 H7 H8,(∀ (K:Value → Heap → Prop) (b:Blk K),sxCallB Tryd.prog S (.fn f) args (H3.relow H3.size) K b = K v4 H4) ∧ (∀ (all:List Oper) (n:Nat) (k:Heap → Prop),sxD all n H3 H4 k = k H5) ∧ H5.low ≤ H5.size ∧
        (∀ (K:Value → Heap → Prop) (b:Blk K),sxCallB Tryd.prog S (.fn 80) [.bool sg,v4] (H5.relow H5.size) K b = K v6 H6) ∧ (∀ (all:List Oper) (n:Nat) (k:Heap → Prop),sxD all n H5 H6 k = k H7) ∧
        aStore Tryd.prog (H7.relow H7.size) 66 (.pointer (some ⟨H2.size,0,none⟩)) v6 = some H8 ∧ aLoad Tryd.prog H8 66 (.pointer (some ⟨H2.size,0,none⟩)) = some v6 ∧ H7.low ≤ H7.size ∧
        Keep H (H8.relow (Nat.min H7.low H8.low)) ∧ Grp (H8.relow (Nat.min H7.low H8.low)) ∧ BigIs (H8.relow (Nat.min H7.low H8.low)) v6 (x + y) (l1 + l2 + 1):=by
    rintro f args sg hsg ⟨w,wd,wv,wl,H4,v4,r4,o4,hK4,hg4,s4,hF4,hfr4,hR4⟩;have hK45:=Keep.draw hK4;have hL5:=hK45.low hL3;have hK05:=hK03.trans hK45;have hw:=whole_big hS sg v4 w r4 o4 ((H4.relow (Nat.min H3.low H4.low)).relow (H4.relow (Nat.min H3.low H4.low)).size) ((Keep.relowS _).grp (hK45.grp hg3)) (Nat.le_refl _) (SlI.addr0 (SlI.addr0 s4)) wd (by omega) (x + y) wv hsg
    obtain ⟨Hw,vw,k1,k2,k3,k4⟩:=hw;obtain ⟨v6,H6,H7,H8,a1,a2,a3,a4,a5,a6,a7,a8⟩:=endBig hK05 (Nat.le_trans hK1.size hK2.size) hL5 hg (ow.keep hK45) ⟨Hw,vw,k1,k2,BigIs.mono0 k3 wl,k4⟩;exact ⟨v4,H4,H4.relow (Nat.min H3.low H4.low),v6,H6,H7,H8,hR4.bx,fun all n k => sxD_keep hK4 k,hL5,a1,a2,a3,a4,a5,a6,a7,a8⟩
  by_cases hxy:decide (x < 0) = decide (y < 0)
  · have hb:(decide (x < 0) == decide (y < 0)) = true:=by rw [hxy]; exact beq_self_eq_true _
    have hiff:=decide_eq_decide.1 hxy
    have hob:=key 82 [.slice a1 w1.length c1,.slice a2 w2.length c2] (decide (x < 0)) (fun _ => decide_eq_decide.2 (by omega)) (by
      obtain ⟨w,k1,k2,k3,k4⟩:=addD_runs hS _ _ w1 w2 r1 o1 r2 o2 (H3.relow H3.size) hgr (Nat.le_refl _) sa sb d1 d2 (by omega) (by omega)
      exact ⟨w,k1,by rw [k2,e1,e2]; omega,by omega,k4⟩)
    obtain ⟨v4,H4,H5,v6,H6,H7,H8,fa,fb,hL5,fc,fd,ps,hld,hL7,hK8,hg8,hbig⟩:=hob;rw [ldBig] at hld;clear hxy hiff key sa sb ow s1 s2 d1 d2 n1 n2 e1 e2
    repeat' (first | simp only [↓Zabr,↓Zabm,↓Zabo,↓Zabq,↓Zaag,↓Zabp,↓Zaci,↓Zach,↓Zacb,↓Zaai,↓Zaby,↓Zabw,↓sxD_same,↓Zacn,↓bxOp_alloc,↓Zaal,↓Zaaq,↓Zaat,↓Zaak,↓Zaan,↓Zaau,↓Zack,↓bxPut,↓Zabj,↓Zabk,↓Zabh,↓Zacl,↓bxRes_cell,↓Zaco,↓Zaba,↓Zaay,↓Zaaz,Zacj,Zabs,Zacg,Zabf,List.map,List.nil_append,List.append_nil,↓reduceIte,Nat.reduceEqDiff,Nat.reduceLT,and_self,read_relow,Zaaa,Nat.add_zero,one1,Option.bind_some, *,argF,List.getD_cons_zero,List.getD_cons_succ,alBig,ldBig,faG0,faG1,ldB4,ldIs,eqlB,Nat.zero_add] | (with_reducible first | refine Zabu (by assumption) (by decide +kernel) ?_ | refine Zabt (by decide +kernel) ?_ | refine Zaca (by decide +kernel) ?_ | refine Zabv ?_))
  · have hb:(decide (x < 0) == decide (y < 0)) = false:=beq_false_of_ne hxy;have hiff:¬ ((x < 0) ↔ (y < 0)):=fun h => hxy (decide_eq_decide.2 h)
    have hcm:=(cmpD_runs hS _ _ w1 w2 r1 o1 r2 o2 H3 hL3 (s1.keep hK03) (s2.keep hK03)).bx;have hcv:=cmpL_val d1 n1 d2 n2;rw [e1,e2] at hcv
    by_cases hge:0 ≤ cmpL w1 w2
    · have hle:y.natAbs ≤ x.natAbs:=by
        rw [hcv] at hge;split at hge
        · omega
        · omega
      have hob:=key 83 [.slice a1 w1.length c1,.slice a2 w2.length c2] (decide (x < 0)) (fun hz => decide_eq_decide.2 (by omega)) (by
        obtain ⟨w,k1,k2,k3⟩:=subD_runs hS _ _ w1 w2 r1 o1 r2 o2 (H3.relow H3.size) hgr (Nat.le_refl _) sa sb d1 d2 (by omega) (len_le d2 n2 d1 (by rw [e1,e2]; omega)) (by rw [e1,e2]; omega)
        exact ⟨w,k1.1,by rw [k1.2.2,e1,e2]; omega,by omega,k3⟩)
      obtain ⟨v4,H4,H5,v6,H6,H7,H8,fa,fb,hL5,fc,fd,ps,hld,hL7,hK8,hg8,hbig⟩:=hob;rw [ldBig] at hld;clear hxy hiff key sa sb ow s1 s2 d1 d2 n1 n2 e1 e2 hcv hle
      repeat' (first | simp only [↓Zabr,↓Zabm,↓Zabo,↓Zabq,↓Zaag,↓Zabp,↓Zaci,↓Zach,↓Zacb,↓Zaai,↓Zaby,↓Zabw,↓sxD_same,↓Zacn,↓bxOp_alloc,↓Zaal,↓Zaaq,↓Zaat,↓Zaak,↓Zaan,↓Zaau,↓Zack,↓bxPut,↓Zabj,↓Zabk,↓Zabh,↓Zacl,↓bxRes_cell,↓Zaco,↓Zaba,↓Zaay,↓Zaaz,Zacj,Zaad,Zabc,Zabs,Zacg,Zacf,Zabf,List.map,List.nil_append,List.append_nil,↓reduceIte,Nat.reduceEqDiff,Nat.reduceLT,dec_T,and_self,read_relow,Zaaa,Nat.add_zero,one1,Option.bind_some, *,argF,List.getD_cons_zero,List.getD_cons_succ,alBig,ldBig,faG0,faG1,ldB4,ldIs,eqlB,Nat.zero_add] | (with_reducible first | refine Zabu (by assumption) (by decide +kernel) ?_ | refine Zabt (by decide +kernel) ?_ | refine Zaca (by decide +kernel) ?_ | refine Zabv ?_))
    · have hle:x.natAbs ≤ y.natAbs:=by
        rw [hcv] at hge;split at hge
        · omega
        · omega
      have hob:=key 83 [.slice a2 w2.length c2,.slice a1 w1.length c1] (decide (y < 0)) (fun hz => decide_eq_decide.2 (by omega)) (by
        obtain ⟨w,k1,k2,k3⟩:=subD_runs hS _ _ w2 w1 r2 o2 r1 o1 (H3.relow H3.size) hgr (Nat.le_refl _) sb sa d2 d1 (by omega) (len_le d1 n1 d2 (by rw [e1,e2]; omega)) (by rw [e1,e2]; omega)
        exact ⟨w,k1.1,by rw [k1.2.2,e1,e2]; omega,by omega,k3⟩)
      obtain ⟨v4,H4,H5,v6,H6,H7,H8,fa,fb,hL5,fc,fd,ps,hld,hL7,hK8,hg8,hbig⟩:=hob;rw [ldBig] at hld;clear hxy hiff key sa sb ow s1 s2 d1 d2 n1 n2 e1 e2 hcv hle
      repeat' (first | simp only [↓Zabr,↓Zabm,↓Zabo,↓Zabq,↓Zaag,↓Zabp,↓Zaci,↓Zach,↓Zacb,↓Zaai,↓Zaby,↓Zabw,↓sxD_same,↓Zacn,↓bxOp_alloc,↓Zaal,↓Zaaq,↓Zaat,↓Zaak,↓Zaan,↓Zaau,↓Zack,↓bxPut,↓Zabj,↓Zabk,↓Zabh,↓Zacl,↓bxRes_cell,↓Zaco,↓Zaba,↓Zaay,↓Zaaz,Zacj,Zaad,Zabc,Zabs,Zacf,Zabf,List.map,List.nil_append,List.append_nil,↓reduceIte,Nat.reduceEqDiff,Nat.reduceLT,dec_F,and_self,read_relow,Zaaa,Nat.add_zero,one1,Option.bind_some, *,argF,List.getD_cons_zero,List.getD_cons_succ,alBig,ldBig,faG0,faG1,ldB4,ldIs,eqlB,Nat.zero_add] | (with_reducible first | refine Zabu (by assumption) (by decide +kernel) ?_ | refine Zabt (by decide +kernel) ?_ | refine Zaca (by decide +kernel) ?_ | refine Zabv ?_))
end Go.Proofs.YtdfjaoncabanbaaDoor

namespace Go.Proofs.YtdfjaoncabanbaaDoor
open Go Go.AM
set_option maxRecDepth 10000

theorem retNum {H:Heap} {r:Nat} (h:Own H r 61 [.bool false,.slice none 0 0]) {v:Value} {z:Int} {lo:Nat} (hq:NumIs H v z lo) :
    ∃ H2,aStore Tryd.prog H 61 (.pointer (some ⟨r,0,none⟩)) v = some H2 ∧ aLoad Tryd.prog H2 61 (.pointer (some ⟨r,0,none⟩)) = some v ∧ NumIs H2 v z lo ∧ (∀ H0,Keep H0 H → H0.size ≤ r → Keep H0 H2):=by
  obtain ⟨w,r',c,rfl,s1,h3⟩:=hq;have hst:=h.store (P:=Tryd.prog) (t:=61) (i:=Tryd.t61) infN.1 (v:=.agg ⟨[.bool (decide (z < 0)),.slice (some ⟨r',0,none⟩) w.length c]⟩) (new:=[.bool (decide (z < 0)),.slice (some ⟨r',0,none⟩) w.length c]) rfl infN.2 rfl (o:=0) (Nat.le_refl 2);obtain ⟨H2,h1,h2,h4,_,h5⟩:=hst;have h6:=h2.read (o:=0) (n:=2) (Nat.le_refl 2);refine ⟨H2,h1,?_,⟨w,r',c,rfl,SlE.other h h1 h4 s1 (ne_row2 h s1),h3⟩,h5⟩;rw [ldNum,h6]; rfl
theorem endNum {S:AM.Sys} {f:FuncId} {args:List Value} {H0 H:Heap} {r:Nat} (hk:Keep H0 H) (hr:H0.size ≤ r) (hL:H.low ≤ H.size) (ow:Own H r 61 [.bool false,.slice none 0 0]) {z:Int} {lo:Nat} (h:NumOut S f args (H.relow H.size) z lo) :
    ∃ v H6 H7 H8,(∀ (K:Value → Heap → Prop) (b:Blk K),sxCallB Tryd.prog S (.fn f) args (H.relow H.size) K b = K v H6) ∧ (∀ (all:List Oper) (n:Nat) (k:Heap → Prop),sxD all n H H6 k = k H7) ∧
      aStore Tryd.prog (H7.relow H7.size) 61 (.pointer (some ⟨r,0,none⟩)) v = some H8 ∧ aLoad Tryd.prog H8 61 (.pointer (some ⟨r,0,none⟩)) = some v ∧ H7.low ≤ H7.size ∧
      Keep H0 (H8.relow (Nat.min H7.low H8.low)) ∧ NumIs (H8.relow (Nat.min H7.low H8.low)) v z lo:=by
  obtain ⟨H6,v,hK6,hb,hR⟩:=h;have hK67:=Keep.draw hK6;have hK7:=hk.trans hK67;have ow7:=(ow.keep hK67).addr (l:=(H6.relow (Nat.min H.low H6.low)).size);obtain ⟨H8,ps,hld,hq,hkp⟩:=retNum ow7 (hb.addr.addr);have hK8:=Keep.lower hK7 (hkp H0 (hK7.trans (Keep.relowS _)) hr);exact ⟨v,H6,H6.relow (Nat.min H.low H6.low),H8,hR.bx,fun all n k => sxD_keep hK6 k,ps,hld,hK67.low hL,hK8,hq.addr⟩
theorem bs2Ui (H:Heap) (a b:Int):aBuildSlice Tryd.prog H 59 2 [(0,.int .u32 a),(1,.int .u32 b)] = some (.slice (some ⟨H.size,0,none⟩) 2 2,H.newExact [.int .u32 a,.int .u32 b] 96):=by kernel_rfl

theorem wrap6 (n:Int):IntKind.u64.wrap n = n % 18446744073709551616:=by simp [IntKind.wrap,IntKind.bits,IntKind.signed]
theorem wrap3 (n:Int):IntKind.u32.wrap n = n % 4294967296:=by simp [IntKind.wrap,IntKind.bits,IntKind.signed]
theorem shr32 {n:Int} (h:0 ≤ n):n.fdiv (2 ^ min (Int.toNat 32) IntKind.u64.bits) = n / 4294967296:=by
  show n.fdiv 4294967296 = _;rw [Int.fdiv_eq_ediv_of_nonneg _ (by decide)]
theorem le32:(0:Int) ≤ 32:=by decide

variable {S:AM.Sys} (hS:Only S 5)
include hS

theorem numberOf_runs (n:Int) (H:Heap) (hL:H.low ≤ H.size) (hn:-4611686018427387904 ≤ n ∧ n ≤ 4611686018427387904):NumOut S 32 [.int .i64 n] H n 2:=by
  suffices h:WCall Tryd.prog S (.fn 32) [.int .i64 n] H (fun v H' => Keep H H' ∧ NumIs H' v n 2) by
    obtain ⟨v,H',hr,h1,h2⟩:=h; exact ⟨H',v,h1,h2,hr⟩
  obtain ⟨H1,e1,k1,z1,-,-⟩:=box1 H [.bool false,.slice none 0 0] 61;have ow1:Own H1 H.size 61 [.bool false,.slice none 0 0]:=e1 ▸ Own.new H _ _;have hm0:0 ≤ (n.natAbs:Int) % 4294967296 ∧ (n.natAbs:Int) % 4294967296 < 4294967296:=⟨Int.emod_nonneg _ (by decide),Int.emod_lt_of_pos _ (by decide)⟩
  have hd0:0 ≤ (n.natAbs:Int) / 4294967296 ∧ (n.natAbs:Int) / 4294967296 ≤ 1073741824:=by omega
  have hv:W.val [(n.natAbs:Int) % 4294967296,(n.natAbs:Int) / 4294967296] = n.natAbs:=by
    show (n.natAbs:Int) % 4294967296 + 4294967296 * ((n.natAbs:Int) / 4294967296 + 4294967296 * 0) = n.natAbs;omega
  obtain ⟨x,hx⟩:∃ x,(n.natAbs:Int) % 4294967296 = x:=⟨_,rfl⟩;obtain ⟨y,hy⟩:∃ y,(n.natAbs:Int) / 4294967296 = y:=⟨_,rfl⟩;rw [hx] at hm0 hv;rw [hy] at hd0 hv;obtain ⟨H2,e2,k2,z2,-,-⟩:=box1 H1 [.int .u32 x,.int .u32 y] 96;have ow2:Own H2 H1.size 96 ([x,y].map fun z => .int .u32 z):=e2 ▸ Own.new H1 _ _
  have k02:=k1.trans k2
  have sl:SlI .u32 H2 (.slice (some ⟨H1.size,0,none⟩) [x,y].length 2) [x,y] H1.size 0:=Own.sl ow2 (fun z hz => by
    have h1:IntKind.u32.min = 0:=by decide
    have h2:IntKind.u32.max = 4294967295:=by decide
    rw [h1,h2];simp only [List.mem_cons,List.not_mem_nil,or_false] at hz
    rcases hz with rfl | rfl <;> omega) (show (2:Nat) ≤ Go.maxLen by decide) 2
  have hD:W.Digs [x,y]:=fun z hz => by
    simp only [List.mem_cons,List.not_mem_nil,or_false] at hz;rcases hz with rfl | rfl <;> omega
  have hob:=signed_num hS (decide (n < 0)) n [x,y] H1.size 2 2 H2 (k02.low hL) sl (Nat.le_refl 2) (show 2 < 1000 by decide) (fun _ => CutR.own ow2) hD hv (fun _ => rfl) (Nat.le_refl 2)
  obtain ⟨H3,v3,k3,q3,R3⟩:=hob;have f3:=R3.bx;have f3:∀ (K:Value → Heap → Prop) (b:Blk K),sxCallB Tryd.prog S (.fn 56) [.bool (decide (n < 0)),.slice (some ⟨H1.size,0,none⟩) 2 2] H2 K b = K v3 H3:=f3;obtain ⟨H4,ps,hld,q4,kp⟩:=retNum (ow1.keep (k2.trans k3)) q3;have k4:=kp H (k02.trans k3) (Nat.le_refl _);have b2:=bs2Ui H1 x y;rw [e2] at b2;refine Zaaw Tryd.func32 rfl (Nat.le_of_ble_eq_true rfl) (hS.no rfl _ _) ?_
  rw [Tryd.ntmps32,Tryd.results32]
  by_cases h0:n < 0
  · have g1:IntKind.u64.wrap n = n + 18446744073709551616:=by rw [wrap6]; omega
    have g2:IntKind.u64.wrap (0 - (n + 18446744073709551616)) = -n:=by rw [wrap6]; omega
    have g3:IntKind.u32.wrap (-n) = x:=by rw [wrap3]; omega
    have g4:(-n).fdiv (2 ^ min (Int.toNat 32) IntKind.u64.bits) = y:=by
      show (-n).fdiv 4294967296 = y;rw [Int.fdiv_eq_ediv_of_nonneg _ (by decide)]; omega
    have g5:IntKind.u32.wrap y = y:=IntWalk.u32_in _ (by omega)
    rw [decide_eq_true h0] at f3;clear R3 sl hD ow1 ow2 k1 k2 k02 k3 kp hx hy hv q3 hm0 hd0
    repeat' simp only [↓Zabr,↓Zabo,↓Zabq,↓Zaag,↓Zabp,↓Zaci,↓Zach,↓Zacn,↓Zaar,↓Zaaj,↓bxOp_alloc,↓Zaam,↓Zaat,↓Zaak,↓bxOp_un,↓Zaau,↓bxOp_convert,↓Zack,↓bxPut,↓Zabj,↓Zabh,↓Zacl,↓bxRes_cell,↓Zaco,↓Zaba,↓Zaay,↓Zaaz,aConvH_int,Zacj,sxOptB_ite,Zaad,Zabc,una_neg,Zabs,Zacg,Zabf,List.map,List.nil_append,List.append_nil,↓reduceIte,Nat.reduceEqDiff,Nat.reduceLT,dec_T,and_true,and_self, *,argF,List.getD_cons_zero,alNum,cvI6,cvU6]
    exact le32
  · have g1:IntKind.u64.wrap n = n:=IntWalk.u64_in _ (by omega)
    have g3:IntKind.u32.wrap n = x:=by rw [wrap3]; omega
    have g4:n.fdiv (2 ^ min (Int.toNat 32) IntKind.u64.bits) = y:=by
      show n.fdiv 4294967296 = y;rw [Int.fdiv_eq_ediv_of_nonneg _ (by decide)]; omega
    have g5:IntKind.u32.wrap y = y:=IntWalk.u32_in _ (by omega)
    rw [decide_eq_false h0] at f3;clear R3 sl hD ow1 ow2 k1 k2 k02 k3 kp hx hy hv q3 hm0 hd0
    repeat' simp only [↓Zabr,↓Zabo,↓Zabq,↓Zaag,↓Zabp,↓Zaci,↓Zach,↓Zacn,↓Zaar,↓Zaaj,↓bxOp_alloc,↓Zaam,↓Zaat,↓Zaak,↓bxOp_un,↓Zaau,↓bxOp_convert,↓Zack,↓bxPut,↓Zabj,↓Zabh,↓Zacl,↓bxRes_cell,↓Zaco,↓Zaba,↓Zaay,↓Zaaz,aConvH_int,Zacj,sxOptB_ite,Zaad,Zabc,Zabs,Zacf,Zabf,List.map,List.nil_append,List.append_nil,↓reduceIte,Nat.reduceEqDiff,Nat.reduceLT,dec_F,and_true,and_self, *,argF,List.getD_cons_zero,alNum,cvI6,cvU6]
    exact le32
end Go.Proofs.YtdfjaoncabanbaaDoor
