/- Rows that hold fractions. -/
import Derived.Test.YtdfjaoncabanbaaGreatDoorBK
set_option linter.unusedVariables false
set_option linter.unusedSimpArgs false
set_option linter.unusedSectionVars false

namespace Go.Proofs.YtdfjaoncabanbaaGreatDoor
open Go Go.AM
set_option maxRecDepth 10000

def QShape (cells:List Value):Prop:=∃ s1 a1 n1 c1 s2 a2 n2 c2,cells = [.bool s1,.slice a1 n1 c1,.bool s2,.slice a2 n2 c2]
theorem QShape.len {cells:List Value} (h:QShape cells):cells.length = 4:=by
  obtain ⟨_,_,_,_,_,_,_,_,rfl⟩:=h; rfl
theorem QShape.empty:QShape [.bool false,.slice none 0 0,.bool false,.slice none 0 0]:=⟨_,_,_,_,_,_,_,_,rfl⟩
theorem QV.shape {H:Heap} {v:Value} {n d:Int} (h:QV H v n d):v = .agg ⟨v.cells.toList⟩ ∧ QShape v.cells.toList:=by
  obtain ⟨n',d',⟨t1,t2,t3,t4,rfl,q1,q2⟩,_⟩:=h;obtain ⟨u1,w1,r1,o1,hu1,s1,_⟩:=q1;obtain ⟨u2,w2,r2,o2,hu2,s2,_⟩:=q2;obtain ⟨a1,c1,rfl⟩:=s1.v0;obtain ⟨a2,c2,rfl⟩:=s2.v0;cases hu1;cases hu2;exact ⟨rfl,_,_,_,_,_,_,_,_,rfl⟩
theorem ne_rowG {H:Heap} {r:Nat} {e:TypeId} {cells:List Value} (h:Own H r e cells) (hs:QShape cells) {k:IntKind} {v:Value} {w:List Int} {r' o':Nat} (hx:SlI k H v w r' o') (h0:0 < w.length):r' ≠ r:=by
  intro he;subst he;have h1:=(hx.rdI h0).1;obtain ⟨_,_,_,_,_,_,_,_,rfl⟩:=hs
  by_cases hle:o' + 0 + 1 ≤ 4
  · rw [h.read (o:=o' + 0) (n:=1) hle] at h1;rcases o' with _ | _ | _ | _ | o';all_goals first | (simp at h1; done) | omega
  · unfold Heap.read at h1;rw [h.get] at h1;simp only [] at h1;rw [show Nat.ble (o' + 0 + 1) (List.length [_,_,_,_]) = false from Bool.eq_false_iff.2 (fun hb => hle (Nat.le_of_ble_eq_true hb))] at h1
    simp at h1
theorem QV.other {H H2:Heap} {r:Nat} {e t:TypeId} {cells:List Value} (h:Own H r e cells) (hc:QShape cells) {o:Nat} {u v:Value} (hs:aStore Tryz.prog H t (.pointer (some ⟨r,o,none⟩)) u = some H2) (hsz:H2.size = H.size) {n d:Int} (hq:QV H v n d):QV H2 v n d:=by
  obtain ⟨n',d',⟨t1,t2,t3,t4,rfl,q1,q2⟩,h4⟩:=hq;obtain ⟨u1,w1,r1,o1,hu1,s1,k1⟩:=q1;obtain ⟨u2,w2,r2,o2,hu2,s2,k2⟩:=q2;exact ⟨n',d',⟨t1,t2,t3,t4,rfl,⟨u1,w1,r1,o1,hu1,SlE.other h hs hsz s1 (ne_rowG h hc s1),k1⟩,⟨u2,w2,r2,o2,hu2,SlE.other h hs hsz s2 (ne_rowG h hc s2),k2⟩⟩,h4⟩
theorem storeQ {H:Heap} {r:Nat} {cells:List Value} (ow:Own H r 48 cells) (hs:QShape cells) {v:Value} {n d:Int} (hq:QV H v n d) :
    ∃ H2,aStore Tryz.prog H 48 (.pointer (some ⟨r,0,none⟩)) v = some H2 ∧ H2.size = H.size ∧ Own H2 r 48 v.cells.toList ∧ (∀ v' n' d',QV H v' n' d' → QV H2 v' n' d') ∧ (∀ r' e' c',r' ≠ r → Own H r' e' c' → Own H2 r' e' c') ∧ (∀ H0,Keep H0 H → H0.size ≤ r → Keep H0 H2):=by
  obtain ⟨hv,s1,a1,n1,c1,s2,a2,n2,c2,hcs⟩:=hq.shape;have hob:=ow.store (P:=Tryz.prog) (t:=48) (i:=Tryz.t48) (by kernel_rfl) (v:=v) (new:=[.bool s1,.slice a1 n1 c1,.bool s2,.slice a2 n2 c2]) hcs (by kernel_rfl) rfl (o:=0) (by rw [hs.len]; exact Nat.le_refl 4)
  obtain ⟨H2,h1,h2,h3,h4,h5⟩:=hob;refine ⟨H2,h1,h3,?_,fun v' n' d' hv' => hv'.other ow hs h1 h3,h4,h5⟩
  rw [hcs];have hl:=hs.len;obtain ⟨_,_,_,_,_,_,_,_,rfl⟩:=hs;exact h2
theorem storeQD {H0 H:Heap} {r:Nat} {cells:List Value} (hk:Keep H0 H) (hr:H0.size ≤ r) (hL:H.low ≤ H.size) (ow:Own H r 48 cells) (hs:QShape cells) {v:Value} {n d:Int} (hq:QV H v n d) :
    ∃ Ha Hb,aStore Tryz.prog (H.relow H.size) 48 (.pointer (some ⟨r,0,none⟩)) v = some Ha ∧ Ha.relow (Nat.min H.low Ha.low) = Hb ∧ Keep H0 Hb ∧ Hb.size = H.size ∧ Hb.low ≤ Hb.size ∧ Own Hb r 48 v.cells.toList ∧ (∀ v' n' d',QV H v' n' d' → QV Hb v' n' d') ∧ (∀ r' e' c',r' ≠ r → Own H r' e' c' → Own Hb r' e' c'):=by
  obtain ⟨Ha,h1,h2,h3,h4,h5,h6⟩:=storeQ (ow.addr (l:=H.size)) hs (hq.addr (l:=H.size));refine ⟨Ha,_,h1,rfl,Keep.lower hk (h6 H0 (hk.trans (Keep.relowS _)) hr),h2,?_,h3.addr,fun v' n' d' hv' => (h4 _ _ _ hv'.addr).addr,fun r' e' c' hne ho => (h5 r' e' c' hne ho.addr).addr⟩
  show Nat.min H.low Ha.low ≤ Ha.size;rw [h2];exact Nat.le_trans (Nat.min_le_left _ _) hL
theorem own_ldQ {H:Heap} {r:Nat} {v:Value} {n d:Int} (h:Own H r 48 v.cells.toList) (hq:QV H v n d):aLoad Tryz.prog H 48 (.pointer (some ⟨r,0,none⟩)) = some v:=by
  obtain ⟨hv,hs⟩:=hq.shape;have hl:=hs.len;rw [Go.Proofs.YtdfjaoncabanbaaGreatDoor.ldQ,h.read (o:=0) (n:=4) (by omega),List.drop_zero,← hl,List.take_length,Option.map_some,← hv]
end Go.Proofs.YtdfjaoncabanbaaGreatDoor

namespace Go.Proofs.YtdfjaoncabanbaaGreatDoor
open Go Go.AM
set_option maxRecDepth 10000

theorem val_drop_le {w:List Int} (h:Digs w) (m:Nat):val (w.drop m) ≤ val w:=by
  induction m generalizing w with
  | zero => rw [List.drop_zero]; exact Int.le_refl _
  | succ m ih =>
    cases w with
    | nil => rw [List.drop_nil]; exact Int.le_refl _
    | cons x l =>
      have hl:Digs l:=fun z hz => h z (List.mem_cons_of_mem _ hz)
      have h1:=ih hl;have h2:=h x List.mem_cons_self;have h3:=hl.nonneg;rw [List.drop_succ_cons];show val (l.drop m) ≤ x + 10000 * val l;omega
theorem afD (s:Bool) (a:Option Addr) (n c:Nat):aField Tryz.prog 46 (.agg ⟨[.bool s,.slice a n c]⟩) 1 = some (.slice a n c):=by kernel_rfl

variable {S:AM.Sys} (hS:Only S 5)
include hS

theorem Within_runs (v1:Value) (x most:Int) (l1:Nat) (H:Heap) (hg:Grp H) (hL:H.low ≤ H.size) (h1:BigIs H v1 x l1) (hl1:l1 ≤ 400) (hm:0 ≤ most ∧ most ≤ 1152921504606846976) (hx:(x.natAbs:Int) ≤ most):∃ H',Keep H H' ∧ Runs Tryz.prog S (.fn 47) [v1,.int .i64 most] H (.tuple #[.int .i64 x,.bool true]) H':=by
  suffices h:WCall Tryz.prog S (.fn 47) [v1,.int .i64 most] H (fun v H' => v = .tuple #[.int .i64 x,.bool true] ∧ Keep H H') by
    obtain ⟨_,H',hr,rfl,hk⟩:=h; exact ⟨H',hk,hr⟩
  obtain ⟨u1,w1,r1,o1,rfl,s1,d1,n1,e1,g1⟩:=h1;obtain ⟨a1,c1,rfl⟩:=s1.v0;obtain ⟨H1,b1,hK1,hs1,-,hr1⟩:=box1 H [.bool (decide (x < 0)),.slice a1 w1.length c1] 46;have q0:H1.read H.size 0 1 = some [.bool (decide (x < 0))]:=hr1 0 1 (show 0 + 1 ≤ 2 by omega)
  have q1:H1.read H.size 1 1 = some [.slice a1 w1.length c1]:=hr1 1 1 (show 1 + 1 ≤ 2 by omega)
  clear hr1;have hL1:=hK1.low hL;have hrl:=Keep.relowS H1;obtain ⟨vm,H2',H2,k2,l2,f2,d2,bm⟩:=drawnBig hL1 (Of_runs hS most (H1.relow H1.size) (hrl.grp (hK1.grp hg)) (Nat.le_refl _) (by omega))
  obtain ⟨um,wm,rm,om,rfl,sm,dm,nm,em,gm⟩:=bm;obtain ⟨am,cm,rfl⟩:=sm.v0;have hrl2:=Keep.relowS H2;have s2:=s1.keep (hK1.trans k2);have hcm:=(cmpD_runs hS _ _ w1 wm r1 o1 rm om (H2.relow H2.size) (Nat.le_refl _) (s2.keep hrl2) (sm.keep hrl2)).bx;have hcv:=cmpL_val d1 n1 dm nm;rw [e1,em] at hcv;have hle:¬ 0 < cmpL w1 wm:=by
    rw [hcv];split
    · omega
    · split <;> omega
  have q0':=k2.read hs1 q0;have q1':=k2.read hs1 q1;have hk2:=hK1.trans k2;have hc1:(Value.agg ⟨[.bool (decide (x < 0)),.slice a1 w1.length c1]⟩).cells.toList = [.bool (decide (x < 0)),.slice a1 w1.length c1]:=rfl;have hml:=s1.ml;have hmx:Go.maxLen = 9223372036854775807:=rfl;have hw0:IntKind.i64.wrap ((w1.length:Int) - 1) = (w1.length:Int) - 1:=IntWalk.i64_in _ (by omega)
  have hfin:decide (x < 0) = true → IntKind.i64.wrap (0 - val w1) = x:=fun h => by
    have:=of_decide_eq_true h;rw [IntWalk.i64_in _ (by omega)]; omega
  have hfin2:decide (x < 0) = false → val w1 = x:=fun h => by
    have:=of_decide_eq_false h;omega
  have hb:val w1 ≤ 1152921504606846976:=by omega
  refine call_of Tryz.func47 rfl (Nat.le_of_ble_eq_true rfl) (hS.no rfl _ _) ?_
  rw [Tryz.ntmps47,Tryz.results47];clear s1 sm dm nm em gm n1 g1 hcv hrl hrl2 hm hx e1;generalize decide (x < 0) = sx at *
  repeat' (first | simp only [↓Zabr,↓Zabm,↓Zabo,↓Zabq,↓Zaaf,↓Zaag,↓Zabl,↓Zabp,↓Zaci,↓Zach,↓Zacb,↓Zaah,↓Zabz,↓Zaby,↓sxDL_binOp,↓Zabw,↓sxDL_field,↓sxD_same,↓Zacn,↓Zaar,↓Zaaj,↓Zaal,↓Zaaq,↓Zaak,↓bxOp_un,↓Zaan,↓bxOp_field,↓Zaau,↓Zaap,↓bxPut,↓Zabj,↓Zabk,↓Zabh,↓Zacl,↓Zacm,↓Zaco,↓Zaba,↓Zaay,↓Zaaz,Zacj,Zaac,Zabc,Zabs,Zacf,packRes_two,List.map,List.nil_append,List.append_nil,↓reduceIte,Nat.reduceEqDiff,Nat.reduceLT,dec_F,Zaaa,one1,Option.bind_some, *,argF,List.getD_cons_zero,List.getD_cons_succ,lenI,faG1,ldIs,afD,Nat.zero_add] | (with_reducible first | refine Zabu (by assumption) (by decide +kernel) ?_ | refine Zabt (by decide +kernel) ?_ | refine Zaca (by decide +kernel) ?_ | refine Zabv ?_))
  refine sxL_of (fun m ρ H3 => m ≤ w1.length ∧ H3 = H2 ∧ ρ 2 = .pointer (some ⟨H.size,0,none⟩) ∧ ρ 6 = .int .i64 (val (w1.drop m)) ∧ ρ 7 = .int .i64 ((m:Int) - 1)) (n:=w1.length) ⟨Nat.le_refl _,rfl,rfl,by rw [List.drop_length]; rfl,rfl⟩ ?_
  rintro m ρ H3 ⟨hmw,rfl,z2,z6,z7⟩;cases m with
  | zero =>
    have h0:¬ (0:Int) ≤ ((0:Nat):Int) - 1:=by omega
    rw [List.drop_zero] at z6;clear s2 hw0 d1;cases sx
    · have hf:=hfin2 rfl;clear hfin hfin2
      repeat' simp only [↓Zabr,↓Zabo,↓Zabq,↓Zaaf,↓Zabl,↓Zabn,↓Zaci,↓Zach,↓Zacn,↓Zaar,↓Zaaj,↓Zaaq,↓Zaak,↓Zaan,↓Zaao,↓bxPut,↓Zabj,↓Zabi,↓Zaae,↓Zaad,↓Zabe,↓Zabd,↓Zaco,↓Zaba,↓Zaay,Zacj,Zaac,Zabc,Zacf,↓reduceIte,Nat.reduceEqDiff,Nat.reduceLT,dec_F,and_self,Nat.add_zero,one1,Option.bind_some, *,faG0,ldB4]
    · have hf:=hfin rfl;clear hfin hfin2
      repeat' simp only [↓Zabr,↓Zabo,↓Zabq,↓Zaaf,↓Zabl,↓Zabn,↓Zaci,↓Zach,↓Zacn,↓Zaar,↓Zaaj,↓Zaaq,↓Zaak,↓Zaan,↓Zaao,↓bxPut,↓Zabj,↓Zabi,↓Zaae,↓Zaad,↓Zabe,↓Zabd,↓Zaco,↓Zaba,↓Zaay,Zacj,Zaac,Zabc,una_neg,Zacg,Zacf,↓reduceIte,Nat.reduceEqDiff,Nat.reduceLT,dec_F,and_self,Nat.add_zero,one1,Option.bind_some, *,faG0,ldB4]
  | succ m =>
    have hla:m < w1.length:=by omega
    have p1:=SlI_ix s2 hla;have p2:=(s2.rdI hla).1;have hidx:((m + 1:Nat):Int) - 1 = (m:Int):=by omega
    rw [hidx] at z7;have hge:(0:Int) ≤ (m:Int):=by omega
    have hw:IntKind.i64.wrap ((m:Int) - 1) = (m:Int) - 1:=IntWalk.i64_in _ (by omega)
    have hdr:val (w1.drop m) = w1.getD m 0 + 10000 * val (w1.drop (m + 1)):=by rw [drop_cons hla]; rfl
    have hdl:=val_drop_le d1 m;have hn:=(show Digs (w1.drop (m + 1)) from fun z hz => d1 z (List.mem_of_mem_drop hz)).nonneg
    have hdi:=d1.getD m;have hw1:IntKind.i64.wrap (val (w1.drop (m + 1)) * 10000) = val (w1.drop (m + 1)) * 10000:=IntWalk.i64_in _ (by omega)
    have hw2:IntKind.i64.wrap (val (w1.drop (m + 1)) * 10000 + w1.getD m 0) = val (w1.drop m):=by rw [IntWalk.i64_in _ (by omega)]; omega
    clear s2 hw0 hidx d1 hfin hfin2
    repeat' simp only [↓Zabr,↓Zabo,↓Zabq,↓Zaaf,↓Zabl,↓Zabn,↓Zaci,↓Zach,↓Zacn,↓Zaar,↓Zaaj,↓Zaaq,↓Zaak,↓Zaan,↓Zaao,↓bxPut,↓Zabj,↓Zabi,↓Zaae,↓Zaad,↓Zabe,↓Zabd,↓Zaco,↓Zaba,↓Zaay,Zacj,Zaac,Zabc,Zacg,↓reduceIte,Nat.reduceEqDiff,Nat.reduceLT,dec_T,true_and,one1,Option.bind_some, *,faG1,ldIs,ldI,Nat.zero_add]
    exact ⟨m,by omega,by omega,by rw [hdr],rfl⟩
end Go.Proofs.YtdfjaoncabanbaaGreatDoor

namespace Go.Proofs.YtdfjaoncabanbaaGreatDoor
open Go Go.AM
set_option maxRecDepth 10000

theorem cross_div {n1 d1 n1' d1' n2 d2 n2' d2':Int} (h1:n1' * d1 = n1 * d1') (h2:n2' * d2 = n2 * d2'):(n1' * d2') * (d1 * n2) = (n1 * d2) * (d1' * n2'):=by
  calc (n1' * d2') * (d1 * n2) = (n1' * d1) * (n2 * d2'):=by ac_rfl
    _ = (n1 * d1') * (n2' * d2):=by rw [h1,h2]
    _ = (n1 * d2) * (d1' * n2'):=by ac_rfl
theorem low_eq {n d n' d':Int} (hd:0 < d) (hc:n.natAbs.gcd d.natAbs = 1) (hd':0 < d') (hc':n'.natAbs.gcd d'.natAbs = 1) (h:n' * d = n * d'):n' = n ∧ d' = d:=by
  have a:=(low_le hd hd' hc' h).1;have b:=(low_le hd' hd hc h.symm).1;obtain rfl:d' = d:=by omega
  exact ⟨Int.eq_of_mul_eq_mul_right (by omega) h,rfl⟩
theorem QV.low {H:Heap} {v:Value} {n d:Int} (h:QV H v n d) (hd:0 < d) (hc:n.natAbs.gcd d.natAbs = 1):QIs H v n d 400:=by
  obtain ⟨n',d',q,h1,h2,h3⟩:=h;obtain ⟨rfl,rfl⟩:=low_eq hd hc h1 h2 h3;exact q

variable {S:AM.Sys} (hS:Only S 5)
include hS

theorem Div_all (v1 v2:Value) (n1 d1 n2 d2:Int) (H:Heap) (hg:Grp H) (hL:H.low ≤ H.size) (h1:QV H v1 n1 d1) (h2:QV H v2 n2 d2) (z1:0 < d1) (z2:0 < d2) (b1:(n1.natAbs:Int) < 10000 ^ 20) (b2:d1 < 10000 ^ 20) (b3:(n2.natAbs:Int) < 10000 ^ 20) (b4:d2 < 10000 ^ 20) (z5:0 < n2):QOut S 72 [v1,v2] H (n1 * d2) (d1 * n2):=by
  suffices h:WCall Tryz.prog S (.fn 72) [v1,v2] H (fun v H' => Keep H H' ∧ Grp H' ∧ QV H' v (n1 * d2) (d1 * n2)) by
    obtain ⟨v,H',hr,h1,h2,h3⟩:=h; exact ⟨H',v,h1,h2,h3,hr⟩
  obtain ⟨m1,e1,⟨t1,t2,t3,t4,rfl,p1,p2⟩,y1,_,c1⟩:=h1.short z1 b1 b2;obtain ⟨m2,e2,⟨t5,t6,t7,t8,rfl,p3,p4⟩,y2,_,c2⟩:=h2.short z2 b3 b4;have y3:0 < m2:=by
    have h:=Int.mul_pos z5 y2;rw [← c2] at h;exact Int.pos_of_mul_pos_left h z2
  clear b1 b2 b3 b4 h1 h2;obtain ⟨H1,b1,hK1,hs1,zz1,hr1⟩:=box1 H [t1,t2,t3,t4] 48;obtain ⟨H2,b2,hK2,hs2,zz2,hr2⟩:=box1 H1 [t5,t6,t7,t8] 48;obtain ⟨H2r,b3,hK3,hs3,zz3,hr3⟩:=box1 H2 [.bool false,.slice none 0 0,.bool false,.slice none 0 0] 48;have ow3:Own H2r H2.size 48 [.bool false,.slice none 0 0,.bool false,.slice none 0 0]:=(b3 ▸ Own.new H2 _ _);clear zz1 zz2 zz3 hr3;have lt1:=Nat.lt_of_lt_of_le hs1 (hK2.trans hK3).size;have lt2:=Nat.lt_of_lt_of_le hs2 hK3.size;have q0:H2r.read H.size 0 2 = some [t1,t2]:=(hK2.trans hK3).read hs1 (hr1 0 2 (show 0 + 2 ≤ 4 by omega))
  have q1:H2r.read H.size 2 2 = some [t3,t4]:=(hK2.trans hK3).read hs1 (hr1 2 2 (show 2 + 2 ≤ 4 by omega))
  have q2:H2r.read H1.size 0 2 = some [t5,t6]:=hK3.read hs2 (hr2 0 2 (show 0 + 2 ≤ 4 by omega))
  have q3:H2r.read H1.size 2 2 = some [t7,t8]:=hK3.read hs2 (hr2 2 2 (show 2 + 2 ≤ 4 by omega))
  have hK02:=(hK1.trans hK2).trans hK3;have hL2:=hK02.low hL;have hg2:=hK02.grp hg;replace p1:=p1.keep hK02;replace p2:=p2.keep hK02;replace p3:=p3.keep hK02;replace p4:=p4.keep hK02;have hra:=Keep.relowS H2r;obtain ⟨xa,Haa,Ha,hKa,hLa,fa,ga,bxa⟩:=drawnBig hL2 (Times_runs hS _ _ m1 e2 _ _ (H2r.relow H2r.size) (hra.grp hg2) (Nat.le_refl _) ((p1).keep hra) ((p4).keep hra) (by omega) (by omega))
  have hga:=hKa.grp hg2;have hK2a:=hKa;have q1a:=hKa.read lt1 q1;have q2a:=hKa.read lt2 q2;have hrb:=Keep.relowS Ha;obtain ⟨xb,Hba,Hb,hKb,hLb,fb,gb,bxb⟩:=drawnBig hLa (Times_runs hS _ _ e1 m2 _ _ (Ha.relow Ha.size) (hrb.grp hga) (Nat.le_refl _) ((p2.keep hK2a).keep hrb) ((p3.keep hK2a).keep hrb) (by omega) (by omega))
  have hgb:=hKb.grp hga;have hK2b:=hKa.trans hKb;have hcr:=cross_div c1 c2;have hrz:=Keep.relowS Hb;have hob:=lowest_all hS xa xb (m1 * e2) (e1 * m2) _ _ (Hb.relow Hb.size) (hrz.grp hgb) (Nat.le_refl _) (Int.mul_pos y1 y3) ((bxa.keep hKb).keep hrz) ((bxb).keep hrz) (by omega) (by omega)
  have hob':QOut S 42 [xa,xb] (Hb.relow Hb.size) (n1 * d2) (d1 * n2):=by
    obtain ⟨Hz,vz,k1,k2,k3,k4⟩:=hob;exact ⟨Hz,vz,k1,k2,k3.as (Int.mul_pos y1 y3) hcr,k4⟩
  obtain ⟨v9,Hm,Hn,Ho,fm,fn,ps,hld,hLn,hK9,hg9,hq9⟩:=endQ (hK02.trans hK2b) (Nat.le_trans hK1.size hK2.size) hLb hg (ow3.keep hK2b) hob';have hc1:(Value.agg ⟨[t1,t2,t3,t4]⟩).cells.toList = [t1,t2,t3,t4]:=rfl;have hc2:(Value.agg ⟨[t5,t6,t7,t8]⟩).cells.toList = [t5,t6,t7,t8]:=rfl;refine call_of Tryz.func72 rfl (Nat.le_of_ble_eq_true rfl) (hS.no rfl _ _) ?_
  rw [Tryz.ntmps72,Tryz.results72];clear p1 p2 p3 p4 ow3 hob hob' c1 c2 hcr bxa bxb
  repeat' (first | simp only [↓Zabm,↓Zabo,↓Zabq,↓Zabp,↓Zaci,↓Zach,↓Zacb,↓Zaah,↓Zaby,↓Zabw,↓sxD_same,↓Zacn,↓Zaai,↓Zaal,↓Zaaq,↓Zaat,↓Zaan,↓Zaau,↓Zack,↓bxPut,↓Zabj,↓Zabh,↓Zacl,↓Zaav,↓Zaco,↓Zaba,↓Zaaz,Zacj,Zabs,Zabf,List.map,List.nil_append,List.append_nil,↓reduceIte,Nat.reduceEqDiff,Nat.reduceLT,and_self,Zaaa,Nat.add_zero,Option.map_some, *,argF,List.getD_cons_zero,List.getD_cons_succ,alQ,qaG0,qaG1,ldBig,Nat.zero_add] | (with_reducible first | refine Zabu (by assumption) (by decide +kernel) ?_ | refine Zabt (by decide +kernel) ?_ | refine Zaca (by decide +kernel) ?_ | refine Zabv ?_))
theorem Frac_any (x y:Int) (H:Heap) (hg:Grp H) (hL:H.low ≤ H.size) (hx:-9223372036854775808 ≤ x ∧ x ≤ 9223372036854775807) (hy:0 < y) (hy2:y ≤ 9223372036854775807):QOut S 19 [.int .i64 x,.int .i64 y] H x y:=by
  suffices h:WCall Tryz.prog S (.fn 19) [.int .i64 x,.int .i64 y] H (fun v H' => Keep H H' ∧ Grp H' ∧ QV H' v x y) by
    obtain ⟨v,H',hr,h1,h2,h3⟩:=h; exact ⟨H',v,h1,h2,h3,hr⟩
  obtain ⟨H3,b3,hK3,hs3,zz3,hr3⟩:=box1 H [.bool false,.slice none 0 0,.bool false,.slice none 0 0] 48;have ow3:Own H3 H.size 48 [.bool false,.slice none 0 0,.bool false,.slice none 0 0]:=(b3 ▸ Own.new H _ _);clear zz3 hr3;have hob:=Of_runs hS x H3 (hK3.grp hg) (hK3.low hL) (by omega)
  obtain ⟨H4,vx,hK4,hg4,bx,hR4⟩:=hob;have f4:=hR4.bx;have hob5:=Of_runs hS y H4 hg4 ((hK3.trans hK4).low hL) (by omega)
  obtain ⟨H5,vy,hK5,hg5,by',hR5⟩:=hob5
  have f5:=hR5.bx;have hob6:=lowest_all hS vx vy x y 5 5 H5 hg5 (((hK3.trans hK4).trans hK5).low hL) hy (bx.keep hK5) by' (by omega) (by omega)
  obtain ⟨H6,vq,hK6,hg6,hq,hR6⟩:=hob6;have f6:=hR6.bx;have hK36:=(hK4.trans hK5).trans hK6;obtain ⟨H7,ps,hld,hq7,hkp⟩:=retQV (ow3.keep hK36) hq;have hK7:=hkp H (hK3.trans hK36) (Nat.le_refl _);have hg7:=hK7.grp hg;refine call_of Tryz.func19 rfl (Nat.le_of_ble_eq_true rfl) (hS.no rfl _ _) ?_
  rw [Tryz.ntmps19,Tryz.results19];clear hR4 hR5 hR6 bx by' hq ow3 hkp
  repeat' simp only [↓Zabo,↓Zabq,↓Zabp,↓Zaci,↓Zach,↓Zacn,↓Zaar,↓Zaai,↓Zaat,↓Zaau,↓Zack,↓bxPut,↓Zabj,↓Zabh,↓Zacl,↓Zaav,↓Zaco,↓Zaba,↓Zaaz,Zacj,Zabs,Zabf,List.map,List.nil_append,List.append_nil,↓reduceIte,Nat.reduceEqDiff,Nat.reduceLT,and_self, *,argF,List.getD_cons_zero,List.getD_cons_succ,alQ]
end Go.Proofs.YtdfjaoncabanbaaGreatDoor
