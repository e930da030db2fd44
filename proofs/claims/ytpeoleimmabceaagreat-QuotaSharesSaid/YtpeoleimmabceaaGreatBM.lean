/- Rows that hold fractions. -/
import Derived.Test.YtpeoleimmabceaaGreatBL
import Derived.Test.YtpeoleimmabceaaGreatBBn
import Derived.Test.YtpeoleimmabceaaGreatGj
set_option linter.unusedVariables false
set_option linter.unusedSimpArgs false
set_option linter.unusedSectionVars false

namespace Go.Proofs.YtpeoleimmabceaaGreat
open Go Go.AM
set_option maxRecDepth 10000

def QShape (cells:List Value):Prop:=∃ s1 a1 n1 c1 s2 a2 n2 c2,cells = [.bool s1,.slice a1 n1 c1,.bool s2,.slice a2 n2 c2]
theorem QShape.len {cells:List Value} (h:QShape cells):cells.length = 4:=by
  obtain ⟨_,_,_,_,_,_,_,_,rfl⟩:=h; rfl
theorem QShape.empty:QShape [.bool false,.slice none 0 0,.bool false,.slice none 0 0]:=⟨_,_,_,_,_,_,_,_,rfl⟩
theorem QV.shape {H:Heap} {v:Value} {n d:Int} (h:QV H v n d):v = .agg ⟨v.cells.toList⟩ ∧ QShape v.cells.toList:=by
  obtain ⟨n',d',⟨t1,t2,t3,t4,rfl,q1,q2⟩,_⟩:=h;obtain ⟨u1,w1,r1,o1,hu1,s1,_⟩:=q1;obtain ⟨u2,w2,r2,o2,hu2,s2,_⟩:=q2;obtain ⟨a1,c1,rfl⟩:=s1.v0;obtain ⟨a2,c2,rfl⟩:=s2.v0;cases hu1;cases hu2;exact ⟨rfl,_,_,_,_,_,_,_,_,rfl⟩
theorem ne_rowG {H:Heap} {r:Nat} {e:TypeId} {cells:List Value} (h:Own H r e cells) (hs:QShape cells) {k:IntKind} {v:Value} {w:List Int} {r' o':Nat} (hx:SlI k H v w r' o') (h0:0 < w.length):r' ≠ r:=by
  intro he;subst he;have h1:=(hx.rdI h0).1;obtain ⟨_,_,_,_,_,_,_,_,rfl⟩:=hs
  by_cases hle:o' + 0 + 1 ≤ 4
  · rw [h.read (o:=o' + 0) (n:=1) hle] at h1;rcases o' with _ | _ | _ | _ | o';all_goals first | (simp at h1; done) | omega
  · unfold Heap.read at h1;rw [h.get] at h1;simp only [] at h1;rw [show Nat.ble (o' + 0 + 1) (List.length [_,_,_,_]) = false from Bool.eq_false_iff.2 (fun hb => hle (Nat.le_of_ble_eq_true hb))] at h1
    simp at h1
theorem QV.other {H H2:Heap} {r:Nat} {e t:TypeId} {cells:List Value} (h:Own H r e cells) (hc:QShape cells) {o:Nat} {u v:Value} (hs:aStore Tryz.prog H t (.pointer (some ⟨r,o,none⟩)) u = some H2) (hsz:H2.size = H.size) {n d:Int} (hq:QV H v n d):QV H2 v n d:=by
  obtain ⟨n',d',⟨t1,t2,t3,t4,rfl,q1,q2⟩,h4⟩:=hq;obtain ⟨u1,w1,r1,o1,hu1,s1,k1⟩:=q1;obtain ⟨u2,w2,r2,o2,hu2,s2,k2⟩:=q2;exact ⟨n',d',⟨t1,t2,t3,t4,rfl,⟨u1,w1,r1,o1,hu1,SlE.other h hs hsz s1 (ne_rowG h hc s1),k1⟩,⟨u2,w2,r2,o2,hu2,SlE.other h hs hsz s2 (ne_rowG h hc s2),k2⟩⟩,h4⟩
theorem storeQ {H:Heap} {r:Nat} {cells:List Value} (ow:Own H r 53 cells) (hs:QShape cells) {v:Value} {n d:Int} (hq:QV H v n d) :
    ∃ H2,aStore Tryz.prog H 53 (.pointer (some ⟨r,0,none⟩)) v = some H2 ∧ H2.size = H.size ∧ Own H2 r 53 v.cells.toList ∧ (∀ v' n' d',QV H v' n' d' → QV H2 v' n' d') ∧ (∀ r' e' c',r' ≠ r → Own H r' e' c' → Own H2 r' e' c') ∧ (∀ H0,Keep H0 H → H0.size ≤ r → Keep H0 H2):=by
  obtain ⟨hv,s1,a1,n1,c1,s2,a2,n2,c2,hcs⟩:=hq.shape;have hob:=ow.store (P:=Tryz.prog) (t:=53) (i:=Tryz.t53) (by kernel_rfl) (v:=v) (new:=[.bool s1,.slice a1 n1 c1,.bool s2,.slice a2 n2 c2]) hcs (by kernel_rfl) rfl (o:=0) (by rw [hs.len]; exact Nat.le_refl 4)
  obtain ⟨H2,h1,h2,h3,h4,h5⟩:=hob;refine ⟨H2,h1,h3,?_,fun v' n' d' hv' => hv'.other ow hs h1 h3,h4,h5⟩
  rw [hcs];have hl:=hs.len;obtain ⟨_,_,_,_,_,_,_,_,rfl⟩:=hs;exact h2
theorem storeQD {H0 H:Heap} {r:Nat} {cells:List Value} (hk:Keep H0 H) (hr:H0.size ≤ r) (hL:H.low ≤ H.size) (ow:Own H r 53 cells) (hs:QShape cells) {v:Value} {n d:Int} (hq:QV H v n d) :
    ∃ Ha Hb,aStore Tryz.prog (H.relow H.size) 53 (.pointer (some ⟨r,0,none⟩)) v = some Ha ∧ Ha.relow (Nat.min H.low Ha.low) = Hb ∧ Keep H0 Hb ∧ Hb.size = H.size ∧ Hb.low ≤ Hb.size ∧ Own Hb r 53 v.cells.toList ∧ (∀ v' n' d',QV H v' n' d' → QV Hb v' n' d') ∧ (∀ r' e' c',r' ≠ r → Own H r' e' c' → Own Hb r' e' c'):=by
  obtain ⟨Ha,h1,h2,h3,h4,h5,h6⟩:=storeQ (ow.addr (l:=H.size)) hs (hq.addr (l:=H.size));refine ⟨Ha,_,h1,rfl,Keep.lower hk (h6 H0 (hk.trans (Keep.relowS _)) hr),h2,?_,h3.addr,fun v' n' d' hv' => (h4 _ _ _ hv'.addr).addr,fun r' e' c' hne ho => (h5 r' e' c' hne ho.addr).addr⟩
  show Nat.min H.low Ha.low ≤ Ha.size;rw [h2];exact Nat.le_trans (Nat.min_le_left _ _) hL
theorem allocQD {H:Heap} (hL:H.low ≤ H.size) :
    ∃ Ha Hb,(H.relow H.size).newExact [.bool false,.slice none 0 0,.bool false,.slice none 0 0] 53 = Ha ∧ (∀ (all:List Oper) (n:Nat) (k:Heap → Prop),sxD all n H Ha k = k Hb) ∧ Keep H Hb ∧ Hb.low ≤ Hb.size ∧ Own Hb H.size 53 [.bool false,.slice none 0 0,.bool false,.slice none 0 0] ∧ Hb.size = H.size + 1:=by
  obtain ⟨Ha,e1,k1,_,z1,_⟩:=box1 (H.relow H.size) [.bool false,.slice none 0 0,.bool false,.slice none 0 0] 53;have ow:Own Ha H.size 53 [.bool false,.slice none 0 0,.bool false,.slice none 0 0]:=e1 ▸ Own.new (H.relow H.size) _ _;exact ⟨Ha,Ha.relow (Nat.min H.low Ha.low),e1,fun all n k => sxD_keep k1 k,Keep.draw k1,(Keep.draw k1).low hL,ow.addr,z1⟩
theorem own_ldQ {H:Heap} {r:Nat} {v:Value} {n d:Int} (h:Own H r 53 v.cells.toList) (hq:QV H v n d):aLoad Tryz.prog H 53 (.pointer (some ⟨r,0,none⟩)) = some v:=by
  obtain ⟨hv,hs⟩:=hq.shape;have hl:=hs.len;rw [Go.Proofs.YtpeoleimmabceaaGreat.ldQ,h.read (o:=0) (n:=4) (by omega),List.drop_zero,← hl,List.take_length,Option.map_some,← hv]
end Go.Proofs.YtpeoleimmabceaaGreat

namespace Go.Proofs.YtpeoleimmabceaaGreat
open Go Go.AM
set_option maxRecDepth 10000

theorem val_drop_le {w:List Int} (h:Digs w) (m:Nat):val (w.drop m) ≤ val w:=by
  induction m generalizing w with
  | zero => rw [List.drop_zero]; exact Int.le_refl _
  | succ m ih =>
    cases w with
    | nil => rw [List.drop_nil]; exact Int.le_refl _
    | cons x l =>
      have hl:Digs l:=fun z hz => h z (List.mem_cons_of_mem _ hz)
      have h1:=ih hl;have h2:=h x List.mem_cons_self;have h3:=hl.nonneg;rw [List.drop_succ_cons];show val (l.drop m) ≤ x + 10000 * val l;omega
theorem afD (s:Bool) (a:Option Addr) (n c:Nat):aField Tryz.prog 51 (.agg ⟨[.bool s,.slice a n c]⟩) 1 = some (.slice a n c):=by kernel_rfl

variable {S:AM.Sys} (hS:Only S 5)
include hS

theorem Within_runs (v1:Value) (x most:Int) (l1:Nat) (H:Heap) (hg:Grp H) (hL:H.low ≤ H.size) (h1:BigIs H v1 x l1) (hl1:l1 ≤ 400) (hm:0 ≤ most ∧ most ≤ 1152921504606846976) (hx:(x.natAbs:Int) ≤ most):∃ H',Keep H H' ∧ Runs Tryz.prog S (.fn 20) [v1,.int .i64 most] H (.tuple #[.int .i64 x,.bool true]) H':=by
  suffices h:WCall Tryz.prog S (.fn 20) [v1,.int .i64 most] H (fun v H' => v = .tuple #[.int .i64 x,.bool true] ∧ Keep H H') by
    obtain ⟨_,H',hr,rfl,hk⟩:=h; exact ⟨H',hk,hr⟩
  obtain ⟨u1,w1,r1,o1,rfl,s1,d1,n1,e1,g1⟩:=h1;obtain ⟨a1,c1,rfl⟩:=s1.v0;obtain ⟨H1,b1,hK1,hs1,-,hr1⟩:=box1 H [.bool (decide (x < 0)),.slice a1 w1.length c1] 51;have q0:H1.read H.size 0 1 = some [.bool (decide (x < 0))]:=hr1 0 1 (show 0 + 1 ≤ 2 by omega)
  have q1:H1.read H.size 1 1 = some [.slice a1 w1.length c1]:=hr1 1 1 (show 1 + 1 ≤ 2 by omega)
  clear hr1;have hL1:=hK1.low hL;have hrl:=Keep.relowS H1;obtain ⟨vm,H2',H2,k2,l2,f2,d2,bm⟩:=drawnBig hL1 (Of_runs hS most (H1.relow H1.size) (hrl.grp (hK1.grp hg)) (Nat.le_refl _) (by omega))
  obtain ⟨um,wm,rm,om,rfl,sm,dm,nm,em,gm⟩:=bm;obtain ⟨am,cm,rfl⟩:=sm.v0;have hrl2:=Keep.relowS H2;have s2:=s1.keep (hK1.trans k2);have hcm:=(cmpD_runs hS _ _ w1 wm r1 o1 rm om (H2.relow H2.size) (Nat.le_refl _) (s2.keep hrl2) (sm.keep hrl2)).bx;have hcv:=cmpL_val d1 n1 dm nm;rw [e1,em] at hcv;have hle:¬ 0 < cmpL w1 wm:=by
    rw [hcv];split
    · omega
    · split <;> omega
  have q0':=k2.read hs1 q0;have q1':=k2.read hs1 q1;have hk2:=hK1.trans k2;have hc1:(Value.agg ⟨[.bool (decide (x < 0)),.slice a1 w1.length c1]⟩).cells.toList = [.bool (decide (x < 0)),.slice a1 w1.length c1]:=rfl;have hml:=s1.ml;have hmx:Go.maxLen = 9223372036854775807:=rfl;have hw0:IntKind.i64.wrap ((w1.length:Int) - 1) = (w1.length:Int) - 1:=IntWalk.i64_in _ (by omega)
  have hfin:decide (x < 0) = true → IntKind.i64.wrap (0 - val w1) = x:=fun h => by
    have:=of_decide_eq_true h;rw [IntWalk.i64_in _ (by omega)]; omega
  have hfin2:decide (x < 0) = false → val w1 = x:=fun h => by
    have:=of_decide_eq_false h;omega
  have hb:val w1 ≤ 1152921504606846976:=by omega
  refine Zaaw Tryz.func20 rfl (Nat.le_of_ble_eq_true rfl) (hS.no rfl _ _) ?_
  rw [Tryz.ntmps20,Tryz.results20];clear s1 sm dm nm em gm n1 g1 hcv hrl hrl2 hm hx e1;generalize decide (x < 0) = sx at *
  repeat' (first | simp only [↓Zabs,↓Zabn,↓Zabp,↓Zabr,↓Zaae,↓Zaaf,↓Zabm,↓Zabq,↓Zacj,↓Zaci,↓Zacd,↓Zaag,↓Zacb,↓Zaca,↓Zabw,↓Zaby,↓sxDL_field,↓sxD_same,↓Zaco,↓Zaaq,↓Zaaj,↓bxOp_box,↓Zaap,↓Zaak,↓bxOp_un,↓Zaam,↓bxOp_field,↓Zaat,↓Zaao,↓bxPut,↓Zabk,↓Zabl,↓Zabi,↓Zacm,↓Zacn,↓Zacp,↓Zaba,↓Zaay,↓Zaaz,Zack,Zaab,Zabd,Zabt,Zacg,packRes_two,List.map_cons,List.map_nil,List.nil_append,List.append_nil,↓reduceIte,Nat.reduceEqDiff,Nat.reduceLT,dec_F,Zaaa,one1,Option.bind_some, *,argF,List.getD_cons_zero,List.getD_cons_succ,lenI,faG1,ldIs,afD,Nat.zero_add] | (with_reducible first | refine Zabv (by assumption) (by decide +kernel) ?_ | refine Zabu (by decide +kernel) ?_ | refine Zacc (by decide +kernel) ?_ | refine Zabx ?_))
  refine sxL_of (fun m ρ H3 => m ≤ w1.length ∧ H3 = H2 ∧ ρ 2 = .pointer (some ⟨H.size,0,none⟩) ∧ ρ 6 = .int .i64 (val (w1.drop m)) ∧ ρ 7 = .int .i64 ((m:Int) - 1)) (n:=w1.length) ⟨Nat.le_refl _,rfl,rfl,by rw [List.drop_length]; rfl,rfl⟩ ?_
  rintro m ρ H3 ⟨hmw,rfl,z2,z6,z7⟩;cases m with
  | zero =>
    have h0:¬ (0:Int) ≤ ((0:Nat):Int) - 1:=by omega
    rw [List.drop_zero] at z6;clear s2 hw0 d1;cases sx
    · have hf:=hfin2 rfl;clear hfin hfin2
      repeat' (first | simp only [↓Zabs,↓Zabp,↓Zabr,↓Zaae,↓Zabm,↓Zabo,↓Zacj,↓Zaci,↓Zaco,↓Zaaq,↓Zaaj,↓Zaap,↓Zaak,↓Zaam,↓Zaan,↓bxPut,↓Zabk,↓Zabj,↓Zaad,↓Zaac,↓Zabf,↓Zabe,↓Zacp,↓Zaba,↓Zaay,Zack,Zaab,Zabd,Zacg,↓reduceIte,Nat.reduceEqDiff,Nat.reduceLT,dec_F,and_self,Nat.add_zero,one1,Option.bind_some, *,faG0,ldB4])
    · have hf:=hfin rfl;clear hfin hfin2
      repeat' (first | simp only [↓Zabs,↓Zabp,↓Zabr,↓Zaae,↓Zabm,↓Zabo,↓Zacj,↓Zaci,↓Zaco,↓Zaaq,↓Zaaj,↓Zaap,↓Zaak,↓Zaam,↓Zaan,↓bxPut,↓Zabk,↓Zabj,↓Zaad,↓Zaac,↓Zabf,↓Zabe,↓Zacp,↓Zaba,↓Zaay,Zack,Zaab,Zabd,una_neg,Zach,Zacg,↓reduceIte,Nat.reduceEqDiff,Nat.reduceLT,dec_F,and_self,Nat.add_zero,one1,Option.bind_some, *,faG0,ldB4])
  | succ m =>
    have hla:m < w1.length:=by omega
    have p1:=SlI_ix s2 hla;have p2:=(s2.rdI hla).1;have hidx:((m + 1:Nat):Int) - 1 = (m:Int):=by omega
    rw [hidx] at z7;have hge:(0:Int) ≤ (m:Int):=by omega
    have hw:IntKind.i64.wrap ((m:Int) - 1) = (m:Int) - 1:=IntWalk.i64_in _ (by omega)
    have hdr:val (w1.drop m) = w1.getD m 0 + 10000 * val (w1.drop (m + 1)):=by rw [drop_cons hla]; rfl
    have hdl:=val_drop_le d1 m;have hn:=(show Digs (w1.drop (m + 1)) from fun z hz => d1 z (List.mem_of_mem_drop hz)).nonneg
    have hdi:=d1.getD m;have hw1:IntKind.i64.wrap (val (w1.drop (m + 1)) * 10000) = val (w1.drop (m + 1)) * 10000:=IntWalk.i64_in _ (by omega)
    have hw2:IntKind.i64.wrap (val (w1.drop (m + 1)) * 10000 + w1.getD m 0) = val (w1.drop m):=by rw [IntWalk.i64_in _ (by omega)]; omega
    clear s2 hw0 hidx d1 hfin hfin2
    repeat' (first | simp only [↓Zabs,↓Zabp,↓Zabr,↓Zaae,↓Zabm,↓Zabo,↓Zacj,↓Zaci,↓Zaco,↓Zaaq,↓Zaaj,↓Zaap,↓Zaak,↓Zaam,↓Zaan,↓bxPut,↓Zabk,↓Zabj,↓Zaad,↓Zaac,↓Zabf,↓Zabe,↓Zacp,↓Zaba,↓Zaay,Zack,Zaab,Zabd,Zach,↓reduceIte,Nat.reduceEqDiff,Nat.reduceLT,dec_T,true_and,one1,Option.bind_some, *,faG1,ldIs,ldI,Nat.zero_add])
    exact ⟨m,by omega,by omega,by rw [hdr],rfl⟩
end Go.Proofs.YtpeoleimmabceaaGreat

namespace Go.Proofs.YtpeoleimmabceaaGreat
open Go Go.AM
set_option maxRecDepth 10000

variable {S:AM.Sys} (hS:Only S 5)
include hS

theorem Gcd_runs (x y:Int) (H:Heap) (hx:0 ≤ x) (hy:0 ≤ y) (hx2:x ≤ 9223372036854775807) (hy2:y ≤ 9223372036854775807):∃ H',Keep H H' ∧ Runs Tryz.prog S (.fn 21) [.int .i64 x,.int .i64 y] H (.int .i64 (Nat.gcd x.toNat y.toNat:Nat)) H':=by
  suffices h:WCall Tryz.prog S (.fn 21) [.int .i64 x,.int .i64 y] H (fun v H' => v = .int .i64 (Nat.gcd x.toNat y.toNat:Nat) ∧ Keep H H') by
    obtain ⟨_,H',hr,rfl,hk⟩:=h; exact ⟨H',hk,hr⟩
  refine Zaaw Tryz.func21 rfl (Nat.le_of_ble_eq_true rfl) (hS.no rfl _ _) ?_
  rw [Tryz.ntmps21,Tryz.results21]
  repeat' (first | simp only [↓Zabp,↓Zabr,↓Zaaf,↓Zabm,↓Zabq,↓Zacj,↓Zaci,↓Zaco,↓Zaaq,↓Zaaj,↓bxOp_un,↓bxOp_max,↓bxPut,↓Zabk,↓Zabi,↓Zacm,↓Zacn,↓Zaba,↓Zaay,Zabg,Nat.reduceLT, *])
  refine sxL_of (fun m ρ H2 => ∃ a b:Int,m = b.toNat ∧ 0 ≤ a ∧ 0 ≤ b ∧ a ≤ 9223372036854775807 ∧ b ≤ 9223372036854775807 ∧ Nat.gcd a.toNat b.toNat = Nat.gcd x.toNat y.toNat ∧ Keep H H2 ∧ ρ 0 = .int .i64 a ∧ ρ 1 = .int .i64 b)
    ⟨x,y,rfl,hx,hy,hx2,hy2,rfl,Keep.refl H,rfl,rfl⟩ ?_
  rintro m ρ H2 ⟨a,b,rfl,ha,hb,ha2,hb2,hG,hK,e0,e1⟩;generalize Nat.gcd x.toNat y.toNat = G at *
  by_cases hb0:b = 0
  · subst hb0;have hG2:(G:Int) = a:=by rw [← hG,show (0:Int).toNat = 0 from rfl,Nat.gcd_zero_right]; omega
    have f1:IntKind.i64.wrap (0 - a) = 0 - a:=IntWalk.i64_in _ (by omega)
    have f2:max a (0 - a) = a:=by omega
    clear hG
    repeat' (first | simp only [↓Zabs,↓Zabn,↓Zabp,↓Zabr,↓Zaae,↓Zabm,↓Zabo,↓Zacj,↓Zaci,↓Zacd,↓Zaag,↓Zacb,↓sxDL_assign,↓Zabw,↓Zaco,↓Zaaq,↓Zaaj,↓Zaak,↓bxPut,↓Zabk,↓Zabj,↓Zaad,↓Zaac,↓Zabf,↓Zabe,↓Zacp,↓Zaba,↓Zaay,Zack,mm_max,Zaab,Zabd,una_neg,Zacg,↓reduceIte,Nat.reduceEqDiff,Nat.reduceLT,dec_F,and_true,not_true_eq_false, *] | (with_reducible first | refine Zabv (by assumption) (by decide +kernel) ?_ | refine Zabu (by decide +kernel) ?_ | refine Zacc (by decide +kernel) ?_ | refine Zabx ?_))
    rw [if_neg (by omega)]
  · have hm:a.tmod b = a % b:=Int.tmod_eq_emod_of_nonneg ha;have h1:=Int.emod_nonneg a hb0;have h2:=Int.emod_lt_of_pos a (show 0 < b by omega)
    have f1:IntKind.i64.wrap (a % b) = a % b:=IntWalk.i64_in _ (by omega)
    have hg2:Nat.gcd b.toNat (a % b).toNat = G:=by
      rw [← hG,Int.toNat_emod ha hb,Nat.gcd_comm b.toNat (a.toNat % b.toNat),← Nat.gcd_rec,Nat.gcd_comm]
    repeat' (first | simp only [↓Zabs,↓Zabn,↓Zabp,↓Zabr,↓Zaae,↓Zabm,↓Zabo,↓Zacj,↓Zaci,↓Zacd,↓Zaag,↓Zacb,↓sxDL_assign,↓Zabw,↓Zaco,↓Zaaq,↓Zaaj,↓Zaak,↓bxPut,↓Zabk,↓Zabj,↓Zaad,↓Zaac,↓Zabf,↓Zabe,↓Zacp,↓Zaba,↓Zaay,Zack,Zaab,Zabd,Zach,↓reduceIte,Nat.reduceEqDiff,Nat.reduceLT,dec_T,size_relow,low_relow,relow_relow,ne_eq,not_false_eq_true, *] | (with_reducible first | refine Zabv (by assumption) (by decide +kernel) ?_ | refine Zabu (by decide +kernel) ?_ | refine Zacc (by decide +kernel) ?_ | refine Zabx ?_))
    refine ⟨_,?_,b,a % b,rfl,hb,h1,hb2,by omega,hg2,?_,rfl,?_⟩
    · omega
    · have z1:min H.low H.size ≤ H2.size:=Nat.le_trans (Nat.min_le_right _ _) hK.size;exact { size:=hK.size,low:=fun _ => Nat.min_le_right _ _,lo:=by repeat' (first | exact hK.lo | exact z1 | refine Nat.le_min.2 ⟨?_,?_⟩),row:=hK.row,grp:=hK.grp,mem:=hK.mem }
    · rfl
end Go.Proofs.YtpeoleimmabceaaGreat

namespace Go.Proofs.YtpeoleimmabceaaGreat
open Go Go.AM
set_option maxRecDepth 10000

def QL (H:Heap) (v:Value) (n d:Int):Prop:=QIs H v n d 400 ∧ 0 < d ∧ n.natAbs.gcd d.natAbs = 1
theorem QL.qv {H:Heap} {v:Value} {n d:Int} (h:QL H v n d):QV H v n d:=⟨n,d,h.1,h.2.1,h.2.2,rfl⟩
theorem QV.ql {H:Heap} {v:Value} {n d:Int} (h:QV H v n d):∃ n' d',QL H v n' d' ∧ n' * d = n * d':=by
  obtain ⟨n',d',h1,h2,h3,h4⟩:=h; exact ⟨n',d',⟨h1,h2,h3⟩,h4⟩
theorem QL.keep {H H':Heap} {v:Value} {n d:Int} (h:QL H v n d) (hk:Keep H H'):QL H' v n d:=by
  obtain ⟨⟨s1,w1,s2,w2,h1,h2,h3⟩,h4⟩:=h;exact ⟨⟨s1,w1,s2,w2,h1,h2.keep hk,h3.keep hk⟩,h4⟩
theorem QV.whole {H:Heap} {v:Value} {m:Int} (h:QV H v m 1):QL H v m 1:=by
  obtain ⟨n',d',h1,h2,h3,h4⟩:=h;have h5:=(low_le (by omega) h2 h3 h4).1
  obtain rfl:d' = 1:=by omega
  obtain rfl:n' = m:=by omega
  exact ⟨h1,h2,h3⟩
def qE:Enc (Int × Int) where
  sz:=4
  At:=fun H x cs => QL H (.agg ⟨cs⟩) x.1 x.2
  len:=fun h => by
    obtain ⟨⟨s1,w1,s2,w2,h1,_⟩,_⟩:=h;cases h1; rfl
  keep:=fun hk h => h.keep hk
def lcmOf (xs:List (Int × Int)):Nat:=xs.foldl (fun a x => Nat.lcm a x.2.toNat) 1
theorem lcmOf_take {xs:List (Int × Int)} {k:Nat} (h:k < xs.length):lcmOf (xs.take (k + 1)) = Nat.lcm (lcmOf (xs.take k)) (xs.getD k default).2.toNat:=by
  unfold lcmOf;rw [List.take_add_one,List.getElem?_eq_getElem h,List.getD_eq_getElem?_getD,List.getElem?_eq_getElem h,List.foldl_append];rfl
theorem lcmOf_dvd (xs:List (Int × Int)) (k:Nat):lcmOf (xs.take k) ∣ lcmOf xs ∧ ∀ i,i < k → i < xs.length → (xs.getD i default).2.toNat ∣ lcmOf (xs.take k):=by
  have h1:∀ (l:List (Int × Int)) (a:Nat),a ∣ l.foldl (fun a x => Nat.lcm a x.2.toNat) a:=by
    intro l
    induction l with
    | nil => intro a; exact Nat.dvd_refl a
    | cons x l ih => intro a; exact Nat.dvd_trans (Nat.dvd_lcm_left _ _) (ih _)
  have h2:∀ (l m:List (Int × Int)),lcmOf l ∣ lcmOf (l ++ m):=fun l m => by
    unfold lcmOf; rw [List.foldl_append]; exact h1 _ _
  refine ⟨?_,?_⟩
  · have:=h2 (xs.take k) (xs.drop k);rwa [List.take_append_drop] at this
  · intro i hi hl;have h3:(xs.getD i default).2.toNat ∣ lcmOf (xs.take (i + 1)):=by rw [lcmOf_take hl]; exact Nat.dvd_lcm_right _ _
    have h4:=h2 (xs.take (i + 1)) ((xs.take k).drop (i + 1));have h5:xs.take (i + 1) = (xs.take k).take (i + 1):=by rw [List.take_take,Nat.min_eq_left (by omega)]
    rw [h5,List.take_append_drop] at h4;rw [h5] at h3;exact Nat.dvd_trans h3 h4
theorem lcmOf_pos {xs:List (Int × Int)} (h:∀ x ∈ xs,0 < x.2):0 < lcmOf xs:=by
  have h1:∀ (l:List (Int × Int)) (a:Nat),0 < a → (∀ x ∈ l,0 < x.2) → 0 < l.foldl (fun a x => Nat.lcm a x.2.toNat) a:=by
    intro l
    induction l with
    | nil => intro a h0 _; exact h0
    | cons x l ih =>
      intro a h0 hl;exact ih _ (Nat.lcm_pos h0 (by have:=hl x List.mem_cons_self; omega)) fun y hy => hl y (List.mem_cons_of_mem _ hy)
  exact h1 xs 1 (by omega) h

theorem lenQ (a:Option Addr) (n c:Nat):aLen Tryz.prog #[37] (.slice a n c) = some (.int .i64 n):=by kernel_rfl
theorem ixQ (r o n c:Nat) (k:IntKind) (i:Int):aIndexAt Tryz.prog 37 (.slice (some ⟨r,o,none⟩) n c) (.int k i) = if 0 ≤ i ∧ i < (n:Int) then some (.pointer (some ⟨r,o + i.toNat * 4,none⟩)) else none:=by kernel_rfl
theorem bdP1 (z:Int):aBuild Tryz.prog 26 [(1,.int .i64 z)] = some (.agg ⟨[.slice none 0 0,.int .i64 z]⟩):=by kernel_rfl
theorem alP (H:Heap):aAlloc Tryz.prog H 26 = some (.pointer (some ⟨H.size,0,none⟩),H.newExact [.slice none 0 0,.int .i64 0] 26):=by kernel_rfl
theorem ldP (H:Heap) (r o:Nat):aLoad Tryz.prog H 26 (.pointer (some ⟨r,o,none⟩)) = (H.read r o 2).map fun l => .agg ⟨l⟩:=by kernel_rfl
theorem paG0 (r o:Nat):aFieldAt Tryz.prog 26 0 (.pointer (some ⟨r,o,none⟩)) = some (.pointer (some ⟨r,o + 0,none⟩)):=by kernel_rfl
theorem paG1 (r o:Nat):aFieldAt Tryz.prog 26 1 (.pointer (some ⟨r,o,none⟩)) = some (.pointer (some ⟨r,o + 1,none⟩)):=by kernel_rfl
theorem afN (s1 s2:Bool) (a1 a2:Option Addr) (n1 c1 n2 c2:Nat):aField Tryz.prog 53 (.agg ⟨[.bool s1,.slice a1 n1 c1,.bool s2,.slice a2 n2 c2]⟩) 0 = some (.agg ⟨[.bool s1,.slice a1 n1 c1]⟩):=by kernel_rfl
theorem stP {H:Heap} {r:Nat} {cells:List Value} (h:Own H r 26 cells) (hl:cells.length = 2) (a:Option Addr) (n c:Nat) (z:Int) :
    ∃ H2,aStore Tryz.prog H 26 (.pointer (some ⟨r,0,none⟩)) (.agg ⟨[.slice a n c,.int .i64 z]⟩) = some H2 ∧ Own H2 r 26 [.slice a n c,.int .i64 z] ∧ H2.size = H.size ∧ (∀ r' e' c',r' ≠ r → Own H r' e' c' → Own H2 r' e' c') ∧ (∀ H0,Keep H0 H → H0.size ≤ r → Keep H0 H2):=by
  have hob:=h.store (P:=Tryz.prog) (t:=26) (i:=Tryz.t26) (by kernel_rfl) (v:=.agg ⟨[.slice a n c,.int .i64 z]⟩) (new:=[.slice a n c,.int .i64 z]) rfl (by kernel_rfl) rfl (o:=0) (show 0 + 2 ≤ cells.length by omega)
  obtain ⟨H2,h1,h2,h3,h4,h5⟩:=hob;refine ⟨H2,h1,?_,h3,h4,h5⟩;obtain ⟨x,y,rfl⟩:∃ x y,cells = [x,y]:=by
    match cells,hl with
    | [x,y],_ => exact ⟨x,y,rfl⟩
  exact h2
theorem stP0 {H:Heap} {r:Nat} {x y:Value} (h:Own H r 26 [x,y]) (a:Option Addr) (n c:Nat) :
    ∃ H2,aStore Tryz.prog H 22 (.pointer (some ⟨r,0,none⟩)) (.slice a n c) = some H2 ∧ Own H2 r 26 [.slice a n c,y] ∧ H2.size = H.size ∧ (∀ r' e' c',r' ≠ r → Own H r' e' c' → Own H2 r' e' c') ∧ (∀ H0,Keep H0 H → H0.size ≤ r → Keep H0 H2):=by
  have hob:=h.store (P:=Tryz.prog) (t:=22) (i:=Tryz.t22) (by kernel_rfl) (v:=.slice a n c) (new:=[.slice a n c]) rfl (by kernel_rfl) rfl (o:=0) (show 0 + 1 ≤ 2 by omega)
  obtain ⟨H2,h1,h2,h3,h4,h5⟩:=hob;exact ⟨H2,h1,h2,h3,h4,h5⟩
theorem ownP {H:Heap} {r:Nat} {x y:Value} (h:Own H r 26 [x,y]):H.read r 0 2 = some [x,y] ∧ H.read r 0 1 = some [x] ∧ H.read r (0 + 1) 1 = some [y]:=
  ⟨h.read (o:=0) (n:=2) (Nat.le_refl 2),h.read (o:=0) (n:=1) (show 0 + 1 ≤ 2 by omega),h.read (o:=0 + 1) (n:=1) (show 0 + 1 + 1 ≤ 2 by omega)⟩
theorem qs_at {H:Heap} {v:Value} {xs:List (Int × Int)} {r o:Nat} (h:SlE qE H v xs r o) {i:Nat} (hi:i < xs.length) :
    ∃ b1 a1 n1 c1 b2 a2 n2 c2,H.read r (o + i * 4) 4 = some [.bool b1,.slice a1 n1 c1,.bool b2,.slice a2 n2 c2] ∧ H.read r (o + i * 4 + 2) 2 = some [.bool b2,.slice a2 n2 c2] ∧
      QL H (.agg ⟨[.bool b1,.slice a1 n1 c1,.bool b2,.slice a2 n2 c2]⟩) (xs.getD i default).1 (xs.getD i default).2 ∧ BigIs H (.agg ⟨[.bool b2,.slice a2 n2 c2]⟩) (xs.getD i default).2 400:=by
  obtain ⟨es,h1,h2⟩:=h.rd i hi;have h3:QL H (.agg ⟨es⟩) (xs.getD i default).1 (xs.getD i default).2:=h2;obtain ⟨_,b1,a1,n1,c1,b2,a2,n2,c2,hes⟩:=h3.qv.shape;replace hes:es = [.bool b1,.slice a1 n1 c1,.bool b2,.slice a2 n2 c2]:=hes;subst hes;have h4:=read_sub h1 (j:=2) (k:=2) (show 2 + 2 ≤ 4 by omega)
  refine ⟨b1,a1,n1,c1,b2,a2,n2,c2,h1,h4,h3,?_⟩;obtain ⟨⟨s1,w1,s2,w2,hh,_,h5⟩,_⟩:=h3;cases hh;exact h5
end Go.Proofs.YtpeoleimmabceaaGreat
