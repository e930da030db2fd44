/- Earliest, by the reference. -/
import Derived.Test.YteechkbnccpicaaPK
set_option linter.unusedVariables false
set_option linter.unusedSimpArgs false
set_option linter.unusedSectionVars false

namespace Go.Proofs.Yteechkbnccpicaa
open Go Go.AM
set_option maxRecDepth 10000

variable {ls:List Lg} {ch fr to at':Int} {B:Lg → Prop} {all:List (List (List Nat))}
theorem AllLev.cov (hA:AllLev ls ch B all) {j:Nat} {s:List Nat} (hc:Ch ls ch j s) (hB:B (ls.getD j default)):s.length < all.length ∧ lastN j s < ls.length ∧ cell all s.length (lastN j s) ≠ [] ∧ Le (cell all s.length (lastN j s)) (j :: s):=by
  have h1:=hA.2 j s hc hB;have h2:=hc.last_lt;refine ⟨h1,h2,?_⟩;rcases (hA.1 _ h1).2 _ h2 with ⟨_,g⟩ | ⟨j2,s2,g,g2,g3,g4,g5,g6⟩
  · exact absurd rfl (g j s hc hB rfl)
  · unfold cell;rw [g];exact ⟨by simp,.inr ⟨by simp [g5],g6 j s hc hB rfl rfl⟩⟩
theorem AllLev.src (hA:AllLev ls ch B all) {k i:Nat} (hk:k < all.length) (hi:i < ls.length) (hn:cell all k i ≠ []):∃ j s,cell all k i = j :: s ∧ Ch ls ch j s ∧ B (ls.getD j default) ∧ lastN j s = i:=by
  rcases (hA.1 k hk).2 i hi with ⟨g,_⟩ | ⟨j2,s2,g,g2,g3,g4,_⟩
  · exact absurd g hn
  · exact ⟨j2,s2,g,g2,g3,g4⟩
theorem AllLev.rows (hA:AllLev ls ch B all):∀ k,k < all.length → (all.getD k []).length = ls.length:=fun k hk => (hA.1 k hk).1
theorem AllLev.lens (hA:AllLev ls ch B all):∀ k' i',i' < ls.length → cell all k' i' ≠ [] → (cell all k' i').length = k' + 1:=fun k i hi hn => by
  rcases Nat.lt_or_ge k all.length with h | h
  · exact ((hA.1 k h).2 i hi).len hn
  · unfold cell at hn;have e:all.getD k [] = []:=by rw [List.getD_eq_getElem?_getD,List.getElem?_eq_none h]; rfl
    rw [e] at hn;exact absurd rfl hn
theorem lastN_at:∀ (r:List Nat) (i:Nat),(i :: r).getD r.length 0 = lastN i r
  | [],i => rfl
  | j :: r,i => lastN_at r j
theorem best_earl (hk:LOk ls ch) (hA:AllLev ls ch (BegB fr at') all) {x:List Nat} {arr:Int} (h:BestI ls to 10000 all all.length 0 x arr) :
    (x = [] ∧ EarlJ ls ch fr to at' 0 10 []) ∨ ∃ i r,x = i :: r ∧ lastN i r < ls.length ∧ EarlJ ls ch fr to at' (ls.getD (lastN i r) default).a 0 (i :: r):=by
  rcases h with ⟨h1,h2⟩ | ⟨k0,i0,h1,h2,h3,h4,h5,h6,h7⟩
  · refine .inl ⟨h1,.inl ⟨rfl,rfl,rfl,fun j s g1 g2 g3 => ?_⟩⟩
    obtain ⟨e1,e2,e3,_⟩:=hA.cov g1 g2;exact h2 _ _ e2 (.inl e1) e3 ⟨g3,(hk.leg _ e2).2.2⟩
  · have hk0:k0 < all.length:=by unfold Seen at h2; omega
    obtain ⟨j,s,e1,e2,e3,e4⟩:=hA.src hk0 h1 (by rw [← h3]; exact h4)
    rw [e1] at h3;subst h3;refine .inr ⟨j,s,rfl,e2.last_lt,.inr ⟨rfl,j,s,rfl,⟨e2,e3,⟨by rw [e4]; exact h5.1,Int.le_refl _⟩,fun j2 s2 g1 g2 g3 => ?_⟩,rfl,fun j2 s2 g1 g2 g3 => ?_⟩⟩
    · obtain ⟨f1,f2,f3,f4⟩:=hA.cov g1 g2;rcases h7 _ _ f2 (.inl f1) f3 ⟨g3.1,(hk.leg _ f2).2.2⟩ with e | ⟨_,e⟩
      · have:=g3.2; rw [e4] at this; omega
      · exact e.trans f4
    · obtain ⟨f1,f2,f3,_⟩:=hA.cov g1 g2;rw [e4];rcases h7 _ _ f2 (.inl f1) f3 ⟨g3,(hk.leg _ f2).2.2⟩ with e | ⟨e,_⟩ <;> omega
theorem EarlJ.eq {x e y f:Int} {js ks:List Nat} (h:EarlJ ls ch fr to at' x e js) (k:EarlJ ls ch fr to at' y f ks):x = y ∧ e = f ∧ js = ks:=by
  rcases h with ⟨h1,h2,h3,h4⟩ | ⟨h1,i,r,h2,h3,h4,h5⟩
  · rcases k with ⟨k1,k2,k3,_⟩ | ⟨_,i,r,_,k3,_,_⟩
    · exact ⟨by omega,by omega,h3.trans k3.symm⟩
    · exact absurd k3.fin.1 (h4 i r k3.is k3.beg)
  · rcases k with ⟨_,_,_,k4⟩ | ⟨k1,j,s,k2,k3,k4,k5⟩
    · exact absurd h3.fin.1 (k4 i r h3.is h3.beg)
    · have a1:=h5 j s k3.is k3.beg k3.fin.1;have a2:=k5 i r h3.is h3.beg h3.fin.1;have:x = y:=by omega
      subst this;obtain ⟨rfl,rfl⟩:=h3.eq k3;exact ⟨rfl,by omega,h2.trans k2.symm⟩
def PostRx (e0:Int) (fr to t0:Int) (J:Int → Int → List Nat → Prop) (H:Heap) (u:Value) (H':Heap):Prop:=
  ∃ (x e:Int) (jv:Value) (js:List Nat),u = .tuple ⟨[.int .i64 x,jv,.int .i64 e]⟩ ∧ Keep H H' ∧ jE.At H' js [jv] ∧
    (e0 ≠ 0 → x = 0 ∧ e = e0 ∧ js = []) ∧ (e0 = 0 → fr = to → x = t0 ∧ e = 0 ∧ js = []) ∧ (e0 = 0 → fr ≠ to → J x e js)
theorem jE_nilAt (H:Heap):jE.At H [] [.slice none 0 0]:=⟨⟨_,0,0,rfl,nilI H⟩,fun _ => rfl,fun h => absurd rfl h⟩

variable {S:AM.Sys} (hS:Only S 11)
include hS

set_option maxHeartbeats 8000000 in
theorem rEarl_runs (n:Int) (ls:List Lg) (lv:Value) (r o:Nat) (ch fr to at':Int) (hat:R64 at') (H:Heap) (hL:H.low ≤ H.size) (hg:Grp H) (hl:SlG H lv ls r o) :
    ∃ u H',Runs Try.prog S (.fn 12) [.int .i64 n,lv,.int .i64 ch,.int .i64 fr,.int .i64 to,.int .i64 at'] H u H' ∧ PostRx (errC n ls ch fr to [at']) fr to at' (EarlJ ls ch fr to at') H u H':=by
  suffices h:WCall Try.prog S (.fn 12) [.int .i64 n,lv,.int .i64 ch,.int .i64 fr,.int .i64 to,.int .i64 at'] H (fun u H' => PostRx (errC n ls ch fr to [at']) fr to at' (EarlJ ls ch fr to at') H u H') by
    obtain ⟨u,H',hr,h⟩:=h; exact ⟨u,H',hr,h⟩
  obtain ⟨a,c,rfl⟩:=hl.v0;have k1:=Keep.newExact H [.int .i64 at'] 3;have s1:=one_sl H at' hat;have b1:=bsI H at';obtain ⟨H1,hH1⟩:∃ H1,H1 = H.newExact [.int .i64 at'] 3:=⟨_,rfl⟩;rw [← hH1] at k1 s1 b1;obtain ⟨H2,k2,hR⟩:=good_runs hS n ls (.slice a ls.length c) r o ch fr to [at'] _ H.size 0 H1 (hl.keep k1) s1;have f1:=hR.bx;rw [show [at'].length = 1 from rfl] at f1
  have hK2:=k1.trans k2;obtain ⟨e,he⟩:∃ e,e = errC n ls ch fr to [at']:=⟨_,rfl⟩;rw [← he] at f1 ⊢;clear hH1 hR s1;refine Zaba Try.func12 rfl (Nat.le_of_ble_eq_true rfl) (hS.no rfl _ _) ?_
  rw [Try.ntmps12,Try.results12]
  by_cases h0:e = 0
  case neg =>
    have hp:PostRx e fr to at' (EarlJ ls ch fr to at') H (.tuple ⟨[.int .i64 0,.slice none 0 0,.int .i64 e]⟩) H2:=⟨0,e,_,[],rfl,hK2,jE_nilAt _,fun _ => ⟨rfl,rfl,rfl⟩,fun h => absurd h h0,fun h => absurd h h0⟩
    have d0:decide (¬ e = 0) = true:=decide_eq_true h0;clear hK2 k1 k2 hl he
    repeat' simp only [↓Zaca,↓Zabx,↓Zabz,↓Zaai,↓Zaby,↓Zacw,↓Zacv,↓Zadb,↓Zaau,↓Zaam,↓Zaao,↓Zaat,↓Zaan,↓Zaaq,↓Zaar,↓Zaay,↓Zaas,↓bxPut,↓Zabs,↓Zabt,↓Zabq,↓Zacz,↓Zada,↓Zadc,↓Zabg,↓Zabe,↓Zabf,Zacx,Zaae,Zabi,Zacb,Zacu,Zabn,List.map,List.nil_append,List.append_nil,↓reduceIte,Nat.reduceEqDiff,Nat.reduceLT,dec_T,not_false_eq_true, *,argF,List.getD_cons_zero,List.getD_cons_succ]
  subst h0;have d0:decide (¬ (0:Int) = 0) = false:=rfl
  by_cases hft:fr = to
  · have hp:PostRx 0 fr to at' (EarlJ ls ch fr to at') H (.tuple ⟨[.int .i64 at',.slice none 0 0,.int .i64 0]⟩) H2:=⟨at',0,_,[],rfl,hK2,jE_nilAt _,fun h => absurd rfl h,fun _ _ => ⟨rfl,rfl,rfl⟩,fun _ h => absurd hft h⟩
    have d1:decide (fr = to) = true:=decide_eq_true hft;clear hK2 k1 k2 hl he hft
    repeat' simp only [↓Zaca,↓Zabx,↓Zabz,↓Zaai,↓Zaby,↓Zacw,↓Zacv,↓Zadb,↓Zaau,↓Zaam,↓Zaao,↓Zaat,↓Zaan,↓Zaaq,↓Zaar,↓Zaay,↓Zaas,↓bxPut,↓Zabs,↓Zabt,↓Zabq,↓Zacz,↓Zada,↓Zadc,↓Zabg,↓Zabe,↓Zabf,Zacx,Zaae,Zabi,Zacb,Zacu,Zact,Zabn,List.map,List.nil_append,List.append_nil,↓reduceIte,Nat.reduceEqDiff,Nat.reduceLT,dec_F,not_true_eq_false, *,argF,List.getD_cons_zero,List.getD_cons_succ]
  have d1:decide (fr = to) = false:=decide_eq_false hft;obtain ⟨q1,q2,q3,q4⟩:=errC_zero he.symm;have hlk:=LOk.of q2 q3;have l2:=hl.keep hK2;have hg2:=hK2.grp hg;have hL2:=hK2.low hL;have hfit:∀ i,i < ls.length → Fit ch (ls.getD i default):=fun i hi => by
    have h:LegOk n (ls.getD i default):=q2 _ (getD_mem hi);have h4:=h.2.2.2.1;have h5:=h.2.2.2.2.1;have h6:=h.2.2.2.2.2.1;exact ⟨by omega,by omega⟩
  have hob:=rLeaving_runs hS ls (.slice a ls.length c) r o fr at' H2 l2 q1;obtain ⟨H3,w0,RL,k3,ow3,hw0,hB⟩:=hob;have hob:=rJourn_runs hS ls a c r o ch (BegB fr at') H3 H2.size w0 (k3.grp hg2) (k3.low hL2) q1 hlk (l2.keep k3) hfit ow3 hw0 hB;obtain ⟨u4,H4,RJ,all,r4,o4,k4,hA,s4,hal⟩:=hob;obtain ⟨aa,ac,rfl⟩:=s4.v0;have k24:=k3.trans k4;have hL4:=k24.low hL2;have l4:=l2.keep k24;have hob:=rBest_runs hS ls a c r o all aa ac r4 o4 to 10000 H4 hL4 l4 q1 s4 hal hA.rows hA.lens;obtain ⟨xv,x,arr,RB,atx,hbi⟩:=hob;have f3:=RL.bx;have f4:=RJ.bx;have f5:=RB.bx;have hK4:=hK2.trans k24;have hob:=jE_nil atx;obtain ⟨eqx,_⟩:=hob;rcases best_earl hlk hA hbi with ⟨hx,hJ⟩ | ⟨i,s,hx,hli,hJ⟩
  · rw [hx] at eqx;replace eqx:binP Try.prog .eql 25 xv (.slice none 0 0) = some (.bool true):=eqx;have hp:PostRx 0 fr to at' (EarlJ ls ch fr to at') H (.tuple ⟨[.int .i64 0,.slice none 0 0,.int .i64 10]⟩) H4:=⟨0,10,_,[],rfl,hK4,jE_nilAt _,fun h => absurd rfl h,fun _ h => absurd h hft,fun _ _ => hJ⟩
    clear RL RJ RB hbi hA s4 hal l4 hL4 k24 k4 k3 ow3 hw0 hB hfit hlk l2 hg2 hL2 q1 q2 q3 q4 hK2 hK4 k1 k2 hl he hft atx hx hJ
    repeat' simp only [↓Zaca,↓Zabx,↓Zabz,↓Zaai,↓Zaby,↓Zacw,↓Zacv,↓Zadb,↓Zaau,↓Zaam,↓Zaao,↓Zaat,↓Zaan,↓Zaaq,↓Zaar,↓Zaay,↓Zaas,↓bxPut,↓Zabs,↓Zabt,↓Zabq,↓Zacz,↓Zada,↓Zadc,↓Zabg,↓Zabe,↓Zabf,Zacx,Zaae,Zabi,Zacb,Zacu,Zact,Zabn,List.map,List.nil_append,List.append_nil,↓reduceIte,Nat.reduceEqDiff,Nat.reduceLT,dec_F,not_true_eq_false, *,argF,List.getD_cons_zero,List.getD_cons_succ]
  · subst hx;replace eqx:binP Try.prog .eql 25 xv (.slice none 0 0) = some (.bool false):=eqx;have hp:PostRx 0 fr to at' (EarlJ ls ch fr to at') H (.tuple ⟨[.int .i64 (ls.getD (lastN i s) default).a,xv,.int .i64 0]⟩) H4:=⟨_,0,_,i :: s,rfl,hK4,atx,fun h => absurd rfl h,fun _ h => absurd h hft,fun _ _ => hJ⟩
    have hsl:s.length ≤ 100000:=by
      rcases hJ with ⟨_,_,h,_⟩ | ⟨_,i',r',e,h,_⟩
      · cases h
      · cases e; have:=h.is.len hlk; omega
    rcases jE_cases atx with ⟨h,_⟩ | ⟨_,a5,c5,r5,o5,rfl,s5⟩
    · cases h
    have hob:=nat_at s5 (k:=s.length) (by show s.length < s.length + 1; omega)
    rw [lastN_at] at hob;obtain ⟨qx,ixx,rdx⟩:=hob;have hlen:(i :: s).length = s.length + 1:=rfl;rw [hlen] at ixx;have hwl:IntKind.i64.wrap (((s.length + 1:Nat):Int) - 1) = (s.length:Int):=by rw [IntWalk.i64_in _ (by omega)]; omega
    have hob:=SlG_at l4 hli;obtain ⟨qg,ixg,_,_,_,_,ra,_⟩:=hob;rw [hlen] at f5 eqx hp;clear RL RJ RB hbi hA s4 hal l4 k24 k4 k3 ow3 hw0 hB hfit hlk l2 hg2 hL2 q1 q2 q3 q4 hK2 hK4 k1 k2 hl he hft atx s5 hJ hlen
    repeat' simp only [↓Zaca,↓Zabx,↓Zabz,↓Zaai,↓Zaby,↓Zacw,↓Zacv,↓Zadb,↓Zaau,↓Zaam,↓Zaao,↓Zaat,↓Zaan,↓Zaaq,↓Zaar,↓Zaay,↓Zaas,↓bxPut,↓Zabs,↓Zabt,↓Zabq,↓Zacz,↓Zada,↓Zadc,↓Zabg,↓Zabe,↓Zabf,Zacx,Zaae,Zabi,Zacb,Zact,Zabn,List.map,List.nil_append,List.append_nil,↓reduceIte,Nat.reduceEqDiff,Nat.reduceLT,dec_F,one1,Option.bind_some,not_true_eq_false, *,argF,List.getD_cons_zero,List.getD_cons_succ,lenIs,ldC,faG3,one1]
end Go.Proofs.Yteechkbnccpicaa

namespace Go.Proofs.Yteechkbnccpicaa
open Go Go.AM
set_option maxRecDepth 10000

theorem neG (x:Lg):binP Try.prog .neq 61 (.agg ⟨lc x⟩) (.agg ⟨lc x⟩) = some (.bool false):=by
  have h:=(binP_eqlS (P:=Try.prog) (t:=61) (ty:=3) (k:=.i64) Try.underlying61 (by kernel_rfl) (by kernel_rfl) Try.underlying3 (by kernel_rfl) [x.f,x.t,x.d,x.a,x.l] [x.f,x.t,x.d,x.a,x.l] rfl rfl (fun i hi => by
    match i,hi with
    | 0,_ => exact ⟨rfl,rfl,show ("From" : String) ≠ "_" by decide⟩
    | 1,_ => exact ⟨rfl,rfl,show ("To" : String) ≠ "_" by decide⟩
    | 2,_ => exact ⟨rfl,rfl,show ("Dep" : String) ≠ "_" by decide⟩
    | 3,_ => exact ⟨rfl,rfl,show ("Arr" : String) ≠ "_" by decide⟩
    | 4,_ => exact ⟨rfl,rfl,show ("Line" : String) ≠ "_" by decide⟩)).2
  have h:binP Try.prog .neq 61 (.agg ⟨lc x⟩) (.agg ⟨lc x⟩) = some (.bool (decide (¬ [x.f,x.t,x.d,x.a,x.l] = [x.f,x.t,x.d,x.a,x.l]))):=h;rw [h,decide_eq_false fun h => h rfl]
structure PKJ (A Z:Heap) (ax:Option Addr) (n:Nat):Prop where
  keep:Keep A Z
  row:0 < n → ∃ b r k cells,ax = some ⟨r,0,none⟩ ∧ cells.length = n ∧ Arr (onH A) Z b r 3 1 k cells
theorem PKJ.of {A Z:Heap} {v:Value} {js:List Nat} (hk:Keep A Z) (hg:Grp A) (h0:js = [] → v = .slice none 0 0) (h1:js ≠ [] → JL A.size Z v js):∃ ax c,v = .slice ax js.length c ∧ PKJ A Z ax js.length:=by
  by_cases hj:js = []
  · subst hj;rw [h0 rfl];exact ⟨none,0,rfl,hk,fun h => absurd h (Nat.lt_irrefl 0)⟩
  · rcases h1 hj with ⟨i,r,rfl,_,rfl,h3,h4⟩ | ⟨h3,h4⟩
    · exact ⟨_,1,rfl,hk,fun _ => ⟨r,r,true,_,rfl,rfl,Arr.own hk hg h3 (fun x hx => by cases hx) h4⟩⟩
    · rcases h4 with ⟨h5,_⟩ | ⟨b,r,cells,hb,hl,ha,hf,hv,hp,hc⟩
      · rw [← castL_len,h5] at h3; simp at h3
      · rw [castL_len] at hv;refine ⟨_,_,hv,hk,fun _ => ⟨b,r,false,cells,rfl,?_,hk,hb,ha.ge,hg,(fun x hx => by cases hx),.inr ⟨rfl,ha,hf⟩⟩⟩
        rw [hc.1,castL_len]; show _ * 1 = _; omega
theorem PKJ.set {A Z:Heap} {ax:Option Addr} {n:Nat} (h:PKJ A Z ax n) {i:Nat} (hi:i < n):∃ r Z2,ax = some ⟨r,0,none⟩ ∧ aStore Try.prog Z 3 (.pointer (some ⟨r,i,none⟩)) (.int .i64 99) = some Z2 ∧ PKJ A Z2 ax n:=by
  obtain ⟨b,r,k,cells,h1,h2,h3⟩:=h.row (by omega)
  obtain ⟨inf,hi1,hi2⟩:=infoI;obtain ⟨Z2,k1,k2,_⟩:=h3.store (P:=Try.prog) (t:=3) hi1 (v:=.int .i64 99) (new:=[.int .i64 99]) rfl hi2 rfl (o:=i) (by rw [h2]; show i + 1 ≤ n; omega)
  exact ⟨r,Z2,h1,k1,k2.keep,fun _ => ⟨b,r,k,_,h1,by unfold splice; simp; omega,k2⟩⟩

variable {S:AM.Sys} (hS:Only S 11)
include hS

theorem same_runs (v1 v2:Value) (w:List Int) (r1 o1 r2 o2:Nat) (H:Heap) (hL:H.low ≤ H.size) (h1:SlI .i64 H v1 w r1 o1) (h2:SlI .i64 H v2 w r2 o2):Runs Try.prog S (.fn 14) [v1,v2] H (.bool true) H:=by
  suffices h:WCall Try.prog S (.fn 14) [v1,v2] H (fun v H' => v = .bool true ∧ H' = H) by
    obtain ⟨_,_,hr,rfl,rfl⟩:=h; exact hr
  obtain ⟨a1,c1,rfl⟩:=h1.v0;obtain ⟨a2,c2,rfl⟩:=h2.v0;have d0:decide (¬ ((w.length:Nat):Int) = ((w.length:Nat):Int)) = false:=decide_eq_false fun h => h rfl
  refine Zaba Try.func14 rfl (Nat.le_of_ble_eq_true rfl) (hS.no rfl _ _) ?_
  rw [Try.ntmps14,Try.results14]
  repeat' simp only [↓Zaca,↓Zabx,↓Zabz,↓Zaai,↓Zaaj,↓Zabu,↓Zaby,↓Zacw,↓Zacv,↓Zadb,↓Zaau,↓Zaam,↓Zaan,↓Zaas,↓bxPut,↓Zabs,↓Zabt,↓Zabq,↓Zacz,↓Zada,↓Zadc,↓Zabg,↓Zabe,Zacx,Zaae,Zabi,Zact,Zabm,↓reduceIte,Nat.reduceEqDiff,Nat.reduceLT,dec_F,not_true_eq_false, *,argF,List.getD_cons_zero,List.getD_cons_succ,lenIs]
  refine sxL_of (fun m ρ H1 => ∃ k:Nat,m = w.length - k ∧ k ≤ w.length ∧ H1 = H ∧ ρ 0 = .slice a1 w.length c1 ∧ ρ 1 = .slice a2 w.length c2 ∧ ρ 5 = .int .i64 (k:Int))
    ⟨0,rfl,Nat.zero_le _,rfl,rfl,rfl,rfl⟩ ?_
  rintro m ρ H1 ⟨k,rfl,hk,rfl,e0,e1,e5⟩
  by_cases hlt:k < w.length
  · have hlt':(k:Int) < (w.length:Int):=by omega
    have hw:=wrap_succ hlt h1.ml;have hob:=SlI_at h1 hlt;obtain ⟨p1,q1⟩:=hob;have hob:=SlI_at h2 hlt;obtain ⟨p2,q2⟩:=hob;have d1:decide (¬ w.getD k 0 = w.getD k 0) = false:=decide_eq_false fun h => h rfl
    clear h1 h2 d0
    repeat' (first | simp only [↓Zaca,↓Zabv,↓Zabx,↓Zabz,↓Zaai,↓Zabu,↓Zabw,↓Zaby,↓Zacw,↓Zacv,↓Zaco,↓Zaak,↓Zacj,↓Zaci,↓Zace,↓Zach,↓Zacn,↓Zadb,↓Zaau,↓Zaam,↓Zaat,↓Zaan,↓Zaar,↓Zaas,↓bxPut,↓Zabs,↓Zabr,↓Zabt,↓Zaag,↓Zaah,↓Zaaf,↓Zabk,↓Zabj,↓Zabl,↓Zabq,↓Zacz,↓Zada,↓Zadc,↓Zabg,↓Zabe,Zacx,Zaae,Zabi,Zacu,Zact,Zabm,↓reduceIte,Nat.reduceEqDiff,Nat.reduceLT,dec_T,dec_F,true_and,Zaab,one1,Option.bind_some,not_true_eq_false, *,lenIs,ldC,one1] | (with_reducible first | refine Zacd (by assumption) (by decide +kernel) ?_ | refine Zacc (by decide +kernel) ?_ | refine Zacm (by decide +kernel) ?_ | refine Zacf ?_))
    exact ⟨w.length - (k + 1),by omega,k + 1,rfl,by omega,rfl⟩
  · have hke:k = w.length:=by omega
    subst hke;have hlt':¬ (((w.length:Nat):Int) < ((w.length:Nat):Int)):=by omega
    clear h1 h2 d0
    repeat' (first | simp only [↓Zaca,↓Zabv,↓Zabx,↓Zabz,↓Zaai,↓Zabu,↓Zabw,↓Zaby,↓Zacw,↓Zacv,↓Zaco,↓Zaak,↓Zacj,↓Zaci,↓Zace,↓Zach,↓Zadb,↓Zaau,↓Zaam,↓Zaat,↓Zaan,↓Zaar,↓Zaas,↓bxPut,↓Zabs,↓Zabr,↓Zabt,↓Zaag,↓Zaah,↓Zaaf,↓Zabk,↓Zabj,↓Zabl,↓Zabq,↓Zacz,↓Zada,↓Zadc,↓Zabg,↓Zabe,Zacx,Zaae,Zabi,Zact,Zabm,↓reduceIte,Nat.reduceEqDiff,Nat.reduceLT,dec_F,and_self, *,lenIs] | (with_reducible first | refine Zacd (by assumption) (by decide +kernel) ?_ | refine Zacc (by decide +kernel) ?_ | refine Zacm (by decide +kernel) ?_ | refine Zacf ?_))
theorem legsEq_runs (w:List Lg) (v v2:Value) (r o r2 o2:Nat) (H:Heap) (hL:H.low ≤ H.size) (h1:SlG H v w r o) (h2:SlG H v2 w r2 o2):Runs Try.prog S (.fn 15) [v,v2] H (.bool true) H:=by
  suffices h:WCall Try.prog S (.fn 15) [v,v2] H (fun u H' => u = .bool true ∧ H' = H) by
    obtain ⟨_,_,hr,rfl,rfl⟩:=h; exact hr
  obtain ⟨a,c,rfl⟩:=h1.v0;obtain ⟨a2,c2,rfl⟩:=h2.v0;have d0:decide (¬ ((w.length:Nat):Int) = ((w.length:Nat):Int)) = false:=decide_eq_false fun h => h rfl
  refine Zaba Try.func15 rfl (Nat.le_of_ble_eq_true rfl) (hS.no rfl _ _) ?_
  rw [Try.ntmps15,Try.results15]
  repeat' simp only [↓Zaca,↓Zabx,↓Zabz,↓Zaai,↓Zaaj,↓Zabu,↓Zaby,↓Zacw,↓Zacv,↓Zadb,↓Zaau,↓Zaam,↓Zaan,↓Zaas,↓bxPut,↓Zabs,↓Zabt,↓Zabq,↓Zacz,↓Zada,↓Zadc,↓Zabg,↓Zabe,Zacx,Zaae,Zabi,Zact,Zabm,↓reduceIte,Nat.reduceEqDiff,Nat.reduceLT,dec_F,not_true_eq_false, *,argF,List.getD_cons_zero,List.getD_cons_succ,lenG]
  refine sxL_of (fun m ρ H1 => ∃ k:Nat,m = w.length - k ∧ k ≤ w.length ∧ H1 = H ∧ ρ 0 = .slice a w.length c ∧ ρ 1 = .slice a2 w.length c2 ∧ ρ 5 = .int .i64 (k:Int))
    ⟨0,rfl,Nat.zero_le _,rfl,rfl,rfl,rfl⟩ ?_
  rintro m ρ H1 ⟨k,rfl,hk,rfl,e0,e1,e5⟩
  by_cases hlt:k < w.length
  · have hlt':(k:Int) < (w.length:Int):=by omega
    have hw:=wrap_succ hlt h1.ml;have hob:=SlG_at h1 hlt;obtain ⟨q,hix,hrd,_⟩:=hob;have hob2:=SlG_at h2 hlt;obtain ⟨q2,hix2,hrd2,_⟩:=hob2;have hne:=neG (w.getD k default);clear h1 h2 d0
    repeat' (first | simp only [↓Zaca,↓Zabv,↓Zabx,↓Zabz,↓Zaai,↓Zabu,↓Zabw,↓Zaby,↓Zacw,↓Zacv,↓Zaco,↓Zaak,↓Zacj,↓Zaci,↓Zace,↓Zach,↓Zacn,↓Zadb,↓Zaau,↓Zaam,↓Zaat,↓Zaan,↓Zaar,↓Zaas,↓bxPut,↓Zabs,↓Zabr,↓Zabt,↓Zaag,↓Zaah,↓Zaaf,↓Zabk,↓Zabj,↓Zabl,↓Zabq,↓Zacz,↓Zada,↓Zadc,↓Zabg,↓Zabe,Zacx,Zaae,Zabi,Zacu,Zact,Zabm,↓reduceIte,Nat.reduceEqDiff,Nat.reduceLT,dec_T,true_and,Zaab,Option.map_some, *,lenG,ldG] | (with_reducible first | refine Zacd (by assumption) (by decide +kernel) ?_ | refine Zacc (by decide +kernel) ?_ | refine Zacm (by decide +kernel) ?_ | refine Zacf ?_))
    exact ⟨w.length - (k + 1),by omega,k + 1,rfl,by omega,rfl⟩
  · have hke:k = w.length:=by omega
    subst hke;have hlt':¬ (((w.length:Nat):Int) < ((w.length:Nat):Int)):=by omega
    clear h1 h2 d0
    repeat' (first | simp only [↓Zaca,↓Zabv,↓Zabx,↓Zabz,↓Zaai,↓Zabu,↓Zabw,↓Zaby,↓Zacw,↓Zacv,↓Zaco,↓Zaak,↓Zacj,↓Zaci,↓Zace,↓Zach,↓Zadb,↓Zaau,↓Zaam,↓Zaat,↓Zaan,↓Zaar,↓Zaas,↓bxPut,↓Zabs,↓Zabr,↓Zabt,↓Zaag,↓Zaah,↓Zaaf,↓Zabk,↓Zabj,↓Zabl,↓Zabq,↓Zacz,↓Zada,↓Zadc,↓Zabg,↓Zabe,Zacx,Zaae,Zabi,Zact,Zabm,↓reduceIte,Nat.reduceEqDiff,Nat.reduceLT,dec_F,and_self, *,lenG] | (with_reducible first | refine Zacd (by assumption) (by decide +kernel) ?_ | refine Zacc (by decide +kernel) ?_ | refine Zacm (by decide +kernel) ?_ | refine Zacf ?_))
end Go.Proofs.Yteechkbnccpicaa

namespace Go.Proofs.Yteechkbnccpicaa
open Go Go.AM
set_option maxRecDepth 10000

theorem elemOkG:ElemOk Try.prog #[22,22] 61 legE.sz:=⟨⟨22,22,_,Try.t61,.agg ⟨[.int .i64 0,.int .i64 0,.int .i64 0,.int .i64 0,.int .i64 0]⟩,rfl,rfl,Try.underlying22,Try.underlying22,rfl,by kernel_rfl,by kernel_rfl,by kernel_rfl,by kernel_rfl,of_decide_eq_true (by kernel_rfl)⟩,by show 0 < 5; decide⟩
theorem bs0G (H:Heap):aBuildSlice Try.prog H 22 0 [] = some (.slice (some ⟨H.size,0,none⟩) 0 0,H.newExact [] 61):=by kernel_rfl
theorem jE_sl {X:Heap} {js:List Nat} {v:Value} (h:jE.At X js [v]):∃ r o,SlI .i64 X v (castL js) r o:=by
  obtain ⟨⟨v',r,o,e,hs⟩,_⟩:=h;cases e; exact ⟨r,o,hs⟩

variable {S:AM.Sys} (hS:Only S 11)
include hS

set_option maxHeartbeats 8000000 in
theorem lawEarl_runs (n:Int) (ls:List Lg) (lv:Value) (r o:Nat) (ch fr to at':Int) (H:Heap) (hL:H.low ≤ H.size) (hg:Grp H) (hl:SlG H lv ls r o) (hp0:Plain0 lv) (hat:R64 at') (hO:∀ H',S.O 11 [] H') :
    ∃ H',Runs Try.prog S (.fn 3) [.int .i64 n,lv,.int .i64 ch,.int .i64 fr,.int .i64 to,.int .i64 at'] H (.bool true) H':=by
  suffices h:WCall Try.prog S (.fn 3) [.int .i64 n,lv,.int .i64 ch,.int .i64 fr,.int .i64 to,.int .i64 at'] H (fun v H' => v = .bool true) by
    obtain ⟨_,H',hr,rfl⟩:=h; exact ⟨H',hr⟩
  have hk1:∀ (H':Heap) (K:Value → Heap → Prop) (b:Blk K),sxCallB Try.prog S (.fn 11) [] H' K b = K (.bool true) H':=fun H' K b => known_bx (hO H')
  have hlv:=hl.v0;obtain ⟨a,c,rfl⟩:=hlv;have f0:=(few_runs hS a ls.length c H).bx
  by_cases h80:(ls.length:Int) ≤ 80
  case neg =>
    rw [decide_eq_false h80] at f0;clear hl h80 hp0;refine Zaba Try.func3 rfl (Nat.le_of_ble_eq_true rfl) (hS.no rfl _ _) ?_
    rw [Try.ntmps3,Try.results3]
    repeat' simp only [↓Zaca,↓Zabx,↓Zabz,↓Zaai,↓Zaaj,↓Zabu,↓Zaby,↓Zacw,↓Zacv,↓Zadb,↓Zaaz,↓Zaau,↓Zaam,↓Zaav,↓Zaao,↓Zaax,↓Zaap,↓Zaay,↓bxOp_append,↓bxPut,↓Zabs,↓Zabt,↓Zabq,↓Zacz,↓Zada,↓Zadc,↓Zabg,↓Zabe,↓Zabf,↓dstAt,↓Zabh,Zacx,una_nf,Zacb,Zacu,Zabm,List.map,List.nil_append,List.append_nil,↓reduceIte,Nat.reduceEqDiff,Nat.reduceLT, *,argF,List.getD_cons_zero,List.getD_cons_succ]
  rw [decide_eq_true h80] at f0;have ey0:∀ x y z:Value,aExtract (.tuple ⟨[x,y,z]⟩) 0 = some x:=fun x y z => by kernel_rfl
  have ey1:∀ x y z:Value,aExtract (.tuple ⟨[x,y,z]⟩) 1 = some y:=fun x y z => by kernel_rfl
  have ey2:∀ x y z:Value,aExtract (.tuple ⟨[x,y,z]⟩) 2 = some z:=fun x y z => by kernel_rfl
  have bs0:=bs0G H;have k1:=Keep.newExact H [] 61;have o1:=Own.new H [] 61;have hob:=(hl.keep k1).first (by decide) hp0
  obtain ⟨cells,n1,n2,n3⟩:=hob;have hob:=Own.put0 (P:=Try.prog) (ts:=#[22,22]) (E:=legE) (L:=H.size) elemOkG (k1.grp hg) o1 (Nat.le_refl _) k1.size n3 n2 rfl n1 (by omega)
  obtain ⟨v2,H2,ap2,lo2,_,k2⟩:=hob;have hob:=lo2.sl (by have:Go.maxLen = 9223372036854775807:=rfl; omega)
  obtain ⟨r2,sg2,_⟩:=hob;have sg2:SlG H2 v2 ls r2 0:=sg2;have hlv:=sg2.v0;obtain ⟨a2,c2,rfl⟩:=hlv;have k02:=k1.trans k2;have hL2:=k02.low hL;have hg2:=k02.grp hg;have hob:=rEarl_runs hS n ls _ r o ch fr to at' hat H2 hL2 hg2 (hl.keep k02);obtain ⟨u3,H3,hR3,b3,f3,yv,ks,rfl,k3,aty,hb1,hb2,hb3⟩:=hob;have fr3:=hR3.bx;have hL3:=k3.low hL2;have hg3:=k3.grp hg2;have hl3:=(hl.keep k02).keep k3;have sg3:=sg2.keep k3;have hge:∃ e0,errC n ls ch fr to [at'] = e0:=⟨_,rfl⟩;obtain ⟨e0,he0⟩:=hge;rw [he0] at hb1 hb2 hb3;clear hR3 k1 o1 n1 n2 n3 lo2 k2 k02 hL2 hg2 sg2 hl k3 hp0 h80;refine Zaba Try.func3 rfl (Nat.le_of_ble_eq_true rfl) (hS.no rfl _ _) ?_
  rw [Try.ntmps3,Try.results3]
  repeat' simp only [↓Zaca,↓Zabx,↓Zabz,↓Zaai,↓Zaaj,↓Zabu,↓Zaby,↓Zacw,↓Zacv,↓Zadb,↓Zaaz,↓Zaau,↓Zaam,↓Zaav,↓Zaao,↓Zaax,↓Zaap,↓Zaay,↓bxOp_append,↓bxPut,↓Zabs,↓Zabt,↓Zabq,↓Zacz,↓Zada,↓Zadc,↓Zabg,↓Zabe,↓Zabf,↓dstAt,↓Zabh,Zacx,una_nt,Zacb,Zact,Zabm,List.map,List.nil_append,List.append_nil,↓reduceIte,Nat.reduceEqDiff,Nat.reduceLT, *,argF,List.getD_cons_zero,List.getD_cons_succ]
  clear f0 fr3 ap2 bs0;refine sxL_of (fun m ρ X => ∃ k:Nat,m = 2 - k ∧ k ≤ 2 ∧ Keep H3 X ∧ ρ 0 = .int .i64 n ∧ ρ 1 = .slice a ls.length c ∧ ρ 2 = .int .i64 ch ∧ ρ 3 = .int .i64 fr ∧ ρ 4 = .int .i64 to ∧ ρ 5 = .int .i64 at' ∧ ρ 13 = .slice a2 ls.length c2 ∧ ρ 14 = .int .i64 b3 ∧ ρ 15 = yv ∧ ρ 16 = .int .i64 f3 ∧ ρ 17 = .int .i64 (k:Int))
    ⟨0,rfl,Nat.zero_le _,Keep.refl _,rfl,rfl,rfl,rfl,rfl,rfl,rfl,rfl,rfl,rfl,rfl⟩ ?_
  rintro m ρ X ⟨k,rfl,hk,kX,e0',e1,e2,e3,e4,e5,e13,e14,e15,e16,e17⟩
  by_cases hk2:k < 2
  case neg =>
    have hk2':¬ (k:Int) < 2:=by omega
    have fE:=(legsEq_runs hS ls _ _ _ _ _ _ X (kX.low hL3) (sg3.keep kX) (hl3.keep kX)).bx;clear hl3 sg3 hb1 hb2 hb3 aty kX hk hk2
    repeat' simp only [↓Zaca,↓Zabx,↓Zabz,↓Zaai,↓Zaaj,↓Zabu,↓Zabw,↓Zaby,↓Zacw,↓Zacv,↓Zadb,↓Zaaz,↓Zaau,↓Zaam,↓Zaav,↓Zaan,↓Zaax,↓Zaap,↓Zaay,↓bxPut,↓Zabs,↓Zabr,↓Zabt,↓Zaah,↓Zaaf,↓Zabk,↓Zabj,↓Zabl,↓Zabq,↓Zacz,↓Zada,↓Zadc,↓Zabg,↓Zabe,↓Zabf,↓dstAt,↓Zabh,Zacx,Zaae,Zabi,Zaad,Zacb,Zacs,Zact,Zabm,List.map,List.nil_append,List.append_nil,↓reduceIte,Nat.reduceEqDiff,Nat.reduceLT,dec_F, *]
  have hk2':(k:Int) < 2:=by omega
  have hob:=Earl_runs hS n ls _ _ _ ch fr to at' hat X (kX.low hL3) (kX.grp hg3) (sg3.keep kX);obtain ⟨u4,X2,hR4,a4,f4,xv,js,rfl,kX2,hj0,hj1,ha1,ha2,ha3⟩:=hob;rw [he0] at ha1 ha2 ha3;have hQ:a4 = b3 ∧ f4 = f3 ∧ js = ks:=by
    by_cases h0:e0 = 0
    · by_cases hft:fr = to
      · obtain ⟨g1,g2,g3⟩:=ha2 h0 hft;obtain ⟨g4,g5,g6⟩:=hb2 h0 hft;exact ⟨g1.trans g4.symm,g2.trans g5.symm,g3.trans g6.symm⟩
      · exact (ha3 h0 hft).eq (hb3 h0 hft)
    · obtain ⟨g1,g2,g3⟩:=ha1 h0;obtain ⟨g4,g5,g6⟩:=hb1 h0;exact ⟨g1.trans g4.symm,g2.trans g5.symm,g3.trans g6.symm⟩
  obtain ⟨rfl,rfl,rfl⟩:=hQ;have hob:=jE_sl (jE.keep (kX.trans kX2) aty);obtain ⟨ry,oy,sy⟩:=hob;have hsx:∃ rx,SlI .i64 X2 xv (castL js) rx 0:=by
    by_cases hz:js = []
    · subst hz; rw [hj0 rfl]; exact ⟨0,nilI X2⟩
    · have hjm:js.length ≤ 100000 ∧ ∀ j ∈ js,j ≤ 1000:=by
        by_cases h0:e0 = 0
        · by_cases hft:fr = to
          · exact absurd (ha2 h0 hft).2.2 hz
          · rw [h0] at he0;obtain ⟨q1,q2,q3,q4⟩:=errC_zero he0;rcases ha3 h0 hft with ⟨_,_,h,_⟩ | ⟨_,i,s,rfl,hs,_⟩
            · exact absurd h hz
            · have hlk:=LOk.of q2 q3;have:=hs.is.len hlk;exact ⟨by simp; omega,fun j hj => by have:=hs.is.mem_lt j hj; omega⟩
        · exact absurd (ha1 h0).2.2 hz
      exact (hj1 hz).sl hjm.1 hjm.2
  obtain ⟨rx,sx⟩:=hsx;have hE:=same_runs hS xv yv (castL js) rx 0 ry oy X2 ((kX.trans kX2).low hL3) sx sy;have hob:=PKJ.of kX2 (kX.grp hg3) hj0 hj1;obtain ⟨ax,cx,rfl,hpk⟩:=hob;have f5:=hR4.bx;have f6:=hE.bx;have dd:decide (¬ a4 = a4) = false:=decide_eq_false fun h => h rfl
  have dd2:decide (¬ f4 = f4) = false:=decide_eq_false fun h => h rfl
  have hmn:js.length ≤ 9223372036854775807:=by have h:=sx.ml; rw [castL_len] at h; exact h
  clear hR4 hE ha1 ha2 ha3 hj0 hj1 sx sy kX2
  repeat' simp only [↓Zaca,↓Zabx,↓Zabz,↓Zaai,↓Zaaj,↓Zabu,↓Zabw,↓Zaby,↓Zacw,↓Zacv,↓Zadb,↓Zaaz,↓Zaau,↓Zaam,↓Zaav,↓Zaan,↓Zaax,↓Zaap,↓Zaay,↓bxPut,↓Zabs,↓Zabr,↓Zabt,↓Zaah,↓Zaaf,↓Zabk,↓Zabj,↓Zabl,↓Zabq,↓Zacz,↓Zada,↓Zadc,↓Zabg,↓Zabe,↓Zabf,↓dstAt,↓Zabh,Zacx,Zaae,Zabi,una_nt,Zaac,Zacb,Zacp,Zacu,Zact,Zabm,List.map,List.nil_append,List.append_nil,↓reduceIte,Nat.reduceEqDiff,Nat.reduceLT,dec_T,dec_F,not_true_eq_false, *]
  clear f5 f6;refine sxL_of (fun m ρ Z => ∃ i:Nat,m = js.length - i ∧ i ≤ js.length ∧ PKJ X Z ax js.length ∧ ρ 0 = .int .i64 n ∧ ρ 1 = .slice a ls.length c ∧ ρ 2 = .int .i64 ch ∧ ρ 3 = .int .i64 fr ∧ ρ 4 = .int .i64 to ∧ ρ 5 = .int .i64 at' ∧ ρ 13 = .slice a2 ls.length c2 ∧ ρ 14 = .int .i64 a4 ∧ ρ 15 = yv ∧ ρ 16 = .int .i64 f4 ∧ ρ 17 = .int .i64 (k:Int) ∧ ρ 19 = .slice ax js.length cx ∧ ρ 21 = .int .i64 (i:Int))
    ⟨0,rfl,Nat.zero_le _,hpk,e0',e1,e2,e3,e4,e5,e13,e14,e15,e16,e17,rfl,rfl⟩ ?_
  clear e0' e1 e2 e3 e4 e5 e13 e14 e15 e16 e17 hpk ρ;rintro m ρ Z ⟨i,rfl,hi,hpk,e0',e1,e2,e3,e4,e5,e13,e14,e15,e16,e17,e19,e21⟩
  by_cases hil:i < js.length
  case neg =>
    have hil':¬ (i:Int) < (js.length:Int):=by omega
    have kZ:=kX.trans hpk.keep;have hwk:IntKind.i64.wrap ((k:Int) + 1) = ((k + 1:Nat):Int):=IntWalk.i64_in _ (by omega)
    clear hl3 sg3 hb1 hb2 hb3 aty kX hpk hi hil
    repeat' simp only [↓Zaca,↓Zabx,↓Zabz,↓Zaai,↓Zabu,↓Zabw,↓Zacw,↓Zacv,↓Zadb,↓Zaau,↓Zaam,↓Zaaw,↓Zaan,↓Zaar,↓Zaas,↓Zacy,↓bxPut,↓Zabs,↓Zabr,↓Zaag,↓Zaaf,↓Zabk,↓Zabj,↓Zadc,↓Zabg,↓Zabe,Zacx,Zaae,Zabi,Zact,↓reduceIte,Nat.reduceEqDiff,Nat.reduceLT,dec_F,true_and, *,lenIs]
    exact ⟨2 - (k + 1),by omega,k + 1,rfl,by omega,rfl⟩
  have hil':(i:Int) < (js.length:Int):=by omega
  have hwi:IntKind.i64.wrap ((i:Int) + 1) = ((i + 1:Nat):Int):=IntWalk.i64_in _ (by omega)
  have hob:=hpk.set hil;obtain ⟨r8,Z2,rfl,st8,hpk2⟩:=hob;have ix8:=ixAtI (r:=r8) (c:=cx) hil;clear hl3 sg3 hb1 hb2 hb3 aty kX hpk
  repeat' simp only [↓Zaca,↓Zabx,↓Zabz,↓Zaai,↓Zabu,↓Zabw,↓Zacw,↓Zacv,↓Zadb,↓Zaau,↓Zaam,↓Zaaw,↓Zaan,↓Zaar,↓Zaas,↓Zacy,↓bxPut,↓Zabs,↓Zabr,↓Zaag,↓Zaaf,↓Zabk,↓Zabj,↓Zadc,↓Zabg,↓Zabe,Zacx,Zaae,Zabi,Zacu,↓reduceIte,Nat.reduceEqDiff,Nat.reduceLT,dec_T,true_and, *,lenIs]
  exact ⟨js.length - (i + 1),by omega,i + 1,rfl,by omega,rfl⟩
end Go.Proofs.Yteechkbnccpicaa
