/- The best trips, by the reference. -/
import Derived.Test.YteechkbnccpicaaQV
import Derived.Test.YteechkbnccpicaaR3
import Derived.Test.YteechkbnccpicaaR7
set_option linter.unusedVariables false
set_option linter.unusedSimpArgs false
set_option linter.unusedSectionVars false

namespace Go.Proofs.Yteechkbnccpicaa
open Go Go.AM
set_option maxRecDepth 10000

structure ParU (T:Int → Int → Prop) (k:Nat) (l:List Pt):Prop where
  asc:l.Pairwise fun p q => p.1 < q.1 ∧ q.2 < p.2
  src:∀ p ∈ l,T p.1 p.2 ∧ p.1 < (k:Int)
  cov:∀ x y,x < (k:Int) → T x y → ∃ p ∈ l,p.1 ≤ x ∧ p.2 ≤ y
theorem ParU.nil {T:Int → Int → Prop} (h0:∀ x y,T x y → 0 ≤ x):ParU T 0 []:=⟨.nil,(fun p hp => by cases hp),fun x y hx hT => by have:=h0 x y hT; omega⟩
theorem ParU.no {T:Int → Int → Prop} {k:Nat} {l:List Pt} (h:ParU T k l) (hn:∀ y,T (k:Int) y → ∃ p ∈ l,p.2 ≤ y):ParU T (k + 1) l:=by
  refine ⟨h.asc,fun p hp => ⟨(h.src p hp).1,by have:=(h.src p hp).2; omega⟩,fun x y hx hT => ?_⟩
  rcases Int.lt_or_le x (k:Int) with hlt | hge
  · exact h.cov x y hlt hT
  · have:x = (k:Int):=by omega
    subst this;obtain ⟨p,p1,p2⟩:=hn y hT;exact ⟨p,p1,by have:=(h.src p p1).2; omega,p2⟩
theorem asc_last {l:List Pt} (h:l.Pairwise fun p q => p.1 < q.1 ∧ q.2 < p.2) (h0:0 < l.length) {p:Pt} (hp:p ∈ l):(l.getD (l.length - 1) default).2 ≤ p.2:=by
  obtain ⟨i,hi,rfl⟩:=List.getElem_of_mem hp;rw [List.getD_eq_getElem?_getD,List.getElem?_eq_getElem (show l.length - 1 < l.length by omega)]
  rcases Nat.lt_or_ge i (l.length - 1) with hlt | hge
  · exact Int.le_of_lt (List.pairwise_iff_getElem.1 h i (l.length - 1) hi (by omega) hlt).2
  · have:i = l.length - 1:=by omega
    subst this; exact Int.le_refl _
theorem ParU.yes {T:Int → Int → Prop} {k:Nat} {l:List Pt} (h:ParU T k l) {z:Int} (hT:T (k:Int) z) (hm:∀ y,T (k:Int) y → z ≤ y) (hl:0 < l.length → z < (l.getD (l.length - 1) default).2):ParU T (k + 1) (l ++ [((k:Int),z)]):=by
  refine ⟨List.pairwise_append.2 ⟨h.asc,List.pairwise_singleton _ _,fun p hp q hq => ?_⟩,fun p hp => ?_,fun x y hx hTx => ?_⟩
  · cases List.mem_singleton.1 hq;have h1:=(h.src p hp).2;have h0:0 < l.length:=List.length_pos_of_mem hp;have h2:=hl h0;have h3:=asc_last h.asc h0 hp;exact ⟨h1,by show z < p.2; omega⟩
  · rcases List.mem_append.1 hp with hp | hp
    · have:=h.src p hp; exact ⟨this.1,by omega⟩
    · cases List.mem_singleton.1 hp;exact ⟨hT,by show (k:Int) < _; omega⟩
  · rcases Int.lt_or_le x (k:Int) with hlt | hge
    · obtain ⟨p,p1,p2⟩:=h.cov x y hlt hTx;exact ⟨p,List.mem_append.2 (.inl p1),p2⟩
    · have:x = (k:Int):=by omega
      subst this;exact ⟨_,List.mem_append.2 (.inr (List.mem_singleton.2 rfl)),Int.le_refl _,hm y hTx⟩
def ArI (ls:List Lg) (In:Nat → Prop) (j:Nat) (z:Int):Prop:=(z = -1 ∧ ∀ i,i < j → ¬ In i) ∨ ∃ i,i < j ∧ In i ∧ z = (ls.getD i default).a ∧ ∀ i',i' < j → In i' → z ≤ (ls.getD i' default).a
theorem ArI.skip {ls:List Lg} {In:Nat → Prop} {j:Nat} {z:Int} (h:ArI ls In j z) (hn:¬ In j):ArI ls In (j + 1) z:=by
  rcases h with ⟨h1,h2⟩ | ⟨i,h1,h2,h3,h4⟩
  · exact .inl ⟨h1,fun i hi => by
      rcases Nat.lt_or_ge i j with h | h
      · exact h2 i h
      · rw [show i = j by omega]; exact hn⟩
  · exact .inr ⟨i,by omega,h2,h3,fun i' hi hx => by
      rcases Nat.lt_or_ge i' j with h | h
      · exact h4 i' h hx
      · rw [show i' = j by omega] at hx; exact absurd hx hn⟩
theorem ArI.stay {ls:List Lg} {In:Nat → Prop} {j:Nat} {z:Int} (h:ArI ls In j z) (hz:¬ z < 0) (hn:¬ (ls.getD j default).a < z):ArI ls In (j + 1) z:=by
  rcases h with ⟨h1,h2⟩ | ⟨i,h1,h2,h3,h4⟩
  · omega
  · exact .inr ⟨i,by omega,h2,h3,fun i' hi hx => by
      rcases Nat.lt_or_ge i' j with h | h
      · exact h4 i' h hx
      · rw [show i' = j by omega]; omega⟩
theorem ArI.take {ls:List Lg} {In:Nat → Prop} {j:Nat} {z:Int} (h:ArI ls In j z) (hi:In j) (hz:z < 0 ∨ (ls.getD j default).a < z) (h0:∀ i,In i → 0 ≤ (ls.getD i default).a):ArI ls In (j + 1) (ls.getD j default).a:=by
  refine .inr ⟨j,by omega,hi,rfl,fun i' hi' hx => ?_⟩
  rcases Nat.lt_or_ge i' j with hlt | hge
  · rcases h with ⟨h1,h2⟩ | ⟨i,h1,h2,h3,h4⟩
    · exact absurd hx (h2 i' hlt)
    · have:=h4 i' hlt hx;have:=h0 i h2;omega
  · rw [show i' = j by omega]; exact Int.le_refl _
def PostRp (ls:List Lg) (ch fr to at' e0:Int) (H:Heap) (u:Value) (H':Heap):Prop:=
  ∃ (v:Value) (l:List Pt) (e:Int),u = .tuple ⟨[v,.int .i64 e]⟩ ∧ Keep H H' ∧ TrV H' v l ∧ (e0 ≠ 0 → e = e0 ∧ l = []) ∧ (e0 = 0 → fr = to → e = 0 ∧ l = [(0,at')]) ∧ (e0 = 0 → fr ≠ to → ParU (TP ls ch (BegB fr at') (EndsB to 10000)) (ls.length + 1) l ∧ (l = [] → e = 10) ∧ (l ≠ [] → e = 0))
theorem ParU.len {T:Int → Int → Prop} {k:Nat} {l:List Pt} (h:ParU T k l) (h0:∀ x y,T x y → 0 ≤ x):l.length ≤ k:=by
  suffices hs:∀ (l:List Pt) (m:Int),l.Pairwise (fun p q => p.1 < q.1 ∧ q.2 < p.2) → (∀ p ∈ l,m ≤ p.1 ∧ p.1 < (k:Int)) → m ≤ (k:Int) → (l.length:Int) ≤ k - m by
    have:=hs l 0 h.asc (fun p hp => ⟨h0 _ _ (h.src p hp).1,(h.src p hp).2⟩) (by omega)
    omega
  intro l
  induction l with
  | nil => intro m _ _ hm; simp; omega
  | cons p l ih =>
    intro m hp hr hm;obtain ⟨h1,h2⟩:=List.pairwise_cons.1 hp;have hp1:=hr p (List.mem_cons_self ..);have:=ih (p.1 + 1) h2 (fun q hq => ⟨by have:=(h1 q hq).1; omega,(hr q (List.mem_cons_of_mem _ hq)).2⟩) (by omega)
    rw [List.length_cons]; omega

variable {S:AM.Sys} (hS:Only S 11)
include hS

set_option maxHeartbeats 8000000 in
theorem rTrips_runs (n:Int) (ls:List Lg) (lv:Value) (r o:Nat) (ch fr to at':Int) (hat:R64 at') (H:Heap) (hL:H.low ≤ H.size) (hg:Grp H) (hl:SlG H lv ls r o) :
    ∃ u H',Runs Try.prog S (.fn 28) [.int .i64 n,lv,.int .i64 ch,.int .i64 fr,.int .i64 to,.int .i64 at'] H u H' ∧ PostRp ls ch fr to at' (errC n ls ch fr to [at']) H u H':=by
  suffices h:WCall Try.prog S (.fn 28) [.int .i64 n,lv,.int .i64 ch,.int .i64 fr,.int .i64 to,.int .i64 at'] H (fun u H' => PostRp ls ch fr to at' (errC n ls ch fr to [at']) H u H') by
    obtain ⟨u,H',hr,h⟩:=h; exact ⟨u,H',hr,h⟩
  obtain ⟨a,c,rfl⟩:=hl.v0;have k1:=Keep.newExact H [.int .i64 at'] 3;have s1:=one_sl H at' hat;have b1:=bsI H at';obtain ⟨H1,hH1⟩:∃ H1,H1 = H.newExact [.int .i64 at'] 3:=⟨_,rfl⟩;rw [← hH1] at k1 s1 b1;obtain ⟨H2,k2,hR⟩:=good_runs hS n ls (.slice a ls.length c) r o ch fr to [at'] _ H.size 0 H1 (hl.keep k1) s1;have f1:=hR.bx;rw [show [at'].length = 1 from rfl] at f1
  have hK2:=k1.trans k2;obtain ⟨e,he⟩:∃ e,e = errC n ls ch fr to [at']:=⟨_,rfl⟩;rw [← he] at f1 ⊢;clear hH1 hR s1;refine Zabc Try.func28 rfl (Nat.le_of_ble_eq_true rfl) (hS.no rfl _ _) ?_
  rw [Try.ntmps28,Try.results28]
  by_cases h0:e = 0
  case neg =>
    have hp:PostRp ls ch fr to at' e H (.tuple ⟨[.slice none 0 0,.int .i64 e]⟩) H2:=⟨_,[],e,rfl,hK2,TrV.nil _,fun _ => ⟨rfl,rfl⟩,fun h => absurd h h0,fun h => absurd h h0⟩
    have d0:decide (¬ e = 0) = true:=decide_eq_true h0;clear hK2 k1 k2 hl he
    repeat' (first | simp only [↓Zacc,↓Zabz,↓Zacb,↓Zaai,↓Zaaj,↓Zabw,↓Zaca,↓Zacy,↓Zacx,↓Zadd,↓Zaaw,↓Zaan,↓Zaap,↓Zaaq,↓Zaao,↓Zaba,↓Zaau,↓bxPut,↓Zabu,↓Zabv,↓Zabs,↓Zadb,↓Zadc,↓Zade,↓Zabi,↓Zabg,↓Zabh,Zacz,Zaae,Zabk,Zacd,Zacw,Zabp,List.map_cons,List.map_nil,List.nil_append,List.append_nil,↓reduceIte,Nat.reduceEqDiff,Nat.reduceLT,dec_T,not_false_eq_true, *,argF,List.getD_cons_zero,List.getD_cons_succ,Zabp])
  subst h0;have d0:decide (¬ (0:Int) = 0) = false:=rfl;obtain ⟨q1,q2,q3,q4⟩:=errC_zero he.symm;have hlk:=LOk.of q2 q3
  by_cases hft:fr = to
  · have bd:=bdTr 0 at';have bs:=bs1T H2 0 at';have hp:PostRp ls ch fr to at' 0 H (.tuple ⟨[.slice (some ⟨H2.size,0,none⟩) 1 1,.int .i64 0]⟩) (H2.newExact [.int .i64 0,.int .i64 at'] 50):=⟨_,[(0,at')],0,rfl,hK2.trans (Keep.newExact _ _ _),TrV.one H2 0 at' ⟨by decide,by decide⟩ hat,fun h => absurd rfl h,fun _ _ => ⟨rfl,rfl⟩,fun _ h => absurd hft h⟩
    have d1:decide (fr = to) = true:=decide_eq_true hft;obtain ⟨H3,hH3⟩:∃ H3,H3 = H2.newExact [.int .i64 0,.int .i64 at'] 50:=⟨_,rfl⟩;rw [← hH3] at bs hp;clear hK2 k1 k2 hl he hft hH3
    repeat' (first | simp only [↓Zacc,↓Zabz,↓Zacb,↓Zaai,↓Zaaj,↓Zabw,↓Zaca,↓Zacy,↓Zacx,↓Zadd,↓Zaaw,↓Zaan,↓Zaap,↓Zaaq,↓Zaao,↓Zaba,↓Zaau,↓bxPut,↓Zabu,↓Zabv,↓Zabs,↓Zadb,↓Zadc,↓Zade,↓Zabi,↓Zabg,↓Zabh,Zacz,Zaae,Zabk,Zacd,Zacw,Zacv,Zabp,List.map_cons,List.map_nil,List.nil_append,List.append_nil,↓reduceIte,Nat.reduceEqDiff,Nat.reduceLT,dec_F,not_true_eq_false, *,argF,List.getD_cons_zero,List.getD_cons_succ,Zabp])
  have d1:decide (fr = to) = false:=decide_eq_false hft;have l2:=hl.keep hK2;have hfit:∀ i,i < ls.length → Fit ch (ls.getD i default):=fun i hi => by
    have h:LegOk n (ls.getD i default):=q2 _ (getD_mem hi);have h4:=h.2.2.2.1;have h5:=h.2.2.2.2.1;have h6:=h.2.2.2.2.2.1;exact ⟨by omega,by omega⟩
  obtain ⟨H3,w0,R3,k3,o3,hw0,hB⟩:=rLeaving_runs hS ls _ r o fr at' H2 l2 q1;have f3:=R3.bx;obtain ⟨u4,H4,R4,rows,r4,o4,k4,g4,hrl,hall,s4⟩:=rArriv_runs hS ls a c r o ch fr at' H2 H3 H2.size w0 (hK2.grp hg) (hK2.low hL) hlk q1 l2 hfit k3 (Nat.le_refl _) o3 hw0 hB;have f4:=R4.bx;obtain ⟨a4,c4,rfl⟩:=s4.v0;have hK4:=hK2.trans k4;have hL4:=hK4.low hL;have l4:=hl.keep hK4;have hTn:∀ x y,TP ls ch (BegB fr at') (EndsB to 10000) x y → 0 ≤ x:=fun x y h => by
    obtain ⟨i,r,_,_,_,h1,_⟩:=h; omega
  have hTk:∀ (k:Nat) y,k < rows.length → (TP ls ch (BegB fr at') (EndsB to 10000) (k:Int) y ↔ ∃ j,j < ls.length ∧ ((rows.getD k []).getD j false = true ∧ (ls.getD j default).t = to) ∧ (ls.getD j default).a = y):=fun k y hk => by
    rw [TP.iff];constructor
    · rintro ⟨j,h1,h2,h3,h4⟩;exact ⟨j,h1,⟨((hall k hk).2 j h1).2 h2,h3.1⟩,h4⟩
    · rintro ⟨j,h1,⟨h2,h3⟩,h4⟩;exact ⟨j,h1,((hall k hk).2 j h1).1 h2,⟨h3,(hlk.leg j h1).2.2⟩,h4⟩
  have hrw:∀ k,k < rows.length → (rows.getD k []).length = ls.length:=fun k hk => (hall k hk).1
  have hr61:rows.length ≤ 61:=by omega
  have hrl1:rows.length ≤ ls.length + 1:=by omega
  have hrl2:ls.length + 1 ≤ rows.length:=by omega
  clear k1 k2 k3 k4 o3 hw0 hB R3 R4 hfit l2 hall q2 q3 q4 he hrl
  repeat' (first | simp only [↓Zacc,↓Zabz,↓Zacb,↓Zaai,↓Zaaj,↓Zabw,↓Zaca,↓Zacy,↓Zacx,↓Zadd,↓Zaaw,↓Zaan,↓Zaap,↓Zaaq,↓Zaao,↓Zaba,↓Zaau,↓bxPut,↓Zabu,↓Zabv,↓Zabs,↓Zadb,↓Zadc,↓Zade,↓Zabi,↓Zabg,↓Zabh,Zacz,Zaae,Zabk,Zacd,Zacv,Zabp,List.map_cons,List.map_nil,List.nil_append,List.append_nil,↓reduceIte,Nat.reduceEqDiff,Nat.reduceLT,dec_F,not_true_eq_false, *,argF,List.getD_cons_zero,List.getD_cons_succ,Zabp])
  clear f1 f3 f4 b1 d0 d1;refine sxL_of (fun m ρ X => ∃ (k:Nat) (l:List Pt) (v:Value),m = rows.length - k ∧ k ≤ rows.length ∧ Keep H4 X ∧ Grp X ∧ LstG stE 50 H4.size X v l ∧ ParU (TP ls ch (BegB fr at') (EndsB to 10000)) k l ∧ ρ 1 = .slice a ls.length c ∧ ρ 4 = .int .i64 to ∧ ρ 15 = .slice a4 rows.length c4 ∧ ρ 16 = v ∧ ρ 17 = .int .i64 (k:Int))
    ⟨0,[],.slice none 0 0,rfl,Nat.zero_le _,Keep.refl _,g4,LstG.nil,ParU.nil hTn,rfl,rfl,rfl,rfl,rfl⟩ ?_
  rintro m ρ X ⟨k,l,v,rfl,hk,kX,gX,hlst,hpu,e1,e4,e15,e16,e17⟩;have hLX:=kX.low hL4;have hll:=hpu.len hTn;have hv:=hlst.isv;obtain ⟨av,rfl⟩:=hv
  by_cases hkl:k < rows.length
  case neg =>
    have hkl':¬ (k:Int) < (rows.length:Int):=by omega
    have hke:k = ls.length + 1:=by omega
    rw [hke] at hpu;have hv:=TrV.lst hlst
    by_cases hle:l.length = 0
    · have hle':l = []:=List.eq_nil_of_length_eq_zero hle;have d2:decide (((l.length:Nat):Int) = 0) = true:=decide_eq_true (by omega)
      have hp:PostRp ls ch fr to at' 0 H (.tuple ⟨[.slice none 0 0,.int .i64 10]⟩) X:=⟨_,[],10,rfl,hK4.trans kX,TrV.nil _,fun h => absurd rfl h,fun _ h => absurd h hft,fun _ _ => ⟨hle' ▸ hpu,fun _ => rfl,fun h => absurd rfl h⟩⟩
      clear hl hft hK2 hK4 kX hv hlst hle hle' hpu hke hTk hTn hkl s4 l4 gX hrw hlk
      repeat' (first | simp only [↓Zacc,↓Zabz,↓Zacb,↓Zaai,↓Zaaj,↓Zabw,↓Zaby,↓Zacy,↓Zacx,↓Zadd,↓Zabb,↓Zaaw,↓Zaan,↓Zaax,↓Zaap,↓Zaaq,↓Zaav,↓Zaao,↓Zaas,↓Zaat,↓Zaau,↓Zaam,↓bxPut,↓Zabu,↓Zabt,↓Zaag,↓Zaaf,↓Zabm,↓Zabl,↓Zade,↓Zabi,↓Zabg,↓dstAt,↓Zabj,Zacz,Zaae,Zabk,Zacw,Zacv,↓reduceIte,Nat.reduceEqDiff,Nat.reduceLT,dec_F, *,lenT,lenBB])
    · have d2:decide (((l.length:Nat):Int) = 0) = false:=decide_eq_false (by omega)
      have hob:=hlst.sl (by have:Go.maxLen = 9223372036854775807:=rfl; omega)
      obtain ⟨r9,s9,_⟩:=hob;have hp:PostRp ls ch fr to at' 0 H (.tuple ⟨[.slice av l.length l.length,.int .i64 0]⟩) X:=⟨_,l,0,rfl,hK4.trans kX,⟨⟨_,_,rfl⟩,fun _ => ⟨r9,0,s9⟩⟩,fun h => absurd rfl h,fun _ h => absurd h hft,fun _ _ => ⟨hpu,fun h => absurd (by rw [h]; rfl) hle,fun _ => rfl⟩⟩
      clear hl hft hK2 hK4 kX hv hlst hle hpu hke hTk hTn hkl s4 l4 gX hrw hlk s9
      repeat' (first | simp only [↓Zacc,↓Zabz,↓Zacb,↓Zaai,↓Zaaj,↓Zabw,↓Zaby,↓Zacy,↓Zacx,↓Zadd,↓Zabb,↓Zaaw,↓Zaan,↓Zaax,↓Zaap,↓Zaaq,↓Zaav,↓Zaao,↓Zaas,↓Zaat,↓Zaau,↓Zaam,↓bxPut,↓Zabu,↓Zabt,↓Zaag,↓Zaaf,↓Zabm,↓Zabl,↓Zade,↓Zabi,↓Zabg,↓dstAt,↓Zabj,Zacz,Zaae,Zabk,Zacv,↓reduceIte,Nat.reduceEqDiff,Nat.reduceLT,dec_F, *,lenT,lenBB])
  have hkl':(k:Int) < (rows.length:Int):=by omega
  have hwk:IntKind.i64.wrap ((k:Int) + 1) = ((k + 1:Nat):Int):=IntWalk.i64_in _ (by omega)
  have hob:=(s4.keep kX).rd k hkl;obtain ⟨es,hrd,hes⟩:=hob;obtain ⟨vk,rk,ok,rfl,sk⟩:=hes;have hdk:rows.getD k default = rows.getD k []:=rfl;rw [hdk] at sk;have hob:=sk.v0;obtain ⟨ak,ck,rfl⟩:=hob;have hlk2:=hrw k hkl;have hgn:∃ wk,wk = rows.getD k []:=⟨_,rfl⟩;obtain ⟨wk,hwkd⟩:=hgn;have hTk2:=fun y => hTk k y hkl
  rw [← hwkd] at sk hlk2 hTk2 hrd;have hrd:X.read r4 (o4 + k) 1 = some [.slice ak wk.length ck]:=by have h:=hrd; rwa [show o4 + k * (sliceE boolE).sz = o4 + k from by show o4 + k * 1 = _; omega] at h
  have hixk:Zaaa Try.prog 81 (.slice a4 rows.length c4) (.int .i64 (k:Int)) = some (.pointer (some ⟨r4,o4 + k,none⟩)):=by
    obtain ⟨a',c',e',ha'⟩:=s4.isv;cases e';rw [ha' (by omega),ixBB,if_pos ⟨by omega,hkl'⟩,Int.toNat_natCast,Nat.mul_one]
  have hW1:wk.length ≤ ls.length:=by omega
  have hW2:ls.length ≤ wk.length:=by omega
  clear hlk2 hwkd
  repeat' (first | simp only [↓Zacc,↓Zabz,↓Zacb,↓Zaai,↓Zaaj,↓Zabw,↓Zaby,↓Zacy,↓Zacx,↓Zadd,↓Zabb,↓Zaaw,↓Zaan,↓Zaax,↓Zaap,↓Zaaq,↓Zaav,↓Zaao,↓Zaas,↓Zaat,↓Zaau,↓Zaam,↓bxPut,↓Zabu,↓Zabt,↓Zaag,↓Zaaf,↓Zabm,↓Zabl,↓Zade,↓Zabi,↓Zabg,↓dstAt,↓Zabj,Zacz,Zaae,Zabk,Zacw,↓reduceIte,Nat.reduceEqDiff,Nat.reduceLT,dec_T, *,lenBB])
  refine sxL_of (fun m ρ Y => ∃ (j:Nat) (z:Int),m = ls.length - j ∧ j ≤ ls.length ∧ Y = X ∧ ArI ls (fun i => wk.getD i false = true ∧ (ls.getD i default).t = to) j z ∧ ρ 1 = .slice a ls.length c ∧ ρ 4 = .int .i64 to ∧ ρ 15 = .slice a4 rows.length c4 ∧ ρ 16 = .slice av l.length l.length ∧ ρ 17 = .int .i64 (k:Int) ∧ ρ 18 = .int .i64 z ∧ ρ 19 = .int .i64 (j:Int))
    ⟨0,-1,rfl,Nat.zero_le _,rfl,.inl ⟨rfl,fun i hi => absurd hi (Nat.not_lt_zero i)⟩,e1,e4,e15,e16,e17,rfl,rfl⟩ ?_
  clear e1 e4 e15 e16 e17 ρ;rintro m ρ Y ⟨j,z,rfl,hj,rfl,har,e1,e4,e15,e16,e17,e18,e19⟩
  by_cases hjl:j < ls.length
  case neg =>
    have hjl':¬ (j:Int) < (ls.length:Int):=by omega
    have hje:j = ls.length:=Nat.le_antisymm hj (Nat.not_lt.1 hjl);rw [hje] at har;have hl100:l.length ≤ 100:=by omega
    have hnext:∀ (l2:List Pt) (v2:Value) (Z:Heap),Keep H4 Z → Grp Z → LstG stE 50 H4.size Z v2 l2 → ParU (TP ls ch (BegB fr at') (EndsB to 10000)) (k + 1) l2 → True:=fun _ _ _ _ _ _ _ => trivial
    clear hnext;rcases har with ⟨hz,hno⟩ | ⟨i,hi,hin,hz,hmin⟩
    · have d1:decide (0 ≤ z) = false:=decide_eq_false (by omega)
      have hpu2:=hpu.no (fun y hT => by
        obtain ⟨i,h1,h2,_⟩:=(hTk2 y).1 hT
        exact absurd h2 (hno i h1))
      clear hno hje hjl hj hl hft hK2 hK4 hpu hTk hTn hkl s4 l4 hrw hlk hTk2 sk hrd hixk hz
      repeat' (first | simp only [↓Zacc,↓Zabz,↓Zacb,↓Zaai,↓Zabw,↓Zaby,↓Zacy,↓Zacx,↓Zadd,↓Zabb,↓Zaaw,↓Zaan,↓Zaax,↓Zaav,↓Zaao,↓Zaas,↓Zaat,↓Zaau,↓bxPut,↓Zabu,↓Zabt,↓Zaag,↓Zaaf,↓Zabm,↓Zabl,↓Zade,↓Zabi,↓Zabg,↓dstAt,↓Zabj,Zacz,Zaae,Zabk,Zaac,sxGuardB_u,Zact,Zacv,↓reduceIte,Nat.reduceEqDiff,Nat.reduceLT,dec_F,true_and, *,lenG])
      exact ⟨rows.length - (k + 1),by omega,k + 1,l,_,rfl,by omega,hlst,hpu2,rfl,rfl⟩
    · have hia:=hlk.leg i hi;have hT:TP ls ch (BegB fr at') (EndsB to 10000) (k:Int) z:=(hTk2 z).2 ⟨i,hi,hin,hz.symm⟩;have hTm:∀ y,TP ls ch (BegB fr at') (EndsB to 10000) (k:Int) y → z ≤ y:=fun y hT => by
        obtain ⟨i',h1,h2,h3⟩:=(hTk2 y).1 hT;have:=hmin i' h1 h2; omega
      have d1:decide (0 ≤ z) = true:=decide_eq_true (by omega)
      have rz:R64 z:=⟨by omega,by omega⟩
      have rk64:R64 (k:Int):=⟨by omega,by omega⟩
      have hob:=hlst.push (P:=Try.prog) (ts:=#[46,46]) elemOkT (stableS 0) gX kX.size (x:=((k:Int),z)) (es:=pc ((k:Int),z)) (stE_at rk64 rz) rfl (by omega) 50
      obtain ⟨v2,X2,ap2,l2,gr2⟩:=hob;have bs2:=bs1T Y (k:Int) z;have ap2:aAppend Try.prog (Y.newExact [.int .i64 (k:Int),.int .i64 z] 50) #[46,46] (.slice av l.length l.length) (.slice (some ⟨Y.size,0,none⟩) 1 1) = some (v2,X2):=ap2;have bd2:=bdTr (k:Int) z;have kX2:=gr2.base H4 g4 kX (Nat.le_refl _);have gX2:=gr2.grp gX
      by_cases hl0:l.length = 0
      · have d2:decide (((l.length:Nat):Int) = 0) = true:=decide_eq_true (by omega)
        have hpu2:=hpu.yes hT hTm (fun h => by omega)
        clear hmin hT hTm hje hjl hj hl hft hK2 hK4 hpu hTk hTn hkl s4 l4 hrw hlk hTk2 sk hrd hixk hz hia hin rz rk64 gr2 hlst kX gX hl0
        repeat' (first | simp only [↓Zacc,↓Zabz,↓Zacb,↓Zaai,↓Zabw,↓Zaby,↓Zacy,↓Zacx,↓Zadd,↓Zabb,↓Zaaw,↓Zaan,↓Zaax,↓Zaav,↓Zaao,↓Zaas,↓Zaat,↓Zaau,↓bxPut,↓Zabu,↓Zabt,↓Zaag,↓Zaaf,↓Zabm,↓Zabl,↓Zade,↓Zabi,↓Zabg,↓dstAt,↓Zabj,Zacz,Zaae,Zabk,Zaad,Zacu,Zacs,Zacw,Zacv,List.map_cons,List.map_nil,↓reduceIte,Nat.reduceEqDiff,Nat.reduceLT,dec_F,true_and, *,lenT,lenG])
        exact ⟨rows.length - (k + 1),by omega,k + 1,_,v2,rfl,by omega,l2,hpu2,rfl,rfl⟩
      · have d2:decide (((l.length:Nat):Int) = 0) = false:=decide_eq_false (by omega)
        have hwl:IntKind.i64.wrap ((l.length:Int) - 1) = ((l.length - 1:Nat):Int):=by rw [IntWalk.i64_in _ (by omega)]; omega
        have hob:=hlst.sl (by have:Go.maxLen = 9223372036854775807:=rfl; omega)
        obtain ⟨r9,s9,_⟩:=hob;have hob:=trip_at s9 (k:=l.length - 1) (by omega)
        obtain ⟨q9,ix9,_,_,rd9,_,_⟩:=hob
        by_cases hlast:z < (l.getD (l.length - 1) default).2
        · have d3:decide (z < (l.getD (l.length - 1) default).2) = true:=decide_eq_true hlast;have hpu2:=hpu.yes hT hTm (fun _ => hlast)
          clear hmin hT hTm hje hjl hj hl hft hK2 hK4 hpu hTk hTn hkl s4 l4 hrw hlk hTk2 sk hrd hixk hz hia hin rz rk64 gr2 hlst kX gX hl0 s9 hlast
          repeat' (first | simp only [↓Zacc,↓Zabz,↓Zacb,↓Zaai,↓Zabw,↓Zaby,↓Zacy,↓Zacx,↓Zadd,↓Zabb,↓Zaaw,↓Zaan,↓Zaax,↓Zaav,↓Zaao,↓Zaas,↓Zaat,↓Zaau,↓bxPut,↓Zabu,↓Zabt,↓Zaag,↓Zaaf,↓Zabm,↓Zabl,↓Zade,↓Zabi,↓Zabg,↓dstAt,↓Zabj,Zacz,Zaae,Zabk,Zaad,Zaac,Zacu,Zacr,Zacw,Zacv,List.map_cons,List.map_nil,↓reduceIte,Nat.reduceEqDiff,Nat.reduceLT,dec_F,true_and,one1,Option.bind_some, *,lenT,lenG,ldC,faTr1,one1])
          exact ⟨rows.length - (k + 1),by omega,k + 1,_,v2,rfl,by omega,l2,hpu2,rfl,rfl⟩
        · have d3:decide (z < (l.getD (l.length - 1) default).2) = false:=decide_eq_false hlast;have hpu2:=hpu.no (fun y hTy => ⟨_,getD_mem (d:=default) (show l.length - 1 < l.length by omega),by have:=hTm y hTy; omega⟩)
          clear hmin hT hTm hje hjl hj hl hft hK2 hK4 hpu hTk hTn hkl s4 l4 hrw hlk hTk2 sk hrd hixk hz hia hin rz rk64 gr2 hl0 s9 hlast ap2 bs2 bd2 l2 kX2 gX2
          repeat' (first | simp only [↓Zacc,↓Zabz,↓Zacb,↓Zaai,↓Zabw,↓Zaby,↓Zacy,↓Zacx,↓Zadd,↓Zabb,↓Zaaw,↓Zaan,↓Zaax,↓Zaav,↓Zaao,↓Zaas,↓Zaat,↓Zaau,↓bxPut,↓Zabu,↓Zabt,↓Zaag,↓Zaaf,↓Zabm,↓Zabl,↓Zade,↓Zabi,↓Zabg,↓dstAt,↓Zabj,Zacz,Zaae,Zabk,Zaad,Zaac,Zacu,Zacr,Zacv,↓reduceIte,Nat.reduceEqDiff,Nat.reduceLT,dec_F,true_and,one1,Option.bind_some, *,lenT,lenG,ldC,faTr1,one1])
          exact ⟨rows.length - (k + 1),by omega,k + 1,l,_,rfl,by omega,hlst,hpu2,rfl,rfl⟩
  have hjl':(j:Int) < (ls.length:Int):=by omega
  have hwj:IntKind.i64.wrap ((j:Int) + 1) = ((j + 1:Nat):Int):=IntWalk.i64_in _ (by omega)
  have hixj:Zaaa Try.prog 58 (.slice ak wk.length ck) (.int .i64 (j:Int)) = some (.pointer (some ⟨rk,ok + j,none⟩)):=by
    obtain ⟨a',c',e',ha'⟩:=sk.isv;cases e';rw [ha' (by omega),ixB,if_pos ⟨by omega,by omega⟩,Int.toNat_natCast,Nat.mul_one]
  have hob:=sk.rd j (by omega)
  obtain ⟨es,hrdj,hes⟩:=hob;have hes:es = [.bool (wk.getD j false)]:=hes;rw [hes] at hrdj;have hrdj:Y.read rk (ok + j) 1 = some [.bool (wk.getD j false)]:=by have h:=hrdj; rwa [show ok + j * boolE.sz = ok + j from by show ok + j * 1 = _; omega] at h
  have hob:=SlG_at (l4.keep kX) hjl;obtain ⟨qg,ixg,_,_,rt,_,ra,_⟩:=hob;have hgb:∃ b1,b1 = wk.getD j false:=⟨_,rfl⟩;obtain ⟨b1,hb1⟩:=hgb;rw [← hb1] at hrdj;have hpos:∀ i,wk.getD i false = true ∧ (ls.getD i default).t = to → 0 ≤ (ls.getD i default).a:=fun i hin => by
    by_cases hi:i < ls.length
    · have:=hlk.leg i hi; omega
    · have h:=hin.1;rw [List.getD_eq_getElem?_getD,List.getElem?_eq_none (by omega)] at h
      cases h
  cases b1 with
  | false =>
    have har2:=har.skip (fun h => by rw [← hb1] at h; cases h.1)
    clear har hb1 hpos hl hft hK2 hK4 hpu hTk hTn hkl s4 l4 hrw hlk hTk2 sk hes kX gX hlst
    repeat' (first | simp only [↓Zacc,↓Zabz,↓Zacb,↓Zaai,↓Zabw,↓Zaby,↓Zacy,↓Zacx,↓Zadd,↓Zabb,↓Zaaw,↓Zaan,↓Zaax,↓Zaav,↓Zaao,↓Zaas,↓Zaat,↓Zaau,↓bxPut,↓Zabu,↓Zabt,↓Zaag,↓Zaaf,↓Zabm,↓Zabl,↓Zade,↓Zabi,↓Zabg,↓dstAt,↓Zabj,Zacz,Zaae,Zabk,Zaac,sxGuardB_u,Zact,Zacw,Zacv,↓reduceIte,Nat.reduceEqDiff,Nat.reduceLT,dec_T,true_and,one1,Option.bind_some, *,lenG,ldBo,ldBs,one1])
    exact ⟨ls.length - (j + 1),by omega,j + 1,z,rfl,by omega,har2,rfl,rfl⟩
  | true =>
  by_cases ht:(ls.getD j default).t = to
  case neg =>
    have dt:decide ((ls.getD j default).t = to) = false:=decide_eq_false ht;have har2:=har.skip (fun h => ht h.2)
    clear har hb1 hpos hl hft hK2 hK4 hpu hTk hTn hkl s4 l4 hrw hlk hTk2 sk hes kX gX hlst ht
    repeat' (first | simp only [↓Zacc,↓Zabz,↓Zacb,↓Zaai,↓Zabw,↓Zaby,↓Zacy,↓Zacx,↓Zadd,↓Zabb,↓Zaaw,↓Zaan,↓Zaax,↓Zaav,↓Zaao,↓Zaas,↓Zaat,↓Zaau,↓bxPut,↓Zabu,↓Zabt,↓Zaag,↓Zaaf,↓Zabm,↓Zabl,↓Zade,↓Zabi,↓Zabg,↓dstAt,↓Zabj,Zacz,Zaae,Zabk,Zaad,Zaac,sxGuardB_u,Zacu,Zact,Zacw,Zacv,↓reduceIte,Nat.reduceEqDiff,Nat.reduceLT,dec_T,true_and,one1,Option.bind_some, *,lenG,ldBo,ldBs,ldC,faG1,one1])
    exact ⟨ls.length - (j + 1),by omega,j + 1,z,rfl,by omega,har2,rfl,rfl⟩
  have dt:decide ((ls.getD j default).t = to) = true:=decide_eq_true ht
  by_cases hz:z < 0
  · have dz:decide (z < 0) = true:=decide_eq_true hz;have har2:=har.take ⟨hb1.symm,ht⟩ (.inl hz) hpos;clear har hb1 hpos hl hft hK2 hK4 hpu hTk hTn hkl s4 l4 hrw hlk hTk2 sk hes kX gX hlst ht hz
    repeat' (first | simp only [↓Zacc,↓Zabz,↓Zacb,↓Zaai,↓Zabw,↓Zaby,↓Zacy,↓Zacx,↓Zadd,↓Zabb,↓Zaaw,↓Zaan,↓Zaax,↓Zaav,↓Zaao,↓Zaas,↓Zaat,↓Zaau,↓bxPut,↓Zabu,↓Zabt,↓Zaag,↓Zaaf,↓Zabm,↓Zabl,↓Zade,↓Zabi,↓Zabg,↓dstAt,↓Zabj,Zacz,Zaae,Zabk,Zaad,Zacu,Zacs,Zacw,↓reduceIte,Nat.reduceEqDiff,Nat.reduceLT,dec_T,true_and,one1,Option.bind_some, *,lenG,ldBo,ldBs,ldC,faG1,faG3,one1])
    exact ⟨ls.length - (j + 1),by omega,j + 1,_,rfl,by omega,har2,rfl,rfl⟩
  have dz:decide (z < 0) = false:=decide_eq_false hz
  by_cases haz:(ls.getD j default).a < z
  · have da:decide ((ls.getD j default).a < z) = true:=decide_eq_true haz;have har2:=har.take ⟨hb1.symm,ht⟩ (.inr haz) hpos;clear har hb1 hpos hl hft hK2 hK4 hpu hTk hTn hkl s4 l4 hrw hlk hTk2 sk hes kX gX hlst ht hz haz
    repeat' (first | simp only [↓Zacc,↓Zabz,↓Zacb,↓Zaai,↓Zabw,↓Zaby,↓Zacy,↓Zacx,↓Zadd,↓Zabb,↓Zaaw,↓Zaan,↓Zaax,↓Zaav,↓Zaao,↓Zaas,↓Zaat,↓Zaau,↓bxPut,↓Zabu,↓Zabt,↓Zaag,↓Zaaf,↓Zabm,↓Zabl,↓Zade,↓Zabi,↓Zabg,↓dstAt,↓Zabj,Zacz,Zaae,Zabk,Zaad,Zaac,Zacu,Zacr,Zacw,↓reduceIte,Nat.reduceEqDiff,Nat.reduceLT,dec_T,true_and,one1,Option.bind_some, *,lenG,ldBo,ldBs,ldC,faG1,faG3,one1])
    exact ⟨ls.length - (j + 1),by omega,j + 1,_,rfl,by omega,har2,rfl,rfl⟩
  · have da:decide ((ls.getD j default).a < z) = false:=decide_eq_false haz;have har2:=har.stay hz haz;clear har hb1 hpos hl hft hK2 hK4 hpu hTk hTn hkl s4 l4 hrw hlk hTk2 sk hes kX gX hlst ht hz haz
    repeat' (first | simp only [↓Zacc,↓Zabz,↓Zacb,↓Zaai,↓Zabw,↓Zaby,↓Zacy,↓Zacx,↓Zadd,↓Zabb,↓Zaaw,↓Zaan,↓Zaax,↓Zaav,↓Zaao,↓Zaas,↓Zaat,↓Zaau,↓bxPut,↓Zabu,↓Zabt,↓Zaag,↓Zaaf,↓Zabm,↓Zabl,↓Zade,↓Zabi,↓Zabg,↓dstAt,↓Zabj,Zacz,Zaae,Zabk,Zaad,Zaac,Zacu,Zacr,Zacw,Zacv,↓reduceIte,Nat.reduceEqDiff,Nat.reduceLT,dec_T,true_and,one1,Option.bind_some, *,lenG,ldBo,ldBs,ldC,faG1,faG3,one1])
    exact ⟨ls.length - (j + 1),by omega,j + 1,z,rfl,by omega,har2,rfl,rfl⟩
end Go.Proofs.Yteechkbnccpicaa
