/- A timetable's isJourney. -/
import Derived.Test.YteechkbnccpicaaL7
set_option linter.unusedVariables false
set_option linter.unusedSimpArgs false
set_option linter.unusedSectionVars false

namespace Go.Proofs.Yteechkbnccpicaa
open Go Go.AM
set_option maxRecDepth 10000

def OkAt (ls:List Lg) (ch:Int) (js:List Int) (k:Nat):Prop:=
  (0 ≤ js.getD k 0 ∧ js.getD k 0 ≤ (ls.length:Int) - 1) ∧ (0 < k → joinB ch (ls.getD (js.getD (k - 1) 0).toNat default) (ls.getD (js.getD k 0).toNat default) = true)
def AllOk (ls:List Lg) (ch:Int) (js:List Int) (n:Nat):Prop:=∀ k,k < n → OkAt ls ch js k
def IsJ (ls:List Lg) (ch fr to at' by':Int) (js:List Int) (b:Bool):Prop:=
  (js.length = 0 → b = decide (fr = to ∧ at' ≤ by')) ∧
  (js.length ≠ 0 → (b = true ↔ AllOk ls ch js js.length ∧ ((ls.getD (js.getD 0 0).toNat default).f = fr ∧ at' ≤ (ls.getD (js.getD 0 0).toNat default).d) ∧
    ((ls.getD (js.getD (js.length - 1) 0).toNat default).t = to ∧ (ls.getD (js.getD (js.length - 1) 0).toNat default).a ≤ by')))
def PostJ (H:Heap) (ls:List Lg) (ch fr to at' by':Int) (js:List Int) (u:Value) (H':Heap):Prop:=∃ b,u = .bool b ∧ IsJ ls ch fr to at' by' js b ∧ Keep H H'
theorem PostJ.no {H H':Heap} {ls:List Lg} {ch fr to at' by':Int} {js:List Int} {k:Nat} (hk:k < js.length) (h:¬ OkAt ls ch js k) (hK:Keep H H'):PostJ H ls ch fr to at' by' js (.bool false) H':=
  ⟨false,rfl,⟨fun h0 => absurd h0 (by omega),fun _ => ⟨fun hh => (by cases hh),fun hh => absurd (hh.1 k hk) h⟩⟩,hK⟩
theorem AllOk.succ {ls:List Lg} {ch:Int} {js:List Int} {k:Nat} (h:AllOk ls ch js k) (h1:OkAt ls ch js k):AllOk ls ch js (k + 1):=fun j hj => by
  rcases Nat.lt_or_ge j k with h2 | h2
  · exact h j h2
  · rw [show j = k by omega]; exact h1

variable {S:AM.Sys} (hS:Only S 11)
include hS

end Go.Proofs.Yteechkbnccpicaa

namespace Go.Proofs.Yteechkbnccpicaa
open Go Go.AM
set_option maxRecDepth 10000

variable {S:AM.Sys} (hS:Only S 11)
include hS

def PostQ (H:Heap) (e:Int) (J:Bool → Prop) (u:Value) (H':Heap):Prop:=∃ b,u = .tuple ⟨[.bool b,.int .i64 e]⟩ ∧ Keep H H' ∧ (e ≠ 0 → b = false) ∧ (e = 0 → J b)

end Go.Proofs.Yteechkbnccpicaa

namespace Go.Proofs.Yteechkbnccpicaa
open Go Go.AM
set_option maxRecDepth 10000

variable {S:AM.Sys} (hS:Only S 11)
include hS

theorem few_runs (a:Option Addr) (n c:Nat) (H:Heap):Runs Try.prog S (.fn 10) [.slice a n c] H (.bool (decide ((n:Int) ≤ 80))) H:=by
  suffices h:WCall Try.prog S (.fn 10) [.slice a n c] H (fun v H' => v = .bool (decide ((n:Int) ≤ 80)) ∧ H' = H) by
    obtain ⟨_,_,hr,rfl,rfl⟩:=h; exact hr
  refine Zaba Try.func10 rfl (Nat.le_of_ble_eq_true rfl) (hS.no rfl _ _) ?_
  rw [Try.ntmps10,Try.results10]
  repeat' simp only [↓Zabx,↓Zabz,↓Zaby,↓Zacw,↓Zacv,↓Zadb,↓Zaau,↓Zaam,↓Zaan,↓Zaas,↓bxPut,↓Zabs,↓Zabq,↓Zacz,↓Zada,↓Zadc,↓Zabg,↓Zabe,Zacx,Zaae,Zabi,Zabm,↓reduceIte,Nat.reduceEqDiff,Nat.reduceLT,and_self, *,argF,List.getD_cons_zero,lenG]

end Go.Proofs.Yteechkbnccpicaa

namespace Go.Proofs.Yteechkbnccpicaa
open Go Go.AM
set_option maxRecDepth 10000

variable {ls:List Lg} {ch:Int}
theorem JL.sl {L:Nat} {H:Heap} {v:Value} {x:List Nat} (h:JL L H v x) (hx:x.length ≤ 100000) (hr:∀ i ∈ x,i ≤ 1000):∃ r,SlI .i64 H v (castL x) r 0:=by
  have m1:IntKind.i64.min = -9223372036854775808:=by decide
  have m2:IntKind.i64.max = 9223372036854775807:=by decide
  have hmx:Go.maxLen = 9223372036854775807:=rfl;rcases h with ⟨i,r,rfl,hi,rfl,_,ho⟩ | ⟨_,hl⟩
  · exact ⟨r,Own.sl (w:=castL [i]) ho (fun z hz => by
      have:z = (i:Int):=by simpa [castL] using hz
      rw [this,m1,m2]; omega) (by show 1 ≤ Go.maxLen; omega) 1⟩
  · obtain ⟨r,h1,_⟩:=hl.sl (by rw [castL_len]; omega)
    exact ⟨r,h1⟩
theorem Ch.mem_lt:∀ {r:List Nat} {i:Nat},Ch ls ch i r → ∀ j ∈ i :: r,j < ls.length
  | [],i,h,j,hj => by rw [List.mem_singleton.1 hj]; exact h
  | k :: r,i,h,j,hj => by
    rcases List.mem_cons.1 hj with e | hj
    · rw [e]; exact h.1
    · exact Ch.mem_lt h.2.2 j hj
end Go.Proofs.Yteechkbnccpicaa

namespace Go.Proofs.Yteechkbnccpicaa
open Go Go.AM

theorem chg_le (ls:List Lg):∀ (r:List Nat) (i:Nat),chg ls i r ≤ r.length
  | [],i => Nat.le_refl _
  | j :: r,i => by
    have h1:=chg_le ls r j;have h2:=chg1_le ls i j;simp only [chg,List.length_cons]; omega
variable {ls:List Lg} {ch fr to at':Int} {l:List Pt}
theorem TripsJ.cov (h:TripsJ ls ch fr to at' l) (hk:LOk ls ch) (h60:ls.length ≤ 60) {i:Nat} {r:List Nat} (hc:Ch ls ch i r) (hb:BegB fr at' (ls.getD i default)) (he:(ls.getD (lastN i r) default).t = to):∃ p ∈ l,p.1 ≤ (chg ls i r:Nat) ∧ p.2 ≤ (ls.getD (lastN i r) default).a:=by
  obtain ⟨d,ar,least,h1,h2,h3,_,_⟩:=h;have hj:=hc.last_lt;obtain ⟨k1,k2⟩:=h1 _ hj;have k3:=k1.1 _ ⟨i,r,hc,hb,rfl,rfl⟩;have k4:=chg_le ls r i;have k5:=hc.len hk;have k6:=hk.leg _ hj;have k7:0 ≤ d.getD (lastN i r) 0 ∧ d.getD (lastN i r) 0 < ls.length:=by omega
  have hx:(((d.getD (lastN i r) 0).toNat:Nat):Int) = d.getD (lastN i r) 0:=by omega
  obtain ⟨m1,_⟩:=h2 (d.getD (lastN i r) 0).toNat (by omega)
  have m2:=m1 (ls.getD (lastN i r) default).a ⟨lastN i r,hj,hx.symm,by omega,⟨he,k6.2.2⟩,rfl⟩
  obtain ⟨p,p1,p2,p3⟩:=h3.all (d.getD (lastN i r) 0).toNat (by omega) (by omega)
  exact ⟨p,p1,by omega,by omega⟩
theorem TripsJ.src (h:TripsJ ls ch fr to at' l) {p:Pt} (hp:p ∈ l):0 ≤ p.1 ∧ ∃ i r,Ch ls ch i r ∧ BegB fr at' (ls.getD i default) ∧ (ls.getD (lastN i r) default).t = to ∧ (ls.getD (lastN i r) default).a = p.2:=by
  obtain ⟨d,ar,least,h1,h2,h3,_,_⟩:=h;obtain ⟨x,k1,k2,k3,_⟩:=h3.mem p hp;rw [k2];refine ⟨by show (0:Int) ≤ ((x:Nat):Int); omega,?_⟩
  obtain ⟨_,m2⟩:=h2 x k1;rcases m2 with m2 | ⟨j,q1,q2,q3,q4,q5⟩
  · omega
  · obtain ⟨⟨_,w⟩,_⟩:=h1 j q1;rcases w with w | ⟨i,r,w1,w2,w3,w4⟩
    · omega
    · exact ⟨i,r,w1,w2,by rw [w3]; exact q4.1,by rw [w3]; exact q5⟩
theorem TripsJ.last (h:TripsJ ls ch fr to at' l) (hk:LOk ls ch) (h60:ls.length ≤ 60) {x:Int} {i:Nat} {r:List Nat} (hc:Ch ls ch i r) (hb:BegB fr at' (ls.getD i default)) (he:(ls.getD (lastN i r) default).t = to) (ha:(ls.getD (lastN i r) default).a = x)
    (hm:∀ i r,Ch ls ch i r → BegB fr at' (ls.getD i default) → (ls.getD (lastN i r) default).t = to → x ≤ (ls.getD (lastN i r) default).a):0 < l.length ∧ (l.getD (l.length - 1) default).2 = x ∧ (l.getD (l.length - 1) default).1 ≤ (chg ls i r:Nat):=by
  obtain ⟨p,p1,p2,p3⟩:=h.cov hk h60 hc hb he;have h0:0 < l.length:=List.length_pos_of_mem p1;obtain ⟨_,i2,r2,w1,w2,w3,w4⟩:=h.src p1;have w5:=hm i2 r2 w1 w2 w3;have hpx:p.2 = x:=by omega
  have hq:=getD_mem (l:=l) (k:=l.length - 1) (d:=default) (by omega)
  obtain ⟨_,i3,r3,v1,v2,v3,v4⟩:=h.src hq;have v5:=hm i3 r3 v1 v2 v3;obtain ⟨k,hkl,hke⟩:=List.getElem_of_mem p1;have hlast:l.getD (l.length - 1) default = p:=by
    rcases Nat.lt_or_ge k (l.length - 1) with hlt | hge
    · obtain ⟨_,_,_,_,_,h3,_⟩:=h;have h4:=List.pairwise_iff_getElem.1 h3.asc k (l.length - 1) hkl (by omega) hlt
      rw [hke] at h4;have h5:l.getD (l.length - 1) default = l[l.length - 1]:=by rw [List.getD_eq_getElem?_getD,List.getElem?_eq_getElem (by omega)]; rfl
      rw [← h5] at h4;omega
    · have:k = l.length - 1:=by omega
      subst this;rw [List.getD_eq_getElem?_getD,List.getElem?_eq_getElem hkl]; exact hke
  rw [hlast];exact ⟨h0,hpx,p2⟩
theorem TripsJ.asc (h:TripsJ ls ch fr to at' l) {k:Nat} (hk:k + 1 < l.length):(l.getD k default).1 < (l.getD (k + 1) default).1 ∧ (l.getD (k + 1) default).2 < (l.getD k default).2:=by
  obtain ⟨_,_,_,_,_,h3,_⟩:=h;have h4:=List.pairwise_iff_getElem.1 h3.asc k (k + 1) (by omega) hk (by omega)
  rw [List.getD_eq_getElem?_getD,List.getD_eq_getElem?_getD,List.getElem?_eq_getElem hk,List.getElem?_eq_getElem (by omega)]
  exact h4
def chgs (ls:List Lg):List Nat → Nat
  | [] => 0
  | i :: r => chg ls i r
theorem both {x e2:Int} {js:List Nat} (hk:LOk ls ch) (h60:ls.length ≤ 60) (ht:TripsJ ls ch fr to at' l) (hE:EarlJ ls ch fr to at' x e2 js) (hne:e2 ≠ 10) :
    e2 = 0 ∧ 0 < l.length ∧ (l.getD (l.length - 1) default).2 = x ∧ 0 ≤ (l.getD 0 default).1 ∧ (l.getD (l.length - 1) default).1 ≤ (chgs ls js:Nat) ∧ ∃ i r,js = i :: r ∧ Ch ls ch i r ∧ BegB fr at' (ls.getD i default) ∧ (ls.getD (lastN i r) default).t = to:=by
  rcases hE with ⟨h,_⟩ | ⟨h1,i,r,rfl,hs,ha,hm⟩
  · exact absurd h hne
  · obtain ⟨h2,h3,h4⟩:=ht.last hk h60 hs.is hs.beg hs.fin.1 ha hm;exact ⟨h1,h2,h3,(ht.src (getD_mem (d:=default) h2)).1,h4,i,r,rfl,hs.is,hs.beg,hs.fin.1⟩
end Go.Proofs.Yteechkbnccpicaa

namespace Go.Proofs.Yteechkbnccpicaa
open Go Go.AM

theorem setD_other {α:Type} {d:List α} {i j:Nat} {z e:α} (h:i ≠ j):(d.set j z).getD i e = d.getD i e:=by
  rw [List.getD_eq_getElem?_getD,List.getD_eq_getElem?_getD,List.getElem?_set_ne (Ne.symm h)]
theorem setD_same {α:Type} {d:List α} {j:Nat} {z e:α} (h:j < d.length):(d.set j z).getD j e = z:=by
  rw [List.getD_eq_getElem?_getD,List.getElem?_set_self h]; rfl
structure Par (T:Int → Int → Prop) (l:List Pt):Prop where
  asc:l.Pairwise fun p q => p.1 < q.1 ∧ q.2 < p.2
  src:∀ p ∈ l,T p.1 p.2
  cov:∀ x y,T x y → ∃ p ∈ l,p.1 ≤ x ∧ p.2 ≤ y
theorem asc_eq:∀ {l m:List Pt},l.Pairwise (fun p q => p.1 < q.1 ∧ q.2 < p.2) → m.Pairwise (fun p q => p.1 < q.1 ∧ q.2 < p.2) → (∀ p,p ∈ l ↔ p ∈ m) → l = m
  | [],[],_,_,_ => rfl
  | [],q :: m,_,_,h => absurd ((h q).2 (List.mem_cons_self ..)) (by simp)
  | p :: l,[],_,_,h => absurd ((h p).1 (List.mem_cons_self ..)) (by simp)
  | p :: l,q :: m,hl,hm,h => by
    obtain ⟨l1,l2⟩:=List.pairwise_cons.1 hl;obtain ⟨m1,m2⟩:=List.pairwise_cons.1 hm;have hpq:p = q:=by
      rcases List.mem_cons.1 ((h p).1 (List.mem_cons_self ..)) with e | e
      · exact e
      · rcases List.mem_cons.1 ((h q).2 (List.mem_cons_self ..)) with e2 | e2
        · exact e2.symm
        · have h1:=m1 p e;have h2:=l1 q e2;omega
    subst hpq;rw [asc_eq l2 m2 fun x => ?_]
    constructor
    · intro hx;rcases List.mem_cons.1 ((h x).1 (List.mem_cons_of_mem _ hx)) with e | e
      · have h1:=l1 x hx;rw [e] at h1; omega
      · exact e
    · intro hx;rcases List.mem_cons.1 ((h x).2 (List.mem_cons_of_mem _ hx)) with e | e
      · have h1:=m1 x hx;rw [e] at h1; omega
      · exact e
theorem asc_two {l:List Pt} (h:l.Pairwise fun p q => p.1 < q.1 ∧ q.2 < p.2) {p q:Pt} (hp:p ∈ l) (hq:q ∈ l) (h1:q.1 ≤ p.1) (h2:q.2 ≤ p.2):q = p:=by
  induction l with
  | nil => cases hp
  | cons x l ih =>
    obtain ⟨l1,l2⟩:=List.pairwise_cons.1 h;rcases List.mem_cons.1 hp with e | hp
    · rcases List.mem_cons.1 hq with e2 | hq
      · rw [e,e2]
      · have:=l1 q hq; rw [e] at h1 h2; omega
    · rcases List.mem_cons.1 hq with e2 | hq
      · have:=l1 p hp; rw [e2] at h1 h2; omega
      · exact ih l2 hp hq
theorem Par.unique {T:Int → Int → Prop} {l m:List Pt} (h:Par T l) (k:Par T m):l = m:=by
  refine asc_eq h.asc k.asc fun p => ⟨fun hp => ?_,fun hp => ?_⟩
  · obtain ⟨q,q1,q2,q3⟩:=k.cov _ _ (h.src p hp);obtain ⟨r,r1,r2,r3⟩:=h.cov _ _ (k.src q q1);have hr:=asc_two h.asc hp r1 (by omega) (by omega)
    subst hr;have:q = r:=by
      have e1:q.1 = r.1:=by omega
      have e2:q.2 = r.2:=by omega
      exact Prod.ext e1 e2
    rw [← this]; exact q1
  · obtain ⟨q,q1,q2,q3⟩:=h.cov _ _ (k.src p hp);obtain ⟨r,r1,r2,r3⟩:=k.cov _ _ (h.src q q1);have hr:=asc_two k.asc hp r1 (by omega) (by omega)
    subst hr;have:q = r:=by
      have e1:q.1 = r.1:=by omega
      have e2:q.2 = r.2:=by omega
      exact Prod.ext e1 e2
    rw [← this]; exact q1
variable {ls:List Lg} {ch fr to at':Int} {l:List Pt}
/-! Closing a set under the joins of one line. -/
def AllCE (ls:List Lg) (ch:Int) (B:Lg → Prop) (k:Int) (w:List Bool):Prop:=w.length = ls.length ∧ ∀ j,j < ls.length → (w.getD j false = true ↔ CE ls ch B j k)
def SomeCE (ls:List Lg) (ch:Int) (B:Lg → Prop) (k:Int) (w:List Bool):Prop:=w.length = ls.length ∧ ∀ j,j < ls.length → w.getD j false = true → CE ls ch B j k
def HasNew (ls:List Lg) (ch:Int) (B:Lg → Prop) (k:Int) (w:List Bool):Prop:=∀ j,j < ls.length → ((B (ls.getD j default) ∧ k = 0) ∨ ∃ i,i < ls.length ∧ jn ls ch i j ∧ chg1 ls i j = 1 ∧ CE ls ch B i (k - 1)) → w.getD j false = true
def ClosedL (ls:List Lg) (ch:Int) (w:List Bool):Prop:=∀ i j,i < ls.length → j < ls.length → w.getD i false = true → chg1 ls i j = 0 → jn ls ch i j → w.getD j false = true
theorem AllCE.of {B:Lg → Prop} {k:Int} {w:List Bool} (h:SomeCE ls ch B k w) (hn:HasNew ls ch B k w) (hc:ClosedL ls ch w):AllCE ls ch B k w:=by
  refine ⟨h.1,fun j hj => ⟨h.2 j hj,fun hce => ?_⟩⟩
  obtain ⟨i,r,h1,h2,h3,h4⟩:=hce
  suffices hs:∀ n (r:List Nat) j,r.length = n → j < ls.length → Ch ls ch i r → lastN i r = j → ((chg ls i r:Nat):Int) = k → w.getD j false = true from hs r.length r j rfl hj h1 h3 h4
  intro n
  induction n with
  | zero =>
    intro r j hr hj h1 h3 h4;have:=List.length_eq_zero_iff.1 hr;subst this;simp only [lastN] at h3;subst h3;exact hn i hj (.inl ⟨h2,by rw [← h4]; rfl⟩)
  | succ n ih =>
    intro r j hr hj h1 h3 h4;rcases List.eq_nil_or_concat r with e | ⟨r',q,e⟩
    · rw [e] at hr; cases hr
    · rw [List.concat_eq_append] at e;subst e;rw [lastN_snoc] at h3;subst h3;obtain ⟨k1,k2,k3⟩:=Ch.snoc.1 h1;rw [chg_snoc] at h4;have hle:=chg1_le ls (lastN i r') q
      by_cases hz:chg1 ls (lastN i r') q = 0
      · exact hc _ _ k1.last_lt k3 (ih r' (lastN i r') (by simpa using hr) k1.last_lt k1 rfl (by omega)) hz k2
      · exact hn q k3 (.inr ⟨lastN i r',k1.last_lt,k2,by omega,i,r',k1,h2,rfl,by omega⟩)
theorem SomeCE.step {B:Lg → Prop} {k:Int} {w:List Bool} (h:SomeCE ls ch B k w) {i j:Nat} (hi:i < ls.length) (hj:j < ls.length) (hw:w.getD i false = true) (hz:chg1 ls i j = 0) (hjn:jn ls ch i j):SomeCE ls ch B k (w.set j true):=by
  refine ⟨by simp [h.1],fun q hq hwq => ?_⟩
  by_cases hqj:q = j
  · subst hqj;exact (CE.step hq).2 (.inr ⟨i,k,hi,hjn,h.2 i hi hw,by rw [hz]; omega⟩)
  · rw [setD_other hqj] at hwq;exact h.2 q hq hwq
theorem HasNew.step {B:Lg → Prop} {k:Int} {w:List Bool} (h:HasNew ls ch B k w) (hl:w.length = ls.length) (j:Nat):HasNew ls ch B k (w.set j true):=fun q hq hx => by
  have:=h q hq hx
  by_cases hqj:q = j
  · subst hqj; rw [setD_same (by omega)]
  · rw [setD_other hqj]; exact this
end Go.Proofs.Yteechkbnccpicaa
