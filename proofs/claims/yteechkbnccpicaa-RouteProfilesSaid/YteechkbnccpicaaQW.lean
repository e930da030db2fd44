/- The best trips, by the reference. -/
import Derived.Test.YteechkbnccpicaaQV
import Derived.Test.YteechkbnccpicaaR3
import Derived.Test.YteechkbnccpicaaR7
import Derived.Test.YteechkbnccpicaaPA
import Derived.Test.YteechkbnccpicaaT6
set_option linter.unusedVariables false
set_option linter.unusedSimpArgs false
set_option linter.unusedSectionVars false

namespace Go.Proofs.Yteechkbnccpicaa
open Go Go.AM
set_option maxRecDepth 10000

structure ParU (T:Int → Int → Prop) (k:Nat) (l:List Pt):Prop where
  asc:l.Pairwise fun p q => p.1 < q.1 ∧ q.2 < p.2
  src:∀ p ∈ l,T p.1 p.2 ∧ p.1 < (k:Int)
  cov:∀ x y,x < (k:Int) → T x y → ∃ p ∈ l,p.1 ≤ x ∧ p.2 ≤ y
theorem ParU.nil {T:Int → Int → Prop} (h0:∀ x y,T x y → 0 ≤ x):ParU T 0 []:=⟨.nil,(fun p hp => by cases hp),fun x y hx hT => by have:=h0 x y hT; omega⟩
theorem ParU.no {T:Int → Int → Prop} {k:Nat} {l:List Pt} (h:ParU T k l) (hn:∀ y,T (k:Int) y → ∃ p ∈ l,p.2 ≤ y):ParU T (k + 1) l:=by
  refine ⟨h.asc,fun p hp => ⟨(h.src p hp).1,by have:=(h.src p hp).2; omega⟩,fun x y hx hT => ?_⟩
  rcases Int.lt_or_le x (k:Int) with hlt | hge
  · exact h.cov x y hlt hT
  · have:x = (k:Int):=by omega
    subst this;obtain ⟨p,p1,p2⟩:=hn y hT;exact ⟨p,p1,by have:=(h.src p p1).2; omega,p2⟩
theorem asc_last {l:List Pt} (h:l.Pairwise fun p q => p.1 < q.1 ∧ q.2 < p.2) (h0:0 < l.length) {p:Pt} (hp:p ∈ l):(l.getD (l.length - 1) default).2 ≤ p.2:=by
  obtain ⟨i,hi,rfl⟩:=List.getElem_of_mem hp;rw [List.getD_eq_getElem?_getD,List.getElem?_eq_getElem (show l.length - 1 < l.length by omega)]
  rcases Nat.lt_or_ge i (l.length - 1) with hlt | hge
  · exact Int.le_of_lt (List.pairwise_iff_getElem.1 h i (l.length - 1) hi (by omega) hlt).2
  · have:i = l.length - 1:=by omega
    subst this; exact Int.le_refl _
theorem ParU.yes {T:Int → Int → Prop} {k:Nat} {l:List Pt} (h:ParU T k l) {z:Int} (hT:T (k:Int) z) (hm:∀ y,T (k:Int) y → z ≤ y) (hl:0 < l.length → z < (l.getD (l.length - 1) default).2):ParU T (k + 1) (l ++ [((k:Int),z)]):=by
  refine ⟨List.pairwise_append.2 ⟨h.asc,List.pairwise_singleton _ _,fun p hp q hq => ?_⟩,fun p hp => ?_,fun x y hx hTx => ?_⟩
  · cases List.mem_singleton.1 hq;have h1:=(h.src p hp).2;have h0:0 < l.length:=List.length_pos_of_mem hp;have h2:=hl h0;have h3:=asc_last h.asc h0 hp;exact ⟨h1,by show z < p.2; omega⟩
  · rcases List.mem_append.1 hp with hp | hp
    · have:=h.src p hp; exact ⟨this.1,by omega⟩
    · cases List.mem_singleton.1 hp;exact ⟨hT,by show (k:Int) < _; omega⟩
  · rcases Int.lt_or_le x (k:Int) with hlt | hge
    · obtain ⟨p,p1,p2⟩:=h.cov x y hlt hTx;exact ⟨p,List.mem_append.2 (.inl p1),p2⟩
    · have:x = (k:Int):=by omega
      subst this;exact ⟨_,List.mem_append.2 (.inr (List.mem_singleton.2 rfl)),Int.le_refl _,hm y hTx⟩
def ArI (ls:List Lg) (In:Nat → Prop) (j:Nat) (z:Int):Prop:=(z = -1 ∧ ∀ i,i < j → ¬ In i) ∨ ∃ i,i < j ∧ In i ∧ z = (ls.getD i default).a ∧ ∀ i',i' < j → In i' → z ≤ (ls.getD i' default).a
theorem ArI.skip {ls:List Lg} {In:Nat → Prop} {j:Nat} {z:Int} (h:ArI ls In j z) (hn:¬ In j):ArI ls In (j + 1) z:=by
  rcases h with ⟨h1,h2⟩ | ⟨i,h1,h2,h3,h4⟩
  · exact .inl ⟨h1,fun i hi => by
      rcases Nat.lt_or_ge i j with h | h
      · exact h2 i h
      · rw [show i = j by omega]; exact hn⟩
  · exact .inr ⟨i,by omega,h2,h3,fun i' hi hx => by
      rcases Nat.lt_or_ge i' j with h | h
      · exact h4 i' h hx
      · rw [show i' = j by omega] at hx; exact absurd hx hn⟩
theorem ArI.stay {ls:List Lg} {In:Nat → Prop} {j:Nat} {z:Int} (h:ArI ls In j z) (hz:¬ z < 0) (hn:¬ (ls.getD j default).a < z):ArI ls In (j + 1) z:=by
  rcases h with ⟨h1,h2⟩ | ⟨i,h1,h2,h3,h4⟩
  · omega
  · exact .inr ⟨i,by omega,h2,h3,fun i' hi hx => by
      rcases Nat.lt_or_ge i' j with h | h
      · exact h4 i' h hx
      · rw [show i' = j by omega]; omega⟩
theorem ArI.take {ls:List Lg} {In:Nat → Prop} {j:Nat} {z:Int} (h:ArI ls In j z) (hi:In j) (hz:z < 0 ∨ (ls.getD j default).a < z) (h0:∀ i,In i → 0 ≤ (ls.getD i default).a):ArI ls In (j + 1) (ls.getD j default).a:=by
  refine .inr ⟨j,by omega,hi,rfl,fun i' hi' hx => ?_⟩
  rcases Nat.lt_or_ge i' j with hlt | hge
  · rcases h with ⟨h1,h2⟩ | ⟨i,h1,h2,h3,h4⟩
    · exact absurd hx (h2 i' hlt)
    · have:=h4 i' hlt hx;have:=h0 i h2;omega
  · rw [show i' = j by omega]; exact Int.le_refl _
def PostRp (ls:List Lg) (ch fr to at' e0:Int) (H:Heap) (u:Value) (H':Heap):Prop:=
  ∃ (v:Value) (l:List Pt) (e:Int),u = .tuple ⟨[v,.int .i64 e]⟩ ∧ Keep H H' ∧ TrV H' v l ∧ (e0 ≠ 0 → e = e0 ∧ l = []) ∧ (e0 = 0 → fr = to → e = 0 ∧ l = [(0,at')]) ∧ (e0 = 0 → fr ≠ to → ParU (TP ls ch (BegB fr at') (EndsB to 10000)) (ls.length + 1) l ∧ (l = [] → e = 10) ∧ (l ≠ [] → e = 0))
theorem ParU.len {T:Int → Int → Prop} {k:Nat} {l:List Pt} (h:ParU T k l) (h0:∀ x y,T x y → 0 ≤ x):l.length ≤ k:=by
  suffices hs:∀ (l:List Pt) (m:Int),l.Pairwise (fun p q => p.1 < q.1 ∧ q.2 < p.2) → (∀ p ∈ l,m ≤ p.1 ∧ p.1 < (k:Int)) → m ≤ (k:Int) → (l.length:Int) ≤ k - m by
    have:=hs l 0 h.asc (fun p hp => ⟨h0 _ _ (h.src p hp).1,(h.src p hp).2⟩) (by omega)
    omega
  intro l
  induction l with
  | nil => intro m _ _ hm; simp; omega
  | cons p l ih =>
    intro m hp hr hm;obtain ⟨h1,h2⟩:=List.pairwise_cons.1 hp;have hp1:=hr p (List.mem_cons_self ..);have:=ih (p.1 + 1) h2 (fun q hq => ⟨by have:=(h1 q hq).1; omega,(hr q (List.mem_cons_of_mem _ hq)).2⟩) (by omega)
    rw [List.length_cons]; omega

variable {S:AM.Sys} (hS:Only S 11)
include hS

end Go.Proofs.Yteechkbnccpicaa

namespace Go.Proofs.Yteechkbnccpicaa
open Go Go.AM
set_option maxRecDepth 10000

structure Bk (P:Int → Int → Prop) (b:Int) (l:List Pt):Prop where
  desc:l.Pairwise fun p q => q.1 < p.1 ∧ q.2 < p.2
  src:∀ p ∈ l,P p.1 p.2 ∧ b ≤ p.1
  cov:∀ x y,b ≤ x → P x y → ∃ p ∈ l,x ≤ p.1 ∧ p.2 ≤ y
theorem Bk.nil {P:Int → Int → Prop} {b:Int} (h:∀ x y,P x y → x < b):Bk P b []:=⟨.nil,(fun p hp => by cases hp),fun x y hx hT => by have:=h x y hT; omega⟩
theorem desc_last {l:List Pt} (h:l.Pairwise fun p q => q.1 < p.1 ∧ q.2 < p.2) {p:Pt} (hp:p ∈ l):(l.getD (l.length - 1) default).2 ≤ p.2:=by
  obtain ⟨i,hi,rfl⟩:=List.getElem_of_mem hp;rw [List.getD_eq_getElem?_getD,List.getElem?_eq_getElem (show l.length - 1 < l.length by omega)]
  rcases Nat.lt_or_ge i (l.length - 1) with hlt | hge
  · exact Int.le_of_lt (List.pairwise_iff_getElem.1 h i (l.length - 1) hi (by omega) hlt).2
  · have:i = l.length - 1:=by omega
    subst this; exact Int.le_refl _
theorem Bk.skip {P:Int → Int → Prop} {b d:Int} {l:List Pt} (h:Bk P b l) (hd:d < b) (hgap:∀ x y,P x y → x < b → x ≤ d) (hno:∀ y,P d y → ∃ p ∈ l,p.2 ≤ y):Bk P d l:=by
  refine ⟨h.desc,fun p hp => ⟨(h.src p hp).1,by have:=(h.src p hp).2; omega⟩,fun x y hx hP => ?_⟩
  rcases Int.lt_or_le x b with hlt | hge
  · have:=hgap x y hP hlt;have:x = d:=by omega
    subst this;obtain ⟨p,p1,p2⟩:=hno y hP;exact ⟨p,p1,by have:=(h.src p p1).2; omega,p2⟩
  · exact h.cov x y hge hP
theorem Bk.push {P:Int → Int → Prop} {b d z:Int} {l:List Pt} (h:Bk P b l) (hd:d < b) (hgap:∀ x y,P x y → x < b → x ≤ d) (hP:P d z) (hm:∀ y,P d y → z ≤ y) (hl:0 < l.length → z < (l.getD (l.length - 1) default).2):Bk P d (l ++ [(d,z)]):=by
  refine ⟨List.pairwise_append.2 ⟨h.desc,List.pairwise_singleton _ _,fun p hp q hq => ?_⟩,fun p hp => ?_,fun x y hx hPx => ?_⟩
  · cases List.mem_singleton.1 hq;have h1:=(h.src p hp).2;have h2:=hl (List.length_pos_of_mem hp);have h3:=desc_last h.desc hp;exact ⟨by show d < p.1; omega,by show z < p.2; omega⟩
  · rcases List.mem_append.1 hp with hp | hp
    · have:=h.src p hp; exact ⟨this.1,by omega⟩
    · cases List.mem_singleton.1 hp;exact ⟨hP,Int.le_refl _⟩
  · rcases Int.lt_or_le x b with hlt | hge
    · have:=hgap x y hPx hlt;have:x = d:=by omega
      subst this;exact ⟨_,List.mem_append.2 (.inr (List.mem_singleton.2 rfl)),Int.le_refl _,hm y hPx⟩
    · obtain ⟨p,p1,p2⟩:=h.cov x y hge hPx;exact ⟨p,List.mem_append.2 (.inl p1),p2⟩
theorem Bk.best {P:Int → Int → Prop} {b:Int} {l:List Pt} (h:Bk P b l) (hall:∀ x y,P x y → b ≤ x):BestOf P l.reverse:=
  ⟨fun p hp => (h.src p (List.mem_reverse.1 hp)).1,by unfold AscP; rw [List.pairwise_reverse]; exact h.desc,fun x y hP => by
    obtain ⟨p,p1,p2⟩:=h.cov x y (hall x y hP) hP
    exact ⟨p,List.mem_reverse.2 p1,p2⟩⟩
def DpI (ls:List Lg) (fr b:Int) (i:Nat) (z:Int):Prop:=(∀ k,k < i → (ls.getD k default).f = fr → (ls.getD k default).d < b → (ls.getD k default).d ≤ z) ∧ (z = -1 ∨ ∃ k,k < i ∧ (ls.getD k default).f = fr ∧ (ls.getD k default).d < b ∧ (ls.getD k default).d = z)
theorem DpI.zero {ls:List Lg} {fr b:Int}:DpI ls fr b 0 (-1):=⟨fun k hk => absurd hk (Nat.not_lt_zero k),.inl rfl⟩
theorem DpI.skip {ls:List Lg} {fr b z:Int} {i:Nat} (h:DpI ls fr b i z) (hn:(ls.getD i default).f = fr → ¬ (ls.getD i default).d < b):DpI ls fr b (i + 1) z:=by
  refine ⟨fun k hk h1 h2 => ?_,?_⟩
  · rcases Nat.lt_or_ge k i with h3 | h3
    · exact h.1 k h3 h1 h2
    · have:k = i:=by omega
      subst this; exact absurd h2 (hn h1)
  · rcases h.2 with h2 | ⟨k,h3,h4⟩
    · exact .inl h2
    · exact .inr ⟨k,by omega,h4⟩
theorem DpI.take {ls:List Lg} {fr b z:Int} {i:Nat} (h:DpI ls fr b i z) (h1:(ls.getD i default).f = fr) (h2:(ls.getD i default).d < b):DpI ls fr b (i + 1) (if (ls.getD i default).d > z then (ls.getD i default).d else z):=by
  refine ⟨fun k hk h3 h4 => ?_,?_⟩
  · rcases Nat.lt_or_ge k i with h5 | h5
    · have:=h.1 k h5 h3 h4; split <;> omega
    · have:k = i:=by omega
      subst this; split <;> omega
  · split
    · exact .inr ⟨i,by omega,h1,h2,rfl⟩
    · rcases h.2 with h5 | ⟨k,h3,h4⟩
      · exact .inl h5
      · exact .inr ⟨k,by omega,h4⟩
theorem DpI.gap {ls:List Lg} {ch fr to b z:Int} (h:DpI ls fr b ls.length z):∀ x y,JP ls ch fr to x y → x < b → x ≤ z:=fun x y ⟨i,r,h1,h2,h3,_⟩ hx => by
  have:=h.1 i h1.lt h2 (by omega); omega
theorem reach_iff {ls:List Lg} {ch fr d:Int} {w:List Bool} (h:AllR ls ch (BegB fr d) w) {j:Nat} (hj:j < ls.length):w.getD j false = true ↔ ∃ i r,Ch ls ch i r ∧ (ls.getD i default).f = fr ∧ d ≤ (ls.getD i default).d ∧ lastN i r = j:=by
  rw [h.2 j hj];constructor
  · rintro ⟨z,i,r,h1,h2,h3,_⟩; exact ⟨i,r,h1,h2.1,h2.2,h3⟩
  · rintro ⟨i,r,h1,h2,h3,h4⟩; exact ⟨_,i,r,h1,⟨h2,h3⟩,h4,rfl⟩
def InR (ls:List Lg) (w:List Bool) (to:Int) (i:Nat):Prop:=w.getD i false = true ∧ (ls.getD i default).t = to
theorem jp_in {ls:List Lg} {ch fr to d y:Int} {w:List Bool} (h:AllR ls ch (BegB fr d) w) (hP:JP ls ch fr to d y):∃ j,j < ls.length ∧ InR ls w to j ∧ (ls.getD j default).a = y:=by
  obtain ⟨i,r,h1,h2,h3,h4,h5⟩:=hP;exact ⟨lastN i r,h1.last_lt,⟨(reach_iff h h1.last_lt).2 ⟨i,r,h1,h2,by omega,rfl⟩,h4⟩,h5⟩
theorem bk_no {ls:List Lg} {ch fr to b d:Int} {l:List Pt} {w:List Bool} (h:Bk (JP ls ch fr to) b l) (hd:d < b) (hD:DpI ls fr b ls.length d) (hw:AllR ls ch (BegB fr d) w) (hno:∀ i,i < ls.length → ¬ InR ls w to i):Bk (JP ls ch fr to) d l:=
  h.skip hd hD.gap fun y hP => by
    obtain ⟨j,h1,h2,_⟩:=jp_in hw hP;exact absurd h2 (hno j h1)
theorem bk_late {ls:List Lg} {ch fr to b d z:Int} {l:List Pt} {w:List Bool} (h:Bk (JP ls ch fr to) b l) (hd:d < b) (hD:DpI ls fr b ls.length d) (hw:AllR ls ch (BegB fr d) w) (hm:∀ i,i < ls.length → InR ls w to i → z ≤ (ls.getD i default).a) (hl:0 < l.length) (hz:¬ z < (l.getD (l.length - 1) default).2):Bk (JP ls ch fr to) d l:=
  h.skip hd hD.gap fun y hP => by
    obtain ⟨j,h1,h2,h3⟩:=jp_in hw hP;have:=hm j h1 h2;exact ⟨_,getD_mem (d:=default) (show l.length - 1 < l.length by omega),by omega⟩
theorem bk_add {ls:List Lg} {ch fr to b d z:Int} {l:List Pt} {w:List Bool} (h:Bk (JP ls ch fr to) b l) (hd:d < b) (hD:DpI ls fr b ls.length d) (hw:AllR ls ch (BegB fr d) w) {j:Nat} (hj:j < ls.length) (hin:InR ls w to j) (hz:z = (ls.getD j default).a) (hm:∀ i,i < ls.length → InR ls w to i → z ≤ (ls.getD i default).a) (hl:0 < l.length → z < (l.getD (l.length - 1) default).2):Bk (JP ls ch fr to) d (l ++ [(d,z)]):=by
  refine h.push hd hD.gap ?_ (fun y hP => ?_) hl
  · obtain ⟨i,r,h1,h2,h3,h4⟩:=(reach_iff hw hj).1 hin.1;subst h4;have hP:JP ls ch fr to (ls.getD i default).d z:=⟨i,r,h1,h2,rfl,hin.2,hz.symm⟩;rcases Int.lt_or_le (ls.getD i default).d b with hlt | hge
    · have:=hD.gap _ _ hP hlt;have:(ls.getD i default).d = d:=by omega
      rw [this] at hP; exact hP
    · obtain ⟨p,p1,p2,p3⟩:=h.cov _ _ hge hP;have h5:=hl (List.length_pos_of_mem p1);have h6:=desc_last h.desc p1;omega
  · obtain ⟨k,h1,h2,h3⟩:=jp_in hw hP;have:=hm k h1 h2; omega
end Go.Proofs.Yteechkbnccpicaa
