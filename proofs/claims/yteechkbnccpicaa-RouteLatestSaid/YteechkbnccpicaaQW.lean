/- The best trips, by the reference. -/
import Derived.Test.YteechkbnccpicaaQV
set_option linter.unusedVariables false
set_option linter.unusedSimpArgs false
set_option linter.unusedSectionVars false

namespace Go.Proofs.Yteechkbnccpicaa
open Go Go.AM
set_option maxRecDepth 10000

structure ParU (T:Int → Int → Prop) (k:Nat) (l:List Pt):Prop where
  asc:l.Pairwise fun p q => p.1 < q.1 ∧ q.2 < p.2
  src:∀ p ∈ l,T p.1 p.2 ∧ p.1 < (k:Int)
  cov:∀ x y,x < (k:Int) → T x y → ∃ p ∈ l,p.1 ≤ x ∧ p.2 ≤ y
theorem ParU.nil {T:Int → Int → Prop} (h0:∀ x y,T x y → 0 ≤ x):ParU T 0 []:=⟨.nil,(fun p hp => by cases hp),fun x y hx hT => by have:=h0 x y hT; omega⟩
theorem ParU.no {T:Int → Int → Prop} {k:Nat} {l:List Pt} (h:ParU T k l) (hn:∀ y,T (k:Int) y → ∃ p ∈ l,p.2 ≤ y):ParU T (k + 1) l:=by
  refine ⟨h.asc,fun p hp => ⟨(h.src p hp).1,by have:=(h.src p hp).2; omega⟩,fun x y hx hT => ?_⟩
  rcases Int.lt_or_le x (k:Int) with hlt | hge
  · exact h.cov x y hlt hT
  · have:x = (k:Int):=by omega
    subst this;obtain ⟨p,p1,p2⟩:=hn y hT;exact ⟨p,p1,by have:=(h.src p p1).2; omega,p2⟩
theorem asc_last {l:List Pt} (h:l.Pairwise fun p q => p.1 < q.1 ∧ q.2 < p.2) (h0:0 < l.length) {p:Pt} (hp:p ∈ l):(l.getD (l.length - 1) default).2 ≤ p.2:=by
  obtain ⟨i,hi,rfl⟩:=List.getElem_of_mem hp;rw [List.getD_eq_getElem?_getD,List.getElem?_eq_getElem (show l.length - 1 < l.length by omega)]
  rcases Nat.lt_or_ge i (l.length - 1) with hlt | hge
  · exact Int.le_of_lt (List.pairwise_iff_getElem.1 h i (l.length - 1) hi (by omega) hlt).2
  · have:i = l.length - 1:=by omega
    subst this; exact Int.le_refl _
theorem ParU.yes {T:Int → Int → Prop} {k:Nat} {l:List Pt} (h:ParU T k l) {z:Int} (hT:T (k:Int) z) (hm:∀ y,T (k:Int) y → z ≤ y) (hl:0 < l.length → z < (l.getD (l.length - 1) default).2):ParU T (k + 1) (l ++ [((k:Int),z)]):=by
  refine ⟨List.pairwise_append.2 ⟨h.asc,List.pairwise_singleton _ _,fun p hp q hq => ?_⟩,fun p hp => ?_,fun x y hx hTx => ?_⟩
  · cases List.mem_singleton.1 hq;have h1:=(h.src p hp).2;have h0:0 < l.length:=List.length_pos_of_mem hp;have h2:=hl h0;have h3:=asc_last h.asc h0 hp;exact ⟨h1,by show z < p.2; omega⟩
  · rcases List.mem_append.1 hp with hp | hp
    · have:=h.src p hp; exact ⟨this.1,by omega⟩
    · cases List.mem_singleton.1 hp;exact ⟨hT,by show (k:Int) < _; omega⟩
  · rcases Int.lt_or_le x (k:Int) with hlt | hge
    · obtain ⟨p,p1,p2⟩:=h.cov x y hlt hTx;exact ⟨p,List.mem_append.2 (.inl p1),p2⟩
    · have:x = (k:Int):=by omega
      subst this;exact ⟨_,List.mem_append.2 (.inr (List.mem_singleton.2 rfl)),Int.le_refl _,hm y hTx⟩
def ArI (ls:List Lg) (In:Nat → Prop) (j:Nat) (z:Int):Prop:=(z = -1 ∧ ∀ i,i < j → ¬ In i) ∨ ∃ i,i < j ∧ In i ∧ z = (ls.getD i default).a ∧ ∀ i',i' < j → In i' → z ≤ (ls.getD i' default).a
theorem ArI.skip {ls:List Lg} {In:Nat → Prop} {j:Nat} {z:Int} (h:ArI ls In j z) (hn:¬ In j):ArI ls In (j + 1) z:=by
  rcases h with ⟨h1,h2⟩ | ⟨i,h1,h2,h3,h4⟩
  · exact .inl ⟨h1,fun i hi => by
      rcases Nat.lt_or_ge i j with h | h
      · exact h2 i h
      · rw [show i = j by omega]; exact hn⟩
  · exact .inr ⟨i,by omega,h2,h3,fun i' hi hx => by
      rcases Nat.lt_or_ge i' j with h | h
      · exact h4 i' h hx
      · rw [show i' = j by omega] at hx; exact absurd hx hn⟩
theorem ArI.stay {ls:List Lg} {In:Nat → Prop} {j:Nat} {z:Int} (h:ArI ls In j z) (hz:¬ z < 0) (hn:¬ (ls.getD j default).a < z):ArI ls In (j + 1) z:=by
  rcases h with ⟨h1,h2⟩ | ⟨i,h1,h2,h3,h4⟩
  · omega
  · exact .inr ⟨i,by omega,h2,h3,fun i' hi hx => by
      rcases Nat.lt_or_ge i' j with h | h
      · exact h4 i' h hx
      · rw [show i' = j by omega]; omega⟩
theorem ArI.take {ls:List Lg} {In:Nat → Prop} {j:Nat} {z:Int} (h:ArI ls In j z) (hi:In j) (hz:z < 0 ∨ (ls.getD j default).a < z) (h0:∀ i,In i → 0 ≤ (ls.getD i default).a):ArI ls In (j + 1) (ls.getD j default).a:=by
  refine .inr ⟨j,by omega,hi,rfl,fun i' hi' hx => ?_⟩
  rcases Nat.lt_or_ge i' j with hlt | hge
  · rcases h with ⟨h1,h2⟩ | ⟨i,h1,h2,h3,h4⟩
    · exact absurd hx (h2 i' hlt)
    · have:=h4 i' hlt hx;have:=h0 i h2;omega
  · rw [show i' = j by omega]; exact Int.le_refl _
def PostRp (ls:List Lg) (ch fr to at' e0:Int) (H:Heap) (u:Value) (H':Heap):Prop:=
  ∃ (v:Value) (l:List Pt) (e:Int),u = .tuple ⟨[v,.int .i64 e]⟩ ∧ Keep H H' ∧ TrV H' v l ∧ (e0 ≠ 0 → e = e0 ∧ l = []) ∧ (e0 = 0 → fr = to → e = 0 ∧ l = [(0,at')]) ∧ (e0 = 0 → fr ≠ to → ParU (TP ls ch (BegB fr at') (EndsB to 10000)) (ls.length + 1) l ∧ (l = [] → e = 10) ∧ (l ≠ [] → e = 0))
theorem ParU.len {T:Int → Int → Prop} {k:Nat} {l:List Pt} (h:ParU T k l) (h0:∀ x y,T x y → 0 ≤ x):l.length ≤ k:=by
  suffices hs:∀ (l:List Pt) (m:Int),l.Pairwise (fun p q => p.1 < q.1 ∧ q.2 < p.2) → (∀ p ∈ l,m ≤ p.1 ∧ p.1 < (k:Int)) → m ≤ (k:Int) → (l.length:Int) ≤ k - m by
    have:=hs l 0 h.asc (fun p hp => ⟨h0 _ _ (h.src p hp).1,(h.src p hp).2⟩) (by omega)
    omega
  intro l
  induction l with
  | nil => intro m _ _ hm; simp; omega
  | cons p l ih =>
    intro m hp hr hm;obtain ⟨h1,h2⟩:=List.pairwise_cons.1 hp;have hp1:=hr p (List.mem_cons_self ..);have:=ih (p.1 + 1) h2 (fun q hq => ⟨by have:=(h1 q hq).1; omega,(hr q (List.mem_cons_of_mem _ hq)).2⟩) (by omega)
    rw [List.length_cons]; omega

variable {S:AM.Sys} (hS:Only S 11)
include hS

end Go.Proofs.Yteechkbnccpicaa
