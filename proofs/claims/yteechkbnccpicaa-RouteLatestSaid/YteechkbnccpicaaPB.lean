/- A profile, by the reference: what it is. -/
import Derived.Test.YteechkbnccpicaaPA
import Derived.Test.YteechkbnccpicaaQW
set_option linter.unusedVariables false
set_option linter.unusedSimpArgs false
set_option linter.unusedSectionVars false

namespace Go.Proofs.Yteechkbnccpicaa
open Go Go.AM
set_option maxRecDepth 10000

structure Bk (P:Int → Int → Prop) (b:Int) (l:List Pt):Prop where
  desc:l.Pairwise fun p q => q.1 < p.1 ∧ q.2 < p.2
  src:∀ p ∈ l,P p.1 p.2 ∧ b ≤ p.1
  cov:∀ x y,b ≤ x → P x y → ∃ p ∈ l,x ≤ p.1 ∧ p.2 ≤ y
theorem Bk.nil {P:Int → Int → Prop} {b:Int} (h:∀ x y,P x y → x < b):Bk P b []:=⟨.nil,(fun p hp => by cases hp),fun x y hx hT => by have:=h x y hT; omega⟩
theorem desc_last {l:List Pt} (h:l.Pairwise fun p q => q.1 < p.1 ∧ q.2 < p.2) {p:Pt} (hp:p ∈ l):(l.getD (l.length - 1) default).2 ≤ p.2:=by
  obtain ⟨i,hi,rfl⟩:=List.getElem_of_mem hp;rw [List.getD_eq_getElem?_getD,List.getElem?_eq_getElem (show l.length - 1 < l.length by omega)]
  rcases Nat.lt_or_ge i (l.length - 1) with hlt | hge
  · exact Int.le_of_lt (List.pairwise_iff_getElem.1 h i (l.length - 1) hi (by omega) hlt).2
  · have:i = l.length - 1:=by omega
    subst this; exact Int.le_refl _
theorem Bk.skip {P:Int → Int → Prop} {b d:Int} {l:List Pt} (h:Bk P b l) (hd:d < b) (hgap:∀ x y,P x y → x < b → x ≤ d) (hno:∀ y,P d y → ∃ p ∈ l,p.2 ≤ y):Bk P d l:=by
  refine ⟨h.desc,fun p hp => ⟨(h.src p hp).1,by have:=(h.src p hp).2; omega⟩,fun x y hx hP => ?_⟩
  rcases Int.lt_or_le x b with hlt | hge
  · have:=hgap x y hP hlt;have:x = d:=by omega
    subst this;obtain ⟨p,p1,p2⟩:=hno y hP;exact ⟨p,p1,by have:=(h.src p p1).2; omega,p2⟩
  · exact h.cov x y hge hP
theorem Bk.push {P:Int → Int → Prop} {b d z:Int} {l:List Pt} (h:Bk P b l) (hd:d < b) (hgap:∀ x y,P x y → x < b → x ≤ d) (hP:P d z) (hm:∀ y,P d y → z ≤ y) (hl:0 < l.length → z < (l.getD (l.length - 1) default).2):Bk P d (l ++ [(d,z)]):=by
  refine ⟨List.pairwise_append.2 ⟨h.desc,List.pairwise_singleton _ _,fun p hp q hq => ?_⟩,fun p hp => ?_,fun x y hx hPx => ?_⟩
  · cases List.mem_singleton.1 hq;have h1:=(h.src p hp).2;have h2:=hl (List.length_pos_of_mem hp);have h3:=desc_last h.desc hp;exact ⟨by show d < p.1; omega,by show z < p.2; omega⟩
  · rcases List.mem_append.1 hp with hp | hp
    · have:=h.src p hp; exact ⟨this.1,by omega⟩
    · cases List.mem_singleton.1 hp;exact ⟨hP,Int.le_refl _⟩
  · rcases Int.lt_or_le x b with hlt | hge
    · have:=hgap x y hPx hlt;have:x = d:=by omega
      subst this;exact ⟨_,List.mem_append.2 (.inr (List.mem_singleton.2 rfl)),Int.le_refl _,hm y hPx⟩
    · obtain ⟨p,p1,p2⟩:=h.cov x y hge hPx;exact ⟨p,List.mem_append.2 (.inl p1),p2⟩
theorem Bk.best {P:Int → Int → Prop} {b:Int} {l:List Pt} (h:Bk P b l) (hall:∀ x y,P x y → b ≤ x):BestOf P l.reverse:=
  ⟨fun p hp => (h.src p (List.mem_reverse.1 hp)).1,by unfold AscP; rw [List.pairwise_reverse]; exact h.desc,fun x y hP => by
    obtain ⟨p,p1,p2⟩:=h.cov x y (hall x y hP) hP
    exact ⟨p,List.mem_reverse.2 p1,p2⟩⟩
def DpI (ls:List Lg) (fr b:Int) (i:Nat) (z:Int):Prop:=(∀ k,k < i → (ls.getD k default).f = fr → (ls.getD k default).d < b → (ls.getD k default).d ≤ z) ∧ (z = -1 ∨ ∃ k,k < i ∧ (ls.getD k default).f = fr ∧ (ls.getD k default).d < b ∧ (ls.getD k default).d = z)
theorem DpI.zero {ls:List Lg} {fr b:Int}:DpI ls fr b 0 (-1):=⟨fun k hk => absurd hk (Nat.not_lt_zero k),.inl rfl⟩
theorem DpI.skip {ls:List Lg} {fr b z:Int} {i:Nat} (h:DpI ls fr b i z) (hn:(ls.getD i default).f = fr → ¬ (ls.getD i default).d < b):DpI ls fr b (i + 1) z:=by
  refine ⟨fun k hk h1 h2 => ?_,?_⟩
  · rcases Nat.lt_or_ge k i with h3 | h3
    · exact h.1 k h3 h1 h2
    · have:k = i:=by omega
      subst this; exact absurd h2 (hn h1)
  · rcases h.2 with h2 | ⟨k,h3,h4⟩
    · exact .inl h2
    · exact .inr ⟨k,by omega,h4⟩
theorem DpI.take {ls:List Lg} {fr b z:Int} {i:Nat} (h:DpI ls fr b i z) (h1:(ls.getD i default).f = fr) (h2:(ls.getD i default).d < b):DpI ls fr b (i + 1) (if (ls.getD i default).d > z then (ls.getD i default).d else z):=by
  refine ⟨fun k hk h3 h4 => ?_,?_⟩
  · rcases Nat.lt_or_ge k i with h5 | h5
    · have:=h.1 k h5 h3 h4; split <;> omega
    · have:k = i:=by omega
      subst this; split <;> omega
  · split
    · exact .inr ⟨i,by omega,h1,h2,rfl⟩
    · rcases h.2 with h5 | ⟨k,h3,h4⟩
      · exact .inl h5
      · exact .inr ⟨k,by omega,h4⟩
def InR (ls:List Lg) (w:List Bool) (to:Int) (i:Nat):Prop:=w.getD i false = true ∧ (ls.getD i default).t = to
end Go.Proofs.Yteechkbnccpicaa

namespace Go.Proofs.Yteechkbnccpicaa
open Go Go.AM
set_option maxRecDepth 10000

def lexB:List Nat → List Nat → Bool
  | a :: x,b :: y => if a = b then lexB x y else decide (a < b)
  | _,_ => false
theorem lexB_iff:∀ {x y:List Nat},x.length = y.length → (lexB x y = true ↔ ¬ lexle y x)
  | [],[],_ => by simp [lexB,lexle]
  | [],_ :: _,h => by simp at h
  | _ :: _,[],h => by simp at h
  | a :: x,b :: y,h => by
    have ih:=lexB_iff (x:=x) (y:=y) (by simpa using h)
    show (if a = b then lexB x y else decide (a < b)) = true ↔ ¬ (b < a ∨ (b = a ∧ lexle y x))
    by_cases hab:a = b
    · rw [if_pos hab,ih];constructor
      · intro h1 h2;rcases h2 with h2 | h2
        · omega
        · exact h1 h2.2
      · exact fun h1 h2 => h1 (.inr ⟨hab.symm,h2⟩)
    · rw [if_neg hab,decide_eq_true_iff];constructor
      · intro h1 h2; omega
      · intro h1;rcases Nat.lt_or_ge a b with h2 | h2
        · exact h2
        · exact absurd (.inl (by omega)) h1
def LvJ (ls:List Lg) (ch:Int) (B:Lg → Prop) (k i:Nat) (x:List Nat):Prop:=
  (x = [] ∧ ∀ j s,Ch ls ch j s → B (ls.getD j default) → lastN j s = i → s.length ≠ k) ∨
  ∃ j s,x = j :: s ∧ Ch ls ch j s ∧ B (ls.getD j default) ∧ lastN j s = i ∧ s.length = k ∧ ∀ j' s',Ch ls ch j' s' → B (ls.getD j' default) → lastN j' s' = i → s'.length = k → lexle (j :: s) (j' :: s')
def LevR (ls:List Lg) (ch:Int) (B:Lg → Prop) (k:Nat) (w:List (List Nat)):Prop:=w.length = ls.length ∧ ∀ i,i < ls.length → LvJ ls ch B k i (w.getD i [])
def GrI (ls:List Lg) (ch:Int) (pw:List (List Nat)) (i q:Nat) (x:List Nat):Prop:=
  (x = [] ∧ ∀ p,p < q → pw.getD p [] ≠ [] → ¬ jn ls ch p i) ∨
  ∃ p,p < q ∧ pw.getD p [] ≠ [] ∧ jn ls ch p i ∧ x = pw.getD p [] ++ [i] ∧ ∀ p',p' < q → pw.getD p' [] ≠ [] → jn ls ch p' i → lexle x (pw.getD p' [] ++ [i])
variable {ls:List Lg} {ch:Int} {B:Lg → Prop}
theorem LvJ.len {k i:Nat} {x:List Nat} (h:LvJ ls ch B k i x) (hx:x ≠ []):x.length = k + 1:=by
  rcases h with ⟨h,_⟩ | ⟨j,s,rfl,_,_,_,h,_⟩
  · exact absurd h hx
  · simp [h]
theorem GrI.zero {pw:List (List Nat)} {i:Nat}:GrI ls ch pw i 0 []:=.inl ⟨rfl,fun p hp => absurd hp (Nat.not_lt_zero p)⟩
theorem GrI.skip {pw:List (List Nat)} {i q:Nat} {x:List Nat} (h:GrI ls ch pw i q x) (hn:pw.getD q [] ≠ [] → ¬ jn ls ch q i):GrI ls ch pw i (q + 1) x:=by
  rcases h with ⟨h1,h2⟩ | ⟨p,h1,h2,h3,h4,h5⟩
  · refine .inl ⟨h1,fun p hp h3 => ?_⟩
    rcases Nat.lt_or_ge p q with h | h
    · exact h2 p h h3
    · have:p = q:=by omega
      subst this; exact hn h3
  · refine .inr ⟨p,by omega,h2,h3,h4,fun p' hp h6 h7 => ?_⟩
    rcases Nat.lt_or_ge p' q with h | h
    · exact h5 p' h h6 h7
    · have:p' = q:=by omega
      subst this; exact absurd h7 (hn h6)
theorem GrI.first {pw:List (List Nat)} {i q:Nat} (h:GrI ls ch pw i q []) (hq:pw.getD q [] ≠ []) (hj:jn ls ch q i):GrI ls ch pw i (q + 1) (pw.getD q [] ++ [i]):=by
  rcases h with ⟨h1,h2⟩ | ⟨p,_,_,_,h4,_⟩
  · refine .inr ⟨q,by omega,hq,hj,rfl,fun p' hp h6 h7 => ?_⟩
    rcases Nat.lt_or_ge p' q with h | h
    · exact absurd h7 (h2 p' h h6)
    · have:p' = q:=by omega
      subst this; exact lexle.refl _
  · simp at h4
theorem GrI.less {pw:List (List Nat)} {i q:Nat} {x:List Nat} (h:GrI ls ch pw i q x) (hq:pw.getD q [] ≠ []) (hj:jn ls ch q i) (hl:lexle (pw.getD q [] ++ [i]) x):GrI ls ch pw i (q + 1) (pw.getD q [] ++ [i]):=by
  rcases h with ⟨h1,h2⟩ | ⟨p,h1,h2,h3,h4,h5⟩
  · subst h1; exact GrI.first (.inl ⟨rfl,h2⟩) hq hj
  · refine .inr ⟨q,by omega,hq,hj,rfl,fun p' hp h6 h7 => ?_⟩
    rcases Nat.lt_or_ge p' q with h | h
    · exact hl.trans (h5 p' h h6 h7)
    · have:p' = q:=by omega
      subst this; exact lexle.refl _
theorem GrI.stay {pw:List (List Nat)} {i q:Nat} {x:List Nat} (h:GrI ls ch pw i q x) (hx:x ≠ []) (hl:lexle x (pw.getD q [] ++ [i])):GrI ls ch pw i (q + 1) x:=by
  rcases h with ⟨h1,_⟩ | ⟨p,h1,h2,h3,h4,h5⟩
  · exact absurd h1 hx
  · refine .inr ⟨p,by omega,h2,h3,h4,fun p' hp h6 h7 => ?_⟩
    rcases Nat.lt_or_ge p' q with h | h
    · exact h5 p' h h6 h7
    · have:p' = q:=by omega
      subst this; exact hl
theorem GrI.done {pw:List (List Nat)} {k i:Nat} {x:List Nat} (hpw:LevR ls ch B k pw) (hi:i < ls.length) (h:GrI ls ch pw i ls.length x):LvJ ls ch B (k + 1) i x:=by
  have hpre:∀ j s,Ch ls ch j s → B (ls.getD j default) → lastN j s = i → s.length = k + 1 → ∃ s',s = s' ++ [i] ∧ Ch ls ch j s' ∧ s'.length = k ∧ jn ls ch (lastN j s') i:=fun j s h1 h2 h3 h4 => by
    rcases List.eq_nil_or_concat s with rfl | ⟨s',q,rfl⟩
    · simp at h4
    · rw [List.concat_eq_append] at h1 h3 h4 ⊢;rw [lastN_snoc] at h3;subst h3;obtain ⟨k1,k2,k3⟩:=Ch.snoc.1 h1;exact ⟨s',rfl,k1,by simpa using h4,k2⟩
  rcases h with ⟨h1,h2⟩ | ⟨p,h1,h2,h3,h4,h5⟩
  · refine .inl ⟨h1,fun j s g1 g2 g3 g4 => ?_⟩
    obtain ⟨s',rfl,e1,e2,e3⟩:=hpre j s g1 g2 g3 g4;have hlt:=e1.last_lt;rcases hpw.2 _ hlt with ⟨_,f2⟩ | ⟨j2,s2,f1,_⟩
    · exact f2 j s' e1 g2 rfl e2
    · exact h2 _ hlt (by rw [f1]; simp) e3
  · rcases hpw.2 p h1 with ⟨f1,_⟩ | ⟨j,s,f1,f2,f3,f4,f5,f6⟩
    · exact absurd f1 h2
    · refine .inr ⟨j,s ++ [i],by rw [h4,f1]; rfl,Ch.snoc.2 ⟨f2,by rw [f4]; exact h3,hi⟩,f3,lastN_snoc,by simp [f5],fun j' s' g1 g2 g3 g4 => ?_⟩
      obtain ⟨s2,rfl,e1,e2,e3⟩:=hpre j' s' g1 g2 g3 g4;have hlt:=e1.last_lt;rcases hpw.2 _ hlt with ⟨_,k2⟩ | ⟨j3,s3,k1,k2,k3,k4,k5,k6⟩
      · exact absurd e2 (k2 j' s2 e1 g2 rfl)
      · have h6:=h5 _ hlt (by rw [k1]; simp) e3
        have h7:=k6 j' s2 e1 g2 rfl e2;rw [k1,h4,f1] at h6;have h8:lexle ((j3 :: s3) ++ [i]) ((j' :: s2) ++ [i]):=(lexle.snoc (by simp [k5,e2])).2 h7
        exact h6.trans h8
/-! In memory. -/
def jE:Enc (List Nat) where
  sz:=1
  At:=fun H x cs => (sliceE (intE .i64)).At H (castL x) cs ∧ (x = [] → cs = [.slice none 0 0]) ∧ (x ≠ [] → ∃ a n c,cs = [.slice (some a) n c])
  len:=fun h => (sliceE (intE .i64)).len h.1
  keep:=fun hk h => ⟨(sliceE (intE .i64)).keep hk h.1,h.2⟩
theorem stable_j:Stable jE 0:=fun hk h => ⟨stable_slice (stable_int _ _) hk h.1,h.2⟩
def CelL (L:Nat) (X:Heap) (v:Value) (x:List Nat):Prop:=(x = [] ∧ v = .slice none 0 0) ∨ (x ≠ [] ∧ JL L X v x ∧ x.length ≤ 100000 ∧ ∀ i ∈ x,i ≤ 1000)
theorem CelL.keep {L:Nat} {X Y:Heap} {v:Value} {x:List Nat} (h:CelL L X v x) (k:Keep X Y):CelL L Y v x:=by
  rcases h with h | ⟨h1,h2,h3⟩
  · exact .inl h
  · exact .inr ⟨h1,h2.keep k,h3⟩
theorem lst_keepXJ {x L:Nat} {H H':Heap} {v:Value} {w:List Int} (h:LstG (intE .i64) 3 L H v w) (hk:KeepX x H H') (hL:x < L):LstG (intE .i64) 3 L H' v w:=by
  rcases h with h | ⟨b,r,cells,h1,h2,h3,h4,h5,h6,h7⟩
  · exact .inl h
  · have hm:=hk.mem (2 * b + 1) (by omega)
    refine .inr ⟨b,r,cells,h1,Nat.lt_of_lt_of_le h2 hk.size,⟨?_,by rw [hm]; exact h3.mem,Nat.lt_of_lt_of_le h3.lt hk.size,h3.ge⟩,fun q hq => ?_,h5,h6,h7⟩
    · exact (hk.row r _ (by have:=h3.ge; omega) h3.lt h3.get).1
    · rw [hm] at hq;obtain ⟨row,k1,k2,k3,k4,k5⟩:=h4 q hq;exact ⟨row,(hk.row q row (by omega) k4 k1).1,k2,k3,Nat.lt_of_lt_of_le k4 hk.size,k5⟩
theorem CelL.keepX {nr:Nat} {X Y:Heap} {v:Value} {x:List Nat} (h:CelL (nr + 1) X v x) (k:KeepX nr X Y):CelL (nr + 1) Y v x:=by
  rcases h with h | ⟨h1,h2,h3⟩
  · exact .inl h
  · refine .inr ⟨h1,?_,h3⟩;rcases h2 with ⟨i,r,e1,e2,e3,e4,e5⟩ | ⟨e1,e2⟩
    · exact .inl ⟨i,r,e1,e2,e3,e4,⟨(k.row r _ (by omega) e5.lt e5.get).1,Nat.lt_of_lt_of_le e5.lt k.size⟩⟩
    · exact .inr ⟨e1,lst_keepXJ e2 k (Nat.lt_succ_self _)⟩
theorem CelL.at {L:Nat} {X:Heap} {v:Value} {x:List Nat} (h:CelL L X v x):jE.At X x [v]:=by
  rcases h with ⟨rfl,rfl⟩ | ⟨h1,h2,h3,h4⟩
  · exact ⟨⟨_,0,0,rfl,nilI X⟩,fun _ => rfl,fun h => absurd rfl h⟩
  · obtain ⟨r,hs⟩:=h2.sl h3 h4;refine ⟨⟨_,r,0,rfl,hs⟩,fun h => absurd h h1,fun _ => ?_⟩
    obtain ⟨a,c,e,ha⟩:=hs.isv;have hp:0 < (castL x).length:=by rw [castL_len]; exact List.length_pos_iff.2 h1
    rw [ha hp] at e;exact ⟨_,_,_,by rw [e]⟩
structure RW (A X:Heap) (nr:Nat) (w:List (List Nat)) (n:Nat):Prop where
  keep:Keep A X
  len:w.length = n
  row:∃ vals:List Value,vals.length = n ∧ Own X nr 25 vals ∧ ∀ i,i < n → CelL (nr + 1) X (vals.getD i (.slice none 0 0)) (w.getD i [])
theorem RW.more {A X Y:Heap} {nr n:Nat} {w:List (List Nat)} (h:RW A X nr w n) (k:Keep X Y):RW A Y nr w n:=⟨h.keep.trans k,h.len,by
  obtain ⟨vals,h1,h2,h3⟩:=h.row
  exact ⟨vals,h1,h2.keep k,fun i hi => (h3 i hi).keep k⟩⟩
theorem read_v {X:Heap} {nr:Nat} {vals:List Value} (o:Own X nr 25 vals) {i:Nat} (hi:i < vals.length):X.read nr i 1 = some [vals.getD i (.slice none 0 0)]:=by
  rw [o.read (o:=i) (n:=1) (by omega),List.drop_eq_getElem_cons hi,List.getD_eq_getElem?_getD,List.getElem?_eq_getElem hi]; rfl
theorem RW.get {A X:Heap} {nr n:Nat} {w:List (List Nat)} (h:RW A X nr w n) {i:Nat} (hi:i < n):∃ v,X.read nr i 1 = some [v] ∧ CelL (nr + 1) X v (w.getD i []):=by
  obtain ⟨vals,h1,h2,h3⟩:=h.row;exact ⟨_,read_v h2 (by omega),h3 i hi⟩
theorem splice_one {vals:List Value} {o:Nat} (ho:o < vals.length) (v:Value):splice vals o [v] = vals.set o v:=by
  unfold splice;apply List.ext_getElem?;intro i;simp only [List.length_cons,List.length_nil];rw [List.getElem?_set];rcases Nat.lt_trichotomy i o with h | h | h
  · rw [List.getElem?_append_left (by simp; omega),List.getElem?_take,if_pos h,if_neg (by omega)]
  · subst h;rw [List.getElem?_append_right (by simp; omega),if_pos rfl,if_pos ho]
    rw [List.length_take,Nat.min_eq_left (Nat.le_of_lt ho),Nat.sub_self]; rfl
  · rw [List.getElem?_append_right (by simp; omega),if_neg (by omega),List.getElem?_append_right (by simp; omega),List.getElem?_drop]
    congr 1;simp; omega
theorem RW.set {A X:Heap} {nr n:Nat} {w:List (List Nat)} (h:RW A X nr w n) (hg:Grp A) (hr:A.size ≤ nr) {i:Nat} (hi:i < n) {v:Value} {x:List Nat} (hc:CelL (nr + 1) X v x) {a:Option Addr} {m c:Nat} (hv:v = .slice a m c) :
    ∃ Y,aStore Try.prog X 25 (.pointer (some ⟨nr,i,none⟩)) v = some Y ∧ RW A Y nr (w.set i x) n:=by
  obtain ⟨vals,h1,h2,h3⟩:=h.row;subst hv;obtain ⟨Y,k1,k2,k3,_⟩:=h2.storeX (P:=Try.prog) (t:=25) (i:=Try.t25) (by kernel_rfl) (v:=.slice a m c) (new:=[.slice a m c]) rfl (by kernel_rfl) rfl (o:=i) (by show i + 1 ≤ vals.length; omega)
  rw [splice_one (by omega)] at k2
  refine ⟨Y,k1,k3.base A hg h.keep hr,by rw [List.length_set]; exact h.len,_,by rw [List.length_set]; exact h1,k2,fun j hj => ?_⟩
  by_cases hij:i = j
  · subst hij;rw [List.getD_eq_getElem?_getD,List.getElem?_set_self (by omega),List.getD_eq_getElem?_getD,List.getElem?_set_self (by have:=h.len; omega)]
    exact hc.keepX k3
  · rw [List.getD_eq_getElem?_getD,List.getElem?_set_ne hij,← List.getD_eq_getElem?_getD,setD_other (Ne.symm hij)];exact (h3 j hj).keepX k3
theorem RW.sl {A X:Heap} {nr n:Nat} {w:List (List Nat)} (h:RW A X nr w n) (hn:n ≤ 1000):SlE jE X (.slice (some ⟨nr,0,none⟩) w.length w.length) w nr 0:=by
  obtain ⟨vals,h1,h2,h3⟩:=h.row;have hl:=h.len;refine ⟨⟨_,_,rfl,fun _ => rfl⟩,fun i hi => ⟨_,?_,(h3 i (by omega)).at⟩,fun _ => h2.lt,by have:Go.maxLen = 9223372036854775807:=rfl; omega⟩
  have h4:=read_v h2 (i:=i) (by omega)
  rwa [show 0 + i * jE.sz = i by show 0 + i * 1 = i; omega]
theorem mkJ (H:Heap) {n:Nat} (h:n ≤ 60):∃ H2,aMakeSlice Try.prog H 83 (.int .i64 (n:Int)) (.int .i64 (n:Int)) = some (.slice (some ⟨H.size,0,none⟩) n n,H2) ∧ RW H H2 H.size (List.replicate n []) n:=by
  have h2:=makeSlice_eq (P:=Try.prog) (t:=83) (e:=25) (inf:=Try.t25) (z:=.slice none 0 0) Try.underlying83 (by kernel_rfl) (by kernel_rfl) rfl (by kernel_rfl) (of_decide_eq_true (by kernel_rfl)) H .i64 .i64 (l:=(n:Int)) (by omega) (by omega)
  have h3:Try.t25.size = 1:=by kernel_rfl
  rw [h3,Nat.mul_one,Int.toNat_natCast] at h2;refine ⟨_,h2,Keep.newExact _ _ _,by simp,List.replicate n (.slice none 0 0),by simp,Own.new _ _ _,fun i hi => ?_⟩
  have e1:(List.replicate n (Value.slice none 0 0)).getD i (.slice none 0 0) = .slice none 0 0:=by rw [List.getD_eq_getElem?_getD,List.getElem?_replicate]; split <;> rfl
  have e2:(List.replicate n ([] : List Nat)).getD i [] = []:=by rw [List.getD_eq_getElem?_getD,List.getElem?_replicate]; split <;> rfl
  rw [e1,e2];exact .inl ⟨rfl,rfl⟩
theorem eqNil (a:Addr) (n c:Nat):binP Try.prog .eql 25 (.slice (some a) n c) (.slice none 0 0) = some (.bool false):=by kernel_rfl
theorem eqNil0:binP Try.prog .eql 25 (.slice none 0 0) (.slice none 0 0) = some (.bool true):=by kernel_rfl
theorem neNil (a:Addr) (n c:Nat):binP Try.prog .neq 25 (.slice (some a) n c) (.slice none 0 0) = some (.bool true):=by kernel_rfl
theorem neNil0:binP Try.prog .neq 25 (.slice none 0 0) (.slice none 0 0) = some (.bool false):=by kernel_rfl
theorem lenJ (a:Option Addr) (n c:Nat):aLen Try.prog #[83] (.slice a n c) = some (.int .i64 n):=by kernel_rfl
theorem lenJJ (a:Option Addr) (n c:Nat):aLen Try.prog #[56] (.slice a n c) = some (.int .i64 n):=by kernel_rfl
theorem ldJ (H:Heap) (r o:Nat):aLoad Try.prog H 83 (.pointer (some ⟨r,o,none⟩)) = (H.read r o 1).bind one1:=by kernel_rfl
theorem ixJ (r o n c:Nat) (k:IntKind) (i:Int):Zaaa Try.prog 83 (.slice (some ⟨r,o,none⟩) n c) (.int k i) = if 0 ≤ i ∧ i < (n:Int) then some (.pointer (some ⟨r,o + i.toNat * 1,none⟩)) else none:=by kernel_rfl
theorem ixJJ (r o n c:Nat) (k:IntKind) (i:Int):Zaaa Try.prog 56 (.slice (some ⟨r,o,none⟩) n c) (.int k i) = if 0 ≤ i ∧ i < (n:Int) then some (.pointer (some ⟨r,o + i.toNat * 1,none⟩)) else none:=by kernel_rfl
theorem ixJn {r n k:Nat} (h:k < n):Zaaa Try.prog 83 (.slice (some ⟨r,0,none⟩) n n) (.int .i64 (k:Int)) = some (.pointer (some ⟨r,k,none⟩)):=by
  rw [ixJ,if_pos ⟨by omega,by omega⟩,Int.toNat_natCast,Nat.mul_one,Nat.zero_add]
theorem row_at {X:Heap} {w:List (List Nat)} {r o:Nat} {a:Option Addr} {c:Nat} (h:SlE jE X (.slice a w.length c) w r o) {k:Nat} (hk:k < w.length) :
    Zaaa Try.prog 83 (.slice a w.length c) (.int .i64 (k:Int)) = some (.pointer (some ⟨r,o + k,none⟩)) ∧ ∃ v,X.read r (o + k) 1 = some [v] ∧ jE.At X (w.getD k []) [v]:=by
  obtain ⟨a',c',e,ha⟩:=h.isv;cases e;refine ⟨by rw [ha (by omega),ixJ,if_pos ⟨by omega,by omega⟩,Int.toNat_natCast,Nat.mul_one],?_⟩
  obtain ⟨es,h1,h2⟩:=h.rd k hk;have h1:X.read r (o + k * 1) 1 = some es:=h1;rw [Nat.mul_one] at h1;obtain ⟨v,r',o',rfl,_⟩:=h2.1;exact ⟨v,h1,h2⟩
theorem jE_cases {X:Heap} {x:List Nat} {v:Value} (h:jE.At X x [v]):(x = [] ∧ v = .slice none 0 0) ∨ (x ≠ [] ∧ ∃ a c r o,v = .slice (some a) x.length c ∧ SlI .i64 X v (castL x) r o):=by
  obtain ⟨⟨v',r,o,e,hs⟩,h2,h3⟩:=h;cases e
  by_cases hx:x = []
  · exact .inl ⟨hx,(List.cons.inj (h2 hx)).1⟩
  · obtain ⟨a,n,c,e⟩:=h3 hx;have e:=(List.cons.inj e).1;subst e;obtain ⟨a',c',e',_⟩:=hs.isv;rw [castL_len] at e';cases e';exact .inr ⟨hx,a,_,r,o,rfl,hs⟩
end Go.Proofs.Yteechkbnccpicaa

namespace Go.Proofs.Yteechkbnccpicaa
open Go Go.AM
set_option maxRecDepth 10000

theorem castL_at {x:List Nat} {k:Nat} (hk:k < x.length):(castL x).getD k 0 = ((x.getD k 0:Nat):Int):=by
  unfold castL;rw [List.getD_eq_getElem?_getD,List.getD_eq_getElem?_getD,List.getElem?_map,List.getElem?_eq_getElem hk]; rfl
theorem nat_at {X:Heap} {x:List Nat} {r o:Nat} {a:Option Addr} {c:Nat} (h:SlI .i64 X (.slice a x.length c) (castL x) r o) {k:Nat} (hk:k < x.length) :
    ∃ q,Zaaa Try.prog 25 (.slice a x.length c) (.int .i64 (k:Int)) = some (.pointer (some ⟨r,q,none⟩)) ∧ X.read r q 1 = some [.int .i64 ((x.getD k 0:Nat):Int)]:=by
  have hk2:k < (castL x).length:=by rw [castL_len]; exact hk
  have h':SlI .i64 X (.slice a (castL x).length c) (castL x) r o:=by rw [castL_len]; exact h
  have h1:=SlI_at h' hk2;rw [castL_len,castL_at hk] at h1;exact ⟨_,h1⟩
def anyB (w:List (List Nat)):Bool:=w.any fun x => !x.isEmpty
theorem jE_nil {X:Heap} {x:List Nat} {v:Value} (h:jE.At X x [v]):binP Try.prog .eql 25 v (.slice none 0 0) = some (.bool x.isEmpty) ∧ binP Try.prog .neq 25 v (.slice none 0 0) = some (.bool (!x.isEmpty)):=by
  rcases jE_cases h with ⟨rfl,rfl⟩ | ⟨h1,a,c,r,o,rfl,_⟩
  · exact ⟨eqNil0,neNil0⟩
  · cases x with
    | nil => exact absurd rfl h1
    | cons y x => exact ⟨eqNil _ _ _,neNil _ _ _⟩

variable {S:AM.Sys} (hS:Only S 11)
include hS

theorem rLess_runs (x y:List Nat) (hxy:x.length = y.length) (v1 v2:Value) (r1 o1 r2 o2:Nat) (H:Heap) (hL:H.low ≤ H.size) (h1:SlI .i64 H v1 (castL x) r1 o1) (h2:SlI .i64 H v2 (castL y) r2 o2):Runs Try.prog S (.fn 51) [v1,v2] H (.bool (lexB x y)) H:=by
  obtain ⟨b0,hb0⟩:∃ b0,lexB x y = b0:=⟨_,rfl⟩;rw [hb0]
  suffices h:WCall Try.prog S (.fn 51) [v1,v2] H (fun v H' => v = .bool b0 ∧ H' = H) by
    obtain ⟨_,_,hr,rfl,rfl⟩:=h; exact hr
  have hob:=h1.v0;obtain ⟨a1,c1,rfl⟩:=hob;have hob:=h2.v0;obtain ⟨a2,c2,rfl⟩:=hob;rw [castL_len] at h1 h2 ⊢;rw [castL_len];have hml:x.length ≤ 9223372036854775807:=by have h:=h1.ml; rw [castL_len] at h; exact h
  refine Zabc Try.func51 rfl (Nat.le_of_ble_eq_true rfl) (hS.no rfl _ _) ?_
  rw [Try.ntmps51,Try.results51];have hx1:x.length ≤ y.length:=by omega
  have hx2:y.length ≤ x.length:=by omega
  clear hxy
  repeat' simp only [↓Zabz,↓Zacb,↓Zaaj,↓Zabw,↓Zaca,↓Zacy,↓Zacx,↓Zadd,↓Zaan,↓bxPut,↓Zabu,↓Zabs,↓Zadb,↓Zadc,↓Zabg,Zabo,Nat.reduceLT, *]
  refine sxL_of (fun m ρ H1 => ∃ k:Nat,m = x.length - k ∧ k ≤ x.length ∧ H1 = H ∧ lexB (x.drop k) (y.drop k) = b0 ∧ ρ 0 = .slice a1 x.length c1 ∧ ρ 1 = .slice a2 y.length c2 ∧ ρ 5 = .int .i64 (k:Int))
    ⟨0,rfl,Nat.zero_le _,rfl,hb0,rfl,rfl,rfl⟩ ?_
  clear hb0;rintro m ρ H1 ⟨k,rfl,hk,rfl,hlx,e0,e1,e5⟩
  by_cases hlt:k < x.length
  · have hlt':(k:Int) < (x.length:Int):=by omega
    have hw:IntKind.i64.wrap ((k:Int) + 1) = ((k + 1:Nat):Int):=IntWalk.i64_in _ (by omega)
    have hob:=nat_at h1 hlt;obtain ⟨q1,ix1,rd1⟩:=hob;have hob:=nat_at h2 (k:=k) (by omega)
    obtain ⟨q2,ix2,rd2⟩:=hob;have hdr:lexB (x.drop k) (y.drop k) = if x.getD k 0 = y.getD k 0 then lexB (x.drop (k + 1)) (y.drop (k + 1)) else decide (x.getD k 0 < y.getD k 0):=by
      rw [List.drop_eq_getElem_cons hlt,List.drop_eq_getElem_cons (show k < y.length by omega),List.getD_eq_getElem?_getD,List.getD_eq_getElem?_getD,List.getElem?_eq_getElem hlt,List.getElem?_eq_getElem (show k < y.length by omega)]
      rfl
    by_cases heq:x.getD k 0 = y.getD k 0
    · have d1:decide (¬ ((x.getD k 0:Nat):Int) = ((y.getD k 0:Nat):Int)) = false:=decide_eq_false (fun h => h (by omega))
      rw [hdr,if_pos heq] at hlx;clear h1 h2 hdr heq hx1 hx2
      repeat' (first | simp only [↓Zacc,↓Zabx,↓Zabz,↓Zacb,↓Zaai,↓Zabw,↓Zaby,↓Zaca,↓Zacy,↓Zacx,↓Zacq,↓Zaak,↓Zacl,↓sxDL_assign,↓Zack,↓Zacg,↓Zacj,↓Zacp,↓Zadd,↓Zaaw,↓Zaan,↓Zaav,↓Zaao,↓Zaat,↓Zaau,↓bxPut,↓Zabu,↓Zabt,↓Zabv,↓Zaag,↓Zaah,↓Zaaf,↓Zabm,↓Zabl,↓Zabn,↓Zabs,↓Zadb,↓Zadc,↓Zade,↓Zabi,↓Zabg,Zacz,Zaae,Zabk,Zacw,Zacv,Zabo,↓reduceIte,Nat.reduceEqDiff,Nat.reduceLT,dec_T,true_and,Zaab,one1,Option.bind_some, *,lenIs,ldC,one1] | (with_reducible first | refine Zacf (by assumption) (by decide +kernel) ?_ | refine Zace (by decide +kernel) ?_ | refine Zaco (by decide +kernel) ?_ | refine Zach ?_))
      exact ⟨x.length - (k + 1),by omega,k + 1,rfl,by omega,hlx,rfl⟩
    · have d1:decide (¬ ((x.getD k 0:Nat):Int) = ((y.getD k 0:Nat):Int)) = true:=decide_eq_true (fun h => heq (by omega))
      rw [hdr,if_neg heq] at hlx;have d2:decide (((x.getD k 0:Nat):Int) < ((y.getD k 0:Nat):Int)) = decide (x.getD k 0 < y.getD k 0):=decide_eq_decide.2 (by omega)
      rw [← d2] at hlx;clear h1 h2 hdr heq hx1 hx2 d2
      repeat' (first | simp only [↓Zacc,↓Zabx,↓Zabz,↓Zacb,↓Zaai,↓Zabw,↓Zaby,↓Zaca,↓Zacy,↓Zacx,↓Zacq,↓Zaak,↓Zacl,↓sxDL_assign,↓Zack,↓Zacg,↓Zacj,↓Zacp,↓Zadd,↓Zaaw,↓Zaan,↓Zaav,↓Zaao,↓Zaat,↓Zaau,↓bxPut,↓Zabu,↓Zabt,↓Zabv,↓Zaag,↓Zaah,↓Zaaf,↓Zabm,↓Zabl,↓Zabn,↓Zabs,↓Zadb,↓Zadc,↓Zade,↓Zabi,↓Zabg,Zacz,Zaae,Zabk,Zacw,Zabo,↓reduceIte,Nat.reduceEqDiff,Nat.reduceLT,dec_T,and_self,Zaab,one1,Option.bind_some, *,lenIs,ldC,one1] | (with_reducible first | refine Zacf (by assumption) (by decide +kernel) ?_ | refine Zace (by decide +kernel) ?_ | refine Zaco (by decide +kernel) ?_ | refine Zach ?_))
  · have hlt':¬ (k:Int) < (x.length:Int):=by omega
    rw [List.drop_eq_nil_of_le (show x.length ≤ k by omega)] at hlx
    replace hlx:b0 = false:=hlx.symm;clear h1 h2 hx1 hx2
    repeat' (first | simp only [↓Zacc,↓Zabx,↓Zabz,↓Zacb,↓Zaai,↓Zabw,↓Zaby,↓Zaca,↓Zacy,↓Zacx,↓Zacq,↓Zaak,↓Zacl,↓sxDL_assign,↓Zack,↓Zacg,↓Zacj,↓Zadd,↓Zaaw,↓Zaan,↓Zaav,↓Zaao,↓Zaat,↓Zaau,↓bxPut,↓Zabu,↓Zabt,↓Zabv,↓Zaag,↓Zaah,↓Zaaf,↓Zabm,↓Zabl,↓Zabn,↓Zabs,↓Zadb,↓Zadc,↓Zade,↓Zabi,↓Zabg,Zacz,Zaae,Zabk,Zacv,Zabo,↓reduceIte,Nat.reduceEqDiff,Nat.reduceLT,dec_F,and_self, *,lenIs] | (with_reducible first | refine Zacf (by assumption) (by decide +kernel) ?_ | refine Zace (by decide +kernel) ?_ | refine Zaco (by decide +kernel) ?_ | refine Zach ?_))

theorem rSome_runs (w:List (List Nat)) (v:Value) (r o:Nat) (H:Heap) (h:SlE jE H v w r o):Runs Try.prog S (.fn 52) [v] H (.bool (anyB w)) H:=by
  obtain ⟨b0,hb0⟩:∃ b0,anyB w = b0:=⟨_,rfl⟩;rw [hb0]
  suffices h:WCall Try.prog S (.fn 52) [v] H (fun v H' => v = .bool b0 ∧ H' = H) by
    obtain ⟨_,_,hr,rfl,rfl⟩:=h; exact hr
  have hob:=h.v0;obtain ⟨a,c,rfl⟩:=hob;have hml:w.length ≤ 9223372036854775807:=h.ml;refine Zabc Try.func52 rfl (Nat.le_of_ble_eq_true rfl) (hS.no rfl _ _) ?_
  rw [Try.ntmps52,Try.results52]
  repeat' simp only [↓Zabz,↓Zacb,↓Zaaj,↓Zabw,↓Zaca,↓Zacy,↓Zacx,↓Zadd,↓Zaan,↓bxPut,↓Zabu,↓Zabs,↓Zadb,↓Zadc,↓Zabg,Zabo,Nat.reduceLT, *]
  refine sxL_of (fun m ρ H1 => ∃ k:Nat,m = w.length - k ∧ k ≤ w.length ∧ H1 = H ∧ anyB (w.drop k) = b0 ∧ ρ 0 = .slice a w.length c ∧ ρ 3 = .int .i64 (k:Int))
    ⟨0,rfl,Nat.zero_le _,rfl,hb0,rfl,rfl⟩ ?_
  clear hb0;rintro m ρ H1 ⟨k,rfl,hk,rfl,hax,e0,e3⟩
  by_cases hlt:k < w.length
  · have hlt':(k:Int) < (w.length:Int):=by omega
    have hw:IntKind.i64.wrap ((k:Int) + 1) = ((k + 1:Nat):Int):=IntWalk.i64_in _ (by omega)
    have hob:=row_at h hlt;obtain ⟨ix1,v1,rd1,at1⟩:=hob;have hob:=jE_nil at1;obtain ⟨_,nn⟩:=hob;have hdr:anyB (w.drop k) = ((!(w.getD k []).isEmpty) || anyB (w.drop (k + 1))):=by
      rw [List.drop_eq_getElem_cons hlt,List.getD_eq_getElem?_getD,List.getElem?_eq_getElem hlt];rfl
    have hon:one1 [v1] = some v1:=by
      rcases jE_cases at1 with ⟨_,rfl⟩ | ⟨_,a,c,r,o,rfl,_⟩ <;> rfl
    rw [hdr] at hax;have hgb:∃ b,b = (w.getD k []).isEmpty:=⟨_,rfl⟩;obtain ⟨b,hb⟩:=hgb;rw [← hb] at hax nn;cases b with
    | true =>
      replace hax:anyB (w.drop (k + 1)) = b0:=hax;replace nn:binP Try.prog .neq 25 v1 (.slice none 0 0) = some (.bool false):=nn;clear h at1 hb hdr
      repeat' simp only [↓Zacc,↓Zabz,↓Zacb,↓Zaai,↓Zabw,↓Zaby,↓Zaca,↓Zacy,↓Zacx,↓Zadd,↓Zaaw,↓Zaan,↓Zaav,↓Zaao,↓Zaat,↓Zaau,↓bxPut,↓Zabu,↓Zabt,↓Zabv,↓Zaag,↓Zaah,↓Zaaf,↓Zabm,↓Zabl,↓Zabn,↓Zabs,↓Zadb,↓Zadc,↓Zade,↓Zabi,↓Zabg,Zacz,Zaae,Zabk,Zacw,Zacv,Zabo,↓reduceIte,Nat.reduceEqDiff,Nat.reduceLT,dec_T,true_and,one1,Option.bind_some, *,lenJ,ldIs]
      exact ⟨w.length - (k + 1),by omega,k + 1,rfl,by omega,hax,rfl⟩
    | false =>
      replace hax:b0 = true:=hax.symm;replace nn:binP Try.prog .neq 25 v1 (.slice none 0 0) = some (.bool true):=nn;clear h at1 hb hdr
      repeat' simp only [↓Zacc,↓Zabz,↓Zacb,↓Zaai,↓Zabw,↓Zaby,↓Zaca,↓Zacy,↓Zacx,↓Zadd,↓Zaaw,↓Zaan,↓Zaav,↓Zaao,↓Zaat,↓Zaau,↓bxPut,↓Zabu,↓Zabt,↓Zabv,↓Zaag,↓Zaah,↓Zaaf,↓Zabm,↓Zabl,↓Zabn,↓Zabs,↓Zadb,↓Zadc,↓Zade,↓Zabi,↓Zabg,Zacz,Zaae,Zabk,Zacw,Zabo,↓reduceIte,Nat.reduceEqDiff,Nat.reduceLT,dec_T,and_self,one1,Option.bind_some, *,lenJ,ldIs]
  · have hlt':¬ (k:Int) < (w.length:Int):=by omega
    rw [List.drop_eq_nil_of_le (show w.length ≤ k by omega)] at hax
    replace hax:b0 = false:=hax.symm;clear h
    repeat' simp only [↓Zacc,↓Zabz,↓Zacb,↓Zaai,↓Zabw,↓Zaby,↓Zaca,↓Zacy,↓Zacx,↓Zadd,↓Zaaw,↓Zaan,↓Zaav,↓Zaao,↓Zaat,↓Zaau,↓bxPut,↓Zabu,↓Zabt,↓Zabv,↓Zaag,↓Zaah,↓Zaaf,↓Zabm,↓Zabl,↓Zabn,↓Zabs,↓Zadb,↓Zadc,↓Zade,↓Zabi,↓Zabg,Zacz,Zaae,Zabk,Zacv,Zabo,↓reduceIte,Nat.reduceEqDiff,Nat.reduceLT,dec_F,and_self, *,lenJ]
end Go.Proofs.Yteechkbnccpicaa
