/- Points of which none is as good as another one: there is but one list of them. -/
import Derived.Test.YteechkbnccpicaaR6
set_option linter.unusedVariables false
set_option linter.unusedSimpArgs false
set_option linter.unusedSectionVars false

namespace Go.Proofs.Yteechkbnccpicaa

abbrev Pt:=Int × Int
def AscP (R:List Pt):Prop:=R.Pairwise fun p q => p.1 < q.1 ∧ p.2 < q.2
structure BestOf (P:Int → Int → Prop) (R:List Pt):Prop where
  mem:∀ p ∈ R,P p.1 p.2
  asc:AscP R
  dom:∀ d a,P d a → ∃ p ∈ R,d ≤ p.1 ∧ p.2 ≤ a
theorem AscP.tri:∀ {R:List Pt},AscP R → ∀ {p q},p ∈ R → q ∈ R → p = q ∨ (p.1 < q.1 ∧ p.2 < q.2) ∨ (q.1 < p.1 ∧ q.2 < p.2)
  | [],_,p,q,hp,_ => by cases hp
  | x :: R,h,p,q,hp,hq => by
    obtain ⟨h1,h2⟩:=List.pairwise_cons.1 h;rcases List.mem_cons.1 hp with e1 | k1
    · rcases List.mem_cons.1 hq with e2 | k2
      · exact .inl (e1.trans e2.symm)
      · exact .inr (.inl (by rw [e1]; exact h1 q k2))
    · rcases List.mem_cons.1 hq with e2 | k2
      · exact .inr (.inr (by rw [e2]; exact h1 p k1))
      · exact AscP.tri h2 k1 k2
theorem AscP.ext:∀ {R S:List Pt},AscP R → AscP S → (∀ p,p ∈ R ↔ p ∈ S) → R = S
  | [],[],_,_,_ => rfl
  | [],q :: S,_,_,h => by cases (h q).2 (List.mem_cons_self ..)
  | p :: R,[],_,_,h => by cases (h p).1 (List.mem_cons_self ..)
  | p :: R,q :: S,hR,hS,h => by
    obtain ⟨r1,r2⟩:=List.pairwise_cons.1 hR;obtain ⟨s1,s2⟩:=List.pairwise_cons.1 hS;have hpq:p = q:=by
      rcases List.mem_cons.1 ((h p).1 (List.mem_cons_self ..)) with e | hp
      · exact e
      rcases List.mem_cons.1 ((h q).2 (List.mem_cons_self ..)) with e | hq
      · exact e.symm
      have:=(s1 p hp).1;have:=(r1 q hq).1;omega
    subst hpq;have:R = S:=AscP.ext r2 s2 fun x => by
      constructor
      · intro hx;rcases List.mem_cons.1 ((h x).1 (List.mem_cons_of_mem _ hx)) with e | hs
        · subst e; have:=(r1 x hx).1; omega
        · exact hs
      · intro hx;rcases List.mem_cons.1 ((h x).2 (List.mem_cons_of_mem _ hx)) with e | hs
        · subst e; have:=(s1 x hx).1; omega
        · exact hs
    rw [this]
theorem BestOf.sub {P:Int → Int → Prop} {R S:List Pt} (h:BestOf P R) (k:BestOf P S):∀ p,p ∈ R → p ∈ S:=fun p hp => by
  obtain ⟨q,hq,h1,h2⟩:=k.dom p.1 p.2 (h.mem p hp);obtain ⟨s,hs,h3,h4⟩:=h.dom q.1 q.2 (k.mem q hq);have:p = s:=by
    rcases h.asc.tri hp hs with e | e | e
    · exact e
    · omega
    · omega
  subst this;have:q = p:=Prod.ext (by omega) (by omega)
  rw [← this]; exact hq
theorem BestOf.eq {P:Int → Int → Prop} {R S:List Pt} (h:BestOf P R) (k:BestOf P S):R = S:=AscP.ext h.asc k.asc fun p => ⟨h.sub k p,k.sub h p⟩
theorem BestOf.congr {P Q:Int → Int → Prop} {R:List Pt} (h:BestOf P R) (hpq:∀ d a,P d a ↔ Q d a):BestOf Q R:=⟨fun p hp => (hpq _ _).1 (h.mem p hp),h.asc,fun d a hq => h.dom d a ((hpq _ _).2 hq)⟩
theorem AscP.nil:AscP []:=List.Pairwise.nil

def FirstP (R:List Pt) (z:Int) (i:Nat):Prop:=i ≤ R.length ∧ (∀ j,j < i → (R.getD j default).1 < z) ∧ (i < R.length → z ≤ (R.getD i default).1)
theorem FirstP.eq {R:List Pt} {z:Int} {i j:Nat} (h:FirstP R z i) (k:FirstP R z j):i = j:=by
  rcases Nat.lt_trichotomy i j with hlt | e | hlt
  · have h1:=k.2.1 i hlt;have h2:=h.2.2 (Nat.lt_of_lt_of_le hlt k.1);omega
  · exact e
  · have h1:=h.2.1 j hlt;have h2:=k.2.2 (Nat.lt_of_lt_of_le hlt h.1);omega
def ProfAt (R:List Pt) (k:Nat):Prop:=(0 ≤ (R.getD k default).1 ∧ (R.getD k default).1 < (R.getD k default).2 ∧ (R.getD k default).2 ≤ 20000) ∧ (0 < k → (R.getD (k - 1) default).1 < (R.getD k default).1 ∧ (R.getD (k - 1) default).2 < (R.getD k default).2)
def ProfTo (R:List Pt) (n:Nat):Prop:=∀ k,k < n → ProfAt R k
def ProfOk (R:List Pt):Prop:=R.length ≤ 1000 ∧ ProfTo R R.length
theorem ProfTo.succ {R:List Pt} {n:Nat} (h:ProfTo R n) (k:ProfAt R n):ProfTo R (n + 1):=fun j hj => by
  rcases Nat.lt_or_ge j n with h2 | h2
  · exact h j h2
  · rw [show j = n by omega]; exact k
theorem ProfTo.lt {R:List Pt} {n:Nat} (h:ProfTo R n) {i j:Nat} (hij:i < j) (hj:j < n):(R.getD i default).1 < (R.getD j default).1 ∧ (R.getD i default).2 < (R.getD j default).2:=by
  induction j with
  | zero => omega
  | succ j ih =>
    have h1:=(h (j + 1) hj).2 (Nat.succ_pos j);rw [Nat.add_sub_cancel] at h1;rcases Nat.lt_or_ge i j with h2 | h2
    · have:=ih h2 (by omega)
      exact ⟨by omega,by omega⟩
    · rw [show i = j by omega]; exact h1
def ThenP (A B:List Pt) (wait:Int) (d a:Int):Prop:=∃ k,k < A.length ∧ d = (A.getD k default).1 ∧ ∃ i,FirstP B ((A.getD k default).2 + wait) i ∧ i < B.length ∧ a = (B.getD i default).2
end Go.Proofs.Yteechkbnccpicaa

namespace Go.Proofs.Yteechkbnccpicaa
open Go Go.AM

def jn (ls:List Lg) (ch:Int) (i j:Nat):Prop:=joinB ch (ls.getD i default) (ls.getD j default) = true
instance (ls:List Lg) (ch:Int) (i j:Nat):Decidable (jn ls ch i j):=by unfold jn; infer_instance
def Ch (ls:List Lg) (ch:Int):Nat → List Nat → Prop
  | i,[] => i < ls.length
  | i,j :: r => i < ls.length ∧ jn ls ch i j ∧ Ch ls ch j r
def lastN:Nat → List Nat → Nat
  | i,[] => i
  | _,j :: r => lastN j r
structure LOk (ls:List Lg) (ch:Int):Prop where
  leg:∀ i,i < ls.length → 0 ≤ (ls.getD i default).d ∧ (ls.getD i default).d < (ls.getD i default).a ∧ (ls.getD i default).a ≤ 10000
  ch:0 ≤ ch ∧ ch ≤ 100
variable {ls:List Lg} {ch:Int}
theorem Ch.lt {i:Nat} {r:List Nat} (h:Ch ls ch i r):i < ls.length:=by
  cases r with
  | nil => exact h
  | cons j r => exact h.1
theorem Ch.last_lt:∀ {r:List Nat} {i:Nat},Ch ls ch i r → lastN i r < ls.length
  | [],i,h => h
  | j :: r,i,h => Ch.last_lt (r:=r) h.2.2
theorem jn.dep (hk:LOk ls ch) {i j:Nat} (hi:i < ls.length) (h:jn ls ch i j):(ls.getD i default).d + 1 ≤ (ls.getD j default).d:=by
  have h1:=hk.leg i hi;have h2:=hk.ch;unfold jn joinB at h;have h3:=(of_decide_eq_true h).2;split at h3 <;> omega
theorem Ch.dep (hk:LOk ls ch):∀ {r:List Nat} {i:Nat},Ch ls ch i r → (ls.getD i default).d + r.length ≤ (ls.getD (lastN i r) default).d
  | [],i,h => by simp [lastN]
  | j :: r,i,h => by
    have h1:=jn.dep hk h.1 h.2.1;have h2:=Ch.dep hk (r:=r) h.2.2;simp only [List.length_cons,lastN];omega
theorem Ch.len (hk:LOk ls ch) {r:List Nat} {i:Nat} (h:Ch ls ch i r):r.length < 10000:=by
  have h1:=h.dep hk;have h2:=hk.leg i h.lt;have h3:=hk.leg _ h.last_lt;omega
theorem lastN_snoc:∀ {r:List Nat} {i j:Nat},lastN i (r ++ [j]) = j
  | [],i,j => rfl
  | k :: r,i,j => lastN_snoc (r:=r)
theorem Ch.snoc:∀ {r:List Nat} {i j:Nat},Ch ls ch i (r ++ [j]) ↔ Ch ls ch i r ∧ jn ls ch (lastN i r) j ∧ j < ls.length
  | [],i,j => by simp [Ch,lastN]
  | k :: r,i,j => by
    show (i < ls.length ∧ jn ls ch i k ∧ Ch ls ch k (r ++ [j])) ↔ _;rw [Ch.snoc (r:=r)];simp only [Ch,lastN];exact ⟨fun ⟨h1,h2,h3,h4,h5⟩ => ⟨⟨h1,h2,h3⟩,h4,h5⟩,fun ⟨⟨h1,h2,h3⟩,h4,h5⟩ => ⟨h1,h2,h3,h4,h5⟩⟩

/-! The lexicographic order. -/
def lexle:List Nat → List Nat → Prop
  | [],_ => True
  | _ :: _,[] => False
  | a :: x,b :: y => a < b ∨ (a = b ∧ lexle x y)
theorem lexle.refl:∀ x,lexle x x
  | [] => trivial
  | _ :: x => .inr ⟨rfl,lexle.refl x⟩
theorem lexle.antisymm:∀ {x y},lexle x y → lexle y x → x = y
  | [],[],_,_ => rfl
  | [],_ :: _,_,h => h.elim
  | _ :: _,[],h,_ => h.elim
  | a :: x,b :: y,h,k => by
    rcases h with h | ⟨h,h1⟩
    · rcases k with k | ⟨k,_⟩ <;> omega
    · subst h;rcases k with k | ⟨_,k⟩
      · omega
      · rw [lexle.antisymm h1 k]
theorem lexle.trans:∀ {x y z},lexle x y → lexle y z → lexle x z
  | [],_,_,_,_ => trivial
  | _ :: _,[],_,h,_ => h.elim
  | _ :: _,_ :: _,[],_,h => h.elim
  | a :: x,b :: y,c :: z,h,k => by
    rcases h with h | ⟨rfl,h1⟩
    · rcases k with k | ⟨rfl,_⟩
      · exact .inl (Nat.lt_trans h k)
      · exact .inl h
    · rcases k with k | ⟨rfl,k1⟩
      · exact .inl k
      · exact .inr ⟨rfl,h1.trans k1⟩
theorem lexle.total:∀ x y,lexle x y ∨ lexle y x
  | [],_ => .inl trivial
  | _ :: _,[] => .inr trivial
  | a :: x,b :: y => by
    rcases Nat.lt_trichotomy a b with h | rfl | h
    · exact .inl (.inl h)
    · rcases lexle.total x y with h | h
      · exact .inl (.inr ⟨rfl,h⟩)
      · exact .inr (.inr ⟨rfl,h⟩)
    · exact .inr (.inl h)
theorem lexle.snoc:∀ {x y:List Nat} {i:Nat},x.length = y.length → (lexle (x ++ [i]) (y ++ [i]) ↔ lexle x y)
  | [],[],i,_ => by simp [lexle]
  | [],_ :: _,i,h => by simp at h
  | _ :: _,[],i,h => by simp at h
  | a :: x,b :: y,i,h => by
    have h':x.length = y.length:=by simpa using h
    show (a < b ∨ (a = b ∧ lexle (x ++ [i]) (y ++ [i]))) ↔ (a < b ∨ (a = b ∧ lexle x y));rw [lexle.snoc h']
def Le (x y:List Nat):Prop:=x.length < y.length ∨ (x.length = y.length ∧ lexle x y)
theorem Le.antisymm {x y:List Nat} (h:Le x y) (k:Le y x):x = y:=by
  rcases h with h | ⟨h,h1⟩
  · rcases k with k | ⟨k,_⟩ <;> omega
  · rcases k with k | ⟨_,k⟩
    · omega
    · exact h1.antisymm k
theorem Le.refl (x:List Nat):Le x x:=.inr ⟨rfl,lexle.refl x⟩
theorem Le.trans {x y z:List Nat} (h:Le x y) (k:Le y z):Le x z:=by
  rcases h with h | ⟨h,h1⟩
  · rcases k with k | ⟨k,_⟩
    · exact .inl (Nat.lt_trans h k)
    · exact .inl (k ▸ h)
  · rcases k with k | ⟨k,k1⟩
    · exact .inl (h ▸ k)
    · exact .inr ⟨h.trans k,h1.trans k1⟩
structure Short (ls:List Lg) (ch:Int) (B E:Lg → Prop) (i:Nat) (r:List Nat):Prop where
  is:Ch ls ch i r
  beg:B (ls.getD i default)
  fin:E (ls.getD (lastN i r) default)
  le:∀ j s,Ch ls ch j s → B (ls.getD j default) → E (ls.getD (lastN j s) default) → Le (i :: r) (j :: s)
theorem Short.eq {B E:Lg → Prop} {i j:Nat} {r s:List Nat} (h:Short ls ch B E i r) (k:Short ls ch B E j s):i = j ∧ r = s:=by
  have:=(h.le j s k.is k.beg k.fin).antisymm (k.le i r h.is h.beg h.fin);cases this;exact ⟨rfl,rfl⟩
end Go.Proofs.Yteechkbnccpicaa

namespace Go.Proofs.Yteechkbnccpicaa
open Go Go.AM

def LW (ls:List Lg) (ch:Int) (wo:Lg → Int) (more:Int) (i:Nat) (c:Int):Prop:=
  (∀ r,Ch ls ch i r → c ≤ wo (ls.getD (lastN i r) default) + more * r.length) ∧ ∃ r,Ch ls ch i r ∧ c = wo (ls.getD (lastN i r) default) + more * r.length
structure OrdOk (ls:List Lg) (R:Array Int):Prop where
  sz:R.size = ls.length
  val:∀ p,p < ls.length → ∃ j:Nat,R[p]! = (j:Int) ∧ j < ls.length
  all:∀ i,i < ls.length → ∃ p,p < ls.length ∧ R[p]! = (i:Int)
  inj:∀ p q,p < ls.length → q < ls.length → R[p]! = R[q]! → p = q
  dep:∀ p q,p < q → q < ls.length → (ls.getD R[p]!.toNat default).d ≤ (ls.getD R[q]!.toNat default).d
theorem OrdOk.of {ls:List Lg} {d R:Array Int} (hR:R.size = ls.length) (hv:AllI (InL ls) R) (hd:d.size = ls.length) (hj:∀ j,j < ls.length → d[j]! = (j:Int)) (hp:Sort.PermIn 0 ls.length d R) (hs:Sort.SortedIn (ltD ls) 0 ls.length R):OrdOk ls R:=by
  have e1:d.extract 0 ls.length = d:=by rw [← hd]; simp
  have e2:R.extract 0 ls.length = R:=by rw [← hR]; simp
  have hpp:=hp.2.2;rw [e1,e2] at hpp;have hnd:d.toList.Nodup:=by
    rw [List.nodup_iff_pairwise_ne,List.pairwise_iff_getElem];intro i j hi hj' hij;have hi2:i < d.size:=by simpa using hi
    have hj2:j < d.size:=by simpa using hj'
    have h1:=hj i (by omega)
    have h2:=hj j (by omega)
    rw [getElem!_pos _ i hi2] at h1;rw [getElem!_pos _ j hj2] at h2;simp only [Array.getElem_toList];omega
  have hnR:R.toList.Nodup:=hpp.nodup_iff.2 hnd;refine ⟨hR,fun p h => ?_,fun i hi => ?_,fun p q h1 h2 h3 => ?_,fun p q h1 h2 => ?_⟩
  · obtain ⟨j,h1,h2⟩:=hv p (by omega)
    exact ⟨j,h1,h2⟩
  · have h1:(i:Int) ∈ d.toList:=by
      rw [← hj i hi,getElem!_pos _ i (by omega)]
      exact Array.getElem_mem_toList _
    have h2:=hpp.mem_iff.2 h1;obtain ⟨p,hp1,hp2⟩:=List.getElem_of_mem h2;have hp3:p < R.size:=by simpa using hp1
    refine ⟨p,by omega,?_⟩
    rw [getElem!_pos _ p hp3]
    simpa using hp2
  · rw [getElem!_pos _ p (by omega),getElem!_pos _ q (by omega)] at h3
    rw [List.nodup_iff_pairwise_ne,List.pairwise_iff_getElem] at hnR;rcases Nat.lt_trichotomy p q with h | h | h
    · have:=hnR p q (by simp; omega) (by simp; omega) h
      simp only [Array.getElem_toList] at this;exact absurd h3 this
    · exact h
    · have:=hnR q p (by simp; omega) (by simp; omega) h
      simp only [Array.getElem_toList] at this;exact absurd h3.symm this
  · have:=hs p q (Nat.zero_le _) h1 h2;unfold ltD at this;have:=of_decide_eq_false this;omega
variable {ls:List Lg} {ch:Int} {wo:Lg → Int} {more:Int}
theorem OrdOk.behind {R:Array Int} (h:OrdOk ls R) (hk:LOk ls ch) {p i j:Nat} (hp:p < ls.length) (hi:R[p]! = (i:Int)) (hj:jn ls ch i j) (hjl:j < ls.length) (hil:i < ls.length):∃ s,p < s ∧ s < ls.length ∧ R[s]! = (j:Int):=by
  obtain ⟨s,h1,h2⟩:=h.all j hjl;refine ⟨s,?_,h1,h2⟩;have hd:=jn.dep hk hil hj;rcases Nat.lt_trichotomy p s with h3 | h3 | h3
  · exact h3
  · subst h3;rw [hi] at h2;have:i = j:=by omega
    subst this;omega
  · have h4:=h.dep s p h3 hp;rw [h2,hi,Int.toNat_natCast,Int.toNat_natCast] at h4;omega
def PW (ls:List Lg) (ch:Int) (wo:Lg → Int) (more:Int) (R:Array Int) (p q i:Nat) (c:Int):Prop:=
  (∀ r,Ch ls ch i r → (∀ j r',r = j :: r' → ∃ s,p < s ∧ s < q ∧ R[s]! = (j:Int)) → c ≤ wo (ls.getD (lastN i r) default) + more * r.length) ∧ ∃ r,Ch ls ch i r ∧ c = wo (ls.getD (lastN i r) default) + more * r.length
theorem PW.start {R:Array Int} {p i:Nat} (hi:i < ls.length):PW ls ch wo more R p (p + 1) i (wo (ls.getD i default)):=by
  refine ⟨fun r hr h => ?_,[],hi,by simp [lastN]⟩
  cases r with
  | nil => simp [lastN]
  | cons j r =>
    obtain ⟨s,h1,h2,_⟩:=h j r rfl;omega
theorem PW.yes {R:Array Int} {p q i j:Nat} {c e:Int} (h:PW ls ch wo more R p q i c) (hi:i < ls.length) (hq:R[q]! = (j:Int)) (hj:jn ls ch i j) (he:LW ls ch wo more j e):PW ls ch wo more R p (q + 1) i (if e + more < c then e + more else c):=by
  obtain ⟨h1,r1,h2,h3⟩:=h;obtain ⟨k1,r2,k2,k3⟩:=he;constructor
  · intro r hr hs
    by_cases hc:∀ j r',r = j :: r' → ∃ s,p < s ∧ s < q ∧ R[s]! = (j:Int)
    · have:=h1 r hr hc;split <;> omega
    · cases r with
      | nil => exact absurd (fun j r' h => by cases h) hc
      | cons x r =>
        have hx:x = j:=by
          obtain ⟨s,s1,s2,s3⟩:=hs x r rfl;rcases Nat.lt_or_ge s q with s4 | s4
          · exact absurd (fun y r' h => by cases h; exact ⟨s,s1,s4,s3⟩) hc
          · have:s = q:=by omega
            subst this;rw [hq] at s3;omega
        subst hx;have h5:=k1 r hr.2.2;have h6:more * ((x :: r).length:Int) = more * (r.length:Int) + more:=by rw [List.length_cons]; push_cast; rw [Int.mul_add,Int.mul_one]
        rw [h6];show (if e + more < c then e + more else c) ≤ wo (ls.getD (lastN x r) default) + _
        split <;> omega
  · by_cases hlt:e + more < c
    · rw [if_pos hlt];refine ⟨j :: r2,⟨hi,hj,k2⟩,?_⟩;have h6:more * ((j :: r2).length:Int) = more * (r2.length:Int) + more:=by rw [List.length_cons]; push_cast; rw [Int.mul_add,Int.mul_one]
      rw [h6];show _ = wo (ls.getD (lastN j r2) default) + _;omega
    · rw [if_neg hlt];exact ⟨r1,h2,h3⟩
theorem PW.no {R:Array Int} {p q i j:Nat} {c:Int} (h:PW ls ch wo more R p q i c) (hq:R[q]! = (j:Int)) (hj:¬ jn ls ch i j):PW ls ch wo more R p (q + 1) i c:=by
  refine ⟨fun r hr hs => h.1 r hr fun x r' hx => ?_,h.2⟩
  obtain ⟨s,s1,s2,s3⟩:=hs x r' hx;rcases Nat.lt_or_ge s q with s4 | s4
  · exact ⟨s,s1,s4,s3⟩
  · have:s = q:=by omega
    subst this;rw [hq] at s3;have hxj:j = x:=by omega
    subst hxj;subst hx;exact absurd hr.2.1 hj
theorem PW.done {R:Array Int} {p i:Nat} {c:Int} (h:PW ls ch wo more R p ls.length i c) (hR:OrdOk ls R) (hk:LOk ls ch) (hp:p < ls.length) (hi:R[p]! = (i:Int)) (hil:i < ls.length):LW ls ch wo more i c:=by
  refine ⟨fun r hr => h.1 r hr fun j r' hx => ?_,h.2⟩
  subst hx;exact hR.behind hk hp hi hr.2.1 hr.2.2.lt hil
theorem LW.rng {i:Nat} {c:Int} (h:LW ls ch wo more i c) (hi:i < ls.length) (hw:∀ i,i < ls.length → 0 ≤ wo (ls.getD i default) ∧ wo (ls.getD i default) ≤ 10060) (hm:0 ≤ more):0 ≤ c ∧ c ≤ 10060:=by
  obtain ⟨h1,r,h2,h3⟩:=h;have h4:=h1 [] hi;simp only [List.length_nil,lastN] at h4;have h5:=(hw i hi).2;have h6:=(hw _ h2.last_lt).1;have h7:0 ≤ more * (r.length:Int):=Int.mul_nonneg hm (by omega)
  constructor
  · omega
  · rw [show more * ((0:Nat):Int) = 0 by simp] at h4; omega

/-! The shortest journey. -/
variable {E:Lg → Prop}
def BestW (ls:List Lg) (ch:Int) (E:Lg → Prop) (i:Nat) (r:List Nat):Prop:=
  Ch ls ch i r ∧ E (ls.getD (lastN i r) default) ∧ ∀ s,Ch ls ch i s → E (ls.getD (lastN i s) default) → Le (i :: r) (i :: s)
structure CntOk (ls:List Lg) (ch:Int) (E:Lg → Prop) (cnt:Nat → Int):Prop where
  le:∀ i r,Ch ls ch i r → E (ls.getD (lastN i r) default) → cnt i ≤ r.length + 1
  att:∀ i,i < ls.length → cnt i < 10060 → ∃ r,Ch ls ch i r ∧ E (ls.getD (lastN i r) default) ∧ cnt i = r.length + 1
theorem CntOk.len {cnt:Nat → Int} (h:CntOk ls ch E cnt) {i:Nat} {r:List Nat} (hb:BestW ls ch E i r) (hc:cnt i < 10060):cnt i = r.length + 1:=by
  obtain ⟨h1,h2,h3⟩:=hb;obtain ⟨s,k1,k2,k3⟩:=h.att i h1.lt hc;have h4:=h.le i r h1 h2;have h5:=h3 s k1 k2;rcases h5 with h5 | ⟨h5,_⟩
  · simp at h5; omega
  · simp at h5; omega
def NearK (ls:List Lg) (K:Nat → Prop) (cnt:Nat → Int) (i:Nat):Prop:=i < ls.length ∧ K i ∧ cnt i < 10060 ∧ ∀ j,j < ls.length → K j → cnt i ≤ cnt j ∧ (cnt i = cnt j → i ≤ j)
theorem NearK.pick {K:Nat → Prop} {cnt:Nat → Int} {i:Nat} {r:List Nat} (h:NearK ls K cnt i) (hc:CntOk ls ch E cnt) (hb:BestW ls ch E i r) {j:Nat} {s:List Nat} (hj:K j) (hs:Ch ls ch j s) (he:E (ls.getD (lastN j s) default)):Le (i :: r) (j :: s):=by
  obtain ⟨h1,h2,h3,h4⟩:=h;obtain ⟨h5,h6⟩:=h4 j hs.lt hj;have h7:=hc.len hb h3;have h8:=hc.le j s hs he;rcases Int.lt_or_eq_of_le h5 with h9 | h9
  · exact .inl (by simp; omega)
  · rcases Nat.lt_or_ge r.length s.length with h10 | h10
    · exact .inl (by simp; omega)
    · have h11:=h6 h9;rcases Nat.lt_or_ge i j with h12 | h12
      · exact .inr ⟨by simp; omega,.inl h12⟩
      · have:i = j:=by omega
        subst this;exact hb.2.2 s hs he
theorem BestW.nil {cnt:Nat → Int} (hc:CntOk ls ch E cnt) {i:Nat} (hi:i < ls.length) (h1:¬ 1 < cnt i):BestW ls ch E i []:=by
  obtain ⟨r,k1,k2,k3⟩:=hc.att i hi (by omega)
  have hr:r = []:=List.length_eq_zero_iff.1 (by omega)
  subst hr;refine ⟨k1,k2,fun s hs he => ?_⟩
  cases s with
  | nil => exact Le.refl _
  | cons j s => exact .inl (by simp)
theorem Le.cons {x y:List Nat} (i:Nat) (h:Le x y):Le (i :: x) (i :: y):=by
  rcases h with h | ⟨h,h1⟩
  · exact .inl (by simpa using h)
  · exact .inr ⟨by simpa using h,.inr ⟨rfl,h1⟩⟩
theorem BestW.cons {cnt:Nat → Int} (hc:CntOk ls ch E cnt) {i j:Nat} {r:List Nat} (hi:i < ls.length) (h1:1 < cnt i) (hn:NearK ls (jn ls ch i) cnt j) (hb:BestW ls ch E j r):BestW ls ch E i (j :: r):=by
  refine ⟨⟨hi,hn.2.1,hb.1⟩,hb.2.1,fun s hs he => ?_⟩
  cases s with
  | nil =>
    have:=hc.le i [] hs he;simp at this;omega
  | cons k s => exact (hn.pick hc hb hs.2.1 hs.2.2 he).cons i
theorem CntOk.next {cnt:Nat → Int} (hc:CntOk ls ch E cnt) {i:Nat} (hi:i < ls.length) (h1:1 < cnt i) (h2:cnt i < 10060):∃ j,j < ls.length ∧ jn ls ch i j ∧ cnt j < 10060 ∧ cnt j < cnt i:=by
  obtain ⟨r,k1,k2,k3⟩:=hc.att i hi h2;cases r with
  | nil => simp at k3; omega
  | cons j r =>
    have:=hc.le j r k1.2.2 k2;refine ⟨j,k1.2.2.lt,k1.2.1,?_,?_⟩
    · simp at k3; omega
    · simp at k3; omega
theorem Short.of {B:Lg → Prop} {cnt:Nat → Int} (hc:CntOk ls ch E cnt) {i:Nat} {r:List Nat} (hn:NearK ls (fun j => B (ls.getD j default)) cnt i) (hb:BestW ls ch E i r):Short ls ch B E i r:=
  ⟨hb.1,hn.2.1,hb.2.1,fun j s hs hB he => hn.pick hc hb hB hs he⟩
end Go.Proofs.Yteechkbnccpicaa

namespace Go.Proofs.Yteechkbnccpicaa
open Go Go.AM
set_option maxRecDepth 10000

variable {S:AM.Sys} (hS:Only S 11)
include hS

theorem backI_runs (a:Option Addr) (n c:Nat) (H:Heap):Runs Try.prog S (.fn 80) [.slice a n c] H (.func (.func 95) ⟨[]⟩ ⟨[.pointer (some ⟨H.size,0,none⟩)]⟩) (H.newExact [.slice a n c] 25):=by
  suffices h:WCall Try.prog S (.fn 80) [.slice a n c] H (fun u H' => u = .func (.func 95) ⟨[]⟩ ⟨[.pointer (some ⟨H.size,0,none⟩)]⟩ ∧ H' = H.newExact [.slice a n c] 25) by
    obtain ⟨_,_,hr,rfl,rfl⟩:=h; exact hr
  have e1:H.newExact [.slice a n c] 25 = H.newExact [.slice a n c] 25:=rfl;have ce:(Value.slice a n c).cells.toList = [.slice a n c]:=rfl;have ny:notYield (.func 95) = true:=rfl;refine Zaba Try.func80 rfl (Nat.le_of_ble_eq_true rfl) (hS.no rfl _ _) ?_
  rw [Try.ntmps80,Try.results80]
  repeat' simp only [↓Zabx,↓Zabz,↓Zaby,↓Zacw,↓Zacv,↓Zadb,↓Zaam,↓bxOp_box,↓bxOp_makeFunc,↓bxPut,↓Zabs,↓Zabq,↓Zacz,↓Zada,↓Zadc,↓Zabg,↓Zabe,Zabm,List.map,↓reduceIte,Nat.reduceEqDiff,Nat.reduceLT,and_true,and_self, *,argF,List.getD_cons_zero]

set_option maxHeartbeats 2000000 in
theorem backIC_runs {l B:Nat} (a:Option Addr) (c:Nat) (ws:List Int) (J:Nat → Heap → Prop) (X:Heap → Prop) (H:Heap)
    (hrd:∀ k H5,J k H5 → H5.read B 0 1 = some [.slice a ws.length c] ∧ ∃ r o,SlI .i64 H5 (.slice a ws.length c) ws r o)
    (hstep:∀ k H5,k < ws.length → J (k + 1) H5 → WCall Try.prog S (.rnd l) [.int .i64 (k:Int),.int .i64 (ws.getD k 0)] H5 (fun u H6 => (u = .bool true ∧ J k H6) ∨ (u = .bool false ∧ X H6)))
    (h0:J ws.length H) (hml:ws.length ≤ 1000000) :
    WCall Try.prog S (.fn 95) [.func (.yield l) ⟨[]⟩ ⟨[]⟩,.pointer (some ⟨B,0,none⟩)] H (fun _ H' => J 0 H' ∨ X H'):=by
  obtain ⟨r1,r2⟩:=hrd _ _ h0;refine Zaba Try.func95 rfl (Nat.le_of_ble_eq_true rfl) (hS.no rfl _ _) ?_
  rw [Try.ntmps95,Try.results95];have hwn:IntKind.i64.wrap ((ws.length:Int) - 1) = (ws.length:Int) - 1:=IntWalk.i64_in _ (by omega)
  have hJs:∃ J',J' = J:=⟨_,rfl⟩;clear r2
  repeat' simp only [↓Zabx,↓Zabz,↓Zaaj,↓Zabu,↓Zacw,↓Zacv,↓Zadb,↓Zaam,↓Zaat,↓Zaan,↓Zaas,↓bxPut,↓Zabs,↓Zadc,↓Zabg,↓Zabe,Zacx,Zaae,Zabi,↓reduceIte,Nat.reduceLT,one1,Option.bind_some, *,argF,List.getD_cons_zero,List.getD_cons_succ,lenIs,ldIs,one1]
  refine sxL_of (fun m ρ H5 => ∃ k:Nat,m = k ∧ k ≤ ws.length ∧ J k H5 ∧ ρ 0 = .func (.yield l) ⟨[]⟩ ⟨[]⟩ ∧ ρ 1 = .pointer (some ⟨B,0,none⟩) ∧ ρ 3 = .int .i64 ((k:Int) - 1))
    ⟨ws.length,rfl,Nat.le_refl _,h0,rfl,rfl,rfl⟩ ?_
  clear r1 h0;rintro k ρ H5 ⟨_,rfl,hk,hJ,e0,e1,e3⟩;cases k with
  | zero =>
    have hn:¬ (0:Int) ≤ ((0:Nat):Int) - 1:=by omega
    have hp:J 0 H5 ∨ X H5:=.inl hJ;clear hrd hstep hJ
    repeat' simp only [↓Zaca,↓Zabx,↓Zabz,↓Zaai,↓Zabu,↓Zabw,↓Zaby,↓Zacw,↓Zacv,↓Zadb,↓Zaau,↓Zaam,↓Zaat,↓Zaan,↓Zaax,↓Zaar,↓Zaay,↓bxPut,↓Zabs,↓Zabr,↓Zabt,↓Zaag,↓Zaah,↓Zaaf,↓Zabk,↓Zabj,↓Zabl,↓Zabp,↓Zabq,↓Zacz,↓Zadc,↓Zabg,↓Zabe,Zacx,Zaae,Zabi,Zact,↓reduceIte,Nat.reduceLT,dec_F, *]
  | succ k =>
    have hkl:k < ws.length:=by omega
    have hn:(0:Int) ≤ ((k + 1:Nat):Int) - 1:=by omega
    have hwk:((k + 1:Nat):Int) - 1 = (k:Int):=by omega
    have hwk2:IntKind.i64.wrap ((k:Int) - 1) = (k:Int) - 1:=IntWalk.i64_in _ (by omega)
    rw [hwk] at e3 hn;have hob:=hrd _ _ hJ;obtain ⟨r1,r,o,hs⟩:=hob;have hob:=SlI_at hs hkl;obtain ⟨hix,hr⟩:=hob;have hob:=hstep k H5 hkl hJ;obtain ⟨u,H6,hR,hu⟩:=hob;have f1:=hR.bx;have hms:k < k + 1:=by omega
    rcases hu with ⟨rfl,hJ6⟩ | ⟨rfl,hX⟩
    · clear hrd hstep hJ hR hs
      repeat' simp only [↓Zaca,↓Zabx,↓Zabz,↓Zaai,↓Zabu,↓Zabw,↓Zaby,↓Zacw,↓Zacv,↓Zadb,↓Zaau,↓Zaam,↓Zaat,↓Zaan,↓Zaax,↓Zaar,↓Zaay,↓bxPut,↓Zabs,↓Zabr,↓Zabt,↓Zaag,↓Zaah,↓Zaaf,↓Zabk,↓Zabj,↓Zabl,↓Zabp,↓Zabq,↓Zacz,↓Zadc,↓Zabg,↓Zabe,Zacx,Zaae,Zabi,una_nt,sxCallVB_yield,Zacu,Zact,List.map,↓reduceIte,Nat.reduceEqDiff,Nat.reduceLT,dec_T,true_and,one1,Option.bind_some, *,ldIs,ldC,one1]
      exact ⟨k,hms,k,rfl,by omega,hJ6,rfl⟩
    · have hp:J 0 H6 ∨ X H6:=.inr hX;clear hrd hstep hJ hR hs
      repeat' simp only [↓Zaca,↓Zabx,↓Zabz,↓Zaai,↓Zabu,↓Zabw,↓Zaby,↓Zacw,↓Zacv,↓Zadb,↓Zaau,↓Zaam,↓Zaat,↓Zaan,↓Zaax,↓Zaar,↓Zaay,↓bxPut,↓Zabs,↓Zabr,↓Zabt,↓Zaag,↓Zaah,↓Zaaf,↓Zabk,↓Zabj,↓Zabl,↓Zabp,↓Zabq,↓Zacz,↓Zadc,↓Zabg,↓Zabe,Zacx,Zaae,Zabi,una_nf,sxCallVB_yield,Zacu,List.map,↓reduceIte,Nat.reduceEqDiff,Nat.reduceLT,dec_T,or_true,one1,Option.bind_some, *,ldIs,ldC,one1]
end Go.Proofs.Yteechkbnccpicaa
