/- Points of which none is as good as another one: there is but one list of them. -/
import Derived.Test.YteechkbnccpicaaSEI
set_option linter.unusedVariables false
set_option linter.unusedSimpArgs false
set_option linter.unusedSectionVars false

namespace Go.Proofs.Yteechkbnccpicaa

abbrev Pt:=Int × Int
def AscP (R:List Pt):Prop:=R.Pairwise fun p q => p.1 < q.1 ∧ p.2 < q.2
structure BestOf (P:Int → Int → Prop) (R:List Pt):Prop where
  mem:∀ p ∈ R,P p.1 p.2
  asc:AscP R
  dom:∀ d a,P d a → ∃ p ∈ R,d ≤ p.1 ∧ p.2 ≤ a
theorem AscP.tri:∀ {R:List Pt},AscP R → ∀ {p q},p ∈ R → q ∈ R → p = q ∨ (p.1 < q.1 ∧ p.2 < q.2) ∨ (q.1 < p.1 ∧ q.2 < p.2)
  | [],_,p,q,hp,_ => by cases hp
  | x :: R,h,p,q,hp,hq => by
    obtain ⟨h1,h2⟩:=List.pairwise_cons.1 h;rcases List.mem_cons.1 hp with e1 | k1
    · rcases List.mem_cons.1 hq with e2 | k2
      · exact .inl (e1.trans e2.symm)
      · exact .inr (.inl (by rw [e1]; exact h1 q k2))
    · rcases List.mem_cons.1 hq with e2 | k2
      · exact .inr (.inr (by rw [e2]; exact h1 p k1))
      · exact AscP.tri h2 k1 k2
theorem AscP.ext:∀ {R S:List Pt},AscP R → AscP S → (∀ p,p ∈ R ↔ p ∈ S) → R = S
  | [],[],_,_,_ => rfl
  | [],q :: S,_,_,h => by cases (h q).2 (List.mem_cons_self ..)
  | p :: R,[],_,_,h => by cases (h p).1 (List.mem_cons_self ..)
  | p :: R,q :: S,hR,hS,h => by
    obtain ⟨r1,r2⟩:=List.pairwise_cons.1 hR;obtain ⟨s1,s2⟩:=List.pairwise_cons.1 hS;have hpq:p = q:=by
      rcases List.mem_cons.1 ((h p).1 (List.mem_cons_self ..)) with e | hp
      · exact e
      rcases List.mem_cons.1 ((h q).2 (List.mem_cons_self ..)) with e | hq
      · exact e.symm
      have:=(s1 p hp).1;have:=(r1 q hq).1;omega
    subst hpq;have:R = S:=AscP.ext r2 s2 fun x => by
      constructor
      · intro hx;rcases List.mem_cons.1 ((h x).1 (List.mem_cons_of_mem _ hx)) with e | hs
        · subst e; have:=(r1 x hx).1; omega
        · exact hs
      · intro hx;rcases List.mem_cons.1 ((h x).2 (List.mem_cons_of_mem _ hx)) with e | hs
        · subst e; have:=(s1 x hx).1; omega
        · exact hs
    rw [this]
theorem BestOf.sub {P:Int → Int → Prop} {R S:List Pt} (h:BestOf P R) (k:BestOf P S):∀ p,p ∈ R → p ∈ S:=fun p hp => by
  obtain ⟨q,hq,h1,h2⟩:=k.dom p.1 p.2 (h.mem p hp);obtain ⟨s,hs,h3,h4⟩:=h.dom q.1 q.2 (k.mem q hq);have:p = s:=by
    rcases h.asc.tri hp hs with e | e | e
    · exact e
    · omega
    · omega
  subst this;have:q = p:=Prod.ext (by omega) (by omega)
  rw [← this]; exact hq
theorem BestOf.eq {P:Int → Int → Prop} {R S:List Pt} (h:BestOf P R) (k:BestOf P S):R = S:=AscP.ext h.asc k.asc fun p => ⟨h.sub k p,k.sub h p⟩
theorem BestOf.congr {P Q:Int → Int → Prop} {R:List Pt} (h:BestOf P R) (hpq:∀ d a,P d a ↔ Q d a):BestOf Q R:=⟨fun p hp => (hpq _ _).1 (h.mem p hp),h.asc,fun d a hq => h.dom d a ((hpq _ _).2 hq)⟩
theorem AscP.nil:AscP []:=List.Pairwise.nil

def FirstP (R:List Pt) (z:Int) (i:Nat):Prop:=i ≤ R.length ∧ (∀ j,j < i → (R.getD j default).1 < z) ∧ (i < R.length → z ≤ (R.getD i default).1)
theorem FirstP.eq {R:List Pt} {z:Int} {i j:Nat} (h:FirstP R z i) (k:FirstP R z j):i = j:=by
  rcases Nat.lt_trichotomy i j with hlt | e | hlt
  · have h1:=k.2.1 i hlt;have h2:=h.2.2 (Nat.lt_of_lt_of_le hlt k.1);omega
  · exact e
  · have h1:=h.2.1 j hlt;have h2:=k.2.2 (Nat.lt_of_lt_of_le hlt h.1);omega
def ProfAt (R:List Pt) (k:Nat):Prop:=(0 ≤ (R.getD k default).1 ∧ (R.getD k default).1 < (R.getD k default).2 ∧ (R.getD k default).2 ≤ 20000) ∧ (0 < k → (R.getD (k - 1) default).1 < (R.getD k default).1 ∧ (R.getD (k - 1) default).2 < (R.getD k default).2)
def ProfTo (R:List Pt) (n:Nat):Prop:=∀ k,k < n → ProfAt R k
def ProfOk (R:List Pt):Prop:=R.length ≤ 1000 ∧ ProfTo R R.length
theorem ProfTo.succ {R:List Pt} {n:Nat} (h:ProfTo R n) (k:ProfAt R n):ProfTo R (n + 1):=fun j hj => by
  rcases Nat.lt_or_ge j n with h2 | h2
  · exact h j h2
  · rw [show j = n by omega]; exact k
theorem ProfTo.lt {R:List Pt} {n:Nat} (h:ProfTo R n) {i j:Nat} (hij:i < j) (hj:j < n):(R.getD i default).1 < (R.getD j default).1 ∧ (R.getD i default).2 < (R.getD j default).2:=by
  induction j with
  | zero => omega
  | succ j ih =>
    have h1:=(h (j + 1) hj).2 (Nat.succ_pos j);rw [Nat.add_sub_cancel] at h1;rcases Nat.lt_or_ge i j with h2 | h2
    · have:=ih h2 (by omega)
      exact ⟨by omega,by omega⟩
    · rw [show i = j by omega]; exact h1
def ThenP (A B:List Pt) (wait:Int) (d a:Int):Prop:=∃ k,k < A.length ∧ d = (A.getD k default).1 ∧ ∃ i,FirstP B ((A.getD k default).2 + wait) i ∧ i < B.length ∧ a = (B.getD i default).2
end Go.Proofs.Yteechkbnccpicaa

namespace Go.Proofs.Yteechkbnccpicaa
open Go Go.AM

def jn (ls:List Lg) (ch:Int) (i j:Nat):Prop:=joinB ch (ls.getD i default) (ls.getD j default) = true
instance (ls:List Lg) (ch:Int) (i j:Nat):Decidable (jn ls ch i j):=by unfold jn; infer_instance
def Ch (ls:List Lg) (ch:Int):Nat → List Nat → Prop
  | i,[] => i < ls.length
  | i,j :: r => i < ls.length ∧ jn ls ch i j ∧ Ch ls ch j r
def lastN:Nat → List Nat → Nat
  | i,[] => i
  | _,j :: r => lastN j r
structure LOk (ls:List Lg) (ch:Int):Prop where
  leg:∀ i,i < ls.length → 0 ≤ (ls.getD i default).d ∧ (ls.getD i default).d < (ls.getD i default).a ∧ (ls.getD i default).a ≤ 10000
  ch:0 ≤ ch ∧ ch ≤ 100
variable {ls:List Lg} {ch:Int}
theorem Ch.lt {i:Nat} {r:List Nat} (h:Ch ls ch i r):i < ls.length:=by
  cases r with
  | nil => exact h
  | cons j r => exact h.1
theorem Ch.last_lt:∀ {r:List Nat} {i:Nat},Ch ls ch i r → lastN i r < ls.length
  | [],i,h => h
  | j :: r,i,h => Ch.last_lt (r:=r) h.2.2
theorem jn.dep (hk:LOk ls ch) {i j:Nat} (hi:i < ls.length) (h:jn ls ch i j):(ls.getD i default).d + 1 ≤ (ls.getD j default).d:=by
  have h1:=hk.leg i hi;have h2:=hk.ch;unfold jn joinB at h;have h3:=(of_decide_eq_true h).2;split at h3 <;> omega
theorem Ch.dep (hk:LOk ls ch):∀ {r:List Nat} {i:Nat},Ch ls ch i r → (ls.getD i default).d + r.length ≤ (ls.getD (lastN i r) default).d
  | [],i,h => by simp [lastN]
  | j :: r,i,h => by
    have h1:=jn.dep hk h.1 h.2.1;have h2:=Ch.dep hk (r:=r) h.2.2;simp only [List.length_cons,lastN];omega
theorem Ch.len (hk:LOk ls ch) {r:List Nat} {i:Nat} (h:Ch ls ch i r):r.length < 10000:=by
  have h1:=h.dep hk;have h2:=hk.leg i h.lt;have h3:=hk.leg _ h.last_lt;omega
theorem lastN_snoc:∀ {r:List Nat} {i j:Nat},lastN i (r ++ [j]) = j
  | [],i,j => rfl
  | k :: r,i,j => lastN_snoc (r:=r)
theorem Ch.snoc:∀ {r:List Nat} {i j:Nat},Ch ls ch i (r ++ [j]) ↔ Ch ls ch i r ∧ jn ls ch (lastN i r) j ∧ j < ls.length
  | [],i,j => by simp [Ch,lastN]
  | k :: r,i,j => by
    show (i < ls.length ∧ jn ls ch i k ∧ Ch ls ch k (r ++ [j])) ↔ _;rw [Ch.snoc (r:=r)];simp only [Ch,lastN];exact ⟨fun ⟨h1,h2,h3,h4,h5⟩ => ⟨⟨h1,h2,h3⟩,h4,h5⟩,fun ⟨⟨h1,h2,h3⟩,h4,h5⟩ => ⟨h1,h2,h3,h4,h5⟩⟩

/-! The lexicographic order. -/
def lexle:List Nat → List Nat → Prop
  | [],_ => True
  | _ :: _,[] => False
  | a :: x,b :: y => a < b ∨ (a = b ∧ lexle x y)
theorem lexle.refl:∀ x,lexle x x
  | [] => trivial
  | _ :: x => .inr ⟨rfl,lexle.refl x⟩
theorem lexle.antisymm:∀ {x y},lexle x y → lexle y x → x = y
  | [],[],_,_ => rfl
  | [],_ :: _,_,h => h.elim
  | _ :: _,[],h,_ => h.elim
  | a :: x,b :: y,h,k => by
    rcases h with h | ⟨h,h1⟩
    · rcases k with k | ⟨k,_⟩ <;> omega
    · subst h;rcases k with k | ⟨_,k⟩
      · omega
      · rw [lexle.antisymm h1 k]
theorem lexle.trans:∀ {x y z},lexle x y → lexle y z → lexle x z
  | [],_,_,_,_ => trivial
  | _ :: _,[],_,h,_ => h.elim
  | _ :: _,_ :: _,[],_,h => h.elim
  | a :: x,b :: y,c :: z,h,k => by
    rcases h with h | ⟨rfl,h1⟩
    · rcases k with k | ⟨rfl,_⟩
      · exact .inl (Nat.lt_trans h k)
      · exact .inl h
    · rcases k with k | ⟨rfl,k1⟩
      · exact .inl k
      · exact .inr ⟨rfl,h1.trans k1⟩
theorem lexle.total:∀ x y,lexle x y ∨ lexle y x
  | [],_ => .inl trivial
  | _ :: _,[] => .inr trivial
  | a :: x,b :: y => by
    rcases Nat.lt_trichotomy a b with h | rfl | h
    · exact .inl (.inl h)
    · rcases lexle.total x y with h | h
      · exact .inl (.inr ⟨rfl,h⟩)
      · exact .inr (.inr ⟨rfl,h⟩)
    · exact .inr (.inl h)
theorem lexle.snoc:∀ {x y:List Nat} {i:Nat},x.length = y.length → (lexle (x ++ [i]) (y ++ [i]) ↔ lexle x y)
  | [],[],i,_ => by simp [lexle]
  | [],_ :: _,i,h => by simp at h
  | _ :: _,[],i,h => by simp at h
  | a :: x,b :: y,i,h => by
    have h':x.length = y.length:=by simpa using h
    show (a < b ∨ (a = b ∧ lexle (x ++ [i]) (y ++ [i]))) ↔ (a < b ∨ (a = b ∧ lexle x y));rw [lexle.snoc h']
def Le (x y:List Nat):Prop:=x.length < y.length ∨ (x.length = y.length ∧ lexle x y)
theorem Le.antisymm {x y:List Nat} (h:Le x y) (k:Le y x):x = y:=by
  rcases h with h | ⟨h,h1⟩
  · rcases k with k | ⟨k,_⟩ <;> omega
  · rcases k with k | ⟨_,k⟩
    · omega
    · exact h1.antisymm k
theorem Le.refl (x:List Nat):Le x x:=.inr ⟨rfl,lexle.refl x⟩
theorem Le.trans {x y z:List Nat} (h:Le x y) (k:Le y z):Le x z:=by
  rcases h with h | ⟨h,h1⟩
  · rcases k with k | ⟨k,_⟩
    · exact .inl (Nat.lt_trans h k)
    · exact .inl (k ▸ h)
  · rcases k with k | ⟨k,k1⟩
    · exact .inl (h ▸ k)
    · exact .inr ⟨h.trans k,h1.trans k1⟩
structure Short (ls:List Lg) (ch:Int) (B E:Lg → Prop) (i:Nat) (r:List Nat):Prop where
  is:Ch ls ch i r
  beg:B (ls.getD i default)
  fin:E (ls.getD (lastN i r) default)
  le:∀ j s,Ch ls ch j s → B (ls.getD j default) → E (ls.getD (lastN j s) default) → Le (i :: r) (j :: s)
theorem Short.eq {B E:Lg → Prop} {i j:Nat} {r s:List Nat} (h:Short ls ch B E i r) (k:Short ls ch B E j s):i = j ∧ r = s:=by
  have:=(h.le j s k.is k.beg k.fin).antisymm (k.le i r h.is h.beg h.fin);cases this;exact ⟨rfl,rfl⟩
end Go.Proofs.Yteechkbnccpicaa

namespace Go.Proofs.Yteechkbnccpicaa
open Go Go.AM

def LW (ls:List Lg) (ch:Int) (wo:Lg → Int) (more:Int) (i:Nat) (c:Int):Prop:=
  (∀ r,Ch ls ch i r → c ≤ wo (ls.getD (lastN i r) default) + more * r.length) ∧ ∃ r,Ch ls ch i r ∧ c = wo (ls.getD (lastN i r) default) + more * r.length
structure OrdOk (ls:List Lg) (R:Array Int):Prop where
  sz:R.size = ls.length
  val:∀ p,p < ls.length → ∃ j:Nat,R[p]! = (j:Int) ∧ j < ls.length
  all:∀ i,i < ls.length → ∃ p,p < ls.length ∧ R[p]! = (i:Int)
  inj:∀ p q,p < ls.length → q < ls.length → R[p]! = R[q]! → p = q
  dep:∀ p q,p < q → q < ls.length → (ls.getD R[p]!.toNat default).d ≤ (ls.getD R[q]!.toNat default).d
theorem OrdOk.of {ls:List Lg} {d R:Array Int} (hR:R.size = ls.length) (hv:AllI (InL ls) R) (hd:d.size = ls.length) (hj:∀ j,j < ls.length → d[j]! = (j:Int)) (hp:Sort.PermIn 0 ls.length d R) (hs:Sort.SortedIn (ltD ls) 0 ls.length R):OrdOk ls R:=by
  have e1:d.extract 0 ls.length = d:=by rw [← hd]; simp
  have e2:R.extract 0 ls.length = R:=by rw [← hR]; simp
  have hpp:=hp.2.2;rw [e1,e2] at hpp;have hnd:d.toList.Nodup:=by
    rw [List.nodup_iff_pairwise_ne,List.pairwise_iff_getElem];intro i j hi hj' hij;have hi2:i < d.size:=by simpa using hi
    have hj2:j < d.size:=by simpa using hj'
    have h1:=hj i (by omega)
    have h2:=hj j (by omega)
    rw [getElem!_pos _ i hi2] at h1;rw [getElem!_pos _ j hj2] at h2;simp only [Array.getElem_toList];omega
  have hnR:R.toList.Nodup:=hpp.nodup_iff.2 hnd;refine ⟨hR,fun p h => ?_,fun i hi => ?_,fun p q h1 h2 h3 => ?_,fun p q h1 h2 => ?_⟩
  · obtain ⟨j,h1,h2⟩:=hv p (by omega)
    exact ⟨j,h1,h2⟩
  · have h1:(i:Int) ∈ d.toList:=by
      rw [← hj i hi,getElem!_pos _ i (by omega)]
      exact Array.getElem_mem_toList _
    have h2:=hpp.mem_iff.2 h1;obtain ⟨p,hp1,hp2⟩:=List.getElem_of_mem h2;have hp3:p < R.size:=by simpa using hp1
    refine ⟨p,by omega,?_⟩
    rw [getElem!_pos _ p hp3]
    simpa using hp2
  · rw [getElem!_pos _ p (by omega),getElem!_pos _ q (by omega)] at h3
    rw [List.nodup_iff_pairwise_ne,List.pairwise_iff_getElem] at hnR;rcases Nat.lt_trichotomy p q with h | h | h
    · have:=hnR p q (by simp; omega) (by simp; omega) h
      simp only [Array.getElem_toList] at this;exact absurd h3 this
    · exact h
    · have:=hnR q p (by simp; omega) (by simp; omega) h
      simp only [Array.getElem_toList] at this;exact absurd h3.symm this
  · have:=hs p q (Nat.zero_le _) h1 h2;unfold ltD at this;have:=of_decide_eq_false this;omega
variable {ls:List Lg} {ch:Int} {wo:Lg → Int} {more:Int}
theorem OrdOk.behind {R:Array Int} (h:OrdOk ls R) (hk:LOk ls ch) {p i j:Nat} (hp:p < ls.length) (hi:R[p]! = (i:Int)) (hj:jn ls ch i j) (hjl:j < ls.length) (hil:i < ls.length):∃ s,p < s ∧ s < ls.length ∧ R[s]! = (j:Int):=by
  obtain ⟨s,h1,h2⟩:=h.all j hjl;refine ⟨s,?_,h1,h2⟩;have hd:=jn.dep hk hil hj;rcases Nat.lt_trichotomy p s with h3 | h3 | h3
  · exact h3
  · subst h3;rw [hi] at h2;have:i = j:=by omega
    subst this;omega
  · have h4:=h.dep s p h3 hp;rw [h2,hi,Int.toNat_natCast,Int.toNat_natCast] at h4;omega
def PW (ls:List Lg) (ch:Int) (wo:Lg → Int) (more:Int) (R:Array Int) (p q i:Nat) (c:Int):Prop:=
  (∀ r,Ch ls ch i r → (∀ j r',r = j :: r' → ∃ s,p < s ∧ s < q ∧ R[s]! = (j:Int)) → c ≤ wo (ls.getD (lastN i r) default) + more * r.length) ∧ ∃ r,Ch ls ch i r ∧ c = wo (ls.getD (lastN i r) default) + more * r.length
theorem PW.start {R:Array Int} {p i:Nat} (hi:i < ls.length):PW ls ch wo more R p (p + 1) i (wo (ls.getD i default)):=by
  refine ⟨fun r hr h => ?_,[],hi,by simp [lastN]⟩
  cases r with
  | nil => simp [lastN]
  | cons j r =>
    obtain ⟨s,h1,h2,_⟩:=h j r rfl;omega
theorem PW.yes {R:Array Int} {p q i j:Nat} {c e:Int} (h:PW ls ch wo more R p q i c) (hi:i < ls.length) (hq:R[q]! = (j:Int)) (hj:jn ls ch i j) (he:LW ls ch wo more j e):PW ls ch wo more R p (q + 1) i (if e + more < c then e + more else c):=by
  obtain ⟨h1,r1,h2,h3⟩:=h;obtain ⟨k1,r2,k2,k3⟩:=he;constructor
  · intro r hr hs
    by_cases hc:∀ j r',r = j :: r' → ∃ s,p < s ∧ s < q ∧ R[s]! = (j:Int)
    · have:=h1 r hr hc;split <;> omega
    · cases r with
      | nil => exact absurd (fun j r' h => by cases h) hc
      | cons x r =>
        have hx:x = j:=by
          obtain ⟨s,s1,s2,s3⟩:=hs x r rfl;rcases Nat.lt_or_ge s q with s4 | s4
          · exact absurd (fun y r' h => by cases h; exact ⟨s,s1,s4,s3⟩) hc
          · have:s = q:=by omega
            subst this;rw [hq] at s3;omega
        subst hx;have h5:=k1 r hr.2.2;have h6:more * ((x :: r).length:Int) = more * (r.length:Int) + more:=by rw [List.length_cons]; push_cast; rw [Int.mul_add,Int.mul_one]
        rw [h6];show (if e + more < c then e + more else c) ≤ wo (ls.getD (lastN x r) default) + _
        split <;> omega
  · by_cases hlt:e + more < c
    · rw [if_pos hlt];refine ⟨j :: r2,⟨hi,hj,k2⟩,?_⟩;have h6:more * ((j :: r2).length:Int) = more * (r2.length:Int) + more:=by rw [List.length_cons]; push_cast; rw [Int.mul_add,Int.mul_one]
      rw [h6];show _ = wo (ls.getD (lastN j r2) default) + _;omega
    · rw [if_neg hlt];exact ⟨r1,h2,h3⟩
theorem PW.no {R:Array Int} {p q i j:Nat} {c:Int} (h:PW ls ch wo more R p q i c) (hq:R[q]! = (j:Int)) (hj:¬ jn ls ch i j):PW ls ch wo more R p (q + 1) i c:=by
  refine ⟨fun r hr hs => h.1 r hr fun x r' hx => ?_,h.2⟩
  obtain ⟨s,s1,s2,s3⟩:=hs x r' hx;rcases Nat.lt_or_ge s q with s4 | s4
  · exact ⟨s,s1,s4,s3⟩
  · have:s = q:=by omega
    subst this;rw [hq] at s3;have hxj:j = x:=by omega
    subst hxj;subst hx;exact absurd hr.2.1 hj
theorem PW.done {R:Array Int} {p i:Nat} {c:Int} (h:PW ls ch wo more R p ls.length i c) (hR:OrdOk ls R) (hk:LOk ls ch) (hp:p < ls.length) (hi:R[p]! = (i:Int)) (hil:i < ls.length):LW ls ch wo more i c:=by
  refine ⟨fun r hr => h.1 r hr fun j r' hx => ?_,h.2⟩
  subst hx;exact hR.behind hk hp hi hr.2.1 hr.2.2.lt hil
theorem LW.rng {i:Nat} {c:Int} (h:LW ls ch wo more i c) (hi:i < ls.length) (hw:∀ i,i < ls.length → 0 ≤ wo (ls.getD i default) ∧ wo (ls.getD i default) ≤ 10060) (hm:0 ≤ more):0 ≤ c ∧ c ≤ 10060:=by
  obtain ⟨h1,r,h2,h3⟩:=h;have h4:=h1 [] hi;simp only [List.length_nil,lastN] at h4;have h5:=(hw i hi).2;have h6:=(hw _ h2.last_lt).1;have h7:0 ≤ more * (r.length:Int):=Int.mul_nonneg hm (by omega)
  constructor
  · omega
  · rw [show more * ((0:Nat):Int) = 0 by simp] at h4; omega

/-! The shortest journey. -/
variable {E:Lg → Prop}
def BestW (ls:List Lg) (ch:Int) (E:Lg → Prop) (i:Nat) (r:List Nat):Prop:=
  Ch ls ch i r ∧ E (ls.getD (lastN i r) default) ∧ ∀ s,Ch ls ch i s → E (ls.getD (lastN i s) default) → Le (i :: r) (i :: s)
structure CntOk (ls:List Lg) (ch:Int) (E:Lg → Prop) (cnt:Nat → Int):Prop where
  le:∀ i r,Ch ls ch i r → E (ls.getD (lastN i r) default) → cnt i ≤ r.length + 1
  att:∀ i,i < ls.length → cnt i < 10060 → ∃ r,Ch ls ch i r ∧ E (ls.getD (lastN i r) default) ∧ cnt i = r.length + 1
theorem CntOk.len {cnt:Nat → Int} (h:CntOk ls ch E cnt) {i:Nat} {r:List Nat} (hb:BestW ls ch E i r) (hc:cnt i < 10060):cnt i = r.length + 1:=by
  obtain ⟨h1,h2,h3⟩:=hb;obtain ⟨s,k1,k2,k3⟩:=h.att i h1.lt hc;have h4:=h.le i r h1 h2;have h5:=h3 s k1 k2;rcases h5 with h5 | ⟨h5,_⟩
  · simp at h5; omega
  · simp at h5; omega
def NearK (ls:List Lg) (K:Nat → Prop) (cnt:Nat → Int) (i:Nat):Prop:=i < ls.length ∧ K i ∧ cnt i < 10060 ∧ ∀ j,j < ls.length → K j → cnt i ≤ cnt j ∧ (cnt i = cnt j → i ≤ j)
theorem NearK.pick {K:Nat → Prop} {cnt:Nat → Int} {i:Nat} {r:List Nat} (h:NearK ls K cnt i) (hc:CntOk ls ch E cnt) (hb:BestW ls ch E i r) {j:Nat} {s:List Nat} (hj:K j) (hs:Ch ls ch j s) (he:E (ls.getD (lastN j s) default)):Le (i :: r) (j :: s):=by
  obtain ⟨h1,h2,h3,h4⟩:=h;obtain ⟨h5,h6⟩:=h4 j hs.lt hj;have h7:=hc.len hb h3;have h8:=hc.le j s hs he;rcases Int.lt_or_eq_of_le h5 with h9 | h9
  · exact .inl (by simp; omega)
  · rcases Nat.lt_or_ge r.length s.length with h10 | h10
    · exact .inl (by simp; omega)
    · have h11:=h6 h9;rcases Nat.lt_or_ge i j with h12 | h12
      · exact .inr ⟨by simp; omega,.inl h12⟩
      · have:i = j:=by omega
        subst this;exact hb.2.2 s hs he
theorem BestW.nil {cnt:Nat → Int} (hc:CntOk ls ch E cnt) {i:Nat} (hi:i < ls.length) (h1:¬ 1 < cnt i):BestW ls ch E i []:=by
  obtain ⟨r,k1,k2,k3⟩:=hc.att i hi (by omega)
  have hr:r = []:=List.length_eq_zero_iff.1 (by omega)
  subst hr;refine ⟨k1,k2,fun s hs he => ?_⟩
  cases s with
  | nil => exact Le.refl _
  | cons j s => exact .inl (by simp)
theorem Le.cons {x y:List Nat} (i:Nat) (h:Le x y):Le (i :: x) (i :: y):=by
  rcases h with h | ⟨h,h1⟩
  · exact .inl (by simpa using h)
  · exact .inr ⟨by simpa using h,.inr ⟨rfl,h1⟩⟩
theorem BestW.cons {cnt:Nat → Int} (hc:CntOk ls ch E cnt) {i j:Nat} {r:List Nat} (hi:i < ls.length) (h1:1 < cnt i) (hn:NearK ls (jn ls ch i) cnt j) (hb:BestW ls ch E j r):BestW ls ch E i (j :: r):=by
  refine ⟨⟨hi,hn.2.1,hb.1⟩,hb.2.1,fun s hs he => ?_⟩
  cases s with
  | nil =>
    have:=hc.le i [] hs he;simp at this;omega
  | cons k s => exact (hn.pick hc hb hs.2.1 hs.2.2 he).cons i
theorem CntOk.next {cnt:Nat → Int} (hc:CntOk ls ch E cnt) {i:Nat} (hi:i < ls.length) (h1:1 < cnt i) (h2:cnt i < 10060):∃ j,j < ls.length ∧ jn ls ch i j ∧ cnt j < 10060 ∧ cnt j < cnt i:=by
  obtain ⟨r,k1,k2,k3⟩:=hc.att i hi h2;cases r with
  | nil => simp at k3; omega
  | cons j r =>
    have:=hc.le j r k1.2.2 k2;refine ⟨j,k1.2.2.lt,k1.2.1,?_,?_⟩
    · simp at k3; omega
    · simp at k3; omega
theorem Short.of {B:Lg → Prop} {cnt:Nat → Int} (hc:CntOk ls ch E cnt) {i:Nat} {r:List Nat} (hn:NearK ls (fun j => B (ls.getD j default)) cnt i) (hb:BestW ls ch E i r):Short ls ch B E i r:=
  ⟨hb.1,hn.2.1,hb.2.1,fun j s hs hB he => hn.pick hc hb hB hs he⟩
end Go.Proofs.Yteechkbnccpicaa

namespace Go.Proofs.Yteechkbnccpicaa
open Go Go.AM
set_option maxRecDepth 10000

variable {S:AM.Sys} (hS:Only S 11)
include hS

theorem backI_runs (a:Option Addr) (n c:Nat) (H:Heap):Runs Try.prog S (.fn 80) [.slice a n c] H (.func (.func 95) ⟨[]⟩ ⟨[.pointer (some ⟨H.size,0,none⟩)]⟩) (H.newExact [.slice a n c] 25):=by
  suffices h:WCall Try.prog S (.fn 80) [.slice a n c] H (fun u H' => u = .func (.func 95) ⟨[]⟩ ⟨[.pointer (some ⟨H.size,0,none⟩)]⟩ ∧ H' = H.newExact [.slice a n c] 25) by
    obtain ⟨_,_,hr,rfl,rfl⟩:=h; exact hr
  have e1:H.newExact [.slice a n c] 25 = H.newExact [.slice a n c] 25:=rfl;have ce:(Value.slice a n c).cells.toList = [.slice a n c]:=rfl;have ny:notYield (.func 95) = true:=rfl;refine Zabc Try.func80 rfl (Nat.le_of_ble_eq_true rfl) (hS.no rfl _ _) ?_
  rw [Try.ntmps80,Try.results80]
  repeat' simp only [↓Zabz,↓Zacb,↓Zaca,↓Zacy,↓Zacx,↓Zadd,↓Zaan,↓bxOp_box,↓bxOp_makeFunc,↓bxPut,↓Zabu,↓Zabs,↓Zadb,↓Zadc,↓Zade,↓Zabi,↓Zabg,Zabo,List.map,↓reduceIte,Nat.reduceEqDiff,Nat.reduceLT,and_true,and_self, *,argF,List.getD_cons_zero]

set_option maxHeartbeats 2000000 in
theorem backIC_runs {l B:Nat} (a:Option Addr) (c:Nat) (ws:List Int) (J:Nat → Heap → Prop) (X:Heap → Prop) (H:Heap)
    (hrd:∀ k H5,J k H5 → H5.read B 0 1 = some [.slice a ws.length c] ∧ ∃ r o,SlI .i64 H5 (.slice a ws.length c) ws r o)
    (hstep:∀ k H5,k < ws.length → J (k + 1) H5 → WCall Try.prog S (.rnd l) [.int .i64 (k:Int),.int .i64 (ws.getD k 0)] H5 (fun u H6 => (u = .bool true ∧ J k H6) ∨ (u = .bool false ∧ X H6)))
    (h0:J ws.length H) (hml:ws.length ≤ 1000000) :
    WCall Try.prog S (.fn 95) [.func (.yield l) ⟨[]⟩ ⟨[]⟩,.pointer (some ⟨B,0,none⟩)] H (fun _ H' => J 0 H' ∨ X H'):=by
  obtain ⟨r1,r2⟩:=hrd _ _ h0;refine Zabc Try.func95 rfl (Nat.le_of_ble_eq_true rfl) (hS.no rfl _ _) ?_
  rw [Try.ntmps95,Try.results95];have hwn:IntKind.i64.wrap ((ws.length:Int) - 1) = (ws.length:Int) - 1:=IntWalk.i64_in _ (by omega)
  have hJs:∃ J',J' = J:=⟨_,rfl⟩;clear r2
  repeat' simp only [↓Zabz,↓Zacb,↓Zaaj,↓Zabw,↓Zacy,↓Zacx,↓Zadd,↓Zaan,↓Zaav,↓Zaao,↓Zaau,↓bxPut,↓Zabu,↓Zade,↓Zabi,↓Zabg,Zacz,Zaae,Zabk,↓reduceIte,Nat.reduceLT,one1,Option.bind_some, *,argF,List.getD_cons_zero,List.getD_cons_succ,lenIs,ldIs,one1]
  refine sxL_of (fun m ρ H5 => ∃ k:Nat,m = k ∧ k ≤ ws.length ∧ J k H5 ∧ ρ 0 = .func (.yield l) ⟨[]⟩ ⟨[]⟩ ∧ ρ 1 = .pointer (some ⟨B,0,none⟩) ∧ ρ 3 = .int .i64 ((k:Int) - 1))
    ⟨ws.length,rfl,Nat.le_refl _,h0,rfl,rfl,rfl⟩ ?_
  clear r1 h0;rintro k ρ H5 ⟨_,rfl,hk,hJ,e0,e1,e3⟩;cases k with
  | zero =>
    have hn:¬ (0:Int) ≤ ((0:Nat):Int) - 1:=by omega
    have hp:J 0 H5 ∨ X H5:=.inl hJ;clear hrd hstep hJ
    repeat' simp only [↓Zacc,↓Zabz,↓Zacb,↓Zaai,↓Zabw,↓Zaby,↓Zaca,↓Zacy,↓Zacx,↓Zadd,↓Zaaw,↓Zaan,↓Zaav,↓Zaao,↓Zaaz,↓Zaat,↓Zaba,↓bxPut,↓Zabu,↓Zabt,↓Zabv,↓Zaag,↓Zaah,↓Zaaf,↓Zabm,↓Zabl,↓Zabn,↓Zabr,↓Zabs,↓Zadb,↓Zade,↓Zabi,↓Zabg,Zacz,Zaae,Zabk,Zacv,↓reduceIte,Nat.reduceLT,dec_F, *]
  | succ k =>
    have hkl:k < ws.length:=by omega
    have hn:(0:Int) ≤ ((k + 1:Nat):Int) - 1:=by omega
    have hwk:((k + 1:Nat):Int) - 1 = (k:Int):=by omega
    have hwk2:IntKind.i64.wrap ((k:Int) - 1) = (k:Int) - 1:=IntWalk.i64_in _ (by omega)
    rw [hwk] at e3 hn;have hob:=hrd _ _ hJ;obtain ⟨r1,r,o,hs⟩:=hob;have hob:=SlI_at hs hkl;obtain ⟨hix,hr⟩:=hob;have hob:=hstep k H5 hkl hJ;obtain ⟨u,H6,hR,hu⟩:=hob;have f1:=hR.bx;have hms:k < k + 1:=by omega
    rcases hu with ⟨rfl,hJ6⟩ | ⟨rfl,hX⟩
    · clear hrd hstep hJ hR hs
      repeat' simp only [↓Zacc,↓Zabz,↓Zacb,↓Zaai,↓Zabw,↓Zaby,↓Zaca,↓Zacy,↓Zacx,↓Zadd,↓Zaaw,↓Zaan,↓Zaav,↓Zaao,↓Zaaz,↓Zaat,↓Zaba,↓bxPut,↓Zabu,↓Zabt,↓Zabv,↓Zaag,↓Zaah,↓Zaaf,↓Zabm,↓Zabl,↓Zabn,↓Zabr,↓Zabs,↓Zadb,↓Zade,↓Zabi,↓Zabg,Zacz,Zaae,Zabk,una_nt,sxCallVB_yield,Zacw,Zacv,List.map,↓reduceIte,Nat.reduceEqDiff,Nat.reduceLT,dec_T,true_and,one1,Option.bind_some, *,ldIs,ldC,one1]
      exact ⟨k,hms,k,rfl,by omega,hJ6,rfl⟩
    · have hp:J 0 H6 ∨ X H6:=.inr hX;clear hrd hstep hJ hR hs
      repeat' simp only [↓Zacc,↓Zabz,↓Zacb,↓Zaai,↓Zabw,↓Zaby,↓Zaca,↓Zacy,↓Zacx,↓Zadd,↓Zaaw,↓Zaan,↓Zaav,↓Zaao,↓Zaaz,↓Zaat,↓Zaba,↓bxPut,↓Zabu,↓Zabt,↓Zabv,↓Zaag,↓Zaah,↓Zaaf,↓Zabm,↓Zabl,↓Zabn,↓Zabr,↓Zabs,↓Zadb,↓Zade,↓Zabi,↓Zabg,Zacz,Zaae,Zabk,una_nf,sxCallVB_yield,Zacw,List.map,↓reduceIte,Nat.reduceEqDiff,Nat.reduceLT,dec_T,or_true,one1,Option.bind_some, *,ldIs,ldC,one1]
end Go.Proofs.Yteechkbnccpicaa

namespace Go.Proofs.Yteechkbnccpicaa
open Go Go.AM
set_option maxRecDepth 10000

theorem alIs (H:Heap):aAlloc Try.prog H 25 = some (.pointer (some ⟨H.size,0,none⟩),H.newExact [.slice none 0 0] 25):=by kernel_rfl
theorem infoIs:∃ i,Try.prog.info? 25 = some i ∧ i.size = 1:=Option.map_eq_some_iff.1 (show (Try.prog.info? 25).map (·.size) = some 1 by kernel_rfl)
theorem newIs (H:Heap) (a:Option Addr) (n c:Nat):∃ H2,aStore Try.prog (H.newExact [.slice none 0 0] 25) 25 (.pointer (some ⟨H.size,0,none⟩)) (.slice a n c) = some H2 ∧ Keep H H2 ∧ Own H2 H.size 25 [.slice a n c]:=by
  obtain ⟨i,hi,hsz⟩:=infoIs;obtain ⟨H2,h1,h2,h3,h4,h5⟩:=(Own.new H [.slice none 0 0] 25).store (t:=25) hi (v:=.slice a n c) (new:=[.slice a n c]) rfl (by rw [hsz]; rfl) rfl (o:=0) (by show 0 + 1 ≤ 1; decide)
  exact ⟨H2,h1,h5 H (Keep.newExact _ _ _) (Nat.le_refl _),h2⟩
theorem stD {HB:Base} (hLB:HB.low ≤ HB.size) {H:Heap} {b r:Nat} {d:Array Int} (h:SaI HB H b r true d) {i:Nat} (hi:i < d.size) (x:Int) :
    ∃ H2 H3,aStore Try.prog (H.relow H.size) 3 (.pointer (some ⟨r,i,none⟩)) (.int .i64 x) = some H2 ∧ H2.relow (Nat.min H.low H2.low) = H3 ∧ SaI HB H3 b r true (d.setIfInBounds i x) ∧ H3.size = H.size ∧ H3.low ≤ H3.size ∧ (∀ l lr,l ≠ r → LoopAt H l lr → LoopAt H3 l lr):=by
  have hlo:=h.keep.lo;obtain ⟨H2,h1,h2,h3⟩:=stAtI (h.kept (Keep.relowS H)) hi x;have lo2:=h2.keep.lo;have lw2:=h2.keep.low hLB;have h3':H2.size = H.size:=h3;refine ⟨H2,_,h1,rfl,h2.relow (Nat.le_min.2 ⟨hlo,lo2⟩) fun _ => Nat.le_trans (Nat.min_le_right _ _) lw2,h3',Nat.le_trans (Nat.min_le_right _ _) lw2,fun l lr hl hlp => ?_⟩
  exact ((hlp.relow (k:=H.size)).store h1 hl).relow
theorem flat_set_at {d:Array Int} {i j:Nat} (hi:i < d.size) (x:Int):(d.setIfInBounds i x)[j]! = if j = i then x else d[j]!:=by
  by_cases h:j = i
  · subst h;rw [if_pos rfl,getElem!_pos _ j (by simpa using hi),Array.getElem_setIfInBounds,if_pos rfl]
    simpa using hi
  · rw [if_neg h];simp only [getElem!_def,Array.getElem?_setIfInBounds,if_neg (Ne.symm h)]

theorem ldWf (H:Heap) (r o:Nat):aLoad Try.prog H 93 (.pointer (some ⟨r,o,none⟩)) = (H.read r o 1).bind one1:=by kernel_rfl
theorem tailI {H:Heap} {ro:Nat} {cells:List Value} (ho:Own H ro 3 cells) {n p:Nat} (hp:p ≤ n):∃ q,aSlice Try.prog H 25 (.slice (some ⟨ro,0,none⟩) n n) (some (.int .i64 (p:Int))) none none = some (.slice (some ⟨ro,q,none⟩) (n - p) (n - p)) ∧ (p < n → q = p):=by
  obtain ⟨i,hi,hsz⟩:=infoI;have hb:aBounds n n (some (.int .i64 (p:Int))) none none = some (p,n,n):=by
    unfold aBounds aBound;have g1:(0:Int) ≤ (p:Int) ∧ (p:Int) ≤ (n:Int):=by omega
    simp [g1]
  refine ⟨cond (Nat.beq n p) 0 (0 + p * 1),?_,fun h => ?_⟩
  · unfold aSlice;rw [Try.underlying25];simp only [];rw [hi,ho.get,hb];simp only [];rw [show Nat.ble n n = true from Nat.ble_eq_true_of_le (Nat.le_refl n),hsz]
    rfl
  · have hq:Nat.beq n p = false:=by
      cases hbq:Nat.beq n p
      · rfl
      · exact absurd (Nat.eq_of_beq_eq_true hbq) (by omega)
    rw [hq];show 0 + p * 1 = p;omega
def WoOk (S:AM.Sys) (g:FuncId) (pre cs:List Value) (wo:Lg → Int):Prop:=
  ∀ (H:Heap) (x:Lg),H.low ≤ H.size → ∃ H2,Keep H H2 ∧ Runs Try.prog S (.fn g) (pre ++ [.agg ⟨lc x⟩] ++ cs) H (.int .i64 (wo x)) H2
def DoneF (ls:List Lg) (ch:Int) (wo:Lg → Int) (more:Int) (R d:Array Int) (p:Nat):Prop:=∀ s,p ≤ s → s < ls.length → LW ls ch wo more R[s]!.toNat d[R[s]!.toNat]!
theorem DoneF.same {ls:List Lg} {ch:Int} {wo:Lg → Int} {more:Int} {R d d2:Array Int} {p:Nat} (h:DoneF ls ch wo more R d p) (he:∀ s,p ≤ s → s < ls.length → d2[R[s]!.toNat]! = d[R[s]!.toNat]!):DoneF ls ch wo more R d2 p:=fun s h1 h2 => by
  rw [he s h1 h2]; exact h s h1 h2
def LJ (ls:List Lg) (ch:Int) (wo:Lg → Int) (more:Int) (R:Array Int) (HB:Base) (LR l:Nat) (lr:LoopRec) (k:Nat) (X:Heap):Prop:=∃ d,SaI HB X LR LR true d ∧ LoopAt X l lr ∧ d.size = ls.length ∧ DoneF ls ch wo more R d k
theorem toListI {d:Array Int} {i:Nat} (hi:i < d.size):d.toList.getD i 0 = d[i]!:=by
  rw [getElem!_pos _ i hi,List.getD_eq_getElem?_getD,List.getElem?_eq_getElem (by simpa using hi)]
  rfl
def PostL (ls:List Lg) (ch:Int) (wo:Lg → Int) (more:Int) (H:Heap) (u:Value) (H':Heap):Prop:=
  ∃ (r:Nat) (d:Array Int),u = .slice (some ⟨r,0,none⟩) ls.length ls.length ∧ Keep H H' ∧ Own H' r 3 (flat celInt d) ∧ H.size ≤ r ∧ d.size = ls.length ∧ ∀ i,i < ls.length → LW ls ch wo more i d[i]!

variable {S:AM.Sys} (hS:Only S 11)
include hS

set_option maxHeartbeats 4000000 in
theorem least_runs (ls:List Lg) (a:Option Addr) (c r o:Nat) (ch:Int) (ro:Nat) (R:Array Int) (g:FuncId) (pre cs:List Value) (wo:Lg → Int) (more:Int) (H:Heap) (hL:H.low ≤ H.size) (hg:Grp H)
    (hl:SlG H (.slice a ls.length c) ls r o) (h60:ls.length ≤ 60) (ho:Own H ro 3 (R.toList.map fun z => .int .i64 z)) (hR:OrdOk ls R) (hk:LOk ls ch) (hfit:∀ i,i < ls.length → Fit ch (ls.getD i default))
    (hwo:WoOk S g pre cs wo) (hw:∀ i,i < ls.length → 0 ≤ wo (ls.getD i default) ∧ wo (ls.getD i default) ≤ 10060) (hm:0 ≤ more ∧ more ≤ 1) :
    ∃ u H',Runs Try.prog S (.fn 61) [tv a ls.length c ch (.slice (some ⟨ro,0,none⟩) ls.length ls.length),.func (.func g) ⟨pre⟩ ⟨cs⟩,.int .i64 more] H u H' ∧ PostL ls ch wo more H u H':=by
  suffices h:WCall Try.prog S (.fn 61) [tv a ls.length c ch (.slice (some ⟨ro,0,none⟩) ls.length ls.length),.func (.func g) ⟨pre⟩ ⟨cs⟩,.int .i64 more] H (fun u H' => PostL ls ch wo more H u H') by
    obtain ⟨u,H',hr,h⟩:=h; exact ⟨u,H',hr,h⟩
  obtain ⟨H1,e1,hK1,t3,t0,t1,t2⟩:=boxT H a ls.length c ch (.slice (some ⟨ro,0,none⟩) ls.length ls.length);have o1:Own H1 H.size 64 [.slice a ls.length c,.int .i64 ch,.slice (some ⟨ro,0,none⟩) ls.length ls.length]:=by rw [← e1]; exact Own.new _ _ _
  have z1:H1.size = H.size + 1:=by rw [← e1,size_new]
  obtain ⟨H2,e2⟩:∃ H2,H1.newExact [.func (.func g) ⟨pre⟩ ⟨cs⟩] 93 = H2:=⟨_,rfl⟩;have hK2:Keep H1 H2:=by rw [← e2]; exact Keep.newExact _ _ _
  have o2:Own H2 H1.size 93 [.func (.func g) ⟨pre⟩ ⟨cs⟩]:=by rw [← e2]; exact Own.new _ _ _
  have z2:H2.size = H1.size + 1:=by rw [← e2,size_new]
  obtain ⟨H3,e3⟩:∃ H3,H2.newExact [.int .i64 more] 3 = H3:=⟨_,rfl⟩;have hK3:Keep H2 H3:=by rw [← e3]; exact Keep.newExact _ _ _
  have o3:Own H3 H2.size 3 [.int .i64 more]:=by rw [← e3]; exact Own.new _ _ _
  have z3:H3.size = H2.size + 1:=by rw [← e3,size_new]
  have mk:=mkI H3 (l:=(ls.length:Int)) (by omega) (by omega)
  rw [Int.toNat_natCast] at mk;obtain ⟨H4,e4⟩:∃ H4,H3.newExact ((List.replicate ls.length (0:Int)).map fun z => .int .i64 z) 3 = H4:=⟨_,rfl⟩
  rw [e4] at mk;have hK4:Keep H3 H4:=by rw [← e4]; exact Keep.newExact _ _ _
  have o4:Own H4 H3.size 3 ((List.replicate ls.length (0:Int)).map fun z => .int .i64 z):=by rw [← e4]; exact Own.new _ _ _
  have z4:H4.size = H3.size + 1:=by rw [← e4,size_new]
  have al5:=alIs H4;obtain ⟨H5,s5,hK5,o5⟩:=newIs H4 (some ⟨H3.size,0,none⟩) ls.length ls.length;have z5:H4.size < H5.size:=o5.lt;obtain ⟨H6,e6⟩:∃ H6,H5.newExact [.slice (some ⟨ro,0,none⟩) ls.length ls.length] 25 = H6:=⟨_,rfl⟩;have f6:=(backI_runs hS (some ⟨ro,0,none⟩) ls.length ls.length H5).bx;rw [e6] at f6;have hK6:Keep H5 H6:=by rw [← e6]; exact Keep.newExact _ _ _
  have o6:Own H6 H5.size 25 [.slice (some ⟨ro,0,none⟩) ls.length ls.length]:=by rw [← e6]; exact Own.new _ _ _
  have z6:H6.size = H5.size + 1:=by rw [← e6,size_new]
  have hK26:=((hK3.trans hK4).trans hK5).trans hK6;have hK06:=(hK1.trans hK2).trans hK26;have p1:=(o1.keep hK2).keep hK26;have p2:=o2.keep hK26;have p3:=(o3.keep (hK4.trans hK5)).keep hK6;have p4:=(o4.keep hK5).keep hK6;have p5:=o5.keep hK6;have u0:H3.read H.size 0 1 = some [.slice a ls.length c]:=((o1.keep hK2).keep hK3).read (o:=0) (n:=1) (by simp)
  have u2:H5.read H.size 2 1 = some [.slice (some ⟨ro,0,none⟩) ls.length ls.length]:=((((o1.keep hK2).keep hK3).keep hK4).keep hK5).read (o:=2) (n:=1) (by simp)
  have hRl:R.toList.length = ls.length:=by rw [Array.length_toList]; exact hR.sz
  obtain ⟨HB,hHB⟩:∃ HB:Base,HB = { toHeap:=H,side:=[(H.size,64,[.slice a ls.length c,.int .i64 ch,.slice (some ⟨ro,0,none⟩) ls.length ls.length]),(H1.size,93,[.func (.func g) ⟨pre⟩ ⟨cs⟩]),(H2.size,3,[.int .i64 more]),(H4.size,25,[.slice (some ⟨H3.size,0,none⟩) ls.length ls.length]),(H5.size,25,[.slice (some ⟨ro,0,none⟩) ls.length ls.length])] }:=⟨_,rfl⟩;have hb:HB.toHeap = H:=by rw [hHB]
  have hbs:=congrArg Base.side hHB;simp only [] at hbs;have hLB:HB.low ≤ HB.size:=by rw [hb]; exact hL
  have hgB:Grp HB.toHeap:=by rw [hb]; exact hg
  have q1:H.size < H1.size:=by omega
  have q2:H1.size < H2.size:=by omega
  have q3:H2.size < H3.size:=by omega
  have q4:H3.size < H4.size:=by omega
  have q5:H4.size < H5.size:=by omega
  have q6:H5.size < H6.size:=by omega
  have hd6:SaI HB H6 H3.size H3.size true (List.replicate ls.length (0:Int)).toArray:=by
    show Arr HB H6 H3.size H3.size _ _ true (flat celInt _);rw [flat_int];refine Arr.own (by rw [hb]; exact hK06) hgB (by rw [hb]; omega) (fun x hx => ?_) p4
    rw [hbs] at hx;rcases List.mem_cons.1 hx with rfl | hx
    · exact ⟨p1,by show H.size ≠ H3.size; omega⟩
    rcases List.mem_cons.1 hx with rfl | hx
    · exact ⟨p2,by show H1.size ≠ H3.size; omega⟩
    rcases List.mem_cons.1 hx with rfl | hx
    · exact ⟨p3,by show H2.size ≠ H3.size; omega⟩
    rcases List.mem_cons.1 hx with rfl | hx
    · exact ⟨p5,by show H4.size ≠ H3.size; omega⟩
    rcases List.mem_cons.1 hx with rfl | hx
    · exact ⟨o6,by show H5.size ≠ H3.size; omega⟩
    · cases hx
  have hside:∀ {X:Heap} {d:Array Int},SaI HB X H3.size H3.size true d → Own X H.size 64 [.slice a ls.length c,.int .i64 ch,.slice (some ⟨ro,0,none⟩) ls.length ls.length] ∧ Own X H1.size 93 [.func (.func g) ⟨pre⟩ ⟨cs⟩] ∧ Own X H2.size 3 [.int .i64 more] ∧ Own X H4.size 25 [.slice (some ⟨H3.size,0,none⟩) ls.length ls.length] ∧ Own X H5.size 25 [.slice (some ⟨ro,0,none⟩) ls.length ls.length]:=fun {X d} h => by
    have hs:=h.side;rw [hbs] at hs;exact ⟨(hs _ (List.mem_cons_self ..)).1,(hs _ (List.mem_cons_of_mem _ (List.mem_cons_self ..))).1,(hs _ (List.mem_cons_of_mem _ (List.mem_cons_of_mem _ (List.mem_cons_self ..)))).1,(hs _ (List.mem_cons_of_mem _ (List.mem_cons_of_mem _ (List.mem_cons_of_mem _ (List.mem_cons_self ..))))).1,(hs _ (List.mem_cons_of_mem _ (List.mem_cons_of_mem _ (List.mem_cons_of_mem _ (List.mem_cons_of_mem _ (List.mem_cons_self ..)))))).1⟩
  have hnl:∀ {l:Nat},H5.size < l → l ≠ H3.size ∧ HB.size ≤ l ∧ ∀ x ∈ HB.side,x.1 ≠ l:=fun {l} hl => by
    refine ⟨by omega,by rw [hb]; omega,fun x hx => ?_⟩
    rw [hbs] at hx;rcases List.mem_cons.1 hx with rfl | hx
    · show H.size ≠ l; omega
    rcases List.mem_cons.1 hx with rfl | hx
    · show H1.size ≠ l; omega
    rcases List.mem_cons.1 hx with rfl | hx
    · show H2.size ≠ l; omega
    rcases List.mem_cons.1 hx with rfl | hx
    · show H4.size ≠ l; omega
    rcases List.mem_cons.1 hx with rfl | hx
    · show H5.size ≠ l; omega
    · cases hx
  have hkeep:∀ {X:Heap} {d:Array Int},SaI HB X H3.size H3.size true d → Keep H X:=fun h => by have:=h.keep; rw [hb] at this; exact this
  have ny1:notYield (.func g) = true:=rfl;have nmx:Go.maxLen = 9223372036854775807:=rfl;clear hHB hbs z1 z2 z3 z4 z5 z6 hK1 hK2 hK3 hK4 hK5 hK6 hK26 hK06 p1 p2 p3 p4 p5 o1 o2 o3 o4 o5 o6 t0 t1 t2 t3;unfold tv;refine Zabc Try.func61 rfl (Nat.le_of_ble_eq_true rfl) (hS.no rfl _ _) ?_
  rw [Try.ntmps61,Try.results61];have cf:∀ (fn:Fn) (x y:Array Value),(Value.func fn x y).cells.toList = [.func fn x y]:=fun _ _ _ => rfl
  have ci:∀ (k:IntKind) (z:Int),(Value.int k z).cells.toList = [.int k z]:=fun _ _ => rfl
  repeat' simp only [↓Zabz,↓Zacb,↓Zabw,↓Zaca,↓Zacy,↓Zacx,↓Zadd,↓Zaan,↓Zaal,↓bxOp_box,↓Zaav,↓Zaay,↓bxOp_makeSlice,↓Zaas,↓Zaba,↓Zaau,↓Zada,↓bxPut,↓Zabu,↓Zabs,↓Zadb,↓Zadc,↓Zade,↓Zabi,↓Zabg,↓Zabh,Zacz,Zacd,Zabo,List.map,List.nil_append,List.append_nil,↓reduceIte,Nat.reduceEqDiff,Nat.reduceLT,Nat.add_zero,one1,Option.bind_some, *,argF,List.getD_cons_zero,List.getD_cons_succ,Zabd,faT0,faT2,ldLs,ldIs,lenG,one1]
  refine range_I (fun ρ => ρ 3 = .pointer (some ⟨H.size,0,none⟩) ∧ ρ 4 = .pointer (some ⟨H1.size,0,none⟩) ∧ ρ 5 = .pointer (some ⟨H2.size,0,none⟩) ∧ ρ 7 = .pointer (some ⟨H4.size,0,none⟩) ∧ ρ 18 = .func (.func 95) ⟨[]⟩ ⟨[.pointer (some ⟨H5.size,0,none⟩)]⟩)
    (f:=95) (fa:=[]) (fb:=[.pointer (some ⟨H5.size,0,none⟩)]) ⟨rfl,rfl,rfl,rfl,rfl⟩ (fun ρ hI => hI.2.2.2.2) ?_
  rintro ρ lr ⟨i3,i4,i5,i7,_⟩ hst hfr hps has hbd;obtain ⟨lp0,kl0,_⟩:=LoopAt.new H6 lr;have hnl6:=hnl q6;have hpend:lr.pending = none:=by rw [← hst]; rfl
  have hstate:lr.state = .ready:=by rw [← hst]; rfl
  have hend:∀ X,LJ ls ch wo more R HB H3.size H6.size lr 0 X → ∃ Y d,Y = loopSet X H6.size lr .exhausted none ∧ LoopAt X H6.size lr ∧ SaI HB Y H3.size H3.size true d ∧ d.size = ls.length ∧ DoneF ls ch wo more R d 0:=fun X ⟨d,h1,h2,h3,h4⟩ => ⟨_,d,rfl,h2,h1.loopSet h2 hnl6.2.1 hnl6.1 hnl6.2.2 _ _,h3,h4⟩
  refine (backIC_runs hS (l:=H6.size) (B:=H5.size) (some ⟨ro,0,none⟩) ls.length R.toList (LJ ls ch wo more R HB H3.size H6.size lr) (fun _ => False) _ ?_ ?_ ?_ (by omega)).mono ?_
  · rintro k X ⟨d,h1,_,_,_⟩;have h5:=(hside h1).2.2.2.2;rw [hRl];refine ⟨h5.read (o:=0) (n:=1) (by simp),ro,0,?_⟩
    have h6:=Own.sl (k:=.i64) (ho.keep (hkeep h1)) (fun z hz => ?_) (by omega) ls.length
    · rw [hRl] at h6; exact h6
    · obtain ⟨p,hp,rfl⟩:=List.getElem_of_mem hz;have hp2:p < ls.length:=by omega
      obtain ⟨j,hj,hjl⟩:=hR.val p hp2;rw [getElem!_pos _ p (by have:=hR.sz; omega)] at hj
      rw [Array.getElem_toList,hj];have m1:IntKind.i64.min = -9223372036854775808:=by decide
      have m2:IntKind.i64.max = 9223372036854775807:=by decide
      rw [m1,m2];omega
  · rintro k X hkl ⟨d,hd,hlp,hds,hdn⟩;rw [hRl] at hkl;have hob:=hR.val k hkl;obtain ⟨i,hRi,hil⟩:=hob;rw [toListI (by have:=hR.sz; omega),hRi]
    refine rnd_I hlp hst hfr hps has hbd rfl (show ∀ t ∈ ([19,20] : List Nat),t < 61 by decide) rfl rfl ?_
    clear hps has hbd hend;obtain ⟨x,hx⟩:∃ x,x = ls.getD i default:=⟨_,rfl⟩;obtain ⟨H7,h7⟩:∃ H7,H7 = loopSet X H6.size lr .busy none:=⟨_,rfl⟩;have hd7:=hd.loopSet hlp hnl6.2.1 hnl6.1 hnl6.2.2 .busy none;have hlp7:=(hlp.set .busy none).1;rw [← h7] at hd7 hlp7;have hL7:=(hkeep hd7).low hL;have hs7:=hside hd7;obtain ⟨w1,w2,w3,w4,_⟩:=hs7;have rV7:H7.read H4.size 0 1 = some [.slice (some ⟨H3.size,0,none⟩) ls.length ls.length]:=w4.read (o:=0) (n:=1) (by simp)
    have rW7:H7.read H1.size 0 1 = some [.func (.func g) ⟨pre⟩ ⟨cs⟩]:=w2.read (o:=0) (n:=1) (by simp)
    have rT7:H7.read H.size 0 1 = some [.slice a ls.length c]:=w1.read (o:=0) (n:=1) (by simp)
    obtain ⟨q0,hix,hrdG,_⟩:=SlG_at (hl.keep (hkeep hd7)) hil;rw [← hx] at hrdG;obtain ⟨H8a,H8,hK8,hL8,f8,fd8⟩:=drawn hL7 (hwo (H7.relow H7.size) x (Nat.le_refl _));have hix2:Zaaa Try.prog 25 (.slice (some ⟨H3.size,0,none⟩) ls.length ls.length) (.int .i64 (i:Int)) = _:=ixAtI hil;obtain ⟨H9a,H9,s9,r9,hd9,z9,hL9,lp9⟩:=stD hLB (hd7.kept hK8) (show i < d.size by omega) (wo x)
    have hlp9:=lp9 H6.size (lr.st .busy none) hnl6.1 (hlp7.keep hK8);obtain ⟨v1,_,v3,v4,_⟩:=hside hd9;have rT9:H9.read H.size 2 1 = some [.slice (some ⟨ro,0,none⟩) ls.length ls.length]:=v1.read (o:=2) (n:=1) (by simp)
    obtain ⟨q,tl9,hq⟩:=tailI (ho.keep (hkeep hd9)) (n:=ls.length) (p:=k + 1) (by omega)
    have hwk:IntKind.i64.wrap ((k:Int) + 1) = ((k + 1:Nat):Int):=by rw [IntWalk.i64_in _ (by omega)]; omega
    have hne:∀ s,k + 1 ≤ s → s < ls.length → R[s]!.toNat ≠ i:=fun s h1 h2 he => by
      obtain ⟨j,hj,_⟩:=hR.val s h2;rw [hj,Int.toNat_natCast] at he;subst he;have:=hR.inj s k h2 hkl (by rw [hj,hRi])
      omega
    have hdn9:DoneF ls ch wo more R (d.setIfInBounds i (wo x)) (k + 1):=hdn.same fun s h1 h2 => by rw [flat_set_at (by omega),if_neg (hne s h1 h2)]
    have hpw9:PW ls ch wo more R k (k + 1) i (d.setIfInBounds i (wo x))[i]!:=by
      rw [flat_set_at (by omega),if_pos rfl,hx]; exact PW.start hil
    have hz9:(d.setIfInBounds i (wo x)).size = ls.length:=by simpa using hds
    obtain ⟨d9,hd9e⟩:∃ d9,d9 = d.setIfInBounds i (wo x):=⟨_,rfl⟩;rw [← hd9e] at hd9 hdn9 hpw9 hz9;have h7':=h7.symm;have hstr:=hst;clear hx h7 hd hd7 hdn hd9e w1 w2 w3 w4 v1 v3 v4 hlp7 lp9 hK8 hd6 z9
    repeat' (first | simp only [↓Zabx,↓Zabz,↓Zacb,↓Zaaj,↓Zabw,↓Zacy,↓Zacx,↓Zacq,↓Zaak,↓Zacl,↓Zack,↓Zaci,↓Zacj,↓Zacp,↓Zadd,↓Zaaw,↓Zaan,↓Zaav,↓Zaay,↓Zaao,↓bxOp_slice,↓Zaas,↓Zaat,↓Zaba,↓Zaau,↓Zada,↓bxPut,↓Zabu,↓Zade,↓Zabi,↓Zabg,aSliceH_slice,Zacz,Zaae,Zabk,Zacd,List.map,↓reduceIte,Nat.reduceEqDiff,Nat.reduceLT,true_and,Zaab,Nat.add_zero,one1,Option.bind_some,Option.map_some,Option.map_none, *,updL,faT0,faT2,ldLs,ldIs,ldWf,ldG,lenIs,one1] | (with_reducible first | refine Zacf (by assumption) (by decide +kernel) ?_ | refine Zace (by decide +kernel) ?_ | refine Zaco (by decide +kernel) ?_ | refine Zach ?_))
    refine sxL_of (fun m ρ X2 => ∃ (q':Nat) (d2:Array Int),m = (ls.length - (k + 1)) - q' ∧ q' ≤ ls.length - (k + 1) ∧ SaI HB X2 H3.size H3.size true d2 ∧ LoopAt X2 H6.size (lr.st .busy none) ∧ d2.size = ls.length ∧ DoneF ls ch wo more R d2 (k + 1) ∧ PW ls ch wo more R k (k + 1 + q') i d2[i]! ∧
        ρ 3 = .pointer (some ⟨H.size,0,none⟩) ∧ ρ 5 = .pointer (some ⟨H2.size,0,none⟩) ∧ ρ 7 = .pointer (some ⟨H4.size,0,none⟩) ∧ ρ 9 = .int .i64 (i:Int) ∧ ρ 35 = .slice (some ⟨ro,q,none⟩) (ls.length - (k + 1)) (ls.length - (k + 1)) ∧ ρ 36 = .int .i64 ((ls.length - (k + 1):Nat):Int) ∧ ρ 37 = .int .i64 (q':Int))
      ⟨0,d9,rfl,Nat.zero_le _,hd9,hlp9,hz9,hdn9,hpw9,(by first | exact i3 | rfl),(by first | exact i5 | rfl),(by first | exact i7 | rfl),rfl,rfl,rfl,rfl⟩ ?_
    clear hd9 hlp9 hz9 hdn9 hpw9 rV7 rW7 rT7 hix hrdG f8 fd8 s9 r9 tl9 rT9 i3 i4 i5 i7 hlp h7' hst hfr;rintro m ρ X2 ⟨q',d2,rfl,hq',hd2,hlp2,hz2,hdn2,hpw2,e3,e5,e7,e9,e35,e36,e37⟩;have hL2:=(hkeep hd2).low hL
    by_cases hlt:q' < ls.length - (k + 1)
    · have hlt':(q':Int) < ((ls.length - (k + 1):Nat):Int):=by omega
      have hwq:IntKind.i64.wrap ((q':Int) + 1) = ((q' + 1:Nat):Int):=by rw [IntWalk.i64_in _ (by omega)]; omega
      have hqk:=hq (by omega)
      have hob:=hR.val (k + 1 + q') (by omega)
      obtain ⟨j,hRj,hjl⟩:=hob;have hox:=ho.keep (hkeep hd2);have hrj:X2.read ro (q + q') 1 = some [.int .i64 (j:Int)]:=by
        have h1:=hox.read (o:=q + q') (n:=1) (by rw [List.length_map]; omega)
        rw [h1,hqk,map_at (by omega),toListI (by have:=hR.sz; omega),hRj]
      have hix3:Zaaa Try.prog 25 (.slice (some ⟨ro,q,none⟩) (ls.length - (k + 1)) (ls.length - (k + 1))) (.int .i64 (q':Int)) = some (.pointer (some ⟨ro,q + q',none⟩)):=by
        rw [ixIs,if_pos ⟨by omega,hlt'⟩,Int.toNat_natCast,Nat.mul_one]
      have hs2:=hside hd2;obtain ⟨w1,_,w3,w4,_⟩:=hs2;have rT:X2.read H.size 0 3 = some [.slice a ls.length c,.int .i64 ch,.slice (some ⟨ro,0,none⟩) ls.length ls.length]:=w1.read (o:=0) (n:=3) (by simp)
      have hfo:=follows_runs hS ls a c r o ch (.slice (some ⟨ro,0,none⟩) ls.length ls.length) X2 hL2 (hl.keep (hkeep hd2)) i j hil hjl (hfit i hil);obtain ⟨H10,hK10,hR10⟩:=hfo;have f10:=hR10.bx;unfold tv at f10;have hd10:=hd2.kept hK10;have hlp10:=hlp2.keep hK10;have hL10:=hK10.low hL2;have hms:ls.length - (k + 1) - (q' + 1) < ls.length - (k + 1) - q':=by omega
      have hjb:joinB ch (ls.getD i default) (ls.getD j default) = true ∨ joinB ch (ls.getD i default) (ls.getD j default) = false:=by cases joinB ch (ls.getD i default) (ls.getD j default) <;> simp
      rcases hjb with hjb | hjb
      · rw [hjb] at f10;have rV:H10.read H4.size 0 1 = some [.slice (some ⟨H3.size,0,none⟩) ls.length ls.length]:=(w4.keep hK10).read (o:=0) (n:=1) (by simp)
        have rM:H10.read H2.size 0 1 = some [.int .i64 more]:=(w3.keep hK10).read (o:=0) (n:=1) (by simp)
        have hixi:Zaaa Try.prog 25 (.slice (some ⟨H3.size,0,none⟩) ls.length ls.length) (.int .i64 (i:Int)) = _:=ixAtI hil;have hixj:Zaaa Try.prog 25 (.slice (some ⟨H3.size,0,none⟩) ls.length ls.length) (.int .i64 (j:Int)) = _:=ixAtI hjl;have li:=ldAtI hd10 (show i < d2.size by omega)
        have lj:=ldAtI hd10 (show j < d2.size by omega)
        have hlwj:=hdn2 (k + 1 + q') (by omega) (by omega)
        rw [hRj,Int.toNat_natCast] at hlwj;have hrj2:=hlwj.rng hjl hw hm.1;have hww:IntKind.i64.wrap (d2[j]! + more) = d2[j]! + more:=IntWalk.i64_in _ (by omega)
        have hpw3:=hpw2.yes hil hRj hjb hlwj;have hob:=stD hLB hd10 (show i < d2.size by omega) (if d2[j]! + more < d2[i]! then d2[j]! + more else d2[i]!)
        obtain ⟨H11a,H11,s11,r11,hd11,z11,hL11,lp11⟩:=hob;have hlp11:=lp11 H6.size (lr.st .busy none) hnl6.1 hlp10;have hne:∀ s,k + 1 ≤ s → s < ls.length → R[s]!.toNat ≠ i:=fun s h1 h2 he => by
          obtain ⟨j,hj,_⟩:=hR.val s h2;rw [hj,Int.toNat_natCast] at he;subst he;have:=hR.inj s k h2 hkl (by rw [hj,hRi])
          omega
        have hdn3:DoneF ls ch wo more R (d2.setIfInBounds i (if d2[j]! + more < d2[i]! then d2[j]! + more else d2[i]!)) (k + 1):=hdn2.same fun s h1 h2 => by rw [flat_set_at (by omega),if_neg (hne s h1 h2)]
        have hpw4:PW ls ch wo more R k (k + 1 + (q' + 1)) i (d2.setIfInBounds i (if d2[j]! + more < d2[i]! then d2[j]! + more else d2[i]!))[i]!:=by
          rw [flat_set_at (by omega),if_pos rfl]; exact hpw3
        have hz3:(d2.setIfInBounds i (if d2[j]! + more < d2[i]! then d2[j]! + more else d2[i]!)).size = ls.length:=by simpa using hz2
        have mn:=mm_min .i64 .i64 d2[i]! (d2[j]! + more);have ldci:∀ z:Int,celInt.val z = .int .i64 z:=fun _ => rfl
        rw [ldci] at li lj;have hgy:∃ y,y = (if d2[j]! + more < d2[i]! then d2[j]! + more else d2[i]!):=⟨_,rfl⟩
        obtain ⟨y,hy⟩:=hgy;rw [← hy] at s11 hd11 hdn3 hpw4 hz3 mn;have hgd:∃ d3,d3 = d2.setIfInBounds i y:=⟨_,rfl⟩;obtain ⟨d3,hd3⟩:=hgd;rw [← hd3] at hd11 hdn3 hpw4 hz3;clear hy hd3 hd2 hlp2 hz2 hdn2 hpw2 hpw3 hlwj hne hox w1 w3 w4 hK10 hR10 hd10 hlp10 lp11 hjb z11 hqk ldci
        repeat' (first | simp only [↓Zacc,↓Zabx,↓Zabz,↓Zacb,↓Zaai,↓Zabw,↓Zaby,↓Zacy,↓Zacx,↓Zacq,↓Zaak,↓Zacl,↓Zack,↓Zacg,↓Zacj,↓Zacp,↓Zadd,↓Zaaw,↓Zaan,↓Zaav,↓Zaay,↓Zaao,↓Zaat,↓Zaba,↓bxOp_min,↓Zada,↓bxPut,↓Zabu,↓Zabt,↓Zaag,↓Zaaf,↓Zabm,↓Zabl,↓Zade,↓Zabi,↓Zabg,↓Zabh,Zacz,Zaae,Zabk,Zacd,Zacw,List.map,List.nil_append,List.append_nil,↓reduceIte,Nat.reduceEqDiff,Nat.reduceLT,dec_T,true_and,Zaab,one1,Option.bind_some,Option.map_some, *,ldIs,ldC,ldTt,one1] | (with_reducible first | refine Zacf (by assumption) (by decide +kernel) ?_ | refine Zace (by decide +kernel) ?_ | refine Zaco (by decide +kernel) ?_ | refine Zach ?_))
        exact ⟨_,hms,q' + 1,d3,rfl,by omega,hd11,hz3,hdn3,hpw4,rfl⟩
      · rw [hjb] at f10;have hpw3:=hpw2.no hRj (show ¬ jn ls ch i j by unfold jn; rw [hjb]; simp)
        clear hd2 hlp2 hpw2 hox w1 w3 w4 hK10 hR10 hjb hqk
        repeat' (first | simp only [↓Zacc,↓Zabx,↓Zabz,↓Zacb,↓Zaai,↓Zabw,↓Zaby,↓Zacy,↓Zacx,↓Zacq,↓Zaak,↓Zacl,↓Zack,↓Zacg,↓Zacj,↓Zadd,↓Zaaw,↓Zaan,↓Zaav,↓Zaay,↓Zaao,↓Zaat,↓Zaba,↓bxOp_min,↓Zada,↓bxPut,↓Zabu,↓Zabt,↓Zaag,↓Zaaf,↓Zabm,↓Zabl,↓Zade,↓Zabi,↓Zabg,↓Zabh,Zacz,Zaae,Zabk,Zacd,Zacw,Zacv,List.map,List.nil_append,List.append_nil,↓reduceIte,Nat.reduceEqDiff,Nat.reduceLT,dec_T,true_and,one1,Option.bind_some,Option.map_some, *,ldC,ldTt,one1] | (with_reducible first | refine Zacf (by assumption) (by decide +kernel) ?_ | refine Zace (by decide +kernel) ?_ | refine Zaco (by decide +kernel) ?_ | refine Zach ?_))
        exact ⟨_,hms,q' + 1,d2,rfl,by omega,hd10,hz2,hdn2,hpw3,rfl⟩
    · have hke:q' = ls.length - (k + 1):=by omega
      have hlt':¬ ((q':Int) < ((ls.length - (k + 1):Nat):Int)):=by omega
      have hpwn:PW ls ch wo more R k ls.length i d2[i]!:=by
        have:k + 1 + q' = ls.length:=by omega
        rw [this] at hpw2;exact hpw2
      have hlw:=hpwn.done hR hk hkl hRi hil;have hdn3:DoneF ls ch wo more R d2 k:=fun s h1 h2 => by
        rcases Nat.lt_or_ge k s with h3 | h3
        · exact hdn2 s h3 h2
        · have:s = k:=by omega
          subst this;rw [hRi,Int.toNat_natCast]; exact hlw
      have hdY:=hd2.loopSet hlp2 hnl6.2.1 hnl6.1 hnl6.2.2 .ready none;have hlY:=(hlp2.set .ready none).1
      have hp:LJ ls ch wo more R HB H3.size H6.size lr k (loopSet X2 H6.size (lr.st .busy none) .ready none):=⟨d2,hdY,by
        rw [LoopRec.st_st] at hlY;rw [hstr] at hlY
        exact hlY,hz2,hdn3⟩
      clear hke hd2 hdY hlY hdn2 hpw2 hpwn hlw hdn3
      repeat' (first | simp only [↓Zacc,↓Zabx,↓Zabz,↓Zacb,↓Zaai,↓Zabw,↓Zaby,↓Zacy,↓Zacx,↓Zacq,↓Zaak,↓Zacl,↓Zack,↓Zacg,↓Zacj,↓Zadd,↓Zaaw,↓Zaan,↓Zaav,↓Zaay,↓Zaao,↓Zaat,↓Zaba,↓bxOp_min,↓Zada,↓bxPut,↓Zabu,↓Zabt,↓Zaag,↓Zaaf,↓Zabm,↓Zabl,↓Zade,↓Zabi,↓Zabg,↓Zabh,Zacz,Zaae,Zabk,Zacd,Zacv,List.nil_append,↓reduceIte,Nat.reduceLT,dec_F,and_false,or_false,and_self, *,goOn,stOf,AExit.jump] | (with_reducible first | refine Zacf (by assumption) (by decide +kernel) ?_ | refine Zace (by decide +kernel) ?_ | refine Zaco (by decide +kernel) ?_ | refine Zach ?_))
  · have hn:(List.replicate ls.length (0:Int)).toArray.size = ls.length:=by simp
    rw [hRl];exact ⟨_,hd6.kept kl0,lp0,hn,fun s h1 h2 => by omega⟩
  · rintro _ X (hJ | hF)
    · obtain ⟨Y,d,hY,hlp,hdY,hdz,hdn⟩:=hend X hJ;refine ⟨.normal,lr,hlp,by rw [hpend]; rfl,by rw [hstate]; rfl,?_⟩
      obtain ⟨_,_,_,w4,_⟩:=hside hdY;have rV:Y.read H4.size 0 1 = some [.slice (some ⟨H3.size,0,none⟩) ls.length ls.length]:=w4.read (o:=0) (n:=1) (by simp)
      have hp:PostL ls ch wo more H (.slice (some ⟨H3.size,0,none⟩) ls.length ls.length) Y:=⟨H3.size,d,rfl,hkeep hdY,hdY.toOwn,by omega,hdz,fun i hi => by
        obtain ⟨p,hp1,hp2⟩:=hR.all i hi;have:=hdn p (Nat.zero_le _) hp1;rw [hp2,Int.toNat_natCast] at this
        exact this⟩
      have hY':loopSet X H6.size lr .exhausted (AExit.jump .normal) = Y:=hY.symm;clear hJ hend hY hdY hlp hd6
      repeat' simp only [↓bxPut,↓Zabu,↓Zaag,↓Zade,Zacz,↓reduceIte,Nat.reduceLT,one1,Option.bind_some, *,ldIs,one1]
    · exact hF.elim
end Go.Proofs.Yteechkbnccpicaa
