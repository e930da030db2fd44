/- The best of some points. -/
import Derived.Test.YteechkbnccpicaaSEP
set_option linter.unusedVariables false
set_option linter.unusedSimpArgs false
set_option linter.unusedSectionVars false

namespace Go.Proofs.Yteechkbnccpicaa
open Go Go.AM
set_option maxRecDepth 10000

theorem bs2 (H:Heap) (x y:Int):aBuildSlice Try.prog H 25 2 [(0,.int .i64 x),(1,.int .i64 y)] = some (.slice (some ⟨H.size,0,none⟩) 2 2,H.newExact [.int .i64 x,.int .i64 y] 3):=by kernel_rfl
def ltS (x y:Pt):Bool:=decide (y.1 < x.1 ∨ (x.1 = y.1 ∧ x.2 < y.2))
variable {S:AM.Sys} (hS:Only S 11)
include hS

end Go.Proofs.Yteechkbnccpicaa

namespace Go.Proofs.Yteechkbnccpicaa
open Go Go.AM
set_option maxRecDepth 10000

theorem stableS (L:Nat):Stable stE L:=stable_prod (stable_int _ _) (stable_int _ _)
structure KeptTo (S:Array Pt) (k:Nat) (m:List Pt):Prop where
  asc:AscP m
  mem:∀ x ∈ m,∃ j,j < k ∧ x = S[j]!
  dom:∀ j,j < k → ∃ q ∈ m,S[j]!.1 ≤ q.1 ∧ q.2 ≤ S[j]!.2
  len:m.length ≤ k
theorem KeptTo.zero (S:Array Pt):KeptTo S 0 []:=⟨AscP.nil,(fun x hx => by cases hx),fun j hj => absurd hj (Nat.not_lt_zero j),Nat.le_refl _⟩
def SortedS (S:Array Pt):Prop:=Sort.SortedIn ltS 0 S.size S
theorem SortedS.le {S:Array Pt} (h:SortedS S) {i j:Nat} (hij:i < j) (hj:j < S.size):S[j]!.1 ≤ S[i]!.1 ∧ (S[j]!.1 = S[i]!.1 → S[i]!.2 ≤ S[j]!.2):=by
  have h1:=h i j (Nat.zero_le _) hij hj;unfold ltS at h1;have h2:=of_decide_eq_false h1;exact ⟨by omega,fun h => by omega⟩
theorem KeptTo.push {S:Array Pt} {k:Nat} {m:List Pt} (hs:SortedS S) (h:KeptTo S k m) (hk:k < S.size) (hn:∀ q m',m = q :: m' → S[k]!.2 < q.2):KeptTo S (k + 1) (S[k]! :: m) where
  asc:=by
    refine List.pairwise_cons.2 ⟨fun x hx => ?_,h.asc⟩
    cases m with
    | nil => cases hx
    | cons q m' =>
      have h1:=hn q m' rfl;have h2:q.1 ≤ x.1 ∧ q.2 ≤ x.2:=by
        rcases List.mem_cons.1 hx with e | hx
        · rw [e]; exact ⟨Int.le_refl _,Int.le_refl _⟩
        · have:=(List.pairwise_cons.1 h.asc).1 x hx;exact ⟨by omega,by omega⟩
      obtain ⟨j,hj,e⟩:=h.mem q (List.mem_cons_self ..);have h3:=hs.le hj hk;rw [← e] at h3;refine ⟨?_,by omega⟩
      rcases Int.lt_or_eq_of_le h3.1 with h4 | h4
      · omega
      · have:=h3.2 h4; omega
  mem:=fun x hx => by
    rcases List.mem_cons.1 hx with e | hx
    · exact ⟨k,Nat.lt_succ_self k,e⟩
    · obtain ⟨j,hj,e⟩:=h.mem x hx;exact ⟨j,by omega,e⟩
  dom:=fun j hj => by
    rcases Nat.lt_or_ge j k with h1 | h1
    · obtain ⟨q,hq,h2⟩:=h.dom j h1;exact ⟨q,List.mem_cons_of_mem _ hq,h2⟩
    · rw [show j = k by omega]
      exact ⟨_,List.mem_cons_self ..,Int.le_refl _,Int.le_refl _⟩
  len:=by have:=h.len; rw [List.length_cons]; omega
theorem KeptTo.skip {S:Array Pt} {k:Nat} {q:Pt} {m:List Pt} (hs:SortedS S) (h:KeptTo S k (q :: m)) (hk:k < S.size) (hn:¬ S[k]!.2 < q.2):KeptTo S (k + 1) (q :: m) where
  asc:=h.asc
  mem:=fun x hx => by
    obtain ⟨j,hj,e⟩:=h.mem x hx;exact ⟨j,by omega,e⟩
  dom:=fun j hj => by
    rcases Nat.lt_or_ge j k with h1 | h1
    · exact h.dom j h1
    · rw [show j = k by omega]
      obtain ⟨i,hi,e⟩:=h.mem q (List.mem_cons_self ..);have h3:=hs.le hi hk;rw [← e] at h3;exact ⟨q,List.mem_cons_self ..,h3.1,by omega⟩
  len:=by have:=h.len; omega
theorem KeptTo.best {S:Array Pt} {m:List Pt} (h:KeptTo S S.size m):BestOf (fun x y => (x,y) ∈ S.toList) m where
  mem:=fun x hx => by
    obtain ⟨j,hj,e⟩:=h.mem x hx;show x ∈ S.toList;rw [e,getElem!_pos _ j hj];exact Array.getElem_mem_toList hj
  asc:=h.asc
  dom:=fun a b hab => by
    obtain ⟨j,hj,e⟩:=List.getElem_of_mem hab;have hj':j < S.size:=by simpa using hj
    obtain ⟨q,hq,h1,h2⟩:=h.dom j hj';have:S[j]! = (a,b):=by rw [getElem!_pos _ j hj']; simpa using e
    rw [this] at h1 h2;exact ⟨q,hq,h1,h2⟩

variable {S:AM.Sys} (hS:Only S 11)
include hS

def PostBest (H0:Heap) (P:Int → Int → Prop) (N:Nat) (u:Value) (H':Heap):Prop:=∃ R:List Pt,PtsIn H0 H' u R.toArray ∧ BestOf P R ∧ R.length ≤ N

end Go.Proofs.Yteechkbnccpicaa
