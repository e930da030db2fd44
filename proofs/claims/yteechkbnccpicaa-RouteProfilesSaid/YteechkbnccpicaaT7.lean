/- The reference's Then; are points the same? -/
import Derived.Test.YteechkbnccpicaaT1r
import Derived.Test.YteechkbnccpicaaGj
set_option linter.unusedVariables false
set_option linter.unusedSimpArgs false
set_option linter.unusedSectionVars false

namespace Go.Proofs.Yteechkbnccpicaa
open Go Go.AM
set_option maxRecDepth 10000

structure KeptFrom (A B:List Pt) (wait:Int) (k:Nat) (q:List Pt):Prop where
  asc:AscP q
  mem:∀ x ∈ q,ThenP A B wait x.1 x.2 ∧ R2 x ∧ (k < A.length → (A.getD k default).1 ≤ x.1)
  dom:∀ j,k ≤ j → j < A.length → ∀ i,FirstP B ((A.getD j default).2 + wait) i → i < B.length → ∃ y ∈ q,(A.getD j default).1 ≤ y.1 ∧ y.2 ≤ (B.getD i default).2
  len:q.length + k ≤ A.length
theorem KeptFrom.last (A B:List Pt) (wait:Int):KeptFrom A B wait A.length []:=⟨AscP.nil,(fun x hx => by cases hx),(fun j h1 h2 => by omega),by simp⟩
theorem KeptFrom.push {A B:List Pt} {wait:Int} {k:Nat} {q:List Pt} (hA:ProfOk A) (h:KeptFrom A B wait (k + 1) q) (hk:k < A.length) {i:Nat} (hf:FirstP B ((A.getD k default).2 + wait) i) (hi:i < B.length) (hr:R2 ((A.getD k default).1,(B.getD i default).2))
    (hn:∀ y q',q = y :: q' → (B.getD i default).2 < y.2):KeptFrom A B wait k (((A.getD k default).1,(B.getD i default).2) :: q) where
  asc:=by
    refine List.pairwise_cons.2 ⟨fun x hx => ?_,h.asc⟩
    obtain ⟨_,_,h3⟩:=h.mem x hx;cases q with
    | nil => cases hx
    | cons y q' =>
      have h1:=hn y q' rfl;have h2:y.1 ≤ x.1 ∧ y.2 ≤ x.2:=by
        rcases List.mem_cons.1 hx with e | hx
        · rw [e]; exact ⟨Int.le_refl _,Int.le_refl _⟩
        · have:=(List.pairwise_cons.1 h.asc).1 x hx;exact ⟨by omega,by omega⟩
      obtain ⟨⟨j,hj1,hj2,hj3⟩,_,h5⟩:=h.mem y (List.mem_cons_self ..);refine ⟨?_,by show _ < x.2; omega⟩
      show (A.getD k default).1 < x.1;have hlen:=h.len;have h6:k + 1 < A.length:=by simp at hlen; omega
      have:=h5 h6;have:=(hA.2.lt (show k < k + 1 by omega) h6).1
      omega
  mem:=fun x hx => by
    rcases List.mem_cons.1 hx with e | hx
    · rw [e]; exact ⟨⟨k,hk,rfl,i,hf,hi,rfl⟩,hr,fun _ => Int.le_refl _⟩
    · obtain ⟨h1,h2,h3⟩:=h.mem x hx;refine ⟨h1,h2,fun _ => ?_⟩
      have hlen:=h.len;have:0 < q.length:=List.length_pos_of_mem hx;have h6:k + 1 < A.length:=by omega
      have:=h3 h6;have:=(hA.2.lt (show k < k + 1 by omega) h6).1
      omega
  dom:=fun j h1 h2 i' hf' hi' => by
    rcases Nat.lt_or_ge k j with h3 | h3
    · obtain ⟨y,hy,h4⟩:=h.dom j h3 h2 i' hf' hi';exact ⟨y,List.mem_cons_of_mem _ hy,h4⟩
    · obtain rfl:j = k:=by omega
      obtain rfl:=hf.eq hf';exact ⟨_,List.mem_cons_self ..,Int.le_refl _,Int.le_refl _⟩
  len:=by have:=h.len; rw [List.length_cons]; omega
theorem KeptFrom.skip {A B:List Pt} {wait:Int} {k:Nat} {q:List Pt} (hA:ProfOk A) (h:KeptFrom A B wait (k + 1) q) (hk:k < A.length)
    (hn:∀ i,FirstP B ((A.getD k default).2 + wait) i → i < B.length → ∃ y q',q = y :: q' ∧ y.2 ≤ (B.getD i default).2):KeptFrom A B wait k q where
  asc:=h.asc
  mem:=fun x hx => by
    obtain ⟨h1,h2,h3⟩:=h.mem x hx;refine ⟨h1,h2,fun _ => ?_⟩
    have hlen:=h.len;have:0 < q.length:=List.length_pos_of_mem hx;have h6:k + 1 < A.length:=by omega
    have:=h3 h6;have:=(hA.2.lt (show k < k + 1 by omega) h6).1
    omega
  dom:=fun j h1 h2 i' hf' hi' => by
    rcases Nat.lt_or_ge k j with h3 | h3
    · exact h.dom j h3 h2 i' hf' hi'
    · obtain rfl:j = k:=by omega
      obtain ⟨y,q',rfl,h4⟩:=hn i' hf' hi';refine ⟨y,List.mem_cons_self ..,?_,h4⟩;have hlen:=h.len;have h6:j + 1 < A.length:=by simp at hlen; omega
      have:=(h.mem y (List.mem_cons_self ..)).2.2 h6;have:=(hA.2.lt (show j < j + 1 by omega) h6).1
      omega
  len:=by have:=h.len; omega
theorem KeptFrom.best {A B:List Pt} {wait:Int} {q:List Pt} (h:KeptFrom A B wait 0 q):BestOf (ThenP A B wait) q where
  mem:=fun x hx => (h.mem x hx).1
  asc:=h.asc
  dom:=fun d a ⟨k,h1,h2,i,h3,h4,h5⟩ => by rw [h2,h5]; exact h.dom k (Nat.zero_le _) h1 i h3 h4
variable {S:AM.Sys} (hS:Only S 11)
include hS

end Go.Proofs.Yteechkbnccpicaa
