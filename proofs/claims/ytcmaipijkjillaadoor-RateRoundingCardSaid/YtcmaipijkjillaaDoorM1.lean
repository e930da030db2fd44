/- Rounds that gain: the mathematics. -/
import Derived.Test.YtcmaipijkjillaaDoorGg
set_option linter.unusedVariables false
set_option linter.unusedSimpArgs false
set_option linter.unusedSectionVars false

namespace Go.Proofs.YtcmaipijkjillaaDoor
open Go Go.AM

structure Off where
  f:Int
  t:Int
  n:Int
  d:Int
instance:Inhabited Off:=⟨⟨0,0,0,0⟩⟩
def offW (l:List Off) (w:List Int) (k:Nat):Off:=l.getD (w.getD k 0).toNat default
def WkOk (l:List Off) (w:List Int):Prop:=(∀ k,k < w.length → 0 ≤ w.getD k 0 ∧ w.getD k 0 < (l.length:Int)) ∧ ∀ k,k + 1 < w.length → (offW l w k).t = (offW l w (k + 1)).f
def prN (l:List Off) (w:List Int):Nat → Int
  | 0 => 1
  | k + 1 => prN l w k * (offW l w k).n
def prD (l:List Off) (w:List Int):Nat → Int
  | 0 => 1
  | k + 1 => prD l w k * (offW l w k).d
def Trl (l:List Off) (w:List Int) (m:Nat):Prop:=(∀ j k,j < k → k < m → (offW l w j).t ≠ (offW l w k).t) ∧ ∀ k,k + 1 < m → (offW l w k).t ≠ (offW l w 0).f
def GnOk (l:List Off) (w:List Int):Prop:=0 < w.length ∧ WkOk l w ∧ Trl l w w.length ∧ (offW l w (w.length - 1)).t = (offW l w 0).f ∧ prD l w w.length < prN l w w.length
theorem Trl.zero {l:List Off} {w:List Int}:Trl l w 0:=⟨fun j k h h2 => absurd h2 (Nat.not_lt_zero k),fun k h => absurd h (Nat.not_lt_zero _)⟩
theorem Trl.succ {l:List Off} {w:List Int} {m:Nat}:Trl l w (m + 1) ↔ Trl l w m ∧ (∀ j,j < m → (offW l w j).t ≠ (offW l w m).t) ∧ (0 < m → (offW l w (m - 1)).t ≠ (offW l w 0).f):=by
  constructor
  · intro ⟨h1,h2⟩;exact ⟨⟨fun j k hj hk => h1 j k hj (by omega),fun k hk => h2 k (by omega)⟩,fun j hj => h1 j m hj (by omega),fun hm => h2 (m - 1) (by omega)⟩
  · rintro ⟨⟨h1,h2⟩,h3,h4⟩;refine ⟨fun j k hj hk => ?_,fun k hk => ?_⟩
    · rcases Nat.lt_or_ge k m with h | h
      · exact h1 j k hj h
      · have:k = m:=by omega
        subst this; exact h3 j hj
    · rcases Nat.lt_or_ge (k + 1) m with h | h
      · exact h2 k h
      · have:=h4 (by omega)
        rwa [show m - 1 = k by omega] at this
theorem Trl.mono {l:List Off} {w:List Int} {m k:Nat} (h:Trl l w m) (hk:k ≤ m):Trl l w k:=⟨fun a b h1 h2 => h.1 a b h1 (by omega),fun a h1 => h.2 a (by omega)⟩
def cnt (b:List Bool):Nat:=(b.filter id).length
theorem cnt_set {b:List Bool} (hl:b.length = 6) {c:Nat} (hc:c < 6) (h:b.getD c false = false):cnt (b.set c true) = cnt b + 1:=by
  obtain ⟨x0,x1,x2,x3,x4,x5,rfl⟩:∃ x0 x1 x2 x3 x4 x5,b = [x0,x1,x2,x3,x4,x5]:=by
    match b,hl with
    | [x0,x1,x2,x3,x4,x5],_ => exact ⟨_,_,_,_,_,_,rfl⟩
  have key:∀ (c:Fin 6) (x0 x1 x2 x3 x4 x5:Bool),[x0,x1,x2,x3,x4,x5].getD c.1 false = false → cnt ([x0,x1,x2,x3,x4,x5].set c.1 true) = cnt [x0,x1,x2,x3,x4,x5] + 1:=by decide
  exact key ⟨c,hc⟩ x0 x1 x2 x3 x4 x5 h
theorem cnt_le {b:List Bool} (hl:b.length = 6) {n:Nat} (hn:n ≤ 6) (h:∀ c,n ≤ c → b.getD c false = false):cnt b ≤ n:=by
  obtain ⟨x0,x1,x2,x3,x4,x5,rfl⟩:∃ x0 x1 x2 x3 x4 x5,b = [x0,x1,x2,x3,x4,x5]:=by
    match b,hl with
    | [x0,x1,x2,x3,x4,x5],_ => exact ⟨_,_,_,_,_,_,rfl⟩
  have key:∀ (n:Fin 7) (x0 x1 x2 x3 x4 x5:Bool),(∀ c:Fin 6,n.1 ≤ c.1 → [x0,x1,x2,x3,x4,x5].getD c.1 false = false) → cnt [x0,x1,x2,x3,x4,x5] ≤ n.1:=by decide
  exact key ⟨n,by omega⟩ x0 x1 x2 x3 x4 x5 (fun c hc => h c.1 hc)
theorem setB {b:List Bool} {i j:Nat} {x:Bool} (hi:i < b.length):(b.set i x).getD j false = if i = j then x else b.getD j false:=by
  rw [List.getD_eq_getElem?_getD,List.getElem?_set];split
  · rfl
  · rw [List.getD_eq_getElem?_getD]
structure Rch (l:List Off) (w:List Int) (n:Int) (k:Nat) (b:List Bool):Prop where
  len:b.length = 6
  iff:∀ c:Nat,b.getD c false = true ↔ ∃ j,j < k ∧ (offW l w j).t = (c:Int)
  cnt:cnt b = k
theorem Rch.zero {l:List Off} {w:List Int} {n:Int}:Rch l w n 0 (List.replicate 6 false):=⟨rfl,fun c => by
  have:(List.replicate 6 false).getD c false = false:=by rw [List.getD_eq_getElem?_getD,List.getElem?_replicate]; split <;> rfl
  rw [this]
  exact ⟨fun h => (by cases h),fun ⟨j,hj,_⟩ => absurd hj (Nat.not_lt_zero j)⟩,rfl⟩
theorem Rch.le {l:List Off} {w:List Int} {n:Int} {k:Nat} {b:List Bool} (h:Rch l w n k b) (hn:0 ≤ n ∧ n ≤ 6) (ht:∀ j,j < k → 0 ≤ (offW l w j).t ∧ (offW l w j).t < n):(k:Int) ≤ n:=by
  have:=cnt_le h.len (n:=n.toNat) (by omega) fun c hc => by
    cases hb:b.getD c false with
    | false => rfl
    | true =>
      obtain ⟨j,hj,he⟩:=(h.iff c).1 hb;have:=ht j hj; omega
  have h3:=h.cnt;omega
theorem Rch.next {l:List Off} {w:List Int} {n:Int} {k:Nat} {b:List Bool} (h:Rch l w n k b) {c:Nat} (hc:c < 6) (hb:b.getD c false = false) (ht:(offW l w k).t = (c:Int)):Rch l w n (k + 1) (b.set c true):=by
  refine ⟨by rw [List.length_set]; exact h.len,fun c' => ?_,by rw [cnt_set h.len hc hb,h.cnt]⟩
  rw [setB (by rw [h.len]; exact hc)]
  by_cases hcc:c = c'
  · subst hcc;rw [if_pos rfl];exact ⟨fun _ => ⟨k,Nat.lt_succ_self k,ht⟩,fun _ => rfl⟩
  · rw [if_neg hcc,h.iff];constructor
    · rintro ⟨j,hj,he⟩; exact ⟨j,by omega,he⟩
    · rintro ⟨j,hj,he⟩;rcases Nat.lt_or_ge j k with h1 | h1
      · exact ⟨j,h1,he⟩
      · have:j = k:=by omega
        subst this;rw [ht] at he; omega
theorem pr_rng {l:List Off} {w:List Int} (h:∀ k,k < w.length → 1 ≤ (offW l w k).n ∧ (offW l w k).n ≤ 50 ∧ 1 ≤ (offW l w k).d ∧ (offW l w k).d ≤ 50):∀ k,k ≤ w.length → (1 ≤ prN l w k ∧ prN l w k ≤ 50 ^ k) ∧ (1 ≤ prD l w k ∧ prD l w k ≤ 50 ^ k)
  | 0,_ => ⟨⟨Int.le_refl 1,Int.le_refl 1⟩,Int.le_refl 1,Int.le_refl 1⟩
  | k + 1,hk => by
    obtain ⟨⟨a1,a2⟩,a3,a4⟩:=pr_rng h k (by omega)
    obtain ⟨b1,b2,b3,b4⟩:=h k (by omega)
    have e:(50:Int) ^ (k + 1) = 50 ^ k * 50:=Int.pow_succ ..;rw [e];show (1 ≤ prN l w k * (offW l w k).n ∧ _) ∧ 1 ≤ prD l w k * (offW l w k).d ∧ _;refine ⟨⟨?_,Int.mul_le_mul a2 b2 (by omega) (by omega)⟩,?_,Int.mul_le_mul a4 b4 (by omega) (by omega)⟩
    · have:=Int.mul_le_mul a1 b1 (by decide) (by omega); omega
    · have:=Int.mul_le_mul a3 b3 (by decide) (by omega); omega
theorem pow50 {k:Nat} (h:k ≤ 6):(50:Int) ^ k ≤ 15625000000:=by
  have h1:∀ k:Fin 7,(50:Int) ^ k.1 ≤ 15625000000:=by decide
  exact h1 ⟨k,by omega⟩
end Go.Proofs.YtcmaipijkjillaaDoor
