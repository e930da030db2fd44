/- The legs that can be last, by the number of changes, by the reference. -/
import Derived.Test.YteechkbnccpicaaR9
set_option linter.unusedVariables false
set_option linter.unusedSimpArgs false
set_option linter.unusedSectionVars false

namespace Go.Proofs.Yteechkbnccpicaa
open Go Go.AM
set_option maxRecDepth 10000

def opn (dn:List Bool):Nat:=dn.countP fun b => !b
theorem opn_set {dn:List Bool} {i:Nat} (hi:i < dn.length) (h:dn.getD i false = false):opn (dn.set i true) + 1 = opn dn:=by
  unfold opn;rw [List.countP_set hi];rw [List.getD_eq_getElem?_getD,List.getElem?_eq_getElem hi] at h;have h:dn[i] = false:=h;rw [h];have:0 < dn.countP fun b => !b:=List.countP_pos_iff.2 ⟨dn[i],List.getElem_mem hi,by rw [h]; rfl⟩
  simp; omega
def Cl (ls:List Lg) (ch:Int) (w:List Bool) (a b:Nat):Prop:=w.getD a false = true → chg1 ls a b = 0 → jn ls ch a b → w.getD b false = true
def Pass (ls:List Lg) (ch:Int) (w0 w:List Bool) (ag:Bool) (i j:Nat):Prop:=(ag = false → w = w0 ∧ (∀ a,a < i → ∀ b,b < ls.length → Cl ls ch w0 a b) ∧ ∀ b,b < j → Cl ls ch w0 i b) ∧ (ag = true → opn w < opn w0)
theorem Pass.skip {ls:List Lg} {ch:Int} {w0 w:List Bool} {ag:Bool} {i j:Nat} (h:Pass ls ch w0 w ag i j) (hc:Cl ls ch w i j):Pass ls ch w0 w ag i (j + 1):=by
  refine ⟨fun ha => ?_,h.2⟩
  obtain ⟨h1,h2,h3⟩:=h.1 ha;refine ⟨h1,h2,fun b hb => ?_⟩
  rcases Nat.lt_or_ge b j with h4 | h4
  · exact h3 b h4
  · rw [show b = j by omega,← h1]; exact hc
theorem Pass.add {ls:List Lg} {ch:Int} {w0 w:List Bool} {ag:Bool} {i j:Nat} (h:Pass ls ch w0 w ag i j) (hj:j < w.length) (hw:w.getD j false = false):Pass ls ch w0 (w.set j true) true i (j + 1):=by
  refine ⟨fun ha => (by cases ha),fun _ => ?_⟩
  have h1:=opn_set hj hw;cases ag with
  | false => rw [(h.1 rfl).1] at h1 ⊢; omega
  | true => have:=h.2 rfl; omega
theorem Pass.row {ls:List Lg} {ch:Int} {w0 w:List Bool} {ag:Bool} {i:Nat} (h:Pass ls ch w0 w ag i ls.length):Pass ls ch w0 w ag (i + 1) 0:=by
  refine ⟨fun ha => ?_,h.2⟩
  obtain ⟨h1,h2,h3⟩:=h.1 ha;refine ⟨h1,fun a hai b hb => ?_,fun b hb => absurd hb (Nat.not_lt_zero b)⟩
  rcases Nat.lt_or_ge a i with h4 | h4
  · exact h2 a h4 b hb
  · rw [show a = i by omega]; exact h3 b hb
def NxtI (ls:List Lg) (ch:Int) (now w:List Bool) (i j:Nat):Prop:=∀ a b,b < ls.length → (a < i ∨ (a = i ∧ b < j)) → now.getD a false = true → chg1 ls a b = 1 → jn ls ch a b → w.getD b false = true
theorem NxtI.row {ls:List Lg} {ch:Int} {now w:List Bool} {i:Nat} (h:NxtI ls ch now w i ls.length):NxtI ls ch now w (i + 1) 0:=fun a b hb hab h1 h2 h3 => h a b hb (by omega) h1 h2 h3
theorem NxtI.skip {ls:List Lg} {ch:Int} {now w:List Bool} {i j:Nat} (h:NxtI ls ch now w i j) (hn:now.getD i false = true → chg1 ls i j = 1 → jn ls ch i j → False):NxtI ls ch now w i (j + 1):=fun a b hb hab h1 h2 h3 => by
  by_cases hx:a = i ∧ b = j
  · obtain ⟨rfl,rfl⟩:=hx; exact (hn h1 h2 h3).elim
  · exact h a b hb (by omega) h1 h2 h3
theorem NxtI.add {ls:List Lg} {ch:Int} {now w:List Bool} {i j:Nat} (h:NxtI ls ch now w i j) (hj:j < w.length):NxtI ls ch now (w.set j true) i (j + 1):=fun a b hb hab h1 h2 h3 => by
  by_cases hbj:b = j
  · subst hbj; exact setD_same hj
  · rw [setD_other hbj]; exact h a b hb (by omega) h1 h2 h3
theorem NxtI.has {ls:List Lg} {ch:Int} {B:Lg → Prop} {k:Nat} {now w:List Bool} (h:NxtI ls ch now w ls.length 0) (ha:AllCE ls ch B (k:Int) now):HasNew ls ch B ((k + 1:Nat):Int) w:=fun j hj hx => by
  rcases hx with ⟨_,h1⟩ | ⟨i,h1,h2,h3,h4⟩
  · omega
  · have e:((k + 1:Nat):Int) - 1 = (k:Int):=by omega
    rw [e] at h4;exact h i j hj (.inl h1) ((ha.2 i h1).2 h4) h3 h2
theorem SomeCE.next {ls:List Lg} {ch:Int} {B:Lg → Prop} {k:Nat} {now w:List Bool} (h:SomeCE ls ch B ((k + 1:Nat):Int) w) (ha:AllCE ls ch B (k:Int) now) {i j:Nat} (hi:i < ls.length) (hj:j < ls.length) (hn:now.getD i false = true) (hc:chg1 ls i j = 1) (hjn:jn ls ch i j):SomeCE ls ch B ((k + 1:Nat):Int) (w.set j true):=by
  refine ⟨by simp [h.1],fun q hq hwq => ?_⟩
  by_cases hqj:q = j
  · subst hqj;exact (CE.step hq).2 (.inr ⟨i,k,hi,hjn,(ha.2 i hi).1 hn,by rw [hc]; omega⟩)
  · rw [setD_other hqj] at hwq;exact h.2 q hq hwq
structure AK (A X:Heap) (r:Nat) (w:List Bool) (n:Nat):Prop where
  keep:Keep A X
  own:Own X r 4 (bvs w)
  len:w.length = n
theorem AK.more {A X Y:Heap} {r n:Nat} {w:List Bool} (h:AK A X r w n) (k:Keep X Y):AK A Y r w n:=⟨h.keep.trans k,h.own.keep k,h.len⟩
theorem AK.set {A X:Heap} {r n:Nat} {w:List Bool} (h:AK A X r w n) (hr:A.size ≤ r) {j:Nat} (hj:j < n):∃ Y,aStore Try.prog X 4 (.pointer (some ⟨r,j,none⟩)) (.bool true) = some Y ∧ AK A Y r (w.set j true) n:=by
  obtain ⟨Y,h1,h2,_,h4⟩:=storeB h.own true (o:=j) (by rw [h.len]; exact hj)
  exact ⟨Y,h1,h4 A h.keep hr,h2,by rw [List.length_set]; exact h.len⟩

variable {S:AM.Sys} (hS:Only S 11)
include hS

def PostAr (ls:List Lg) (ch fr at':Int) (A:Heap) (u:Value) (H':Heap):Prop:=
  ∃ rows r o,Keep A H' ∧ Grp H' ∧ rows.length = ls.length + 1 ∧ (∀ q:Nat,q < rows.length → AllCE ls ch (BegB fr at') (q:Int) (rows.getD q [])) ∧ SlE (sliceE boolE) H' u rows r o
end Go.Proofs.Yteechkbnccpicaa
