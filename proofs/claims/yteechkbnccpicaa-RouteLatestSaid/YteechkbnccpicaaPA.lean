/- The legs that can be reached from some, by the reference. -/
import Derived.Test.YteechkbnccpicaaQV
set_option linter.unusedVariables false
set_option linter.unusedSimpArgs false
set_option linter.unusedSectionVars false

namespace Go.Proofs.Yteechkbnccpicaa
open Go Go.AM
set_option maxRecDepth 10000

def AllR (ls:List Lg) (ch:Int) (B:Lg → Prop) (w:List Bool):Prop:=w.length = ls.length ∧ ∀ j,j < ls.length → (w.getD j false = true ↔ ∃ z,CE ls ch B j z)
def SomeR (ls:List Lg) (ch:Int) (B:Lg → Prop) (w:List Bool):Prop:=∀ j,j < ls.length → w.getD j false = true → ∃ z,CE ls ch B j z
def FirstR (ls:List Lg) (B:Lg → Prop) (w:List Bool):Prop:=∀ j,j < ls.length → B (ls.getD j default) → w.getD j false = true
def ClosedR (ls:List Lg) (ch:Int) (w:List Bool):Prop:=∀ i j,i < ls.length → j < ls.length → w.getD i false = true → jn ls ch i j → w.getD j false = true
theorem ClosedR.reach {ls:List Lg} {ch:Int} {w:List Bool} (h:ClosedR ls ch w):∀ (r:List Nat) (i:Nat),Ch ls ch i r → w.getD i false = true → w.getD (lastN i r) false = true
  | [],i,_,h1 => h1
  | j :: r,i,hc,h1 => ClosedR.reach h r j hc.2.2 (h i j hc.1 hc.2.2.lt h1 hc.2.1)
theorem AllR.of {ls:List Lg} {ch:Int} {B:Lg → Prop} {w:List Bool} (hl:w.length = ls.length) (h:SomeR ls ch B w) (hf:FirstR ls B w) (hc:ClosedR ls ch w):AllR ls ch B w:=
  ⟨hl,fun j hj => ⟨h j hj,fun ⟨z,i,r,h1,h2,h3,_⟩ => h3 ▸ hc.reach r i h1 (hf i h1.lt h2)⟩⟩
theorem SomeR.step {ls:List Lg} {ch:Int} {B:Lg → Prop} {w:List Bool} (h:SomeR ls ch B w) {i j:Nat} (hi:i < ls.length) (hj:j < ls.length) (hw:w.getD i false = true) (hjn:jn ls ch i j):SomeR ls ch B (w.set j true):=fun q hq hwq => by
  by_cases hqj:q = j
  · subst hqj;obtain ⟨z,hz⟩:=h i hi hw;exact ⟨_,(CE.step hq).2 (.inr ⟨i,z,hi,hjn,hz,rfl⟩)⟩
  · rw [setD_other hqj] at hwq;exact h q hq hwq
theorem FirstR.step {ls:List Lg} {B:Lg → Prop} {w:List Bool} (h:FirstR ls B w) (hl:w.length = ls.length) (j:Nat):FirstR ls B (w.set j true):=fun q hq hx => by
  by_cases hqj:q = j
  · subst hqj; exact setD_same (by omega)
  · rw [setD_other hqj]; exact h q hq hx
def Cr (ls:List Lg) (ch:Int) (w:List Bool) (a b:Nat):Prop:=w.getD a false = true → jn ls ch a b → w.getD b false = true
def PassR (ls:List Lg) (ch:Int) (w0 w:List Bool) (ag:Bool) (i j:Nat):Prop:=(ag = false → w = w0 ∧ (∀ a,a < i → ∀ b,b < ls.length → Cr ls ch w0 a b) ∧ ∀ b,b < j → Cr ls ch w0 i b) ∧ (ag = true → opn w < opn w0)
theorem PassR.skip {ls:List Lg} {ch:Int} {w0 w:List Bool} {ag:Bool} {i j:Nat} (h:PassR ls ch w0 w ag i j) (hc:Cr ls ch w i j):PassR ls ch w0 w ag i (j + 1):=by
  refine ⟨fun ha => ?_,h.2⟩
  obtain ⟨h1,h2,h3⟩:=h.1 ha;refine ⟨h1,h2,fun b hb => ?_⟩
  rcases Nat.lt_or_ge b j with h4 | h4
  · exact h3 b h4
  · rw [show b = j by omega,← h1]; exact hc
theorem PassR.add {ls:List Lg} {ch:Int} {w0 w:List Bool} {ag:Bool} {i j:Nat} (h:PassR ls ch w0 w ag i j) (hj:j < w.length) (hw:w.getD j false = false):PassR ls ch w0 (w.set j true) true i (j + 1):=by
  refine ⟨fun ha => (by cases ha),fun _ => ?_⟩
  have h1:=opn_set hj hw;cases ag with
  | false => rw [(h.1 rfl).1] at h1 ⊢; omega
  | true => have:=h.2 rfl; omega
theorem PassR.row {ls:List Lg} {ch:Int} {w0 w:List Bool} {ag:Bool} {i:Nat} (h:PassR ls ch w0 w ag i ls.length):PassR ls ch w0 w ag (i + 1) 0:=by
  refine ⟨fun ha => ?_,h.2⟩
  obtain ⟨h1,h2,h3⟩:=h.1 ha;refine ⟨h1,fun a hai b hb => ?_,fun b hb => absurd hb (Nat.not_lt_zero b)⟩
  rcases Nat.lt_or_ge a i with h4 | h4
  · exact h2 a h4 b hb
  · rw [show a = i by omega]; exact h3 b hb
structure BK (A X:Heap) (av:Option Addr) (w:List Bool) (n:Nat):Prop where
  keep:Keep A X
  len:w.length = n
  row:0 < n → ∃ b r,av = some ⟨r,0,none⟩ ∧ Arr (onH A) X b r 4 1 false (bvs w)
theorem BK.more {A X Y:Heap} {av:Option Addr} {w:List Bool} {n:Nat} (h:BK A X av w n) (k:Keep X Y):BK A Y av w n:=⟨h.keep.trans k,h.len,fun h0 => by obtain ⟨b,r,h1,h2⟩:=h.row h0; exact ⟨b,r,h1,h2.kept k⟩⟩
theorem bvs_one {w:List Bool} {k:Nat} (hk:k < w.length):((bvs w).drop k).take 1 = [.bool (w.getD k false)]:=by
  unfold bvs;rw [← List.map_drop,← List.map_take,List.drop_eq_getElem_cons hk,List.getD_eq_getElem?_getD,List.getElem?_eq_getElem hk];rfl
theorem arrB_read {HB:Base} {X:Heap} {b r:Nat} {q:Bool} {w:List Bool} (h:Arr HB X b r 4 1 q (bvs w)) {k:Nat} (hk:k < w.length):X.read r k 1 = some [.bool (w.getD k false)]:=by
  rw [h.read (o:=k) (n:=1) (by rw [bvs_len]; omega),bvs_one hk]
theorem BK.sl {A X:Heap} {av:Option Addr} {w:List Bool} {n:Nat} (h:BK A X av w n) (hn:n ≤ 1000):∃ r,SlE boolE X (.slice av w.length w.length) w r 0:=by
  by_cases h0:0 < n
  · obtain ⟨b,r,rfl,ha⟩:=h.row h0;refine ⟨r,⟨_,_,rfl,fun _ => rfl⟩,fun i hi => ⟨[.bool (w.getD i false)],?_,?_⟩,fun _ => ha.lt,by have:=h.len; have:Go.maxLen = 9223372036854775807:=rfl; omega⟩
    · have h1:=arrB_read ha hi;rwa [show 0 + i * boolE.sz = i by show 0 + i * 1 = i; omega]
    · show [Value.bool (w.getD i false)] = [.bool (w.getD i default)]; rfl
  · have hw:w.length = 0:=by have:=h.len; omega
    exact ⟨0,⟨_,_,rfl,fun h => by omega⟩,fun i hi => by omega,fun h => by omega,by have:Go.maxLen = 9223372036854775807:=rfl; omega⟩

variable {S:AM.Sys} (hS:Only S 11)
include hS

def PostCn (ls:List Lg) (ch:Int) (B:Lg → Prop) (A:Heap) (u:Value) (H':Heap):Prop:=
  ∃ av w r,u = .slice av ls.length ls.length ∧ Keep A H' ∧ AllR ls ch B w ∧ SlE boolE H' u w r 0
end Go.Proofs.Yteechkbnccpicaa
