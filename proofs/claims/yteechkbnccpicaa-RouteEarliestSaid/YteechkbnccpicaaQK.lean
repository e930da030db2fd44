/- The fewest changes of the journeys that end with each leg, by the program. -/
import Derived.Test.YteechkbnccpicaaL4
set_option linter.unusedVariables false
set_option linter.unusedSimpArgs false
set_option linter.unusedSectionVars false

namespace Go.Proofs.Yteechkbnccpicaa
open Go Go.AM
set_option maxRecDepth 10000

structure CJ (H X:Heap) (b1 b2 lr:Nat) (c1 c2:List Value) (d:List Int):Prop where
  keep:Keep H X
  o1:Own X b1 64 c1
  o2:Own X b2 72 c2
  o3:Own X lr 3 (d.map fun z => .int .i64 z)
variable {H X Y:Heap} {b1 b2 lr:Nat} {c1 c2:List Value} {d:List Int}
theorem CJ.more (h:CJ H X b1 b2 lr c1 c2 d) (hk:Keep X Y):CJ H Y b1 b2 lr c1 c2 d:=⟨h.keep.trans hk,h.o1.keep hk,h.o2.keep hk,h.o3.keep hk⟩
theorem CJ.set (h:CJ H X b1 b2 lr c1 c2 d) (n1:b1 ≠ lr) (n2:b2 ≠ lr) (hr:H.size ≤ lr) {k:Nat} (hk:k < d.length) (z:Int):∃ Y,aStore Try.prog X 3 (.pointer (some ⟨lr,k,none⟩)) (.int .i64 z) = some Y ∧ CJ H Y b1 b2 lr c1 c2 (d.set k z):=by
  obtain ⟨i,hi,hsz⟩:=infoI;obtain ⟨Y,e1,e2,e3,e4,e5⟩:=h.o3.store (t:=3) hi (v:=.int .i64 z) (new:=[.int .i64 z]) rfl (by rw [hsz]; rfl) rfl (o:=k) (by simp; omega)
  rw [splice_map hk] at e2;exact ⟨Y,e1,e5 H h.keep hr,e4 _ _ _ n1 h.o1,e4 _ _ _ n2 h.o2,e2⟩
theorem CJ.rd (h:CJ H X b1 b2 lr c1 c2 d) {k:Nat} (hk:k < d.length):X.read lr k 1 = some [.int .i64 (d.getD k 0)]:=by
  rw [h.o3.read (o:=k) (n:=1) (by simp; omega),← List.map_drop,← List.map_take,List.drop_eq_getElem_cons hk,List.getD_eq_getElem?_getD,List.getElem?_eq_getElem hk]
  rfl
theorem set_other {d:List Int} {i j:Nat} {z:Int} (h:i ≠ j):(d.set j z).getD i 0 = d.getD i 0:=by
  rw [List.getD_eq_getElem?_getD,List.getD_eq_getElem?_getD,List.getElem?_set_ne (fun e => h e.symm)]
theorem set_same {d:List Int} {j:Nat} {z:Int} (h:j < d.length):(d.set j z).getD j 0 = z:=by
  rw [List.getD_eq_getElem?_getD,List.getElem?_set_self h]; rfl
def DoneC (ls:List Lg) (ch fr at':Int) (R:Array Int) (k:Nat) (d:List Int):Prop:=∀ s,s < k → s < ls.length → CW ls ch (BegB fr at') R[s]!.toNat (d.getD R[s]!.toNat 0) ∧ (d.getD R[s]!.toNat 0 = 10060 ∨ (0 ≤ d.getD R[s]!.toNat 0 ∧ d.getD R[s]!.toNat 0 ≤ s))
def PostCh (ls:List Lg) (ch fr at':Int) (H:Heap) (u:Value) (H':Heap):Prop:=
  ∃ (lr:Nat) (d:List Int),u = .slice (some ⟨lr,0,none⟩) ls.length ls.length ∧ Keep H H' ∧ Own H' lr 3 (d.map fun z => .int .i64 z) ∧ H.size ≤ lr ∧ d.length = ls.length ∧ ∀ j,j < ls.length → CW ls ch (BegB fr at') j (d.getD j 0) ∧ (d.getD j 0 = 10060 ∨ (0 ≤ d.getD j 0 ∧ d.getD j 0 < ls.length))

variable {S:AM.Sys} (hS:Only S 11)
include hS

end Go.Proofs.Yteechkbnccpicaa
