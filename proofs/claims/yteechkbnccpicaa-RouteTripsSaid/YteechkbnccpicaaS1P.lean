/- Sorting, at one type of elements: loads, stores, comparisons. -/
import Derived.Test.YteechkbnccpicaaR0s
import Derived.Test.YteechkbnccpicaaGj
import Derived.Sort.Defs
import Derived.Test.YteechkbnccpicaaSBx
import Derived.Test.YteechkbnccpicaaM1
set_option linter.unusedVariables false
set_option linter.unusedSimpArgs false
set_option linter.unusedSectionVars false

namespace Go.Proofs.Yteechkbnccpicaa
open Go Go.AM
set_option maxRecDepth 10000
abbrev SaP (HB:Base) (H:Heap) (b r:Nat) (k:Bool) (d:Array (Int × Int)):Prop:=Arr HB H b r 40 2 k (flat celTwo d)
def CmpP (S:AM.Sys) (g:FuncId) (pre cs:List Value) (HB:Base) (V:(Int × Int) → Prop) (lt:(Int × Int) → (Int × Int) → Bool):Prop:=
  ∀ H x y,Keep HB.toHeap H → V x → V y → ∃ (z:Int) (H2:Heap),Keep H H2 ∧ (z < 0 ↔ lt x y = true) ∧ Runs Try.prog S (.fn g) (pre ++ [celTwo.val x,celTwo.val y] ++ cs) H (.int .i64 z) H2
def AllP (V:(Int × Int) → Prop) (d:Array (Int × Int)):Prop:=∀ i,i < d.size → V d[i]!
theorem AllP.swp {V:(Int × Int) → Prop} {d:Array (Int × Int)} (h:AllP V d) {i j:Nat} (hi:i < d.size) (hj:j < d.size):AllP V (Sort.swp d i j):=fun k hk => by
  have hk':k < d.size:=by simpa [Sort.swp] using hk
  have:(Sort.swp d i j)[k]! = d[k]! ∨ (Sort.swp d i j)[k]! = d[i]! ∨ (Sort.swp d i j)[k]! = d[j]!:=by
    unfold Sort.swp;rw [getElem!_pos _ k (by simpa using hk'),Array.getElem_setIfInBounds (by simpa using hk'),Array.getElem_setIfInBounds (by simpa using hk')]
    split
    · right; left; rfl
    · split
      · right; right; rfl
      · left; rw [getElem!_pos d k hk']
  rcases this with h1 | h1 | h1 <;> rw [h1]
  · exact h k hk'
  · exact h i hi
  · exact h j hj
theorem SaP.lowS {HB:Base} {H:Heap} {b r:Nat} {k:Bool} {d:Array (Int × Int)} (h:SaP HB H b r k d) (hLB:HB.low ≤ HB.size):H.low ≤ H.size:=h.keep.low hLB
end Go.Proofs.Yteechkbnccpicaa

namespace Go.Proofs.Yteechkbnccpicaa
open Go Go.AM
set_option maxRecDepth 10000

def stE:Enc Pt:=prodE (intE .i64) (intE .i64)
def pc (x:Pt):List Value:=[.int .i64 x.1,.int .i64 x.2]
theorem stE_inv {H:Heap} {x:Pt} {cs:List Value} (h:stE.At H x cs):cs = pc x ∧ R64 x.1 ∧ R64 x.2:=by
  obtain ⟨c1,c2,rfl,⟨rfl,h1⟩,rfl,h2⟩:=h;exact ⟨rfl,h1,h2⟩
theorem stE_at {H:Heap} {x:Pt} (h1:R64 x.1) (h2:R64 x.2):stE.At H x (pc x):=⟨_,_,rfl,⟨rfl,h1⟩,rfl,h2⟩
abbrev SlP (H:Heap) (v:Value) (w:List Pt) (r o:Nat):Prop:=SlE stE H v w r o
def PostB (H:Heap) (p:Prop) (u:Value) (H':Heap):Prop:=∃ b,u = .bool b ∧ (b = true ↔ p) ∧ Keep H H'

variable {S:AM.Sys} (hS:Only S 11)
include hS

end Go.Proofs.Yteechkbnccpicaa
