/- The least worth of the journeys that begin with each leg: the function. -/
import Derived.Test.YteechkbnccpicaaM1
set_option linter.unusedVariables false
set_option linter.unusedSimpArgs false
set_option linter.unusedSectionVars false

namespace Go.Proofs.Yteechkbnccpicaa
open Go Go.AM
set_option maxRecDepth 10000

theorem tailI {H:Heap} {ro:Nat} {cells:List Value} (ho:Own H ro 3 cells) {n p:Nat} (hp:p ≤ n):∃ q,aSlice Try.prog H 25 (.slice (some ⟨ro,0,none⟩) n n) (some (.int .i64 (p:Int))) none none = some (.slice (some ⟨ro,q,none⟩) (n - p) (n - p)) ∧ (p < n → q = p):=by
  obtain ⟨i,hi,hsz⟩:=infoI;have hb:aBounds n n (some (.int .i64 (p:Int))) none none = some (p,n,n):=by
    unfold aBounds aBound;have g1:(0:Int) ≤ (p:Int) ∧ (p:Int) ≤ (n:Int):=by omega
    simp [g1]
  refine ⟨cond (Nat.beq n p) 0 (0 + p * 1),?_,fun h => ?_⟩
  · unfold aSlice;rw [Try.underlying25];simp only [];rw [hi,ho.get,hb];simp only [];rw [show Nat.ble n n = true from Nat.ble_eq_true_of_le (Nat.le_refl n),hsz]
    rfl
  · have hq:Nat.beq n p = false:=by
      cases hbq:Nat.beq n p
      · rfl
      · exact absurd (Nat.eq_of_beq_eq_true hbq) (by omega)
    rw [hq];show 0 + p * 1 = p;omega
def WoOk (S:AM.Sys) (g:FuncId) (pre cs:List Value) (wo:Lg → Int):Prop:=
  ∀ (H:Heap) (x:Lg),H.low ≤ H.size → ∃ H2,Keep H H2 ∧ Runs Try.prog S (.fn g) (pre ++ [.agg ⟨lc x⟩] ++ cs) H (.int .i64 (wo x)) H2
def DoneF (ls:List Lg) (ch:Int) (wo:Lg → Int) (more:Int) (R d:Array Int) (p:Nat):Prop:=∀ s,p ≤ s → s < ls.length → LW ls ch wo more R[s]!.toNat d[R[s]!.toNat]!
theorem DoneF.same {ls:List Lg} {ch:Int} {wo:Lg → Int} {more:Int} {R d d2:Array Int} {p:Nat} (h:DoneF ls ch wo more R d p) (he:∀ s,p ≤ s → s < ls.length → d2[R[s]!.toNat]! = d[R[s]!.toNat]!):DoneF ls ch wo more R d2 p:=fun s h1 h2 => by
  rw [he s h1 h2]; exact h s h1 h2
def LJ (ls:List Lg) (ch:Int) (wo:Lg → Int) (more:Int) (R:Array Int) (HB:Base) (LR l:Nat) (lr:LoopRec) (k:Nat) (X:Heap):Prop:=∃ d,SaI HB X LR LR true d ∧ LoopAt X l lr ∧ d.size = ls.length ∧ DoneF ls ch wo more R d k
def PostL (ls:List Lg) (ch:Int) (wo:Lg → Int) (more:Int) (H:Heap) (u:Value) (H':Heap):Prop:=
  ∃ (r:Nat) (d:Array Int),u = .slice (some ⟨r,0,none⟩) ls.length ls.length ∧ Keep H H' ∧ Own H' r 3 (flat celInt d) ∧ H.size ≤ r ∧ d.size = ls.length ∧ ∀ i,i < ls.length → LW ls ch wo more i d[i]!

variable {S:AM.Sys} (hS:Only S 11)
include hS

end Go.Proofs.Yteechkbnccpicaa
