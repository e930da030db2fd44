/- slices.SortFunc. -/
import Derived.Test.YteechkbnccpicaaSDP
import Derived.Test.YteechkbnccpicaaT2
import Derived.Sort.LotA
set_option linter.unusedVariables false
set_option linter.unusedSimpArgs false
set_option linter.unusedSectionVars false

namespace Go.Proofs.Yteechkbnccpicaa
open Go Go.AM
set_option maxRecDepth 10000
variable {S:AM.Sys} (hS:Only S 11) {g:FuncId} {pre cs:List Value} {HB:Base} {V:(Int × Int) → Prop} {lt:(Int × Int) → (Int × Int) → Bool} (hc:CmpP S g pre cs HB V lt) (hLB:HB.low ≤ HB.size) {b r c:Nat} {k:Bool}
include hS hc hLB

end Go.Proofs.Yteechkbnccpicaa

namespace Go.Proofs.Yteechkbnccpicaa
open Go Go.AM
set_option maxRecDepth 10000

def onH (H:Heap):Base:={ toHeap:=H,side:=[] }
def R2 (x:Pt):Prop:=R64 x.1 ∧ R64 x.2
def PtsIn (H0 H:Heap) (v:Value) (d:Array Pt):Prop:=AllP R2 d ∧ d.size ≤ 60000 ∧ Grp H0 ∧ Keep H0 H ∧
  ((d.size = 0 ∧ v = .slice none 0 0) ∨ (0 < d.size ∧ ∃ b r k,v = .slice (some ⟨r,0,none⟩) d.size d.size ∧ SaP (onH H0) H b r k d))
theorem chunks_flat {H:Heap}:∀ {xs:List Pt} {cells:List Value},Chunks stE H xs cells → cells = xs.flatMap pc ∧ ∀ x ∈ xs,R2 x
  | [],cells,h => by
    have h1:=h.1;simp at h1;exact ⟨by simpa using h1,fun x hx => by cases hx⟩
  | x :: xs,cells,h => by
    have h1:cells.length = (xs.length + 1) * 2:=h.1;have h2:stE.At H x ((cells.drop (0 * 2)).take 2):=h.2 0 (by simp)
    obtain ⟨h3,h4⟩:=stE_inv h2;rw [Nat.zero_mul,List.drop_zero] at h3
    have hk:Chunks stE H xs (cells.drop 2):=⟨by show _ = xs.length * 2; rw [List.length_drop]; omega,fun i hi => by
      have h5:stE.At H ((x :: xs).getD (i + 1) default) ((cells.drop ((i + 1) * 2)).take 2):=h.2 (i + 1) (by simpa using hi)
      rw [List.getD_cons_succ] at h5;show stE.At H _ (((cells.drop 2).drop (i * 2)).take 2);rw [List.drop_drop,show 2 + i * 2 = (i + 1) * 2 by omega]
      exact h5⟩
    obtain ⟨k1,k2⟩:=chunks_flat hk;refine ⟨?_,fun y hy => ?_⟩
    · rw [List.flatMap_cons,← h3,← k1,List.take_append_drop]
    · rcases List.mem_cons.1 hy with e | hy
      · rw [e]; exact h4
      · exact k2 y hy
theorem allP_mem {V:Pt → Prop} {xs:List Pt}:AllP V xs.toArray ↔ ∀ x ∈ xs,V x:=by
  constructor
  · intro h x hx;obtain ⟨i,hi,rfl⟩:=List.getElem_of_mem hx;have:=h i (by simpa using hi)
    simpa [hi] using this
  · intro h i hi;have hi':i < xs.length:=by simpa using hi
    have:=h xs[i] (List.getElem_mem hi')
    simpa [hi'] using this
theorem PtsIn.lst {L:Nat} {H0 H:Heap} {v:Value} {xs:List Pt} (h:LstG stE 40 L H v xs) (hk:Keep H0 H) (hg:Grp H0) (hL:H0.size ≤ L) (hm:xs.length ≤ 60000):PtsIn H0 H v xs.toArray:=by
  rcases h with ⟨rfl,rfl⟩ | ⟨b,r,cells,hb,hl,ha,hf,rfl,hp,hc⟩
  · exact ⟨fun i hi => by simp at hi,by simp,hg,hk,.inl ⟨rfl,rfl⟩⟩
  · obtain ⟨h1,h2⟩:=chunks_flat hc;have h3:flat celTwo xs.toArray = cells:=by rw [h1]; rfl
    refine ⟨allP_mem.2 h2,by simpa using hm,hg,hk,.inr ⟨by simpa using hp,b,r,false,by simp,⟨hk,Nat.le_trans hL hb,ha.ge,hg,(fun x hx => by cases hx),.inr ⟨rfl,?_,?_⟩⟩⟩⟩
    · rw [h3]; exact ha
    · rw [h3]; exact hf
theorem PtsIn.sl {H0 H:Heap} {v:Value} {d:Array Pt} (h:PtsIn H0 H v d):∃ r,SlP H v d.toList r 0 ∧ (0 < d.size → H0.size ≤ r):=by
  obtain ⟨hV,hm,hg,hk,h | ⟨hp,b,r,k,rfl,ha⟩⟩:=h
  · obtain ⟨h1,rfl⟩:=h;have h2:d.toList = []:=List.length_eq_zero_iff.1 (by simpa using h1)
    rw [h2];exact ⟨0,⟨⟨none,0,rfl,fun h => absurd h (Nat.lt_irrefl 0)⟩,fun i hi => absurd hi (Nat.not_lt_zero i),fun h => absurd h (Nat.lt_irrefl 0),Nat.zero_le _⟩,fun h => by omega⟩
  · refine ⟨r,⟨⟨_,_,by rw [Array.length_toList],fun _ => rfl⟩,fun i hi => ?_,fun _ => ha.lt,?_⟩,fun _ => Nat.le_trans ha.le ha.ge⟩
    · have hi':i < d.size:=by simpa using hi
      have hle:i * 2 + 2 ≤ (flat celTwo d).length:=by rw [flat_len]; show _ ≤ d.size * 2; omega
      have h1:=ha.read hle;have h2:=flat_at (C:=celTwo) d hi';have h2:((flat celTwo d).drop (i * 2)).take 2 = pc d[i]!:=h2;rw [h2] at h1;have h3:d.toList.getD i default = d[i]!:=by
        rw [getElem!_pos _ i hi',List.getD_eq_getElem?_getD,List.getElem?_eq_getElem (by simpa using hi')]
        rfl
      refine ⟨pc d[i]!,by rw [Nat.zero_add]; exact h1,?_⟩
      rw [h3];exact stE_at (hV i hi').1 (hV i hi').2
    · have:Go.maxLen = 9223372036854775807:=rfl;rw [Array.length_toList];omega

variable {S:AM.Sys} (hS:Only S 11)
include hS

end Go.Proofs.Yteechkbnccpicaa
