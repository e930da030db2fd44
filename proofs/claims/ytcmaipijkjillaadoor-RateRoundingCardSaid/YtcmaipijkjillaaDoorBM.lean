/- Rows that hold fractions. -/
import Derived.Test.YtcmaipijkjillaaDoorBL
set_option linter.unusedVariables false
set_option linter.unusedSimpArgs false
set_option linter.unusedSectionVars false

namespace Go.Proofs.YtcmaipijkjillaaDoor
open Go Go.AM
set_option maxRecDepth 10000

def QShape (cells:List Value):Prop:=∃ s1 a1 n1 c1 s2 a2 n2 c2,cells = [.bool s1,.slice a1 n1 c1,.bool s2,.slice a2 n2 c2]
theorem QShape.len {cells:List Value} (h:QShape cells):cells.length = 4:=by
  obtain ⟨_,_,_,_,_,_,_,_,rfl⟩:=h; rfl
theorem QShape.empty:QShape [.bool false,.slice none 0 0,.bool false,.slice none 0 0]:=⟨_,_,_,_,_,_,_,_,rfl⟩
theorem QV.shape {H:Heap} {v:Value} {n d:Int} (h:QV H v n d):v = .agg ⟨v.cells.toList⟩ ∧ QShape v.cells.toList:=by
  obtain ⟨n',d',⟨t1,t2,t3,t4,rfl,q1,q2⟩,_⟩:=h;obtain ⟨u1,w1,r1,o1,hu1,s1,_⟩:=q1;obtain ⟨u2,w2,r2,o2,hu2,s2,_⟩:=q2;obtain ⟨a1,c1,rfl⟩:=s1.v0;obtain ⟨a2,c2,rfl⟩:=s2.v0;cases hu1;cases hu2;exact ⟨rfl,_,_,_,_,_,_,_,_,rfl⟩
theorem ne_rowG {H:Heap} {r:Nat} {e:TypeId} {cells:List Value} (h:Own H r e cells) (hs:QShape cells) {k:IntKind} {v:Value} {w:List Int} {r' o':Nat} (hx:SlI k H v w r' o') (h0:0 < w.length):r' ≠ r:=by
  intro he;subst he;have h1:=(hx.rdI h0).1;obtain ⟨_,_,_,_,_,_,_,_,rfl⟩:=hs
  by_cases hle:o' + 0 + 1 ≤ 4
  · rw [h.read (o:=o' + 0) (n:=1) hle] at h1;rcases o' with _ | _ | _ | _ | o';all_goals first | (simp at h1; done) | omega
  · unfold Heap.read at h1;rw [h.get] at h1;simp only [] at h1;rw [show Nat.ble (o' + 0 + 1) (List.length [_,_,_,_]) = false from Bool.eq_false_iff.2 (fun hb => hle (Nat.le_of_ble_eq_true hb))] at h1
    simp at h1
theorem QV.other {H H2:Heap} {r:Nat} {e t:TypeId} {cells:List Value} (h:Own H r e cells) (hc:QShape cells) {o:Nat} {u v:Value} (hs:aStore Tryd.prog H t (.pointer (some ⟨r,o,none⟩)) u = some H2) (hsz:H2.size = H.size) {n d:Int} (hq:QV H v n d):QV H2 v n d:=by
  obtain ⟨n',d',⟨t1,t2,t3,t4,rfl,q1,q2⟩,h4⟩:=hq;obtain ⟨u1,w1,r1,o1,hu1,s1,k1⟩:=q1;obtain ⟨u2,w2,r2,o2,hu2,s2,k2⟩:=q2;exact ⟨n',d',⟨t1,t2,t3,t4,rfl,⟨u1,w1,r1,o1,hu1,SlE.other h hs hsz s1 (ne_rowG h hc s1),k1⟩,⟨u2,w2,r2,o2,hu2,SlE.other h hs hsz s2 (ne_rowG h hc s2),k2⟩⟩,h4⟩
theorem storeQ {H:Heap} {r:Nat} {cells:List Value} (ow:Own H r 37 cells) (hs:QShape cells) {v:Value} {n d:Int} (hq:QV H v n d) :
    ∃ H2,aStore Tryd.prog H 37 (.pointer (some ⟨r,0,none⟩)) v = some H2 ∧ H2.size = H.size ∧ Own H2 r 37 v.cells.toList ∧ (∀ v' n' d',QV H v' n' d' → QV H2 v' n' d') ∧ (∀ r' e' c',r' ≠ r → Own H r' e' c' → Own H2 r' e' c') ∧ (∀ H0,Keep H0 H → H0.size ≤ r → Keep H0 H2):=by
  obtain ⟨hv,s1,a1,n1,c1,s2,a2,n2,c2,hcs⟩:=hq.shape;have hob:=ow.store (P:=Tryd.prog) (t:=37) (i:=Tryd.t37) (by kernel_rfl) (v:=v) (new:=[.bool s1,.slice a1 n1 c1,.bool s2,.slice a2 n2 c2]) hcs (by kernel_rfl) rfl (o:=0) (by rw [hs.len]; exact Nat.le_refl 4)
  obtain ⟨H2,h1,h2,h3,h4,h5⟩:=hob;refine ⟨H2,h1,h3,?_,fun v' n' d' hv' => hv'.other ow hs h1 h3,h4,h5⟩
  rw [hcs];have hl:=hs.len;obtain ⟨_,_,_,_,_,_,_,_,rfl⟩:=hs;exact h2
theorem storeQD {H0 H:Heap} {r:Nat} {cells:List Value} (hk:Keep H0 H) (hr:H0.size ≤ r) (hL:H.low ≤ H.size) (ow:Own H r 37 cells) (hs:QShape cells) {v:Value} {n d:Int} (hq:QV H v n d) :
    ∃ Ha Hb,aStore Tryd.prog (H.relow H.size) 37 (.pointer (some ⟨r,0,none⟩)) v = some Ha ∧ Ha.relow (Nat.min H.low Ha.low) = Hb ∧ Keep H0 Hb ∧ Hb.size = H.size ∧ Hb.low ≤ Hb.size ∧ Own Hb r 37 v.cells.toList ∧ (∀ v' n' d',QV H v' n' d' → QV Hb v' n' d') ∧ (∀ r' e' c',r' ≠ r → Own H r' e' c' → Own Hb r' e' c'):=by
  obtain ⟨Ha,h1,h2,h3,h4,h5,h6⟩:=storeQ (ow.addr (l:=H.size)) hs (hq.addr (l:=H.size));refine ⟨Ha,_,h1,rfl,Keep.lower hk (h6 H0 (hk.trans (Keep.relowS _)) hr),h2,?_,h3.addr,fun v' n' d' hv' => (h4 _ _ _ hv'.addr).addr,fun r' e' c' hne ho => (h5 r' e' c' hne ho.addr).addr⟩
  show Nat.min H.low Ha.low ≤ Ha.size;rw [h2];exact Nat.le_trans (Nat.min_le_left _ _) hL
theorem own_ldQ {H:Heap} {r:Nat} {v:Value} {n d:Int} (h:Own H r 37 v.cells.toList) (hq:QV H v n d):aLoad Tryd.prog H 37 (.pointer (some ⟨r,0,none⟩)) = some v:=by
  obtain ⟨hv,hs⟩:=hq.shape;have hl:=hs.len;rw [Go.Proofs.YtcmaipijkjillaaDoor.ldQ,h.read (o:=0) (n:=4) (by omega),List.drop_zero,← hl,List.take_length,Option.map_some,← hv]
end Go.Proofs.YtcmaipijkjillaaDoor
