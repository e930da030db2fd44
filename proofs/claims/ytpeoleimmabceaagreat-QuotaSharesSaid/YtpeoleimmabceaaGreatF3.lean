/- Rows that hold fractions, or bools, beside others. -/
import Derived.Test.YtpeoleimmabceaaGreatF2
set_option linter.unusedVariables false
set_option linter.unusedSimpArgs false
set_option linter.unusedSectionVars false

namespace Go.Proofs.YtpeoleimmabceaaGreat
open Go Go.AM
set_option maxRecDepth 10000

def NoI (cells:List Value):Prop:=∀ c ∈ cells,∀ k z,c ≠ .int k z
theorem QShape.noI {cells:List Value} (h:QShape cells):NoI cells:=by
  obtain ⟨_,_,_,_,_,_,_,_,rfl⟩:=h;intro c hc k z;simp only [List.mem_cons,List.not_mem_nil,or_false] at hc;rcases hc with rfl | rfl | rfl | rfl <;> simp
theorem noI_bools (l:List Bool):NoI (l.map fun z => .bool z):=fun c hc k z => by
  obtain ⟨b,_,rfl⟩:=List.mem_map.1 hc; simp
theorem NoI.splice {l vs:List Value} {o:Nat} (h:NoI l) (k:NoI vs):NoI (splice l o vs):=fun c hc => by
  unfold Go.AM.splice at hc;simp only [List.mem_append] at hc;rcases hc with hc | hc | hc
  · exact h c (List.mem_of_mem_take hc)
  · exact k c hc
  · exact h c (List.mem_of_mem_drop hc)
theorem ne_rowN {H:Heap} {r:Nat} {e:TypeId} {cells:List Value} (h:Own H r e cells) (hs:NoI cells) {k:IntKind} {v:Value} {w:List Int} {r' o':Nat} (hx:SlI k H v w r' o') (h0:0 < w.length):r' ≠ r:=by
  intro he;subst he;have h1:=(hx.rdI h0).1;obtain ⟨row,g1,_,g3,g4⟩:=read_inv h1;rw [h.get] at g1;cases g1;simp only [] at g3 g4;have g5:cells[o' + 0]? = some (.int k (w.getD 0 0)):=by
    have:=congrArg (fun l => l[0]?) g4
    simpa using this.symm
  exact hs _ (List.mem_of_getElem? g5) _ _ rfl
theorem QV.otherN {H H2:Heap} {r:Nat} {e t:TypeId} {cells:List Value} (h:Own H r e cells) (hc:NoI cells) {o:Nat} {u v:Value} (hs:aStore Tryz.prog H t (.pointer (some ⟨r,o,none⟩)) u = some H2) (hsz:H2.size = H.size) {n d:Int} (hq:QV H v n d):QV H2 v n d:=by
  obtain ⟨n',d',⟨t1,t2,t3,t4,rfl,q1,q2⟩,h4⟩:=hq;obtain ⟨u1,w1,r1,o1,hu1,s1,k1⟩:=q1;obtain ⟨u2,w2,r2,o2,hu2,s2,k2⟩:=q2;exact ⟨n',d',⟨t1,t2,t3,t4,rfl,⟨u1,w1,r1,o1,hu1,SlE.other h hs hsz s1 (ne_rowN h hc s1),k1⟩,⟨u2,w2,r2,o2,hu2,SlE.other h hs hsz s2 (ne_rowN h hc s2),k2⟩⟩,h4⟩
theorem storeQN {H:Heap} {r:Nat} {e:TypeId} {cells:List Value} (ow:Own H r e cells) (hs:NoI cells) {v:Value} {n d:Int} (hq:QV H v n d) {o:Nat} (ho:o + 4 ≤ cells.length) :
    ∃ H2,aStore Tryz.prog H 53 (.pointer (some ⟨r,o,none⟩)) v = some H2 ∧ H2.size = H.size ∧ Own H2 r e (splice cells o v.cells.toList) ∧ (∀ v' n' d',QV H v' n' d' → QV H2 v' n' d') ∧ (∀ r' e' c',r' ≠ r → Own H r' e' c' → Own H2 r' e' c') ∧ (∀ H0,Keep H0 H → H0.size ≤ r → Keep H0 H2):=by
  obtain ⟨hv,s1,a1,n1,c1,s2,a2,n2,c2,hcs⟩:=hq.shape;obtain ⟨H2,h1,h2,h3,h4,h5⟩:=ow.store (P:=Tryz.prog) (t:=53) (i:=Tryz.t53) (by kernel_rfl) (v:=v) (new:=[.bool s1,.slice a1 n1 c1,.bool s2,.slice a2 n2 c2]) hcs (by kernel_rfl) rfl (o:=o) ho
  rw [← hcs] at h2;exact ⟨H2,h1,h3,h2,fun v' n' d' hv' => hv'.otherN ow hs h1 h3,h4,h5⟩
theorem storeQND {H0 H:Heap} {r:Nat} {e:TypeId} {cells:List Value} (hk:Keep H0 H) (hr:H0.size ≤ r) (hL:H.low ≤ H.size) (ow:Own H r e cells) (hs:NoI cells) {v:Value} {n d:Int} (hq:QV H v n d) {o:Nat} (ho:o + 4 ≤ cells.length) :
    ∃ Ha Hb,aStore Tryz.prog (H.relow H.size) 53 (.pointer (some ⟨r,o,none⟩)) v = some Ha ∧ Ha.relow (Nat.min H.low Ha.low) = Hb ∧ Keep H0 Hb ∧ Hb.size = H.size ∧ Hb.low ≤ Hb.size ∧ Own Hb r e (splice cells o v.cells.toList) ∧ (∀ v' n' d',QV H v' n' d' → QV Hb v' n' d') ∧ (∀ r' e' c',r' ≠ r → Own H r' e' c' → Own Hb r' e' c'):=by
  obtain ⟨Ha,h1,h2,h3,h4,h5,h6⟩:=storeQN (ow.addr (l:=H.size)) hs (hq.addr (l:=H.size)) ho;refine ⟨Ha,_,h1,rfl,Keep.lower hk (h6 H0 (hk.trans (Keep.relowS _)) hr),h2,?_,h3.addr,fun v' n' d' hv' => (h4 _ _ _ hv'.addr).addr,fun r' e' c' hne ho => (h5 r' e' c' hne ho.addr).addr⟩
  show Nat.min H.low Ha.low ≤ Ha.size;rw [h2];exact Nat.le_trans (Nat.min_le_left _ _) hL
theorem splice_mapB {w:List Bool} {o:Nat} (ho:o < w.length) {z:Bool}:splice (w.map fun z => Value.bool z) o [.bool z] = (w.set o z).map fun z => .bool z:=by
  unfold splice;rw [List.map_set];apply List.ext_getElem?;intro i;simp only [List.length_cons,List.length_nil];rw [List.getElem?_set];rcases Nat.lt_trichotomy i o with h | h | h
  · rw [List.getElem?_append_left (by simp; omega),List.getElem?_take,if_pos h,if_neg (by omega)]
  · subst h;rw [List.getElem?_append_right (by simp; omega),if_pos rfl,if_pos (by simpa using ho)]
    rw [List.length_take,List.length_map,Nat.min_eq_left (Nat.le_of_lt ho),Nat.sub_self]; rfl
  · rw [List.getElem?_append_right (by simp; omega),if_neg (by omega),List.getElem?_append_right (by simp; omega),List.getElem?_drop]
    congr 1;simp; omega
theorem ldBo (H:Heap) (r o:Nat):aLoad Tryz.prog H 4 (.pointer (some ⟨r,o,none⟩)) = (H.read r o 1).bind one1:=by kernel_rfl
theorem ixB (r o n c:Nat) (k:IntKind) (i:Int):aIndexAt Tryz.prog 90 (.slice (some ⟨r,o,none⟩) n c) (.int k i) = if 0 ≤ i ∧ i < (n:Int) then some (.pointer (some ⟨r,o + i.toNat * 1,none⟩)) else none:=by kernel_rfl
theorem storeB {H:Heap} {r:Nat} {w:List Bool} (ow:Own H r 4 (w.map fun z => .bool z)) (z:Bool) {o:Nat} (ho:o < w.length) :
    ∃ H2,aStore Tryz.prog H 4 (.pointer (some ⟨r,o,none⟩)) (.bool z) = some H2 ∧ H2.size = H.size ∧ Own H2 r 4 ((w.set o z).map fun z => .bool z) ∧ (∀ v' n' d',QV H v' n' d' → QV H2 v' n' d') ∧ (∀ r' e' c',r' ≠ r → Own H r' e' c' → Own H2 r' e' c') ∧ (∀ H0,Keep H0 H → H0.size ≤ r → Keep H0 H2):=by
  obtain ⟨H2,h1,h2,h3,h4,h5⟩:=ow.store (P:=Tryz.prog) (t:=4) (i:=Tryz.t4) (by kernel_rfl) (v:=.bool z) (new:=[.bool z]) rfl (by kernel_rfl) rfl (o:=o) (by simp; omega)
  rw [splice_mapB ho] at h2;exact ⟨H2,h1,h3,h2,fun v' n' d' hv' => hv'.otherN ow (noI_bools w) h1 h3,h4,h5⟩
theorem readB {H:Heap} {r:Nat} {w:List Bool} (ow:Own H r 4 (w.map fun z => .bool z)) {k:Nat} (hk:k < w.length):H.read r k 1 = some [.bool (w.getD k false)]:=by
  rw [ow.read (o:=k) (n:=1) (by simp; omega),← List.map_drop,← List.map_take,List.drop_eq_getElem_cons hk,List.getD_eq_getElem?_getD,List.getElem?_eq_getElem hk]
  rfl
theorem mkB (H:Heap) {l:Int} (h0:0 ≤ l) (h1:l ≤ 268435456):aMakeSlice Tryz.prog H 90 (.int .i64 l) (.int .i64 l) = some (.slice (some ⟨H.size,0,none⟩) l.toNat l.toNat,H.newExact ((List.replicate l.toNat false).map fun z => .bool z) 4):=by
  have h2:=makeSlice_eq (P:=Tryz.prog) (t:=90) (e:=4) (inf:=Tryz.t4) (z:=.bool false) Tryz.underlying90 (by kernel_rfl) (by kernel_rfl) rfl (by kernel_rfl) (of_decide_eq_true (by kernel_rfl)) H .i64 .i64 h0 h1
  rw [h2];have h3:Tryz.t4.size = 1:=by kernel_rfl
  rw [h3,Nat.mul_one,List.map_replicate];rfl
theorem mkQ (H:Heap) {l:Int} (h0:0 ≤ l) (h1:l ≤ 268435456):∃ cells,aMakeSlice Tryz.prog H 37 (.int .i64 l) (.int .i64 l) = some (.slice (some ⟨H.size,0,none⟩) l.toNat l.toNat,H.newExact cells 53) ∧ cells.length = l.toNat * 4 ∧ NoI cells ∧ ∀ i,i < l.toNat → QShape ((cells.drop (i * 4)).take 4):=by
  have h2:=makeSlice_eq (P:=Tryz.prog) (t:=37) (e:=53) (inf:=Tryz.t53) (z:=.agg ⟨[.bool false,.slice none 0 0,.bool false,.slice none 0 0]⟩) Tryz.underlying37 (by kernel_rfl) (by kernel_rfl) rfl (by kernel_rfl) (of_decide_eq_true (by kernel_rfl)) H .i64 .i64 h0 h1
  have h3:Tryz.t53.size = 4:=by kernel_rfl
  rw [h3] at h2;have hz:zeroRow (Value.agg ⟨[.bool false,.slice none 0 0,.bool false,.slice none 0 0]⟩).cells.toList (l.toNat * 4) = (List.range (l.toNat * 4)).map fun j => ([.bool false,.slice none 0 0,.bool false,.slice none 0 0][j % 4]?).getD default:=rfl
  rw [hz] at h2;have hat:∀ j:Nat,([Value.bool false,.slice none 0 0,.bool false,.slice none 0 0][j % 4]?).getD default = if j % 2 = 0 then .bool false else .slice none 0 0:=fun j => by
    have:j % 4 = 0 ∨ j % 4 = 1 ∨ j % 4 = 2 ∨ j % 4 = 3:=by omega
    rcases this with h | h | h | h
    · rw [h,if_pos (by omega)]; rfl
    · rw [h,if_neg (by omega)]; rfl
    · rw [h,if_pos (by omega)]; rfl
    · rw [h,if_neg (by omega)]; rfl
  refine ⟨_,h2,by simp,fun c hc k z => ?_,fun i hi => ?_⟩
  · obtain ⟨j,_,rfl⟩:=List.mem_map.1 hc;rw [hat];split <;> simp
  · refine ⟨false,none,0,0,false,none,0,0,?_⟩;apply List.ext_getElem?;intro q;rw [List.getElem?_take,List.getElem?_drop,List.getElem?_map];have:q = 0 ∨ q = 1 ∨ q = 2 ∨ q = 3 ∨ 4 ≤ q:=by omega
    rcases this with h | h | h | h | h
    · subst h; rw [List.getElem?_range (by omega),if_pos (by omega),Option.map_some,hat,if_pos (by omega)]; rfl
    · subst h; rw [List.getElem?_range (by omega),if_pos (by omega),Option.map_some,hat,if_neg (by omega)]; rfl
    · subst h; rw [List.getElem?_range (by omega),if_pos (by omega),Option.map_some,hat,if_pos (by omega)]; rfl
    · subst h; rw [List.getElem?_range (by omega),if_pos (by omega),Option.map_some,hat,if_neg (by omega)]; rfl
    · rw [if_neg (by omega),List.getElem?_eq_none (by simpa using h)]
theorem chunk_same {l vs:List Value} {i:Nat} (hv:vs.length = 4) (h:i * 4 + 4 ≤ l.length):((splice l (i * 4) vs).drop (i * 4)).take 4 = vs:=by
  have:=splice_at (l:=l) (vs:=vs) (off:=i * 4) (by omega)
  rwa [hv] at this
theorem chunk_other {l vs:List Value} {i j:Nat} (hv:vs.length = 4) (h:i * 4 + 4 ≤ l.length) (hne:j ≠ i):((splice l (i * 4) vs).drop (j * 4)).take 4 = (l.drop (j * 4)).take 4:=by
  rcases Nat.lt_or_ge j i with h1 | h1
  · exact splice_before (by omega) (by omega)
  · exact splice_behind (by omega) (by omega)
end Go.Proofs.YtpeoleimmabceaaGreat
