/- A general tool, which names no program: a canonical machine for the model's own code (rows of cells by number, no world, no open order), proved: what it comes to is what every run comes to. -/
import Derived.Test.YtimbciadadjhiaaDoorAm14
set_option linter.unusedVariables false
set_option linter.unusedSimpArgs false
set_option linter.unusedSectionVars false
namespace Go.AM
open Go.RowKit (Below)

variable {P : Program} {n0 : Nat} {m : Map} {H : Heap} {w : World}

/-! The records of loops over functions. -/

def Heap.setLoop (H : Heap) (l : Nat) (row : Row) (st : LoopState) (pd : Option Code) : Heap := match row.loop with
  | some lr => forceT (H.rows.put l { row with loop := some { lr with state := st, pending := pd } }) fun rows => { size := H.size, rows := rows, grps := H.grps, low := Nat.min l H.low }
  | none => H
theorem setLoop_eq {H : Heap} {l : Nat} {row : Row} {lr : LoopRec} (hl : row.loop = some lr) (st : LoopState) (pd : Option Code) :
    H.setLoop l row st pd = { size := H.size, rows := H.rows.put l { row with loop := some { lr with state := st, pending := pd } }, grps := H.grps, low := Nat.min l H.low } := by
  unfold Heap.setLoop; rw [hl]; simp only [forceT_eq]

theorem setLoop_go {H : Heap} (hi : HInv H) {l : Nat} {row : Row} {lr : LoopRec} (hrow : H.rows.get l = some row) (hl : row.loop = some lr) (st : LoopState) (pd : Option Code) : HGo H (H.setLoop l row st pd) := by
  rw [setLoop_eq hl]
  refine ⟨⟨Nat.le_refl _, Nat.min_le_right _ _, fun r hr hlow => ?_⟩, fun k x hx => ?_⟩
  · have hne : r ≠ l := by have : Nat.min l H.low ≤ l := Nat.min_le_left _ _; simp only at hlow; omega
    exact ⟨Trie.get_put_ne _ _ hne, fun _ _ => rfl⟩
  · simp only [Trie.get_put] at hx
    split at hx
    · rename_i hk; cases hx; rw [hk]; exact hi l row hrow
    · exact hi k x hx

/-- What a record is of which loop. -/
structure RecOk (m : Map) (lr : LoopRec) (L : Loop) : Prop where
  st : L.state = lr.state
  pd : L.pending = lr.pending
  ps : L.params = lr.params
  as : L.assign = lr.assign
  bd : L.body = lr.body
  tm : VRs m lr.tmps.toList L.tmps.toList

theorem Fits.loopRec {r rm row al} (h : Fits n0 m w r rm row al) {lr : LoopRec} (hl : row.loop = some lr) : row.exact = true ∧ ∃ L, w.heap[rm.blk]? = some (.loop L) ∧ RecOk m lr L := by
  rcases h.blk with ⟨hn, _⟩ | ⟨lr', tm, fn, d, hl', he, hb, hv⟩
  · rw [hl] at hn; cases hn
  · rw [hl] at hl'; cases hl'
    exact ⟨he, _, hb, rfl, rfl, rfl, rfl, rfl, hv⟩

def World.setObjAt (w : World) (b : Nat) (o : Obj) : World := { w with heap := w.heap.setIfInBounds b o }

theorem setObjAt_same {b : Nat} {o : Obj} (h : b < w.heap.size) : (World.setObjAt w b o).heap[b]? = some o := by simp [World.setObjAt, h]
theorem setObjAt_other {b k : Nat} {o : Obj} (h : k ≠ b) : (World.setObjAt w b o).heap[k]? = w.heap[k]? := by simp [World.setObjAt, Array.getElem?_setIfInBounds, Ne.symm h]

theorem Ext.setLoop (h : HR n0 m H w) {l : Nat} {rm : RowMap} {row : Row} {lr : LoopRec} (hm : m l = some rm) (hrow : H.rows.get l = some row) (hro : row.ro = false) (hl : row.loop = some lr)
    (st : LoopState) (pd : Option Code) : ∃ L, w.heap[rm.blk]? = some (.loop L) ∧ RecOk m lr L ∧
      Ext n0 m H w m (H.setLoop l row st pd) (World.setObjAt w rm.blk (.loop { L with state := st, pending := pd })) := by
  have hf := h.rowOf hm hrow
  obtain ⟨hex, L, hb, hR⟩ := hf.loopRec hl
  refine ⟨L, hb, hR, ?_⟩
  have hlt := hf.lt
  have hnew : (World.setObjAt w rm.blk (.loop { L with state := st, pending := pd })).heap[rm.blk]? = some (.loop { L with state := st, pending := pd }) := setObjAt_same hlt
  have hget : ∀ k, (H.setLoop l row st pd).rows.get k = if k = l then some { row with loop := some { lr with state := st, pending := pd } } else H.rows.get k := fun k => by
    rw [setLoop_eq hl]; exact Trie.get_put _ _ _ _
  have hsz : (H.setLoop l row st pd).size = H.size := by rw [setLoop_eq hl]
  have hgr : (H.setLoop l row st pd).grps = H.grps := by rw [setLoop_eq hl]
  have hlow : (H.setLoop l row st pd).low ≤ l := by rw [setLoop_eq hl]; exact Nat.min_le_left _ _
  refine ⟨Map.le_refl _, ⟨?_, ?_, ?_, (setLoop_go h.inv hrow hl st pd).2⟩, ?_, ?_, fun r rm h => .inl h, ?_⟩
  · have := h.base; simpa [World.setObjAt] using this
  · intro k rk hk
    obtain ⟨x, hx, hklt, hfk⟩ := h.row k rk hk
    by_cases hkl : k = l
    · subst hkl
      rw [hm] at hk; cases hk
      rw [hrow] at hx; cases hx
      refine ⟨{ row with loop := some { lr with state := st, pending := pd } }, by rw [hget, if_pos rfl], by rw [hsz]; exact hklt, hf.ex, hf.es, hf.ro, hf.grpE, hf.grpL, hf.grpB, hf.roE, hf.own, ?_⟩
      exact .inr ⟨{ lr with state := st, pending := pd }, L.tmps, L.fn, L.defers, rfl, hex, by rw [hnew, ← hR.ps, ← hR.as, ← hR.bd], hR.tm⟩
    · refine ⟨x, by rw [hget, if_neg hkl]; exact hx, by rw [hsz]; exact hklt, ?_⟩
      by_cases hbk : rk.blk = rm.blk
      · exfalso
        rcases h.apart k l rk rm x row hk hm hx hrow hbk with ⟨hg, _⟩ | ⟨_, hr⟩
        · have h1 := hf.grpE hex
          cases hxe : x.exact with
          | true => have h2 := hfk.grpE hxe; omega
          | false => have h2 := hfk.grpL hxe; omega
        · rw [hro] at hr; cases hr
      · refine hfk.later (Map.le_refl _) (setObjAt_other hbk) ?_
        unfold Heap.alive
        rw [hgr]
        exact id
  · intro k k' rk rk' x x' hk hk' hx hx' hbk
    have back : ∀ k x, (H.setLoop l row st pd).rows.get k = some x → ∃ y, H.rows.get k = some y ∧ y.grp = x.grp ∧ y.gpos = x.gpos ∧ y.ro = x.ro := fun k x hx => by
      rw [hget] at hx
      split at hx
      · rename_i he; cases hx; exact ⟨row, by rw [he]; exact hrow, rfl, rfl, rfl⟩
      · exact ⟨x, hx, rfl, rfl, rfl⟩
    obtain ⟨y, hy, e1, e2, e3⟩ := back k x hx
    obtain ⟨y', hy', e1', e2', e3'⟩ := back k' x' hx'
    have := h.apart k k' rk rk' y y' hk hk' hy hy' hbk
    rw [e1, e2, e3, e1', e2', e3'] at this
    exact this
  · exact ⟨rfl, rfl, rfl, by simp [World.setObjAt], fun k hk => setObjAt_other (by have := hf.own hro; omega)⟩
  · intro b hb2 hall
    by_cases hbb : b = rm.blk
    · rcases hall l rm hm hbb.symm with hh | hh
      · rw [hf.ro, hro] at hh; cases hh
      · omega
    · exact setObjAt_other hbb
  · intro b L2 hb2
    by_cases hbb : b = rm.blk
    · subst hbb; exact ⟨_, hnew⟩
    · exact ⟨L2, by rw [setObjAt_other hbb]; exact hb2⟩

def Heap.addLoop (H : Heap) (lr : LoopRec) : Heap := H.add { cells := [], elem := 0, exact := true, ro := false, esz := 0, grp := 2 * H.size, gpos := 0, loop := some lr }

theorem addLoop_go {H : Heap} (hi : HInv H) (lr : LoopRec) : HGo H (H.addLoop lr) := HGo.add hi _ (.inl rfl)

theorem Ext.addLoop (h : HR n0 m H w) (lr : LoopRec) {w1 : World} {B : Nat} {L : Loop} (hB : w.heap.size ≤ B) (hb : w1.heap[B]? = some (.loop L)) (hR : RecOk m lr L)
    (hold : ∀ b, b < w.heap.size → w1.heap[b]? = w.heap[b]?) (hbel : Below n0 w w1) :
    Ext n0 m H w (m.put H.size ⟨B, 0, 0, 0, true, false⟩) (H.addLoop lr) w1 := by
  have hle := Map.le_put (rm := ⟨B, 0, 0, 0, true, false⟩) h.none
  have hget : ∀ r, (H.addLoop lr).rows.get r = if r = H.size then some { cells := [], elem := 0, exact := true, ro := false, esz := 0, grp := 2 * H.size, gpos := 0, loop := some lr } else H.rows.get r := fun r => Heap.add_get _ _ _
  have hsz : (H.addLoop lr).size = H.size + 1 := Heap.add_size _ _
  have hgr : (H.addLoop lr).grps = H.grps := by unfold Heap.addLoop; rw [Heap.add_grps]; rfl
  refine ⟨hle, ⟨Nat.le_trans h.base hbel.size, ?_, ?_, (addLoop_go h.inv lr).2⟩, hbel, fun b hb _ => hold b hb, ?_, fun b L hb => ⟨L, by rw [hold b (Array.getElem?_eq_some_iff.1 hb).1]; exact hb⟩⟩
  · intro r rm hr
    rcases Map.put_inv hr with ⟨rfl, rfl⟩ | ⟨hne, hr⟩
    · refine ⟨_, by rw [hget, if_pos rfl], by rw [hsz]; exact Nat.lt_succ_self _, rfl, rfl, rfl, fun _ => rfl, (fun e => by cases e), (by simp only; omega), (fun e => by cases e), fun _ => Nat.le_trans h.base hB, ?_⟩
      exact .inr ⟨lr, L.tmps, L.fn, L.defers, rfl, rfl, by rw [hb, ← hR.st, ← hR.pd, ← hR.ps, ← hR.as, ← hR.bd], hR.tm.mono hle⟩
    · obtain ⟨x, hx, hlt, hf⟩ := h.row r rm hr
      refine ⟨x, by rw [hget, if_neg hne]; exact hx, by rw [hsz]; exact Nat.lt_succ_of_lt hlt, hf.later hle (hold _ hf.lt) ?_⟩
      unfold Heap.alive
      rw [hgr]
      exact id
  · intro r r' rm rm' x x' hr hr' hx hx' hbk
    rw [hget] at hx hx'
    rcases Map.put_inv hr with ⟨rfl, rfl⟩ | ⟨hne, hr⟩ <;> rcases Map.put_inv hr' with ⟨rfl, rfl⟩ | ⟨hne', hr'⟩
    · rw [if_pos rfl] at hx hx'; cases hx; cases hx'; exact .inl ⟨rfl, rfl⟩
    · obtain ⟨y, hy, _, hfy⟩ := h.row r' rm' hr'
      have := hfy.lt; simp at hbk; omega
    · obtain ⟨y, hy, _, hfy⟩ := h.row r rm hr
      have := hfy.lt; simp at hbk; omega
    · rw [if_neg hne] at hx; rw [if_neg hne'] at hx'
      exact h.apart r r' rm rm' x x' hr hr' hx hx' hbk
  · intro r rm hr
    rcases Map.put_inv hr with ⟨rfl, rfl⟩ | ⟨_, hr⟩
    · exact .inr ⟨Nat.le_refl _, rfl, .inl hB⟩
    · exact .inl hr

/-! The marks of an activation: its blocks for the deferred calls of rounds. -/

def markOf (r : Nat) : Deferred := { target := .collected r, args := #[] }

def Marks (B : Nat) (m : Map) (w : World) (ds : List Deferred) : Prop :=
  ∃ rs : List Nat, ds = rs.map markOf ∧ rs.Nodup ∧ ∀ r, r ∈ rs → w.heap[r]? = some (.deferred (some [])) ∧ B ≤ r ∧ ∀ l rm, m l = some rm → rm.blk ≠ r

theorem Marks.nil (B : Nat) (m : Map) (w : World) : Marks B m w [] := ⟨[], rfl, List.nodup_nil, fun r h => by cases h⟩

theorem Marks.ext {B : Nat} {m m' : Map} {H H' : Heap} {w w' : World} {ds : List Deferred} (h : Marks B m w ds) (hx : Ext n0 m H w m' H' w') : Marks B m' w' ds := by
  obtain ⟨rs, e, hn, ha⟩ := h
  refine ⟨rs, e, hn, fun r hr => ?_⟩
  obtain ⟨h1, h2, h3⟩ := ha r hr
  have hlt := (Array.getElem?_eq_some_iff.1 h1).1
  refine ⟨?_, h2, fun l rm hm => ?_⟩
  · rw [hx.fr r hlt fun l rm hl hb => absurd hb (h3 l rm hl)]; exact h1
  · rcases hx.new l rm hm with h0 | ⟨_, _, hb | ⟨r0, rm0, h0, hb, _⟩⟩
    · exact h3 l rm h0
    · omega
    · rw [← hb]; exact h3 r0 rm0 h0

theorem takeDeferred_run {r : Nat} (h : w.heap[r]? = some (.deferred (some []))) : (Instr.takeDeferred r).run P w = .ok [] (World.setObjAt w r (.deferred none)) := by
  simp [Instr.takeDeferred, getObj, setObj, Sem.run, h, World.setObjAt]

theorem leave_marks {F : Fence} {n : Nat} {fn : Func} {tmps : Array Value} {R : Ending → World → Prop} : ∀ (rs : List Nat) (w : World), rs.Nodup → (∀ r, r ∈ rs → w.heap[r]? = some (.deferred (some []))) →
    (∀ w', w'.os = w.os → w'.tape = w.tape → w'.output = w.output → w'.heap.size = w.heap.size → (∀ b, b ∉ rs → w'.heap[b]? = w.heap[b]?) → ∃ v, (results fn tmps).run P w' = .ok v w' ∧ R (.returned v) w') →
    LeavesInM F n P fn tmps R (rs.map markOf) .returning w
  | [], w, _, _, h => h w rfl rfl rfl rfl fun _ _ => rfl
  | r :: rs, w, hn, ha, h => by
    rw [List.nodup_cons] at hn
    refine ⟨by simp, .inl ⟨r, _, rfl, takeDeferred_run (ha r (by simp)), ?_⟩⟩
    refine leave_marks rs _ hn.2 (fun k hk => ?_) fun w' e1 e2 e3 e4 e5 => ?_
    · rw [setObjAt_other (fun e => hn.1 (by rw [← e]; exact hk))]; exact ha k (by simp [hk])
    · refine h w' (by rw [e1]; rfl) (by rw [e2]; rfl) (by rw [e3]; rfl) (by rw [e4]; simp [World.setObjAt]) fun b hb => ?_
      rw [e5 b (fun hk => hb (by simp [hk])), setObjAt_other (fun e => hb (by simp [e]))]

/-- The marks are taken: nothing that the map names has turned. -/
theorem Ext.left {m' : Map} {H' : Heap} {w1 w2 : World} {rs : List Nat} (h : Ext n0 m H w m' H' w1) (hB : ∀ r, r ∈ rs → w.heap.size ≤ r ∧ ∀ l rm, m' l = some rm → rm.blk ≠ r)
    (e1 : w2.os = w1.os) (e2 : w2.tape = w1.tape) (e3 : w2.output = w1.output) (e4 : w2.heap.size = w1.heap.size) (e5 : ∀ b, b ∉ rs → w2.heap[b]? = w1.heap[b]?) : Ext n0 m H w m' H' w2 := by
  have hlt : ∀ b, b < w.heap.size → w2.heap[b]? = w1.heap[b]? := fun b hb => e5 b fun hr => by have := (hB b hr).1; omega
  have hmap : ∀ l rm, m' l = some rm → w2.heap[rm.blk]? = w1.heap[rm.blk]? := fun l rm hm => e5 _ fun hr => (hB _ hr).2 l rm hm rfl
  have hbase : n0 ≤ w.heap.size := by
    have := h.below.size
    -- the base of the relation lies below the world at the start
    exact Classical.byContradiction fun hc => by
      have hb := h.hr.base
      have hk : ∀ k, k < n0 → w1.heap[k]? = w.heap[k]? := h.below.block
      have h1 := hk w.heap.size (by omega)
      rw [Array.getElem?_eq_none (Nat.le_refl _), Array.getElem?_eq_getElem (by omega)] at h1
      cases h1
  refine ⟨h.mono, ⟨by rw [e4]; exact h.hr.base, fun r rm hm => ?_, h.hr.apart, h.hr.inv⟩, ?_, fun b hb hall => (hlt b hb).trans (h.fr b hb hall), h.new, fun b L hb => ?_⟩
  · obtain ⟨row, h1, h2, hf⟩ := h.hr.row r rm hm
    exact ⟨row, h1, h2, hf.later (Map.le_refl _) (hmap r rm hm) id⟩
  · refine h.below.trans ⟨e1, e2, e3, by rw [e4]; exact Nat.le_refl _, fun k hk => hlt k (by omega)⟩
  · obtain ⟨L', hb'⟩ := h.loops b L hb
    exact ⟨L', by rw [hlt b (Array.getElem?_eq_some_iff.1 hb).1]; exact hb'⟩

end Go.AM
