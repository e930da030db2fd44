/- A general tool, which names no program: a canonical machine for the model's own code (rows of cells by number, no world, no open order), proved: what it comes to is what every run comes to. -/
import Derived.Test.YtimbciadadjhiaaDoorAm1
import Derived.Laws.CopyRow
set_option linter.unusedVariables false
set_option linter.unusedSimpArgs false
set_option linter.unusedSectionVars false
namespace Go.AM
open Go.RowKit (Below)

def Map.put (m : Map) (k : Nat) (rm : RowMap) : Map := fun r => if r = k then some rm else m r

theorem Map.le_put {m : Map} {k : Nat} {rm : RowMap} (h : m k = none) : m.le (m.put k rm) := fun r x e => by
  unfold Map.put
  split
  · rename_i hk; subst hk; rw [h] at e; cases e
  · exact e
theorem Map.put_same (m : Map) (k : Nat) (rm : RowMap) : m.put k rm k = some rm := by simp [Map.put]
theorem Map.put_inv {m : Map} {k r : Nat} {rm x : RowMap} (h : m.put k rm r = some x) : (r = k ∧ x = rm) ∨ (r ≠ k ∧ m r = some x) := by
  unfold Map.put at h
  split at h
  · rename_i hk; exact .inl ⟨hk, by injection h with h; exact h.symm⟩
  · rename_i hk; exact .inr ⟨hk, h⟩

theorem Fits.lt {n0 m w r rm row al} (h : Fits n0 m w r rm row al) : rm.blk < w.heap.size := by
  rcases h.blk with ⟨_, cs, fz, hb, _⟩ | ⟨_, _, _, _, _, _, hb, _⟩
  · exact (Array.getElem?_eq_some_iff.1 hb).1
  · exact (Array.getElem?_eq_some_iff.1 hb).1

theorem Fits.later {n0 m m' w w' r rm row al al'} (h : Fits n0 m w r rm row al) (hm : m.le m') (hw : w'.heap[rm.blk]? = w.heap[rm.blk]?) (ha : al' = true → al = true) :
    Fits n0 m' w' r rm row al' where
  ex := h.ex
  es := h.es
  ro := h.ro
  grpE := h.grpE
  grpL := h.grpL
  grpB := h.grpB
  roE := h.roE
  own := h.own
  blk := by
    rcases h.blk with ⟨hn, cs, fz, hb, h1, h2, h3, h4⟩ | ⟨lr, tm, fn, d, h1, h2, hb, hv⟩
    · refine .inl ⟨hn, cs, fz, hw.trans hb, h1, h2, h3, fun hal j v hj => ?_⟩
      obtain ⟨v', e, hv⟩ := h4 (ha hal) j v hj
      exact ⟨v', e, hv.mono hm⟩
    · exact .inr ⟨lr, tm, fn, d, h1, h2, hw.trans hb, hv.mono hm⟩

/-- A row whose block is known to hold cells is none of a loop. -/
theorem Fits.cells {n0 m w r rm row al} (h : Fits n0 m w r rm row al) {cs : Array Value} {e : TypeId} {fz : Nat × Nat} (hb : w.heap[rm.blk]? = some (.cells cs e fz)) : row.loop = none := by
  rcases h.blk with ⟨hn, _⟩ | ⟨_, _, _, _, _, _, hb', _⟩
  · exact hn
  · rw [hb] at hb'; cases hb'

theorem alive_loop {H : Heap} {r : Nat} {row : Row} (h : H.alive r row = true) : row.loop = none := by
  unfold Heap.alive at h
  cases e : row.loop with
  | none => rfl
  | some _ => rw [e] at h; cases h

/-- The cells of a row that is none of a loop. -/
theorem Fits.blkC {n0 m w r rm row al} (h : Fits n0 m w r rm row al) (hl : row.loop = none) : ∃ cs fz, w.heap[rm.blk]? = some (.cells cs row.elem fz) ∧ (row.ro = false → fz = (0, 0)) ∧ cs.size = rm.ext ∧ rm.sh + row.cells.length ≤ rm.ext ∧
    (al = true → ∀ (j : Nat) (v : Value), row.cells[j]? = some v → ∃ v', cs[rm.sh + j]? = some v' ∧ VR m v v') := by
  rcases h.blk with ⟨_, h⟩ | ⟨_, _, _, _, hs, _⟩
  · exact h
  · rw [hl] at hs; cases hs

theorem HR.lt {n0 m H w} (h : HR n0 m H w) {r rm} (hm : m r = some rm) : r < H.size := by
  obtain ⟨_, _, h2, _⟩ := h.row r rm hm
  exact h2
theorem HR.none {n0 m H w} (h : HR n0 m H w) : m H.size = none := by
  cases e : m H.size with
  | none => rfl
  | some rm => exact absurd (h.lt e) (Nat.lt_irrefl _)

/-- A new row. -/
def Heap.add (H : Heap) (row : Row) : Heap :=
  forceL row.cells fun cells => forceT (H.rows.put H.size { row with cells := cells }) fun rows =>
  { size := H.size + 1, rows := rows, grps := cond row.exact H.grps (H.grps.put row.grp [H.size]), low := H.low }
theorem Heap.add_eq (H : Heap) (row : Row) : H.add row = { size := H.size + 1, rows := H.rows.put H.size row, grps := cond row.exact H.grps (H.grps.put row.grp [H.size]), low := H.low } := by
  unfold Heap.add; rw [forceL_eq, forceT_eq]
theorem Heap.add_rows (H : Heap) (row : Row) : (H.add row).rows = H.rows.put H.size row := by rw [Heap.add_eq]
theorem Heap.add_grps (H : Heap) (row : Row) : (H.add row).grps = cond row.exact H.grps (H.grps.put row.grp [H.size]) := by rw [Heap.add_eq]
theorem Heap.add_size (H : Heap) (row : Row) : (H.add row).size = H.size + 1 := by rw [Heap.add_eq]
theorem Heap.add_low (H : Heap) (row : Row) : (H.add row).low = H.low := by rw [Heap.add_eq]

theorem memN_self (r : Nat) (l : List Nat) : memN r (r :: l) = true := by simp [memN]
theorem memN_one {r k : Nat} (h : r ≠ k) : memN r [k] = false := by simp [memN, Trie.beq_ff (Ne.symm h)]

theorem Heap.add_get (H : Heap) (row : Row) (r : Nat) : (H.add row).rows.get r = if r = H.size then some row else H.rows.get r := by rw [Heap.add_rows]; exact Trie.get_put _ _ _ _
theorem HF.add (H : Heap) (row : Row) (hg : row.exact = true ∨ row.grp = 2 * H.size + 1) (hold : ∀ r x, H.rows.get r = some x → (x.exact = true ∨ x.grp < 2 * H.size) ∧ r < H.size) : HF H (H.add row) where
  size := by rw [Heap.add_size]; exact Nat.le_succ _
  low := by rw [Heap.add_low]; exact Nat.le_refl _
  keep := fun r hr _ => by
    have e : (H.add row).rows.get r = H.rows.get r := by rw [Heap.add_get, if_neg (by omega)]
    refine ⟨e, fun x hx => ?_⟩
    unfold Heap.alive
    cases hxe : x.exact with
    | true => simp
    | false =>
      have hlt := (hold r x hx).1.resolve_left (by simp [hxe])
      cases hre : row.exact with
      | true => simp [Heap.add_grps, hre]
      | false =>
        have hgr := hg.resolve_left (by simp [hre])
        simp only [Heap.add_grps, hre, cond_false]
        rw [Trie.get_put_ne _ _ (by omega)]

theorem HR.rowOf {n0 m H w} (h : HR n0 m H w) {r rm} (hm : m r = some rm) {row} (hr : H.rows.get r = some row) : Fits n0 m w r rm row (H.alive r row) := by
  obtain ⟨row', e, _, hf⟩ := h.row r rm hm
  rw [hr] at e; cases e; exact hf

theorem Ext.add {n0 m H w} (h : HR n0 m H w) (row : Row) (l' spare : List Value) (hro : row.ro = false) (hlp : row.loop = none) (hl : VRs m row.cells l')
    (hg : (row.exact = true ∧ row.grp = 2 * H.size) ∨ (row.exact = false ∧ row.grp = 2 * H.size + 1)) (wd : World) (hwd : wd = w ∨ wd = w.drew) :
    Ext n0 m H w (m.put H.size ⟨w.heap.size, 0, (l' ++ spare).length, row.esz, row.exact, false⟩) (H.add row) (wd.alloc (.cells (l' ++ spare).toArray row.elem)) := by
  have hs : wd.heap = w.heap := by rcases hwd with rfl | rfl <;> rfl
  have hnew : (wd.alloc (.cells (l' ++ spare).toArray row.elem)).heap[w.heap.size]? = some (.cells (l' ++ spare).toArray row.elem) := by
    have := heap_alloc_new wd (.cells (l' ++ spare).toArray row.elem)
    rwa [hs] at this
  have hold : ∀ b, b < w.heap.size → (wd.alloc (.cells (l' ++ spare).toArray row.elem)).heap[b]? = w.heap[b]? := fun b hb => by
    have := heap_alloc_old wd (.cells (l' ++ spare).toArray row.elem) b (by rw [hs]; exact hb)
    rwa [hs] at this
  have hle := Map.le_put (rm := ⟨w.heap.size, 0, (l' ++ spare).length, row.esz, row.exact, false⟩) h.none
  have halive : ∀ r x, r < H.size → H.rows.get r = some x → x.grp ≤ 2 * r + 1 → (H.add row).alive r x = H.alive r x := fun r x hr _ hgb => by
    unfold Heap.alive
    rcases hg with ⟨he, _⟩ | ⟨he, _⟩
    · simp [Heap.add_grps, he]
    · simp only [Heap.add_grps, he, cond_false]
      rw [Trie.get_put_ne _ _ (by omega)]
  have hsame : (H.add row).rows.get H.size = some row := by rw [Heap.add_get, if_pos rfl]
  have hother : ∀ r, r < H.size → (H.add row).rows.get r = H.rows.get r := fun r hr => by rw [Heap.add_get, if_neg (by omega)]
  refine ⟨hle, ⟨?_, ?_, ?_, ?inv⟩, ?_, fun b hb _ => hold b hb, ?_, fun b L hb => ⟨L, by rw [hold b (Array.getElem?_eq_some_iff.1 hb).1]; exact hb⟩⟩
  case inv =>
    intro r x hx
    rw [Heap.add_get] at hx
    rw [Heap.add_size]
    split at hx
    · cases hx
      refine ⟨?_, by omega⟩
      rcases hg with ⟨h1, _⟩ | ⟨_, h1⟩
      · exact .inl h1
      · right; rw [h1]; omega
    · refine ⟨(h.inv r x hx).1.imp id fun hlt => ?_, ?_⟩
      · omega
      · have := (h.inv r x hx).2; omega
  · have := h.base; simp [hs]; omega
  · intro r rm hr
    rcases Map.put_inv hr with ⟨rfl, rfl⟩ | ⟨hne, hr⟩
    · refine ⟨row, hsame, by rw [Heap.add_size]; exact Nat.lt_succ_self _, ?_⟩
      refine ⟨rfl, rfl, hro.symm, ?_, ?_, ?_, ?_, fun _ => h.base, ?_⟩
      · intro he; rcases hg with ⟨_, e⟩ | ⟨e, _⟩
        · exact e
        · rw [he] at e; cases e
      · intro he; rcases hg with ⟨e, _⟩ | ⟨_, e⟩
        · rw [he] at e; cases e
        · omega
      · rcases hg with ⟨_, e⟩ | ⟨_, e⟩ <;> omega
      · intro e; rw [hro] at e; cases e
      · refine .inl ⟨hlp, _, _, hnew, fun _ => rfl, by simp, by simp [hl.length], fun _ j v hj => ?_⟩
        obtain ⟨v', e, hv⟩ := hl.get j v hj
        refine ⟨v', ?_, hv.mono hle⟩
        have hlt : j < l'.length := (List.getElem?_eq_some_iff.1 e).1
        simpa [List.getElem?_append_left hlt] using e
    · obtain ⟨x, hx, hlt, hf⟩ := h.row r rm hr
      exact ⟨x, (hother r hlt).trans hx, by rw [Heap.add_size]; exact Nat.lt_succ_of_lt hlt, hf.later hle (hold _ hf.lt) (by rw [halive r x hlt hx hf.grpB]; exact id)⟩
  · intro r r' rm rm' x x' hr hr' hx hx' hb
    rcases Map.put_inv hr with ⟨rfl, rfl⟩ | ⟨hne, hr⟩ <;> rcases Map.put_inv hr' with ⟨rfl, rfl⟩ | ⟨hne', hr'⟩
    · rw [hx] at hx'; cases hx'; exact .inl ⟨rfl, rfl⟩
    · obtain ⟨y, hy, hlt, hf⟩ := h.row r' rm' hr'
      have := hf.lt; simp at hb; omega
    · obtain ⟨y, hy, hlt, hf⟩ := h.row r rm hr
      have := hf.lt; simp at hb; omega
    · exact h.apart r r' rm rm' x x' hr hr' ((hother r (h.lt hr)).symm.trans hx) ((hother r' (h.lt hr')).symm.trans hx') hb
  · rcases hwd with rfl | rfl
    · exact (Below.refl _ _).alloc h.base _
    · exact (Below.refl _ _).drew.alloc h.base _
  · intro r rm hr
    rcases Map.put_inv hr with ⟨rfl, rfl⟩ | ⟨_, hr⟩
    · exact .inr ⟨Nat.le_refl _, rfl, .inl (Nat.le_refl _)⟩
    · exact .inl hr

/-! Stores. -/

def minL (a : Nat) : List Nat → Nat
  | [] => a
  | x :: l => Nat.min x (minL a l)
theorem minL_le (a : Nat) : ∀ l, minL a l ≤ a
  | [] => Nat.le_refl _
  | x :: l => Nat.le_trans (Nat.min_le_right _ _) (minL_le a l)
theorem minL_mem {r a : Nat} : ∀ {l}, memN r l = true → minL a l ≤ r
  | x :: l, h => by
    unfold memN at h
    cases e : Nat.beq x r with
    | true => rw [Nat.eq_of_beq_eq_true e]; exact Nat.min_le_left _ _
    | false => rw [e] at h; exact Nat.le_trans (Nat.min_le_right _ _) (minL_mem h)

def splice (l : List Value) (off : Nat) (vs : List Value) : List Value := l.take off ++ (vs ++ l.drop (off + vs.length))

theorem splice_length {l : List Value} {off : Nat} {vs : List Value} (h : off + vs.length ≤ l.length) : (splice l off vs).length = l.length := by
  simp [splice]; omega

theorem splice_get {l : List Value} {off : Nat} {vs : List Value} (h : off + vs.length ≤ l.length) (j : Nat) :
    (splice l off vs)[j]? = if j < off then l[j]? else if j < off + vs.length then vs[j - off]? else l[j]? := by
  unfold splice
  rw [List.getElem?_append, List.length_take, show min off l.length = off by omega]
  split
  · rename_i hj; rw [List.getElem?_take, if_pos hj]
  · rename_i hj
    rw [List.getElem?_append]
    by_cases h2 : j < off + vs.length
    · rw [if_pos (by omega), if_pos h2]
    · rw [if_neg (by omega), if_neg h2, List.getElem?_drop]; congr 1; omega

def Heap.store (H : Heap) (r : Nat) (row : Row) (off : Nat) (vs : List Value) : Heap :=
  forceL (splice row.cells off vs) fun cells => forceT (H.rows.put r { row with cells := cells }) fun rows =>
  { size := H.size, rows := rows,
    grps := cond row.exact H.grps (H.grps.put row.grp [r]),
    low := cond row.exact (Nat.min r H.low) (minL (Nat.min r H.low) ((H.grps.get row.grp).getD [])) }
theorem Heap.store_eq (H : Heap) (r : Nat) (row : Row) (off : Nat) (vs : List Value) : H.store r row off vs =
  { size := H.size, rows := H.rows.put r { row with cells := splice row.cells off vs },
    grps := cond row.exact H.grps (H.grps.put row.grp [r]),
    low := cond row.exact (Nat.min r H.low) (minL (Nat.min r H.low) ((H.grps.get row.grp).getD [])) } := by
  unfold Heap.store; rw [forceL_eq, forceT_eq]
theorem Heap.store_rows (H : Heap) (r : Nat) (row : Row) (off : Nat) (vs : List Value) : (H.store r row off vs).rows = H.rows.put r { row with cells := splice row.cells off vs } := by rw [Heap.store_eq]
theorem Heap.store_grps (H : Heap) (r : Nat) (row : Row) (off : Nat) (vs : List Value) : (H.store r row off vs).grps = cond row.exact H.grps (H.grps.put row.grp [r]) := by rw [Heap.store_eq]
theorem Heap.store_size (H : Heap) (r : Nat) (row : Row) (off : Nat) (vs : List Value) : (H.store r row off vs).size = H.size := by rw [Heap.store_eq]
theorem Heap.store_low (H : Heap) (r : Nat) (row : Row) (off : Nat) (vs : List Value) : (H.store r row off vs).low = cond row.exact (Nat.min r H.low) (minL (Nat.min r H.low) ((H.grps.get row.grp).getD [])) := by rw [Heap.store_eq]

theorem store_low_lt {H : Heap} {r : Nat} {row : Row} {off : Nat} {vs : List Value} : (H.store r row off vs).low ≤ r ∧ (H.store r row off vs).low ≤ H.low := by
  rw [Heap.store_low]
  cases row.exact
  · have h1 := minL_le (Nat.min r H.low) ((H.grps.get row.grp).getD [])
    have h2 := Nat.min_le_left r H.low
    have h3 := Nat.min_le_right r H.low
    exact ⟨Nat.le_trans h1 h2, Nat.le_trans h1 h3⟩
  · exact ⟨Nat.min_le_left _ _, Nat.min_le_right _ _⟩

theorem Heap.store_get (H : Heap) (r : Nat) (row : Row) (off : Nat) (vs : List Value) (k : Nat) : (H.store r row off vs).rows.get k = if k = r then some { row with cells := splice row.cells off vs } else H.rows.get k := by
  rw [Heap.store_rows]; exact Trie.get_put _ _ _ _
theorem HF.store (H : Heap) (r : Nat) (row : Row) (off : Nat) (vs : List Value) 
    : HF H (H.store r row off vs) where
  size := by rw [Heap.store_size]; exact Nat.le_refl _
  low := store_low_lt.2
  keep := fun k hk hl => by
    have hne : k ≠ r := by have := (store_low_lt (H := H) (r := r) (row := row) (off := off) (vs := vs)).1; omega
    refine ⟨by rw [Heap.store_get, if_neg hne], fun x hx => ?_⟩
    unfold Heap.alive
    cases hlx : x.loop with
    | some _ => rfl
    | none =>
    simp only []
    cases hxe : x.exact with
    | true => simp
    | false =>
      cases hre : row.exact with
      | true => simp [Heap.store_grps, hre]
      | false =>
        simp only [Heap.store_low, Heap.store_grps, hre, cond_false] at hl ⊢
        rw [Trie.get_put]
        split
        · rename_i hg
          rw [hg, Option.getD_some, memN_one hne]
          cases hmem : memN k ((H.grps.get row.grp).getD []) with
          | false => rfl
          | true => have := minL_mem (a := Nat.min r H.low) hmem; omega
        · rfl

theorem toList_splice (cs : Array Value) (o : Nat) (vs : List Value) : (cs.toList.take o ++ vs ++ cs.toList.drop (o + vs.length)) = splice cs.toList o vs := by
  simp [splice]

theorem Ext.store {n0 m H w} (h : HR n0 m H w) {r : Nat} {rm : RowMap} {row : Row} (hm : m r = some rm) (hrow : H.rows.get r = some row) (hro : row.ro = false)
    (hal : H.alive r row = true) (off : Nat) (vs vs' : List Value) (hvs : VRs m vs vs') (hle : off + vs.length ≤ row.cells.length) :
    ∃ cs, w.heap[rm.blk]? = some (.cells cs row.elem (0, 0)) ∧ rm.sh + off + vs'.length ≤ cs.size ∧
      Ext n0 m H w m (H.store r row off vs) (w.setRow rm.blk (splice cs.toList (rm.sh + off) vs').toArray) := by
  have hf := h.rowOf hm hrow
  have hlp := alive_loop hal
  obtain ⟨cs, fz, hb, hfz, hsz, hsh, hcell⟩ := hf.blkC hlp
  rw [hfz hro] at hb
  have hvl := hvs.length
  have hcs : rm.sh + off + vs'.length ≤ cs.toList.length := by simp; omega
  refine ⟨cs, hb, by simpa using hcs, ?_⟩
  have hnew := setRow_heap w rm.blk cs (splice cs.toList (rm.sh + off) vs').toArray row.elem (0, 0) hb
  have hlow := store_low_lt (H := H) (r := r) (row := row) (off := off) (vs := vs)
  -- another row at the same block: of the same group, and not exact
  have hother : ∀ k rk x, m k = some rk → H.rows.get k = some x → k ≠ r → rk.blk = rm.blk → row.exact = false ∧ x.grp = row.grp ∧ x.exact = false := fun k rk x hk hx hne hbk => by
    have hfk := h.rowOf hk hx
    rcases h.apart k r rk rm x row hk hm hx hrow hbk with ⟨hg, _⟩ | ⟨_, hr⟩
    · cases he : row.exact with
      | true =>
        have h1 := hf.grpE he
        cases hxe : x.exact with
        | true => have h2 := hfk.grpE hxe; omega
        | false => have h2 := hfk.grpL hxe; omega
      | false =>
        refine ⟨rfl, hg, ?_⟩
        cases hxe : x.exact with
        | false => rfl
        | true => have h2 := hfk.grpE hxe; have h1 := hf.grpL he; omega
    · rw [hro] at hr; cases hr
  refine ⟨Map.le_refl _, ⟨?_, ?_, ?_, ?inv⟩, ?_, ?_, fun r rm h => .inl h, fun b L hbL => ⟨L, by rw [setRow_other _ _ _ _ (fun he => by rw [he, hb] at hbL; cases hbL)]; exact hbL⟩⟩
  case inv =>
    intro k x hx
    rw [Heap.store_get] at hx
    rw [Heap.store_size]
    split at hx
    · rename_i hk; cases hx; rw [hk]; exact h.inv r row hrow
    · exact h.inv k x hx
  · simpa using h.base
  · intro k rk hk
    obtain ⟨x, hx, hlt, hfk⟩ := h.row k rk hk
    by_cases hkr : k = r
    · subst hkr
      rw [hm] at hk; cases hk
      rw [hrow] at hx; cases hx
      refine ⟨{ row with cells := splice row.cells off vs }, by rw [Heap.store_get, if_pos rfl], by rw [Heap.store_size]; exact hlt, hf.ex, hf.es, hf.ro, hf.grpE, hf.grpL, hf.grpB, hf.roE, hf.own, ?_⟩
      refine .inl ⟨hlp, _, _, hnew, fun _ => rfl, ?_, ?_, fun _ j v hj => ?_⟩
      · simp [splice_length hcs]; exact hsz
      · rw [splice_length hle]; exact hsh
      · simp only [splice_get hle] at hj
        simp only [List.getElem?_toArray]
        rw [splice_get hcs]
        by_cases h1 : j < off
        · rw [if_pos h1] at hj
          rw [if_pos (by omega)]
          simpa using hcell hal j v hj
        · rw [if_neg h1] at hj
          rw [if_neg (by omega)]
          by_cases h2 : j < off + vs.length
          · rw [if_pos h2] at hj
            rw [if_pos (by omega), show rm.sh + j - (rm.sh + off) = j - off by omega]
            exact hvs.get _ _ hj
          · rw [if_neg h2] at hj
            rw [if_neg (by omega)]
            simpa using hcell hal j v hj
    · refine ⟨x, by rw [Heap.store_get, if_neg hkr]; exact hx, by rw [Heap.store_size]; exact hlt, ?_⟩
      by_cases hbk : rk.blk = rm.blk
      · obtain ⟨he, hg, hxe⟩ := hother k rk x hk hx hkr hbk
        have hlx : x.loop = none := hfk.cells (by rw [hbk]; exact hb)
        have hdead : (H.store r row off vs).alive k x = false := by
          unfold Heap.alive
          simp only [hlx, Heap.store_grps, he, hxe, cond_false, Bool.false_or]
          rw [hg, Trie.get_put_same, Option.getD_some, memN_one hkr]
        obtain ⟨cs', fz', hb', h1', h2', h3', h4'⟩ := hfk.blkC hlx
        rw [hbk, hb] at hb'
        simp only [Option.some.injEq, Obj.cells.injEq] at hb'
        obtain ⟨rfl, hel, rfl⟩ := hb'
        refine ⟨hfk.ex, hfk.es, hfk.ro, hfk.grpE, hfk.grpL, hfk.grpB, hfk.roE, hfk.own, ?_⟩
        refine .inl ⟨hlx, (splice cs.toList (rm.sh + off) vs').toArray, (0, 0), ?_, fun _ => rfl, ?_, h3', ?_⟩
        · rw [hbk, hnew, hel]
        · simp [splice_length hcs]; exact h2'
        · rw [hdead]; intro h; cases h
      · refine hfk.later (Map.le_refl _) (setRow_other _ _ _ _ hbk) ?_
        unfold Heap.alive
        cases hlx : x.loop with
        | some _ => simp
        | none =>
        simp only []
        rw [Heap.store_grps]
        cases he : row.exact with
        | true => simp
        | false =>
          simp only [cond_false]
          rw [Trie.get_put]
          split
          · rename_i hg; rw [Option.getD_some, memN_one hkr]; simp; intro e; exact .inl e
          · exact id
  · intro k k' rk rk' x x' hk hk' hx hx' hbk
    have old : ∀ k x, H.rows.get k = some x → ∃ y, H.rows.get k = some y ∧ y.grp = x.grp ∧ y.gpos = x.gpos ∧ y.ro = x.ro := fun k x hx => ⟨x, hx, rfl, rfl, rfl⟩
    have back : ∀ k x, (H.store r row off vs).rows.get k = some x → ∃ y, H.rows.get k = some y ∧ y.grp = x.grp ∧ y.gpos = x.gpos ∧ y.ro = x.ro := fun k x hx => by
      rw [Heap.store_get] at hx
      split at hx
      · rename_i hk; cases hx; exact ⟨row, by rw [hk]; exact hrow, rfl, rfl, rfl⟩
      · exact old k x hx
    obtain ⟨y, hy, e1, e2, e3⟩ := back k x hx
    obtain ⟨y', hy', e1', e2', e3'⟩ := back k' x' hx'
    have := h.apart k k' rk rk' y y' hk hk' hy hy' hbk
    rw [e1, e2, e3, e1', e2', e3'] at this
    exact this
  · exact ⟨rfl, rfl, rfl, by simp, fun k hk => setRow_other _ _ _ _ (by have := hf.own hro; omega)⟩
  · intro b hb hall
    by_cases hbb : b = rm.blk
    · rcases hall r rm hm hbb.symm with hh | hh
      · rw [hf.ro, hro] at hh; cases hh
      · omega
    · exact setRow_other _ _ _ _ hbb

end Go.AM
