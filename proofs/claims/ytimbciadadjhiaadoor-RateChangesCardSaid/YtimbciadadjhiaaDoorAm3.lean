/- A general tool, which names no program: a canonical machine for the model's own code (rows of cells by number, no world, no open order), proved: what it comes to is what every run comes to. -/
import Derived.Test.YtimbciadadjhiaaDoorAm2
set_option linter.unusedVariables false
set_option linter.unusedSimpArgs false
set_option linter.unusedSectionVars false
namespace Go.AM
open Go.RowKit (Below)

def Heap.endOf (H : Heap) (k : Nat) : Nat := match H.rows.get k with
  | some x => x.gpos + x.cells.length
  | none => 0

def keepL (H : Heap) (e : Nat) : List Nat → List Nat
  | [] => []
  | k :: l => cond (Nat.ble (H.endOf k) e) (k :: keepL H e l) (keepL H e l)
def killL (H : Heap) (e : Nat) : List Nat → List Nat
  | [] => []
  | k :: l => cond (Nat.ble (H.endOf k) e) (killL H e l) (k :: killL H e l)

theorem memN_keepL {H : Heap} {e k : Nat} : ∀ {l}, memN k (keepL H e l) = true → memN k l = true ∧ H.endOf k ≤ e
  | [], h => by simp [keepL, memN] at h
  | x :: l, h => by
    unfold keepL at h
    cases hb : Nat.ble (H.endOf x) e with
    | true =>
      rw [hb, cond_true] at h
      unfold memN at h ⊢
      cases hx : Nat.beq x k with
      | true => rw [← Nat.eq_of_beq_eq_true hx]; exact ⟨rfl, Nat.le_of_ble_eq_true hb⟩
      | false => rw [hx, cond_false] at h; exact memN_keepL h
    | false =>
      rw [hb, cond_false] at h
      obtain ⟨h1, h2⟩ := memN_keepL h
      refine ⟨?_, h2⟩
      unfold memN
      cases Nat.beq x k
      · exact h1
      · rfl

theorem memN_split {H : Heap} {e k : Nat} : ∀ {l}, memN k l = true → memN k (keepL H e l) = true ∨ memN k (killL H e l) = true
  | x :: l, h => by
    unfold memN at h
    unfold keepL killL
    cases hx : Nat.beq x k with
    | true =>
      cases hb : Nat.ble (H.endOf x) e
      · right; simp [memN, hx]
      · left; simp [memN, hx]
    | false =>
      rw [hx, cond_false] at h
      have ih := memN_split (H := H) (e := e) h
      cases hb : Nat.ble (H.endOf x) e
      · simp only [cond_false]; exact ih.imp id fun q => by simp [memN, hx, q]
      · simp only [cond_true]; exact ih.imp (fun q => by simp [memN, hx, q]) id

/-- What 'append' makes of a slice whose capacity is not known: a new row of the same group; whatever reached further is dead. -/
def Heap.grow (H : Heap) (r : Nat) (row : Row) (off n : Nat) (vs : List Value) : Heap :=
  forceL ((row.cells.drop off).take n ++ vs) fun cells => forceT (H.rows.put H.size { row with cells := cells, gpos := row.gpos + off }) fun rows =>
  forceL (H.size :: keepL H (row.gpos + off + n) ((H.grps.get row.grp).getD [])) fun mem => forceT (H.grps.put row.grp mem) fun grps =>
  { size := H.size + 1, rows := rows, grps := grps,
    low := minL (Nat.min r H.low) (killL H (row.gpos + off + n) ((H.grps.get row.grp).getD [])) }
theorem Heap.grow_eq (H : Heap) (r : Nat) (row : Row) (off n : Nat) (vs : List Value) : H.grow r row off n vs =
  { size := H.size + 1,
    rows := H.rows.put H.size { row with cells := (row.cells.drop off).take n ++ vs, gpos := row.gpos + off },
    grps := H.grps.put row.grp (H.size :: keepL H (row.gpos + off + n) ((H.grps.get row.grp).getD [])),
    low := minL (Nat.min r H.low) (killL H (row.gpos + off + n) ((H.grps.get row.grp).getD [])) } := by
  unfold Heap.grow; rw [forceL_eq, forceT_eq, forceL_eq, forceT_eq]
theorem Heap.grow_rows (H : Heap) (r : Nat) (row : Row) (off n : Nat) (vs : List Value) : (H.grow r row off n vs).rows = H.rows.put H.size { row with cells := (row.cells.drop off).take n ++ vs, gpos := row.gpos + off } := by rw [Heap.grow_eq]
theorem Heap.grow_grps (H : Heap) (r : Nat) (row : Row) (off n : Nat) (vs : List Value) : (H.grow r row off n vs).grps = H.grps.put row.grp (H.size :: keepL H (row.gpos + off + n) ((H.grps.get row.grp).getD [])) := by rw [Heap.grow_eq]
theorem Heap.grow_size (H : Heap) (r : Nat) (row : Row) (off n : Nat) (vs : List Value) : (H.grow r row off n vs).size = H.size + 1 := by rw [Heap.grow_eq]
theorem Heap.grow_lowIs (H : Heap) (r : Nat) (row : Row) (off n : Nat) (vs : List Value) : (H.grow r row off n vs).low = minL (Nat.min r H.low) (killL H (row.gpos + off + n) ((H.grps.get row.grp).getD [])) := by rw [Heap.grow_eq]

theorem grow_low {H : Heap} {r : Nat} {row : Row} {off n : Nat} {vs : List Value} : (H.grow r row off n vs).low ≤ r ∧ (H.grow r row off n vs).low ≤ H.low := by
  have h1 := minL_le (Nat.min r H.low) (killL H (row.gpos + off + n) ((H.grps.get row.grp).getD []))
  rw [Heap.grow_lowIs]
  exact ⟨Nat.le_trans h1 (Nat.min_le_left _ _), Nat.le_trans h1 (Nat.min_le_right _ _)⟩

theorem HF.grow (H : Heap) (r : Nat) (row : Row) (off n : Nat) (vs : List Value) : HF H (H.grow r row off n vs) where
  size := by rw [Heap.grow_size]; exact Nat.le_succ _
  low := grow_low.2
  keep := fun k hk hl => by
    refine ⟨by rw [Heap.grow_rows]; exact Trie.get_put_ne _ _ (by omega), fun x _ => ?_⟩
    unfold Heap.alive
    cases hlx : x.loop with
    | some _ => rfl
    | none =>
    simp only []
    cases hxe : x.exact with
    | true => simp
    | false =>
      simp only [Bool.false_or]
      rw [Heap.grow_lowIs] at hl
      rw [Heap.grow_grps, Trie.get_put]
      split
      · rename_i hg
        rw [hg, Option.getD_some]
        have hne : Nat.beq H.size k = false := Trie.beq_ff (by omega)
        rw [show ∀ l, memN k (H.size :: l) = memN k l from fun l => by simp [memN, hne]]
        cases hmem : memN k ((H.grps.get row.grp).getD []) with
        | false =>
          cases hk2 : memN k (keepL H (row.gpos + off + n) ((H.grps.get row.grp).getD [])) with
          | false => rfl
          | true => rw [(memN_keepL hk2).1] at hmem; cases hmem
        | true =>
          rcases memN_split (H := H) (e := row.gpos + off + n) hmem with h2 | h2
          · exact h2
          · have := minL_mem (a := Nat.min r H.low) h2; omega
      · rfl

theorem grow_get (H : Heap) (r : Nat) (row : Row) (off n : Nat) (vs : List Value) (k : Nat) :
    (H.grow r row off n vs).rows.get k = if k = H.size then some { row with cells := (row.cells.drop off).take n ++ vs, gpos := row.gpos + off } else H.rows.get k := by
  rw [Heap.grow_rows]; exact Trie.get_put _ _ _ _

/-- Behind 'grow' an old row that lives has lived, and, in the same group, ends where the kept part ends, or before it. -/
theorem grow_alive {H : Heap} {r : Nat} {row : Row} {off n : Nat} {vs : List Value} {k : Nat} {x : Row} (hk : k < H.size) (hx : H.rows.get k = some x)
    (h : (H.grow r row off n vs).alive k x = true) : H.alive k x = true ∧ (x.exact = false → x.grp = row.grp → x.gpos + x.cells.length ≤ row.gpos + off + n) := by
  have hlx := alive_loop h
  unfold Heap.alive at *
  rw [hlx] at h ⊢
  simp only [] at h ⊢
  cases hxe : x.exact with
  | true => exact ⟨by simp, fun e => by cases e⟩
  | false =>
    rw [hxe, Bool.false_or] at h
    rw [Heap.grow_grps, Trie.get_put] at h
    simp only [Bool.false_or]
    split at h
    · rename_i hg
      rw [Option.getD_some] at h
      unfold memN at h
      rw [Trie.beq_ff (by omega : H.size ≠ k), cond_false] at h
      obtain ⟨h1, h2⟩ := memN_keepL h
      rw [hg]
      refine ⟨h1, fun _ _ => ?_⟩
      unfold Heap.endOf at h2
      rw [hx] at h2
      exact h2
    · rename_i hg
      exact ⟨h, fun _ e => absurd e hg⟩

theorem VRs.content {m : Map} {cells cs : List Value} {sh off n : Nat} (h : ∀ (j : Nat) (v : Value), cells[j]? = some v → ∃ v', cs[sh + j]? = some v' ∧ VR m v v')
    (hl : sh + cells.length ≤ cs.length) : VRs m ((cells.drop off).take n) ((cs.drop (sh + off)).take (min n (cells.length - off))) := by
  apply VRs.of_get
  · simp; omega
  · intro j v hj
    rw [List.getElem?_take] at hj
    split at hj
    · rename_i hjn
      rw [List.getElem?_drop] at hj
      obtain ⟨v', e, hv⟩ := h _ _ hj
      have := (List.getElem?_eq_some_iff.1 hj).1
      refine ⟨v', ?_, hv⟩
      rw [List.getElem?_take, if_pos (by omega), List.getElem?_drop, ← e]
      congr 1; omega
    · cases hj

/-- In place. -/
theorem Ext.growA {n0 m H w} (h : HR n0 m H w) {r : Nat} {rm : RowMap} {row : Row} (hm : m r = some rm) (hrow : H.rows.get r = some row) (hex : row.exact = false)
    (hal : H.alive r row = true) (off n : Nat) (vs vs' : List Value) (hvs : VRs m vs vs') (hle : off + n ≤ row.cells.length) (hroom : rm.sh + off + n + vs'.length ≤ rm.ext) :
    ∃ cs, w.heap[rm.blk]? = some (.cells cs row.elem (0, 0)) ∧ rm.ext = cs.size ∧
      Ext n0 m H w (m.put H.size ⟨rm.blk, rm.sh + off, rm.ext, rm.esz, false, false⟩) (H.grow r row off n vs) (w.setRow rm.blk (splice cs.toList (rm.sh + off + n) vs').toArray) := by
  have hf := h.rowOf hm hrow
  have hlp := alive_loop hal
  obtain ⟨cs, fz, hb, hfz, hsz, hsh, hcell⟩ := hf.blkC hlp
  have hro : row.ro = false := by
    cases e : row.ro with
    | false => rfl
    | true => rw [hf.roE e] at hex; cases hex
  rw [hfz hro] at hb
  have hvl := hvs.length
  have hcs : rm.sh + off + n + vs'.length ≤ cs.toList.length := by simp; omega
  have hnew := setRow_heap w rm.blk cs (splice cs.toList (rm.sh + off + n) vs').toArray row.elem (0, 0) hb
  refine ⟨cs, hb, hsz.symm, ?_⟩
  have hmle := Map.le_put (rm := ⟨rm.blk, rm.sh + off, rm.ext, rm.esz, false, false⟩) h.none
  have hnsz : (m.put H.size ⟨rm.blk, rm.sh + off, rm.ext, rm.esz, false, false⟩) H.size = some ⟨rm.blk, rm.sh + off, rm.ext, rm.esz, false, false⟩ := Map.put_same _ _ _
  have hlt := h.lt hm
  refine ⟨hmle, ⟨?_, ?_, ?_, ?inv⟩, ?_, ?_, ?_, fun b L hbL => ⟨L, by rw [setRow_other _ _ _ _ (fun he => by rw [he, hb] at hbL; cases hbL)]; exact hbL⟩⟩
  case inv =>
    intro k x hx
    rw [grow_get] at hx
    have hsz : ∀ g, g < 2 * H.size → g < 2 * (H.grow r row off n vs).size := fun g hg => by rw [Heap.grow_size]; omega
    split at hx
    · rename_i hk; cases hx; exact ⟨(h.inv r row hrow).1.imp id (hsz _), by rw [Heap.grow_size]; omega⟩
    · exact ⟨(h.inv k x hx).1.imp id (hsz _), by have := (h.inv k x hx).2; rw [Heap.grow_size]; omega⟩
  · simpa using h.base
  · intro k rk hk
    rcases Map.put_inv hk with ⟨rfl, rfl⟩ | ⟨hne, hk⟩
    · refine ⟨{ row with cells := (row.cells.drop off).take n ++ vs, gpos := row.gpos + off }, by rw [grow_get, if_pos rfl], by rw [Heap.grow_size]; exact Nat.lt_succ_self _, ?_⟩
      refine ⟨by simp [hex], hf.es, hro.symm, by intro e; simp [hex] at e, fun _ => hf.grpL hex, by have := hf.grpB; simp only; omega, fun e => by simp [hro] at e, fun _ => hf.own hro, ?_⟩
      refine .inl ⟨hlp, _, _, hnew, fun _ => rfl, by simp [splice_length hcs, hsz], ?_, fun _ j v hj => ?_⟩
      · simp only [List.length_append, List.length_take, List.length_drop]; omega
      · simp only [List.getElem?_toArray]
        rw [splice_get hcs]
        rw [List.getElem?_append] at hj
        have hlen : ((row.cells.drop off).take n).length = n := by simp; omega
        rw [hlen] at hj
        split at hj
        · rename_i hjn
          rw [List.getElem?_take, if_pos hjn, List.getElem?_drop] at hj
          rw [if_pos (by omega)]
          obtain ⟨v', e, hv⟩ := hcell hal _ _ hj
          exact ⟨v', by simpa [Nat.add_assoc] using e, hv.mono hmle⟩
        · rename_i hjn
          have hjl := (List.getElem?_eq_some_iff.1 hj).1
          rw [if_neg (by omega), if_pos (by omega), show rm.sh + off + j - (rm.sh + off + n) = j - n by omega]
          obtain ⟨v', e, hv⟩ := hvs.get _ _ hj
          exact ⟨v', e, hv.mono hmle⟩
    · obtain ⟨x, hx, hklt, hfk⟩ := h.row k rk hk
      refine ⟨x, by rw [grow_get, if_neg (by omega), hx], by rw [Heap.grow_size]; exact Nat.lt_succ_of_lt hklt, ?_⟩
      by_cases hbk : rk.blk = rm.blk
      · rcases h.apart k r rk rm x row hk hm hx hrow hbk with ⟨hg, hpos⟩ | ⟨_, hr⟩
        case inr => rw [hro] at hr; cases hr
        have hxe : x.exact = false := by
          cases hxe : x.exact with
          | false => rfl
          | true => have h2 := hfk.grpE hxe; have h1 := hf.grpL hex; omega
        have hlx : x.loop = none := hfk.cells (by rw [hbk]; exact hb)
        obtain ⟨cs', fz', hb', h1', h2', h3', h4'⟩ := hfk.blkC hlx
        rw [hbk, hb] at hb'
        simp only [Option.some.injEq, Obj.cells.injEq] at hb'
        obtain ⟨rfl, hel, rfl⟩ := hb'
        refine ⟨hfk.ex, hfk.es, hfk.ro, hfk.grpE, hfk.grpL, hfk.grpB, hfk.roE, hfk.own, ?_⟩
        refine .inl ⟨hlx, (splice cs.toList (rm.sh + off + n) vs').toArray, (0, 0), by rw [hbk, hnew, hel], fun _ => rfl, by simp [splice_length hcs, h2'], h3', fun hal' j v hj => ?_⟩
        obtain ⟨ha, hend⟩ := grow_alive hklt hx hal'
        have hend := hend hxe hg
        have hjl := (List.getElem?_eq_some_iff.1 hj).1
        obtain ⟨v', e, hv⟩ := h4' ha j v hj
        refine ⟨v', ?_, hv.mono hmle⟩
        simp only [List.getElem?_toArray]
        rw [splice_get hcs, if_pos (by omega)]
        simpa using e
      · exact hfk.later hmle (setRow_other _ _ _ _ hbk) fun hal' => (grow_alive hklt hx hal').1
  · intro k k' rk rk' x x' hk hk' hx hx' hbk
    rw [grow_get] at hx hx'
    rcases Map.put_inv hk with ⟨rfl, rfl⟩ | ⟨hne, hk⟩ <;> rcases Map.put_inv hk' with ⟨rfl, rfl⟩ | ⟨hne', hk'⟩
    · rw [if_pos rfl] at hx hx'; cases hx; cases hx'; exact .inl ⟨rfl, rfl⟩
    · rw [if_pos rfl] at hx; cases hx
      rw [if_neg hne'] at hx'
      rcases h.apart r k' rm rk' row x' hm hk' hrow hx' hbk with ⟨h1, h2⟩ | ⟨h1, _⟩
      · exact .inl ⟨h1, by simp only; omega⟩
      · rw [hro] at h1; cases h1
    · rw [if_pos rfl] at hx'; cases hx'
      rw [if_neg hne] at hx
      rcases h.apart k r rk rm x row hk hm hx hrow hbk with ⟨h1, h2⟩ | ⟨_, h1⟩
      · exact .inl ⟨h1, by simp only; omega⟩
      · rw [hro] at h1; cases h1
    · rw [if_neg hne] at hx; rw [if_neg hne'] at hx'
      exact h.apart k k' rk rk' x x' hk hk' hx hx' hbk
  · exact ⟨rfl, rfl, rfl, by simp, fun k hk => setRow_other _ _ _ _ (by have := hf.own hro; omega)⟩
  · intro b hb hall
    by_cases hbb : b = rm.blk
    · rcases hall r rm hm hbb.symm with hh | hh
      · rw [hf.ro, hro] at hh; cases hh
      · have := (grow_low (H := H) (r := r) (row := row) (off := off) (n := n) (vs := vs)).1; omega
    · exact setRow_other _ _ _ _ hbb
  · intro k rk hk
    rcases Map.put_inv hk with ⟨rfl, rfl⟩ | ⟨hne, hk⟩
    · exact .inr ⟨Nat.le_refl _, rfl, .inr ⟨r, rm, hm, rfl, by rw [hf.ro, hro], grow_low.1⟩⟩
    · exact .inl hk

/-- Into a new block. -/
theorem Ext.growB {n0 m H w} (h : HR n0 m H w) {r : Nat} {rm : RowMap} {row : Row} (hm : m r = some rm) (hrow : H.rows.get r = some row) (hex : row.exact = false) (hlp : row.loop = none)
    (off n : Nat) (vs l' spare : List Value) (hl : VRs m ((row.cells.drop off).take n ++ vs) l') :
    Ext n0 m H w (m.put H.size ⟨w.heap.size, 0, (l' ++ spare).length, rm.esz, false, false⟩) (H.grow r row off n vs) (w.drew.alloc (.cells (l' ++ spare).toArray row.elem)) := by
  have hf := h.rowOf hm hrow
  have hro : row.ro = false := by
    cases e : row.ro with
    | false => rfl
    | true => rw [hf.roE e] at hex; cases hex
  have hnew : (w.drew.alloc (.cells (l' ++ spare).toArray row.elem)).heap[w.heap.size]? = some (.cells (l' ++ spare).toArray row.elem) :=
    heap_alloc_new w.drew (.cells (l' ++ spare).toArray row.elem)
  have hold : ∀ b, b < w.heap.size → (w.drew.alloc (.cells (l' ++ spare).toArray row.elem)).heap[b]? = w.heap[b]? := fun b hb =>
    heap_alloc_old w.drew (.cells (l' ++ spare).toArray row.elem) b hb
  have hmle := Map.le_put (rm := ⟨w.heap.size, 0, (l' ++ spare).length, rm.esz, false, false⟩) h.none
  have hlt := h.lt hm
  refine ⟨hmle, ⟨?_, ?_, ?_, ?inv⟩, (Below.refl _ _).drew.alloc h.base _, fun b hb _ => hold b hb, ?_, fun b L hb => ⟨L, by rw [hold b (Array.getElem?_eq_some_iff.1 hb).1]; exact hb⟩⟩
  case inv =>
    intro k x hx
    rw [grow_get] at hx
    have hsz : ∀ g, g < 2 * H.size → g < 2 * (H.grow r row off n vs).size := fun g hg => by rw [Heap.grow_size]; omega
    split at hx
    · rename_i hk; cases hx; exact ⟨(h.inv r row hrow).1.imp id (hsz _), by rw [Heap.grow_size]; omega⟩
    · exact ⟨(h.inv k x hx).1.imp id (hsz _), by have := (h.inv k x hx).2; rw [Heap.grow_size]; omega⟩
  · have := h.base; simp; omega
  · intro k rk hk
    rcases Map.put_inv hk with ⟨rfl, rfl⟩ | ⟨hne, hk⟩
    · refine ⟨{ row with cells := (row.cells.drop off).take n ++ vs, gpos := row.gpos + off }, by rw [grow_get, if_pos rfl], by rw [Heap.grow_size]; exact Nat.lt_succ_self _, ?_⟩
      refine ⟨by simp [hex], hf.es, hro.symm, by intro e; simp [hex] at e, fun _ => hf.grpL hex, by have := hf.grpB; simp only; omega, fun e => by simp [hro] at e, fun _ => h.base, ?_⟩
      refine .inl ⟨hlp, _, _, hnew, fun _ => rfl, by simp, by simp only [hl.length]; simp, fun _ j v hj => ?_⟩
      obtain ⟨v', e, hv⟩ := hl.get j v hj
      have hjl := (List.getElem?_eq_some_iff.1 e).1
      exact ⟨v', by simpa [List.getElem?_append_left hjl] using e, hv.mono hmle⟩
    · obtain ⟨x, hx, hklt, hfk⟩ := h.row k rk hk
      exact ⟨x, by rw [grow_get, if_neg (by omega), hx], by rw [Heap.grow_size]; exact Nat.lt_succ_of_lt hklt, hfk.later hmle (hold _ hfk.lt) fun hal' => (grow_alive hklt hx hal').1⟩
  · intro k k' rk rk' x x' hk hk' hx hx' hbk
    rw [grow_get] at hx hx'
    rcases Map.put_inv hk with ⟨rfl, rfl⟩ | ⟨hne, hk⟩ <;> rcases Map.put_inv hk' with ⟨rfl, rfl⟩ | ⟨hne', hk'⟩
    · rw [if_pos rfl] at hx hx'; cases hx; cases hx'; exact .inl ⟨rfl, rfl⟩
    · obtain ⟨y, hy, _, hfy⟩ := h.row k' rk' hk'
      have := hfy.lt; simp at hbk; omega
    · obtain ⟨y, hy, _, hfy⟩ := h.row k rk hk
      have := hfy.lt; simp at hbk; omega
    · rw [if_neg hne] at hx; rw [if_neg hne'] at hx'
      exact h.apart k k' rk rk' x x' hk hk' hx hx' hbk
  · intro k rk hk
    rcases Map.put_inv hk with ⟨rfl, rfl⟩ | ⟨hne, hk⟩
    · exact .inr ⟨Nat.le_refl _, rfl, .inl (Nat.le_refl _)⟩
    · exact .inl hk

end Go.AM
