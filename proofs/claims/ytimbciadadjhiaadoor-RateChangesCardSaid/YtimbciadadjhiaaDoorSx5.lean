/- A general tool, which names no program: what must be shown of a piece of code for symbolic values, on the canonical machine; each rule proved. -/
import Derived.Test.YtimbciadadjhiaaDoorSx4
set_option linter.unusedVariables false
set_option linter.unusedSimpArgs false
set_option linter.unusedSectionVars false
namespace Go.AM

variable {P : Program} {S : Sys} {N : Nat}

/-- What is known is of one function alone. -/
def Only (S : Sys) (f0 : FuncId) : Prop := ∀ f args H, S.O f args H → f = f0
theorem Only.no {S : Sys} {f0 f : FuncId} (h : Only S f0) (hn : Nat.beq f f0 = false) (args : List Value) (H : Heap) : ¬ S.O f args H := fun hc => by
  rw [h f args H hc] at hn; simp at hn

/-! The ways part. -/
theorem sxGuard_tsp {p : Prop} [Decidable p] {X Y : Prop} (h1 : p → X) (h2 : ¬ p → Y) : sxGuard true (.bool (decide p)) X Y := by rw [sxGuard_td]; exact ⟨h1, h2⟩
theorem sxGuard_fsp {p : Prop} [Decidable p] {X Y : Prop} (h1 : ¬ p → X) (h2 : p → Y) : sxGuard false (.bool (decide p)) X Y := by rw [sxGuard_fd]; exact ⟨h2, h1⟩
theorem sxIf_sp {p : Prop} [Decidable p] {X Y : Prop} (h1 : p → X) (h2 : ¬ p → Y) : sxIf (.bool (decide p)) X Y := by rw [sxIf_d]; exact ⟨h1, h2⟩

/-! What a call leaves as it was. -/

structure Keep (H H' : Heap) : Prop where
  size : H.size ≤ H'.size
  low : H.low ≤ H.size → H'.low ≤ H'.size
  lo : min H.low H.size ≤ H'.low
  row : ∀ r row, r < H.size → H.rows.get r = some row → H'.rows.get r = some row ∧ H'.alive r row = H.alive r row

theorem Keep.refl (H : Heap) : Keep H H := ⟨Nat.le_refl _, id, Nat.min_le_left _ _, fun _ _ _ h => ⟨h, rfl⟩⟩
theorem Keep.trans {A B C : Heap} (h : Keep A B) (k : Keep B C) : Keep A C where
  size := Nat.le_trans h.size k.size
  low := fun x => k.low (h.low x)
  lo := by have := h.lo; have := k.lo; have := h.size; omega
  row := fun r row hr hrow => by
    obtain ⟨h1, h2⟩ := h.row r row hr hrow
    obtain ⟨k1, k2⟩ := k.row r row (Nat.lt_of_lt_of_le hr h.size) h1
    exact ⟨k1, k2.trans h2⟩

theorem Keep.newExact (H : Heap) (l : List Value) (e : TypeId) : Keep H (H.newExact l e) where
  size := by unfold Heap.newExact; rw [Heap.add_size]; omega
  low := fun h => by unfold Heap.newExact; rw [Heap.add_size, Heap.add_low]; omega
  lo := by unfold Heap.newExact; rw [Heap.add_low]; omega
  row := fun r row hr hrow => by
    unfold Heap.newExact
    refine ⟨by rw [Heap.add_get, if_neg (by omega)]; exact hrow, ?_⟩
    unfold Heap.alive; rw [Heap.add_grps]; rfl

theorem Keep.relow {H : Heap} (h : H.low ≤ H.size) : (H.relow (Nat.min H.low H.size)) = H := by
  have : Nat.min H.low H.size = H.low := Nat.min_eq_left h
  rw [this]; rfl

theorem Keep.read {H H' : Heap} (h : Keep H H') {r o n : Nat} {l : List Value} (hr : r < H.size) (e : H.read r o n = some l) : H'.read r o n = some l := by
  obtain ⟨row, h1, h2, h3, h4⟩ := read_inv e
  obtain ⟨k1, k2⟩ := h.row r row hr h1
  unfold Heap.read at e ⊢
  rw [h1] at e
  rw [k1]
  simp only [k2] at e ⊢
  exact e

theorem read_relow (H : Heap) (l r o n : Nat) : (H.relow l).read r o n = H.read r o n := rfl
theorem size_relow (H : Heap) (l : Nat) : (H.relow l).size = H.size := rfl
theorem low_relow (H : Heap) (l : Nat) : (H.relow l).low = l := rfl
theorem relow_relow (H : Heap) (l l' : Nat) : (H.relow l).relow l' = H.relow l' := rfl
theorem aLoad_relow (H : Heap) (l : Nat) (t : TypeId) (v : Value) : aLoad P (H.relow l) t v = aLoad P H t v := by
  unfold aLoad Heap.read Heap.alive; rfl

theorem read_new (H : Heap) (l : List Value) (e : TypeId) (o n : Nat) : (H.newExact l e).read H.size o n = if o + n ≤ l.length then some ((l.drop o).take n) else none := by
  unfold Heap.newExact Heap.read
  rw [Heap.add_get, if_pos rfl]
  simp only []
  rw [show (H.add _).alive H.size { cells := l, elem := e, exact := true, ro := false, esz := 0, grp := 2 * H.size, gpos := 0 } = true from rfl]
  by_cases h : o + n ≤ l.length
  · rw [if_pos h, show Nat.ble (o + n) l.length = true from Nat.ble_eq_true_of_le h]; rfl
  · rw [if_neg h]
    cases hb : Nat.ble (o + n) l.length with
    | true => exact absurd (Nat.le_of_ble_eq_true hb) h
    | false => rfl
theorem size_new (H : Heap) (l : List Value) (e : TypeId) : (H.newExact l e).size = H.size + 1 := by unfold Heap.newExact; rw [Heap.add_size]

/-- Cell by cell, or some at once. -/
theorem read_some {H : Heap} {r : Nat} : ∀ {n o : Nat} {c : Nat → Value}, 0 < n → (∀ j, j < n → H.read r (o + j) 1 = some [c j]) → H.read r o n = some ((List.range n).map c) := by
  intro n o c h0 h
  obtain ⟨row, h1, h2, h3, h4⟩ := read_inv (h 0 h0)
  have hl := h (n - 1) (by omega)
  obtain ⟨row', k1, _, k3, _⟩ := read_inv hl
  rw [h1] at k1; cases k1
  unfold Heap.read
  rw [h1]
  simp only [h2, Bool.true_and]
  rw [show Nat.ble (o + n) row.cells.length = true from Nat.ble_eq_true_of_le (by omega), cond_true]
  congr 1
  apply List.ext_getElem?
  intro j
  by_cases hj : j < n
  · obtain ⟨row', k1, _, k3, k4⟩ := read_inv (h j hj)
    rw [h1] at k1; cases k1
    have k5 := congrArg (fun l => l[0]?) k4
    simp only [List.getElem?_cons_zero, List.getElem?_take, List.getElem?_drop, Nat.zero_lt_one, if_true, Nat.add_zero] at k5
    simp only [List.getElem?_take, hj, if_true, List.getElem?_drop, List.getElem?_map, List.getElem?_range hj, Option.map_some]
    exact k5.symm
  · simp only [List.getElem?_take, hj, if_false, List.getElem?_map]
    rw [List.getElem?_eq_none (by simp; omega)]; rfl

/-- A store to a row that is new. -/
theorem store_new {t e : TypeId} {i : TypeInfo} (hi : P.info? t = some i) (H : Heap) {l cells : List Value} (hl : l.length = cells.length) (hs : i.size = cells.length) (h1 : ones cells = true) :
    ∃ H2, aStore P (H.newExact l e) t (.pointer (some ⟨H.size, 0, none⟩)) (.agg ⟨cells⟩) = some H2 ∧ Keep H H2 ∧ H2.size = H.size + 1 ∧
      ∀ o n, o + n ≤ cells.length → H2.read H.size o n = some ((cells.drop o).take n) := by
  have hget : (H.newExact l e).rows.get H.size = some { cells := l, elem := e, exact := true, ro := false, esz := 0, grp := 2 * H.size, gpos := 0 } := by
    unfold Heap.newExact; rw [Heap.add_get, if_pos rfl]
  have hsp : splice l 0 cells = cells := by
    unfold splice
    simp [hl]
  refine ⟨(H.newExact l e).store H.size { cells := l, elem := e, exact := true, ro := false, esz := 0, grp := 2 * H.size, gpos := 0 } 0 cells, ?_, ⟨?_, ?_, ?_, ?_⟩, ?_, ?_⟩
  · unfold aStore
    rw [hi]
    simp only [hget, Value.cells]
    rw [show (H.newExact l e).alive H.size { cells := l, elem := e, exact := true, ro := false, esz := 0, grp := 2 * H.size, gpos := 0 } = true from rfl]
    rw [Trie.beq_tt hs.symm, h1, show Nat.ble (0 + cells.length) l.length = true from Nat.ble_eq_true_of_le (by omega)]
    rfl
  · rw [Heap.store_size, size_new]; omega
  · intro h
    rw [Heap.store_size, size_new, Heap.store_eq]
    simp only [cond_true]
    have := Nat.min_le_left H.size (H.newExact l e).low
    exact Nat.le_trans this (by omega)
  · rw [Heap.store_eq]
    simp only [cond_true]
    have : (H.newExact l e).low = H.low := by unfold Heap.newExact; rw [Heap.add_low]
    rw [this]
    show min H.low H.size ≤ min H.size H.low
    omega
  · intro r row hr hrow
    refine ⟨by rw [Heap.store_get, if_neg (by omega)]; exact ((Keep.newExact H l e).row r row hr hrow).1, ?_⟩
    have := ((Keep.newExact H l e).row r row hr hrow).2
    rw [← this]
    unfold Heap.alive
    rw [Heap.store_eq]
    rfl
  · rw [Heap.store_size, size_new]
  · intro o n hon
    unfold Heap.read
    rw [Heap.store_get, if_pos rfl]
    simp only [hsp]
    rw [show ((H.newExact l e).store H.size { cells := l, elem := e, exact := true, ro := false, esz := 0, grp := 2 * H.size, gpos := 0 } 0 cells).alive H.size { cells := cells, elem := e, exact := true, ro := false, esz := 0, grp := 2 * H.size, gpos := 0 } = true from rfl]
    rw [show Nat.ble (o + n) cells.length = true from Nat.ble_eq_true_of_le hon]
    rfl

/-- A slice that came in: its elements lie at 'r', from 'o' on; cell j holds 'c j'. -/
structure Sl (P : Program) (t : TypeId) (sz : Nat) (H : Heap) (v : Value) (n : Nat) (r o : Nat) (c : Nat → Value) : Prop where
  isv : ∃ a cap, v = .slice a n cap
  ix : ∀ k i, 0 ≤ i → i < (n : Int) → aIndexAt P t v (.int k i) = some (.pointer (some ⟨r, o + i.toNat * sz, none⟩))
  rd : ∀ j, j < n * sz → H.read r (o + j) 1 = some [c j]
  lt : 0 < n → r < H.size

theorem Sl.keep {t : TypeId} {sz : Nat} {H H' : Heap} {v : Value} {n r o : Nat} {c : Nat → Value} (h : Sl P t sz H v n r o c) (hk : Keep H H') : Sl P t sz H' v n r o c where
  isv := h.isv
  ix := h.ix
  rd := fun j hj => hk.read (h.lt (by rcases Nat.eq_zero_or_pos n with h0 | h0; (subst h0; simp at hj); exact h0)) (h.rd j hj)
  lt := fun h0 => Nat.lt_of_lt_of_le (h.lt h0) hk.size

end Go.AM
