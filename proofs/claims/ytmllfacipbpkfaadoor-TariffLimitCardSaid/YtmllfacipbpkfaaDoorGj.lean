/- A general tool, which names no program: rows of its own of a canonical machine for the model's own code, proved: what it comes to is what every run comes to. -/
import Derived.Test.YtmllfacipbpkfaaDoorGg
set_option linter.unusedVariables false
set_option linter.unusedSimpArgs false
set_option linter.unusedSectionVars false

namespace Go.AM

/-! A row of one's own: made by 'make', 'alloc' or a literal, and written to. -/
structure Own (H : Heap) (r : Nat) (e : TypeId) (cells : List Value) : Prop where
  get : H.rows.get r = some { cells := cells, elem := e, exact := true, ro := false, esz := 0, grp := 2 * r, gpos := 0 }
  lt : r < H.size

theorem Own.new (H : Heap) (l : List Value) (e : TypeId) : Own (H.newExact l e) H.size e l where
  get := by unfold Heap.newExact; rw [Heap.add_get, if_pos rfl]
  lt := by rw [size_new]; omega

theorem Own.keep {H H' : Heap} {r : Nat} {e : TypeId} {cells : List Value} (h : Own H r e cells) (hk : Keep H H') : Own H' r e cells where
  get := (hk.row r _ h.lt h.get).1
  lt := Nat.lt_of_lt_of_le h.lt hk.size

theorem Own.read {H : Heap} {r : Nat} {e : TypeId} {cells : List Value} (h : Own H r e cells) {o n : Nat} (hn : o + n ≤ cells.length) : H.read r o n = some ((cells.drop o).take n) := by
  unfold Heap.read
  rw [h.get]
  simp only []
  rw [show H.alive r { cells := cells, elem := e, exact := true, ro := false, esz := 0, grp := 2 * r, gpos := 0 } = true from rfl, show Nat.ble (o + n) cells.length = true from Nat.ble_eq_true_of_le hn]
  rfl

/-- A store into it. -/
theorem Own.store {P : Program} {H : Heap} {r : Nat} {e t : TypeId} {cells : List Value} (h : Own H r e cells) {i : TypeInfo} (hi : P.info? t = some i) {v : Value} {new : List Value} (hv : v.cells.toList = new) (hs : i.size = new.length) (h1 : ones new = true)
    {o : Nat} (ho : o + new.length ≤ cells.length) :
    ∃ H2, aStore P H t (.pointer (some ⟨r, o, none⟩)) v = some H2 ∧ Own H2 r e (splice cells o new) ∧ H2.size = H.size ∧ (∀ r' e' c', r' ≠ r → Own H r' e' c' → Own H2 r' e' c') ∧ (∀ H0, Keep H0 H → H0.size ≤ r → Keep H0 H2) := by
  subst hv
  refine ⟨H.store r { cells := cells, elem := e, exact := true, ro := false, esz := 0, grp := 2 * r, gpos := 0 } o v.cells.toList, ?_, ⟨?_, ?_⟩, ?_, ?_, ?_⟩
  · unfold aStore
    rw [hi]
    simp only [h.get]
    rw [show H.alive r { cells := cells, elem := e, exact := true, ro := false, esz := 0, grp := 2 * r, gpos := 0 } = true from rfl]
    rw [Trie.beq_tt hs.symm, h1, show Nat.ble (o + v.cells.toList.length) cells.length = true from Nat.ble_eq_true_of_le ho]
    rfl
  · rw [Heap.store_get, if_pos rfl]
  · rw [Heap.store_size]; exact h.lt
  · rw [Heap.store_size]
  · intro r' e' c' hr hO
    exact ⟨by rw [Heap.store_get, if_neg hr]; exact hO.get, by rw [Heap.store_size]; exact hO.lt⟩
  · intro H0 hk hr
    refine ⟨by rw [Heap.store_size]; exact hk.size, fun hl => ?_, ?_, fun r' row hr' hrow => ?_⟩
    · rw [Heap.store_size, Heap.store_low]
      simp only [cond_true]
      exact Nat.le_trans (Nat.min_le_right _ _) (hk.low hl)
    · rw [Heap.store_low]
      simp only [cond_true]
      have := hk.lo
      show min H0.low H0.size ≤ min r H.low
      omega
    · obtain ⟨k1, k2⟩ := hk.row r' row hr' hrow
      refine ⟨by rw [Heap.store_get, if_neg (by omega)]; exact k1, ?_⟩
      rw [← k2]
      unfold Heap.alive
      rw [Heap.store_grps]
      rfl

theorem Own.addr {H : Heap} {r : Nat} {e : TypeId} {cells : List Value} (h : Own H r e cells) {l : Nat} : Own (H.relow l) r e cells := ⟨h.get, h.lt⟩

/-- What 'make' makes. -/
theorem makeSlice_eq {P : Program} {t e : TypeId} {inf : TypeInfo} {z : Value} (ht : P.underlying t = some (.slice e)) (hi : P.info? e = some inf) (hz : inf.zero = some z) (hp : plain z = true) (hl : z.cells.toList.length = inf.size) (hb : inf.bytes ≤ 65536) (H : Heap) (k k' : IntKind) {l : Int} (h0 : 0 ≤ l) (h1 : l ≤ 268435456) :
    aMakeSlice P H t (.int k l) (.int k' l) = some (.slice (some ⟨H.size, 0, none⟩) l.toNat l.toNat, H.newExact (zeroRow z.cells.toList (l.toNat * inf.size)) e) := by
  unfold aMakeSlice
  rw [ht]
  simp only [hi, hz]
  rw [if_pos ⟨h0, Int.le_refl _⟩, hp, Trie.beq_tt hl, show small l.toNat inf.bytes = true by unfold small; rw [Nat.ble_eq_true_of_le (show l.toNat ≤ 268435456 by omega), Nat.ble_eq_true_of_le hb]; rfl]
  rfl
theorem splice_at {l vs : List Value} {off : Nat} (h : off + vs.length ≤ l.length) : ((splice l off vs).drop off).take vs.length = vs := by
  unfold splice
  rw [List.drop_append_of_le_length (by rw [List.length_take]; omega), List.drop_of_length_le (by rw [List.length_take]; omega), List.nil_append, List.take_left]
theorem splice_before {l vs : List Value} {off o n : Nat} (h : off + vs.length ≤ l.length) (ho : o + n ≤ off) : ((splice l off vs).drop o).take n = (l.drop o).take n := by
  unfold splice
  rw [List.drop_append_of_le_length (by rw [List.length_take]; omega), List.take_append_of_le_length (by rw [List.length_drop, List.length_take]; omega), List.drop_take, List.take_take, Nat.min_eq_left (by omega)]
theorem splice_behind {l vs : List Value} {off o n : Nat} (h : off + vs.length ≤ l.length) (ho : off + vs.length ≤ o) : ((splice l off vs).drop o).take n = (l.drop o).take n := by
  congr 1
  apply List.ext_getElem?
  intro i
  simp only [List.getElem?_drop]
  unfold splice
  rw [List.getElem?_append_right (by rw [List.length_take]; omega), List.getElem?_append_right (by rw [List.length_take]; omega), List.getElem?_drop]
  congr 1
  rw [List.length_take]; omega
end Go.AM
