/- A general tool, which names no program: rows of its own of a canonical machine for the model's own code, proved: what it comes to is what every run comes to. -/
import Derived.Test.YtnbhjbelgmkpeaaDoorGg
set_option linter.unusedVariables false
set_option linter.unusedSimpArgs false
set_option linter.unusedSectionVars false

namespace Go.AM

/-! A row of one's own: made by 'make', 'alloc' or a literal, and written to. -/
structure Own (H : Heap) (r : Nat) (e : TypeId) (cells : List Value) : Prop where
  get : H.rows.get r = some { cells := cells, elem := e, exact := true, ro := false, esz := 0, grp := 2 * r, gpos := 0 }
  lt : r < H.size

theorem Own.new (H : Heap) (l : List Value) (e : TypeId) : Own (H.newExact l e) H.size e l where
  get := by unfold Heap.newExact; rw [Heap.add_get, if_pos rfl]
  lt := by rw [size_new]; omega

theorem Own.keep {H H' : Heap} {r : Nat} {e : TypeId} {cells : List Value} (h : Own H r e cells) (hk : Keep H H') : Own H' r e cells where
  get := (hk.row r _ h.lt h.get).1
  lt := Nat.lt_of_lt_of_le h.lt hk.size

theorem Own.read {H : Heap} {r : Nat} {e : TypeId} {cells : List Value} (h : Own H r e cells) {o n : Nat} (hn : o + n ≤ cells.length) : H.read r o n = some ((cells.drop o).take n) := by
  unfold Heap.read
  rw [h.get]
  simp only []
  rw [show H.alive r { cells := cells, elem := e, exact := true, ro := false, esz := 0, grp := 2 * r, gpos := 0 } = true from rfl, show Nat.ble (o + n) cells.length = true from Nat.ble_eq_true_of_le hn]
  rfl

/-- A store into it. -/
theorem Own.store {P : Program} {H : Heap} {r : Nat} {e t : TypeId} {cells : List Value} (h : Own H r e cells) {i : TypeInfo} (hi : P.info? t = some i) {v : Value} {new : List Value} (hv : v.cells.toList = new) (hs : i.size = new.length) (h1 : ones new = true)
    {o : Nat} (ho : o + new.length ≤ cells.length) :
    ∃ H2, aStore P H t (.pointer (some ⟨r, o, none⟩)) v = some H2 ∧ Own H2 r e (splice cells o new) ∧ H2.size = H.size ∧ (∀ r' e' c', r' ≠ r → Own H r' e' c' → Own H2 r' e' c') ∧ (∀ H0, Keep H0 H → H0.size ≤ r → Keep H0 H2) := by
  subst hv
  refine ⟨H.store r { cells := cells, elem := e, exact := true, ro := false, esz := 0, grp := 2 * r, gpos := 0 } o v.cells.toList, ?_, ⟨?_, ?_⟩, ?_, ?_, ?_⟩
  · unfold aStore
    rw [hi]
    simp only [h.get]
    rw [show H.alive r { cells := cells, elem := e, exact := true, ro := false, esz := 0, grp := 2 * r, gpos := 0 } = true from rfl]
    rw [Trie.beq_tt hs.symm, h1, show Nat.ble (o + v.cells.toList.length) cells.length = true from Nat.ble_eq_true_of_le ho]
    rfl
  · rw [Heap.store_get, if_pos rfl]
  · rw [Heap.store_size]; exact h.lt
  · rw [Heap.store_size]
  · intro r' e' c' hr hO
    exact ⟨by rw [Heap.store_get, if_neg hr]; exact hO.get, by rw [Heap.store_size]; exact hO.lt⟩
  · intro H0 hk hr
    refine ⟨by rw [Heap.store_size]; exact hk.size, fun hl => ?_, ?_, fun r' row hr' hrow => ?_, ?_, fun g hg => ?_⟩
    · rw [Heap.store_size, Heap.store_low]
      simp only [cond_true]
      exact Nat.le_trans (Nat.min_le_right _ _) (hk.low hl)
    · rw [Heap.store_low]
      simp only [cond_true]
      have := hk.lo
      show min H0.low H0.size ≤ min r H.low
      omega
    · obtain ⟨k1, k2⟩ := hk.row r' row hr' hrow
      refine ⟨by rw [Heap.store_get, if_neg (by omega)]; exact k1, ?_⟩
      rw [← k2]
      unfold Heap.alive
      rw [Heap.store_grps]
      rfl
    · exact fun g => (hk.grp g).store h.get _ _
    · rw [Heap.store_grps]; exact hk.mem _ hg

/-- A store into it leaves the other rows as they are. -/
theorem Own.store_other {P : Program} {H H2 : Heap} {r : Nat} {e t : TypeId} {cells : List Value} (h : Own H r e cells) {o : Nat} {v : Value} (hs : aStore P H t (.pointer (some ⟨r, o, none⟩)) v = some H2) {r' o' n : Nat} {l : List Value} (hr : r' ≠ r)
    (hrd : H.read r' o' n = some l) : H2.read r' o' n = some l := by
  unfold aStore at hs
  simp only [h.get] at hs
  split at hs
  · rename_i i row hi hrow
    cases hrow
    obtain ⟨_, hs⟩ := cond_some (b := _) hs
    cases hs
    unfold Heap.read at hrd ⊢
    rw [Heap.store_get, if_neg hr]
    cases hx : H.rows.get r' with
    | none => rw [hx] at hrd; cases hrd
    | some x =>
      rw [hx] at hrd
      simp only [] at hrd ⊢
      have ha : (H.store r { cells := cells, elem := e, exact := true, ro := false, esz := 0, grp := 2 * r, gpos := 0 } o v.cells.toList).alive r' x = H.alive r' x := by
        unfold Heap.alive
        rw [Heap.store_grps]
        rfl
      rw [ha]; exact hrd
  · cases hs
theorem SlE.other {P : Program} {H H2 : Heap} {r : Nat} {e t : TypeId} {cells : List Value} (h : Own H r e cells) {o : Nat} {v : Value} (hs : aStore P H t (.pointer (some ⟨r, o, none⟩)) v = some H2) (hsz : H2.size = H.size)
    {k : IntKind} {w : List Int} {x : Value} {r' o' : Nat} (hx : SlI k H x w r' o') (hr : 0 < w.length → r' ≠ r) : SlI k H2 x w r' o' :=
  ⟨hx.isv, fun i hi => by
    obtain ⟨es, h1, h2⟩ := hx.rd i hi
    exact ⟨es, h.store_other hs (hr (by omega)) h1, h2⟩, fun h0 => by rw [hsz]; exact hx.lt h0, hx.ml⟩

theorem Own.addr {H : Heap} {r : Nat} {e : TypeId} {cells : List Value} (h : Own H r e cells) {l : Nat} : Own (H.relow l) r e cells := ⟨h.get, h.lt⟩

/-- What 'make' makes. -/
theorem makeSlice_eq {P : Program} {t e : TypeId} {inf : TypeInfo} {z : Value} (ht : P.underlying t = some (.slice e)) (hi : P.info? e = some inf) (hz : inf.zero = some z) (hp : plain z = true) (hl : z.cells.toList.length = inf.size) (hb : inf.bytes ≤ 65536) (H : Heap) (k k' : IntKind) {l : Int} (h0 : 0 ≤ l) (h1 : l ≤ 268435456) :
    aMakeSlice P H t (.int k l) (.int k' l) = some (.slice (some ⟨H.size, 0, none⟩) l.toNat l.toNat, H.newExact (zeroRow z.cells.toList (l.toNat * inf.size)) e) := by
  unfold aMakeSlice
  rw [ht]
  simp only [hi, hz]
  rw [if_pos ⟨h0, Int.le_refl _⟩, hp, Trie.beq_tt hl, show small l.toNat inf.bytes = true by unfold small; rw [Nat.ble_eq_true_of_le (show l.toNat ≤ 268435456 by omega), Nat.ble_eq_true_of_le hb]; rfl]
  rfl
theorem splice_at {l vs : List Value} {off : Nat} (h : off + vs.length ≤ l.length) : ((splice l off vs).drop off).take vs.length = vs := by
  unfold splice
  rw [List.drop_append_of_le_length (by rw [List.length_take]; omega), List.drop_of_length_le (by rw [List.length_take]; omega), List.nil_append, List.take_left]
theorem splice_before {l vs : List Value} {off o n : Nat} (h : off + vs.length ≤ l.length) (ho : o + n ≤ off) : ((splice l off vs).drop o).take n = (l.drop o).take n := by
  unfold splice
  rw [List.drop_append_of_le_length (by rw [List.length_take]; omega), List.take_append_of_le_length (by rw [List.length_drop, List.length_take]; omega), List.drop_take, List.take_take, Nat.min_eq_left (by omega)]
theorem splice_behind {l vs : List Value} {off o n : Nat} (h : off + vs.length ≤ l.length) (ho : off + vs.length ≤ o) : ((splice l off vs).drop o).take n = (l.drop o).take n := by
  congr 1
  apply List.ext_getElem?
  intro i
  simp only [List.getElem?_drop]
  unfold splice
  rw [List.getElem?_append_right (by rw [List.length_take]; omega), List.getElem?_append_right (by rw [List.length_take]; omega), List.getElem?_drop]
  congr 1
  rw [List.length_take]; omega
end Go.AM

namespace Go.AM

/-! A row that grows: made by 'append'. -/
structure App (H : Heap) (b r : Nat) (e : TypeId) (sz : Nat) (cells : List Value) : Prop where
  get : H.rows.get r = some { cells := cells, elem := e, exact := false, ro := false, esz := sz, grp := 2 * b + 1, gpos := 0 }
  mem : memN r ((H.grps.get (2 * b + 1)).getD []) = true
  lt : r < H.size
  ge : b ≤ r

theorem App.alive {H : Heap} {b r : Nat} {e : TypeId} {sz : Nat} {cells : List Value} (h : App H b r e sz cells) : H.alive r { cells := cells, elem := e, exact := false, ro := false, esz := sz, grp := 2 * b + 1, gpos := 0 } = true := h.mem

theorem App.keep {H H' : Heap} {b r : Nat} {e : TypeId} {sz : Nat} {cells : List Value} (h : App H b r e sz cells) (hk : Keep H H') : App H' b r e sz cells where
  get := (hk.row r _ h.lt h.get).1
  mem := ((hk.row r _ h.lt h.get).2.trans h.alive : _)
  lt := Nat.lt_of_lt_of_le h.lt hk.size
  ge := h.ge

theorem App.read {H : Heap} {b r : Nat} {e : TypeId} {sz : Nat} {cells : List Value} (h : App H b r e sz cells) {o n : Nat} (hn : o + n ≤ cells.length) : H.read r o n = some ((cells.drop o).take n) := by
  unfold Heap.read
  rw [h.get]
  simp only []
  rw [h.alive, show Nat.ble (o + n) cells.length = true from Nat.ble_eq_true_of_le hn]
  rfl

theorem Keep.addApp {H : Heap} (hg : Grp H) (row : Row) (hx : row.exact = false) (hgr : row.grp = 2 * H.size + 1) : Keep H (H.add row) where
  size := by rw [Heap.add_size]; omega
  low := fun h => by rw [Heap.add_size, Heap.add_low]; omega
  lo := by rw [Heap.add_low]; omega
  row := fun r x hr hrow => by
    refine ⟨by rw [Heap.add_get, if_neg (by omega)]; exact hrow, ?_⟩
    unfold Heap.alive
    rw [Heap.add_grps, hx, cond_false]
    cases x.loop with
    | some _ => rfl
    | none =>
      simp only []
      cases he : x.exact with
      | true => rfl
      | false =>
        have h1 := (hg.1 r x hrow).2
        rw [he] at h1
        have h2 : x.grp ≤ 2 * r + 1 := by rcases h1 with h1 | h1; cases h1; exact h1
        rw [Trie.get_put, if_neg (by omega)]
  grp := fun g => g.add (.inr (by omega))
  mem := fun g hlt => by rw [Heap.add_grps, hx, cond_false, Trie.get_put, if_neg (by omega)]

/-- Behind nil. -/
theorem App.first {P : Program} {H : Heap} (hg : Grp H) {e : TypeId} {sz : Nat} {cells : List Value} : Keep H (H.add { cells := cells, elem := e, exact := false, ro := false, esz := sz, grp := 2 * H.size + 1, gpos := 0 }) ∧
    App (H.add { cells := cells, elem := e, exact := false, ro := false, esz := sz, grp := 2 * H.size + 1, gpos := 0 }) H.size H.size e sz cells := by
  refine ⟨Keep.addApp hg _ rfl rfl, ⟨by rw [Heap.add_get, if_pos rfl], ?_, by rw [Heap.add_size]; omega, Nat.le_refl _⟩⟩
  rw [Heap.add_grps]
  simp only [cond_false]
  rw [Trie.get_put, if_pos rfl]
  exact memN_self _ _

theorem killL_ge {H : Heap} {e b : Nat} : ∀ {l : List Nat}, (∀ q, memN q l = true → b ≤ q) → ∀ {a : Nat}, b ≤ a → b ≤ minL a (killL H e l)
  | [], _, _, ha => ha
  | k :: l, h, a, ha => by
    have hl : ∀ q, memN q l = true → b ≤ q := fun q hq => h q (by unfold memN; cases Nat.beq k q <;> simp [hq])
    unfold killL
    cases Nat.ble (H.endOf k) e with
    | true => exact killL_ge hl ha
    | false =>
      have h1 := killL_ge (H := H) (e := e) hl ha
      have h2 := h k (memN_self _ _)
      show b ≤ Nat.min k (minL a (killL H e l))
      exact Nat.le_min.2 ⟨h2, h1⟩

/-- Behind what is there. -/
theorem App.more {H : Heap} {b r : Nat} {e : TypeId} {sz : Nat} {cells new : List Value} (h : App H b r e sz cells) (hg : Grp H) : ∃ H2, H.grow r { cells := cells, elem := e, exact := false, ro := false, esz := sz, grp := 2 * b + 1, gpos := 0 } 0 cells.length new = H2 ∧
    App H2 b H.size e sz (cells ++ new) ∧ H2.size = H.size + 1 ∧ (∀ H0, Grp H0 → Keep H0 H → H0.size ≤ b → Keep H0 H2) ∧ Grp H2 ∧ (∀ r' e' c', Own H r' e' c' → Own H2 r' e' c') ∧
    (∀ b' r' e' s' c', b' ≠ b → App H b' r' e' s' c' → App H2 b' r' e' s' c') := by
  refine ⟨_, rfl, ⟨?_, ?_, by rw [Heap.grow_size]; omega, Nat.le_trans h.ge (Nat.le_of_lt h.lt)⟩, Heap.grow_size _ _ _ _ _ _, ?_, ?_, ?_, ?_⟩
  · rw [Heap.grow_rows, Trie.get_put, if_pos rfl]
    simp
  · rw [Heap.grow_grps, Trie.get_put, if_pos rfl]
    exact memN_self _ _
  · intro H0 g0 hk hb
    refine ⟨by rw [Heap.grow_size]; exact Nat.le_succ_of_le hk.size, fun hl => ?_, ?_, fun r' row hr' hrow => ?_, fun _ => ?_, fun g hlt => ?_⟩
    · rw [Heap.grow_size]
      have h1 := (grow_low (H := H) (r := r) (row := { cells := cells, elem := e, exact := false, ro := false, esz := sz, grp := 2 * b + 1, gpos := 0 }) (off := 0) (n := cells.length) (vs := new)).1
      have := h.lt
      omega
    · rw [Heap.grow_lowIs]
      have hb1 : ∀ q, memN q ((H.grps.get (2 * b + 1)).getD []) = true → min H0.low H0.size ≤ q := fun q hq => by
        have := hg.2 _ _ hq; omega
      have hr : min H0.low H0.size ≤ Nat.min r H.low := Nat.le_min.2 ⟨by have := h.ge; omega, hk.lo⟩
      exact killL_ge hb1 hr
    · obtain ⟨k1, k2⟩ := hk.row r' row hr' hrow
      refine ⟨by rw [Heap.grow_rows, Trie.get_put, if_neg (by have := hk.size; omega)]; exact k1, ?_⟩
      rw [← k2]
      unfold Heap.alive
      cases row.loop with
      | some _ => rfl
      | none =>
        simp only []
        cases he : row.exact with
        | true => rfl
        | false =>
          have h1 := (g0.1 r' row hrow).2
          rw [he] at h1
          have h2 : row.grp ≤ 2 * r' + 1 := by rcases h1 with h1 | h1; cases h1; exact h1
          rw [Heap.grow_grps, Trie.get_put, if_neg (by show ¬ row.grp = 2 * b + 1; omega)]
    · exact (show Grp _ from by
        refine ⟨fun k x hx => ?_, fun k q hq => ?_⟩
        · rw [Heap.grow_rows, Trie.get_put] at hx
          rw [Heap.grow_size]
          split at hx
          · rename_i hk2
            cases hx
            exact ⟨by omega, .inr (by show 2 * b + 1 ≤ 2 * k + 1; have := h.ge; have := h.lt; omega)⟩
          · obtain ⟨h1, h2⟩ := hg.1 k x hx
            exact ⟨by omega, h2⟩
        · rw [Heap.grow_grps] at hq
          rcases memN_put hq with ⟨rfl, h1⟩ | h1
          · unfold memN at h1
            cases hqe : Nat.beq H.size q with
            | true =>
              have := Nat.eq_of_beq_eq_true hqe
              show 2 * b + 1 ≤ 2 * q + 1
              have := h.ge; have := h.lt; omega
            | false =>
              rw [hqe, cond_false] at h1
              exact hg.2 _ _ (memN_keepL h1).1
          · exact hg.2 k q h1)
    · rw [Heap.grow_grps, Trie.get_put, if_neg (by show ¬ g = 2 * b + 1; omega)]
      exact hk.mem g hlt
  · refine ⟨fun k x hx => ?_, fun k q hq => ?_⟩
    · rw [Heap.grow_rows, Trie.get_put] at hx
      rw [Heap.grow_size]
      split at hx
      · rename_i hk2
        cases hx
        exact ⟨by omega, .inr (by show 2 * b + 1 ≤ 2 * k + 1; have := h.ge; have := h.lt; omega)⟩
      · obtain ⟨h1, h2⟩ := hg.1 k x hx
        exact ⟨by omega, h2⟩
    · rw [Heap.grow_grps] at hq
      rcases memN_put hq with ⟨rfl, h1⟩ | h1
      · unfold memN at h1
        cases hqe : Nat.beq H.size q with
        | true =>
          have := Nat.eq_of_beq_eq_true hqe
          show 2 * b + 1 ≤ 2 * q + 1
          have := h.ge; have := h.lt; omega
        | false =>
          rw [hqe, cond_false] at h1
          exact hg.2 _ _ (memN_keepL h1).1
      · exact hg.2 k q h1
  · intro r' e' c' ho
    exact ⟨by rw [Heap.grow_rows, Trie.get_put, if_neg (by have := ho.lt; omega)]; exact ho.get, by rw [Heap.grow_size]; have := ho.lt; omega⟩
  · intro b' r' e' s' c' hb ho
    refine ⟨by rw [Heap.grow_rows, Trie.get_put, if_neg (by have := ho.lt; omega)]; exact ho.get, ?_, by rw [Heap.grow_size]; have := ho.lt; omega, ho.ge⟩
    rw [Heap.grow_grps, Trie.get_put, if_neg (by show ¬ 2 * b' + 1 = 2 * b + 1; omega)]
    exact ho.mem

/-! 'append' of some elements. -/
structure ElemOk (P : Program) (ts : Array TypeId) (e : TypeId) (sz : Nat) : Prop where
  ok : ∃ sT xT d inf z, ts[0]? = some sT ∧ ts[1]? = some xT ∧ P.underlying sT = some (.slice e) ∧ P.underlying xT = some d ∧ isIntD d = false ∧ P.info? e = some inf ∧ inf.zero = some z ∧ z.cells.toList.length = inf.size ∧ inf.size = sz ∧ inf.bytes ≤ 65536
  pos : 0 < sz

theorem append_nil {P : Program} {ts : Array TypeId} {e : TypeId} {sz : Nat} (h : ElemOk P ts e sz) {H : Heap} (hg : Grp H) {r o n c : Nat} {new : List Value} (hr : H.read r o (n * sz) = some new) (hn : 0 < n) (hs : n ≤ 268435456) :
    ∃ H2, aAppend P H ts (.slice none 0 0) (.slice (some ⟨r, o, none⟩) n c) = some (.slice (some ⟨H.size, 0, none⟩) n n, H2) ∧ App H2 H.size H.size e sz new ∧ Keep H H2 := by
  obtain ⟨⟨sT, xT, d, inf, z, h1, h2, h3, h4, h5, h6, h7, h8, h9, h10⟩, hp⟩ := h
  obtain ⟨hk, ha⟩ := App.first (P := P) hg (e := e) (sz := sz) (cells := new)
  refine ⟨_, ?_, ha, hk⟩
  have hnz : Nat.beq (n * sz) 0 = false := Trie.beq_ff (by have := Nat.mul_pos hn hp; omega)
  have hfirst : aFirst H sz n (.slice (some ⟨r, o, none⟩) n c) = some new := by
    show cond (Nat.beq (n * sz) 0) (some []) (H.read r o (n * sz)) = some new
    rw [hnz]; exact hr
  unfold aAppend
  rw [h1, h2]
  simp only [h3, h4, h5, h6, lenV, h7, h9]
  rw [hfirst]
  simp only []
  rw [Trie.beq_tt (h8.trans h9), show Nat.blt 0 sz = true from Nat.ble_eq_true_of_le hp, show small n inf.bytes = true by unfold small; rw [Nat.ble_eq_true_of_le hs, Nat.ble_eq_true_of_le h10]; rfl]
  rw [show Nat.beq n 0 = false from Trie.beq_ff (by omega)]
  rfl

theorem append_more {P : Program} {ts : Array TypeId} {e : TypeId} {sz : Nat} (h : ElemOk P ts e sz) {H : Heap} (hg : Grp H) {b r0 l : Nat} {cells : List Value} (ha : App H b r0 e sz cells) (hl : cells.length = l * sz) {r o n c : Nat} {new : List Value} (hr : H.read r o (n * sz) = some new) (hn : 0 < n)
    (hone : ones new = true) (hs : l + n ≤ 268435456) :
    ∃ H2, aAppend P H ts (.slice (some ⟨r0, 0, none⟩) l l) (.slice (some ⟨r, o, none⟩) n c) = some (.slice (some ⟨H.size, 0, none⟩) (l + n) (l + n), H2) ∧ App H2 b H.size e sz (cells ++ new) ∧ H2.size = H.size + 1 ∧ (∀ H0, Grp H0 → Keep H0 H → H0.size ≤ b → Keep H0 H2) ∧ Grp H2 ∧
      (∀ r' e' c', Own H r' e' c' → Own H2 r' e' c') ∧ (∀ b' r' e' s' c', b' ≠ b → App H b' r' e' s' c' → App H2 b' r' e' s' c') := by
  obtain ⟨⟨sT, xT, d, inf, z, h1, h2, h3, h4, h5, h6, h7, h8, h9, h10⟩, hp⟩ := h
  obtain ⟨H2, e2, k1, k2, k3, k4, k5, k6⟩ := ha.more (new := new) hg
  refine ⟨H2, ?_, k1, k2, k3, k4, k5, k6⟩
  have hnz : Nat.beq (n * sz) 0 = false := Trie.beq_ff (by have := Nat.mul_pos hn hp; omega)
  have hfirst : aFirst H sz n (.slice (some ⟨r, o, none⟩) n c) = some new := by
    show cond (Nat.beq (n * sz) 0) (some []) (H.read r o (n * sz)) = some new
    rw [hnz]; exact hr
  unfold aAppend
  rw [h1, h2]
  simp only [h3, h4, h5, h6, lenV, h7, h9]
  rw [hfirst]
  simp only []
  rw [Trie.beq_tt (h8.trans h9), show Nat.blt 0 sz = true from Nat.ble_eq_true_of_le hp, show small (l + n) inf.bytes = true by unfold small; rw [Nat.ble_eq_true_of_le hs, Nat.ble_eq_true_of_le h10]; rfl]
  simp only [Bool.and_self, cond_true]
  unfold aAppendSome
  rw [ha.get]
  simp only []
  rw [show Nat.beq n 0 = false from Trie.beq_ff (by omega), cond_false, show Nat.ble (l + n) l = false by
    cases hq : Nat.ble (l + n) l with
    | false => rfl
    | true => have := Nat.le_of_ble_eq_true hq; omega, Bool.false_and, cond_false, cond_false, ha.alive, Trie.beq_tt rfl, Trie.beq_tt rfl, hone, Nat.ble_eq_true_of_le (Nat.le_refl l), show Nat.ble (0 + l * sz) cells.length = true from Nat.ble_eq_true_of_le (by omega)]
  simp only [Bool.and_self, cond_true]
  rw [← hl, e2]
end Go.AM

namespace Go.AM

/-! A list of integers that is made by 'append', from nil on. -/
def Lst (e : TypeId) (k : IntKind) (H0 H : Heap) (v : Value) (w : List Int) : Prop :=
  Keep H0 H ∧ Grp H ∧ ((w = [] ∧ v = .slice none 0 0) ∨ ∃ b r, H0.size ≤ b ∧ App H b r e 1 (w.map fun z => .int k z) ∧ v = .slice (some ⟨r, 0, none⟩) w.length w.length ∧ 0 < w.length)

theorem Lst.nil {e : TypeId} {k : IntKind} {H0 H : Heap} (hk : Keep H0 H) (hg : Grp H) : Lst e k H0 H (.slice none 0 0) [] := ⟨hk, hg, .inl ⟨rfl, rfl⟩⟩

theorem Lst.push {P : Program} {ts : Array TypeId} {e : TypeId} {k : IntKind} {H0 H : Heap} {v : Value} {w : List Int} (hok : ElemOk P ts e 1) (g0 : Grp H0) (h : Lst e k H0 H v w) (hw : w.length < 268435456) (z : Int) :
    ∃ v2 H2, aAppend P (H.newExact [.int k z] e) ts v (.slice (some ⟨H.size, 0, none⟩) 1 1) = some (v2, H2) ∧ Lst e k H0 H2 v2 (w ++ [z]) := by
  obtain ⟨hk, hg, h⟩ := h
  have hkn := Keep.newExact H [.int k z] e
  have ho := Own.new H [.int k z] e
  have hr := ho.read (o := 0) (n := 1 * 1) (show 0 + 1 ≤ 1 by omega)
  rcases h with ⟨rfl, rfl⟩ | ⟨b, r, hb, ha, rfl, hpos⟩
  · obtain ⟨H2, h1, h2, h3⟩ := append_nil hok (hkn.grp hg) hr (by omega) (by omega)
    refine ⟨_, H2, h1, (hk.trans hkn).trans h3, h3.grp (hkn.grp hg), .inr ⟨_, _, Nat.le_trans hk.size hkn.size, h2, rfl, by simp⟩⟩
  · obtain ⟨H2, h1, h2, _, h3, h4, _⟩ := append_more hok (hkn.grp hg) (ha.keep hkn) (l := w.length) (by simp) hr (by omega) rfl (by omega)
    refine ⟨_, H2, h1, h3 H0 g0 (hk.trans hkn) hb, h4, .inr ⟨b, _, hb, by rw [List.map_append]; exact h2, by simp, by simp⟩⟩

theorem Lst.sl {e : TypeId} {k : IntKind} {H0 H : Heap} {v : Value} {w : List Int} (h : Lst e k H0 H v w) (hr : ∀ z ∈ w, k.min ≤ z ∧ z ≤ k.max) (hm : w.length ≤ Go.maxLen) : ∃ r, SlI k H v w r 0 := by
  obtain ⟨hk, hg, ⟨rfl, rfl⟩ | ⟨b, r, hb, ha, rfl, hpos⟩⟩ := h
  · exact ⟨0, ⟨none, 0, rfl, fun h => absurd h (Nat.lt_irrefl 0)⟩, fun i hi => absurd hi (Nat.not_lt_zero i), fun h => absurd h (Nat.lt_irrefl 0), hm⟩
  · refine ⟨r, ⟨_, _, rfl, fun _ => rfl⟩, fun i hi => ?_, fun _ => ha.lt, hm⟩
    have h1 := ha.read (o := 0 + i * 1) (n := 1) (by simp; omega)
    have h2 : ((w.map fun z => Value.int k z).drop (0 + i * 1)).take 1 = [.int k (w.getD i 0)] := by
      rw [show 0 + i * 1 = i by omega, List.drop_eq_getElem_cons (by simpa using hi)]
      simp [List.getD_eq_getElem?_getD, List.getElem?_eq_getElem hi]
    rw [h2] at h1
    exact ⟨_, h1, rfl, hr _ (getD_mem hi)⟩

theorem Lst.slF {e : TypeId} {k : IntKind} {H0 H : Heap} {v : Value} {w : List Int} (h : Lst e k H0 H v w) (hr : ∀ z ∈ w, k.min ≤ z ∧ z ≤ k.max) (hm : w.length ≤ Go.maxLen) : ∃ r, SlI k H v w r 0 ∧ (0 < w.length → H0.size ≤ r) := by
  obtain ⟨r, s⟩ := h.sl hr hm
  obtain ⟨hk, hg, ⟨rfl, rfl⟩ | ⟨b, r1, hb, ha, rfl, hpos⟩⟩ := h
  · exact ⟨r, s, fun h0 => absurd h0 (Nat.lt_irrefl 0)⟩
  · obtain ⟨a, c, e1, e2⟩ := s.isv
    cases e1
    have := e2 hpos
    cases this
    exact ⟨_, s, fun _ => Nat.le_trans hb ha.ge⟩
/-- Numbers in a row of one's own. -/
theorem map_at {k : IntKind} {w : List Int} {i : Nat} (hi : i < w.length) : ((w.map fun z => Value.int k z).drop i).take 1 = [.int k (w.getD i 0)] := by
  rw [List.drop_eq_getElem_cons (by simpa using hi)]
  simp [List.getD_eq_getElem?_getD, List.getElem?_eq_getElem hi]
theorem Own.sl {H : Heap} {r : Nat} {e : TypeId} {k : IntKind} {w : List Int} (h : Own H r e (w.map fun z => .int k z)) (hr : ∀ z ∈ w, k.min ≤ z ∧ z ≤ k.max) (hm : w.length ≤ Go.maxLen) (cap : Nat) : SlI k H (.slice (some ⟨r, 0, none⟩) w.length cap) w r 0 :=
  ⟨⟨_, _, rfl, fun _ => rfl⟩, fun i hi => by
    have h1 := h.read (o := 0 + i * 1) (n := 1) (by simp; omega)
    rw [show 0 + i * 1 = i by omega, map_at hi] at h1
    exact ⟨_, by rw [show 0 + i * (intE k).sz = i by show 0 + i * 1 = i; omega]; exact h1, rfl, hr _ (getD_mem hi)⟩, fun _ => h.lt, hm⟩
theorem splice_map {k : IntKind} {w : List Int} {j : Nat} (hj : j < w.length) (z : Int) : splice (w.map fun z => Value.int k z) j [.int k z] = (w.set j z).map fun z => .int k z := by
  apply List.ext_getElem?
  intro i
  unfold splice
  rw [List.getElem?_map, List.getElem?_set]
  by_cases h1 : i < j
  · rw [List.getElem?_append_left (by rw [List.length_take, List.length_map]; omega), List.getElem?_take, if_pos h1, List.getElem?_map, if_neg (by omega)]
  · rw [List.getElem?_append_right (by rw [List.length_take]; omega), List.length_take, List.length_map, Nat.min_eq_left (by omega)]
    by_cases h2 : i = j
    · subst h2
      rw [Nat.sub_self, if_pos rfl, if_pos hj]
      simp
    · obtain ⟨q, rfl⟩ : ∃ q, i = j + 1 + q := ⟨i - j - 1, by omega⟩
      rw [show j + 1 + q - j = q + 1 by omega, if_neg (by omega)]
      simp
theorem set_getD {w : List Int} {i j : Nat} {z : Int} (hj : j < w.length) : (w.set j z).getD i 0 = if i = j then z else w.getD i 0 := by
  rw [List.getD_eq_getElem?_getD, List.getElem?_set, List.getD_eq_getElem?_getD]
  by_cases h : j = i
  · subst h; rw [if_pos rfl, if_pos hj, if_pos rfl]; rfl
  · rw [if_neg h, if_neg (fun hc => h hc.symm)]

theorem Lst.keep {e : TypeId} {k : IntKind} {H0 H : Heap} {v : Value} {w : List Int} (h : Lst e k H0 H v w) : Keep H0 H := h.1
theorem Lst.grp {e : TypeId} {k : IntKind} {H0 H : Heap} {v : Value} {w : List Int} (h : Lst e k H0 H v w) : Grp H := h.2.1
theorem Lst.isv {e : TypeId} {k : IntKind} {H0 H : Heap} {v : Value} {w : List Int} (h : Lst e k H0 H v w) : ∃ a, v = .slice a w.length w.length := by
  obtain ⟨_, _, ⟨rfl, rfl⟩ | ⟨b, r, hb, ha, rfl, hpos⟩⟩ := h
  · exact ⟨none, rfl⟩
  · exact ⟨_, rfl⟩
theorem range_map_getD {k : IntKind} (w : List Int) : (List.range w.length).map (fun j => Value.int k (w.getD j 0)) = w.map fun z => .int k z := by
  apply List.ext_getElem?
  intro i
  rw [List.getElem?_map, List.getElem?_map]
  by_cases hi : i < w.length
  · rw [List.getElem?_range hi, List.getElem?_eq_getElem hi]
    simp [List.getD_eq_getElem?_getD, List.getElem?_eq_getElem hi]
  · rw [List.getElem?_eq_none (by simp; omega), List.getElem?_eq_none (by omega)]
    rfl
theorem SlE.all {k : IntKind} {H : Heap} {v : Value} {w : List Int} {r o : Nat} (h : SlI k H v w r o) (h0 : 0 < w.length) : H.read r o w.length = some (w.map fun z => .int k z) := by
  have h1 := read_some (H := H) (r := r) (n := w.length) (o := o) (c := fun j => Value.int k (w.getD j 0)) h0 (fun j hj => (h.rdI hj).1)
  rwa [range_map_getD] at h1

/-- A slice that the program itself has made. -/
def Fine (v : Value) : Prop := ∀ a n c, v = .slice (some a) n c → a.spot = none
theorem fine_nil : Fine (.slice none 0 0) := fun a n c h => by cases h
theorem fine_own (r o n c : Nat) : Fine (.slice (some ⟨r, o, none⟩) n c) := fun a n c h => by cases h; rfl
theorem Lst.fine {e : TypeId} {k : IntKind} {H0 H : Heap} {v : Value} {w : List Int} (h : Lst e k H0 H v w) : Fine v := by
  obtain ⟨_, _, ⟨rfl, rfl⟩ | ⟨b, r, hb, ha, rfl, hpos⟩⟩ := h
  · exact fine_nil
  · exact fine_own _ _ _ _

/-- A list behind numbers of one's own, in new memory. -/
theorem append_own {P : Program} {ts : Array TypeId} {e : TypeId} {k : IntKind} (hok : ElemOk P ts e 1) {H : Heap} (hg : Grp H) {r0 : Nat} {u : List Int} (ho : Own H r0 e (u.map fun z => .int k z)) (hu : 0 < u.length) {x : Value} {w : List Int} {r o : Nat} (hx : SlI k H x w r o) (hfine : Fine x)
    (hr : ∀ z ∈ u, k.min ≤ z ∧ z ≤ k.max) (hs : u.length + w.length ≤ 268435456) :
    ∃ v2 H2 r2, aAppend P H ts (.slice (some ⟨r0, 0, none⟩) u.length u.length) x = some (v2, H2) ∧ Keep H H2 ∧ Grp H2 ∧ SlI k H2 v2 (u ++ w) r2 0 := by
  obtain ⟨⟨sT, xT, d, inf, z, h1, h2, h3, h4, h5, h6, h7, h8, h9, h10⟩, hp⟩ := hok
  obtain ⟨a, c, rfl, ha⟩ := hx.isv
  have hrw : ∀ z ∈ u ++ w, k.min ≤ z ∧ z ≤ k.max := fun z hz => by
    rcases List.mem_append.1 hz with h | h
    · exact hr z h
    · obtain ⟨j, hj, rfl⟩ := List.getElem_of_mem h
      have := (hx.rdI hj).2
      rwa [List.getD_eq_getElem?_getD, List.getElem?_eq_getElem hj] at this
  have hml : (u ++ w).length ≤ Go.maxLen := by
    have : Go.maxLen = 9223372036854775807 := rfl
    rw [List.length_append]; omega
  have hsm : small (u.length + w.length) inf.bytes = true := by unfold small; rw [Nat.ble_eq_true_of_le hs, Nat.ble_eq_true_of_le h10]; rfl
  rcases Nat.eq_zero_or_pos w.length with h0 | h0
  · obtain rfl := List.length_eq_zero_iff.1 h0
    rw [List.append_nil] at hrw hml
    refine ⟨.slice (some ⟨r0, 0, none⟩) u.length u.length, H, r0, ?_, Keep.refl H, hg, by rw [List.append_nil]; exact ho.sl hrw hml u.length⟩
    have hfirst : aFirst H 1 0 (.slice a 0 c) = some [] := by
      unfold aFirst
      cases a with
      | none => rfl
      | some a =>
        obtain ⟨b, f, sp⟩ := a
        cases sp with
        | none => rfl
        | some sp => exact absurd (hfine _ _ _ rfl) (by simp)
    unfold aAppend
    rw [h1, h2]
    simp only [h3, h4, h5, h6, lenV, h7, h9, List.length_nil]
    rw [hfirst]
    simp only []
    rw [Trie.beq_tt (h8.trans h9), show Nat.blt 0 1 = true from rfl]
    rw [List.length_nil] at hsm
    rw [hsm]
    simp only [Bool.and_self, cond_true]
    unfold aAppendSome
    rw [ho.get]
    simp only []
    rw [show Nat.beq 0 0 = true from rfl, cond_true, Nat.ble_eq_true_of_le (Nat.le_refl _), cond_true]
  · obtain rfl := ha h0
    have hnew := hx.all h0
    refine ⟨.slice (some ⟨H.size, 0, none⟩) (u.length + w.length) (u.length + w.length), _, H.size, ?_, (App.first (P := P) hg (e := e) (sz := 1) (cells := (u.map fun z => Value.int k z) ++ (w.map fun z => Value.int k z))).1, (App.first (P := P) hg (e := e) (sz := 1) (cells := (u.map fun z => Value.int k z) ++ (w.map fun z => Value.int k z))).1.grp hg, ?_⟩
    · have hfirst : aFirst H 1 w.length (.slice (some ⟨r, o, none⟩) w.length c) = some (w.map fun z => Value.int k z) := by
        show cond (Nat.beq (w.length * 1) 0) (some []) (H.read r o (w.length * 1)) = _
        rw [Trie.beq_ff (by omega), Nat.mul_one]; exact hnew
      have hold : H.read r0 0 (u.length * 1) = some (u.map fun z => Value.int k z) := by
        have := ho.read (o := 0) (n := u.length) (by simp)
        rw [Nat.mul_one, this, List.drop_zero, List.take_of_length_le (by simp)]
      unfold aAppend
      rw [h1, h2]
      simp only [h3, h4, h5, h6, lenV, h7, h9]
      rw [hfirst]
      simp only []
      rw [Trie.beq_tt (h8.trans h9), show Nat.blt 0 1 = true from rfl, hsm]
      simp only [Bool.and_self, cond_true]
      unfold aAppendSome
      rw [ho.get]
      simp only []
      rw [show Nat.beq w.length 0 = false from Trie.beq_ff (by omega), cond_false, show Nat.ble (u.length + w.length) u.length = false by
        cases hq : Nat.ble (u.length + w.length) u.length with
        | false => rfl
        | true => have := Nat.le_of_ble_eq_true hq; omega, Bool.false_and, cond_false, cond_true, show Nat.beq (u.length * 1) 0 = false from Trie.beq_ff (by omega), cond_false, hold]
      rfl
    · have happ := (App.first (P := P) hg (e := e) (sz := 1) (cells := (u.map fun z => Value.int k z) ++ (w.map fun z => Value.int k z))).2
      rw [← List.map_append] at happ ⊢
      rw [← List.length_append]
      exact ⟨⟨_, _, rfl, fun _ => rfl⟩, fun i hi => by
        have h1 := happ.read (o := 0 + i * 1) (n := 1) (by simp at hi ⊢; omega)
        rw [show 0 + i * 1 = i by omega, map_at hi] at h1
        exact ⟨_, by rw [show 0 + i * (intE k).sz = i by show 0 + i * 1 = i; omega]; exact h1, rfl, hrw _ (getD_mem hi)⟩, fun _ => happ.lt, hml⟩
end Go.AM

namespace Go.AM
open Go Go.ChangeShapes Go.WideShapes Go.ChangeAt Go.RowKit Go.Deep

/-- A call inside a region that draws: what it comes to, and the memory behind it. -/
theorem drawn {P : Program} {S : Sys} {f : FuncId} {args : List Value} {H : Heap} {v : Value} (hL : H.low ≤ H.size) (h : ∃ H', Keep (H.relow H.size) H' ∧ Runs P S (.fn f) args (H.relow H.size) v H') :
    ∃ H4 H5, Keep H H5 ∧ H5.low ≤ H5.size ∧ (∀ (K : Value → Heap → Prop) (b : Blk K), sxCallB P S (.fn f) args (H.relow H.size) K b = K v H4) ∧ (∀ (all : List Oper) (n : Nat) (k : Heap → Prop), sxD all n H H4 k = k H5) := by
  obtain ⟨H', hk, hr⟩ := h
  exact ⟨H', H'.relow (Nat.min H.low H'.low), Keep.draw hk, (Keep.draw hk).low hL, hr.bx, fun all n k => sxD_keep hk k⟩

/-- A struct's cells in new memory. -/
theorem boxS (H : Heap) (l : List Value) (t : TypeId) : ∃ H1, H.newExact l t = H1 ∧ Keep H H1 ∧ H.size < H1.size ∧ H1.read H.size 0 l.length = some l ∧ ∀ o n, o + n ≤ l.length → H1.read H.size o n = some ((l.drop o).take n) := by
  obtain ⟨H1, e1, hK1, hz1, _, hr1⟩ := box1 H l t
  refine ⟨H1, e1, hK1, hz1, ?_, hr1⟩
  have := hr1 0 l.length (by omega)
  rwa [List.drop_zero, List.take_length] at this

/-- One argument that is a struct. -/
theorem Imp.argS {α : Type} {P : Program} {t : TypeId} {E : Enc α} (hE : Imp P t E) {X : Type} {enc : TypeId × Value → X} {W : World} {cs : Array Value} {x : DataW X} {p : List MemPlace} (h : DataW.Trod enc P W 0 (fun _ => true) true t (.agg cs) x p)
    {n0 : Nat} {m : Map} {H : Heap} (hI : Ins P n0 m H W) : ∃ d m' H' cs', Ins P n0 m' H' W ∧ m.le m' ∧ Keep H H' ∧ VR m' (.agg ⟨cs'⟩) (.agg cs) ∧ E.At H' d cs' := by
  obtain ⟨fuel, h⟩ := h
  have h' : DataW.trod enc P W 0 (fun _ => true) true fuel t cs.toList = some (x, p) := h
  obtain ⟨d, m', H', cs', h1, h2, h3, h4, h5⟩ := hE enc W fuel _ _ h' n0 m H hI
  refine ⟨d, m', H', cs', h1, h2, h3, ?_, h5⟩
  exact .agg h4
end Go.AM

namespace Go.AM
open Go Go.ChangeShapes Go.WideShapes Go.ChangeAt Go.RowKit Go.Deep

/-- A store into a row of one's own leaves a row that grows as it is. -/
theorem App.other {P : Program} {H H2 : Heap} {r : Nat} {e t : TypeId} {cells : List Value} (h : Own H r e cells) {o : Nat} {v : Value} (hs : aStore P H t (.pointer (some ⟨r, o, none⟩)) v = some H2) {b r1 : Nat} {e1 : TypeId} {sz : Nat} {c1 : List Value} (ha : App H b r1 e1 sz c1) : App H2 b r1 e1 sz c1 := by
  have hne : r1 ≠ r := fun he => by
    subst he
    have h1 := ha.get
    rw [h.get] at h1
    cases h1
  unfold aStore at hs
  simp only [h.get] at hs
  split at hs
  · rename_i i row hi hrow
    cases hrow
    obtain ⟨_, hs⟩ := cond_some (b := _) hs
    cases hs
    refine ⟨by rw [Heap.store_get, if_neg hne]; exact ha.get, ?_, by rw [Heap.store_size]; exact ha.lt, ha.ge⟩
    rw [Heap.store_grps]
    exact ha.mem
  · cases hs

/-- A list that is made by 'append' stays as it is where nothing old is written. -/
theorem Lst.on {e : TypeId} {k : IntKind} {H0 H H' : Heap} {v : Value} {w : List Int} (h : Lst e k H0 H v w) (hk : Keep H H') : Lst e k H0 H' v w := by
  obtain ⟨h1, h2, h3⟩ := h
  refine ⟨h1.trans hk, hk.grp h2, ?_⟩
  rcases h3 with h3 | ⟨b, r, hb, ha, hv, hp⟩
  · exact .inl h3
  · exact .inr ⟨b, r, hb, ha.keep hk, hv, hp⟩
/-- And where a row of one's own is written. -/
theorem Lst.other {P : Program} {e : TypeId} {k : IntKind} {H0 H H2 : Heap} {v : Value} {w : List Int} (h : Lst e k H0 H v w) (g0 : Grp H0) {r : Nat} {e' t : TypeId} {cells : List Value} (ho : Own H r e' cells) {o : Nat} {u : Value} (hs : aStore P H t (.pointer (some ⟨r, o, none⟩)) u = some H2) (hk : Keep H0 H2) : Lst e k H0 H2 v w := by
  obtain ⟨h1, h2, h3⟩ := h
  refine ⟨hk, hk.grp g0, ?_⟩
  rcases h3 with h3 | ⟨b, r1, hb, ha, hv, hp⟩
  · exact .inl h3
  · exact .inr ⟨b, r1, hb, App.other ho hs ha, hv, hp⟩
/-- A number is put behind a list; the rows of one's own stay. -/
theorem Lst.pushO {P : Program} {ts : Array TypeId} {e : TypeId} {k : IntKind} {H0 H : Heap} {v : Value} {w : List Int} (hok : ElemOk P ts e 1) (g0 : Grp H0) (h : Lst e k H0 H v w) (hw : w.length < 268435456) (z : Int) :
    ∃ v2 H2, aAppend P (H.newExact [.int k z] e) ts v (.slice (some ⟨H.size, 0, none⟩) 1 1) = some (v2, H2) ∧ Lst e k H0 H2 v2 (w ++ [z]) ∧ (∀ r' e' c', Own H r' e' c' → Own H2 r' e' c') := by
  obtain ⟨hk, hg, h⟩ := h
  have hkn := Keep.newExact H [.int k z] e
  have ho := Own.new H [.int k z] e
  have hr := ho.read (o := 0) (n := 1 * 1) (show 0 + 1 ≤ 1 by omega)
  rcases h with ⟨rfl, rfl⟩ | ⟨b, r, hb, ha, rfl, hpos⟩
  · obtain ⟨H2, h1, h2, h3⟩ := append_nil hok (hkn.grp hg) hr (by omega) (by omega)
    refine ⟨_, H2, h1, ⟨(hk.trans hkn).trans h3, h3.grp (hkn.grp hg), .inr ⟨_, _, Nat.le_trans hk.size hkn.size, h2, rfl, by simp⟩⟩, fun r' e' c' ho' => (ho'.keep hkn).keep h3⟩
  · obtain ⟨H2, h1, h2, _, h3, h4, h5, _⟩ := append_more hok (hkn.grp hg) (ha.keep hkn) (l := w.length) (by simp) hr (by omega) rfl (by omega)
    refine ⟨_, H2, h1, ⟨h3 H0 g0 (hk.trans hkn) hb, h4, .inr ⟨b, _, hb, by rw [List.map_append]; exact h2, by simp, by simp⟩⟩, fun r' e' c' ho' => h5 _ _ _ (ho'.keep hkn)⟩
end Go.AM

namespace Go.AM
open Go Go.RowKit

/-! Structs of integers: are they equal? -/
theorem pureRun_prog {P : Program} {β : Type} (f : Program → Sem β) : pureRun P (program >>= f) = pureRun P (f P) := rfl
theorem equalIn_int {P : Program} {d : Nat} {t : TypeId} {k k' : IntKind} {a b : Int} (h : P.underlying t = some (.int k')) : pureRun P (Op.equalIn (d + 1) t (.int k a) (.int k b)) = some (a == b) := by
  unfold Op.equalIn
  rw [pureRun_und h]
  simp only [↓reduceIte]
  rfl
theorem pure_part {P : Program} {t : TypeId} {cs : Array Value} {o : Nat} {v : Value} (ha : pureRun P (isAgg t) = some false) (hv : cs[o]? = some v) : pureRun P (part t cs o) = some v := by
  unfold part
  refine (pureRun_thn (s := isAgg t) _ ha).trans ?_
  simp only [Bool.false_eq_true, ↓reduceIte, hv]
  rfl
theorem pureRun_thn2 {P : Program} {α β γ : Type} : ∀ {s : Sem α} {a : α} (f : α → Sem β) (g : β → Sem γ), pureRun P s = some a → pureRun P ((s.bind f).bind g) = pureRun P ((f a).bind g)
  | .pure b, a, f, g, h => by cases h; rfl
  | .program k, a, f, g, h => pureRun_thn2 (s := k P) f g h
  | .mark _ k, a, f, g, h => pureRun_thn2 (s := k) f g h
  | .choose q k, a, f, g, h => by
    simp only [pureRun] at h
    cases hq : q.forced with
    | false => rw [hq] at h; cases h
    | true =>
      rw [hq, cond_true] at h
      show cond q.forced (pureRun P (((k 0).bind f).bind g)) none = _
      rw [hq, cond_true]
      exact pureRun_thn2 (s := k 0) f g h
theorem pure_loop {P : Program} (F : Field → Option Bool × Unit → Sem (ForInStep (Option Bool × Unit))) (G : Option Bool × Unit → Sem Bool) (r : Field → Bool) (g1 : pureRun P (G (none, ())) = some true) (g0 : pureRun P (G (some false, ())) = some false) :
    ∀ (l : List Field), (∀ f ∈ l, pureRun P (F f (none, ())) = some (if r f then ForInStep.yield (none, ()) else ForInStep.done (some false, ()))) → pureRun P (forIn l ((none, ()) : Option Bool × Unit) F >>= G) = some (l.all r)
  | [], _ => g1
  | f :: l, h => by
    rw [List.forIn_cons]
    refine (pureRun_thn2 _ _ (h f List.mem_cons_self)).trans ?_
    cases hr : r f with
    | false =>
      simp only [Bool.false_eq_true, ↓reduceIte, List.all_cons, hr, Bool.false_and]
      exact g0
    | true =>
      simp only [↓reduceIte, List.all_cons, hr, Bool.true_and]
      exact pure_loop F G r g1 g0 l fun f hf => h f (List.mem_cons_of_mem _ hf)
theorem eql_ints {P : Program} {d : Nat} {t ty : TypeId} {k : IntKind} {fs : Array Field} (ht : P.underlying t = some (.struct fs)) (hh : P.stoodInHeld t = false) (hk : P.underlying ty = some (.int k)) (ha : pureRun P (isAgg ty) = some false) (xs ys : List Int) (hlen : xs.length = ys.length)
    (hn : fs.toList.length = xs.length) (hf : ∀ i (h : i < fs.toList.length), (fs.toList[i]).type = ty ∧ (fs.toList[i]).offset = i ∧ (fs.toList[i]).name ≠ "_") :
    pureRun P (Op.equalIn (d + 2) t (.agg ⟨xs.map fun z => .int k z⟩) (.agg ⟨ys.map fun z => .int k z⟩)) = some (decide (xs = ys)) := by
  unfold Op.equalIn
  rw [pureRun_und ht]
  simp only []
  rw [pureRun_prog]
  simp only [hh, Bool.false_eq_true, ↓reduceIte]
  rw [← Array.forIn_toList]
  refine (pure_loop _ _ (fun f => xs.getD f.offset 0 == ys.getD f.offset 0) rfl rfl fs.toList ?_).trans ?_
  · intro f hm
    obtain ⟨j, hj, rfl⟩ := List.getElem_of_mem hm
    obtain ⟨h1, h2, h3⟩ := hf j hj
    have hjl : j < xs.length := by omega
    have hjy : j < ys.length := by omega
    simp only [ne_eq, h3, not_false_eq_true, ↓reduceIte, h2]
    have px : pureRun P (part (fs.toList[j]).type { toList := List.map (fun z => Value.int k z) xs } j) = some (.int k (xs.getD j 0)) := by
      rw [h1]
      refine pure_part ha ?_
      simp [hjl, List.getD_eq_getElem?_getD]
    have py : pureRun P (part (fs.toList[j]).type { toList := List.map (fun z => Value.int k z) ys } j) = some (.int k (ys.getD j 0)) := by
      rw [h1]
      refine pure_part ha ?_
      simp [hjy, List.getD_eq_getElem?_getD]
    have pe : pureRun P (Op.equalIn (d + 1) (fs.toList[j]).type (.int k (xs.getD j 0)) (.int k (ys.getD j 0))) = some (xs.getD j 0 == ys.getD j 0) := by
      rw [h1]; exact equalIn_int hk
    refine (pureRun_thn _ px).trans ?_
    refine (pureRun_thn _ py).trans ?_
    refine (pureRun_thn _ pe).trans ?_
    cases (xs.getD j 0 == ys.getD j 0) <;> rfl
  · refine congrArg some ?_
    rw [Bool.eq_iff_iff, List.all_eq_true, decide_eq_true_eq]
    constructor
    · intro h
      apply List.ext_getElem hlen
      intro j h1 h2
      have := h _ (List.getElem_mem (show j < fs.toList.length by omega))
      rw [(hf j (by omega)).2.1, List.getD_eq_getElem?_getD, List.getD_eq_getElem?_getD, List.getElem?_eq_getElem h1, List.getElem?_eq_getElem h2] at this
      simpa using this
    · rintro rfl f _
      exact beq_self_eq_true _
theorem plains_ints (k : IntKind) : ∀ l : List Int, plains (l.map fun z => Value.int k z) = true
  | [] => rfl
  | _ :: l => plains_ints k l
/-- Two structs of integers, by == and by !=. -/
theorem binP_eqlS {P : Program} {t ty : TypeId} {k : IntKind} {fs : Array Field} (ht : P.underlying t = some (.struct fs)) (hh : P.stoodInHeld t = false) (hg : P.eqGuardType P.depth t = false) (hk : P.underlying ty = some (.int k)) (ha : pureRun P (isAgg ty) = some false) (xs ys : List Int) (hlen : xs.length = ys.length)
    (hn : fs.toList.length = xs.length) (hf : ∀ i (h : i < fs.toList.length), (fs.toList[i]).type = ty ∧ (fs.toList[i]).offset = i ∧ (fs.toList[i]).name ≠ "_") :
    binP P .eql t (.agg ⟨xs.map fun z => .int k z⟩) (.agg ⟨ys.map fun z => .int k z⟩) = some (.bool (decide (xs = ys))) ∧ binP P .neq t (.agg ⟨xs.map fun z => .int k z⟩) (.agg ⟨ys.map fun z => .int k z⟩) = some (.bool (decide (¬ xs = ys))) := by
  have he := eql_ints (d := 9998) ht hh hk ha xs ys hlen hn hf
  have pl : ∀ l : List Int, plain (.agg ⟨l.map fun z => Value.int k z⟩) = true := fun l => plains_ints k l
  constructor
  · have h1 : pureRun P (binS .eql t ⟨xs.map fun z => .int k z⟩ ⟨ys.map fun z => .int k z⟩) = some (.bool (decide (xs = ys))) := by
      unfold binS
      refine (pureRun_thn (a := ()) _ ?_).trans ?_
      · show pureRun P (program >>= fun p => program >>= fun q => _) = _
        simp only [eqGuard, pureRun_prog, hg]
        rfl
      · exact (pureRun_thn (s := Op.equal t _ _) (fun r => Sem.pure (Value.bool r)) he).trans rfl
    show binA P .eql t _ _ = _
    unfold binA
    rw [pl, pl, h1]
    rfl
  · have h1 : pureRun P (binS .neq t ⟨xs.map fun z => .int k z⟩ ⟨ys.map fun z => .int k z⟩) = some (.bool (!decide (xs = ys))) := by
      unfold binS
      refine (pureRun_thn (a := ()) _ ?_).trans ?_
      · show pureRun P (program >>= fun p => program >>= fun q => _) = _
        simp only [eqGuard, pureRun_prog, hg]
        rfl
      · exact (pureRun_thn (s := Op.equal t _ _) (fun r => Sem.pure (Value.bool !r)) he).trans rfl
    show binA P .neq t _ _ = _
    unfold binA
    rw [pl, pl, h1, decide_not]
    rfl
/-- A load that may come late, behind a store to a row of one's own. -/
theorem late_one {ops : Array Oper} {k i : Nat} {ρ : Operand → Value} {H : Heap} {ok oi : Oper} {t t' : TypeId} {x y v : Operand} {r r' : Nat} {e : TypeId} {cells : List Value} (h1 : ops[k]? = some ok) (h2 : ops[i]? = some oi) (h3 : ok.op = .load t x) (h4 : ok.guard = none) (h5 : oi.op = .store t' y v)
    (hs : stable ops x k i = true) (hx : addrRow (ρ x) = some r) (hy : addrRow (ρ y) = some r') (ow : Own H r' e cells) (hne : r ≠ r') : lateOk ops ρ H k i = true := by
  unfold lateOk
  rw [h1, h2]
  simp only [h3, h4, h5, hs, hx, hy, Bool.true_and]
  unfold otherRow
  simp only [ow.get, Bool.and_true, Bool.not_eq_true']
  exact Trie.beq_ff hne
end Go.AM
