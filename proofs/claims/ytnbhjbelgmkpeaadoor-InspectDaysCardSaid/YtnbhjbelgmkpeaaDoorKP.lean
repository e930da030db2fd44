/- Lists that grow leave all other rows as they are, where nothing stands behind their end. -/
import Derived.Test.YtnbhjbelgmkpeaaDoorP4
set_option linter.unusedVariables false
set_option linter.unusedSimpArgs false
set_option linter.unusedSectionVars false

namespace Go.Proofs.YtnbhjbelgmkpeaaDoor
open Go Go.AM
set_option maxRecDepth 10000
set_option linter.unusedSimpArgs false

/-- All rows that were there read the same. -/
def Rows2 (H H2 : Heap) : Prop := H.size ≤ H2.size ∧ ∀ r row, r < H.size → H.rows.get r = some row → H2.rows.get r = some row ∧ H2.alive r row = H.alive r row
theorem Keep.rows2 {H H2 : Heap} (h : Keep H H2) : Rows2 H H2 := ⟨h.size, h.row⟩
theorem Rows2.trans {A B C : Heap} (h : Rows2 A B) (k : Rows2 B C) : Rows2 A C := ⟨Nat.le_trans h.1 k.1, fun r row hr hrow => by
  obtain ⟨h1, h2⟩ := h.2 r row hr hrow
  obtain ⟨k1, k2⟩ := k.2 r row (Nat.lt_of_lt_of_le hr h.1) h1
  exact ⟨k1, k2.trans h2⟩⟩
theorem Rows2.read {H H' : Heap} (h : Rows2 H H') {r o n : Nat} {l : List Value} (hr : r < H.size) (e : H.read r o n = some l) : H'.read r o n = some l := by
  obtain ⟨row, h1, h2, h3, h4⟩ := read_inv e
  obtain ⟨k1, k2⟩ := h.2 r row hr h1
  unfold Heap.read at e ⊢
  rw [h1] at e
  rw [k1]
  simp only [k2] at e ⊢
  exact e
theorem SlI.rows2 {k : IntKind} {H H' : Heap} {v : Value} {w : List Int} {r o : Nat} (h : SlI k H v w r o) (hk : Rows2 H H') : SlI k H' v w r o where
  isv := h.isv
  rd := fun i hi => by
    obtain ⟨es, h1, h2⟩ := h.rd i hi
    exact ⟨es, hk.read (h.lt (by omega)) h1, h2⟩
  lt := fun h0 => Nat.lt_of_lt_of_le (h.lt h0) hk.1
  ml := h.ml
theorem BigIs.rows2 {H H' : Heap} {v : Value} {z : Int} {lo : Nat} (h : BigIs H v z lo) (hk : Rows2 H H') : BigIs H' v z lo := by
  obtain ⟨v', w, r, o, h1, h2, h3⟩ := h
  exact ⟨v', w, r, o, h1, SlI.rows2 h2 hk, h3⟩
theorem QV.rows2 {H H' : Heap} {v : Value} {n d : Int} (h : QV H v n d) (hk : Rows2 H H') : QV H' v n d := by
  obtain ⟨n', d', ⟨s1, w1, s2, w2, h1, h2, h3⟩, h4⟩ := h
  exact ⟨n', d', ⟨s1, w1, s2, w2, h1, h2.rows2 hk, h3.rows2 hk⟩, h4⟩

/-- No row of the group reaches beyond an end. -/
def Full (H : Heap) (b n : Nat) : Prop := ∀ q, memN q ((H.grps.get (2 * b + 1)).getD []) = true → ∃ x, H.rows.get q = some x ∧ x.exact = false ∧ x.gpos + x.cells.length ≤ n ∧ q < H.size
theorem Full.keep {H H' : Heap} {b n : Nat} (h : Full H b n) (hb : b < H.size) (hk : Keep H H') : Full H' b n := fun q hq => by
  rw [hk.mem _ (by omega)] at hq
  obtain ⟨x, h1, h2, h3, h4⟩ := h q hq
  exact ⟨x, (hk.row q x h4 h1).1, h2, h3, Nat.lt_of_lt_of_le h4 hk.size⟩
theorem keepL_all {H : Heap} {e : Nat} : ∀ {l : List Nat}, (∀ q, memN q l = true → H.endOf q ≤ e) → keepL H e l = l
  | [], _ => rfl
  | k :: l, h => by
    unfold keepL
    have h1 : H.endOf k ≤ e := h k (by unfold memN; rw [Trie.beq_tt rfl]; rfl)
    have h2 : ∀ q, memN q l = true → H.endOf q ≤ e := fun q hq => h q (by unfold memN; cases Nat.beq k q <;> simp [hq])
    rw [Nat.ble_eq_true_of_le h1, cond_true, keepL_all h2]
/-- What append to a full list does to the other rows: nothing. -/
theorem App.full {H : Heap} {b r : Nat} {e : TypeId} {sz : Nat} {cells new : List Value} (h : App H b r e sz cells) (hf : Full H b cells.length) :
    Rows2 H (H.grow r { cells := cells, elem := e, exact := false, ro := false, esz := sz, grp := 2 * b + 1, gpos := 0 } 0 cells.length new) ∧
    Full (H.grow r { cells := cells, elem := e, exact := false, ro := false, esz := sz, grp := 2 * b + 1, gpos := 0 } 0 cells.length new) b (cells ++ new).length := by
  have hend : ∀ q, memN q ((H.grps.get (2 * b + 1)).getD []) = true → H.endOf q ≤ 0 + 0 + cells.length := fun q hq => by
    obtain ⟨x, h1, _, h3, _⟩ := hf q hq
    unfold Heap.endOf
    rw [h1]
    simp only []
    omega
  have hkl := keepL_all hend
  have hmem : ∀ q, memN q (H.size :: (H.grps.get (2 * b + 1)).getD []) = true → q = H.size ∨ memN q ((H.grps.get (2 * b + 1)).getD []) = true := fun q hq => by
    unfold memN at hq
    cases he : Nat.beq H.size q with
    | true => exact .inl (Nat.eq_of_beq_eq_true he).symm
    | false => rw [he, cond_false] at hq; exact .inr hq
  constructor
  · refine ⟨by rw [Heap.grow_size]; omega, fun r' row hr' hrow => ⟨by rw [Heap.grow_rows, Trie.get_put, if_neg (by omega)]; exact hrow, ?_⟩⟩
    unfold Heap.alive
    cases row.loop with
    | some _ => rfl
    | none =>
      simp only []
      rw [Heap.grow_grps, Trie.get_put]
      split
      · rename_i hg
        simp only [Option.getD_some]
        rw [hkl, hg]
        show (row.exact || memN r' (H.size :: (H.grps.get (2 * b + 1)).getD [])) = _
        have : memN r' (H.size :: (H.grps.get (2 * b + 1)).getD []) = memN r' ((H.grps.get (2 * b + 1)).getD []) := by
          rw [show memN r' (H.size :: (H.grps.get (2 * b + 1)).getD []) = cond (Nat.beq H.size r') true (memN r' ((H.grps.get (2 * b + 1)).getD [])) from rfl, Trie.beq_ff (show H.size ≠ r' by omega), cond_false]
        rw [this]
      · rfl
  · intro q hq
    rw [Heap.grow_grps, Trie.get_put, if_pos rfl, Option.getD_some, hkl] at hq
    rw [Heap.grow_rows, Heap.grow_size]
    rcases hmem q hq with rfl | hq
    · refine ⟨_, by rw [Trie.get_put, if_pos rfl], rfl, ?_, by omega⟩
      simp
    · obtain ⟨x, h1, h2, h3, h4⟩ := hf q hq
      exact ⟨x, by rw [Trie.get_put, if_neg (by omega)]; exact h1, h2, by rw [List.length_append]; omega, by omega⟩
theorem append_nil2 {P : Program} {ts : Array TypeId} {e : TypeId} {sz : Nat} (h : ElemOk P ts e sz) {H : Heap} (hg : Grp H) {r o n c : Nat} {new : List Value} (hr : H.read r o (n * sz) = some new) (hn : 0 < n) (hs : n ≤ 268435456) :
    ∃ H2, aAppend P H ts (.slice none 0 0) (.slice (some ⟨r, o, none⟩) n c) = some (.slice (some ⟨H.size, 0, none⟩) n n, H2) ∧ App H2 H.size H.size e sz new ∧ Keep H H2 ∧ H2 = H.add { cells := new, elem := e, exact := false, ro := false, esz := sz, grp := 2 * H.size + 1, gpos := 0 } := by
  obtain ⟨⟨sT, xT, d, inf, z, h1, h2, h3, h4, h5, h6, h7, h8, h9, h10⟩, hp⟩ := h
  obtain ⟨hk, ha⟩ := App.first (P := P) hg (e := e) (sz := sz) (cells := new)
  refine ⟨_, ?_, ha, hk, rfl⟩
  have hnz : Nat.beq (n * sz) 0 = false := Trie.beq_ff (by have := Nat.mul_pos hn hp; omega)
  have hfirst : aFirst H sz n (.slice (some ⟨r, o, none⟩) n c) = some new := by
    show cond (Nat.beq (n * sz) 0) (some []) (H.read r o (n * sz)) = some new
    rw [hnz]; exact hr
  unfold aAppend
  rw [h1, h2]
  simp only [h3, h4, h5, h6, lenV, h7, h9]
  rw [hfirst]
  simp only []
  rw [Trie.beq_tt (h8.trans h9), show Nat.blt 0 sz = true from Nat.ble_eq_true_of_le hp, show small n inf.bytes = true by unfold small; rw [Nat.ble_eq_true_of_le hs, Nat.ble_eq_true_of_le h10]; rfl]
  rw [show Nat.beq n 0 = false from Trie.beq_ff (by omega)]
  rfl

theorem append_more2 {P : Program} {ts : Array TypeId} {e : TypeId} {sz : Nat} (h : ElemOk P ts e sz) {H : Heap} (hg : Grp H) {b r0 l : Nat} {cells : List Value} (ha : App H b r0 e sz cells) (hl : cells.length = l * sz) {r o n c : Nat} {new : List Value} (hr : H.read r o (n * sz) = some new) (hn : 0 < n)
    (hone : ones new = true) (hs : l + n ≤ 268435456) :
    ∃ H2, aAppend P H ts (.slice (some ⟨r0, 0, none⟩) l l) (.slice (some ⟨r, o, none⟩) n c) = some (.slice (some ⟨H.size, 0, none⟩) (l + n) (l + n), H2) ∧ App H2 b H.size e sz (cells ++ new) ∧ H2.size = H.size + 1 ∧ (∀ H0, Grp H0 → Keep H0 H → H0.size ≤ b → Keep H0 H2) ∧ Grp H2 ∧
      (∀ r' e' c', Own H r' e' c' → Own H2 r' e' c') ∧ (∀ b' r' e' s' c', b' ≠ b → App H b' r' e' s' c' → App H2 b' r' e' s' c') ∧ H.grow r0 { cells := cells, elem := e, exact := false, ro := false, esz := sz, grp := 2 * b + 1, gpos := 0 } 0 cells.length new = H2 := by
  obtain ⟨⟨sT, xT, d, inf, z, h1, h2, h3, h4, h5, h6, h7, h8, h9, h10⟩, hp⟩ := h
  obtain ⟨H2, e2, k1, k2, k3, k4, k5, k6⟩ := ha.more (new := new) hg
  refine ⟨H2, ?_, k1, k2, k3, k4, k5, k6, e2⟩
  have hnz : Nat.beq (n * sz) 0 = false := Trie.beq_ff (by have := Nat.mul_pos hn hp; omega)
  have hfirst : aFirst H sz n (.slice (some ⟨r, o, none⟩) n c) = some new := by
    show cond (Nat.beq (n * sz) 0) (some []) (H.read r o (n * sz)) = some new
    rw [hnz]; exact hr
  unfold aAppend
  rw [h1, h2]
  simp only [h3, h4, h5, h6, lenV, h7, h9]
  rw [hfirst]
  simp only []
  rw [Trie.beq_tt (h8.trans h9), show Nat.blt 0 sz = true from Nat.ble_eq_true_of_le hp, show small (l + n) inf.bytes = true by unfold small; rw [Nat.ble_eq_true_of_le hs, Nat.ble_eq_true_of_le h10]; rfl]
  simp only [Bool.and_self, cond_true]
  unfold aAppendSome
  rw [ha.get]
  simp only []
  rw [show Nat.beq n 0 = false from Trie.beq_ff (by omega), cond_false, show Nat.ble (l + n) l = false by
    cases hq : Nat.ble (l + n) l with
    | false => rfl
    | true => have := Nat.le_of_ble_eq_true hq; omega, Bool.false_and, cond_false, cond_false, ha.alive, Trie.beq_tt rfl, Trie.beq_tt rfl, hone, Nat.ble_eq_true_of_le (Nat.le_refl l), show Nat.ble (0 + l * sz) cells.length = true from Nat.ble_eq_true_of_le (by omega)]
  simp only [Bool.and_self, cond_true]
  rw [← hl, e2]

/-- A list of ratios that append has made, at whose end nothing else stands. -/
def LstF (H0 H : Heap) (v : Value) (w : List (Int × Int)) : Prop :=
  Keep H0 H ∧ Grp H ∧ ((w = [] ∧ v = .slice none 0 0) ∨ ∃ b r, H0.size ≤ b ∧ b < H.size ∧ App H b r 24 2 (flat w) ∧ Full H b (flat w).length ∧ v = .slice (some ⟨r, 0, none⟩) w.length w.length ∧ 0 < w.length)
theorem LstF.nil {H0 H : Heap} (hk : Keep H0 H) (hg : Grp H) : LstF H0 H (.slice none 0 0) [] := ⟨hk, hg, .inl ⟨rfl, rfl⟩⟩
theorem LstF.lst {H0 H : Heap} {v : Value} {w : List (Int × Int)} (h : LstF H0 H v w) : LstR H0 H v w := by
  obtain ⟨k, g, h⟩ := h
  refine ⟨k, g, h.imp id ?_⟩
  rintro ⟨b, r, hb, _, ha, _, hv⟩
  exact ⟨b, r, hb, ha, hv⟩
theorem LstF.on {H0 H H' : Heap} {v : Value} {w : List (Int × Int)} (h : LstF H0 H v w) (hk : Keep H H') : LstF H0 H' v w := by
  obtain ⟨k, g, h⟩ := h
  refine ⟨k.trans hk, hk.grp g, h.imp id ?_⟩
  rintro ⟨b, r, hb, hl, ha, hf, hv⟩
  exact ⟨b, r, hb, Nat.lt_of_lt_of_le hl hk.size, ha.keep hk, hf.keep hl hk, hv⟩
theorem Full.other {H H2 : Heap} {r : Nat} {e t : TypeId} {cells : List Value} (h : Own H r e cells) {o : Nat} {v : Value} (hs : aStore Tryd.prog H t (.pointer (some ⟨r, o, none⟩)) v = some H2) {b n : Nat} (hf : Full H b n) : Full H2 b n := by
  unfold aStore at hs
  simp only [h.get] at hs
  split at hs
  · rename_i i row hi hrow
    cases hrow
    obtain ⟨_, hs⟩ := cond_some (b := _) hs
    cases hs
    intro q hq
    rw [Heap.store_grps] at hq
    obtain ⟨x, h1, h2, h3, h4⟩ := hf q hq
    have hne : q ≠ r := fun he => by
      subst he
      rw [h.get] at h1
      cases h1
      cases h2
    exact ⟨x, by rw [Heap.store_get, if_neg hne]; exact h1, h2, h3, by rw [Heap.store_size]; exact h4⟩
  · cases hs
theorem LstF.other {H0 H H2 : Heap} {v : Value} {w : List (Int × Int)} (h : LstF H0 H v w) (g0 : Grp H0) {r : Nat} {e' t : TypeId} {cells : List Value} (ho : Own H r e' cells) {o : Nat} {u : Value} (hs : aStore Tryd.prog H t (.pointer (some ⟨r, o, none⟩)) u = some H2) (hsz : H2.size = H.size) (hk : Keep H0 H2) : LstF H0 H2 v w := by
  obtain ⟨h1, h2, h3⟩ := h
  refine ⟨hk, hk.grp g0, ?_⟩
  rcases h3 with h3 | ⟨b, r1, hb, hl, ha, hf, hv, hp⟩
  · exact .inl h3
  · exact .inr ⟨b, r1, hb, by omega, App.other ho hs ha, Full.other ho hs hf, hv, hp⟩
/-- The list in a memory with another low. -/
theorem LstF.low {H0 H : Heap} {v : Value} {w : List (Int × Int)} (h : LstF H0 H v w) {l : Nat} (hk : Keep H0 (H.relow l)) : LstF H0 (H.relow l) v w := by
  obtain ⟨h1, h2, h3⟩ := h
  refine ⟨hk, h2, ?_⟩
  rcases h3 with h3 | ⟨b, r1, hb, hl, ha, hf, hv, hp⟩
  · exact .inl h3
  · exact .inr ⟨b, r1, hb, hl, ⟨ha.get, ha.mem, ha.lt, ha.ge⟩, hf, hv, hp⟩
theorem LstF.push {H0 H : Heap} {v : Value} {w : List (Int × Int)} (g0 : Grp H0) (h : LstF H0 H v w) (hw : w.length < 268435456) (x : Int × Int) :
    ∃ v2 H2, aAppend Tryd.prog (H.newExact [.int .i64 x.1, .int .i64 x.2] 24) #[43, 43] v (.slice (some ⟨H.size, 0, none⟩) 1 1) = some (v2, H2) ∧ LstF H0 H2 v2 (w ++ [x]) ∧ (∀ r e c, Own H r e c → Own H2 r e c) ∧ Rows2 H H2 := by
  obtain ⟨hk, hg, h⟩ := h
  have hkn := Keep.newExact H [.int .i64 x.1, .int .i64 x.2] 24
  have ho := Own.new H [.int .i64 x.1, .int .i64 x.2] 24
  have hr := ho.read (o := 0) (n := 1 * 2) (show 0 + 1 * 2 ≤ 2 by omega)
  rcases h with ⟨rfl, rfl⟩ | ⟨b, r, hb, hl, ha, hf, rfl, hpos⟩
  · obtain ⟨H2, h1, h2, h3, h4⟩ := append_nil2 infoR2 (hkn.grp hg) hr Nat.one_pos (show 1 ≤ 268435456 by omega)
    refine ⟨_, H2, h1, ⟨(hk.trans hkn).trans h3, h3.grp (hkn.grp hg), .inr ⟨_, _, (hk.trans hkn).size, h2.lt, by simpa [flat] using h2, ?_, rfl, by simp⟩⟩, fun r e c hO => (hO.keep hkn).keep h3, Keep.rows2 (hkn.trans h3)⟩
    intro q hq
    rw [h4, Heap.add_grps, cond_false, Trie.get_put, if_pos rfl, Option.getD_some] at hq
    obtain rfl := memN_single hq
    exact ⟨_, h2.get, rfl, by simp [flat], h2.lt⟩
  · obtain ⟨H2, h1, h2, h3, h4, h5, h6, h7, h8⟩ := append_more2 infoR2 (hkn.grp hg) (ha.keep hkn) (flat_len w) hr Nat.one_pos rfl (show w.length + 1 ≤ 268435456 by omega)
    obtain ⟨f1, f2⟩ := App.full (new := [.int .i64 x.1, .int .i64 x.2]) (ha.keep hkn) (hf.keep hl hkn)
    have h8' : (H.newExact [.int .i64 x.1, .int .i64 x.2] 24).grow r { cells := flat w, elem := 24, exact := false, ro := false, esz := 2, grp := 2 * b + 1, gpos := 0 } 0 (flat w).length [.int .i64 x.1, .int .i64 x.2] = H2 := h8
    rw [h8'] at f1 f2
    have hbl : b < H2.size := Nat.lt_of_lt_of_le hl (Nat.le_trans hkn.size f1.1)
    refine ⟨_, H2, h1, ⟨h4 H0 g0 (hk.trans hkn) hb, h5, .inr ⟨b, _, hb, hbl, ?_, ?_, by rw [List.length_append]; rfl, by simp⟩⟩, fun r e c hO => h6 _ _ _ (hO.keep hkn), (Keep.rows2 hkn).trans f1⟩
    · rw [flat_snoc]; exact h2
    · rw [flat_snoc]; exact f2
end Go.Proofs.YtnbhjbelgmkpeaaDoor
