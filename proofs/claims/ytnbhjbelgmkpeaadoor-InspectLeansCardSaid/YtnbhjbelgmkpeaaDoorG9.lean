/- Numbers in a row of one's own: slices of it, one left out. -/
import Derived.Test.YtnbhjbelgmkpeaaDoorG7
set_option linter.unusedVariables false
set_option linter.unusedSimpArgs false
set_option linter.unusedSectionVars false

namespace Go.Proofs.YtnbhjbelgmkpeaaDoor
open Go Go.AM
set_option maxRecDepth 10000
set_option linter.unusedSimpArgs false

abbrev ims (w : List Int) : List Value := w.map fun z => .int .i64 z
theorem aBound_nat {k n : Nat} (h : k ≤ n) : aBound (.int .i64 (k : Int)) n = some k := by
  unfold aBound
  simp only []
  rw [if_pos (by omega), Int.toNat_natCast]
theorem sizeI : Tryd.t3.size = 1 := by kernel_rfl
theorem infoI1 : Tryd.prog.info? 3 = some Tryd.t3 := by kernel_rfl
theorem sliceW {H : Heap} {r : Nat} {cells : List Value} (h : Own H r 3 cells) {n c : Nat} (hn : n ≤ c) {low high mx : Option Value} {l hh mm : Nat} (hb : aBounds n c low high mx = some (l, hh, mm)) :
    aSlice Tryd.prog H 25 (.slice (some ⟨r, 0, none⟩) n c) low high mx = some (.slice (some ⟨r, cond (Nat.beq mm l) 0 l, none⟩) (hh - l) (mm - l)) := by
  unfold aSlice
  rw [Tryd.underlying25]
  simp only [infoI1, h.get, hb]
  rw [Nat.ble_eq_true_of_le hn, sizeI]
  simp only [cond_true, Nat.mul_one, Nat.zero_add]
/-- s[:i], s[j:] and s[i:j:k]. -/
theorem slice_to {H : Heap} {r : Nat} {cells : List Value} (h : Own H r 3 cells) {n c i : Nat} (hn : n ≤ c) (hi : i ≤ n) (h0 : 0 < c) : aSlice Tryd.prog H 25 (.slice (some ⟨r, 0, none⟩) n c) none (some (.int .i64 (i : Int))) none = some (.slice (some ⟨r, 0, none⟩) i c) := by
  rw [sliceW h hn (l := 0) (hh := i) (mm := c) (by unfold aBounds; simp only []; rw [aBound_nat (show i ≤ c by omega)]), Trie.beq_ff (show c ≠ 0 by omega)]
  rfl
theorem slice_from {H : Heap} {r : Nat} {cells : List Value} (h : Own H r 3 cells) {n c j : Nat} (hn : n ≤ c) (hj : j ≤ n) (hc : j < c) : aSlice Tryd.prog H 25 (.slice (some ⟨r, 0, none⟩) n c) (some (.int .i64 (j : Int))) none none = some (.slice (some ⟨r, j, none⟩) (n - j) (c - j)) := by
  rw [sliceW h hn (l := j) (hh := n) (mm := c) (by unfold aBounds; simp only []; rw [aBound_nat hj]), Trie.beq_ff (show c ≠ j by omega)]
  rfl
theorem slice_two {H : Heap} {r : Nat} {cells : List Value} (h : Own H r 3 cells) {n c i j : Nat} (hn : n ≤ c) (hij : i ≤ j) (hj : j ≤ c) (hc : i < c) : aSlice Tryd.prog H 25 (.slice (some ⟨r, 0, none⟩) n c) (some (.int .i64 (i : Int))) (some (.int .i64 (j : Int))) none = some (.slice (some ⟨r, i, none⟩) (j - i) (c - i)) := by
  rw [sliceW h hn (l := i) (hh := j) (mm := c) (by unfold aBounds; simp only []; rw [aBound_nat hj]; simp only []; rw [aBound_nat hij]), Trie.beq_ff (show c ≠ i by omega)]
  rfl
theorem slice_three {H : Heap} {r : Nat} {cells : List Value} (h : Own H r 3 cells) {n c i j k : Nat} (hn : n ≤ c) (hij : i ≤ j) (hj : j ≤ k) (hk : k ≤ c) : ∃ v, aSlice Tryd.prog H 25 (.slice (some ⟨r, 0, none⟩) n c) (some (.int .i64 (i : Int))) (some (.int .i64 (j : Int))) (some (.int .i64 (k : Int))) = some v :=
  ⟨_, sliceW h hn (l := i) (hh := j) (mm := k) (by unfold aBounds; simp only []; rw [aBound_nat hk]; simp only []; rw [aBound_nat hj]; simp only []; rw [aBound_nat hij])⟩
theorem splice_keepN (W : List Int) (o : Nat) (new : List Int) (h : o + new.length ≤ W.length) : splice (ims W) o (ims new) = ims (W.take o ++ new ++ W.drop (o + new.length)) := by
  unfold splice ims
  rw [List.map_append, List.map_append, List.map_take, List.map_drop, List.length_map, List.append_assoc]
/-- Cells laid into a row of one's own. -/
theorem Own.put {H : Heap} {r : Nat} {e : TypeId} {cells : List Value} (h : Own H r e cells) (o : Nat) (new : List Value) :
    Own (H.store r { cells := cells, elem := e, exact := true, ro := false, esz := 0, grp := 2 * r, gpos := 0 } o new) r e (splice cells o new) ∧ (H.store r { cells := cells, elem := e, exact := true, ro := false, esz := 0, grp := 2 * r, gpos := 0 } o new).size = H.size ∧
    (∀ r' e' c', r' ≠ r → Own H r' e' c' → Own (H.store r { cells := cells, elem := e, exact := true, ro := false, esz := 0, grp := 2 * r, gpos := 0 } o new) r' e' c') ∧
    (∀ H0, Keep H0 H → H0.size ≤ r → Keep H0 (H.store r { cells := cells, elem := e, exact := true, ro := false, esz := 0, grp := 2 * r, gpos := 0 } o new)) := by
  refine ⟨⟨?_, ?_⟩, ?_, ?_, ?_⟩
  · rw [Heap.store_get, if_pos rfl]
  · rw [Heap.store_size]; exact h.lt
  · rw [Heap.store_size]
  · intro r' e' c' hr hO
    exact ⟨by rw [Heap.store_get, if_neg hr]; exact hO.get, by rw [Heap.store_size]; exact hO.lt⟩
  · intro H0 hk hr
    refine ⟨by rw [Heap.store_size]; exact hk.size, fun hl => ?_, ?_, fun r' row hr' hrow => ?_, ?_, fun g hg => ?_⟩
    · rw [Heap.store_size, Heap.store_low]
      simp only [cond_true]
      exact Nat.le_trans (Nat.min_le_right _ _) (hk.low hl)
    · rw [Heap.store_low]
      simp only [cond_true]
      have := hk.lo
      show min H0.low H0.size ≤ min r H.low
      omega
    · obtain ⟨k1, k2⟩ := hk.row r' row hr' hrow
      refine ⟨by rw [Heap.store_get, if_neg (by omega)]; exact k1, ?_⟩
      rw [← k2]
      unfold Heap.alive
      rw [Heap.store_grps]
      rfl
    · exact fun g => (hk.grp g).store h.get _ _
    · rw [Heap.store_grps]; exact hk.mem _ hg
/-- Append within the row. -/
theorem append_in {H : Heap} {r : Nat} {W : List Int} (h : Own H r 3 (ims W)) {i j n c c2 : Nat} (hc : c = W.length) (hi : i + n ≤ c) (hjn : j + n ≤ c) (hs : c ≤ 1000) :
    ∃ H2, aAppend Tryd.prog H #[25, 25] (.slice (some ⟨r, 0, none⟩) i c) (.slice (some ⟨r, j, none⟩) n c2) = some (.slice (some ⟨r, 0, none⟩) (i + n) c, H2) ∧ Own H2 r 3 (ims (W.take i ++ (W.drop j).take n ++ W.drop (i + n))) ∧ H2.size = H.size ∧
      (∀ H0, Keep H0 H → H0.size ≤ r → Keep H0 H2) ∧ (∀ r' e' c', r' ≠ r → Own H r' e' c' → Own H2 r' e' c') := by
  obtain ⟨⟨sT, xT, d, inf, z, h1, h2, h3, h4, h5, h6, h7, h8, h9, h10⟩, hp⟩ := okI
  have hsm : small (i + n) inf.bytes = true := by unfold small; rw [Nat.ble_eq_true_of_le (show i + n ≤ 268435456 by omega), Nat.ble_eq_true_of_le h10]; rfl
  have hlen : (ims W).length = W.length := by unfold ims; rw [List.length_map]
  rcases Nat.eq_zero_or_pos n with hn | hn
  · subst hn
    refine ⟨H, ?_, ?_, rfl, fun H0 hk _ => hk, fun r' e' c' _ ho => ho⟩
    · unfold aAppend
      rw [h1, h2]
      simp only [h3, h4, h5, h6, lenV, h7, h9]
      rw [show aFirst H 1 0 (.slice (some ⟨r, j, none⟩) 0 c2) = some [] from rfl]
      simp only []
      rw [Trie.beq_tt (h8.trans h9), show Nat.blt 0 1 = true from rfl, hsm]
      simp only [Bool.and_self, cond_true]
      unfold aAppendSome
      rw [h.get]
      simp only []
      rw [show Nat.beq 0 0 = true from rfl, cond_true, Nat.ble_eq_true_of_le (show i ≤ c by omega)]
      rfl
    · rw [List.take_zero, List.append_nil, Nat.add_zero, List.take_append_drop]; exact h
  · have hr : H.read r j n = some (ims ((W.drop j).take n)) := by
      rw [h.read (o := j) (n := n) (by rw [hlen]; omega)]
      unfold ims
      rw [List.map_take, List.map_drop]
    have hnl : ((W.drop j).take n).length = n := by rw [List.length_take, List.length_drop]; omega
    obtain ⟨p1, p2, p3, p4⟩ := Own.put h i (ims ((W.drop j).take n))
    rw [splice_keepN W i _ (by rw [hnl]; omega), hnl] at p1
    refine ⟨_, ?_, p1, p2, p4, p3⟩
    unfold aAppend
    rw [h1, h2]
    simp only [h3, h4, h5, h6, lenV, h7, h9]
    rw [show aFirst H 1 n (.slice (some ⟨r, j, none⟩) n c2) = some (ims ((W.drop j).take n)) from by
      show cond (Nat.beq (n * 1) 0) (some []) (H.read r j (n * 1)) = _
      rw [Trie.beq_ff (show n * 1 ≠ 0 by omega), cond_false, Nat.mul_one]; exact hr]
    simp only []
    rw [Trie.beq_tt (h8.trans h9), show Nat.blt 0 1 = true from rfl, hsm]
    simp only [Bool.and_self, cond_true]
    unfold aAppendSome
    rw [h.get]
    simp only []
    have hones : ones (ims ((W.drop j).take n)) = true := by
      have : ∀ l : List Int, ones (ims l) = true := fun l => by
        induction l with
        | nil => rfl
        | cons a l ih => exact ih
      exact this _
    rw [Trie.beq_ff (show n ≠ 0 by omega), cond_false, Nat.ble_eq_true_of_le (show i + n ≤ c by omega), hones]
    rw [show H.alive r { cells := ims W, elem := 3, exact := true, ro := false, esz := 0, grp := 2 * r, gpos := 0 } = true from rfl, show Nat.ble (0 + i * 1 + (ims ((W.drop j).take n)).length) (ims W).length = true from Nat.ble_eq_true_of_le (by rw [hlen]; unfold ims; rw [List.length_map, hnl]; omega)]
    simp only [Bool.and_self, Bool.true_or, Bool.not_false, cond_true, Nat.mul_one, Nat.zero_add]
end Go.Proofs.YtnbhjbelgmkpeaaDoor

namespace Go.Proofs.YtnbhjbelgmkpeaaDoor
open Go Go.AM
set_option maxRecDepth 10000
set_option linter.unusedSimpArgs false

theorem zeroI : (Tryd.prog.info? 3).bind (·.zero) = some (.int .i64 0) := by kernel_rfl
theorem clear_one {H : Heap} {r : Nat} {W : List Int} (h : Own H r 3 (ims W)) {o c : Nat} (ho : o < W.length) :
    ∃ H2, aClear Tryd.prog H #[25] (.slice (some ⟨r, o, none⟩) 1 c) = some (.tuple ⟨[]⟩, H2) ∧ Own H2 r 3 (ims (W.set o 0)) ∧ H2.size = H.size ∧
      (∀ H0, Keep H0 H → H0.size ≤ r → Keep H0 H2) ∧ (∀ r' e' c', r' ≠ r → Own H r' e' c' → Own H2 r' e' c') := by
  obtain ⟨p1, p2, p3, p4⟩ := Own.put h o [.int .i64 0]
  have hsp : splice (ims W) o [.int .i64 0] = ims (W.set o 0) := splice_map ho 0
  rw [hsp] at p1
  refine ⟨_, ?_, p1, p2, p4, p3⟩
  unfold aClear
  simp only [show (#[25] : Array TypeId)[0]? = some 25 from rfl, Tryd.underlying25, h.get]
  rw [zeroI]
  simp only []
  rw [show Nat.beq 1 0 = false from rfl, cond_false, show Nat.ble (o + 1) (ims W).length = true from Nat.ble_eq_true_of_le (by unfold ims; rw [List.length_map]; omega)]
  rfl
/-- A list in a row of one's own, with room behind it. -/
def OwnL (r : Nat) (H : Heap) (v : Value) (w : List Int) : Prop := ∃ z : List Int, v = .slice (some ⟨r, 0, none⟩) w.length (w.length + z.length) ∧ Own H r 3 (ims (w ++ z)) ∧ w.length + z.length ≤ 1000 ∧ (∀ x ∈ w, 0 ≤ x ∧ x ≤ 1000)
theorem OwnL.sl {r : Nat} {H : Heap} {v : Value} {w : List Int} (h : OwnL r H v w) : SlI .i64 H v w r 0 := by
  have hmx : Go.maxLen = 9223372036854775807 := rfl
  obtain ⟨z, rfl, ho, hs, hr⟩ := h
  refine ⟨⟨_, _, rfl, fun _ => rfl⟩, fun i hi => ⟨_, ?_, rfl, ?_⟩, fun _ => ho.lt, by omega⟩
  · have h1 := ho.read (o := i) (n := 1) (by unfold ims; rw [List.length_map, List.length_append]; omega)
    rw [show 0 + i * (intE .i64).sz = i by show 0 + i * 1 = i; omega]
    rw [show ((ims (w ++ z)).drop i).take 1 = [.int .i64 (w.getD i 0)] from by
      unfold ims
      rw [map_at (by rw [List.length_append]; omega), List.getD_eq_getElem?_getD, List.getElem?_append_left hi, ← List.getD_eq_getElem?_getD]] at h1
    exact h1
  · have := hr _ (getD_mem (d := 0) hi)
    exact ⟨by show (-9223372036854775808 : Int) ≤ w.getD i 0; omega, by show w.getD i 0 ≤ 9223372036854775807; omega⟩
theorem OwnL.keep {r : Nat} {H H' : Heap} {v : Value} {w : List Int} (h : OwnL r H v w) (hk : Keep H H') : OwnL r H' v w := by
  obtain ⟨z, h1, ho, h2⟩ := h
  exact ⟨z, h1, ho.keep hk, h2⟩

variable {S : AM.Sys} (hS : Only S 10)
include hS

theorem firstNumbers_runs (n : Nat) (H : Heap) (hn : n ≤ 5) (hg : Grp H) (hL : H.low ≤ H.size) : ∃ H' v, Keep H H' ∧ OwnL H.size H' v (nums n) ∧ Runs Tryd.prog S (.fn 74) [.int .i64 n] H v H' := by
  suffices h : WCall Tryd.prog S (.fn 74) [.int .i64 n] H (fun v H' => Keep H H' ∧ OwnL H.size H' v (nums n)) by
    obtain ⟨v, H', hr, h1, h2⟩ := h; exact ⟨H', v, h1, h2, hr⟩
  have mk := mkI H (l := (n : Int)) (by omega) (by omega)
  rw [Int.toNat_natCast] at mk
  obtain ⟨H1, e1, k1, z1, -, -⟩ := box1 H ((List.replicate n (0 : Int)).map fun z => .int .i64 z) 3
  have ow1 : Own H1 H.size 3 (ims (List.replicate n 0)) := e1 ▸ Own.new H _ _
  rw [e1] at mk
  refine call_of Tryd.func74 rfl (Nat.le_of_ble_eq_true rfl) (hS.no rfl _ _) ?_
  rw [Tryd.ntmps74, Tryd.results74]
  clear e1
  repeat' (first | (with_reducible refine sxGuardB_tsp (fun h => ?_) (fun h => ?_)) | (with_reducible refine sxGuardB_fsp (fun h => ?_) (fun h => ?_)) | (with_reducible refine sxIfB_sp (fun h => ?_) (fun h => ?_)) | simp only [↓sxC_skip, ↓sxC_draw, ↓sxC_region, ↓sxC_seq, ↓bxC_cond, ↓bxC_loop, ↓sxC_block, ↓sxC_exit, ↓sxC_goto, ↓sxC_ret, ↓sxOps_nil, ↓sxOps_cons, ↓sxDraw_nil, ↓bxDraw_cons, ↓sxDL_move, ↓sxDL_assign, ↓sxDL_pick, ↓sxDL_alloc, ↓sxDL_box, ↓sxDL_build, ↓sxDL_buildSlice, ↓sxDL_insert, ↓sxDL_load, ↓sxDL_nilCheck, ↓sxDL_binOp, ↓sxDL_unOp, ↓sxDL_convert, ↓sxDL_makeInterface, ↓sxDL_makeFunc, ↓sxDL_makeMap, ↓sxDL_makeSlice, ↓sxDL_slice, ↓sxDL_fieldAddr, ↓sxDL_field, ↓sxDL_indexAddr, ↓sxDL_index, ↓sxDL_typeAssert, ↓sxDL_extract, ↓sxDL_call, ↓sxDL_lookup, ↓sxDL_mapUpdate, ↓sxDL_range, ↓sxDL_next, ↓sxDL_entry, ↓sxDL_mapEntry, ↓sxDL_entryStore, ↓sxD_same, ↓sxStep_none, ↓bxStep_some, ↓bxOp_move, ↓bxOp_assign, ↓bxOp_pick, ↓bxOp_alloc, ↓bxOp_box, ↓bxOp_build, ↓bxOp_buildSlice, ↓bxOp_load, ↓bxOp_store, ↓bxOp_nilCheck, ↓bxOp_bin, ↓bxOp_un, ↓bxOp_makeI, ↓bxOp_makeFunc, ↓bxOp_makeSlice, ↓bxOp_slice, ↓bxOp_fieldAddr, ↓bxOp_field, ↓bxOp_indexAddr, ↓bxOp_index, ↓bxOp_assert, ↓bxOp_extract, ↓bxOp_value, ↓bxOp_len, ↓bxOp_cap, ↓bxOp_append, ↓bxOp_copy, ↓bxOp_clear, ↓bxOp_max, ↓bxOp_min, ↓bxOp_convert, ↓sxPut_none, ↓bxPut, ↓seqQ_normal, ↓seqQ_exit, ↓seqQ_ret, ↓seqQ_goto, ↓blockQ_normal, ↓blockQ_ret, ↓blockQ_goto, ↓blockQ_exit, ↓loopQ_normal, ↓loopQ_exit, ↓loopQ_ret, ↓loopQ_goto, ↓resQ_normal, ↓resQ_ret, ↓sxRes_nil, ↓sxRes_tmp, ↓bxRes_cell, ↓upd_apply, ↓ev_tmp, ↓ev_const, ↓ev_global, ↓ev_func, ↓dstAt, ↓gval_some, sxOptB_some, sxOptB_ite, mm_max, mm_min, binP_shl, binP_shr, binP_int, intBin, una_not_dec, una_nt, una_nf, una_neg, aPick_true, aPick_false, sxCallVB_fn, sxCallVB_yield, sxGuardB_u, sxGuardB_tt, sxGuardB_tf, sxGuardB_ft, sxGuardB_ff, sxIfB_t, sxIfB_f, packRes_one, packRes_two, List.map_cons, List.map_nil, List.nil_append, List.cons_append, List.append_nil, ↓reduceIte, Nat.reduceEqDiff, Nat.reduceLT, dec_T, dec_F, false_imp, true_and, and_true, true_implies, implies_true, false_and, and_false, true_or, or_true, false_or, or_false, and_self, or_self, read_relow, size_relow, low_relow, relow_relow, aLoad_relow, Nat.add_zero, Nat.mul_one, one1, Option.bind_some, ne_eq, Int.natCast_nonneg, Int.toNat_natCast, not_true_eq_false, not_false_eq_true, Option.map_some, Option.map_none, *, argF, List.getD_cons_zero, List.getD_cons_succ, lenI] | (with_reducible refine sxDL_barE (by assumption) (by decide +kernel) ?_) | (with_reducible refine sxDL_bar (by decide +kernel) ?_) | (with_reducible refine sxD_bar (by decide +kernel) ?_))
  refine sxL_of (fun m ρ H3 => ∃ (i : Nat) (u : List Int), m = n - i ∧ i ≤ n ∧ u.length = n ∧ (∀ k, k < i → u.getD k 0 = (k : Int)) ∧ Keep H H3 ∧ Own H3 H.size 3 (ims u) ∧ ρ 3 = .slice (some ⟨H.size, 0, none⟩) n n ∧ ρ 8 = .int .i64 n ∧ ρ 9 = .int .i64 i)
    ⟨0, List.replicate n 0, rfl, Nat.zero_le _, List.length_replicate, fun k hk => absurd hk (Nat.not_lt_zero k), k1, ow1, rfl, rfl, rfl⟩ ?_
  rintro m ρ H3 ⟨i, u, rfl, hi, hul, hall, k3, ow3, e3, e8, e9⟩
  refine shieldG fun P hP => ?_
  by_cases hin : i = n
  · have hc : ¬ (i : Int) < (n : Int) := by omega
    have hu : u = nums n := by
      apply List.ext_getElem?
      intro k
      rcases Nat.lt_or_ge k n with h | h
      · have h1 := hall k (by omega)
        rw [List.getD_eq_getElem?_getD, List.getElem?_eq_getElem (by omega)] at h1
        rw [List.getElem?_eq_getElem (by omega)]
        unfold nums
        rw [List.getElem?_map, List.getElem?_range h]
        exact congrArg some h1
      · rw [List.getElem?_eq_none (by omega), List.getElem?_eq_none (by rw [nums_len]; omega)]
    have hfin : OwnL H.size H3 (.slice (some ⟨H.size, 0, none⟩) n n) (nums n) := ⟨[], by rw [nums_len]; rfl, by rw [List.append_nil, ← hu]; exact ow3, by rw [nums_len]; simp; omega, fun x hx => by have := nums_mem hx; omega⟩
    clear hall hu hul ow3 ow1 mk hin hi
    subst hP
    repeat' (first | (with_reducible refine sxGuardB_tsp (fun h => ?_) (fun h => ?_)) | (with_reducible refine sxGuardB_fsp (fun h => ?_) (fun h => ?_)) | (with_reducible refine sxIfB_sp (fun h => ?_) (fun h => ?_)) | simp only [↓sxC_skip, ↓sxC_draw, ↓sxC_region, ↓sxC_seq, ↓bxC_cond, ↓bxC_loop, ↓sxC_block, ↓sxC_exit, ↓sxC_goto, ↓sxC_ret, ↓sxOps_nil, ↓sxOps_cons, ↓sxDraw_nil, ↓bxDraw_cons, ↓sxDL_move, ↓sxDL_assign, ↓sxDL_pick, ↓sxDL_alloc, ↓sxDL_box, ↓sxDL_build, ↓sxDL_buildSlice, ↓sxDL_insert, ↓sxDL_load, ↓sxDL_nilCheck, ↓sxDL_binOp, ↓sxDL_unOp, ↓sxDL_convert, ↓sxDL_makeInterface, ↓sxDL_makeFunc, ↓sxDL_makeMap, ↓sxDL_makeSlice, ↓sxDL_slice, ↓sxDL_fieldAddr, ↓sxDL_field, ↓sxDL_indexAddr, ↓sxDL_index, ↓sxDL_typeAssert, ↓sxDL_extract, ↓sxDL_call, ↓sxDL_lookup, ↓sxDL_mapUpdate, ↓sxDL_range, ↓sxDL_next, ↓sxDL_entry, ↓sxDL_mapEntry, ↓sxDL_entryStore, ↓sxD_same, ↓sxStep_none, ↓bxStep_some, ↓bxOp_move, ↓bxOp_assign, ↓bxOp_pick, ↓bxOp_alloc, ↓bxOp_box, ↓bxOp_build, ↓bxOp_buildSlice, ↓bxOp_load, ↓bxOp_store, ↓bxOp_nilCheck, ↓bxOp_bin, ↓bxOp_un, ↓bxOp_makeI, ↓bxOp_makeFunc, ↓bxOp_makeSlice, ↓bxOp_slice, ↓bxOp_fieldAddr, ↓bxOp_field, ↓bxOp_indexAddr, ↓bxOp_index, ↓bxOp_assert, ↓bxOp_extract, ↓bxOp_value, ↓bxOp_len, ↓bxOp_cap, ↓bxOp_append, ↓bxOp_copy, ↓bxOp_clear, ↓bxOp_max, ↓bxOp_min, ↓bxOp_convert, ↓sxPut_none, ↓bxPut, ↓seqQ_normal, ↓seqQ_exit, ↓seqQ_ret, ↓seqQ_goto, ↓blockQ_normal, ↓blockQ_ret, ↓blockQ_goto, ↓blockQ_exit, ↓loopQ_normal, ↓loopQ_exit, ↓loopQ_ret, ↓loopQ_goto, ↓resQ_normal, ↓resQ_ret, ↓sxRes_nil, ↓sxRes_tmp, ↓bxRes_cell, ↓upd_apply, ↓ev_tmp, ↓ev_const, ↓ev_global, ↓ev_func, ↓dstAt, ↓gval_some, sxOptB_some, sxOptB_ite, mm_max, mm_min, binP_shl, binP_shr, binP_int, intBin, una_not_dec, una_nt, una_nf, una_neg, aPick_true, aPick_false, sxCallVB_fn, sxCallVB_yield, sxGuardB_u, sxGuardB_tt, sxGuardB_tf, sxGuardB_ft, sxGuardB_ff, sxIfB_t, sxIfB_f, packRes_one, packRes_two, List.map_cons, List.map_nil, List.nil_append, List.cons_append, List.append_nil, ↓reduceIte, Nat.reduceEqDiff, Nat.reduceLT, dec_T, dec_F, false_imp, true_and, and_true, true_implies, implies_true, false_and, and_false, true_or, or_true, false_or, or_false, and_self, or_self, read_relow, size_relow, low_relow, relow_relow, aLoad_relow, Nat.add_zero, Nat.mul_one, one1, Option.bind_some, ne_eq, Int.natCast_nonneg, Int.toNat_natCast, not_true_eq_false, not_false_eq_true, Option.map_some, Option.map_none, *] | (with_reducible refine sxDL_barE (by assumption) (by decide +kernel) ?_) | (with_reducible refine sxDL_bar (by decide +kernel) ?_) | (with_reducible refine sxD_bar (by decide +kernel) ?_))
  · have hc : (i : Int) < (n : Int) := by omega
    have hlt : i < u.length := by omega
    have hob := stI ow3 (i : Int) hlt
    obtain ⟨H4, p4, ow4, kk4, z4⟩ := hob
    have k4 := kk4 H k3 (Nat.le_refl _)
    have ix : aIndexAt Tryd.prog 25 (.slice (some ⟨H.size, 0, none⟩) n n) (.int .i64 (i : Int)) = some (.pointer (some ⟨H.size, i, none⟩)) := by rw [ixI, if_pos ⟨by omega, by omega⟩, Int.toNat_natCast, Nat.mul_one, Nat.zero_add]
    have hall2 : ∀ k, k < i + 1 → (u.set i (i : Int)).getD k 0 = (k : Int) := fun k hk => by
      rw [set_getD hlt]
      split
      · omega
      · exact hall k (by omega)
    have hul2 : (u.set i (i : Int)).length = n := by rw [List.length_set]; exact hul
    have w5 : IntKind.i64.wrap ((i : Int) + 1) = ((i + 1 : Nat) : Int) := by rw [IntWalk.i64_in _ (by omega)]; omega
    clear hall hul ow3 ow1 mk kk4 z4 hin hlt
    subst hP
    repeat' (first | (with_reducible refine sxGuardB_tsp (fun h => ?_) (fun h => ?_)) | (with_reducible refine sxGuardB_fsp (fun h => ?_) (fun h => ?_)) | (with_reducible refine sxIfB_sp (fun h => ?_) (fun h => ?_)) | simp only [↓sxC_skip, ↓sxC_draw, ↓sxC_region, ↓sxC_seq, ↓bxC_cond, ↓bxC_loop, ↓sxC_block, ↓sxC_exit, ↓sxC_goto, ↓sxC_ret, ↓sxOps_nil, ↓sxOps_cons, ↓sxDraw_nil, ↓bxDraw_cons, ↓sxDL_move, ↓sxDL_assign, ↓sxDL_pick, ↓sxDL_alloc, ↓sxDL_box, ↓sxDL_build, ↓sxDL_buildSlice, ↓sxDL_insert, ↓sxDL_load, ↓sxDL_nilCheck, ↓sxDL_binOp, ↓sxDL_unOp, ↓sxDL_convert, ↓sxDL_makeInterface, ↓sxDL_makeFunc, ↓sxDL_makeMap, ↓sxDL_makeSlice, ↓sxDL_slice, ↓sxDL_fieldAddr, ↓sxDL_field, ↓sxDL_indexAddr, ↓sxDL_index, ↓sxDL_typeAssert, ↓sxDL_extract, ↓sxDL_call, ↓sxDL_lookup, ↓sxDL_mapUpdate, ↓sxDL_range, ↓sxDL_next, ↓sxDL_entry, ↓sxDL_mapEntry, ↓sxDL_entryStore, ↓sxD_same, ↓sxStep_none, ↓bxStep_some, ↓bxOp_move, ↓bxOp_assign, ↓bxOp_pick, ↓bxOp_alloc, ↓bxOp_box, ↓bxOp_build, ↓bxOp_buildSlice, ↓bxOp_load, ↓bxOp_store, ↓bxOp_nilCheck, ↓bxOp_bin, ↓bxOp_un, ↓bxOp_makeI, ↓bxOp_makeFunc, ↓bxOp_makeSlice, ↓bxOp_slice, ↓bxOp_fieldAddr, ↓bxOp_field, ↓bxOp_indexAddr, ↓bxOp_index, ↓bxOp_assert, ↓bxOp_extract, ↓bxOp_value, ↓bxOp_len, ↓bxOp_cap, ↓bxOp_append, ↓bxOp_copy, ↓bxOp_clear, ↓bxOp_max, ↓bxOp_min, ↓bxOp_convert, ↓sxPut_none, ↓bxPut, ↓seqQ_normal, ↓seqQ_exit, ↓seqQ_ret, ↓seqQ_goto, ↓blockQ_normal, ↓blockQ_ret, ↓blockQ_goto, ↓blockQ_exit, ↓loopQ_normal, ↓loopQ_exit, ↓loopQ_ret, ↓loopQ_goto, ↓resQ_normal, ↓resQ_ret, ↓sxRes_nil, ↓sxRes_tmp, ↓bxRes_cell, ↓upd_apply, ↓ev_tmp, ↓ev_const, ↓ev_global, ↓ev_func, ↓dstAt, ↓gval_some, sxOptB_some, sxOptB_ite, mm_max, mm_min, binP_shl, binP_shr, binP_int, intBin, una_not_dec, una_nt, una_nf, una_neg, aPick_true, aPick_false, sxCallVB_fn, sxCallVB_yield, sxGuardB_u, sxGuardB_tt, sxGuardB_tf, sxGuardB_ft, sxGuardB_ff, sxIfB_t, sxIfB_f, packRes_one, packRes_two, List.map_cons, List.map_nil, List.nil_append, List.cons_append, List.append_nil, ↓reduceIte, Nat.reduceEqDiff, Nat.reduceLT, dec_T, dec_F, false_imp, true_and, and_true, true_implies, implies_true, false_and, and_false, true_or, or_true, false_or, or_false, and_self, or_self, read_relow, size_relow, low_relow, relow_relow, aLoad_relow, Nat.add_zero, Nat.mul_one, one1, Option.bind_some, ne_eq, Int.natCast_nonneg, Int.toNat_natCast, not_true_eq_false, not_false_eq_true, Option.map_some, Option.map_none, *, lenI] | (with_reducible refine sxDL_barE (by assumption) (by decide +kernel) ?_) | (with_reducible refine sxDL_bar (by decide +kernel) ?_) | (with_reducible refine sxD_bar (by decide +kernel) ?_))
    exact ⟨_, by omega, i + 1, _, rfl, by omega, hul2, hall2, ow4, rfl⟩
end Go.Proofs.YtnbhjbelgmkpeaaDoor

namespace Go.Proofs.YtnbhjbelgmkpeaaDoor
open Go Go.AM
set_option maxRecDepth 10000
set_option linter.unusedSimpArgs false

theorem del_cells (w z : List Int) (i : Nat) (hi : i < w.length) : ((w ++ z).take i ++ ((w ++ z).drop (i + 1)).take (w.length - (i + 1)) ++ (w ++ z).drop (i + (w.length - (i + 1)))).set (w.length - 1) 0 = w.eraseIdx i ++ 0 :: z := by
  have h1 : (w ++ z).take i = w.take i := by rw [List.take_append_of_le_length (by omega)]
  have h2 : ((w ++ z).drop (i + 1)).take (w.length - (i + 1)) = w.drop (i + 1) := by
    rw [List.drop_append_of_le_length (by omega), List.take_append_of_le_length (by rw [List.length_drop]; omega), List.take_of_length_le (by rw [List.length_drop]; omega)]
  have h3 : (w ++ z).drop (i + (w.length - (i + 1))) = w.getD (w.length - 1) 0 :: z := by
    rw [show i + (w.length - (i + 1)) = w.length - 1 by omega, List.drop_append_of_le_length (by omega), drop_at (show w.length - 1 < w.length by omega), List.drop_of_length_le (by omega)]
    rfl
  rw [h1, h2, h3, List.eraseIdx_eq_take_drop_succ]
  have hl : (w.take i ++ w.drop (i + 1)).length = w.length - 1 := by rw [List.length_append, List.length_take, List.length_drop]; omega
  rw [List.set_append_right _ _ (by omega), hl, Nat.sub_self]
  rfl

variable {S : AM.Sys} (hS : Only S 10)
include hS

theorem delete_runs (r : Nat) (v : Value) (w : List Int) (i : Nat) (H0 H : Heap) (hk : Keep H0 H) (hr0 : H0.size ≤ r) (hL : H.low ≤ H.size) (h : OwnL r H v w) (hi : i < w.length) :
    ∃ H' v', Keep H0 H' ∧ OwnL r H' v' (w.eraseIdx i) ∧ (∀ r' e' c', r' ≠ r → Own H r' e' c' → Own H' r' e' c') ∧ Runs Tryd.prog S (.fn 77) [v, .int .i64 i, .int .i64 ((i : Int) + 1)] H v' H' := by
  suffices hx : WCall Tryd.prog S (.fn 77) [v, .int .i64 i, .int .i64 ((i : Int) + 1)] H (fun v' H' => Keep H0 H' ∧ OwnL r H' v' (w.eraseIdx i) ∧ (∀ r' e' c', r' ≠ r → Own H r' e' c' → Own H' r' e' c')) by
    obtain ⟨v', H', hr, h1, h2, h3⟩ := hx; exact ⟨H', v', h1, h2, h3, hr⟩
  obtain ⟨z, rfl, ho, hs, hrg⟩ := h
  have hcl : w.length + z.length = (w ++ z).length := by rw [List.length_append]
  have hor := ho.addr (l := H.size)
  obtain ⟨vv, s3⟩ := slice_three ho (n := w.length) (c := w.length + z.length) (i := i) (j := i + 1) (k := w.length) (by omega) (by omega) (by omega) (by omega)
  have s1 := slice_to hor (n := w.length) (c := w.length + z.length) (i := i) (by omega) (by omega) (by omega)
  have s2 := sliceW hor (n := w.length) (c := w.length + z.length) (low := some (.int .i64 ((i + 1 : Nat) : Int))) (high := none) (mx := none) (by omega) (l := i + 1) (hh := w.length) (mm := w.length + z.length) (by unfold aBounds; simp only []; rw [aBound_nat (show i + 1 ≤ w.length by omega)])
  have hj : ∃ j, cond (Nat.beq (w.length + z.length) (i + 1)) 0 (i + 1) = j ∧ j + (w.length - (i + 1)) ≤ w.length + z.length ∧ i ≤ w.length ∧ ((w ++ z).drop j).take (w.length - (i + 1)) = ((w ++ z).drop (i + 1)).take (w.length - (i + 1)) ∧ (i ≤ j ∨ w.length - (i + 1) = 0) := by
    by_cases he : w.length + z.length = i + 1
    · refine ⟨0, by rw [Trie.beq_tt he]; rfl, by omega, by omega, ?_, .inr (by omega)⟩
      rw [show w.length - (i + 1) = 0 by omega, List.take_zero, List.take_zero]
    · exact ⟨i + 1, by rw [Trie.beq_ff he]; rfl, by omega, by omega, rfl, .inl (by omega)⟩
  obtain ⟨j, hje, hj1, hj2, hj3, hj4⟩ := hj
  rw [hje] at s2
  have hap : ∃ H2, aAppend Tryd.prog (H.relow H.size) #[25, 25] (.slice (some ⟨r, 0, none⟩) i (w.length + z.length)) (.slice (some ⟨r, j, none⟩) (w.length - (i + 1)) (w.length + z.length - (i + 1))) = some (.slice (some ⟨r, 0, none⟩) (i + (w.length - (i + 1))) (w.length + z.length), H2) ∧
      Own H2 r 3 (ims ((w ++ z).take i ++ ((w ++ z).drop j).take (w.length - (i + 1)) ++ (w ++ z).drop (i + (w.length - (i + 1))))) ∧ H2.size = H.size ∧ (∀ H0, Keep H0 (H.relow H.size) → H0.size ≤ r → Keep H0 H2) ∧ (∀ r' e' c', r' ≠ r → Own (H.relow H.size) r' e' c' → Own H2 r' e' c') := by
    exact append_in hor hcl (by omega) hj1 hs
  obtain ⟨H2a, p2, ow2a, z2, kk2, oo2⟩ := hap
  rw [hj3] at ow2a
  have k2 : Keep H0 (H2a.relow (Nat.min H.low H2a.low)) := Keep.lower hk (kk2 H0 (hk.trans (Keep.relowS H)) hr0)
  have hob2 : ∃ H2, H2a.relow (Nat.min H.low H2a.low) = H2 := ⟨_, rfl⟩
  obtain ⟨H2, y2⟩ := hob2
  have ow2 : Own H2 r 3 _ := y2 ▸ ow2a.addr
  rw [y2] at k2
  have l2 : H2.low ≤ H2.size := by
    rw [← y2]
    show Nat.min H.low H2a.low ≤ H2a.size
    rw [z2]
    exact Nat.le_trans (Nat.min_le_left _ _) hL
  have hm : i + (w.length - (i + 1)) = w.length - 1 := by omega
  have hlen2 : ((w ++ z).take i ++ ((w ++ z).drop (i + 1)).take (w.length - (i + 1)) ++ (w ++ z).drop (i + (w.length - (i + 1)))).length = w.length + z.length := by
    simp only [List.length_append, List.length_take, List.length_drop]; omega
  have s5 := slice_two ow2 (n := i + (w.length - (i + 1))) (c := w.length + z.length) (i := i + (w.length - (i + 1))) (j := w.length) (by omega) (by omega) (by omega) (by omega)
  obtain ⟨H3, p3, ow3, z3, kk3, oo3⟩ := clear_one ow2 (o := w.length - 1) (c := w.length + z.length - (w.length - 1)) (by rw [hlen2]; omega)
  rw [del_cells w z i hi] at ow3
  have k3 := kk3 H0 k2 hr0
  have hel : (w.eraseIdx i).length = w.length - 1 := List.length_eraseIdx_of_lt hi
  have hfin : OwnL r H3 (.slice (some ⟨r, 0, none⟩) (w.length - 1) (w.length + z.length)) (w.eraseIdx i) :=
    ⟨0 :: z, by rw [hel, List.length_cons]; congr 1; omega, ow3, by rw [hel, List.length_cons]; omega, fun x hx => hrg x (List.mem_of_mem_eraseIdx hx)⟩
  have hoth : ∀ r' e' c', r' ≠ r → Own H r' e' c' → Own H3 r' e' c' := fun r' e' c' hne hw => oo3 _ _ _ hne (y2 ▸ (oo2 _ _ _ hne hw.addr).addr)
  rw [hm] at p2 s5
  rw [show w.length - (w.length - 1) = 1 by omega] at s5
  have hne : ¬ (i : Int) = (i : Int) + 1 := by omega
  have e1 : ((i + 1 : Nat) : Int) = (i : Int) + 1 := by omega
  rw [e1] at s3 s2
  clear ow2a ow2 ow3 kk2 kk3 oo2 oo3 ho hor hrg hs hcl hj1 hj2 hj3 hj4 hje hlen2 hm hel z2 z3 e1
  refine call_of Tryd.func77 rfl (Nat.le_of_ble_eq_true rfl) (hS.no rfl _ _) ?_
  rw [Tryd.ntmps77, Tryd.results77]
  repeat' (first | (with_reducible refine sxGuardB_tsp (fun h => ?_) (fun h => ?_)) | (with_reducible refine sxGuardB_fsp (fun h => ?_) (fun h => ?_)) | (with_reducible refine sxIfB_sp (fun h => ?_) (fun h => ?_)) | simp only [↓sxC_skip, ↓sxC_draw, ↓sxC_region, ↓sxC_seq, ↓bxC_cond, ↓bxC_loop, ↓sxC_block, ↓sxC_exit, ↓sxC_goto, ↓sxC_ret, ↓sxOps_nil, ↓sxOps_cons, ↓sxDraw_nil, ↓bxDraw_cons, ↓sxDL_move, ↓sxDL_assign, ↓sxDL_pick, ↓sxDL_alloc, ↓sxDL_box, ↓sxDL_build, ↓sxDL_buildSlice, ↓sxDL_insert, ↓sxDL_load, ↓sxDL_nilCheck, ↓sxDL_binOp, ↓sxDL_unOp, ↓sxDL_convert, ↓sxDL_makeInterface, ↓sxDL_makeFunc, ↓sxDL_makeMap, ↓sxDL_makeSlice, ↓sxDL_slice, ↓sxDL_fieldAddr, ↓sxDL_field, ↓sxDL_indexAddr, ↓sxDL_index, ↓sxDL_typeAssert, ↓sxDL_extract, ↓sxDL_call, ↓sxDL_lookup, ↓sxDL_mapUpdate, ↓sxDL_range, ↓sxDL_next, ↓sxDL_entry, ↓sxDL_mapEntry, ↓sxDL_entryStore, ↓sxD_same, ↓sxStep_none, ↓bxStep_some, ↓bxOp_move, ↓bxOp_assign, ↓bxOp_pick, ↓bxOp_alloc, ↓bxOp_box, ↓bxOp_build, ↓bxOp_buildSlice, ↓bxOp_load, ↓bxOp_store, ↓bxOp_nilCheck, ↓bxOp_bin, ↓bxOp_un, ↓bxOp_makeI, ↓bxOp_makeFunc, ↓bxOp_makeSlice, ↓bxOp_slice, ↓bxOp_fieldAddr, ↓bxOp_field, ↓bxOp_indexAddr, ↓bxOp_index, ↓bxOp_assert, ↓bxOp_extract, ↓bxOp_value, ↓bxOp_len, ↓bxOp_cap, ↓bxOp_append, ↓bxOp_copy, ↓bxOp_clear, ↓bxOp_max, ↓bxOp_min, ↓bxOp_convert, ↓sxPut_none, ↓bxPut, ↓seqQ_normal, ↓seqQ_exit, ↓seqQ_ret, ↓seqQ_goto, ↓blockQ_normal, ↓blockQ_ret, ↓blockQ_goto, ↓blockQ_exit, ↓loopQ_normal, ↓loopQ_exit, ↓loopQ_ret, ↓loopQ_goto, ↓resQ_normal, ↓resQ_ret, ↓sxRes_nil, ↓sxRes_tmp, ↓bxRes_cell, ↓upd_apply, ↓ev_tmp, ↓ev_const, ↓ev_global, ↓ev_func, ↓dstAt, ↓gval_some, sxOptB_some, sxOptB_ite, mm_max, mm_min, binP_shl, binP_shr, binP_int, intBin, una_not_dec, una_nt, una_nf, una_neg, aPick_true, aPick_false, sxCallVB_fn, sxCallVB_yield, sxGuardB_u, sxGuardB_tt, sxGuardB_tf, sxGuardB_ft, sxGuardB_ff, sxIfB_t, sxIfB_f, packRes_one, packRes_two, List.map_cons, List.map_nil, List.nil_append, List.cons_append, List.append_nil, ↓reduceIte, Nat.reduceEqDiff, Nat.reduceLT, dec_T, dec_F, false_imp, true_and, and_true, true_implies, implies_true, false_and, and_false, true_or, or_true, false_or, or_false, and_self, or_self, read_relow, size_relow, low_relow, relow_relow, aLoad_relow, Nat.add_zero, Nat.mul_one, one1, Option.bind_some, ne_eq, Int.natCast_nonneg, Int.toNat_natCast, not_true_eq_false, not_false_eq_true, Option.map_some, Option.map_none, *, argF, List.getD_cons_zero, List.getD_cons_succ, lenI] | (with_reducible refine sxDL_barE (by assumption) (by decide +kernel) ?_) | (with_reducible refine sxDL_bar (by decide +kernel) ?_) | (with_reducible refine sxD_bar (by decide +kernel) ?_))
  exact fun r' e' c' hne hw => hoth r' e' c' hne hw

end Go.Proofs.YtnbhjbelgmkpeaaDoor
