/- Good of the reference and isWalk of the program come to what is said, for all arguments. -/
import Derived.Test.YtimbciadadjhiaaDoorR1
set_option linter.unusedVariables false
set_option linter.unusedSimpArgs false
set_option linter.unusedSectionVars false
namespace Go.Proofs.YtimbciadadjhiaaDoor
open Go Go.AM
set_option maxRecDepth 10000
set_option linter.unusedSimpArgs false
theorem al39 (H : Heap) : aAlloc Tryd.prog H 39 = some (.pointer (some ⟨H.size, 0, none⟩), H.newExact [.int .i64 0, .int .i64 0, .int .i64 0, .int .i64 0] 39) := by kernel_rfl
theorem info39 : ∃ i, Tryd.prog.info? 39 = some i ∧ i.size = 4 := ⟨Tryd.t39, by kernel_rfl, by kernel_rfl⟩
theorem st39 (H : Heap) (o : Off) : ∃ H2, aStore Tryd.prog (H.newExact [.int .i64 0, .int .i64 0, .int .i64 0, .int .i64 0] 39) 39 (.pointer (some ⟨H.size, 0, none⟩)) (.agg ⟨o.cells⟩) = some H2 ∧ Keep H H2 ∧
    H2.read H.size 0 1 = some [.int .i64 o.f] ∧ H2.read H.size 1 1 = some [.int .i64 o.t] ∧ H2.read H.size 2 1 = some [.int .i64 o.n] ∧ H2.read H.size 3 1 = some [.int .i64 o.d] := by
  obtain ⟨i, hi, hs⟩ := info39
  obtain ⟨H2, h1, h2, _, h3⟩ := store_new (P := Tryd.prog) (t := 39) (e := 39) hi H (l := [.int .i64 0, .int .i64 0, .int .i64 0, .int .i64 0]) (cells := o.cells) rfl (hs.trans rfl) rfl
  exact ⟨H2, h1, h2, h3 0 1 (show 0 + 1 ≤ 4 by omega), h3 1 1 (show 1 + 1 ≤ 4 by omega), h3 2 1 (show 2 + 1 ≤ 4 by omega), h3 3 1 (show 3 + 1 ≤ 4 by omega)⟩

variable {S : AM.Sys} (hS : Only S 5)
include hS

theorem good_runs (n : Int) (v : Value) (l : List Off) (r o : Nat) (H : Heap) (hl : SlO H v l r o) (hlen : l.length ≤ 4611686018427387904) :
    ∃ H', Keep H H' ∧ Runs Tryd.prog S (.fn 15) [.int .i64 n, v] H (.int .i64 (chk n l)) H' := by
  suffices h : WCall Tryd.prog S (.fn 15) [.int .i64 n, v] H (fun v H' => v = .int .i64 (chk n l) ∧ Keep H H') by
    obtain ⟨_, H', hr, rfl, hk⟩ := h; exact ⟨H', hk, hr⟩
  obtain ⟨a, cap, rfl⟩ := hl.isv
  refine call_of Tryd.func15 rfl (Nat.le_of_ble_eq_true rfl) (hS.no rfl _ _) ?_
  rw [Tryd.ntmps15, Tryd.results15]
  repeat' (first | (with_reducible refine sxGuardB_tsp (fun h => ?_) (fun h => ?_)) | (with_reducible refine sxGuardB_fsp (fun h => ?_) (fun h => ?_)) | (with_reducible refine sxIfB_sp (fun h => ?_) (fun h => ?_)) | simp only [↓sxC_skip, ↓sxC_draw, ↓sxC_region, ↓sxC_seq, ↓bxC_cond, ↓bxC_loop, ↓sxC_block, ↓sxC_exit, ↓sxC_goto, ↓sxC_ret, ↓sxOps_nil, ↓sxOps_cons, ↓sxDraw_nil, ↓bxDraw_cons, ↓sxD_same, ↓sxStep_none, ↓bxStep_some, ↓bxOp_move, ↓bxOp_assign, ↓bxOp_pick, ↓bxOp_alloc, ↓bxOp_box, ↓bxOp_build, ↓bxOp_buildSlice, ↓bxOp_load, ↓bxOp_store, ↓bxOp_nilCheck, ↓bxOp_bin, ↓bxOp_un, ↓bxOp_makeI, ↓bxOp_makeFunc, ↓bxOp_makeSlice, ↓bxOp_slice, ↓bxOp_fieldAddr, ↓bxOp_field, ↓bxOp_indexAddr, ↓bxOp_index, ↓bxOp_assert, ↓bxOp_extract, ↓bxOp_value, ↓bxOp_len, ↓bxOp_cap, ↓bxOp_append, ↓bxOp_copy, ↓sxPut_none, ↓bxPut, ↓seqQ_normal, ↓seqQ_exit, ↓seqQ_ret, ↓seqQ_goto, ↓blockQ_normal, ↓blockQ_ret, ↓blockQ_goto, ↓blockQ_exit, ↓loopQ_normal, ↓loopQ_exit, ↓loopQ_ret, ↓loopQ_goto, ↓resQ_normal, ↓resQ_ret, ↓sxRes_nil, ↓sxRes_tmp, ↓bxRes_cell, ↓upd_apply, ↓ev_tmp, ↓ev_const, ↓ev_global, ↓ev_func, ↓dstAt, ↓gval_some, sxOptB_some, sxOptB_ite, bin_int, intBin, una_not_dec, una_nt, una_nf, una_neg, aPick_true, aPick_false, sxCallVB_fn, sxCallVB_yield, sxGuardB_u, sxGuardB_tt, sxGuardB_tf, sxGuardB_ft, sxGuardB_ff, sxIfB_t, sxIfB_f, packRes_one, packRes_two, List.map_cons, List.map_nil, List.nil_append, List.cons_append, List.append_nil, ↓reduceIte, Nat.reduceEqDiff, Nat.reduceLT, dec_T, dec_F, false_imp, true_and, and_true, true_implies, implies_true, false_and, and_false, true_or, or_true, false_or, or_false, and_self, or_self, read_relow, size_relow, low_relow, relow_relow, aLoad_relow, Nat.add_zero, Nat.mul_one, one1, Option.bind_some, ne_eq, Int.natCast_nonneg, Int.toNat_natCast, not_true_eq_false, not_false_eq_true, Option.map_some, Option.map_none, *, argF, List.getD_cons_zero, List.getD_cons_succ, len22])
  · refine ⟨congrArg (Value.int .i64) ?_, Keep.refl _⟩
    rw [chk, if_pos (by omega)]
  · refine ⟨congrArg (Value.int .i64) ?_, Keep.refl _⟩
    rw [chk, if_neg (by omega), if_pos (by omega)]
  · refine sxL_of (fun m ρ H1 => ∃ k : Nat, m = l.length - k ∧ k ≤ l.length ∧ Keep H H1 ∧ (∀ j, j < k → IsOff n (l.getD j default)) ∧ ρ 0 = .int .i64 n ∧ ρ 1 = .slice a l.length cap ∧
      ρ 5 = .int .i64 k) ⟨0, rfl, Nat.zero_le _, Keep.refl _, fun j hj => absurd hj (Nat.not_lt_zero j), rfl, rfl, rfl⟩ ?_
    rintro m ρ H1 ⟨k, rfl, hk, hK, hall, e0, e1, e5⟩
    have hl1 := hl.keep hK
    have hix : ((k : Nat) : Int) < (l.length : Int) → aIndexAt Tryd.prog 22 (.slice a l.length cap) (.int .i64 (k : Int)) = some (.pointer (some ⟨r, o + k * 4, none⟩)) := fun h => by
      have := hl1.ix .i64 (k : Int) (by omega) h; rwa [Int.toNat_natCast] at this
    have hrd : ((k : Nat) : Int) < (l.length : Int) → H1.read r (o + k * 4) 4 = some (l.getD k default).cells := fun h => by
      have := (SlO.fld hl1 (i := (k : Int)) (by omega) h).2.2.2.2; rwa [Int.toNat_natCast] at this
    have hw : ((k : Nat) : Int) < (l.length : Int) → IntKind.i64.wrap ((k : Int) + 1) = ((k + 1 : Nat) : Int) := fun h => wrap_succ (n := l.length) (by omega) hlen
    obtain ⟨H2, hst, hK2, h0, h1, h2, h3⟩ := st39 H1 (l.getD k default)
    generalize hq : l.getD k default = q at *
    clear hl1 hl
    repeat' (first | (with_reducible refine sxGuardB_tsp (fun h => ?_) (fun h => ?_)) | (with_reducible refine sxGuardB_fsp (fun h => ?_) (fun h => ?_)) | (with_reducible refine sxIfB_sp (fun h => ?_) (fun h => ?_)) | simp only [↓sxC_skip, ↓sxC_draw, ↓sxC_region, ↓sxC_seq, ↓bxC_cond, ↓bxC_loop, ↓sxC_block, ↓sxC_exit, ↓sxC_goto, ↓sxC_ret, ↓sxOps_nil, ↓sxOps_cons, ↓sxDraw_nil, ↓bxDraw_cons, ↓sxD_same, ↓sxStep_none, ↓bxStep_some, ↓bxOp_move, ↓bxOp_assign, ↓bxOp_pick, ↓bxOp_alloc, ↓bxOp_box, ↓bxOp_build, ↓bxOp_buildSlice, ↓bxOp_load, ↓bxOp_store, ↓bxOp_nilCheck, ↓bxOp_bin, ↓bxOp_un, ↓bxOp_makeI, ↓bxOp_makeFunc, ↓bxOp_makeSlice, ↓bxOp_slice, ↓bxOp_fieldAddr, ↓bxOp_field, ↓bxOp_indexAddr, ↓bxOp_index, ↓bxOp_assert, ↓bxOp_extract, ↓bxOp_value, ↓bxOp_len, ↓bxOp_cap, ↓bxOp_append, ↓bxOp_copy, ↓sxPut_none, ↓bxPut, ↓seqQ_normal, ↓seqQ_exit, ↓seqQ_ret, ↓seqQ_goto, ↓blockQ_normal, ↓blockQ_ret, ↓blockQ_goto, ↓blockQ_exit, ↓loopQ_normal, ↓loopQ_exit, ↓loopQ_ret, ↓loopQ_goto, ↓resQ_normal, ↓resQ_ret, ↓sxRes_nil, ↓sxRes_tmp, ↓bxRes_cell, ↓upd_apply, ↓ev_tmp, ↓ev_const, ↓ev_global, ↓ev_func, ↓dstAt, ↓gval_some, sxOptB_some, sxOptB_ite, bin_int, intBin, una_not_dec, una_nt, una_nf, una_neg, aPick_true, aPick_false, sxCallVB_fn, sxCallVB_yield, sxGuardB_u, sxGuardB_tt, sxGuardB_tf, sxGuardB_ft, sxGuardB_ff, sxIfB_t, sxIfB_f, packRes_one, packRes_two, List.map_cons, List.map_nil, List.nil_append, List.cons_append, List.append_nil, ↓reduceIte, Nat.reduceEqDiff, Nat.reduceLT, dec_T, dec_F, false_imp, true_and, and_true, true_implies, implies_true, false_and, and_false, true_or, or_true, false_or, or_false, and_self, or_self, read_relow, size_relow, low_relow, relow_relow, aLoad_relow, Nat.add_zero, Nat.mul_one, one1, Option.bind_some, ne_eq, Int.natCast_nonneg, Int.toNat_natCast, not_true_eq_false, not_false_eq_true, Option.map_some, Option.map_none, *, len22, ld39, ld3, al39, fa39_0, fa39_1, fa39_2, fa39_3, Nat.zero_add])
    all_goals first
      | (refine ⟨_, ?_, k + 1, rfl, ?_, hK.trans hK2, ?_, rfl⟩
         · omega
         · omega
         · intro j hj
           rcases Nat.lt_or_ge j k with h | h
           · exact hall j h
           · rw [show j = k by omega, hq]; unfold IsOff; omega)
      | (refine ⟨congrArg (Value.int .i64) ?_, hK.trans hK2⟩
         have hbad : ¬ ∀ x ∈ l, IsOff n x := fun hA => by
           have := hA _ (getD_mem (show k < l.length by omega))
           rw [hq] at this; unfold IsOff at this; omega
         rw [chk, if_neg (by omega), if_neg (by omega), if_neg hbad])
      | (refine congrArg (Value.int .i64) ?_
         have hke : k = l.length := by omega
         subst hke
         rw [chk, if_neg (by omega), if_neg (by omega), if_pos (all_of hall)])
  · refine ⟨congrArg (Value.int .i64) ?_, Keep.refl _⟩
    rw [chk, if_pos (by omega)]

/-! Walks. -/
def walkAt (l : List Off) (w : List Int) (k : Nat) : Prop := (0 ≤ w.getD k 0 ∧ w.getD k 0 < l.length) ∧
  (0 < k → (l.getD (w.getD (k - 1) 0).toNat default).t = (l.getD (w.getD k 0).toNat default).f)
instance (l : List Off) (w : List Int) (k : Nat) : Decidable (walkAt l w k) := by unfold walkAt; infer_instance
def IsWalk (l : List Off) (w : List Int) : Prop := ∀ k, k < w.length → walkAt l w k
instance (l : List Off) (w : List Int) : Decidable (IsWalk l w) := by unfold IsWalk; infer_instance

theorem isWalk_runs (l : List Off) (w : List Int) (vl vw : Value) (r o r' o' : Nat) (H : Heap) (hl : SlO H vl l r o) (hw : SlI H vw w r' o') (hlow : H.low ≤ H.size)
    (hlen : l.length ≤ 4611686018427387904) (hlen' : w.length ≤ 4611686018427387904) :
    Runs Tryd.prog S (.fn 14) [vl, vw] H (.bool (decide (IsWalk l w))) H := by
  suffices h : WCall Tryd.prog S (.fn 14) [vl, vw] H (fun v H' => v = .bool (decide (IsWalk l w)) ∧ H' = H) by
    obtain ⟨_, _, hr, rfl, rfl⟩ := h; exact hr
  obtain ⟨a, cap, rfl⟩ := hl.isv
  obtain ⟨a', cap', rfl⟩ := hw.isv
  refine call_of Tryd.func14 rfl (Nat.le_of_ble_eq_true rfl) (hS.no rfl _ _) ?_
  rw [Tryd.ntmps14, Tryd.results14]
  repeat' (first | (with_reducible refine sxGuardB_tsp (fun h => ?_) (fun h => ?_)) | (with_reducible refine sxGuardB_fsp (fun h => ?_) (fun h => ?_)) | (with_reducible refine sxIfB_sp (fun h => ?_) (fun h => ?_)) | simp only [↓sxC_skip, ↓sxC_draw, ↓sxC_region, ↓sxC_seq, ↓bxC_cond, ↓bxC_loop, ↓sxC_block, ↓sxC_exit, ↓sxC_goto, ↓sxC_ret, ↓sxOps_nil, ↓sxOps_cons, ↓sxDraw_nil, ↓bxDraw_cons, ↓sxD_same, ↓sxStep_none, ↓bxStep_some, ↓bxOp_move, ↓bxOp_assign, ↓bxOp_pick, ↓bxOp_alloc, ↓bxOp_box, ↓bxOp_build, ↓bxOp_buildSlice, ↓bxOp_load, ↓bxOp_store, ↓bxOp_nilCheck, ↓bxOp_bin, ↓bxOp_un, ↓bxOp_makeI, ↓bxOp_makeFunc, ↓bxOp_makeSlice, ↓bxOp_slice, ↓bxOp_fieldAddr, ↓bxOp_field, ↓bxOp_indexAddr, ↓bxOp_index, ↓bxOp_assert, ↓bxOp_extract, ↓bxOp_value, ↓bxOp_len, ↓bxOp_cap, ↓bxOp_append, ↓bxOp_copy, ↓sxPut_none, ↓bxPut, ↓seqQ_normal, ↓seqQ_exit, ↓seqQ_ret, ↓seqQ_goto, ↓blockQ_normal, ↓blockQ_ret, ↓blockQ_goto, ↓blockQ_exit, ↓loopQ_normal, ↓loopQ_exit, ↓loopQ_ret, ↓loopQ_goto, ↓resQ_normal, ↓resQ_ret, ↓sxRes_nil, ↓sxRes_tmp, ↓bxRes_cell, ↓upd_apply, ↓ev_tmp, ↓ev_const, ↓ev_global, ↓ev_func, ↓dstAt, ↓gval_some, sxOptB_some, sxOptB_ite, bin_int, intBin, una_not_dec, una_nt, una_nf, una_neg, aPick_true, aPick_false, sxCallVB_fn, sxCallVB_yield, sxGuardB_u, sxGuardB_tt, sxGuardB_tf, sxGuardB_ft, sxGuardB_ff, sxIfB_t, sxIfB_f, packRes_one, packRes_two, List.map_cons, List.map_nil, List.nil_append, List.cons_append, List.append_nil, ↓reduceIte, Nat.reduceEqDiff, Nat.reduceLT, dec_T, dec_F, false_imp, true_and, and_true, true_implies, implies_true, false_and, and_false, true_or, or_true, false_or, or_false, and_self, or_self, read_relow, size_relow, low_relow, relow_relow, aLoad_relow, Nat.add_zero, Nat.mul_one, one1, Option.bind_some, ne_eq, Int.natCast_nonneg, Int.toNat_natCast, not_true_eq_false, not_false_eq_true, Option.map_some, Option.map_none, *, argF, List.getD_cons_zero, List.getD_cons_succ, len22, len23])
  refine sxL_of (fun m ρ H1 => ∃ k : Nat, m = w.length - k ∧ k ≤ w.length ∧ H1 = H ∧ (∀ j, j < k → walkAt l w j) ∧ ρ 0 = .slice a l.length cap ∧ ρ 1 = .slice a' w.length cap' ∧ ρ 7 = .slice a' w.length cap' ∧
    ρ 8 = .int .i64 w.length ∧ ρ 9 = .int .i64 k) ⟨0, rfl, Nat.zero_le _, rfl, fun j hj => absurd hj (Nat.not_lt_zero j), rfl, rfl, rfl, rfl, rfl⟩ ?_
  rintro m ρ H1 ⟨k, rfl, hk, rfl, hall, e0, e1, e7, e8, e9⟩
  have hwi : ∀ i : Int, 0 ≤ i → i < (w.length : Int) → aIndexAt Tryd.prog 23 (.slice a' w.length cap') (.int .i64 i) = some (.pointer (some ⟨r', o' + i.toNat, none⟩)) := fun i h0 h1 => by
    have := hw.ix .i64 i h0 h1; rwa [Nat.mul_one] at this
  have hli : ∀ i : Int, 0 ≤ i → i < (l.length : Int) → aIndexAt Tryd.prog 22 (.slice a l.length cap) (.int .i64 i) = some (.pointer (some ⟨r, o + i.toNat * 4, none⟩)) := fun i h0 h1 => hl.ix .i64 i h0 h1
  have hlf : ∀ i : Int, 0 ≤ i → i < (l.length : Int) → H1.read r (o + i.toNat * 4) 1 = some [.int .i64 (l.getD i.toNat default).f] := fun i h0 h1 => (SlO.fld hl h0 h1).1
  have hlt : ∀ i : Int, 0 ≤ i → i < (l.length : Int) → H1.read r (o + i.toNat * 4 + 1) 1 = some [.int .i64 (l.getD i.toNat default).t] := fun i h0 h1 => (SlO.fld hl h0 h1).2.1
  have hwk : ((k : Nat) : Int) < (w.length : Int) → H1.read r' (o' + k) 1 = some [.int .i64 (w.getD k 0)] := fun h => by
    have := SlI.at hw (i := (k : Int)) (by omega) h; rwa [Int.toNat_natCast] at this
  have hs : ((k : Nat) : Int) < (w.length : Int) → IntKind.i64.wrap ((k : Int) + 1) = ((k + 1 : Nat) : Int) := fun h => wrap_succ (n := w.length) (by omega) hlen'
  by_cases hkw : k < w.length
  · by_cases hk0 : 0 < k
    · obtain ⟨j, rfl⟩ : ∃ j, k = j + 1 := ⟨k - 1, by omega⟩
      have hp := (hall j (by omega)).1
      have hwr : IntKind.i64.wrap (((j + 1 : Nat) : Int) - 1) = ((j : Nat) : Int) := by rw [IntWalk.i64_in _ (by omega)]; omega
      have hwj : H1.read r' (o' + j) 1 = some [.int .i64 (w.getD j 0)] := by
        have := SlI.at hw (i := (j : Int)) (by omega) (by omega); rwa [Int.toNat_natCast] at this
      have hjl : ((j : Nat) : Int) < (w.length : Int) := by omega
      have hpos : (0 : Int) < ((j + 1 : Nat) : Int) := by omega
      obtain ⟨hp0, hp1⟩ := hp
      have hnp : decide ((0 : Int) < ((j + 1 : Nat) : Int)) = true := decide_eq_true hpos
      have hwa : walkAt l w (j + 1) ↔ (0 ≤ w.getD (j + 1) 0 ∧ w.getD (j + 1) 0 < l.length) ∧ (l.getD (w.getD j 0).toNat default).t = (l.getD (w.getD (j + 1) 0).toNat default).f := by
        unfold walkAt; simp
      have hno : ¬ walkAt l w (j + 1) → ¬ IsWalk l w := fun h hA => h (hA _ hkw)
      have hgo : walkAt l w (j + 1) → ∀ i, i < j + 1 + 1 → walkAt l w i := fun h i hi => by
        rcases Nat.lt_or_ge i (j + 1) with h1 | h1
        · exact hall i h1
        · rw [show i = j + 1 by omega]; exact h
      generalize hx : w.getD (j + 1) 0 = x at *
      generalize hy : w.getD j 0 = y at *
      clear hl hw hall
      rcases (show x < 0 ∨ (¬ x < 0 ∧ (l.length : Int) ≤ x) ∨ (¬ x < 0 ∧ ¬ (l.length : Int) ≤ x ∧ 0 ≤ x ∧ x < (l.length : Int)) by omega) with h1 | ⟨h1, h2⟩ | ⟨h1, h2, h3, h4⟩
      · repeat' (first | (with_reducible refine sxGuardB_tsp (fun h => ?_) (fun h => ?_)) | (with_reducible refine sxGuardB_fsp (fun h => ?_) (fun h => ?_)) | (with_reducible refine sxIfB_sp (fun h => ?_) (fun h => ?_)) | simp only [↓sxC_skip, ↓sxC_draw, ↓sxC_region, ↓sxC_seq, ↓bxC_cond, ↓bxC_loop, ↓sxC_block, ↓sxC_exit, ↓sxC_goto, ↓sxC_ret, ↓sxOps_nil, ↓sxOps_cons, ↓sxDraw_nil, ↓bxDraw_cons, ↓sxD_same, ↓sxStep_none, ↓bxStep_some, ↓bxOp_move, ↓bxOp_assign, ↓bxOp_pick, ↓bxOp_alloc, ↓bxOp_box, ↓bxOp_build, ↓bxOp_buildSlice, ↓bxOp_load, ↓bxOp_store, ↓bxOp_nilCheck, ↓bxOp_bin, ↓bxOp_un, ↓bxOp_makeI, ↓bxOp_makeFunc, ↓bxOp_makeSlice, ↓bxOp_slice, ↓bxOp_fieldAddr, ↓bxOp_field, ↓bxOp_indexAddr, ↓bxOp_index, ↓bxOp_assert, ↓bxOp_extract, ↓bxOp_value, ↓bxOp_len, ↓bxOp_cap, ↓bxOp_append, ↓bxOp_copy, ↓sxPut_none, ↓bxPut, ↓seqQ_normal, ↓seqQ_exit, ↓seqQ_ret, ↓seqQ_goto, ↓blockQ_normal, ↓blockQ_ret, ↓blockQ_goto, ↓blockQ_exit, ↓loopQ_normal, ↓loopQ_exit, ↓loopQ_ret, ↓loopQ_goto, ↓resQ_normal, ↓resQ_ret, ↓sxRes_nil, ↓sxRes_tmp, ↓bxRes_cell, ↓upd_apply, ↓ev_tmp, ↓ev_const, ↓ev_global, ↓ev_func, ↓dstAt, ↓gval_some, sxOptB_some, sxOptB_ite, bin_int, intBin, una_not_dec, una_nt, una_nf, una_neg, aPick_true, aPick_false, sxCallVB_fn, sxCallVB_yield, sxGuardB_u, sxGuardB_tt, sxGuardB_tf, sxGuardB_ft, sxGuardB_ff, sxIfB_t, sxIfB_f, packRes_one, packRes_two, List.map_cons, List.map_nil, List.nil_append, List.cons_append, List.append_nil, ↓reduceIte, Nat.reduceEqDiff, Nat.reduceLT, dec_T, dec_F, false_imp, true_and, and_true, true_implies, implies_true, false_and, and_false, true_or, or_true, false_or, or_false, and_self, or_self, read_relow, size_relow, low_relow, relow_relow, aLoad_relow, Nat.add_zero, Nat.mul_one, one1, Option.bind_some, ne_eq, Int.natCast_nonneg, Int.toNat_natCast, not_true_eq_false, not_false_eq_true, Option.map_some, Option.map_none, *, len22, len23, ld3, fa39_0, fa39_1])
        all_goals first
          | (exact bool_f (hno (by rw [hwa]; omega)))
          | omega
      · repeat' (first | (with_reducible refine sxGuardB_tsp (fun h => ?_) (fun h => ?_)) | (with_reducible refine sxGuardB_fsp (fun h => ?_) (fun h => ?_)) | (with_reducible refine sxIfB_sp (fun h => ?_) (fun h => ?_)) | simp only [↓sxC_skip, ↓sxC_draw, ↓sxC_region, ↓sxC_seq, ↓bxC_cond, ↓bxC_loop, ↓sxC_block, ↓sxC_exit, ↓sxC_goto, ↓sxC_ret, ↓sxOps_nil, ↓sxOps_cons, ↓sxDraw_nil, ↓bxDraw_cons, ↓sxD_same, ↓sxStep_none, ↓bxStep_some, ↓bxOp_move, ↓bxOp_assign, ↓bxOp_pick, ↓bxOp_alloc, ↓bxOp_box, ↓bxOp_build, ↓bxOp_buildSlice, ↓bxOp_load, ↓bxOp_store, ↓bxOp_nilCheck, ↓bxOp_bin, ↓bxOp_un, ↓bxOp_makeI, ↓bxOp_makeFunc, ↓bxOp_makeSlice, ↓bxOp_slice, ↓bxOp_fieldAddr, ↓bxOp_field, ↓bxOp_indexAddr, ↓bxOp_index, ↓bxOp_assert, ↓bxOp_extract, ↓bxOp_value, ↓bxOp_len, ↓bxOp_cap, ↓bxOp_append, ↓bxOp_copy, ↓sxPut_none, ↓bxPut, ↓seqQ_normal, ↓seqQ_exit, ↓seqQ_ret, ↓seqQ_goto, ↓blockQ_normal, ↓blockQ_ret, ↓blockQ_goto, ↓blockQ_exit, ↓loopQ_normal, ↓loopQ_exit, ↓loopQ_ret, ↓loopQ_goto, ↓resQ_normal, ↓resQ_ret, ↓sxRes_nil, ↓sxRes_tmp, ↓bxRes_cell, ↓upd_apply, ↓ev_tmp, ↓ev_const, ↓ev_global, ↓ev_func, ↓dstAt, ↓gval_some, sxOptB_some, sxOptB_ite, bin_int, intBin, una_not_dec, una_nt, una_nf, una_neg, aPick_true, aPick_false, sxCallVB_fn, sxCallVB_yield, sxGuardB_u, sxGuardB_tt, sxGuardB_tf, sxGuardB_ft, sxGuardB_ff, sxIfB_t, sxIfB_f, packRes_one, packRes_two, List.map_cons, List.map_nil, List.nil_append, List.cons_append, List.append_nil, ↓reduceIte, Nat.reduceEqDiff, Nat.reduceLT, dec_T, dec_F, false_imp, true_and, and_true, true_implies, implies_true, false_and, and_false, true_or, or_true, false_or, or_false, and_self, or_self, read_relow, size_relow, low_relow, relow_relow, aLoad_relow, Nat.add_zero, Nat.mul_one, one1, Option.bind_some, ne_eq, Int.natCast_nonneg, Int.toNat_natCast, not_true_eq_false, not_false_eq_true, Option.map_some, Option.map_none, *, len22, len23, ld3, fa39_0, fa39_1])
        all_goals first
          | (exact bool_f (hno (by rw [hwa]; omega)))
          | omega
      · repeat' (first | (with_reducible refine sxGuardB_tsp (fun h => ?_) (fun h => ?_)) | (with_reducible refine sxGuardB_fsp (fun h => ?_) (fun h => ?_)) | (with_reducible refine sxIfB_sp (fun h => ?_) (fun h => ?_)) | simp only [↓sxC_skip, ↓sxC_draw, ↓sxC_region, ↓sxC_seq, ↓bxC_cond, ↓bxC_loop, ↓sxC_block, ↓sxC_exit, ↓sxC_goto, ↓sxC_ret, ↓sxOps_nil, ↓sxOps_cons, ↓sxDraw_nil, ↓bxDraw_cons, ↓sxD_same, ↓sxStep_none, ↓bxStep_some, ↓bxOp_move, ↓bxOp_assign, ↓bxOp_pick, ↓bxOp_alloc, ↓bxOp_box, ↓bxOp_build, ↓bxOp_buildSlice, ↓bxOp_load, ↓bxOp_store, ↓bxOp_nilCheck, ↓bxOp_bin, ↓bxOp_un, ↓bxOp_makeI, ↓bxOp_makeFunc, ↓bxOp_makeSlice, ↓bxOp_slice, ↓bxOp_fieldAddr, ↓bxOp_field, ↓bxOp_indexAddr, ↓bxOp_index, ↓bxOp_assert, ↓bxOp_extract, ↓bxOp_value, ↓bxOp_len, ↓bxOp_cap, ↓bxOp_append, ↓bxOp_copy, ↓sxPut_none, ↓bxPut, ↓seqQ_normal, ↓seqQ_exit, ↓seqQ_ret, ↓seqQ_goto, ↓blockQ_normal, ↓blockQ_ret, ↓blockQ_goto, ↓blockQ_exit, ↓loopQ_normal, ↓loopQ_exit, ↓loopQ_ret, ↓loopQ_goto, ↓resQ_normal, ↓resQ_ret, ↓sxRes_nil, ↓sxRes_tmp, ↓bxRes_cell, ↓upd_apply, ↓ev_tmp, ↓ev_const, ↓ev_global, ↓ev_func, ↓dstAt, ↓gval_some, sxOptB_some, sxOptB_ite, bin_int, intBin, una_not_dec, una_nt, una_nf, una_neg, aPick_true, aPick_false, sxCallVB_fn, sxCallVB_yield, sxGuardB_u, sxGuardB_tt, sxGuardB_tf, sxGuardB_ft, sxGuardB_ff, sxIfB_t, sxIfB_f, packRes_one, packRes_two, List.map_cons, List.map_nil, List.nil_append, List.cons_append, List.append_nil, ↓reduceIte, Nat.reduceEqDiff, Nat.reduceLT, dec_T, dec_F, false_imp, true_and, and_true, true_implies, implies_true, false_and, and_false, true_or, or_true, false_or, or_false, and_self, or_self, read_relow, size_relow, low_relow, relow_relow, aLoad_relow, Nat.add_zero, Nat.mul_one, one1, Option.bind_some, ne_eq, Int.natCast_nonneg, Int.toNat_natCast, not_true_eq_false, not_false_eq_true, Option.map_some, Option.map_none, *, len22, len23, ld3, fa39_0, fa39_1])
        all_goals first
          | (exact bool_f (hno (by rw [hwa]; rintro ⟨_, he⟩; exact absurd he ‹_›)))
          | (refine ⟨_, ?_, j + 1 + 1, rfl, ?_, hgo (by rw [hwa]; exact ⟨⟨h3, h4⟩, Decidable.not_not.1 ‹_›⟩), rfl⟩ <;> omega)
          | omega
    · obtain rfl : k = 0 := by omega
      have hnz : ¬ (0 : Int) < ((0 : Nat) : Int) := by omega
      have hwa : walkAt l w 0 ↔ (0 ≤ w.getD 0 0 ∧ w.getD 0 0 < l.length) := by
        unfold walkAt; simp
      have hno : ¬ walkAt l w 0 → ¬ IsWalk l w := fun h hA => h (hA _ hkw)
      have hgo : walkAt l w 0 → ∀ i, i < 0 + 1 → walkAt l w i := fun h i hi => by
        rw [show i = 0 by omega]; exact h
      have hwk0 : H1.read r' o' 1 = some [.int .i64 (w.getD 0 0)] := by have := hwk (by omega); rwa [Nat.add_zero] at this
      generalize hx : w.getD 0 0 = x at *
      clear hl hw hall hwk
      rcases (show x < 0 ∨ (¬ x < 0 ∧ (l.length : Int) ≤ x) ∨ (¬ x < 0 ∧ ¬ (l.length : Int) ≤ x ∧ 0 ≤ x ∧ x < (l.length : Int)) by omega) with h1 | ⟨h1, h2⟩ | ⟨h1, h2, h3, h4⟩
      · repeat' (first | (with_reducible refine sxGuardB_tsp (fun h => ?_) (fun h => ?_)) | (with_reducible refine sxGuardB_fsp (fun h => ?_) (fun h => ?_)) | (with_reducible refine sxIfB_sp (fun h => ?_) (fun h => ?_)) | simp only [↓sxC_skip, ↓sxC_draw, ↓sxC_region, ↓sxC_seq, ↓bxC_cond, ↓bxC_loop, ↓sxC_block, ↓sxC_exit, ↓sxC_goto, ↓sxC_ret, ↓sxOps_nil, ↓sxOps_cons, ↓sxDraw_nil, ↓bxDraw_cons, ↓sxD_same, ↓sxStep_none, ↓bxStep_some, ↓bxOp_move, ↓bxOp_assign, ↓bxOp_pick, ↓bxOp_alloc, ↓bxOp_box, ↓bxOp_build, ↓bxOp_buildSlice, ↓bxOp_load, ↓bxOp_store, ↓bxOp_nilCheck, ↓bxOp_bin, ↓bxOp_un, ↓bxOp_makeI, ↓bxOp_makeFunc, ↓bxOp_makeSlice, ↓bxOp_slice, ↓bxOp_fieldAddr, ↓bxOp_field, ↓bxOp_indexAddr, ↓bxOp_index, ↓bxOp_assert, ↓bxOp_extract, ↓bxOp_value, ↓bxOp_len, ↓bxOp_cap, ↓bxOp_append, ↓bxOp_copy, ↓sxPut_none, ↓bxPut, ↓seqQ_normal, ↓seqQ_exit, ↓seqQ_ret, ↓seqQ_goto, ↓blockQ_normal, ↓blockQ_ret, ↓blockQ_goto, ↓blockQ_exit, ↓loopQ_normal, ↓loopQ_exit, ↓loopQ_ret, ↓loopQ_goto, ↓resQ_normal, ↓resQ_ret, ↓sxRes_nil, ↓sxRes_tmp, ↓bxRes_cell, ↓upd_apply, ↓ev_tmp, ↓ev_const, ↓ev_global, ↓ev_func, ↓dstAt, ↓gval_some, sxOptB_some, sxOptB_ite, bin_int, intBin, una_not_dec, una_nt, una_nf, una_neg, aPick_true, aPick_false, sxCallVB_fn, sxCallVB_yield, sxGuardB_u, sxGuardB_tt, sxGuardB_tf, sxGuardB_ft, sxGuardB_ff, sxIfB_t, sxIfB_f, packRes_one, packRes_two, List.map_cons, List.map_nil, List.nil_append, List.cons_append, List.append_nil, ↓reduceIte, Nat.reduceEqDiff, Nat.reduceLT, dec_T, dec_F, false_imp, true_and, and_true, true_implies, implies_true, false_and, and_false, true_or, or_true, false_or, or_false, and_self, or_self, read_relow, size_relow, low_relow, relow_relow, aLoad_relow, Nat.add_zero, Nat.mul_one, one1, Option.bind_some, ne_eq, Int.natCast_nonneg, Int.toNat_natCast, not_true_eq_false, not_false_eq_true, Option.map_some, Option.map_none, *, len22, len23, ld3, fa39_0, fa39_1])
        all_goals first
          | (exact bool_f (hno (by rw [hwa]; omega)))
          | omega
      · repeat' (first | (with_reducible refine sxGuardB_tsp (fun h => ?_) (fun h => ?_)) | (with_reducible refine sxGuardB_fsp (fun h => ?_) (fun h => ?_)) | (with_reducible refine sxIfB_sp (fun h => ?_) (fun h => ?_)) | simp only [↓sxC_skip, ↓sxC_draw, ↓sxC_region, ↓sxC_seq, ↓bxC_cond, ↓bxC_loop, ↓sxC_block, ↓sxC_exit, ↓sxC_goto, ↓sxC_ret, ↓sxOps_nil, ↓sxOps_cons, ↓sxDraw_nil, ↓bxDraw_cons, ↓sxD_same, ↓sxStep_none, ↓bxStep_some, ↓bxOp_move, ↓bxOp_assign, ↓bxOp_pick, ↓bxOp_alloc, ↓bxOp_box, ↓bxOp_build, ↓bxOp_buildSlice, ↓bxOp_load, ↓bxOp_store, ↓bxOp_nilCheck, ↓bxOp_bin, ↓bxOp_un, ↓bxOp_makeI, ↓bxOp_makeFunc, ↓bxOp_makeSlice, ↓bxOp_slice, ↓bxOp_fieldAddr, ↓bxOp_field, ↓bxOp_indexAddr, ↓bxOp_index, ↓bxOp_assert, ↓bxOp_extract, ↓bxOp_value, ↓bxOp_len, ↓bxOp_cap, ↓bxOp_append, ↓bxOp_copy, ↓sxPut_none, ↓bxPut, ↓seqQ_normal, ↓seqQ_exit, ↓seqQ_ret, ↓seqQ_goto, ↓blockQ_normal, ↓blockQ_ret, ↓blockQ_goto, ↓blockQ_exit, ↓loopQ_normal, ↓loopQ_exit, ↓loopQ_ret, ↓loopQ_goto, ↓resQ_normal, ↓resQ_ret, ↓sxRes_nil, ↓sxRes_tmp, ↓bxRes_cell, ↓upd_apply, ↓ev_tmp, ↓ev_const, ↓ev_global, ↓ev_func, ↓dstAt, ↓gval_some, sxOptB_some, sxOptB_ite, bin_int, intBin, una_not_dec, una_nt, una_nf, una_neg, aPick_true, aPick_false, sxCallVB_fn, sxCallVB_yield, sxGuardB_u, sxGuardB_tt, sxGuardB_tf, sxGuardB_ft, sxGuardB_ff, sxIfB_t, sxIfB_f, packRes_one, packRes_two, List.map_cons, List.map_nil, List.nil_append, List.cons_append, List.append_nil, ↓reduceIte, Nat.reduceEqDiff, Nat.reduceLT, dec_T, dec_F, false_imp, true_and, and_true, true_implies, implies_true, false_and, and_false, true_or, or_true, false_or, or_false, and_self, or_self, read_relow, size_relow, low_relow, relow_relow, aLoad_relow, Nat.add_zero, Nat.mul_one, one1, Option.bind_some, ne_eq, Int.natCast_nonneg, Int.toNat_natCast, not_true_eq_false, not_false_eq_true, Option.map_some, Option.map_none, *, len22, len23, ld3, fa39_0, fa39_1])
        all_goals first
          | (exact bool_f (hno (by rw [hwa]; omega)))
          | omega
      · repeat' (first | (with_reducible refine sxGuardB_tsp (fun h => ?_) (fun h => ?_)) | (with_reducible refine sxGuardB_fsp (fun h => ?_) (fun h => ?_)) | (with_reducible refine sxIfB_sp (fun h => ?_) (fun h => ?_)) | simp only [↓sxC_skip, ↓sxC_draw, ↓sxC_region, ↓sxC_seq, ↓bxC_cond, ↓bxC_loop, ↓sxC_block, ↓sxC_exit, ↓sxC_goto, ↓sxC_ret, ↓sxOps_nil, ↓sxOps_cons, ↓sxDraw_nil, ↓bxDraw_cons, ↓sxD_same, ↓sxStep_none, ↓bxStep_some, ↓bxOp_move, ↓bxOp_assign, ↓bxOp_pick, ↓bxOp_alloc, ↓bxOp_box, ↓bxOp_build, ↓bxOp_buildSlice, ↓bxOp_load, ↓bxOp_store, ↓bxOp_nilCheck, ↓bxOp_bin, ↓bxOp_un, ↓bxOp_makeI, ↓bxOp_makeFunc, ↓bxOp_makeSlice, ↓bxOp_slice, ↓bxOp_fieldAddr, ↓bxOp_field, ↓bxOp_indexAddr, ↓bxOp_index, ↓bxOp_assert, ↓bxOp_extract, ↓bxOp_value, ↓bxOp_len, ↓bxOp_cap, ↓bxOp_append, ↓bxOp_copy, ↓sxPut_none, ↓bxPut, ↓seqQ_normal, ↓seqQ_exit, ↓seqQ_ret, ↓seqQ_goto, ↓blockQ_normal, ↓blockQ_ret, ↓blockQ_goto, ↓blockQ_exit, ↓loopQ_normal, ↓loopQ_exit, ↓loopQ_ret, ↓loopQ_goto, ↓resQ_normal, ↓resQ_ret, ↓sxRes_nil, ↓sxRes_tmp, ↓bxRes_cell, ↓upd_apply, ↓ev_tmp, ↓ev_const, ↓ev_global, ↓ev_func, ↓dstAt, ↓gval_some, sxOptB_some, sxOptB_ite, bin_int, intBin, una_not_dec, una_nt, una_nf, una_neg, aPick_true, aPick_false, sxCallVB_fn, sxCallVB_yield, sxGuardB_u, sxGuardB_tt, sxGuardB_tf, sxGuardB_ft, sxGuardB_ff, sxIfB_t, sxIfB_f, packRes_one, packRes_two, List.map_cons, List.map_nil, List.nil_append, List.cons_append, List.append_nil, ↓reduceIte, Nat.reduceEqDiff, Nat.reduceLT, dec_T, dec_F, false_imp, true_and, and_true, true_implies, implies_true, false_and, and_false, true_or, or_true, false_or, or_false, and_self, or_self, read_relow, size_relow, low_relow, relow_relow, aLoad_relow, Nat.add_zero, Nat.mul_one, one1, Option.bind_some, ne_eq, Int.natCast_nonneg, Int.toNat_natCast, not_true_eq_false, not_false_eq_true, Option.map_some, Option.map_none, *, len22, len23, ld3, fa39_0, fa39_1])
        all_goals first
          | (refine ⟨_, ?_, 0 + 1, rfl, ?_, hgo (by rw [hwa]; exact ⟨h3, h4⟩), rfl⟩ <;> omega)
          | omega
  · have hke : k = w.length := by omega
    subst hke
    have hnlt : ¬ ((w.length : Nat) : Int) < (w.length : Int) := by omega
    clear hl hw
    repeat' (first | (with_reducible refine sxGuardB_tsp (fun h => ?_) (fun h => ?_)) | (with_reducible refine sxGuardB_fsp (fun h => ?_) (fun h => ?_)) | (with_reducible refine sxIfB_sp (fun h => ?_) (fun h => ?_)) | simp only [↓sxC_skip, ↓sxC_draw, ↓sxC_region, ↓sxC_seq, ↓bxC_cond, ↓bxC_loop, ↓sxC_block, ↓sxC_exit, ↓sxC_goto, ↓sxC_ret, ↓sxOps_nil, ↓sxOps_cons, ↓sxDraw_nil, ↓bxDraw_cons, ↓sxD_same, ↓sxStep_none, ↓bxStep_some, ↓bxOp_move, ↓bxOp_assign, ↓bxOp_pick, ↓bxOp_alloc, ↓bxOp_box, ↓bxOp_build, ↓bxOp_buildSlice, ↓bxOp_load, ↓bxOp_store, ↓bxOp_nilCheck, ↓bxOp_bin, ↓bxOp_un, ↓bxOp_makeI, ↓bxOp_makeFunc, ↓bxOp_makeSlice, ↓bxOp_slice, ↓bxOp_fieldAddr, ↓bxOp_field, ↓bxOp_indexAddr, ↓bxOp_index, ↓bxOp_assert, ↓bxOp_extract, ↓bxOp_value, ↓bxOp_len, ↓bxOp_cap, ↓bxOp_append, ↓bxOp_copy, ↓sxPut_none, ↓bxPut, ↓seqQ_normal, ↓seqQ_exit, ↓seqQ_ret, ↓seqQ_goto, ↓blockQ_normal, ↓blockQ_ret, ↓blockQ_goto, ↓blockQ_exit, ↓loopQ_normal, ↓loopQ_exit, ↓loopQ_ret, ↓loopQ_goto, ↓resQ_normal, ↓resQ_ret, ↓sxRes_nil, ↓sxRes_tmp, ↓bxRes_cell, ↓upd_apply, ↓ev_tmp, ↓ev_const, ↓ev_global, ↓ev_func, ↓dstAt, ↓gval_some, sxOptB_some, sxOptB_ite, bin_int, intBin, una_not_dec, una_nt, una_nf, una_neg, aPick_true, aPick_false, sxCallVB_fn, sxCallVB_yield, sxGuardB_u, sxGuardB_tt, sxGuardB_tf, sxGuardB_ft, sxGuardB_ff, sxIfB_t, sxIfB_f, packRes_one, packRes_two, List.map_cons, List.map_nil, List.nil_append, List.cons_append, List.append_nil, ↓reduceIte, Nat.reduceEqDiff, Nat.reduceLT, dec_T, dec_F, false_imp, true_and, and_true, true_implies, implies_true, false_and, and_false, true_or, or_true, false_or, or_false, and_self, or_self, read_relow, size_relow, low_relow, relow_relow, aLoad_relow, Nat.add_zero, Nat.mul_one, one1, Option.bind_some, ne_eq, Int.natCast_nonneg, Int.toNat_natCast, not_true_eq_false, not_false_eq_true, Option.map_some, Option.map_none, *, len22, len23, ld3, fa39_0, fa39_1])
    all_goals exact bool_t hall
end Go.Proofs.YtimbciadadjhiaaDoor
