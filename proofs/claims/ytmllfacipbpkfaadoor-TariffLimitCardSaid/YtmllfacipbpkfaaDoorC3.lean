/- isDiagram of package tariff, on the canonical machine. -/
import Derived.Test.YtmllfacipbpkfaaDoorC2
set_option linter.unusedVariables false
set_option linter.unusedSimpArgs false
set_option linter.unusedSectionVars false

namespace Go.Proofs.YtmllfacipbpkfaaDoor
open Go Go.AM
set_option maxRecDepth 10000
set_option linter.unusedSimpArgs false

variable {S : AM.Sys} (hS : Only S 8)
include hS

theorem isDiagramL_runs (k : Int) (v : Value) (d : List Nd) (r o rk rd : Nat) (n : Nd) (cs : List Value) (H : Heap) (hL : H.low ≤ H.size) (hd : SlN H v d r o) (hn : nodeE.At H n cs)
    (hrk : rk < H.size) (hrd : rd < H.size) (hk : H.read rk 0 1 = some [.int .i64 k]) (hv : H.read rd 0 1 = some [v]) :
    ∃ H', Keep H H' ∧ Runs Tryd.prog S (.fn 50) [.agg ⟨cs⟩, .pointer (some ⟨rk, 0, none⟩), .pointer (some ⟨rd, 0, none⟩)] H (.bool (decide (¬ NodeOk k d n))) H' := by
  suffices h : WCall Tryd.prog S (.fn 50) [.agg ⟨cs⟩, .pointer (some ⟨rk, 0, none⟩), .pointer (some ⟨rd, 0, none⟩)] H (fun v H' => v = .bool (decide (¬ NodeOk k d n)) ∧ Keep H H') by
    obtain ⟨_, H', hr, rfl, hk⟩ := h; exact ⟨H', hk, hr⟩
  refine call_of Tryd.func50 rfl (Nat.le_of_ble_eq_true rfl) (hS.no rfl _ _) ?_
  rw [Tryd.ntmps50, Tryd.results50]
  have hn' := hn
  obtain ⟨v1, r1, o1, v2, r2, o2, rfl, h1, h2⟩ := nodeE_inv hn'
  obtain ⟨H1, hH1, hK1, hs1, hsz, hrd⟩ := box1 H [.int .i64 n.mark, v1, v2] 32
  have q0 : H1.read H.size 0 3 = some [.int .i64 n.mark, v1, v2] := hrd 0 3 (show 0 + 3 ≤ 3 by omega)
  have hk1 := hK1.read ‹rk < H.size› hk
  have hv1 := hK1.read ‹rd < H.size› hv
  obtain ⟨H2, hK2, hR2⟩ := isNode_runs hS k v d r o n _ H1 (hK1.low hL) (hd.keep hK1) (nodeE.keep hK1 hn)
  have hb := hR2.bx
  obtain ⟨a, cap, rfl⟩ := hd.v0
  have ldS := fun (H : Heap) (r o : Nat) => (show aLoad Tryd.prog H 30 (.pointer (some ⟨r, o, none⟩)) = (H.read r o 1).bind one1 by kernel_rfl)
  have hc : (Value.agg ⟨[.int .i64 n.mark, v1, v2]⟩).cells.toList = [.int .i64 n.mark, v1, v2] := rfl
  have hKK := hK1.trans hK2
  clear hR2 hd hn h1 h2 hrd hk hv
  repeat' (first | (with_reducible refine sxGuardB_tsp (fun h => ?_) (fun h => ?_)) | (with_reducible refine sxGuardB_fsp (fun h => ?_) (fun h => ?_)) | (with_reducible refine sxIfB_sp (fun h => ?_) (fun h => ?_)) | simp only [↓sxC_skip, ↓sxC_draw, ↓sxC_region, ↓sxC_seq, ↓bxC_cond, ↓bxC_loop, ↓sxC_block, ↓sxC_exit, ↓sxC_goto, ↓sxC_ret, ↓sxOps_nil, ↓sxOps_cons, ↓sxDraw_nil, ↓bxDraw_cons, ↓sxD_same, ↓sxStep_none, ↓bxStep_some, ↓bxOp_move, ↓bxOp_assign, ↓bxOp_pick, ↓bxOp_alloc, ↓bxOp_box, ↓bxOp_build, ↓bxOp_buildSlice, ↓bxOp_load, ↓bxOp_store, ↓bxOp_nilCheck, ↓bxOp_bin, ↓bxOp_un, ↓bxOp_makeI, ↓bxOp_makeFunc, ↓bxOp_makeSlice, ↓bxOp_slice, ↓bxOp_fieldAddr, ↓bxOp_field, ↓bxOp_indexAddr, ↓bxOp_index, ↓bxOp_assert, ↓bxOp_extract, ↓bxOp_value, ↓bxOp_len, ↓bxOp_cap, ↓bxOp_append, ↓bxOp_copy, ↓bxOp_max, ↓bxOp_min, ↓bxOp_convert, ↓sxPut_none, ↓bxPut, ↓seqQ_normal, ↓seqQ_exit, ↓seqQ_ret, ↓seqQ_goto, ↓blockQ_normal, ↓blockQ_ret, ↓blockQ_goto, ↓blockQ_exit, ↓loopQ_normal, ↓loopQ_exit, ↓loopQ_ret, ↓loopQ_goto, ↓resQ_normal, ↓resQ_ret, ↓sxRes_nil, ↓sxRes_tmp, ↓bxRes_cell, ↓upd_apply, ↓ev_tmp, ↓ev_const, ↓ev_global, ↓ev_func, ↓dstAt, ↓gval_some, sxOptB_some, sxOptB_ite, mm_max, mm_min, bin_shl, bin_shr, bin_int, intBin, una_not_dec, una_nt, una_nf, una_neg, aPick_true, aPick_false, sxCallVB_fn, sxCallVB_yield, sxGuardB_u, sxGuardB_tt, sxGuardB_tf, sxGuardB_ft, sxGuardB_ff, sxIfB_t, sxIfB_f, packRes_one, packRes_two, List.map_cons, List.map_nil, List.nil_append, List.cons_append, List.append_nil, ↓reduceIte, Nat.reduceEqDiff, Nat.reduceLT, dec_T, dec_F, false_imp, true_and, and_true, true_implies, implies_true, false_and, and_false, true_or, or_true, false_or, or_false, and_self, or_self, read_relow, size_relow, low_relow, relow_relow, aLoad_relow, Nat.add_zero, Nat.mul_one, one1, Option.bind_some, ne_eq, Int.natCast_nonneg, Int.toNat_natCast, not_true_eq_false, not_false_eq_true, Option.map_some, Option.map_none, *, argF, List.getD_cons_zero, List.getD_cons_succ, ldI, ldN])

theorem ifNode_runs (p : Nd → Prop) [DecidablePred p] (v : Value) (w : List Nd) (r o : Nat) (H : Heap) (hl : SlN H v w r o)
    {g : FuncId} {cs : List Value} (hp : ∀ H1, Keep H H1 → ∀ n xs, nodeE.At H1 n xs → ∃ H2, Keep H1 H2 ∧ Runs Tryd.prog S (.fn g) (.agg ⟨xs⟩ :: cs) H1 (.bool (decide (p n))) H2) :
    ∃ H' k, Keep H H' ∧ Runs Tryd.prog S (.fn 68) [v, .func (.func g) #[] ⟨cs⟩] H (.int .i64 k) H' ∧ ((k = -1 ∧ ∀ x ∈ w, ¬ p x) ∨ (∃ j : Nat, k = j ∧ j < w.length ∧ p (w.getD j default) ∧ ∀ i, i < j → ¬ p (w.getD i default))) := by
  suffices h : WCall Tryd.prog S (.fn 68) [v, .func (.func g) #[] ⟨cs⟩] H (fun v H' => ∃ k, v = .int .i64 k ∧ Keep H H' ∧ ((k = -1 ∧ ∀ x ∈ w, ¬ p x) ∨ (∃ j : Nat, k = j ∧ j < w.length ∧ p (w.getD j default) ∧ ∀ i, i < j → ¬ p (w.getD i default)))) by
    obtain ⟨_, H', hr, k, rfl, hk, hi⟩ := h; exact ⟨H', k, hk, hr, hi⟩
  obtain ⟨a, cap, rfl⟩ := hl.v0
  refine call_of Tryd.func68 rfl (Nat.le_of_ble_eq_true rfl) (hS.no rfl _ _) ?_
  rw [Tryd.ntmps68, Tryd.results68]
  repeat' (first | (with_reducible refine sxGuardB_tsp (fun h => ?_) (fun h => ?_)) | (with_reducible refine sxGuardB_fsp (fun h => ?_) (fun h => ?_)) | (with_reducible refine sxIfB_sp (fun h => ?_) (fun h => ?_)) | simp only [↓sxC_skip, ↓sxC_draw, ↓sxC_region, ↓sxC_seq, ↓bxC_cond, ↓bxC_loop, ↓sxC_block, ↓sxC_exit, ↓sxC_goto, ↓sxC_ret, ↓sxOps_nil, ↓sxOps_cons, ↓sxDraw_nil, ↓bxDraw_cons, ↓sxD_same, ↓sxStep_none, ↓bxStep_some, ↓bxOp_move, ↓bxOp_assign, ↓bxOp_pick, ↓bxOp_alloc, ↓bxOp_box, ↓bxOp_build, ↓bxOp_buildSlice, ↓bxOp_load, ↓bxOp_store, ↓bxOp_nilCheck, ↓bxOp_bin, ↓bxOp_un, ↓bxOp_makeI, ↓bxOp_makeFunc, ↓bxOp_makeSlice, ↓bxOp_slice, ↓bxOp_fieldAddr, ↓bxOp_field, ↓bxOp_indexAddr, ↓bxOp_index, ↓bxOp_assert, ↓bxOp_extract, ↓bxOp_value, ↓bxOp_len, ↓bxOp_cap, ↓bxOp_append, ↓bxOp_copy, ↓bxOp_max, ↓bxOp_min, ↓bxOp_convert, ↓sxPut_none, ↓bxPut, ↓seqQ_normal, ↓seqQ_exit, ↓seqQ_ret, ↓seqQ_goto, ↓blockQ_normal, ↓blockQ_ret, ↓blockQ_goto, ↓blockQ_exit, ↓loopQ_normal, ↓loopQ_exit, ↓loopQ_ret, ↓loopQ_goto, ↓resQ_normal, ↓resQ_ret, ↓sxRes_nil, ↓sxRes_tmp, ↓bxRes_cell, ↓upd_apply, ↓ev_tmp, ↓ev_const, ↓ev_global, ↓ev_func, ↓dstAt, ↓gval_some, sxOptB_some, sxOptB_ite, mm_max, mm_min, bin_shl, bin_shr, bin_int, intBin, una_not_dec, una_nt, una_nf, una_neg, aPick_true, aPick_false, sxCallVB_fn, sxCallVB_yield, sxGuardB_u, sxGuardB_tt, sxGuardB_tf, sxGuardB_ft, sxGuardB_ff, sxIfB_t, sxIfB_f, packRes_one, packRes_two, List.map_cons, List.map_nil, List.nil_append, List.cons_append, List.append_nil, ↓reduceIte, Nat.reduceEqDiff, Nat.reduceLT, dec_T, dec_F, false_imp, true_and, and_true, true_implies, implies_true, false_and, and_false, true_or, or_true, false_or, or_false, and_self, or_self, read_relow, size_relow, low_relow, relow_relow, aLoad_relow, Nat.add_zero, Nat.mul_one, one1, Option.bind_some, ne_eq, Int.natCast_nonneg, Int.toNat_natCast, not_true_eq_false, not_false_eq_true, Option.map_some, Option.map_none, *, argF, List.getD_cons_zero, List.getD_cons_succ, lenN])
  refine sxL_of (fun m ρ H1 => ∃ k : Nat, m = w.length - k ∧ k ≤ w.length ∧ Keep H H1 ∧ (∀ j, j < k → ¬ p (w.getD j default)) ∧ ρ 0 = .slice a w.length cap ∧
    ρ 1 = .func (.func g) #[] ⟨cs⟩ ∧ ρ 7 = .int .i64 w.length ∧ ρ 8 = .int .i64 k) ⟨0, rfl, Nat.zero_le _, Keep.refl _, fun j hj => absurd hj (Nat.not_lt_zero j), rfl, rfl, rfl, rfl⟩ ?_
  rintro m ρ H1 ⟨k, rfl, hk, hK, hall, e0, e1, e7, e8⟩
  have hl1 := hl.keep hK
  by_cases hlt : k < w.length
  · have hix := SlN_ix hl1 (i := (k : Int)) (by omega) (by omega)
    rw [Int.toNat_natCast] at hix
    obtain ⟨v1, _, _, v2, _, _, hrd, _, _, _, hat, _, _⟩ := SlN_rd hl1 hlt
    obtain ⟨H2, hK2, hr2⟩ := hp H1 hK (w.getD k default) _ hat
    have hb := hr2.bx
    have hw := wrap_succ hlt hl.ml
    have hlt' : (k : Int) < (w.length : Int) := by omega
    clear hl1 hr2 hat
    repeat' (first | (with_reducible refine sxGuardB_tsp (fun h => ?_) (fun h => ?_)) | (with_reducible refine sxGuardB_fsp (fun h => ?_) (fun h => ?_)) | (with_reducible refine sxIfB_sp (fun h => ?_) (fun h => ?_)) | simp only [↓sxC_skip, ↓sxC_draw, ↓sxC_region, ↓sxC_seq, ↓bxC_cond, ↓bxC_loop, ↓sxC_block, ↓sxC_exit, ↓sxC_goto, ↓sxC_ret, ↓sxOps_nil, ↓sxOps_cons, ↓sxDraw_nil, ↓bxDraw_cons, ↓sxD_same, ↓sxStep_none, ↓bxStep_some, ↓bxOp_move, ↓bxOp_assign, ↓bxOp_pick, ↓bxOp_alloc, ↓bxOp_box, ↓bxOp_build, ↓bxOp_buildSlice, ↓bxOp_load, ↓bxOp_store, ↓bxOp_nilCheck, ↓bxOp_bin, ↓bxOp_un, ↓bxOp_makeI, ↓bxOp_makeFunc, ↓bxOp_makeSlice, ↓bxOp_slice, ↓bxOp_fieldAddr, ↓bxOp_field, ↓bxOp_indexAddr, ↓bxOp_index, ↓bxOp_assert, ↓bxOp_extract, ↓bxOp_value, ↓bxOp_len, ↓bxOp_cap, ↓bxOp_append, ↓bxOp_copy, ↓bxOp_max, ↓bxOp_min, ↓bxOp_convert, ↓sxPut_none, ↓bxPut, ↓seqQ_normal, ↓seqQ_exit, ↓seqQ_ret, ↓seqQ_goto, ↓blockQ_normal, ↓blockQ_ret, ↓blockQ_goto, ↓blockQ_exit, ↓loopQ_normal, ↓loopQ_exit, ↓loopQ_ret, ↓loopQ_goto, ↓resQ_normal, ↓resQ_ret, ↓sxRes_nil, ↓sxRes_tmp, ↓bxRes_cell, ↓upd_apply, ↓ev_tmp, ↓ev_const, ↓ev_global, ↓ev_func, ↓dstAt, ↓gval_some, sxOptB_some, sxOptB_ite, mm_max, mm_min, bin_shl, bin_shr, bin_int, intBin, una_not_dec, una_nt, una_nf, una_neg, aPick_true, aPick_false, sxCallVB_fn, sxCallVB_yield, sxGuardB_u, sxGuardB_tt, sxGuardB_tf, sxGuardB_ft, sxGuardB_ff, sxIfB_t, sxIfB_f, packRes_one, packRes_two, List.map_cons, List.map_nil, List.nil_append, List.cons_append, List.append_nil, ↓reduceIte, Nat.reduceEqDiff, Nat.reduceLT, dec_T, dec_F, false_imp, true_and, and_true, true_implies, implies_true, false_and, and_false, true_or, or_true, false_or, or_false, and_self, or_self, read_relow, size_relow, low_relow, relow_relow, aLoad_relow, Nat.add_zero, Nat.mul_one, one1, Option.bind_some, ne_eq, Int.natCast_nonneg, Int.toNat_natCast, not_true_eq_false, not_false_eq_true, Option.map_some, Option.map_none, *, lenN, ldN])
    · exact ⟨k, rfl, hK.trans hK2, .inr ⟨k, rfl, hlt, ‹_›, hall⟩⟩
    · exact ⟨_, by omega, k + 1, rfl, by omega, hK.trans hK2, fun j hj => by
        rcases Nat.lt_or_ge j k with h | h
        · exact hall j h
        · rw [show j = k by omega]; assumption, rfl⟩
  · have hlt' : ¬ (k : Int) < (w.length : Int) := by omega
    clear hl1
    obtain rfl : k = w.length := by omega
    repeat' (first | (with_reducible refine sxGuardB_tsp (fun h => ?_) (fun h => ?_)) | (with_reducible refine sxGuardB_fsp (fun h => ?_) (fun h => ?_)) | (with_reducible refine sxIfB_sp (fun h => ?_) (fun h => ?_)) | simp only [↓sxC_skip, ↓sxC_draw, ↓sxC_region, ↓sxC_seq, ↓bxC_cond, ↓bxC_loop, ↓sxC_block, ↓sxC_exit, ↓sxC_goto, ↓sxC_ret, ↓sxOps_nil, ↓sxOps_cons, ↓sxDraw_nil, ↓bxDraw_cons, ↓sxD_same, ↓sxStep_none, ↓bxStep_some, ↓bxOp_move, ↓bxOp_assign, ↓bxOp_pick, ↓bxOp_alloc, ↓bxOp_box, ↓bxOp_build, ↓bxOp_buildSlice, ↓bxOp_load, ↓bxOp_store, ↓bxOp_nilCheck, ↓bxOp_bin, ↓bxOp_un, ↓bxOp_makeI, ↓bxOp_makeFunc, ↓bxOp_makeSlice, ↓bxOp_slice, ↓bxOp_fieldAddr, ↓bxOp_field, ↓bxOp_indexAddr, ↓bxOp_index, ↓bxOp_assert, ↓bxOp_extract, ↓bxOp_value, ↓bxOp_len, ↓bxOp_cap, ↓bxOp_append, ↓bxOp_copy, ↓bxOp_max, ↓bxOp_min, ↓bxOp_convert, ↓sxPut_none, ↓bxPut, ↓seqQ_normal, ↓seqQ_exit, ↓seqQ_ret, ↓seqQ_goto, ↓blockQ_normal, ↓blockQ_ret, ↓blockQ_goto, ↓blockQ_exit, ↓loopQ_normal, ↓loopQ_exit, ↓loopQ_ret, ↓loopQ_goto, ↓resQ_normal, ↓resQ_ret, ↓sxRes_nil, ↓sxRes_tmp, ↓bxRes_cell, ↓upd_apply, ↓ev_tmp, ↓ev_const, ↓ev_global, ↓ev_func, ↓dstAt, ↓gval_some, sxOptB_some, sxOptB_ite, mm_max, mm_min, bin_shl, bin_shr, bin_int, intBin, una_not_dec, una_nt, una_nf, una_neg, aPick_true, aPick_false, sxCallVB_fn, sxCallVB_yield, sxGuardB_u, sxGuardB_tt, sxGuardB_tf, sxGuardB_ft, sxGuardB_ff, sxIfB_t, sxIfB_f, packRes_one, packRes_two, List.map_cons, List.map_nil, List.nil_append, List.cons_append, List.append_nil, ↓reduceIte, Nat.reduceEqDiff, Nat.reduceLT, dec_T, dec_F, false_imp, true_and, and_true, true_implies, implies_true, false_and, and_false, true_or, or_true, false_or, or_false, and_self, or_self, read_relow, size_relow, low_relow, relow_relow, aLoad_relow, Nat.add_zero, Nat.mul_one, one1, Option.bind_some, ne_eq, Int.natCast_nonneg, Int.toNat_natCast, not_true_eq_false, not_false_eq_true, Option.map_some, Option.map_none, *, lenN, ldN])
    exact ⟨-1, rfl, .inl ⟨rfl, all_of hall⟩⟩

theorem cfNode_runs (p : Nd → Prop) [DecidablePred p] (v : Value) (w : List Nd) (r o : Nat) (H : Heap) (hl : SlN H v w r o)
    {g : FuncId} {cs : List Value} (hp : ∀ H1, Keep H H1 → ∀ n xs, nodeE.At H1 n xs → ∃ H2, Keep H1 H2 ∧ Runs Tryd.prog S (.fn g) (.agg ⟨xs⟩ :: cs) H1 (.bool (decide (p n))) H2) :
    ∃ H', Keep H H' ∧ Runs Tryd.prog S (.fn 49) [v, .func (.func g) #[] ⟨cs⟩] H (.bool (decide (¬ ∀ x ∈ w, ¬ p x))) H' := by
  obtain ⟨H', k, hK, hR, hk⟩ := ifNode_runs hS p v w r o H hl hp
  refine ⟨H', hK, ?_⟩
  have hk' : 0 ≤ k ↔ ¬ ∀ x ∈ w, ¬ p x := by
    rcases hk with ⟨rfl, h⟩ | ⟨j, rfl, h1, h2, h3⟩
    · exact ⟨fun h => by omega, fun hn => absurd h hn⟩
    · exact ⟨fun _ hn => hn _ (getD_mem h1) h2, fun _ => by omega⟩
  suffices h : WCall Tryd.prog S (.fn 49) [v, .func (.func g) #[] ⟨cs⟩] H (fun v' H1 => v' = .bool (decide (¬ ∀ x ∈ w, ¬ p x)) ∧ H1 = H') by
    obtain ⟨_, _, hr, rfl, rfl⟩ := h; exact hr
  refine call_of Tryd.func49 rfl (Nat.le_of_ble_eq_true rfl) (hS.no rfl _ _) ?_
  rw [Tryd.ntmps49, Tryd.results49]
  have hb := hR.bx
  clear hR hp
  repeat' (first | (with_reducible refine sxGuardB_tsp (fun h => ?_) (fun h => ?_)) | (with_reducible refine sxGuardB_fsp (fun h => ?_) (fun h => ?_)) | (with_reducible refine sxIfB_sp (fun h => ?_) (fun h => ?_)) | simp only [↓sxC_skip, ↓sxC_draw, ↓sxC_region, ↓sxC_seq, ↓bxC_cond, ↓bxC_loop, ↓sxC_block, ↓sxC_exit, ↓sxC_goto, ↓sxC_ret, ↓sxOps_nil, ↓sxOps_cons, ↓sxDraw_nil, ↓bxDraw_cons, ↓sxD_same, ↓sxStep_none, ↓bxStep_some, ↓bxOp_move, ↓bxOp_assign, ↓bxOp_pick, ↓bxOp_alloc, ↓bxOp_box, ↓bxOp_build, ↓bxOp_buildSlice, ↓bxOp_load, ↓bxOp_store, ↓bxOp_nilCheck, ↓bxOp_bin, ↓bxOp_un, ↓bxOp_makeI, ↓bxOp_makeFunc, ↓bxOp_makeSlice, ↓bxOp_slice, ↓bxOp_fieldAddr, ↓bxOp_field, ↓bxOp_indexAddr, ↓bxOp_index, ↓bxOp_assert, ↓bxOp_extract, ↓bxOp_value, ↓bxOp_len, ↓bxOp_cap, ↓bxOp_append, ↓bxOp_copy, ↓bxOp_max, ↓bxOp_min, ↓bxOp_convert, ↓sxPut_none, ↓bxPut, ↓seqQ_normal, ↓seqQ_exit, ↓seqQ_ret, ↓seqQ_goto, ↓blockQ_normal, ↓blockQ_ret, ↓blockQ_goto, ↓blockQ_exit, ↓loopQ_normal, ↓loopQ_exit, ↓loopQ_ret, ↓loopQ_goto, ↓resQ_normal, ↓resQ_ret, ↓sxRes_nil, ↓sxRes_tmp, ↓bxRes_cell, ↓upd_apply, ↓ev_tmp, ↓ev_const, ↓ev_global, ↓ev_func, ↓dstAt, ↓gval_some, sxOptB_some, sxOptB_ite, mm_max, mm_min, bin_shl, bin_shr, bin_int, intBin, una_not_dec, una_nt, una_nf, una_neg, aPick_true, aPick_false, sxCallVB_fn, sxCallVB_yield, sxGuardB_u, sxGuardB_tt, sxGuardB_tf, sxGuardB_ft, sxGuardB_ff, sxIfB_t, sxIfB_f, packRes_one, packRes_two, List.map_cons, List.map_nil, List.nil_append, List.cons_append, List.append_nil, ↓reduceIte, Nat.reduceEqDiff, Nat.reduceLT, dec_T, dec_F, false_imp, true_and, and_true, true_implies, implies_true, false_and, and_false, true_or, or_true, false_or, or_false, and_self, or_self, read_relow, size_relow, low_relow, relow_relow, aLoad_relow, Nat.add_zero, Nat.mul_one, one1, Option.bind_some, ne_eq, Int.natCast_nonneg, Int.toNat_natCast, not_true_eq_false, not_false_eq_true, Option.map_some, Option.map_none, *, argF, List.getD_cons_zero, List.getD_cons_succ])
  all_goals first
    | exact bool_d hk'
    | skip

theorem isDiagram_runs (k : Int) (v : Value) (d : List Nd) (r o : Nat) (H : Heap) (hL : H.low ≤ H.size) (hd : SlN H v d r o) :
    ∃ H', Keep H H' ∧ Runs Tryd.prog S (.fn 30) [.int .i64 k, v] H (.bool (decide (Diagram k d))) H' := by
  suffices h : WCall Tryd.prog S (.fn 30) [.int .i64 k, v] H (fun v H' => v = .bool (decide (Diagram k d)) ∧ Keep H H') by
    obtain ⟨_, H', hr, rfl, hk⟩ := h; exact ⟨H', hk, hr⟩
  obtain ⟨a, cap, rfl⟩ := hd.v0
  refine call_of Tryd.func30 rfl (Nat.le_of_ble_eq_true rfl) (hS.no rfl _ _) ?_
  rw [Tryd.ntmps30, Tryd.results30]
  have hc : (Value.int .i64 k).cells.toList = [.int .i64 k] := rfl
  have hc2 : (Value.slice a d.length cap).cells.toList = [.slice a d.length cap] := rfl
  have ldS := fun (H : Heap) (r o : Nat) => (show aLoad Tryd.prog H 30 (.pointer (some ⟨r, o, none⟩)) = (H.read r o 1).bind one1 by kernel_rfl)
  obtain ⟨H1, hH1, hK1, hs1, hsz1, hrd1⟩ := box1 H [.int .i64 k] 3
  obtain ⟨H2, hH2, hK2, hs2, hsz2, hrd2⟩ := box1 H1 [.slice a d.length cap] 30
  have q1 : H2.read H.size 0 1 = some [.int .i64 k] := hK2.read hs1 (hrd1 0 1 (show 0 + 1 ≤ 1 by omega))
  have q2 : H2.read H1.size 0 1 = some [.slice a d.length cap] := hrd2 0 1 (show 0 + 1 ≤ 1 by omega)
  have hKK := hK1.trans hK2
  obtain ⟨H3, hK3, hR3⟩ := cfNode_runs hS (fun n => ¬ NodeOk k d n) _ d r o H2 (hd.keep hKK) (g := 50) (cs := [.pointer (some ⟨H.size, 0, none⟩), .pointer (some ⟨H1.size, 0, none⟩)]) fun H4 hK4 n xs hx =>
    isDiagramL_runs hS k _ d r o H.size H1.size n xs H4 (hK4.low (hKK.low hL)) ((hd.keep hKK).keep hK4) hx (Nat.lt_of_lt_of_le (by omega) hK4.size) (Nat.lt_of_lt_of_le (by omega) hK4.size) (hK4.read (by omega) q1) (hK4.read (by omega) q2)
  have hb := hR3.bx
  have hy : notYield (.func 50) = true := rfl
  have hK13 := hKK.trans hK3
  clear hR3 hd hrd1 hrd2 hsz1 hsz2
  repeat' (first | (with_reducible refine sxGuardB_tsp (fun h => ?_) (fun h => ?_)) | (with_reducible refine sxGuardB_fsp (fun h => ?_) (fun h => ?_)) | (with_reducible refine sxIfB_sp (fun h => ?_) (fun h => ?_)) | simp only [↓sxC_skip, ↓sxC_draw, ↓sxC_region, ↓sxC_seq, ↓bxC_cond, ↓bxC_loop, ↓sxC_block, ↓sxC_exit, ↓sxC_goto, ↓sxC_ret, ↓sxOps_nil, ↓sxOps_cons, ↓sxDraw_nil, ↓bxDraw_cons, ↓sxD_same, ↓sxStep_none, ↓bxStep_some, ↓bxOp_move, ↓bxOp_assign, ↓bxOp_pick, ↓bxOp_alloc, ↓bxOp_box, ↓bxOp_build, ↓bxOp_buildSlice, ↓bxOp_load, ↓bxOp_store, ↓bxOp_nilCheck, ↓bxOp_bin, ↓bxOp_un, ↓bxOp_makeI, ↓bxOp_makeFunc, ↓bxOp_makeSlice, ↓bxOp_slice, ↓bxOp_fieldAddr, ↓bxOp_field, ↓bxOp_indexAddr, ↓bxOp_index, ↓bxOp_assert, ↓bxOp_extract, ↓bxOp_value, ↓bxOp_len, ↓bxOp_cap, ↓bxOp_append, ↓bxOp_copy, ↓bxOp_max, ↓bxOp_min, ↓bxOp_convert, ↓sxPut_none, ↓bxPut, ↓seqQ_normal, ↓seqQ_exit, ↓seqQ_ret, ↓seqQ_goto, ↓blockQ_normal, ↓blockQ_ret, ↓blockQ_goto, ↓blockQ_exit, ↓loopQ_normal, ↓loopQ_exit, ↓loopQ_ret, ↓loopQ_goto, ↓resQ_normal, ↓resQ_ret, ↓sxRes_nil, ↓sxRes_tmp, ↓bxRes_cell, ↓upd_apply, ↓ev_tmp, ↓ev_const, ↓ev_global, ↓ev_func, ↓dstAt, ↓gval_some, sxOptB_some, sxOptB_ite, mm_max, mm_min, bin_shl, bin_shr, bin_int, intBin, una_not_dec, una_nt, una_nf, una_neg, aPick_true, aPick_false, sxCallVB_fn, sxCallVB_yield, sxGuardB_u, sxGuardB_tt, sxGuardB_tf, sxGuardB_ft, sxGuardB_ff, sxIfB_t, sxIfB_f, packRes_one, packRes_two, List.map_cons, List.map_nil, List.nil_append, List.cons_append, List.append_nil, ↓reduceIte, Nat.reduceEqDiff, Nat.reduceLT, dec_T, dec_F, false_imp, true_and, and_true, true_implies, implies_true, false_and, and_false, true_or, or_true, false_or, or_false, and_self, or_self, read_relow, size_relow, low_relow, relow_relow, aLoad_relow, Nat.add_zero, Nat.mul_one, one1, Option.bind_some, ne_eq, Int.natCast_nonneg, Int.toNat_natCast, not_true_eq_false, not_false_eq_true, Option.map_some, Option.map_none, *, argF, List.getD_cons_zero, List.getD_cons_succ, lenN, ldI])
  all_goals first
    | exact bool_f fun (hc : Diagram k d) => by have := hc.1; have := hc.2.1; omega
    | exact bool_d (by unfold Diagram; simp only [Decidable.not_not]; exact ⟨fun h1 => ⟨by omega, by omega, h1⟩, fun h1 => h1.2.2⟩)
end Go.Proofs.YtmllfacipbpkfaaDoor
