/- The first pair that a division treats otherwise: what the program and the reference answer, together. -/
import Derived.Test.YtmcomjgebcemdaaGreatBZ
import Derived.Test.YtmcomjgebcemdaaGreatBV
set_option linter.unusedVariables false
set_option linter.unusedSimpArgs false
set_option linter.unusedSectionVars false

namespace Go.Proofs.YtmcomjgebcemdaaGreat
open Go Go.AM
set_option maxRecDepth 10000
set_option linter.unusedSimpArgs false

variable {S : AM.Sys} (hS : Only S 8)
include hS

theorem Fair_bad (e : Int) (v v2 : Value) (c w : List Int) (d : Int) (r o r2 o2 : Nat) (H : Heap) (hg : Grp H) (hL : H.low ≤ H.size) (hc : SlI .i64 H v c r o) (hl : SlI .i64 H v2 w r2 o2) (hB : ¬ (Q.Prob e c ∧ Q.Shr e c w d)) :
    ∃ H', Keep H H' ∧ Runs Tryz.prog S (.fn 10) [.int .i64 e, v, .agg ⟨[v2, .int .i64 d]⟩] H (.tuple #[.slice none 0 0, .int .i64 2]) H' := by
  suffices h : WCall Tryz.prog S (.fn 10) [.int .i64 e, v, .agg ⟨[v2, .int .i64 d]⟩] H (fun z H' => z = .tuple #[.slice none 0 0, .int .i64 2] ∧ Keep H H') by
    obtain ⟨_, H', hr, rfl, h1⟩ := h; exact ⟨H', h1, hr⟩
  obtain ⟨H1, e1, k1, z1, rd2, rd0, rd1⟩ := Q.boxP H v2 (.int .i64 d)
  obtain ⟨H2, k2, R2⟩ := Q.isProblem_runs hS e v c r o H1 (hc.keep k1)
  have f2 := R2.bx
  have k12 := k1.trans k2
  have m2 := k2.read z1 rd2
  have hnot : una UnOp.not (Value.bool true) = some (.bool false) := rfl
  have hnot2 : una UnOp.not (Value.bool false) = some (.bool true) := rfl
  refine call_of Tryz.func10 rfl (Nat.le_of_ble_eq_true rfl) (hS.no rfl _ _) ?_
  rw [Tryz.ntmps10, Tryz.results10]
  by_cases hP : Q.Prob e c
  · obtain ⟨H3, k3, R3⟩ := Q.areShares_runs hS e _ _ c w d r o r2 o2 H2 (k12.low hL) (hc.keep k12) (hl.keep k12) hP
    have f3 := R3.bx
    rw [decide_eq_false (fun h => hB ⟨hP, h⟩)] at f3
    rw [decide_eq_true hP] at f2
    have k13 := k12.trans k3
    clear rd2 rd0 rd1 R2 R3 hc hl hB hP
    repeat' (first | (with_reducible refine sxGuardB_tsp (fun h => ?_) (fun h => ?_)) | (with_reducible refine sxGuardB_fsp (fun h => ?_) (fun h => ?_)) | (with_reducible refine sxIfB_sp (fun h => ?_) (fun h => ?_)) | simp only [↓sxC_skip, ↓sxC_draw, ↓sxC_region, ↓sxC_seq, ↓bxC_cond, ↓bxC_loop, ↓sxC_block, ↓sxC_exit, ↓sxC_goto, ↓sxC_ret, ↓sxOps_nil, ↓sxOps_cons, ↓sxDraw_nil, ↓bxDraw_cons, ↓sxD_same, ↓sxStep_none, ↓bxStep_some, ↓bxOp_move, ↓bxOp_assign, ↓bxOp_pick, ↓bxOp_alloc, ↓bxOp_box, ↓bxOp_build, ↓bxOp_buildSlice, ↓bxOp_load, ↓bxOp_store, ↓bxOp_nilCheck, ↓bxOp_bin, ↓bxOp_un, ↓bxOp_makeI, ↓bxOp_makeFunc, ↓bxOp_makeSlice, ↓bxOp_slice, ↓bxOp_fieldAddr, ↓bxOp_field, ↓bxOp_indexAddr, ↓bxOp_index, ↓bxOp_assert, ↓bxOp_extract, ↓bxOp_value, ↓bxOp_len, ↓bxOp_cap, ↓bxOp_append, ↓bxOp_copy, ↓bxOp_max, ↓bxOp_min, ↓bxOp_convert, ↓sxPut_none, ↓bxPut, ↓seqQ_normal, ↓seqQ_exit, ↓seqQ_ret, ↓seqQ_goto, ↓blockQ_normal, ↓blockQ_ret, ↓blockQ_goto, ↓blockQ_exit, ↓loopQ_normal, ↓loopQ_exit, ↓loopQ_ret, ↓loopQ_goto, ↓resQ_normal, ↓resQ_ret, ↓sxRes_nil, ↓sxRes_tmp, ↓bxRes_cell, ↓upd_apply, ↓ev_tmp, ↓ev_const, ↓ev_global, ↓ev_func, ↓dstAt, ↓gval_some, sxOptB_some, sxOptB_ite, mm_max, mm_min, binP_shl, binP_shr, binP_int, intBin, una_not_dec, una_nt, una_nf, una_neg, aPick_true, aPick_false, sxCallVB_fn, sxCallVB_yield, sxGuardB_u, sxGuardB_tt, sxGuardB_tf, sxGuardB_ft, sxGuardB_ff, sxIfB_t, sxIfB_f, packRes_one, packRes_two, List.map_cons, List.map_nil, List.nil_append, List.cons_append, List.append_nil, ↓reduceIte, Nat.reduceEqDiff, Nat.reduceLT, dec_T, dec_F, false_imp, true_and, and_true, true_implies, implies_true, false_and, and_false, true_or, or_true, false_or, or_false, and_self, or_self, read_relow, size_relow, low_relow, relow_relow, aLoad_relow, Nat.add_zero, Nat.mul_one, one1, Option.bind_some, ne_eq, Int.natCast_nonneg, Int.toNat_natCast, not_true_eq_false, not_false_eq_true, Option.map_some, Option.map_none, *, argF, List.getD_cons_zero, List.getD_cons_succ, ldP, hnot, hnot2, Q.cells_agg, Nat.zero_add] | (with_reducible refine sxD_bar (by kernel_rfl) ?_))
  · rw [decide_eq_false hP] at f2
    clear rd2 rd0 rd1 R2 hc hl hB hP
    repeat' (first | (with_reducible refine sxGuardB_tsp (fun h => ?_) (fun h => ?_)) | (with_reducible refine sxGuardB_fsp (fun h => ?_) (fun h => ?_)) | (with_reducible refine sxIfB_sp (fun h => ?_) (fun h => ?_)) | simp only [↓sxC_skip, ↓sxC_draw, ↓sxC_region, ↓sxC_seq, ↓bxC_cond, ↓bxC_loop, ↓sxC_block, ↓sxC_exit, ↓sxC_goto, ↓sxC_ret, ↓sxOps_nil, ↓sxOps_cons, ↓sxDraw_nil, ↓bxDraw_cons, ↓sxD_same, ↓sxStep_none, ↓bxStep_some, ↓bxOp_move, ↓bxOp_assign, ↓bxOp_pick, ↓bxOp_alloc, ↓bxOp_box, ↓bxOp_build, ↓bxOp_buildSlice, ↓bxOp_load, ↓bxOp_store, ↓bxOp_nilCheck, ↓bxOp_bin, ↓bxOp_un, ↓bxOp_makeI, ↓bxOp_makeFunc, ↓bxOp_makeSlice, ↓bxOp_slice, ↓bxOp_fieldAddr, ↓bxOp_field, ↓bxOp_indexAddr, ↓bxOp_index, ↓bxOp_assert, ↓bxOp_extract, ↓bxOp_value, ↓bxOp_len, ↓bxOp_cap, ↓bxOp_append, ↓bxOp_copy, ↓bxOp_max, ↓bxOp_min, ↓bxOp_convert, ↓sxPut_none, ↓bxPut, ↓seqQ_normal, ↓seqQ_exit, ↓seqQ_ret, ↓seqQ_goto, ↓blockQ_normal, ↓blockQ_ret, ↓blockQ_goto, ↓blockQ_exit, ↓loopQ_normal, ↓loopQ_exit, ↓loopQ_ret, ↓loopQ_goto, ↓resQ_normal, ↓resQ_ret, ↓sxRes_nil, ↓sxRes_tmp, ↓bxRes_cell, ↓upd_apply, ↓ev_tmp, ↓ev_const, ↓ev_global, ↓ev_func, ↓dstAt, ↓gval_some, sxOptB_some, sxOptB_ite, mm_max, mm_min, binP_shl, binP_shr, binP_int, intBin, una_not_dec, una_nt, una_nf, una_neg, aPick_true, aPick_false, sxCallVB_fn, sxCallVB_yield, sxGuardB_u, sxGuardB_tt, sxGuardB_tf, sxGuardB_ft, sxGuardB_ff, sxIfB_t, sxIfB_f, packRes_one, packRes_two, List.map_cons, List.map_nil, List.nil_append, List.cons_append, List.append_nil, ↓reduceIte, Nat.reduceEqDiff, Nat.reduceLT, dec_T, dec_F, false_imp, true_and, and_true, true_implies, implies_true, false_and, and_false, true_or, or_true, false_or, or_false, and_self, or_self, read_relow, size_relow, low_relow, relow_relow, aLoad_relow, Nat.add_zero, Nat.mul_one, one1, Option.bind_some, ne_eq, Int.natCast_nonneg, Int.toNat_natCast, not_true_eq_false, not_false_eq_true, Option.map_some, Option.map_none, *, argF, List.getD_cons_zero, List.getD_cons_succ, ldP, hnot, hnot2, Q.cells_agg, Nat.zero_add] | (with_reducible refine sxD_bar (by kernel_rfl) ?_))

theorem rFair_bad (e : Int) (v v2 : Value) (c w : List Int) (d : Int) (r o r2 o2 : Nat) (H : Heap) (hg : Grp H) (hL : H.low ≤ H.size) (hc : SlI .i64 H v c r o) (hl : SlI .i64 H v2 w r2 o2) (hB : ¬ (Q.Prob e c ∧ Q.Shr e c w d)) :
    ∃ H', Keep H H' ∧ Runs Tryz.prog S (.fn 11) [.int .i64 e, v, .agg ⟨[v2, .int .i64 d]⟩] H (.tuple #[.slice none 0 0, .int .i64 2]) H' := by
  suffices h : WCall Tryz.prog S (.fn 11) [.int .i64 e, v, .agg ⟨[v2, .int .i64 d]⟩] H (fun z H' => z = .tuple #[.slice none 0 0, .int .i64 2] ∧ Keep H H') by
    obtain ⟨_, H', hr, rfl, h1⟩ := h; exact ⟨H', h1, hr⟩
  obtain ⟨H1, e1, k1, z1, rd2, rd0, rd1⟩ := Q.boxP H v2 (.int .i64 d)
  have f2 := (Q.Problem_runs hS e v c r o H1 (k1.low hL) (hc.keep k1)).bx
  have hnot : una UnOp.not (Value.bool true) = some (.bool false) := rfl
  have hnot2 : una UnOp.not (Value.bool false) = some (.bool true) := rfl
  refine call_of Tryz.func11 rfl (Nat.le_of_ble_eq_true rfl) (hS.no rfl _ _) ?_
  rw [Tryz.ntmps11, Tryz.results11]
  by_cases hP : Q.Prob e c
  · obtain ⟨H3, k3, R3⟩ := Q.IsShares_runs hS e _ _ c w d r o r2 o2 H1 (k1.low hL) (hc.keep k1) (hl.keep k1) hP
    have f3 := R3.bx
    rw [decide_eq_false (fun h => hB ⟨hP, h⟩)] at f3
    rw [decide_eq_true hP] at f2
    have k13 := k1.trans k3
    clear rd0 rd1 R3 hc hl hB hP
    repeat' (first | (with_reducible refine sxGuardB_tsp (fun h => ?_) (fun h => ?_)) | (with_reducible refine sxGuardB_fsp (fun h => ?_) (fun h => ?_)) | (with_reducible refine sxIfB_sp (fun h => ?_) (fun h => ?_)) | simp only [↓sxC_skip, ↓sxC_draw, ↓sxC_region, ↓sxC_seq, ↓bxC_cond, ↓bxC_loop, ↓sxC_block, ↓sxC_exit, ↓sxC_goto, ↓sxC_ret, ↓sxOps_nil, ↓sxOps_cons, ↓sxDraw_nil, ↓bxDraw_cons, ↓sxD_same, ↓sxStep_none, ↓bxStep_some, ↓bxOp_move, ↓bxOp_assign, ↓bxOp_pick, ↓bxOp_alloc, ↓bxOp_box, ↓bxOp_build, ↓bxOp_buildSlice, ↓bxOp_load, ↓bxOp_store, ↓bxOp_nilCheck, ↓bxOp_bin, ↓bxOp_un, ↓bxOp_makeI, ↓bxOp_makeFunc, ↓bxOp_makeSlice, ↓bxOp_slice, ↓bxOp_fieldAddr, ↓bxOp_field, ↓bxOp_indexAddr, ↓bxOp_index, ↓bxOp_assert, ↓bxOp_extract, ↓bxOp_value, ↓bxOp_len, ↓bxOp_cap, ↓bxOp_append, ↓bxOp_copy, ↓bxOp_max, ↓bxOp_min, ↓bxOp_convert, ↓sxPut_none, ↓bxPut, ↓seqQ_normal, ↓seqQ_exit, ↓seqQ_ret, ↓seqQ_goto, ↓blockQ_normal, ↓blockQ_ret, ↓blockQ_goto, ↓blockQ_exit, ↓loopQ_normal, ↓loopQ_exit, ↓loopQ_ret, ↓loopQ_goto, ↓resQ_normal, ↓resQ_ret, ↓sxRes_nil, ↓sxRes_tmp, ↓bxRes_cell, ↓upd_apply, ↓ev_tmp, ↓ev_const, ↓ev_global, ↓ev_func, ↓dstAt, ↓gval_some, sxOptB_some, sxOptB_ite, mm_max, mm_min, binP_shl, binP_shr, binP_int, intBin, una_not_dec, una_nt, una_nf, una_neg, aPick_true, aPick_false, sxCallVB_fn, sxCallVB_yield, sxGuardB_u, sxGuardB_tt, sxGuardB_tf, sxGuardB_ft, sxGuardB_ff, sxIfB_t, sxIfB_f, packRes_one, packRes_two, List.map_cons, List.map_nil, List.nil_append, List.cons_append, List.append_nil, ↓reduceIte, Nat.reduceEqDiff, Nat.reduceLT, dec_T, dec_F, false_imp, true_and, and_true, true_implies, implies_true, false_and, and_false, true_or, or_true, false_or, or_false, and_self, or_self, read_relow, size_relow, low_relow, relow_relow, aLoad_relow, Nat.add_zero, Nat.mul_one, one1, Option.bind_some, ne_eq, Int.natCast_nonneg, Int.toNat_natCast, not_true_eq_false, not_false_eq_true, Option.map_some, Option.map_none, *, argF, List.getD_cons_zero, List.getD_cons_succ, ldP, hnot, hnot2, Q.cells_agg, Nat.zero_add] | (with_reducible refine sxD_bar (by kernel_rfl) ?_))
  · rw [decide_eq_false hP] at f2
    clear rd0 rd1 hc hl hB hP
    repeat' (first | (with_reducible refine sxGuardB_tsp (fun h => ?_) (fun h => ?_)) | (with_reducible refine sxGuardB_fsp (fun h => ?_) (fun h => ?_)) | (with_reducible refine sxIfB_sp (fun h => ?_) (fun h => ?_)) | simp only [↓sxC_skip, ↓sxC_draw, ↓sxC_region, ↓sxC_seq, ↓bxC_cond, ↓bxC_loop, ↓sxC_block, ↓sxC_exit, ↓sxC_goto, ↓sxC_ret, ↓sxOps_nil, ↓sxOps_cons, ↓sxDraw_nil, ↓bxDraw_cons, ↓sxD_same, ↓sxStep_none, ↓bxStep_some, ↓bxOp_move, ↓bxOp_assign, ↓bxOp_pick, ↓bxOp_alloc, ↓bxOp_box, ↓bxOp_build, ↓bxOp_buildSlice, ↓bxOp_load, ↓bxOp_store, ↓bxOp_nilCheck, ↓bxOp_bin, ↓bxOp_un, ↓bxOp_makeI, ↓bxOp_makeFunc, ↓bxOp_makeSlice, ↓bxOp_slice, ↓bxOp_fieldAddr, ↓bxOp_field, ↓bxOp_indexAddr, ↓bxOp_index, ↓bxOp_assert, ↓bxOp_extract, ↓bxOp_value, ↓bxOp_len, ↓bxOp_cap, ↓bxOp_append, ↓bxOp_copy, ↓bxOp_max, ↓bxOp_min, ↓bxOp_convert, ↓sxPut_none, ↓bxPut, ↓seqQ_normal, ↓seqQ_exit, ↓seqQ_ret, ↓seqQ_goto, ↓blockQ_normal, ↓blockQ_ret, ↓blockQ_goto, ↓blockQ_exit, ↓loopQ_normal, ↓loopQ_exit, ↓loopQ_ret, ↓loopQ_goto, ↓resQ_normal, ↓resQ_ret, ↓sxRes_nil, ↓sxRes_tmp, ↓bxRes_cell, ↓upd_apply, ↓ev_tmp, ↓ev_const, ↓ev_global, ↓ev_func, ↓dstAt, ↓gval_some, sxOptB_some, sxOptB_ite, mm_max, mm_min, binP_shl, binP_shr, binP_int, intBin, una_not_dec, una_nt, una_nf, una_neg, aPick_true, aPick_false, sxCallVB_fn, sxCallVB_yield, sxGuardB_u, sxGuardB_tt, sxGuardB_tf, sxGuardB_ft, sxGuardB_ff, sxIfB_t, sxIfB_f, packRes_one, packRes_two, List.map_cons, List.map_nil, List.nil_append, List.cons_append, List.append_nil, ↓reduceIte, Nat.reduceEqDiff, Nat.reduceLT, dec_T, dec_F, false_imp, true_and, and_true, true_implies, implies_true, false_and, and_false, true_or, or_true, false_or, or_false, and_self, or_self, read_relow, size_relow, low_relow, relow_relow, aLoad_relow, Nat.add_zero, Nat.mul_one, one1, Option.bind_some, ne_eq, Int.natCast_nonneg, Int.toNat_natCast, not_true_eq_false, not_false_eq_true, Option.map_some, Option.map_none, *, argF, List.getD_cons_zero, List.getD_cons_succ, ldP, hnot, hnot2, Q.cells_agg, Nat.zero_add] | (with_reducible refine sxD_bar (by kernel_rfl) ?_))

theorem bothF (e : Int) (v v2 : Value) (c w : List Int) (d : Int) (r o r2 o2 : Nat) (H0 : Heap) (hc : SlI .i64 H0 v c r o) (hl : SlI .i64 H0 v2 w r2 o2) : ∃ (u : List Int) (f : Int),
    (∀ H, Keep H0 H → Grp H → H.low ≤ H.size → ∃ H' z r' o', Keep H H' ∧ Grp H' ∧ SlI .i64 H' z u r' o' ∧ Runs Tryz.prog S (.fn 10) [.int .i64 e, v, .agg ⟨[v2, .int .i64 d]⟩] H (.tuple #[z, .int .i64 f]) H') ∧
    (∀ H, Keep H0 H → Grp H → H.low ≤ H.size → ∃ H' z r' o', Keep H H' ∧ Grp H' ∧ SlI .i64 H' z u r' o' ∧ Runs Tryz.prog S (.fn 11) [.int .i64 e, v, .agg ⟨[v2, .int .i64 d]⟩] H (.tuple #[z, .int .i64 f]) H') := by
  by_cases hB : Q.Prob e c ∧ Q.Shr e c w d
  · by_cases hu : ∃ u, Res c w d u
    · obtain ⟨u, hu⟩ := hu
      refine ⟨u, 0, fun H hk hg hL => ?_, fun H hk hg hL => ?_⟩
      · obtain ⟨H', z, u', r', o', h1, h2, h3, h4, h5⟩ := Fair_runs hS e v v2 c w d r o r2 o2 H hg hL (hc.keep hk) (hl.keep hk) hB.1 hB.2
        obtain rfl := h1.one hu
        exact ⟨H', z, r', o', h2, h3, h4, h5⟩
      · obtain ⟨H', z, u', r', o', h1, h2, h3, h4, h5⟩ := rFair_runs hS e v v2 c w d r o r2 o2 H hg hL (hc.keep hk) (hl.keep hk) hB.1 hB.2
        obtain rfl := h1.one hu
        exact ⟨H', z, r', o', h2, h3, h4, h5⟩
    · refine ⟨[], 0, fun H hk hg hL => ?_, fun H hk hg hL => ?_⟩
      · obtain ⟨H', z, u', r', o', h1, _⟩ := Fair_runs hS e v v2 c w d r o r2 o2 H hg hL (hc.keep hk) (hl.keep hk) hB.1 hB.2
        exact absurd ⟨u', h1⟩ hu
      · obtain ⟨H', z, u', r', o', h1, _⟩ := rFair_runs hS e v v2 c w d r o r2 o2 H hg hL (hc.keep hk) (hl.keep hk) hB.1 hB.2
        exact absurd ⟨u', h1⟩ hu
  · refine ⟨[], 2, fun H hk hg hL => ?_, fun H hk hg hL => ?_⟩
    · obtain ⟨H', h1, h2⟩ := Fair_bad hS e v v2 c w d r o r2 o2 H hg hL (hc.keep hk) (hl.keep hk) hB
      exact ⟨H', _, 0, 0, h1, h1.grp hg, SlI_nil _, h2⟩
    · obtain ⟨H', h1, h2⟩ := rFair_bad hS e v v2 c w d r o r2 o2 H hg hL (hc.keep hk) (hl.keep hk) hB
      exact ⟨H', _, 0, 0, h1, h1.grp hg, SlI_nil _, h2⟩

theorem few_runs (v : Value) (w : List Int) (r o : Nat) (H : Heap) (hl : SlI .i64 H v w r o) : Runs Tryz.prog S (.fn 9) [v] H (.bool (decide ((w.length : Int) ≤ 40))) H := by
  suffices h : WCall Tryz.prog S (.fn 9) [v] H (fun v H' => v = .bool (decide ((w.length : Int) ≤ 40)) ∧ H' = H) by
    obtain ⟨_, _, hr, rfl, rfl⟩ := h; exact hr
  obtain ⟨a, cap, rfl⟩ := hl.v0
  refine call_of Tryz.func9 rfl (Nat.le_of_ble_eq_true rfl) (hS.no rfl _ _) ?_
  rw [Tryz.ntmps9, Tryz.results9]
  repeat' (first | (with_reducible refine sxGuardB_tsp (fun h => ?_) (fun h => ?_)) | (with_reducible refine sxGuardB_fsp (fun h => ?_) (fun h => ?_)) | (with_reducible refine sxIfB_sp (fun h => ?_) (fun h => ?_)) | simp only [↓sxC_skip, ↓sxC_draw, ↓sxC_region, ↓sxC_seq, ↓bxC_cond, ↓bxC_loop, ↓sxC_block, ↓sxC_exit, ↓sxC_goto, ↓sxC_ret, ↓sxOps_nil, ↓sxOps_cons, ↓sxDraw_nil, ↓bxDraw_cons, ↓sxD_same, ↓sxStep_none, ↓bxStep_some, ↓bxOp_move, ↓bxOp_assign, ↓bxOp_pick, ↓bxOp_alloc, ↓bxOp_box, ↓bxOp_build, ↓bxOp_buildSlice, ↓bxOp_load, ↓bxOp_store, ↓bxOp_nilCheck, ↓bxOp_bin, ↓bxOp_un, ↓bxOp_makeI, ↓bxOp_makeFunc, ↓bxOp_makeSlice, ↓bxOp_slice, ↓bxOp_fieldAddr, ↓bxOp_field, ↓bxOp_indexAddr, ↓bxOp_index, ↓bxOp_assert, ↓bxOp_extract, ↓bxOp_value, ↓bxOp_len, ↓bxOp_cap, ↓bxOp_append, ↓bxOp_copy, ↓bxOp_max, ↓bxOp_min, ↓bxOp_convert, ↓sxPut_none, ↓bxPut, ↓seqQ_normal, ↓seqQ_exit, ↓seqQ_ret, ↓seqQ_goto, ↓blockQ_normal, ↓blockQ_ret, ↓blockQ_goto, ↓blockQ_exit, ↓loopQ_normal, ↓loopQ_exit, ↓loopQ_ret, ↓loopQ_goto, ↓resQ_normal, ↓resQ_ret, ↓sxRes_nil, ↓sxRes_tmp, ↓bxRes_cell, ↓upd_apply, ↓ev_tmp, ↓ev_const, ↓ev_global, ↓ev_func, ↓dstAt, ↓gval_some, sxOptB_some, sxOptB_ite, mm_max, mm_min, binP_shl, binP_shr, binP_int, intBin, una_not_dec, una_nt, una_nf, una_neg, aPick_true, aPick_false, sxCallVB_fn, sxCallVB_yield, sxGuardB_u, sxGuardB_tt, sxGuardB_tf, sxGuardB_ft, sxGuardB_ff, sxIfB_t, sxIfB_f, packRes_one, packRes_two, List.map_cons, List.map_nil, List.nil_append, List.cons_append, List.append_nil, ↓reduceIte, Nat.reduceEqDiff, Nat.reduceLT, dec_T, dec_F, false_imp, true_and, and_true, true_implies, implies_true, false_and, and_false, true_or, or_true, false_or, or_false, and_self, or_self, read_relow, size_relow, low_relow, relow_relow, aLoad_relow, Nat.add_zero, Nat.mul_one, one1, Option.bind_some, ne_eq, Int.natCast_nonneg, Int.toNat_natCast, not_true_eq_false, not_false_eq_true, Option.map_some, Option.map_none, *, argF, List.getD_cons_zero, List.getD_cons_succ, lenI] | (with_reducible refine sxD_bar (by kernel_rfl) ?_))

/-- THE LAW QuotaFair, on the canonical machine. -/
theorem fair_runs (e : Int) (v v2 : Value) (c w : List Int) (d : Int) (r o r2 o2 : Nat) (H : Heap) (hg : Grp H) (hL : H.low ≤ H.size) (hc : SlI .i64 H v c r o) (hl : SlI .i64 H v2 w r2 o2)
    (hO : ∀ H', Keep H H' → S.O 8 [] H') : ∃ H', Runs Tryz.prog S (.fn 4) [.int .i64 e, v, .agg ⟨[v2, .int .i64 d]⟩] H (.bool true) H' := by
  suffices h : WCall Tryz.prog S (.fn 4) [.int .i64 e, v, .agg ⟨[v2, .int .i64 d]⟩] H (fun v H' => v = .bool true) by
    obtain ⟨_, H', hr, rfl⟩ := h; exact ⟨H', hr⟩
  obtain ⟨H1, e1, hK1, hz1, rd2, rd0, rd1⟩ := Q.boxP H v2 (.int .i64 d)
  obtain ⟨u, f, hF, hR⟩ := bothF hS e v v2 c w d r o r2 o2 H hc hl
  obtain ⟨H2, x1, r3, o3, k2, g2, s2, R2⟩ := hF H1 hK1 (hK1.grp hg) (hK1.low hL)
  have hK12 := hK1.trans k2
  obtain ⟨H3, x2, r4, o4, k3, g3, s3, R3⟩ := hR H2 hK12 g2 (hK12.low hL)
  have hK13 := hK12.trans k3
  have hL3 := hK13.low hL
  have fs := (same_runs hS x1 x2 u r3 o3 r4 o4 H3 hL3 (s2.keep k3) s3).bx
  have fs2 := (same_runs hS x1 x2 u r3 o3 r4 o4 (H3.relow H3.size) (Nat.le_refl _) ((s2.keep k3).keep (Keep.relowS _)) (s3.keep (Keep.relowS _))).bx
  have f1 := (few_runs hS v c r o H1 (hc.keep hK1)).bx
  have f2 := (few_runs hS v2 w r2 o2 H1 (hl.keep hK1)).bx
  have f3 := R2.bx
  have f4 := R3.bx
  have q2 := k2.read hz1 rd2
  have hk1 : ∀ (K : Value → Heap → Prop) (b : Blk K), sxCallB Tryz.prog S (.fn 8) [] H1 K b = K (.bool true) H1 := fun K b => known_bx (hO H1 hK1)
  have hk3 : ∀ (K : Value → Heap → Prop) (b : Blk K), sxCallB Tryz.prog S (.fn 8) [] H3 K b = K (.bool true) H3 := fun K b => known_bx (hO H3 hK13)
  clear R2 R3 hc hl hF hR s2 s3
  refine call_of Tryz.func4 rfl (Nat.le_of_ble_eq_true rfl) (hS.no rfl _ _) ?_
  rw [Tryz.ntmps4, Tryz.results4]
  repeat' (first | (with_reducible refine sxGuardB_tsp (fun h => ?_) (fun h => ?_)) | (with_reducible refine sxGuardB_fsp (fun h => ?_) (fun h => ?_)) | (with_reducible refine sxIfB_sp (fun h => ?_) (fun h => ?_)) | simp only [↓sxC_skip, ↓sxC_draw, ↓sxC_region, ↓sxC_seq, ↓bxC_cond, ↓bxC_loop, ↓sxC_block, ↓sxC_exit, ↓sxC_goto, ↓sxC_ret, ↓sxOps_nil, ↓sxOps_cons, ↓sxDraw_nil, ↓bxDraw_cons, ↓sxD_same, ↓sxStep_none, ↓bxStep_some, ↓bxOp_move, ↓bxOp_assign, ↓bxOp_pick, ↓bxOp_alloc, ↓bxOp_box, ↓bxOp_build, ↓bxOp_buildSlice, ↓bxOp_load, ↓bxOp_store, ↓bxOp_nilCheck, ↓bxOp_bin, ↓bxOp_un, ↓bxOp_makeI, ↓bxOp_makeFunc, ↓bxOp_makeSlice, ↓bxOp_slice, ↓bxOp_fieldAddr, ↓bxOp_field, ↓bxOp_indexAddr, ↓bxOp_index, ↓bxOp_assert, ↓bxOp_extract, ↓bxOp_value, ↓bxOp_len, ↓bxOp_cap, ↓bxOp_append, ↓bxOp_copy, ↓bxOp_max, ↓bxOp_min, ↓bxOp_convert, ↓sxPut_none, ↓bxPut, ↓seqQ_normal, ↓seqQ_exit, ↓seqQ_ret, ↓seqQ_goto, ↓blockQ_normal, ↓blockQ_ret, ↓blockQ_goto, ↓blockQ_exit, ↓loopQ_normal, ↓loopQ_exit, ↓loopQ_ret, ↓loopQ_goto, ↓resQ_normal, ↓resQ_ret, ↓sxRes_nil, ↓sxRes_tmp, ↓bxRes_cell, ↓upd_apply, ↓ev_tmp, ↓ev_const, ↓ev_global, ↓ev_func, ↓dstAt, ↓gval_some, sxOptB_some, sxOptB_ite, mm_max, mm_min, binP_shl, binP_shr, binP_int, intBin, una_not_dec, una_nt, una_nf, una_neg, aPick_true, aPick_false, sxCallVB_fn, sxCallVB_yield, sxGuardB_u, sxGuardB_tt, sxGuardB_tf, sxGuardB_ft, sxGuardB_ff, sxIfB_t, sxIfB_f, packRes_one, packRes_two, List.map_cons, List.map_nil, List.nil_append, List.cons_append, List.append_nil, ↓reduceIte, Nat.reduceEqDiff, Nat.reduceLT, dec_T, dec_F, false_imp, true_and, and_true, true_implies, implies_true, false_and, and_false, true_or, or_true, false_or, or_false, and_self, or_self, read_relow, size_relow, low_relow, relow_relow, aLoad_relow, Nat.add_zero, Nat.mul_one, one1, Option.bind_some, ne_eq, Int.natCast_nonneg, Int.toNat_natCast, not_true_eq_false, not_false_eq_true, Option.map_some, Option.map_none, *, argF, List.getD_cons_zero, List.getD_cons_succ, lenI, ex0L, ex1L, Q.cells_agg, paG0, paG1, ldI, ldIs, ldP, Nat.zero_add] | (with_reducible refine sxD_bar (by kernel_rfl) ?_))
end Go.Proofs.YtmcomjgebcemdaaGreat
