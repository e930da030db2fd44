/- Dresher and Today of the reference, on the canonical machine. -/
import Derived.Test.YtnbhjbelgmkpeaaDoorR3
set_option linter.unusedVariables false
set_option linter.unusedSimpArgs false
set_option linter.unusedSectionVars false

namespace Go.Proofs.YtnbhjbelgmkpeaaDoor
open Go Go.AM
set_option maxRecDepth 10000
set_option linter.unusedSimpArgs false

theorem rat_id {B : Int} {x : Int × Int} (h : isPart B x = true) : rat x.1 x.2 = x := by
  obtain ⟨h1, h2, h3, h4, h5⟩ := isPart_iff h
  unfold rat
  rw [Nat.gcd_comm, h5]
  show (x.1 / 1, x.2 / 1) = x
  rw [Int.ediv_one, Int.ediv_one]
theorem rtdF (d l : Int) (h : ¬ inDays d l) : errT d l = 2 := by unfold errT; rw [if_neg h]
theorem rtdZ (l : Int) (h : inDays 0 l) : errT 0 l = 10 := by unfold errT; rw [if_pos h, if_pos rfl]

variable {S : AM.Sys} (hS : Only S 10)
include hS

theorem rDresher_bad (d l : Int) (H : Heap) (hb : ¬ inDays d l) : ∃ H', Keep H H' ∧ Runs Tryd.prog S (.fn 17) [.int .i64 d, .int .i64 l] H (.tuple #[ratioV (0, 0), .int .i64 2]) H' := by
  suffices h : WCall Tryd.prog S (.fn 17) [.int .i64 d, .int .i64 l] H (fun v H' => v = .tuple #[ratioV (0, 0), .int .i64 2] ∧ Keep H H') by
    obtain ⟨_, H', hr, rfl, hk⟩ := h; exact ⟨H', hk, hr⟩
  obtain ⟨Ha, ea, ka, za, owa, -, -, -⟩ := box2 H 0 0 24
  have f1 := (rdays_runs hS d l Ha).bx
  rw [decide_eq_false (show ¬ ((0 ≤ d ∧ d ≤ 14) ∧ (0 ≤ l ∧ l ≤ 14)) from hb)] at f1
  obtain ⟨H1, p1, k1, z1, ow1, -⟩ := stH infR.1 ka (Nat.le_refl _) owa (v := .agg ⟨[.int .i64 0, .int .i64 0]⟩) (new := [.int .i64 0, .int .i64 0]) rfl infR.2 rfl rfl
  obtain ⟨m1, -, -⟩ := own2 ow1
  unfold ratioV
  clear owa ow1 hb
  refine call_of Tryd.func17 rfl (Nat.le_of_ble_eq_true rfl) (hS.no rfl _ _) ?_
  rw [Tryd.ntmps17, Tryd.results17]
  repeat' (first | (with_reducible refine sxGuardB_tsp (fun h => ?_) (fun h => ?_)) | (with_reducible refine sxGuardB_fsp (fun h => ?_) (fun h => ?_)) | (with_reducible refine sxIfB_sp (fun h => ?_) (fun h => ?_)) | simp only [↓sxC_skip, ↓sxC_draw, ↓sxC_region, ↓sxC_seq, ↓bxC_cond, ↓bxC_loop, ↓sxC_block, ↓sxC_exit, ↓sxC_goto, ↓sxC_ret, ↓sxOps_nil, ↓sxOps_cons, ↓sxDraw_nil, ↓bxDraw_cons, ↓sxDL_move, ↓sxDL_assign, ↓sxDL_pick, ↓sxDL_alloc, ↓sxDL_box, ↓sxDL_build, ↓sxDL_buildSlice, ↓sxDL_insert, ↓sxDL_load, ↓sxDL_nilCheck, ↓sxDL_binOp, ↓sxDL_unOp, ↓sxDL_convert, ↓sxDL_makeInterface, ↓sxDL_makeFunc, ↓sxDL_makeMap, ↓sxDL_makeSlice, ↓sxDL_slice, ↓sxDL_fieldAddr, ↓sxDL_field, ↓sxDL_indexAddr, ↓sxDL_index, ↓sxDL_typeAssert, ↓sxDL_extract, ↓sxDL_call, ↓sxDL_lookup, ↓sxDL_mapUpdate, ↓sxDL_range, ↓sxDL_next, ↓sxDL_entry, ↓sxDL_mapEntry, ↓sxDL_entryStore, ↓sxD_same, ↓sxStep_none, ↓bxStep_some, ↓bxOp_move, ↓bxOp_assign, ↓bxOp_pick, ↓bxOp_alloc, ↓bxOp_box, ↓bxOp_build, ↓bxOp_buildSlice, ↓bxOp_load, ↓bxOp_store, ↓bxOp_nilCheck, ↓bxOp_bin, ↓bxOp_un, ↓bxOp_makeI, ↓bxOp_makeFunc, ↓bxOp_makeSlice, ↓bxOp_slice, ↓bxOp_fieldAddr, ↓bxOp_field, ↓bxOp_indexAddr, ↓bxOp_index, ↓bxOp_assert, ↓bxOp_extract, ↓bxOp_value, ↓bxOp_len, ↓bxOp_cap, ↓bxOp_append, ↓bxOp_copy, ↓bxOp_max, ↓bxOp_min, ↓bxOp_convert, ↓sxPut_none, ↓bxPut, ↓seqQ_normal, ↓seqQ_exit, ↓seqQ_ret, ↓seqQ_goto, ↓blockQ_normal, ↓blockQ_ret, ↓blockQ_goto, ↓blockQ_exit, ↓loopQ_normal, ↓loopQ_exit, ↓loopQ_ret, ↓loopQ_goto, ↓resQ_normal, ↓resQ_ret, ↓sxRes_nil, ↓sxRes_tmp, ↓bxRes_cell, ↓upd_apply, ↓ev_tmp, ↓ev_const, ↓ev_global, ↓ev_func, ↓dstAt, ↓gval_some, sxOptB_some, sxOptB_ite, mm_max, mm_min, binP_shl, binP_shr, binP_int, intBin, una_not_dec, una_nt, una_nf, una_neg, aPick_true, aPick_false, sxCallVB_fn, sxCallVB_yield, sxGuardB_u, sxGuardB_tt, sxGuardB_tf, sxGuardB_ft, sxGuardB_ff, sxIfB_t, sxIfB_f, packRes_one, packRes_two, List.map_cons, List.map_nil, List.nil_append, List.cons_append, List.append_nil, ↓reduceIte, Nat.reduceEqDiff, Nat.reduceLT, dec_T, dec_F, false_imp, true_and, and_true, true_implies, implies_true, false_and, and_false, true_or, or_true, false_or, or_false, and_self, or_self, read_relow, size_relow, low_relow, relow_relow, aLoad_relow, Nat.add_zero, Nat.mul_one, one1, Option.bind_some, ne_eq, Int.natCast_nonneg, Int.toNat_natCast, not_true_eq_false, not_false_eq_true, Option.map_some, Option.map_none, *, argF, List.getD_cons_zero, List.getD_cons_succ, alR, bdR0, ldRt, cells2, Nat.zero_add] | (with_reducible refine sxDL_barE (by assumption) (by decide +kernel) ?_) | (with_reducible refine sxDL_bar (by decide +kernel) ?_) | (with_reducible refine sxD_bar (by decide +kernel) ?_))
theorem rDresher_good (d l : Nat) (H : Heap) (hg : Grp H) (hL : H.low ≤ H.size) (hd : d ≤ 14) (hl : l ≤ 14) : ∃ H', Keep H H' ∧ Runs Tryd.prog S (.fn 17) [.int .i64 d, .int .i64 l] H (.tuple #[ratioV (gainC d l), .int .i64 0]) H' := by
  suffices h : WCall Tryd.prog S (.fn 17) [.int .i64 d, .int .i64 l] H (fun v H' => v = .tuple #[ratioV (gainC d l), .int .i64 0] ∧ Keep H H') by
    obtain ⟨_, H', hr, rfl, hk⟩ := h; exact ⟨H', hk, hr⟩
  obtain ⟨Ha, ea, ka, za, owa, -, -, -⟩ := box2 H 0 0 24
  have f1 := (rdays_runs hS d l Ha).bx
  rw [decide_eq_true (show ((0 : Int) ≤ d ∧ (d : Int) ≤ 14) ∧ ((0 : Int) ≤ l ∧ (l : Int) ≤ 14) by omega)] at f1
  obtain ⟨H2, v2, k2, g2, q2, R2⟩ := rgain_runs hS d l Ha hd hl (ka.grp hg) (ka.low hL)
  have hp := (dayC_facts hd hl).1
  obtain ⟨i1, i2, i3, i4, -⟩ := isPart_iff hp
  obtain ⟨H3, k3, R3⟩ := rratio_runs hS v2 (gainC d l) H2 g2 ((ka.trans k2).low hL) q2 (by omega) (by omega)
  rw [rat_id hp] at R3
  have f2 := R2.bx
  have f3 := R3.bx
  generalize gainC d l = y at *
  have k23 := k2.trans k3
  obtain ⟨H1, p1, k1, z1, ow1, -⟩ := stH infR.1 (ka.trans k23) (Nat.le_refl _) (owa.keep k23) (v := .agg ⟨[.int .i64 y.1, .int .i64 y.2]⟩) (new := [.int .i64 y.1, .int .i64 y.2]) rfl infR.2 rfl rfl
  obtain ⟨m1, -, -⟩ := own2 ow1
  unfold ratioV at f3 ⊢
  clear owa ow1 R2 R3 hd hl q2 hp i1 i2 i3 i4
  refine call_of Tryd.func17 rfl (Nat.le_of_ble_eq_true rfl) (hS.no rfl _ _) ?_
  rw [Tryd.ntmps17, Tryd.results17]
  repeat' (first | (with_reducible refine sxGuardB_tsp (fun h => ?_) (fun h => ?_)) | (with_reducible refine sxGuardB_fsp (fun h => ?_) (fun h => ?_)) | (with_reducible refine sxIfB_sp (fun h => ?_) (fun h => ?_)) | simp only [↓sxC_skip, ↓sxC_draw, ↓sxC_region, ↓sxC_seq, ↓bxC_cond, ↓bxC_loop, ↓sxC_block, ↓sxC_exit, ↓sxC_goto, ↓sxC_ret, ↓sxOps_nil, ↓sxOps_cons, ↓sxDraw_nil, ↓bxDraw_cons, ↓sxDL_move, ↓sxDL_assign, ↓sxDL_pick, ↓sxDL_alloc, ↓sxDL_box, ↓sxDL_build, ↓sxDL_buildSlice, ↓sxDL_insert, ↓sxDL_load, ↓sxDL_nilCheck, ↓sxDL_binOp, ↓sxDL_unOp, ↓sxDL_convert, ↓sxDL_makeInterface, ↓sxDL_makeFunc, ↓sxDL_makeMap, ↓sxDL_makeSlice, ↓sxDL_slice, ↓sxDL_fieldAddr, ↓sxDL_field, ↓sxDL_indexAddr, ↓sxDL_index, ↓sxDL_typeAssert, ↓sxDL_extract, ↓sxDL_call, ↓sxDL_lookup, ↓sxDL_mapUpdate, ↓sxDL_range, ↓sxDL_next, ↓sxDL_entry, ↓sxDL_mapEntry, ↓sxDL_entryStore, ↓sxD_same, ↓sxStep_none, ↓bxStep_some, ↓bxOp_move, ↓bxOp_assign, ↓bxOp_pick, ↓bxOp_alloc, ↓bxOp_box, ↓bxOp_build, ↓bxOp_buildSlice, ↓bxOp_load, ↓bxOp_store, ↓bxOp_nilCheck, ↓bxOp_bin, ↓bxOp_un, ↓bxOp_makeI, ↓bxOp_makeFunc, ↓bxOp_makeSlice, ↓bxOp_slice, ↓bxOp_fieldAddr, ↓bxOp_field, ↓bxOp_indexAddr, ↓bxOp_index, ↓bxOp_assert, ↓bxOp_extract, ↓bxOp_value, ↓bxOp_len, ↓bxOp_cap, ↓bxOp_append, ↓bxOp_copy, ↓bxOp_max, ↓bxOp_min, ↓bxOp_convert, ↓sxPut_none, ↓bxPut, ↓seqQ_normal, ↓seqQ_exit, ↓seqQ_ret, ↓seqQ_goto, ↓blockQ_normal, ↓blockQ_ret, ↓blockQ_goto, ↓blockQ_exit, ↓loopQ_normal, ↓loopQ_exit, ↓loopQ_ret, ↓loopQ_goto, ↓resQ_normal, ↓resQ_ret, ↓sxRes_nil, ↓sxRes_tmp, ↓bxRes_cell, ↓upd_apply, ↓ev_tmp, ↓ev_const, ↓ev_global, ↓ev_func, ↓dstAt, ↓gval_some, sxOptB_some, sxOptB_ite, mm_max, mm_min, binP_shl, binP_shr, binP_int, intBin, una_not_dec, una_nt, una_nf, una_neg, aPick_true, aPick_false, sxCallVB_fn, sxCallVB_yield, sxGuardB_u, sxGuardB_tt, sxGuardB_tf, sxGuardB_ft, sxGuardB_ff, sxIfB_t, sxIfB_f, packRes_one, packRes_two, List.map_cons, List.map_nil, List.nil_append, List.cons_append, List.append_nil, ↓reduceIte, Nat.reduceEqDiff, Nat.reduceLT, dec_T, dec_F, false_imp, true_and, and_true, true_implies, implies_true, false_and, and_false, true_or, or_true, false_or, or_false, and_self, or_self, read_relow, size_relow, low_relow, relow_relow, aLoad_relow, Nat.add_zero, Nat.mul_one, one1, Option.bind_some, ne_eq, Int.natCast_nonneg, Int.toNat_natCast, not_true_eq_false, not_false_eq_true, Option.map_some, Option.map_none, *, argF, List.getD_cons_zero, List.getD_cons_succ, alR, bdR0, ldRt, cells2, Nat.zero_add] | (with_reducible refine sxDL_barE (by assumption) (by decide +kernel) ?_) | (with_reducible refine sxDL_bar (by decide +kernel) ?_) | (with_reducible refine sxD_bar (by decide +kernel) ?_))
theorem rToday_bad (d l : Int) (H : Heap) (hb : ¬ errT d l = 0) : ∃ H', Keep H H' ∧ Runs Tryd.prog S (.fn 19) [.int .i64 d, .int .i64 l] H (.tuple #[ratioV (0, 0), ratioV (0, 0), .int .i64 (errT d l)]) H' := by
  suffices h : WCall Tryd.prog S (.fn 19) [.int .i64 d, .int .i64 l] H (fun v H' => v = .tuple #[ratioV (0, 0), ratioV (0, 0), .int .i64 (errT d l)] ∧ Keep H H') by
    obtain ⟨_, H', hr, rfl, hk⟩ := h; exact ⟨H', hk, hr⟩
  obtain ⟨Ha, ea, ka, za, owa, -, -, -⟩ := box2 H 0 0 24
  obtain ⟨Hb, eb, kb, zb, owb, -, -, -⟩ := box2 Ha 0 0 24
  have f1 := (rdays_runs hS d l Hb).bx
  obtain ⟨H1, p1, k1, z1, ow1, o1⟩ := stH infR.1 (ka.trans kb) (Nat.le_refl _) (owa.keep kb) (v := .agg ⟨[.int .i64 0, .int .i64 0]⟩) (new := [.int .i64 0, .int .i64 0]) rfl infR.2 rfl rfl
  obtain ⟨H2, p2, k2, z2, ow2, o2⟩ := stH infR.1 k1 ka.size (o1 _ _ _ (by omega) owb) (v := .agg ⟨[.int .i64 0, .int .i64 0]⟩) (new := [.int .i64 0, .int .i64 0]) rfl infR.2 rfl rfl
  obtain ⟨m1, -, -⟩ := own2 (o2 _ _ _ (by omega) ow1)
  obtain ⟨m2, -, -⟩ := own2 ow2
  unfold ratioV
  clear owa owb ow1 ow2 o1 o2
  by_cases hin : inDays d l
  · have h0 : d = 0 := Classical.byContradiction fun h => hb (by unfold errT; rw [if_pos hin, if_neg h])
    subst h0
    rw [rtdZ l hin]
    rw [decide_eq_true (show ((0 : Int) ≤ 0 ∧ (0 : Int) ≤ 14) ∧ (0 ≤ l ∧ l ≤ 14) from hin)] at f1
    clear hb hin
    refine call_of Tryd.func19 rfl (Nat.le_of_ble_eq_true rfl) (hS.no rfl _ _) ?_
    rw [Tryd.ntmps19, Tryd.results19]
    repeat' (first | (with_reducible refine sxGuardB_tsp (fun h => ?_) (fun h => ?_)) | (with_reducible refine sxGuardB_fsp (fun h => ?_) (fun h => ?_)) | (with_reducible refine sxIfB_sp (fun h => ?_) (fun h => ?_)) | simp only [↓sxC_skip, ↓sxC_draw, ↓sxC_region, ↓sxC_seq, ↓bxC_cond, ↓bxC_loop, ↓sxC_block, ↓sxC_exit, ↓sxC_goto, ↓sxC_ret, ↓sxOps_nil, ↓sxOps_cons, ↓sxDraw_nil, ↓bxDraw_cons, ↓sxDL_move, ↓sxDL_assign, ↓sxDL_pick, ↓sxDL_alloc, ↓sxDL_box, ↓sxDL_build, ↓sxDL_buildSlice, ↓sxDL_insert, ↓sxDL_load, ↓sxDL_nilCheck, ↓sxDL_binOp, ↓sxDL_unOp, ↓sxDL_convert, ↓sxDL_makeInterface, ↓sxDL_makeFunc, ↓sxDL_makeMap, ↓sxDL_makeSlice, ↓sxDL_slice, ↓sxDL_fieldAddr, ↓sxDL_field, ↓sxDL_indexAddr, ↓sxDL_index, ↓sxDL_typeAssert, ↓sxDL_extract, ↓sxDL_call, ↓sxDL_lookup, ↓sxDL_mapUpdate, ↓sxDL_range, ↓sxDL_next, ↓sxDL_entry, ↓sxDL_mapEntry, ↓sxDL_entryStore, ↓sxD_same, ↓sxStep_none, ↓bxStep_some, ↓bxOp_move, ↓bxOp_assign, ↓bxOp_pick, ↓bxOp_alloc, ↓bxOp_box, ↓bxOp_build, ↓bxOp_buildSlice, ↓bxOp_load, ↓bxOp_store, ↓bxOp_nilCheck, ↓bxOp_bin, ↓bxOp_un, ↓bxOp_makeI, ↓bxOp_makeFunc, ↓bxOp_makeSlice, ↓bxOp_slice, ↓bxOp_fieldAddr, ↓bxOp_field, ↓bxOp_indexAddr, ↓bxOp_index, ↓bxOp_assert, ↓bxOp_extract, ↓bxOp_value, ↓bxOp_len, ↓bxOp_cap, ↓bxOp_append, ↓bxOp_copy, ↓bxOp_max, ↓bxOp_min, ↓bxOp_convert, ↓sxPut_none, ↓bxPut, ↓seqQ_normal, ↓seqQ_exit, ↓seqQ_ret, ↓seqQ_goto, ↓blockQ_normal, ↓blockQ_ret, ↓blockQ_goto, ↓blockQ_exit, ↓loopQ_normal, ↓loopQ_exit, ↓loopQ_ret, ↓loopQ_goto, ↓resQ_normal, ↓resQ_ret, ↓sxRes_nil, ↓sxRes_tmp, ↓bxRes_cell, ↓upd_apply, ↓ev_tmp, ↓ev_const, ↓ev_global, ↓ev_func, ↓dstAt, ↓gval_some, sxOptB_some, sxOptB_ite, mm_max, mm_min, binP_shl, binP_shr, binP_int, intBin, una_not_dec, una_nt, una_nf, una_neg, aPick_true, aPick_false, sxCallVB_fn, sxCallVB_yield, sxGuardB_u, sxGuardB_tt, sxGuardB_tf, sxGuardB_ft, sxGuardB_ff, sxIfB_t, sxIfB_f, packRes_one, packRes_two, List.map_cons, List.map_nil, List.nil_append, List.cons_append, List.append_nil, ↓reduceIte, Nat.reduceEqDiff, Nat.reduceLT, dec_T, dec_F, false_imp, true_and, and_true, true_implies, implies_true, false_and, and_false, true_or, or_true, false_or, or_false, and_self, or_self, read_relow, size_relow, low_relow, relow_relow, aLoad_relow, Nat.add_zero, Nat.mul_one, one1, Option.bind_some, ne_eq, Int.natCast_nonneg, Int.toNat_natCast, not_true_eq_false, not_false_eq_true, Option.map_some, Option.map_none, *, argF, List.getD_cons_zero, List.getD_cons_succ, alR, bdR0, ldRt, cells2, Nat.zero_add] | (with_reducible refine sxDL_barE (by assumption) (by decide +kernel) ?_) | (with_reducible refine sxDL_bar (by decide +kernel) ?_) | (with_reducible refine sxD_bar (by decide +kernel) ?_))
  · rw [rtdF d l hin]
    rw [decide_eq_false (show ¬ ((0 ≤ d ∧ d ≤ 14) ∧ (0 ≤ l ∧ l ≤ 14)) from hin)] at f1
    clear hb hin
    refine call_of Tryd.func19 rfl (Nat.le_of_ble_eq_true rfl) (hS.no rfl _ _) ?_
    rw [Tryd.ntmps19, Tryd.results19]
    repeat' (first | (with_reducible refine sxGuardB_tsp (fun h => ?_) (fun h => ?_)) | (with_reducible refine sxGuardB_fsp (fun h => ?_) (fun h => ?_)) | (with_reducible refine sxIfB_sp (fun h => ?_) (fun h => ?_)) | simp only [↓sxC_skip, ↓sxC_draw, ↓sxC_region, ↓sxC_seq, ↓bxC_cond, ↓bxC_loop, ↓sxC_block, ↓sxC_exit, ↓sxC_goto, ↓sxC_ret, ↓sxOps_nil, ↓sxOps_cons, ↓sxDraw_nil, ↓bxDraw_cons, ↓sxDL_move, ↓sxDL_assign, ↓sxDL_pick, ↓sxDL_alloc, ↓sxDL_box, ↓sxDL_build, ↓sxDL_buildSlice, ↓sxDL_insert, ↓sxDL_load, ↓sxDL_nilCheck, ↓sxDL_binOp, ↓sxDL_unOp, ↓sxDL_convert, ↓sxDL_makeInterface, ↓sxDL_makeFunc, ↓sxDL_makeMap, ↓sxDL_makeSlice, ↓sxDL_slice, ↓sxDL_fieldAddr, ↓sxDL_field, ↓sxDL_indexAddr, ↓sxDL_index, ↓sxDL_typeAssert, ↓sxDL_extract, ↓sxDL_call, ↓sxDL_lookup, ↓sxDL_mapUpdate, ↓sxDL_range, ↓sxDL_next, ↓sxDL_entry, ↓sxDL_mapEntry, ↓sxDL_entryStore, ↓sxD_same, ↓sxStep_none, ↓bxStep_some, ↓bxOp_move, ↓bxOp_assign, ↓bxOp_pick, ↓bxOp_alloc, ↓bxOp_box, ↓bxOp_build, ↓bxOp_buildSlice, ↓bxOp_load, ↓bxOp_store, ↓bxOp_nilCheck, ↓bxOp_bin, ↓bxOp_un, ↓bxOp_makeI, ↓bxOp_makeFunc, ↓bxOp_makeSlice, ↓bxOp_slice, ↓bxOp_fieldAddr, ↓bxOp_field, ↓bxOp_indexAddr, ↓bxOp_index, ↓bxOp_assert, ↓bxOp_extract, ↓bxOp_value, ↓bxOp_len, ↓bxOp_cap, ↓bxOp_append, ↓bxOp_copy, ↓bxOp_max, ↓bxOp_min, ↓bxOp_convert, ↓sxPut_none, ↓bxPut, ↓seqQ_normal, ↓seqQ_exit, ↓seqQ_ret, ↓seqQ_goto, ↓blockQ_normal, ↓blockQ_ret, ↓blockQ_goto, ↓blockQ_exit, ↓loopQ_normal, ↓loopQ_exit, ↓loopQ_ret, ↓loopQ_goto, ↓resQ_normal, ↓resQ_ret, ↓sxRes_nil, ↓sxRes_tmp, ↓bxRes_cell, ↓upd_apply, ↓ev_tmp, ↓ev_const, ↓ev_global, ↓ev_func, ↓dstAt, ↓gval_some, sxOptB_some, sxOptB_ite, mm_max, mm_min, binP_shl, binP_shr, binP_int, intBin, una_not_dec, una_nt, una_nf, una_neg, aPick_true, aPick_false, sxCallVB_fn, sxCallVB_yield, sxGuardB_u, sxGuardB_tt, sxGuardB_tf, sxGuardB_ft, sxGuardB_ff, sxIfB_t, sxIfB_f, packRes_one, packRes_two, List.map_cons, List.map_nil, List.nil_append, List.cons_append, List.append_nil, ↓reduceIte, Nat.reduceEqDiff, Nat.reduceLT, dec_T, dec_F, false_imp, true_and, and_true, true_implies, implies_true, false_and, and_false, true_or, or_true, false_or, or_false, and_self, or_self, read_relow, size_relow, low_relow, relow_relow, aLoad_relow, Nat.add_zero, Nat.mul_one, one1, Option.bind_some, ne_eq, Int.natCast_nonneg, Int.toNat_natCast, not_true_eq_false, not_false_eq_true, Option.map_some, Option.map_none, *, argF, List.getD_cons_zero, List.getD_cons_succ, alR, bdR0, ldRt, cells2, Nat.zero_add] | (with_reducible refine sxDL_barE (by assumption) (by decide +kernel) ?_) | (with_reducible refine sxDL_bar (by decide +kernel) ?_) | (with_reducible refine sxD_bar (by decide +kernel) ?_))
theorem rToday_good (d l : Nat) (H : Heap) (hg : Grp H) (hL : H.low ≤ H.size) (hd : d ≤ 14) (hl : l ≤ 14) (h0 : 0 < d) : ∃ H', Keep H H' ∧ Runs Tryd.prog S (.fn 19) [.int .i64 d, .int .i64 l] H (.tuple #[ratioV (dayC d l).2.1, ratioV (dayC d l).2.2, .int .i64 0]) H' := by
  suffices h : WCall Tryd.prog S (.fn 19) [.int .i64 d, .int .i64 l] H (fun v H' => v = .tuple #[ratioV (dayC d l).2.1, ratioV (dayC d l).2.2, .int .i64 0] ∧ Keep H H') by
    obtain ⟨_, H', hr, rfl, hk⟩ := h; exact ⟨H', hk, hr⟩
  obtain ⟨Ha, ea, ka, za, owa, -, -, -⟩ := box2 H 0 0 24
  obtain ⟨Hb, eb, kb, zb, owb, -, -, -⟩ := box2 Ha 0 0 24
  have kab := ka.trans kb
  have f1 := (rdays_runs hS d l Hb).bx
  rw [decide_eq_true (show ((0 : Int) ≤ d ∧ (d : Int) ≤ 14) ∧ ((0 : Int) ≤ l ∧ (l : Int) ≤ 14) by omega)] at f1
  obtain ⟨H2, va, vb, k2, g2, qa, qb, R2⟩ := rtoday_runs hS d l Hb hd hl (kab.grp hg) (kab.low hL)
  obtain ⟨-, -, pa, pb, -⟩ := dayC_facts hd hl
  obtain ⟨i1, i2, i3, i4, -⟩ := isPart_iff pa
  obtain ⟨j1, j2, j3, j4, -⟩ := isPart_iff pb
  have f2 := R2.bx
  have hn0 : ¬ (d : Int) = 0 := by omega
  generalize (dayC d l).2.1 = x at *
  generalize (dayC d l).2.2 = y at *
  obtain ⟨H3, e3, k3, z3, ow3⟩ := allocQ H2
  obtain ⟨H4, e4, k4, z4, ow4⟩ := allocQ H3
  have k24 := k3.trans k4
  have k02 := kab.trans k2
  obtain ⟨H5, p5, z5, ow5, qq5, o5, kk5⟩ := storeQ (ow3.keep k4) QShape.empty (qa.keep k24)
  have k05 := kk5 H (k02.trans k24) k02.size
  obtain ⟨H6, p6, z6, ow6, qq6, o6, kk6⟩ := storeQ (o5 _ _ _ (by omega) ow4) QShape.empty (qq5 _ _ _ (qb.keep k24))
  have k06 := kk6 H k05 (Nat.le_trans k02.size k3.size)
  have sb2 : Hb.size ≤ H2.size := k2.size
  have owa6 := o6 _ _ _ (by omega) (o5 _ _ _ (by omega) ((owa.keep kb).keep (k2.trans k24)))
  have owb6 := o6 _ _ _ (by omega) (o5 _ _ _ (by omega) (owb.keep (k2.trans k24)))
  have ow56 := o6 _ _ _ (by omega) ow5
  have qa6 := qq6 _ _ _ (qq5 _ _ _ (qa.keep k24))
  have qb6 := qq6 _ _ _ (qq5 _ _ _ (qb.keep k24))
  have l6 := k06.low hL
  have g6 := k06.grp hg
  have r6 := Keep.relowS H6
  have ld6 := own_ldQ ow56 qa6
  have hr7 := rratio_runs hS va x (H6.relow H6.size) (r6.grp g6) (Nat.le_refl _) (qa6.keep r6) (by omega) (by omega)
  rw [rat_id pa] at hr7
  obtain ⟨H7', H7, k7, l7, f7, d7⟩ := drawn l6 hr7
  have g7 := k7.grp g6
  have r7 := Keep.relowS H7
  have ld7 := own_ldQ (ow6.keep k7) (qb6.keep k7)
  have hr8 := rratio_runs hS vb y (H7.relow H7.size) (r7.grp g7) (Nat.le_refl _) ((qb6.keep k7).keep r7) (by omega) (by omega)
  rw [rat_id pb] at hr8
  obtain ⟨H8', H8, k8, l8, f8, d8⟩ := drawn l7 hr8
  have k68 := k7.trans k8
  have k08 := k06.trans k68
  obtain ⟨H9', H9, p9, y9, k9, z9, l9, ow9', ow9, o9⟩ := stG infR.1 k08 (Nat.le_refl _) l8 (owa6.keep k68) (v := .agg ⟨[.int .i64 x.1, .int .i64 x.2]⟩) (new := [.int .i64 x.1, .int .i64 x.2]) rfl infR.2 rfl rfl
  obtain ⟨H10', H10, p10, y10, k10, z10, l10, ow10', ow10, o10⟩ := stG infR.1 k9 ka.size l9 (o9 _ _ _ (by omega) (owb6.keep k68)) (v := .agg ⟨[.int .i64 y.1, .int .i64 y.2]⟩) (new := [.int .i64 y.1, .int .i64 y.2]) rfl infR.2 rfl rfl
  obtain ⟨m9, -, -⟩ := own2 (o10 _ _ _ (by omega) ow9)
  obtain ⟨m10, -, -⟩ := own2 ow10
  unfold ratioV at f7 f8 ⊢
  clear R2 hr7 hr8 owa owb ow3 ow4 ow5 ow6 ow56 owa6 owb6 ow9 ow9' ow10 ow10' o5 o6 o9 o10 qq5 qq6 kk5 kk6 qa qb qa6 qb6 z3 z4 z5 z6 z9 z10 za zb sb2 i1 i2 i3 i4 j1 j2 j3 j4 pa pb hd hl
  refine call_of Tryd.func19 rfl (Nat.le_of_ble_eq_true rfl) (hS.no rfl _ _) ?_
  rw [Tryd.ntmps19, Tryd.results19]
  repeat' (first | (with_reducible refine sxGuardB_tsp (fun h => ?_) (fun h => ?_)) | (with_reducible refine sxGuardB_fsp (fun h => ?_) (fun h => ?_)) | (with_reducible refine sxIfB_sp (fun h => ?_) (fun h => ?_)) | simp only [↓sxC_skip, ↓sxC_draw, ↓sxC_region, ↓sxC_seq, ↓bxC_cond, ↓bxC_loop, ↓sxC_block, ↓sxC_exit, ↓sxC_goto, ↓sxC_ret, ↓sxOps_nil, ↓sxOps_cons, ↓sxDraw_nil, ↓bxDraw_cons, ↓sxDL_move, ↓sxDL_assign, ↓sxDL_pick, ↓sxDL_alloc, ↓sxDL_box, ↓sxDL_build, ↓sxDL_buildSlice, ↓sxDL_insert, ↓sxDL_load, ↓sxDL_nilCheck, ↓sxDL_binOp, ↓sxDL_unOp, ↓sxDL_convert, ↓sxDL_makeInterface, ↓sxDL_makeFunc, ↓sxDL_makeMap, ↓sxDL_makeSlice, ↓sxDL_slice, ↓sxDL_fieldAddr, ↓sxDL_field, ↓sxDL_indexAddr, ↓sxDL_index, ↓sxDL_typeAssert, ↓sxDL_extract, ↓sxDL_call, ↓sxDL_lookup, ↓sxDL_mapUpdate, ↓sxDL_range, ↓sxDL_next, ↓sxDL_entry, ↓sxDL_mapEntry, ↓sxDL_entryStore, ↓sxD_same, ↓sxStep_none, ↓bxStep_some, ↓bxOp_move, ↓bxOp_assign, ↓bxOp_pick, ↓bxOp_alloc, ↓bxOp_box, ↓bxOp_build, ↓bxOp_buildSlice, ↓bxOp_load, ↓bxOp_store, ↓bxOp_nilCheck, ↓bxOp_bin, ↓bxOp_un, ↓bxOp_makeI, ↓bxOp_makeFunc, ↓bxOp_makeSlice, ↓bxOp_slice, ↓bxOp_fieldAddr, ↓bxOp_field, ↓bxOp_indexAddr, ↓bxOp_index, ↓bxOp_assert, ↓bxOp_extract, ↓bxOp_value, ↓bxOp_len, ↓bxOp_cap, ↓bxOp_append, ↓bxOp_copy, ↓bxOp_max, ↓bxOp_min, ↓bxOp_convert, ↓sxPut_none, ↓bxPut, ↓seqQ_normal, ↓seqQ_exit, ↓seqQ_ret, ↓seqQ_goto, ↓blockQ_normal, ↓blockQ_ret, ↓blockQ_goto, ↓blockQ_exit, ↓loopQ_normal, ↓loopQ_exit, ↓loopQ_ret, ↓loopQ_goto, ↓resQ_normal, ↓resQ_ret, ↓sxRes_nil, ↓sxRes_tmp, ↓bxRes_cell, ↓upd_apply, ↓ev_tmp, ↓ev_const, ↓ev_global, ↓ev_func, ↓dstAt, ↓gval_some, sxOptB_some, sxOptB_ite, mm_max, mm_min, binP_shl, binP_shr, binP_int, intBin, una_not_dec, una_nt, una_nf, una_neg, aPick_true, aPick_false, sxCallVB_fn, sxCallVB_yield, sxGuardB_u, sxGuardB_tt, sxGuardB_tf, sxGuardB_ft, sxGuardB_ff, sxIfB_t, sxIfB_f, packRes_one, packRes_two, List.map_cons, List.map_nil, List.nil_append, List.cons_append, List.append_nil, ↓reduceIte, Nat.reduceEqDiff, Nat.reduceLT, dec_T, dec_F, false_imp, true_and, and_true, true_implies, implies_true, false_and, and_false, true_or, or_true, false_or, or_false, and_self, or_self, read_relow, size_relow, low_relow, relow_relow, aLoad_relow, Nat.add_zero, Nat.mul_one, one1, Option.bind_some, ne_eq, Int.natCast_nonneg, Int.toNat_natCast, not_true_eq_false, not_false_eq_true, Option.map_some, Option.map_none, *, argF, List.getD_cons_zero, List.getD_cons_succ, alR, alQ, bdR0, ldRt, ex20, ex21, cells2, Nat.zero_add] | (with_reducible refine sxDL_barE (by assumption) (by decide +kernel) ?_) | (with_reducible refine sxDL_bar (by decide +kernel) ?_) | (with_reducible refine sxD_bar (by decide +kernel) ?_))
  all_goals trace_state
end Go.Proofs.YtnbhjbelgmkpeaaDoor
