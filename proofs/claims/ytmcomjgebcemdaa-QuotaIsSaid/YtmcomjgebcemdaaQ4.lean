/- The law QuotaIs comes to true on the canonical machine, for all arguments; the closed example is taken as known. -/
import Derived.Test.YtmcomjgebcemdaaQ3
set_option linter.unusedVariables false
set_option linter.unusedSimpArgs false
set_option linter.unusedSectionVars false

namespace Go.Proofs.Ytmcomjgebcemdaa
open Go Go.AM
set_option maxRecDepth 10000
set_option linter.unusedSimpArgs false
set_option linter.unusedVariables false

theorem eqB (a : Bool) : binP Try.prog .eql 4 (.bool a) (.bool a) = some (.bool true) := (binP_eql Try.underlying4 a a).trans (by rw [beq_self_eq_true])
theorem ex0 (a b : Value) : aExtract (.tuple ⟨[a, b]⟩) 0 = some a := by kernel_rfl
theorem ex1 (a b : Value) : aExtract (.tuple ⟨[a, b]⟩) 1 = some b := by kernel_rfl

variable {S : AM.Sys} (hS : Only S 5)
include hS

theorem few_runs (v : Value) (w : List Int) (r o : Nat) (H : Heap) (hl : SlI .i64 H v w r o) : Runs Try.prog S (.fn 4) [v] H (.bool (decide ((w.length : Int) ≤ 40))) H := by
  suffices h : WCall Try.prog S (.fn 4) [v] H (fun v H' => v = .bool (decide ((w.length : Int) ≤ 40)) ∧ H' = H) by
    obtain ⟨_, _, hr, rfl, rfl⟩ := h; exact hr
  obtain ⟨a, cap, rfl⟩ := hl.v0
  refine call_of Try.func4 rfl (Nat.le_of_ble_eq_true rfl) (hS.no rfl _ _) ?_
  rw [Try.ntmps4, Try.results4]
  repeat' (first | (with_reducible refine sxGuardB_tsp (fun h => ?_) (fun h => ?_)) | (with_reducible refine sxGuardB_fsp (fun h => ?_) (fun h => ?_)) | (with_reducible refine sxIfB_sp (fun h => ?_) (fun h => ?_)) | simp only [↓sxC_skip, ↓sxC_draw, ↓sxC_region, ↓sxC_seq, ↓bxC_cond, ↓bxC_loop, ↓sxC_block, ↓sxC_exit, ↓sxC_goto, ↓sxC_ret, ↓sxOps_nil, ↓sxOps_cons, ↓sxDraw_nil, ↓bxDraw_cons, ↓sxD_same, ↓sxStep_none, ↓bxStep_some, ↓bxOp_move, ↓bxOp_assign, ↓bxOp_pick, ↓bxOp_alloc, ↓bxOp_box, ↓bxOp_build, ↓bxOp_buildSlice, ↓bxOp_load, ↓bxOp_store, ↓bxOp_nilCheck, ↓bxOp_bin, ↓bxOp_un, ↓bxOp_makeI, ↓bxOp_makeFunc, ↓bxOp_makeSlice, ↓bxOp_slice, ↓bxOp_fieldAddr, ↓bxOp_field, ↓bxOp_indexAddr, ↓bxOp_index, ↓bxOp_assert, ↓bxOp_extract, ↓bxOp_value, ↓bxOp_len, ↓bxOp_cap, ↓bxOp_append, ↓bxOp_copy, ↓bxOp_max, ↓bxOp_min, ↓bxOp_convert, ↓sxPut_none, ↓bxPut, ↓seqQ_normal, ↓seqQ_exit, ↓seqQ_ret, ↓seqQ_goto, ↓blockQ_normal, ↓blockQ_ret, ↓blockQ_goto, ↓blockQ_exit, ↓loopQ_normal, ↓loopQ_exit, ↓loopQ_ret, ↓loopQ_goto, ↓resQ_normal, ↓resQ_ret, ↓sxRes_nil, ↓sxRes_tmp, ↓bxRes_cell, ↓upd_apply, ↓ev_tmp, ↓ev_const, ↓ev_global, ↓ev_func, ↓dstAt, ↓gval_some, sxOptB_some, sxOptB_ite, mm_max, mm_min, binP_shl, binP_shr, binP_int, intBin, una_not_dec, una_nt, una_nf, una_neg, aPick_true, aPick_false, sxCallVB_fn, sxCallVB_yield, sxGuardB_u, sxGuardB_tt, sxGuardB_tf, sxGuardB_ft, sxGuardB_ff, sxIfB_t, sxIfB_f, packRes_one, packRes_two, List.map_cons, List.map_nil, List.nil_append, List.cons_append, List.append_nil, ↓reduceIte, Nat.reduceEqDiff, Nat.reduceLT, dec_T, dec_F, false_imp, true_and, and_true, true_implies, implies_true, false_and, and_false, true_or, or_true, false_or, or_false, and_self, or_self, read_relow, size_relow, low_relow, relow_relow, aLoad_relow, Nat.add_zero, Nat.mul_one, one1, Option.bind_some, ne_eq, Int.natCast_nonneg, Int.toNat_natCast, not_true_eq_false, not_false_eq_true, Option.map_some, Option.map_none, *, argF, List.getD_cons_zero, List.getD_cons_succ, lenI] | (with_reducible refine sxD_bar (by kernel_rfl) ?_))

/-- THE LAW, on the canonical machine. -/
theorem is_runs (e : Int) (v v2 : Value) (c w : List Int) (d : Int) (r o r2 o2 : Nat) (H : Heap) (hL : H.low ≤ H.size) (hc : SlI .i64 H v c r o) (hl : SlI .i64 H v2 w r2 o2)
    (hO : ∀ H', Keep H H' → S.O 5 [] H') : ∃ H', Runs Try.prog S (.fn 3) [.int .i64 e, v, .agg ⟨[v2, .int .i64 d]⟩] H (.bool true) H' := by
  suffices h : WCall Try.prog S (.fn 3) [.int .i64 e, v, .agg ⟨[v2, .int .i64 d]⟩] H (fun v H' => v = .bool true) by
    obtain ⟨_, H', hr, rfl⟩ := h; exact ⟨H', hr⟩
  obtain ⟨H1, e1, hK1, hz1, rd2, rd0, rd1⟩ := boxP H v2 (.int .i64 d)
  obtain ⟨H2, hK2, hR2⟩ := Is_runs hS e v v2 c w d r o r2 o2 H1 (hK1.low hL) (hc.keep hK1) (hl.keep hK1)
  have hK12 := hK1.trans hK2
  obtain ⟨H3, hK3, hR3⟩ := rIs_runs hS e v v2 c w d r o r2 o2 H2 (hK12.low hL) (hc.keep hK12) (hl.keep hK12)
  have hK13 := hK12.trans hK3
  have hL3 := hK13.low hL
  have f1 := (few_runs hS v c r o H1 (hc.keep hK1)).bx
  have f2 := (few_runs hS v2 w r2 o2 H1 (hl.keep hK1)).bx
  have f3 := hR2.bx
  have f4 := hR3.bx
  have q2 := hK2.read hz1 rd2
  have hk1 : ∀ (K : Value → Heap → Prop) (b : Blk K), sxCallB Try.prog S (.fn 5) [] H1 K b = K (.bool true) H1 := fun K b => known_bx (hO H1 hK1)
  have hk3 : ∀ (K : Value → Heap → Prop) (b : Blk K), sxCallB Try.prog S (.fn 5) [] H3 K b = K (.bool true) H3 := fun K b => known_bx (hO H3 hK13)
  have hk3r : ∀ (K : Value → Heap → Prop) (b : Blk K), sxCallB Try.prog S (.fn 5) [] (H3.relow H3.size) K b = K (.bool true) (H3.relow H3.size) := fun K b => known_bx (hO _ (hK13.trans (Keep.relowS H3)))
  clear hR2 hR3 hc hl
  generalize decide (Prob e c ∧ Shr e c w d) = B at *
  generalize (if Prob e c then (0 : Int) else 2) = F at *
  refine call_of Try.func3 rfl (Nat.le_of_ble_eq_true rfl) (hS.no rfl _ _) ?_
  rw [Try.ntmps3, Try.results3]
  repeat' (first | (with_reducible refine sxGuardB_tsp (fun h => ?_) (fun h => ?_)) | (with_reducible refine sxGuardB_fsp (fun h => ?_) (fun h => ?_)) | (with_reducible refine sxIfB_sp (fun h => ?_) (fun h => ?_)) | simp only [↓sxC_skip, ↓sxC_draw, ↓sxC_region, ↓sxC_seq, ↓bxC_cond, ↓bxC_loop, ↓sxC_block, ↓sxC_exit, ↓sxC_goto, ↓sxC_ret, ↓sxOps_nil, ↓sxOps_cons, ↓sxDraw_nil, ↓bxDraw_cons, ↓sxD_same, ↓sxStep_none, ↓bxStep_some, ↓bxOp_move, ↓bxOp_assign, ↓bxOp_pick, ↓bxOp_alloc, ↓bxOp_box, ↓bxOp_build, ↓bxOp_buildSlice, ↓bxOp_load, ↓bxOp_store, ↓bxOp_nilCheck, ↓bxOp_bin, ↓bxOp_un, ↓bxOp_makeI, ↓bxOp_makeFunc, ↓bxOp_makeSlice, ↓bxOp_slice, ↓bxOp_fieldAddr, ↓bxOp_field, ↓bxOp_indexAddr, ↓bxOp_index, ↓bxOp_assert, ↓bxOp_extract, ↓bxOp_value, ↓bxOp_len, ↓bxOp_cap, ↓bxOp_append, ↓bxOp_copy, ↓bxOp_max, ↓bxOp_min, ↓bxOp_convert, ↓sxPut_none, ↓bxPut, ↓seqQ_normal, ↓seqQ_exit, ↓seqQ_ret, ↓seqQ_goto, ↓blockQ_normal, ↓blockQ_ret, ↓blockQ_goto, ↓blockQ_exit, ↓loopQ_normal, ↓loopQ_exit, ↓loopQ_ret, ↓loopQ_goto, ↓resQ_normal, ↓resQ_ret, ↓sxRes_nil, ↓sxRes_tmp, ↓bxRes_cell, ↓upd_apply, ↓ev_tmp, ↓ev_const, ↓ev_global, ↓ev_func, ↓dstAt, ↓gval_some, sxOptB_some, sxOptB_ite, mm_max, mm_min, binP_shl, binP_shr, binP_int, intBin, una_not_dec, una_nt, una_nf, una_neg, aPick_true, aPick_false, sxCallVB_fn, sxCallVB_yield, sxGuardB_u, sxGuardB_tt, sxGuardB_tf, sxGuardB_ft, sxGuardB_ff, sxIfB_t, sxIfB_f, packRes_one, packRes_two, List.map_cons, List.map_nil, List.nil_append, List.cons_append, List.append_nil, ↓reduceIte, Nat.reduceEqDiff, Nat.reduceLT, dec_T, dec_F, false_imp, true_and, and_true, true_implies, implies_true, false_and, and_false, true_or, or_true, false_or, or_false, and_self, or_self, read_relow, size_relow, low_relow, relow_relow, aLoad_relow, Nat.add_zero, Nat.mul_one, one1, Option.bind_some, ne_eq, Int.natCast_nonneg, Int.toNat_natCast, not_true_eq_false, not_false_eq_true, Option.map_some, Option.map_none, *, argF, List.getD_cons_zero, List.getD_cons_succ, lenI, ex0, ex1, cells_agg, fldP0, fldP1, ldI, ldIs, ldP, eqB] | (with_reducible refine sxD_bar (by kernel_rfl) ?_))
end Go.Proofs.Ytmcomjgebcemdaa
