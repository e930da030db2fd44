/- The reference's plan, on the canonical machine. -/
import Derived.Test.YtnbhjbelgmkpeaaDoorR2
import Derived.Test.YtnbhjbelgmkpeaaDoorQP
import Derived.Test.YtnbhjbelgmkpeaaDoorKP
import Derived.Test.YtnbhjbelgmkpeaaDoorD4
set_option linter.unusedVariables false
set_option linter.unusedSimpArgs false
set_option linter.unusedSectionVars false

namespace Go.Proofs.YtnbhjbelgmkpeaaDoor
open Go Go.AM
set_option maxRecDepth 10000
set_option linter.unusedSimpArgs false

theorem shield {G : Prop} (h : ∀ P : Prop, P = G → P) : G := h G rfl
/-- Parts have small terms; and what planOk says of a state. -/
theorem okF_state {st : Int × Int} (h : 0 ≤ st.1 ∧ st.1 ≤ st.2 ∧ 1 ≤ st.2 ∧ st.2 ≤ 1125899906842624) : okF 4 st := by
  have e : (10000 : Int) ^ 4 = 10000000000000000 := rfl
  exact ⟨by omega, by rw [e]; omega, by rw [e]; omega⟩
theorem QOut.rt2 {S : AM.Sys} {f : FuncId} {args : List Value} {H : Heap} {n d n2 d2 : Int} (h : QOut S f args H n d) (hd : 0 < d) (hd2 : 0 < d2) (he : n * d2 = n2 * d) : QOut S f args H (rat n2 d2).1 (rat n2 d2).2 := h.as hd (crossR hd hd2 he)
theorem QV.terms {H : Heap} {v : Value} {n d : Int} (h : QV H v n d) (hd : 0 < d) : QIs H v (rat n d).1 (rat n d).2 400 := qvRatL h hd

variable {S : AM.Sys} (hS : Only S 10)
include hS

/-- A fraction as a ratio. -/
theorem ToRatio_runs (v : Value) (p : Int × Int) (H : Heap) (hg : Grp H) (hL : H.low ≤ H.size) (hq : PV H v p) (hp : 0 < p.2) (hb : p.2 ≤ 1152921504606846976 ∧ (p.1.natAbs : Int) ≤ 1152921504606846976) :
    ∃ H', Keep H H' ∧ Runs Tryd.prog S (.fn 83) [v, .int .i64 1152921504606846976] H (.tuple #[ratioV (rat p.1 p.2), .bool true]) H' := by
  suffices h : WCall Tryd.prog S (.fn 83) [v, .int .i64 1152921504606846976] H (fun v H' => v = .tuple #[ratioV (rat p.1 p.2), .bool true] ∧ Keep H H') by
    obtain ⟨_, H', hr, rfl, hk⟩ := h; exact ⟨H', hk, hr⟩
  have hl := qvRatL hq hp
  obtain ⟨-, -, -, q2, q3, -⟩ := rat_facts (n := p.1) hp
  have q1 := (rat_facts (n := p.1) hp).1
  generalize rat p.1 p.2 = x at *
  obtain ⟨t1, t2, t3, t4, rfl, b1, b2⟩ := hl
  obtain ⟨H1, e1, k1, s1, -, r1⟩ := box1 H [t1, t2, t3, t4] 52
  have g0 : H1.read H.size 0 2 = some [t1, t2] := r1 0 2 (show 0 + 2 ≤ 4 by omega)
  have g2 : H1.read H.size 2 2 = some [t3, t4] := r1 2 2 (show 2 + 2 ≤ 4 by omega)
  obtain ⟨H2, e2, k2, z2, ow2, -, -, -⟩ := box2 H1 0 0 24
  have k12 := k1.trans k2
  have g0' := k2.read s1 g0
  obtain ⟨H3, k3, R3⟩ := Within_runs hS _ x.1 1152921504606846976 400 H2 (k12.grp hg) (k12.low hL) (b1.keep k12) (Nat.le_refl _) (by omega) (by omega)
  have k13 := k12.trans k3
  have g2' := (k2.trans k3).read s1 g2
  obtain ⟨H4, k4, R4⟩ := Within_runs hS _ x.2 1152921504606846976 400 H3 (k13.grp hg) (k13.low hL) (b2.keep k13) (Nat.le_refl _) (by omega) (by omega)
  have f3 := R3.bx
  have f4 := R4.bx
  obtain ⟨H5, p5, k5, z5, ow5, -⟩ := stH infR.1 (k13.trans k4) k1.size (ow2.keep (k3.trans k4)) (v := .agg ⟨[.int .i64 x.1, .int .i64 x.2]⟩) (new := [.int .i64 x.1, .int .i64 x.2]) rfl infR.2 rfl rfl
  obtain ⟨m5, -, -⟩ := own2 ow5
  have hc1 : (Value.agg ⟨[t1, t2, t3, t4]⟩).cells.toList = [t1, t2, t3, t4] := rfl
  unfold ratioV
  clear R3 R4 ow2 ow5 b1 b2 g0 g2 r1 hq
  refine call_of Tryd.func83 rfl (Nat.le_of_ble_eq_true rfl) (hS.no rfl _ _) ?_
  rw [Tryd.ntmps83, Tryd.results83]
  repeat' (first | (with_reducible refine sxGuardB_tsp (fun h => ?_) (fun h => ?_)) | (with_reducible refine sxGuardB_fsp (fun h => ?_) (fun h => ?_)) | (with_reducible refine sxIfB_sp (fun h => ?_) (fun h => ?_)) | simp only [↓sxC_skip, ↓sxC_draw, ↓sxC_region, ↓sxC_seq, ↓bxC_cond, ↓bxC_loop, ↓sxC_block, ↓sxC_exit, ↓sxC_goto, ↓sxC_ret, ↓sxOps_nil, ↓sxOps_cons, ↓sxDraw_nil, ↓bxDraw_cons, ↓sxDL_move, ↓sxDL_assign, ↓sxDL_pick, ↓sxDL_alloc, ↓sxDL_box, ↓sxDL_build, ↓sxDL_buildSlice, ↓sxDL_insert, ↓sxDL_load, ↓sxDL_nilCheck, ↓sxDL_binOp, ↓sxDL_unOp, ↓sxDL_convert, ↓sxDL_makeInterface, ↓sxDL_makeFunc, ↓sxDL_makeMap, ↓sxDL_makeSlice, ↓sxDL_slice, ↓sxDL_fieldAddr, ↓sxDL_field, ↓sxDL_indexAddr, ↓sxDL_index, ↓sxDL_typeAssert, ↓sxDL_extract, ↓sxDL_call, ↓sxDL_lookup, ↓sxDL_mapUpdate, ↓sxDL_range, ↓sxDL_next, ↓sxDL_entry, ↓sxDL_mapEntry, ↓sxDL_entryStore, ↓sxD_same, ↓sxStep_none, ↓bxStep_some, ↓bxOp_move, ↓bxOp_assign, ↓bxOp_pick, ↓bxOp_alloc, ↓bxOp_box, ↓bxOp_build, ↓bxOp_buildSlice, ↓bxOp_load, ↓bxOp_store, ↓bxOp_nilCheck, ↓bxOp_bin, ↓bxOp_un, ↓bxOp_makeI, ↓bxOp_makeFunc, ↓bxOp_makeSlice, ↓bxOp_slice, ↓bxOp_fieldAddr, ↓bxOp_field, ↓bxOp_indexAddr, ↓bxOp_index, ↓bxOp_assert, ↓bxOp_extract, ↓bxOp_value, ↓bxOp_len, ↓bxOp_cap, ↓bxOp_append, ↓bxOp_copy, ↓bxOp_max, ↓bxOp_min, ↓bxOp_convert, ↓sxPut_none, ↓bxPut, ↓seqQ_normal, ↓seqQ_exit, ↓seqQ_ret, ↓seqQ_goto, ↓blockQ_normal, ↓blockQ_ret, ↓blockQ_goto, ↓blockQ_exit, ↓loopQ_normal, ↓loopQ_exit, ↓loopQ_ret, ↓loopQ_goto, ↓resQ_normal, ↓resQ_ret, ↓sxRes_nil, ↓sxRes_tmp, ↓bxRes_cell, ↓upd_apply, ↓ev_tmp, ↓ev_const, ↓ev_global, ↓ev_func, ↓dstAt, ↓gval_some, sxOptB_some, sxOptB_ite, mm_max, mm_min, binP_shl, binP_shr, binP_int, intBin, una_not_dec, una_nt, una_nf, una_neg, aPick_true, aPick_false, sxCallVB_fn, sxCallVB_yield, sxGuardB_u, sxGuardB_tt, sxGuardB_tf, sxGuardB_ft, sxGuardB_ff, sxIfB_t, sxIfB_f, packRes_one, packRes_two, List.map_cons, List.map_nil, List.nil_append, List.cons_append, List.append_nil, ↓reduceIte, Nat.reduceEqDiff, Nat.reduceLT, dec_T, dec_F, false_imp, true_and, and_true, true_implies, implies_true, false_and, and_false, true_or, or_true, false_or, or_false, and_self, or_self, read_relow, size_relow, low_relow, relow_relow, aLoad_relow, Nat.add_zero, Nat.mul_one, one1, Option.bind_some, ne_eq, Int.natCast_nonneg, Int.toNat_natCast, not_true_eq_false, not_false_eq_true, Option.map_some, Option.map_none, *, argF, List.getD_cons_zero, List.getD_cons_succ, qaG0, qaG1, ldBig, hc1, alR, bdR, ldRt, ex20, ex21, cells2, Nat.zero_add] | (with_reducible refine sxDL_barE (by assumption) (by decide +kernel) ?_) | (with_reducible refine sxDL_bar (by decide +kernel) ?_) | (with_reducible refine sxD_bar (by decide +kernel) ?_))
theorem rratio_runs (v : Value) (p : Int × Int) (H : Heap) (hg : Grp H) (hL : H.low ≤ H.size) (hq : PV H v p) (hp : 0 < p.2) (hb : p.2 ≤ 1152921504606846976 ∧ (p.1.natAbs : Int) ≤ 1152921504606846976) :
    ∃ H', Keep H H' ∧ Runs Tryd.prog S (.fn 47) [v] H (ratioV (rat p.1 p.2)) H' := by
  suffices h : WCall Tryd.prog S (.fn 47) [v] H (fun v H' => v = ratioV (rat p.1 p.2) ∧ Keep H H') by
    obtain ⟨_, H', hr, rfl, hk⟩ := h; exact ⟨H', hk, hr⟩
  obtain ⟨H1, e1, k1, s1, -, r1⟩ := box1 H v.cells.toList 52
  have ow1 : Own H1 H.size 52 v.cells.toList := e1 ▸ Own.new H _ _
  have ld1 := own_ldQ ow1 (hq.keep k1)
  obtain ⟨H2, e2, k2, z2, ow2, -, -, -⟩ := box2 H1 0 0 24
  have k12 := k1.trans k2
  have ld2 := own_ldQ (ow1.keep k2) (hq.keep k12)
  obtain ⟨H3, k3, R3⟩ := ToRatio_runs hS v p H2 (k12.grp hg) (k12.low hL) (hq.keep k12) hp hb
  have f3 := R3.bx
  unfold ratioV at f3 ⊢
  generalize rat p.1 p.2 = x at *
  obtain ⟨H4, e4, k4, z4, ow4, -, -, -⟩ := box2 H3 0 0 24
  have k04 := (k12.trans k3).trans k4
  obtain ⟨H5, p5, k5, z5, ow5, o5⟩ := stH infR.1 k04 (k12.trans k3).size ow4 (v := .agg ⟨[.int .i64 x.1, .int .i64 x.2]⟩) (new := [.int .i64 x.1, .int .i64 x.2]) rfl infR.2 rfl rfl
  have s13 : H1.size < H3.size := Nat.lt_of_lt_of_le ow2.lt k3.size
  obtain ⟨H6, p6, k6, z6, ow6, -⟩ := stH infR.1 k5 k1.size (o5 _ _ _ (by omega) (ow2.keep (k3.trans k4))) (v := .agg ⟨[.int .i64 x.1, .int .i64 x.2]⟩) (new := [.int .i64 x.1, .int .i64 x.2]) rfl infR.2 rfl rfl
  obtain ⟨m5, -, -⟩ := own2 ow5
  obtain ⟨m6, -, -⟩ := own2 ow6
  clear R3 ow1 ow2 ow4 ow5 ow6 o5 hq hb hp r1 z2 z4 z5 z6 s13
  refine call_of Tryd.func47 rfl (Nat.le_of_ble_eq_true rfl) (hS.no rfl _ _) ?_
  rw [Tryd.ntmps47, Tryd.results47]
  repeat' (first | (with_reducible refine sxGuardB_tsp (fun h => ?_) (fun h => ?_)) | (with_reducible refine sxGuardB_fsp (fun h => ?_) (fun h => ?_)) | (with_reducible refine sxIfB_sp (fun h => ?_) (fun h => ?_)) | simp only [↓sxC_skip, ↓sxC_draw, ↓sxC_region, ↓sxC_seq, ↓bxC_cond, ↓bxC_loop, ↓sxC_block, ↓sxC_exit, ↓sxC_goto, ↓sxC_ret, ↓sxOps_nil, ↓sxOps_cons, ↓sxDraw_nil, ↓bxDraw_cons, ↓sxDL_move, ↓sxDL_assign, ↓sxDL_pick, ↓sxDL_alloc, ↓sxDL_box, ↓sxDL_build, ↓sxDL_buildSlice, ↓sxDL_insert, ↓sxDL_load, ↓sxDL_nilCheck, ↓sxDL_binOp, ↓sxDL_unOp, ↓sxDL_convert, ↓sxDL_makeInterface, ↓sxDL_makeFunc, ↓sxDL_makeMap, ↓sxDL_makeSlice, ↓sxDL_slice, ↓sxDL_fieldAddr, ↓sxDL_field, ↓sxDL_indexAddr, ↓sxDL_index, ↓sxDL_typeAssert, ↓sxDL_extract, ↓sxDL_call, ↓sxDL_lookup, ↓sxDL_mapUpdate, ↓sxDL_range, ↓sxDL_next, ↓sxDL_entry, ↓sxDL_mapEntry, ↓sxDL_entryStore, ↓sxD_same, ↓sxStep_none, ↓bxStep_some, ↓bxOp_move, ↓bxOp_assign, ↓bxOp_pick, ↓bxOp_alloc, ↓bxOp_box, ↓bxOp_build, ↓bxOp_buildSlice, ↓bxOp_load, ↓bxOp_store, ↓bxOp_nilCheck, ↓bxOp_bin, ↓bxOp_un, ↓bxOp_makeI, ↓bxOp_makeFunc, ↓bxOp_makeSlice, ↓bxOp_slice, ↓bxOp_fieldAddr, ↓bxOp_field, ↓bxOp_indexAddr, ↓bxOp_index, ↓bxOp_assert, ↓bxOp_extract, ↓bxOp_value, ↓bxOp_len, ↓bxOp_cap, ↓bxOp_append, ↓bxOp_copy, ↓bxOp_max, ↓bxOp_min, ↓bxOp_convert, ↓sxPut_none, ↓bxPut, ↓seqQ_normal, ↓seqQ_exit, ↓seqQ_ret, ↓seqQ_goto, ↓blockQ_normal, ↓blockQ_ret, ↓blockQ_goto, ↓blockQ_exit, ↓loopQ_normal, ↓loopQ_exit, ↓loopQ_ret, ↓loopQ_goto, ↓resQ_normal, ↓resQ_ret, ↓sxRes_nil, ↓sxRes_tmp, ↓bxRes_cell, ↓upd_apply, ↓ev_tmp, ↓ev_const, ↓ev_global, ↓ev_func, ↓dstAt, ↓gval_some, sxOptB_some, sxOptB_ite, mm_max, mm_min, binP_shl, binP_shr, binP_int, intBin, una_not_dec, una_nt, una_nf, una_neg, aPick_true, aPick_false, sxCallVB_fn, sxCallVB_yield, sxGuardB_u, sxGuardB_tt, sxGuardB_tf, sxGuardB_ft, sxGuardB_ff, sxIfB_t, sxIfB_f, packRes_one, packRes_two, List.map_cons, List.map_nil, List.nil_append, List.cons_append, List.append_nil, ↓reduceIte, Nat.reduceEqDiff, Nat.reduceLT, dec_T, dec_F, false_imp, true_and, and_true, true_implies, implies_true, false_and, and_false, true_or, or_true, false_or, or_false, and_self, or_self, read_relow, size_relow, low_relow, relow_relow, aLoad_relow, Nat.add_zero, Nat.mul_one, one1, Option.bind_some, ne_eq, Int.natCast_nonneg, Int.toNat_natCast, not_true_eq_false, not_false_eq_true, Option.map_some, Option.map_none, *, argF, List.getD_cons_zero, List.getD_cons_succ, alR, bdR, ldRt, ex20, ex21, cells2, Nat.zero_add] | (with_reducible refine sxDL_barE (by assumption) (by decide +kernel) ?_) | (with_reducible refine sxDL_bar (by decide +kernel) ?_) | (with_reducible refine sxD_bar (by decide +kernel) ?_))
end Go.Proofs.YtnbhjbelgmkpeaaDoor
