/- How the reference plays the first day, on the canonical machine. -/
import Derived.Test.YtnbhjbelgmkpeaaDoorR1
set_option linter.unusedVariables false
set_option linter.unusedSimpArgs false
set_option linter.unusedSectionVars false

namespace Go.Proofs.YtnbhjbelgmkpeaaDoor
open Go Go.AM
set_option maxRecDepth 10000
set_option linter.unusedSimpArgs false

def Q2Out (S : AM.Sys) (f : FuncId) (args : List Value) (H : Heap) (x y : Int × Int) : Prop := ∃ H' va vb, Keep H H' ∧ Grp H' ∧ QV H' va x.1 x.2 ∧ QV H' vb y.1 y.2 ∧ Runs Tryd.prog S (.fn f) args H (.tuple #[va, vb]) H'
variable {S : AM.Sys} (hS : Only S 10)
include hS

theorem rtoday_runs (d l : Nat) (H : Heap) (hd : d ≤ 14) (hl : l ≤ 14) (hg : Grp H) (hL : H.low ≤ H.size) : Q2Out S 50 [.int .i64 d, .int .i64 l] H (dayC d l).2.1 (dayC d l).2.2 := by
  suffices h : WCall Tryd.prog S (.fn 50) [.int .i64 d, .int .i64 l] H (fun v H' => ∃ va vb, v = .tuple #[va, vb] ∧ Keep H H' ∧ Grp H' ∧ QV H' va (dayC d l).2.1.1 (dayC d l).2.1.2 ∧ QV H' vb (dayC d l).2.2.1 (dayC d l).2.2.2) by
    obtain ⟨v, H', hr, va, vb, rfl, h1, h2, h3, h4⟩ := h; exact ⟨H', va, vb, h1, h2, h3, h4, hr⟩
  obtain ⟨Ha, ea, ka, za, owa⟩ := allocQ H
  obtain ⟨Hb, eb, kb, zb, owb⟩ := allocQ Ha
  have kab := ka.trans kb
  obtain ⟨H1, v1, k1, gr1, q1, R1⟩ := Frac_any hS 0 1 Hb (kab.grp hg) (kab.low hL) (by omega) (by omega) (by omega)
  obtain ⟨H2, v2, k2, gr2, q2, R2⟩ := Frac_any hS 1 1 H1 gr1 (k1.low (kab.low hL)) (by omega) (by omega) (by omega)
  have f1 := R1.bx
  have f2 := R2.bx
  obtain ⟨H3, e3, k3, z3, ow3⟩ := allocQ H2
  obtain ⟨H4, e4, k4, z4, ow4⟩ := allocQ H3
  have k24 := k3.trans k4
  have ka2 := (kab.trans k1).trans k2
  obtain ⟨H5, p5, z5, ow5, qq5, o5, kk5⟩ := storeQ (ow3.keep k4) QShape.empty ((q1.keep k2).keep k24)
  have k05 := kk5 H (ka2.trans k24) ka2.size
  obtain ⟨H6, p6, z6, ow6, qq6, o6, kk6⟩ := storeQ (o5 _ _ _ (by omega) ow4) QShape.empty (qq5 _ _ _ (q2.keep k24))
  have k06 := kk6 H k05 (Nat.le_trans ka2.size k3.size)
  have sb2 : Hb.size ≤ H2.size := (k1.trans k2).size
  have k14 := (k1.trans k2).trans k24
  have owa6 := o6 _ _ _ (by omega) (o5 _ _ _ (by omega) ((owa.keep kb).keep k14))
  have owb6 := o6 _ _ _ (by omega) (o5 _ _ _ (by omega) (owb.keep k14))
  have ow56 := o6 _ _ _ (by omega) ow5
  have q16 := qq6 _ _ _ (qq5 _ _ _ ((q1.keep k2).keep k24))
  have q26 := qq6 _ _ _ (qq5 _ _ _ (q2.keep k24))
  have l61 := own_ldQ ow56 q16
  have l62 := own_ldQ ow6 q26
  have l6 := k06.low hL
  have g6 := k06.grp hg
  by_cases c1 : d ≤ l
  · have hv : (dayC d l).2 = ((1, 1), (0, 1)) := by unfold dayC; rw [if_pos c1]
    rw [hv]
    obtain ⟨H7', H7, p7, y7, k7, z7, l7, ow7, qq7, o7⟩ := storeQD k06 (Nat.le_refl _) l6 owa6 QShape.empty q26
    have owb7 := o7 _ _ _ (by omega) owb6
    obtain ⟨H8', H8, p8, y8, k8, z8, l8, ow8, qq8, o8⟩ := storeQD k7 ka.size l7 owb7 QShape.empty (qq7 _ _ _ q16)
    have m7 := own_ldQ (o8 _ _ _ (by omega) ow7) (qq8 _ _ _ (qq7 _ _ _ q26))
    have m8 := own_ldQ ow8 (qq8 _ _ _ (qq7 _ _ _ q16))
    have g8 := k8.grp hg
    have q18 := qq8 _ _ _ (qq7 _ _ _ q16)
    have q28 := qq8 _ _ _ (qq7 _ _ _ q26)
    have c2 : (d : Int) ≤ l := by omega
    have n1 : H2.size ≠ H.size := by omega
    have n2 : H3.size ≠ H.size := by omega
    have n3 : H2.size ≠ Ha.size := by omega
    have n4 : H3.size ≠ Ha.size := by omega
    clear owa owb ow3 ow4 ow5 ow6 ow56 ow7 ow8 owb6 q1 q2 q16 q26 qq5 qq6 qq7 qq8 o5 o6 o7 o8 kk5 kk6 R1 R2 hv c1 hd hl z3 z4 z5 z6 z7 z8 za zb sb2
    refine call_of Tryd.func50 rfl (Nat.le_of_ble_eq_true rfl) (hS.no rfl _ _) ?_
    rw [Tryd.ntmps50, Tryd.results50]
    repeat' (first | (with_reducible refine sxGuardB_tsp (fun h => ?_) (fun h => ?_)) | (with_reducible refine sxGuardB_fsp (fun h => ?_) (fun h => ?_)) | (with_reducible refine sxIfB_sp (fun h => ?_) (fun h => ?_)) | simp only [↓sxC_skip, ↓sxC_draw, ↓sxC_region, ↓sxC_seq, ↓bxC_cond, ↓bxC_loop, ↓sxC_block, ↓sxC_exit, ↓sxC_goto, ↓sxC_ret, ↓sxOps_nil, ↓sxOps_cons, ↓sxDraw_nil, ↓bxDraw_cons, ↓sxDL_move, ↓sxDL_assign, ↓sxDL_pick, ↓sxDL_alloc, ↓sxDL_box, ↓sxDL_build, ↓sxDL_buildSlice, ↓sxDL_insert, ↓sxDL_load, ↓sxDL_nilCheck, ↓sxDL_binOp, ↓sxDL_unOp, ↓sxDL_convert, ↓sxDL_makeInterface, ↓sxDL_makeFunc, ↓sxDL_makeMap, ↓sxDL_makeSlice, ↓sxDL_slice, ↓sxDL_fieldAddr, ↓sxDL_field, ↓sxDL_indexAddr, ↓sxDL_index, ↓sxDL_typeAssert, ↓sxDL_extract, ↓sxDL_call, ↓sxDL_lookup, ↓sxDL_mapUpdate, ↓sxDL_range, ↓sxDL_next, ↓sxDL_entry, ↓sxDL_mapEntry, ↓sxDL_entryStore, ↓sxD_same, ↓sxStep_none, ↓bxStep_some, ↓bxOp_move, ↓bxOp_assign, ↓bxOp_pick, ↓bxOp_alloc, ↓bxOp_box, ↓bxOp_build, ↓bxOp_buildSlice, ↓bxOp_load, ↓bxOp_store, ↓bxOp_nilCheck, ↓bxOp_bin, ↓bxOp_un, ↓bxOp_makeI, ↓bxOp_makeFunc, ↓bxOp_makeSlice, ↓bxOp_slice, ↓bxOp_fieldAddr, ↓bxOp_field, ↓bxOp_indexAddr, ↓bxOp_index, ↓bxOp_assert, ↓bxOp_extract, ↓bxOp_value, ↓bxOp_len, ↓bxOp_cap, ↓bxOp_append, ↓bxOp_copy, ↓bxOp_max, ↓bxOp_min, ↓bxOp_convert, ↓sxPut_none, ↓bxPut, ↓seqQ_normal, ↓seqQ_exit, ↓seqQ_ret, ↓seqQ_goto, ↓blockQ_normal, ↓blockQ_ret, ↓blockQ_goto, ↓blockQ_exit, ↓loopQ_normal, ↓loopQ_exit, ↓loopQ_ret, ↓loopQ_goto, ↓resQ_normal, ↓resQ_ret, ↓sxRes_nil, ↓sxRes_tmp, ↓bxRes_cell, ↓upd_apply, ↓ev_tmp, ↓ev_const, ↓ev_global, ↓ev_func, ↓dstAt, ↓gval_some, sxOptB_some, sxOptB_ite, mm_max, mm_min, binP_shl, binP_shr, binP_int, intBin, una_not_dec, una_nt, una_nf, una_neg, aPick_true, aPick_false, sxCallVB_fn, sxCallVB_yield, sxGuardB_u, sxGuardB_tt, sxGuardB_tf, sxGuardB_ft, sxGuardB_ff, sxIfB_t, sxIfB_f, packRes_one, packRes_two, List.map_cons, List.map_nil, List.nil_append, List.cons_append, List.append_nil, ↓reduceIte, Nat.reduceEqDiff, Nat.reduceLT, dec_T, dec_F, false_imp, true_and, and_true, true_implies, implies_true, false_and, and_false, true_or, or_true, false_or, or_false, and_self, or_self, read_relow, size_relow, low_relow, relow_relow, aLoad_relow, Nat.add_zero, Nat.mul_one, one1, Option.bind_some, ne_eq, Int.natCast_nonneg, Int.toNat_natCast, not_true_eq_false, not_false_eq_true, Option.map_some, Option.map_none, *, argF, List.getD_cons_zero, List.getD_cons_succ, alQ, Nat.zero_add] | (with_reducible refine sxDL_barE (by assumption) (by decide +kernel) ?_) | (with_reducible refine sxDL_bar (by decide +kernel) ?_) | (with_reducible refine sxD_bar (by decide +kernel) ?_))
    refine sxDL_late [1] (by decide +kernel) (by decide +kernel) (fun j hj => ?_) ?_
    · obtain rfl := List.mem_singleton.1 hj
      exact late_one rfl rfl rfl rfl rfl (by decide +kernel) rfl rfl owa6 n1
    repeat' (first | (with_reducible refine sxGuardB_tsp (fun h => ?_) (fun h => ?_)) | (with_reducible refine sxGuardB_fsp (fun h => ?_) (fun h => ?_)) | (with_reducible refine sxIfB_sp (fun h => ?_) (fun h => ?_)) | simp only [↓sxC_skip, ↓sxC_draw, ↓sxC_region, ↓sxC_seq, ↓bxC_cond, ↓bxC_loop, ↓sxC_block, ↓sxC_exit, ↓sxC_goto, ↓sxC_ret, ↓sxOps_nil, ↓sxOps_cons, ↓sxDraw_nil, ↓bxDraw_cons, ↓sxDL_move, ↓sxDL_assign, ↓sxDL_pick, ↓sxDL_alloc, ↓sxDL_box, ↓sxDL_build, ↓sxDL_buildSlice, ↓sxDL_insert, ↓sxDL_load, ↓sxDL_nilCheck, ↓sxDL_binOp, ↓sxDL_unOp, ↓sxDL_convert, ↓sxDL_makeInterface, ↓sxDL_makeFunc, ↓sxDL_makeMap, ↓sxDL_makeSlice, ↓sxDL_slice, ↓sxDL_fieldAddr, ↓sxDL_field, ↓sxDL_indexAddr, ↓sxDL_index, ↓sxDL_typeAssert, ↓sxDL_extract, ↓sxDL_call, ↓sxDL_lookup, ↓sxDL_mapUpdate, ↓sxDL_range, ↓sxDL_next, ↓sxDL_entry, ↓sxDL_mapEntry, ↓sxDL_entryStore, ↓sxD_same, ↓sxStep_none, ↓bxStep_some, ↓bxOp_move, ↓bxOp_assign, ↓bxOp_pick, ↓bxOp_alloc, ↓bxOp_box, ↓bxOp_build, ↓bxOp_buildSlice, ↓bxOp_load, ↓bxOp_store, ↓bxOp_nilCheck, ↓bxOp_bin, ↓bxOp_un, ↓bxOp_makeI, ↓bxOp_makeFunc, ↓bxOp_makeSlice, ↓bxOp_slice, ↓bxOp_fieldAddr, ↓bxOp_field, ↓bxOp_indexAddr, ↓bxOp_index, ↓bxOp_assert, ↓bxOp_extract, ↓bxOp_value, ↓bxOp_len, ↓bxOp_cap, ↓bxOp_append, ↓bxOp_copy, ↓bxOp_max, ↓bxOp_min, ↓bxOp_convert, ↓sxPut_none, ↓bxPut, ↓seqQ_normal, ↓seqQ_exit, ↓seqQ_ret, ↓seqQ_goto, ↓blockQ_normal, ↓blockQ_ret, ↓blockQ_goto, ↓blockQ_exit, ↓loopQ_normal, ↓loopQ_exit, ↓loopQ_ret, ↓loopQ_goto, ↓resQ_normal, ↓resQ_ret, ↓sxRes_nil, ↓sxRes_tmp, ↓bxRes_cell, ↓upd_apply, ↓ev_tmp, ↓ev_const, ↓ev_global, ↓ev_func, ↓dstAt, ↓gval_some, sxOptB_some, sxOptB_ite, mm_max, mm_min, binP_shl, binP_shr, binP_int, intBin, una_not_dec, una_nt, una_nf, una_neg, aPick_true, aPick_false, sxCallVB_fn, sxCallVB_yield, sxGuardB_u, sxGuardB_tt, sxGuardB_tf, sxGuardB_ft, sxGuardB_ff, sxIfB_t, sxIfB_f, packRes_one, packRes_two, List.map_cons, List.map_nil, List.nil_append, List.cons_append, List.append_nil, ↓reduceIte, Nat.reduceEqDiff, Nat.reduceLT, dec_T, dec_F, false_imp, true_and, and_true, true_implies, implies_true, false_and, and_false, true_or, or_true, false_or, or_false, and_self, or_self, read_relow, size_relow, low_relow, relow_relow, aLoad_relow, Nat.add_zero, Nat.mul_one, one1, Option.bind_some, ne_eq, Int.natCast_nonneg, Int.toNat_natCast, not_true_eq_false, not_false_eq_true, Option.map_some, Option.map_none, *, argF, List.getD_cons_zero, List.getD_cons_succ, alQ, Nat.zero_add] | (with_reducible refine sxDL_barE (by assumption) (by decide +kernel) ?_) | (with_reducible refine sxDL_bar (by decide +kernel) ?_) | (with_reducible refine sxD_bar (by decide +kernel) ?_))
    exact ⟨_, _, rfl, q28, q18⟩
  · by_cases c2 : l = 0
    · subst c2
      have hv : (dayC d 0).2 = ((0, 1), (1, 1)) := by unfold dayC; rw [if_neg c1, if_pos rfl]
      rw [hv]
      obtain ⟨H7', H7, p7, y7, k7, z7, l7, ow7, qq7, o7⟩ := storeQD k06 (Nat.le_refl _) l6 owa6 QShape.empty q16
      have owb7 := o7 _ _ _ (by omega) owb6
      obtain ⟨H8', H8, p8, y8, k8, z8, l8, ow8, qq8, o8⟩ := storeQD k7 ka.size l7 owb7 QShape.empty (qq7 _ _ _ q26)
      have m7 := own_ldQ (o8 _ _ _ (by omega) ow7) (qq8 _ _ _ (qq7 _ _ _ q16))
      have m8 := own_ldQ ow8 (qq8 _ _ _ (qq7 _ _ _ q26))
      have g8 := k8.grp hg
      have q18 := qq8 _ _ _ (qq7 _ _ _ q16)
      have q28 := qq8 _ _ _ (qq7 _ _ _ q26)
      have c3 : ¬ (d : Int) ≤ 0 := by omega
      have c5 : ((0 : Nat) : Int) = 0 := rfl
      have n1 : H2.size ≠ H.size := by omega
      have n2 : H3.size ≠ H.size := by omega
      have n3 : H2.size ≠ Ha.size := by omega
      have n4 : H3.size ≠ Ha.size := by omega
      clear owa owb ow3 ow4 ow5 ow6 ow56 ow7 ow8 owb6 q1 q2 q16 q26 qq5 qq6 qq7 qq8 o5 o6 o7 o8 kk5 kk6 R1 R2 hv c1 hd hl z3 z4 z5 z6 z7 z8 za zb sb2
      refine call_of Tryd.func50 rfl (Nat.le_of_ble_eq_true rfl) (hS.no rfl _ _) ?_
      rw [Tryd.ntmps50, Tryd.results50]
      repeat' (first | (with_reducible refine sxGuardB_tsp (fun h => ?_) (fun h => ?_)) | (with_reducible refine sxGuardB_fsp (fun h => ?_) (fun h => ?_)) | (with_reducible refine sxIfB_sp (fun h => ?_) (fun h => ?_)) | simp only [↓sxC_skip, ↓sxC_draw, ↓sxC_region, ↓sxC_seq, ↓bxC_cond, ↓bxC_loop, ↓sxC_block, ↓sxC_exit, ↓sxC_goto, ↓sxC_ret, ↓sxOps_nil, ↓sxOps_cons, ↓sxDraw_nil, ↓bxDraw_cons, ↓sxDL_move, ↓sxDL_assign, ↓sxDL_pick, ↓sxDL_alloc, ↓sxDL_box, ↓sxDL_build, ↓sxDL_buildSlice, ↓sxDL_insert, ↓sxDL_load, ↓sxDL_nilCheck, ↓sxDL_binOp, ↓sxDL_unOp, ↓sxDL_convert, ↓sxDL_makeInterface, ↓sxDL_makeFunc, ↓sxDL_makeMap, ↓sxDL_makeSlice, ↓sxDL_slice, ↓sxDL_fieldAddr, ↓sxDL_field, ↓sxDL_indexAddr, ↓sxDL_index, ↓sxDL_typeAssert, ↓sxDL_extract, ↓sxDL_call, ↓sxDL_lookup, ↓sxDL_mapUpdate, ↓sxDL_range, ↓sxDL_next, ↓sxDL_entry, ↓sxDL_mapEntry, ↓sxDL_entryStore, ↓sxD_same, ↓sxStep_none, ↓bxStep_some, ↓bxOp_move, ↓bxOp_assign, ↓bxOp_pick, ↓bxOp_alloc, ↓bxOp_box, ↓bxOp_build, ↓bxOp_buildSlice, ↓bxOp_load, ↓bxOp_store, ↓bxOp_nilCheck, ↓bxOp_bin, ↓bxOp_un, ↓bxOp_makeI, ↓bxOp_makeFunc, ↓bxOp_makeSlice, ↓bxOp_slice, ↓bxOp_fieldAddr, ↓bxOp_field, ↓bxOp_indexAddr, ↓bxOp_index, ↓bxOp_assert, ↓bxOp_extract, ↓bxOp_value, ↓bxOp_len, ↓bxOp_cap, ↓bxOp_append, ↓bxOp_copy, ↓bxOp_max, ↓bxOp_min, ↓bxOp_convert, ↓sxPut_none, ↓bxPut, ↓seqQ_normal, ↓seqQ_exit, ↓seqQ_ret, ↓seqQ_goto, ↓blockQ_normal, ↓blockQ_ret, ↓blockQ_goto, ↓blockQ_exit, ↓loopQ_normal, ↓loopQ_exit, ↓loopQ_ret, ↓loopQ_goto, ↓resQ_normal, ↓resQ_ret, ↓sxRes_nil, ↓sxRes_tmp, ↓bxRes_cell, ↓upd_apply, ↓ev_tmp, ↓ev_const, ↓ev_global, ↓ev_func, ↓dstAt, ↓gval_some, sxOptB_some, sxOptB_ite, mm_max, mm_min, binP_shl, binP_shr, binP_int, intBin, una_not_dec, una_nt, una_nf, una_neg, aPick_true, aPick_false, sxCallVB_fn, sxCallVB_yield, sxGuardB_u, sxGuardB_tt, sxGuardB_tf, sxGuardB_ft, sxGuardB_ff, sxIfB_t, sxIfB_f, packRes_one, packRes_two, List.map_cons, List.map_nil, List.nil_append, List.cons_append, List.append_nil, ↓reduceIte, Nat.reduceEqDiff, Nat.reduceLT, dec_T, dec_F, false_imp, true_and, and_true, true_implies, implies_true, false_and, and_false, true_or, or_true, false_or, or_false, and_self, or_self, read_relow, size_relow, low_relow, relow_relow, aLoad_relow, Nat.add_zero, Nat.mul_one, one1, Option.bind_some, ne_eq, Int.natCast_nonneg, Int.toNat_natCast, not_true_eq_false, not_false_eq_true, Option.map_some, Option.map_none, *, argF, List.getD_cons_zero, List.getD_cons_succ, alQ, Nat.zero_add] | (with_reducible refine sxDL_barE (by assumption) (by decide +kernel) ?_) | (with_reducible refine sxDL_bar (by decide +kernel) ?_) | (with_reducible refine sxD_bar (by decide +kernel) ?_))
      refine sxDL_late [1] (by decide +kernel) (by decide +kernel) (fun j hj => ?_) ?_
      · obtain rfl := List.mem_singleton.1 hj
        exact late_one rfl rfl rfl rfl rfl (by decide +kernel) rfl rfl owa6 n2
      repeat' (first | (with_reducible refine sxGuardB_tsp (fun h => ?_) (fun h => ?_)) | (with_reducible refine sxGuardB_fsp (fun h => ?_) (fun h => ?_)) | (with_reducible refine sxIfB_sp (fun h => ?_) (fun h => ?_)) | simp only [↓sxC_skip, ↓sxC_draw, ↓sxC_region, ↓sxC_seq, ↓bxC_cond, ↓bxC_loop, ↓sxC_block, ↓sxC_exit, ↓sxC_goto, ↓sxC_ret, ↓sxOps_nil, ↓sxOps_cons, ↓sxDraw_nil, ↓bxDraw_cons, ↓sxDL_move, ↓sxDL_assign, ↓sxDL_pick, ↓sxDL_alloc, ↓sxDL_box, ↓sxDL_build, ↓sxDL_buildSlice, ↓sxDL_insert, ↓sxDL_load, ↓sxDL_nilCheck, ↓sxDL_binOp, ↓sxDL_unOp, ↓sxDL_convert, ↓sxDL_makeInterface, ↓sxDL_makeFunc, ↓sxDL_makeMap, ↓sxDL_makeSlice, ↓sxDL_slice, ↓sxDL_fieldAddr, ↓sxDL_field, ↓sxDL_indexAddr, ↓sxDL_index, ↓sxDL_typeAssert, ↓sxDL_extract, ↓sxDL_call, ↓sxDL_lookup, ↓sxDL_mapUpdate, ↓sxDL_range, ↓sxDL_next, ↓sxDL_entry, ↓sxDL_mapEntry, ↓sxDL_entryStore, ↓sxD_same, ↓sxStep_none, ↓bxStep_some, ↓bxOp_move, ↓bxOp_assign, ↓bxOp_pick, ↓bxOp_alloc, ↓bxOp_box, ↓bxOp_build, ↓bxOp_buildSlice, ↓bxOp_load, ↓bxOp_store, ↓bxOp_nilCheck, ↓bxOp_bin, ↓bxOp_un, ↓bxOp_makeI, ↓bxOp_makeFunc, ↓bxOp_makeSlice, ↓bxOp_slice, ↓bxOp_fieldAddr, ↓bxOp_field, ↓bxOp_indexAddr, ↓bxOp_index, ↓bxOp_assert, ↓bxOp_extract, ↓bxOp_value, ↓bxOp_len, ↓bxOp_cap, ↓bxOp_append, ↓bxOp_copy, ↓bxOp_max, ↓bxOp_min, ↓bxOp_convert, ↓sxPut_none, ↓bxPut, ↓seqQ_normal, ↓seqQ_exit, ↓seqQ_ret, ↓seqQ_goto, ↓blockQ_normal, ↓blockQ_ret, ↓blockQ_goto, ↓blockQ_exit, ↓loopQ_normal, ↓loopQ_exit, ↓loopQ_ret, ↓loopQ_goto, ↓resQ_normal, ↓resQ_ret, ↓sxRes_nil, ↓sxRes_tmp, ↓bxRes_cell, ↓upd_apply, ↓ev_tmp, ↓ev_const, ↓ev_global, ↓ev_func, ↓dstAt, ↓gval_some, sxOptB_some, sxOptB_ite, mm_max, mm_min, binP_shl, binP_shr, binP_int, intBin, una_not_dec, una_nt, una_nf, una_neg, aPick_true, aPick_false, sxCallVB_fn, sxCallVB_yield, sxGuardB_u, sxGuardB_tt, sxGuardB_tf, sxGuardB_ft, sxGuardB_ff, sxIfB_t, sxIfB_f, packRes_one, packRes_two, List.map_cons, List.map_nil, List.nil_append, List.cons_append, List.append_nil, ↓reduceIte, Nat.reduceEqDiff, Nat.reduceLT, dec_T, dec_F, false_imp, true_and, and_true, true_implies, implies_true, false_and, and_false, true_or, or_true, false_or, or_false, and_self, or_self, read_relow, size_relow, low_relow, relow_relow, aLoad_relow, Nat.add_zero, Nat.mul_one, one1, Option.bind_some, ne_eq, Int.natCast_nonneg, Int.toNat_natCast, not_true_eq_false, not_false_eq_true, Option.map_some, Option.map_none, *, argF, List.getD_cons_zero, List.getD_cons_succ, alQ, Nat.zero_add] | (with_reducible refine sxDL_barE (by assumption) (by decide +kernel) ?_) | (with_reducible refine sxDL_bar (by decide +kernel) ?_) | (with_reducible refine sxD_bar (by decide +kernel) ?_))
      exact ⟨_, _, rfl, q18, q28⟩
    · obtain ⟨d, rfl⟩ : ∃ d', d = d' + 1 := ⟨d - 1, by omega⟩
      obtain ⟨l, rfl⟩ : ∃ l', l = l' + 1 := ⟨l - 1, by omega⟩
      obtain ⟨g1, -⟩ := dayC_facts (d := d) (l := l) (by omega) (by omega)
      obtain ⟨h1, -⟩ := dayC_facts (d := d) (l := l + 1) (by omega) (by omega)
      obtain ⟨i1, i2, i3, i4, -⟩ := isPart_iff g1
      obtain ⟨j1, j2, j3, j4, -⟩ := isPart_iff h1
      obtain ⟨D, F, E, eD, eF, eE, b1, b2, b3, b4, b5, hday⟩ := gain_bounds hd hl (by omega)
      have mlook := mix_look (gainC d l).1 (gainC d l).2 (gainC d (l + 1)).1 (gainC d (l + 1)).2
      rw [eD, eF, eE] at mlook
      rw [hday]
      obtain ⟨H7, v3, k7, gr7, q3, R7⟩ := rgain_runs hS d l H6 (by omega) (by omega) g6 l6
      obtain ⟨H8, v4, k8, gr8, q4, R8⟩ := rgain_runs hS d (l + 1) H7 (by omega) (by omega) gr7 (k7.low l6)
      obtain ⟨H9, e9, k9, z9, ow9⟩ := allocQ H8
      obtain ⟨H10, e10, k10, z10, ow10⟩ := allocQ H9
      have k810 := k9.trans k10
      have k68 := k7.trans k8
      have k08 := k06.trans k68
      have s8 := k68.size
      obtain ⟨H11, p11, z11, ow11, qq11, o11, kk11⟩ := storeQ (ow9.keep k10) QShape.empty ((q3.keep k8).keep k810)
      have k011 := kk11 H (k08.trans k810) k08.size
      obtain ⟨H12, p12, z12, ow12, qq12, o12, kk12⟩ := storeQ (o11 _ _ _ (by omega) ow10) QShape.empty (qq11 _ _ _ (q4.keep k810))
      have k012 := kk12 H k011 (Nat.le_trans k08.size k9.size)
      have k612 := k68.trans k810
      have owa12 := o12 _ _ _ (by omega) (o11 _ _ _ (by omega) (owa6.keep k612))
      have owb12 := o12 _ _ _ (by omega) (o11 _ _ _ (by omega) (owb6.keep k612))
      have ow612 := o12 _ _ _ (by omega) (o11 _ _ _ (by omega) (ow6.keep k612))
      have ow1112 := o12 _ _ _ (by omega) ow11
      have q2b := qq12 _ _ _ (qq11 _ _ _ (q26.keep k612))
      have q3b := qq12 _ _ _ (qq11 _ _ _ ((q3.keep k8).keep k810))
      have q4b := qq12 _ _ _ (qq11 _ _ _ (q4.keep k810))
      have l12 := k012.low hL
      have g12 := k012.grp hg
      have hb := big20
      have r12 := Keep.relowS H12
      obtain ⟨w2, H13', H13, k13, l13, f13, d13, t13⟩ := drawnQ l12 (Frac_any hS 2 1 (H12.relow H12.size) (r12.grp g12) (Nat.le_refl _) (by omega) (by omega) (by omega))
      have g13 := k13.grp g12
      have r13 := Keep.relowS H13
      have m13a := own_ldQ (ow1112.keep k13) (q3b.keep k13)
      have m13b := own_ldQ (ow12.keep k13) (q4b.keep k13)
      obtain ⟨w3, H14', H14, k14', l14, f14, d14, t14⟩ := drawnQ l13 (Sub_all hS v3 v4 _ _ _ _ (H13.relow H13.size) (r13.grp g13) (Nat.le_refl _) ((q3b.keep k13).keep r13) ((q4b.keep k13).keep r13) (by omega) (by omega) (by rw [hb]; omega) (by rw [hb]; omega) (by rw [hb]; omega) (by rw [hb]; omega))
      rw [eF, eE, eD] at t14
      have g14 := k14'.grp g13
      have r14 := Keep.relowS H14
      obtain ⟨w4, H15', H15, k15, l15, f15, d15, t15⟩ := drawnQ l14 (Add_all hS w2 w3 _ _ _ _ (H14.relow H14.size) (r14.grp g14) (Nat.le_refl _) ((t13.keep k14').keep r14) (t14.keep r14) (by omega) (by omega) (by rw [hb]; omega) (by rw [hb]; omega) (by rw [hb]; omega) (by rw [hb]; omega))
      have g15 := k15.grp g14
      obtain ⟨H16', H16, e16, d16, k16, l16, ow16, z16⟩ := allocQD l15
      have k1216 := ((k13.trans k14').trans k15).trans k16
      have s15 := ((k13.trans k14').trans k15).size
      obtain ⟨H17', H17, p17, y17, k17, z17, l17, ow17, qq17, o17⟩ := storeQD (k012.trans k1216) (Nat.le_trans k012.size s15) l16 ow16 QShape.empty (t15.keep k16)
      have owa17 := o17 _ _ _ (by omega) (owa12.keep k1216)
      have owb17 := o17 _ _ _ (by omega) (owb12.keep k1216)
      have ow617 := o17 _ _ _ (by omega) (ow612.keep k1216)
      have ow1117 := o17 _ _ _ (by omega) (ow1112.keep k1216)
      have ow1217 := o17 _ _ _ (by omega) (ow12.keep k1216)
      have q2c := qq17 _ _ _ (q2b.keep k1216)
      have q3c := qq17 _ _ _ (q3b.keep k1216)
      have q4c := qq17 _ _ _ (q4b.keep k1216)
      have qwc := qq17 _ _ _ (t15.keep k16)
      have g17 := k17.grp hg
      have r17 := Keep.relowS H17
      have m17a := own_ldQ ow617 q2c
      have m17b := own_ldQ ow1217 q4c
      obtain ⟨w5, H18', H18, k18, l18, f18, d18, t18⟩ := drawnQ l17 (Sub_all hS v2 v4 _ _ _ _ (H17.relow H17.size) (r17.grp g17) (Nat.le_refl _) (q2c.keep r17) (q4c.keep r17) (by omega) (by omega) (by rw [hb]; omega) (by rw [hb]; omega) (by rw [hb]; omega) (by rw [hb]; omega))
      have g18 := k18.grp g17
      have r18 := Keep.relowS H18
      have m18 := own_ldQ (ow17.keep k18) (qwc.keep k18)
      have hdv := Div_all hS w5 w4 _ _ _ _ (H18.relow H18.size) (r18.grp g18) (Nat.le_refl _) (t18.keep r18) ((qwc.keep k18).keep r18) (by omega) (by omega) (by rw [hb]; omega) (by rw [hb]; omega) (by rw [hb]; omega) (by rw [hb]; omega) (by omega)
      have hdv2 := hdv.as (Int.mul_pos (by omega) (by omega)) (crossR (Int.mul_pos (by omega) (by omega)) (show 0 < 2 * D + F - E by omega) mlook)
      obtain ⟨w6, H19', H19, k19, l19, f19, d19, t19⟩ := drawnQ l18 hdv2
      have k1719 := k18.trans k19
      have g19 := k19.grp g18
      have r19 := Keep.relowS H19
      have m19a := own_ldQ (ow1117.keep k1719) (q3c.keep k1719)
      have m19b := own_ldQ (ow1217.keep k1719) (q4c.keep k1719)
      obtain ⟨w7, H20', H20, k20, l20, f20, d20, t20⟩ := drawnQ l19 (Sub_all hS v3 v4 _ _ _ _ (H19.relow H19.size) (r19.grp g19) (Nat.le_refl _) ((q3c.keep k1719).keep r19) ((q4c.keep k1719).keep r19) (by omega) (by omega) (by rw [hb]; omega) (by rw [hb]; omega) (by rw [hb]; omega) (by rw [hb]; omega))
      rw [eF, eE, eD] at t20
      have k1720 := k1719.trans k20
      have g20 := k20.grp g19
      have r20 := Keep.relowS H20
      have m20 := own_ldQ (ow17.keep k1720) (qwc.keep k1720)
      have hdx := Div_all hS w7 w4 _ _ _ _ (H20.relow H20.size) (r20.grp g20) (Nat.le_refl _) (t20.keep r20) ((qwc.keep k1720).keep r20) (by omega) (by omega) (by rw [hb]; omega) (by rw [hb]; omega) (by rw [hb]; omega) (by rw [hb]; omega) (by omega)
      have hdx2 := hdx.as (Int.mul_pos (by omega) (by omega)) (crossR (Int.mul_pos (by omega) (by omega)) (show 0 < 2 * D + F - E by omega) (mixG (F - E) D F E))
      obtain ⟨w8, H21', H21, k21, l21, f21, d21, t21⟩ := drawnQ l20 hdx2
      have k1721 := k1720.trans k21
      have k021 := k17.trans k1721
      obtain ⟨H22', H22, p22, y22, k22, z22, l22, ow22, qq22, o22⟩ := storeQD k021 (Nat.le_refl _) l21 (owa17.keep k1721) QShape.empty ((t19.keep k20).keep k21)
      obtain ⟨H23', H23, p23, y23, k23, z23, l23, ow23, qq23, o23⟩ := storeQD k22 ka.size l22 (o22 _ _ _ (by omega) (owb17.keep k1721)) QShape.empty (qq22 _ _ _ t21)
      have qf1 := qq23 _ _ _ (qq22 _ _ _ ((t19.keep k20).keep k21))
      have qf2 := qq23 _ _ _ (qq22 _ _ _ t21)
      have m23a := own_ldQ (o23 _ _ _ (by omega) ow22) qf1
      have m23b := own_ldQ ow23 qf2
      have g23 := k23.grp hg
      have f7 := R7.bx
      have f8 := R8.bx
      have c3 : ¬ ((d + 1 : Nat) : Int) ≤ ((l + 1 : Nat) : Int) := by omega
      have c4 : ¬ ((l + 1 : Nat) : Int) = 0 := by omega
      have x1 : IntKind.i64.wrap (((d + 1 : Nat) : Int) - 1) = (d : Int) := by rw [IntWalk.i64_in _ (by omega)]; omega
      have x2 : IntKind.i64.wrap (((l + 1 : Nat) : Int) - 1) = (l : Int) := by rw [IntWalk.i64_in _ (by omega)]; omega
      clear R1 R2 R7 R8 c1 c2 g1 h1 i1 i2 i3 i4 j1 j2 j3 j4 b1 b2 b3 b4 b5 hday mlook eD eF eE hd hl hb hdv hdv2 hdx hdx2
      clear owa owb owa6 owb6 ow3 ow4 ow5 ow6 ow56 ow9 ow10 ow11 ow12 owa12 owb12 ow612 ow1112 ow16 ow17 owa17 owb17 ow617 ow1117 ow1217 ow22 ow23
      clear q1 q2 q16 q26 q3 q4 q2b q3b q4b q2c q3c q4c qwc t13 t14 t15 t18 t19 t20 t21 qq5 qq6 qq11 qq12 qq17 qq22 qq23 o5 o6 o11 o12 o17 o22 o23 kk5 kk6 kk11 kk12
      clear z3 z4 z5 z6 z9 z10 z11 z12 z16 z17 z22 z23 za zb sb2 s8 s15
      refine call_of Tryd.func50 rfl (Nat.le_of_ble_eq_true rfl) (hS.no rfl _ _) ?_
      rw [Tryd.ntmps50, Tryd.results50]
      repeat' (first | (with_reducible refine sxGuardB_tsp (fun h => ?_) (fun h => ?_)) | (with_reducible refine sxGuardB_fsp (fun h => ?_) (fun h => ?_)) | (with_reducible refine sxIfB_sp (fun h => ?_) (fun h => ?_)) | simp only [↓sxC_skip, ↓sxC_draw, ↓sxC_region, ↓sxC_seq, ↓bxC_cond, ↓bxC_loop, ↓sxC_block, ↓sxC_exit, ↓sxC_goto, ↓sxC_ret, ↓sxOps_nil, ↓sxOps_cons, ↓sxDraw_nil, ↓bxDraw_cons, ↓sxDL_move, ↓sxDL_assign, ↓sxDL_pick, ↓sxDL_alloc, ↓sxDL_box, ↓sxDL_build, ↓sxDL_buildSlice, ↓sxDL_insert, ↓sxDL_load, ↓sxDL_nilCheck, ↓sxDL_binOp, ↓sxDL_unOp, ↓sxDL_convert, ↓sxDL_makeInterface, ↓sxDL_makeFunc, ↓sxDL_makeMap, ↓sxDL_makeSlice, ↓sxDL_slice, ↓sxDL_fieldAddr, ↓sxDL_field, ↓sxDL_indexAddr, ↓sxDL_index, ↓sxDL_typeAssert, ↓sxDL_extract, ↓sxDL_call, ↓sxDL_lookup, ↓sxDL_mapUpdate, ↓sxDL_range, ↓sxDL_next, ↓sxDL_entry, ↓sxDL_mapEntry, ↓sxDL_entryStore, ↓sxD_same, ↓sxStep_none, ↓bxStep_some, ↓bxOp_move, ↓bxOp_assign, ↓bxOp_pick, ↓bxOp_alloc, ↓bxOp_box, ↓bxOp_build, ↓bxOp_buildSlice, ↓bxOp_load, ↓bxOp_store, ↓bxOp_nilCheck, ↓bxOp_bin, ↓bxOp_un, ↓bxOp_makeI, ↓bxOp_makeFunc, ↓bxOp_makeSlice, ↓bxOp_slice, ↓bxOp_fieldAddr, ↓bxOp_field, ↓bxOp_indexAddr, ↓bxOp_index, ↓bxOp_assert, ↓bxOp_extract, ↓bxOp_value, ↓bxOp_len, ↓bxOp_cap, ↓bxOp_append, ↓bxOp_copy, ↓bxOp_max, ↓bxOp_min, ↓bxOp_convert, ↓sxPut_none, ↓bxPut, ↓seqQ_normal, ↓seqQ_exit, ↓seqQ_ret, ↓seqQ_goto, ↓blockQ_normal, ↓blockQ_ret, ↓blockQ_goto, ↓blockQ_exit, ↓loopQ_normal, ↓loopQ_exit, ↓loopQ_ret, ↓loopQ_goto, ↓resQ_normal, ↓resQ_ret, ↓sxRes_nil, ↓sxRes_tmp, ↓bxRes_cell, ↓upd_apply, ↓ev_tmp, ↓ev_const, ↓ev_global, ↓ev_func, ↓dstAt, ↓gval_some, sxOptB_some, sxOptB_ite, mm_max, mm_min, binP_shl, binP_shr, binP_int, intBin, una_not_dec, una_nt, una_nf, una_neg, aPick_true, aPick_false, sxCallVB_fn, sxCallVB_yield, sxGuardB_u, sxGuardB_tt, sxGuardB_tf, sxGuardB_ft, sxGuardB_ff, sxIfB_t, sxIfB_f, packRes_one, packRes_two, List.map_cons, List.map_nil, List.nil_append, List.cons_append, List.append_nil, ↓reduceIte, Nat.reduceEqDiff, Nat.reduceLT, dec_T, dec_F, false_imp, true_and, and_true, true_implies, implies_true, false_and, and_false, true_or, or_true, false_or, or_false, and_self, or_self, read_relow, size_relow, low_relow, relow_relow, aLoad_relow, Nat.add_zero, Nat.mul_one, one1, Option.bind_some, ne_eq, Int.natCast_nonneg, Int.toNat_natCast, not_true_eq_false, not_false_eq_true, Option.map_some, Option.map_none, *, argF, List.getD_cons_zero, List.getD_cons_succ, alQ, Nat.zero_add] | (with_reducible refine sxDL_barE (by assumption) (by decide +kernel) ?_) | (with_reducible refine sxDL_bar (by decide +kernel) ?_) | (with_reducible refine sxD_bar (by decide +kernel) ?_))
      exact ⟨_, _, rfl, qf1, qf2⟩
end Go.Proofs.YtnbhjbelgmkpeaaDoor
