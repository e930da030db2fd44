/- The plan of the reference, on the canonical machine. -/
import Derived.Test.YtnbhjbelgmkpeaaDoorR4
set_option linter.unusedVariables false
set_option linter.unusedSimpArgs false
set_option linter.unusedSectionVars false

namespace Go.Proofs.YtnbhjbelgmkpeaaDoor
open Go Go.AM
set_option maxRecDepth 10000
set_option linter.unusedSimpArgs false

theorem LstF.otherD {H0 H Ha Hb : Heap} {v : Value} {w : List (Int × Int)} (h : LstF H0 H v w) (g0 : Grp H0) {r : Nat} {e' t : TypeId} {cells : List Value} (ho : Own H r e' cells) {o : Nat} {u : Value} (hs : aStore Tryd.prog (H.relow H.size) t (.pointer (some ⟨r, o, none⟩)) u = some Ha) {l : Nat} (hb : Ha.relow l = Hb) (hsz : Hb.size = H.size) (hk : Keep H0 Hb) : LstF H0 Hb v w := by
  obtain ⟨h1, h2, h3⟩ := h
  subst hb
  refine ⟨hk, hk.grp g0, ?_⟩
  rcases h3 with h3 | ⟨b, r1, hb, hl, ha, hf, hv, hp⟩
  · exact .inl h3
  · have ha' : App (H.relow H.size) b r1 24 2 (flat w) := ⟨ha.get, ha.mem, ha.lt, ha.ge⟩
    have hx := App.other (ho.addr (l := H.size)) hs ha'
    have hy := Full.other (ho.addr (l := H.size)) hs (show Full (H.relow H.size) b (flat w).length from hf)
    exact .inr ⟨b, r1, hb, by rw [hsz]; exact hl, ⟨hx.get, hx.mem, hx.lt, hx.ge⟩, hy, hv, hp⟩
theorem stayC (a b c d : Int) : (a * (1 * c - b * 1)) * (d * c) = (a * (c - b)) * (d * (1 * c)) := by rw [Int.one_mul, Int.mul_one]

variable {S : AM.Sys} (hS : Only S 10)
include hS

theorem rPlan_bad (d l : Int) (H : Heap) (hb : ¬ errT d l = 0) : Runs Tryd.prog S (.fn 21) [.int .i64 d, .int .i64 l] H (.tuple #[.slice none 0 0, .int .i64 (errT d l)]) H := by
  suffices h : WCall Tryd.prog S (.fn 21) [.int .i64 d, .int .i64 l] H (fun v H' => v = .tuple #[.slice none 0 0, .int .i64 (errT d l)] ∧ H' = H) by
    obtain ⟨_, _, hr, rfl, rfl⟩ := h; exact hr
  have f1 := (rdays_runs hS d l H).bx
  by_cases hin : inDays d l
  · have h0 : d = 0 := Classical.byContradiction fun h => hb (by unfold errT; rw [if_pos hin, if_neg h])
    subst h0
    rw [rtdZ l hin]
    rw [decide_eq_true (show ((0 : Int) ≤ 0 ∧ (0 : Int) ≤ 14) ∧ (0 ≤ l ∧ l ≤ 14) from hin)] at f1
    clear hb hin
    refine call_of Tryd.func21 rfl (Nat.le_of_ble_eq_true rfl) (hS.no rfl _ _) ?_
    rw [Tryd.ntmps21, Tryd.results21]
    repeat' (first | (with_reducible refine sxGuardB_tsp (fun h => ?_) (fun h => ?_)) | (with_reducible refine sxGuardB_fsp (fun h => ?_) (fun h => ?_)) | (with_reducible refine sxIfB_sp (fun h => ?_) (fun h => ?_)) | simp only [↓sxC_skip, ↓sxC_draw, ↓sxC_region, ↓sxC_seq, ↓bxC_cond, ↓bxC_loop, ↓sxC_block, ↓sxC_exit, ↓sxC_goto, ↓sxC_ret, ↓sxOps_nil, ↓sxOps_cons, ↓sxDraw_nil, ↓bxDraw_cons, ↓sxDL_move, ↓sxDL_assign, ↓sxDL_pick, ↓sxDL_alloc, ↓sxDL_box, ↓sxDL_build, ↓sxDL_buildSlice, ↓sxDL_insert, ↓sxDL_load, ↓sxDL_nilCheck, ↓sxDL_binOp, ↓sxDL_unOp, ↓sxDL_convert, ↓sxDL_makeInterface, ↓sxDL_makeFunc, ↓sxDL_makeMap, ↓sxDL_makeSlice, ↓sxDL_slice, ↓sxDL_fieldAddr, ↓sxDL_field, ↓sxDL_indexAddr, ↓sxDL_index, ↓sxDL_typeAssert, ↓sxDL_extract, ↓sxDL_call, ↓sxDL_lookup, ↓sxDL_mapUpdate, ↓sxDL_range, ↓sxDL_next, ↓sxDL_entry, ↓sxDL_mapEntry, ↓sxDL_entryStore, ↓sxD_same, ↓sxStep_none, ↓bxStep_some, ↓bxOp_move, ↓bxOp_assign, ↓bxOp_pick, ↓bxOp_alloc, ↓bxOp_box, ↓bxOp_build, ↓bxOp_buildSlice, ↓bxOp_load, ↓bxOp_store, ↓bxOp_nilCheck, ↓bxOp_bin, ↓bxOp_un, ↓bxOp_makeI, ↓bxOp_makeFunc, ↓bxOp_makeSlice, ↓bxOp_slice, ↓bxOp_fieldAddr, ↓bxOp_field, ↓bxOp_indexAddr, ↓bxOp_index, ↓bxOp_assert, ↓bxOp_extract, ↓bxOp_value, ↓bxOp_len, ↓bxOp_cap, ↓bxOp_append, ↓bxOp_copy, ↓bxOp_max, ↓bxOp_min, ↓bxOp_convert, ↓sxPut_none, ↓bxPut, ↓seqQ_normal, ↓seqQ_exit, ↓seqQ_ret, ↓seqQ_goto, ↓blockQ_normal, ↓blockQ_ret, ↓blockQ_goto, ↓blockQ_exit, ↓loopQ_normal, ↓loopQ_exit, ↓loopQ_ret, ↓loopQ_goto, ↓resQ_normal, ↓resQ_ret, ↓sxRes_nil, ↓sxRes_tmp, ↓bxRes_cell, ↓upd_apply, ↓ev_tmp, ↓ev_const, ↓ev_global, ↓ev_func, ↓dstAt, ↓gval_some, sxOptB_some, sxOptB_ite, mm_max, mm_min, binP_shl, binP_shr, binP_int, intBin, una_not_dec, una_nt, una_nf, una_neg, aPick_true, aPick_false, sxCallVB_fn, sxCallVB_yield, sxGuardB_u, sxGuardB_tt, sxGuardB_tf, sxGuardB_ft, sxGuardB_ff, sxIfB_t, sxIfB_f, packRes_one, packRes_two, List.map_cons, List.map_nil, List.nil_append, List.cons_append, List.append_nil, ↓reduceIte, Nat.reduceEqDiff, Nat.reduceLT, dec_T, dec_F, false_imp, true_and, and_true, true_implies, implies_true, false_and, and_false, true_or, or_true, false_or, or_false, and_self, or_self, read_relow, size_relow, low_relow, relow_relow, aLoad_relow, Nat.add_zero, Nat.mul_one, one1, Option.bind_some, ne_eq, Int.natCast_nonneg, Int.toNat_natCast, not_true_eq_false, not_false_eq_true, Option.map_some, Option.map_none, *, argF, List.getD_cons_zero, List.getD_cons_succ] | (with_reducible refine sxDL_barE (by assumption) (by decide +kernel) ?_) | (with_reducible refine sxDL_bar (by decide +kernel) ?_) | (with_reducible refine sxD_bar (by decide +kernel) ?_))
  · rw [rtdF d l hin]
    rw [decide_eq_false (show ¬ ((0 ≤ d ∧ d ≤ 14) ∧ (0 ≤ l ∧ l ≤ 14)) from hin)] at f1
    clear hb hin
    refine call_of Tryd.func21 rfl (Nat.le_of_ble_eq_true rfl) (hS.no rfl _ _) ?_
    rw [Tryd.ntmps21, Tryd.results21]
    repeat' (first | (with_reducible refine sxGuardB_tsp (fun h => ?_) (fun h => ?_)) | (with_reducible refine sxGuardB_fsp (fun h => ?_) (fun h => ?_)) | (with_reducible refine sxIfB_sp (fun h => ?_) (fun h => ?_)) | simp only [↓sxC_skip, ↓sxC_draw, ↓sxC_region, ↓sxC_seq, ↓bxC_cond, ↓bxC_loop, ↓sxC_block, ↓sxC_exit, ↓sxC_goto, ↓sxC_ret, ↓sxOps_nil, ↓sxOps_cons, ↓sxDraw_nil, ↓bxDraw_cons, ↓sxDL_move, ↓sxDL_assign, ↓sxDL_pick, ↓sxDL_alloc, ↓sxDL_box, ↓sxDL_build, ↓sxDL_buildSlice, ↓sxDL_insert, ↓sxDL_load, ↓sxDL_nilCheck, ↓sxDL_binOp, ↓sxDL_unOp, ↓sxDL_convert, ↓sxDL_makeInterface, ↓sxDL_makeFunc, ↓sxDL_makeMap, ↓sxDL_makeSlice, ↓sxDL_slice, ↓sxDL_fieldAddr, ↓sxDL_field, ↓sxDL_indexAddr, ↓sxDL_index, ↓sxDL_typeAssert, ↓sxDL_extract, ↓sxDL_call, ↓sxDL_lookup, ↓sxDL_mapUpdate, ↓sxDL_range, ↓sxDL_next, ↓sxDL_entry, ↓sxDL_mapEntry, ↓sxDL_entryStore, ↓sxD_same, ↓sxStep_none, ↓bxStep_some, ↓bxOp_move, ↓bxOp_assign, ↓bxOp_pick, ↓bxOp_alloc, ↓bxOp_box, ↓bxOp_build, ↓bxOp_buildSlice, ↓bxOp_load, ↓bxOp_store, ↓bxOp_nilCheck, ↓bxOp_bin, ↓bxOp_un, ↓bxOp_makeI, ↓bxOp_makeFunc, ↓bxOp_makeSlice, ↓bxOp_slice, ↓bxOp_fieldAddr, ↓bxOp_field, ↓bxOp_indexAddr, ↓bxOp_index, ↓bxOp_assert, ↓bxOp_extract, ↓bxOp_value, ↓bxOp_len, ↓bxOp_cap, ↓bxOp_append, ↓bxOp_copy, ↓bxOp_max, ↓bxOp_min, ↓bxOp_convert, ↓sxPut_none, ↓bxPut, ↓seqQ_normal, ↓seqQ_exit, ↓seqQ_ret, ↓seqQ_goto, ↓blockQ_normal, ↓blockQ_ret, ↓blockQ_goto, ↓blockQ_exit, ↓loopQ_normal, ↓loopQ_exit, ↓loopQ_ret, ↓loopQ_goto, ↓resQ_normal, ↓resQ_ret, ↓sxRes_nil, ↓sxRes_tmp, ↓bxRes_cell, ↓upd_apply, ↓ev_tmp, ↓ev_const, ↓ev_global, ↓ev_func, ↓dstAt, ↓gval_some, sxOptB_some, sxOptB_ite, mm_max, mm_min, binP_shl, binP_shr, binP_int, intBin, una_not_dec, una_nt, una_nf, una_neg, aPick_true, aPick_false, sxCallVB_fn, sxCallVB_yield, sxGuardB_u, sxGuardB_tt, sxGuardB_tf, sxGuardB_ft, sxGuardB_ff, sxIfB_t, sxIfB_f, packRes_one, packRes_two, List.map_cons, List.map_nil, List.nil_append, List.cons_append, List.append_nil, ↓reduceIte, Nat.reduceEqDiff, Nat.reduceLT, dec_T, dec_F, false_imp, true_and, and_true, true_implies, implies_true, false_and, and_false, true_or, or_true, false_or, or_false, and_self, or_self, read_relow, size_relow, low_relow, relow_relow, aLoad_relow, Nat.add_zero, Nat.mul_one, one1, Option.bind_some, ne_eq, Int.natCast_nonneg, Int.toNat_natCast, not_true_eq_false, not_false_eq_true, Option.map_some, Option.map_none, *, argF, List.getD_cons_zero, List.getD_cons_succ] | (with_reducible refine sxDL_barE (by assumption) (by decide +kernel) ?_) | (with_reducible refine sxDL_bar (by decide +kernel) ?_) | (with_reducible refine sxD_bar (by decide +kernel) ?_))

theorem rPlan_good (d l : Nat) (H : Heap) (hd : d ≤ 14) (hl : l ≤ 14) (h0 : 0 < d) (hg : Grp H) (hL : H.low ≤ H.size) : ∃ H' v, LstR H H' v (planC d l) ∧ Runs Tryd.prog S (.fn 21) [.int .i64 d, .int .i64 l] H (.tuple #[v, .int .i64 0]) H' := by
  suffices h : WCall Tryd.prog S (.fn 21) [.int .i64 d, .int .i64 l] H (fun x H' => ∃ v, x = .tuple #[v, .int .i64 0] ∧ LstR H H' v (planC d l)) by
    obtain ⟨_, H', hr, v, rfl, hk⟩ := h; exact ⟨H', v, hk, hr⟩
  have f1 := (rdays_runs hS d l H).bx
  rw [decide_eq_true (show ((0 : Int) ≤ d ∧ (d : Int) ≤ 14) ∧ ((0 : Int) ≤ l ∧ (l : Int) ≤ 14) by omega)] at f1
  have o1 : okF 1 (1, 1) := okF_small (by decide) (by decide)
  obtain ⟨H1, v1, k1, g1, q1, R1⟩ := FracP hS 1 1 H hg hL (o1.mono (by decide))
  have f2 := R1.bx
  obtain ⟨H2, e2, k2, z2, ow2⟩ := allocQ H1
  obtain ⟨H3, p3, z3, ow3, qq3, o3, kk3⟩ := storeQ ow2 QShape.empty (q1.keep k2)
  have k3 := kk3 H (k1.trans k2) k1.size
  have q3 := qq3 _ _ _ (q1.keep k2)
  have hok0 := all15_at planOk_all hd hl
  have hn0 : ¬ (d : Int) = 0 := by omega
  have hlen := planC_len d l
  have hlen2 : (planC d l).length ≤ 14 := by omega
  clear ow2 z3 z2 qq3 o3 kk3 R1 q1 hlen
  refine call_of Tryd.func21 rfl (Nat.le_of_ble_eq_true rfl) (hS.no rfl _ _) ?_
  rw [Tryd.ntmps21, Tryd.results21]
  repeat' (first | (with_reducible refine sxGuardB_tsp (fun h => ?_) (fun h => ?_)) | (with_reducible refine sxGuardB_fsp (fun h => ?_) (fun h => ?_)) | (with_reducible refine sxIfB_sp (fun h => ?_) (fun h => ?_)) | simp only [↓sxC_skip, ↓sxC_draw, ↓sxC_region, ↓sxC_seq, ↓bxC_cond, ↓bxC_loop, ↓sxC_block, ↓sxC_exit, ↓sxC_goto, ↓sxC_ret, ↓sxOps_nil, ↓sxOps_cons, ↓sxDraw_nil, ↓bxDraw_cons, ↓sxDL_move, ↓sxDL_assign, ↓sxDL_pick, ↓sxDL_alloc, ↓sxDL_box, ↓sxDL_build, ↓sxDL_buildSlice, ↓sxDL_insert, ↓sxDL_load, ↓sxDL_nilCheck, ↓sxDL_binOp, ↓sxDL_unOp, ↓sxDL_convert, ↓sxDL_makeInterface, ↓sxDL_makeFunc, ↓sxDL_makeMap, ↓sxDL_makeSlice, ↓sxDL_slice, ↓sxDL_fieldAddr, ↓sxDL_field, ↓sxDL_indexAddr, ↓sxDL_index, ↓sxDL_typeAssert, ↓sxDL_extract, ↓sxDL_call, ↓sxDL_lookup, ↓sxDL_mapUpdate, ↓sxDL_range, ↓sxDL_next, ↓sxDL_entry, ↓sxDL_mapEntry, ↓sxDL_entryStore, ↓sxD_same, ↓sxStep_none, ↓bxStep_some, ↓bxOp_move, ↓bxOp_assign, ↓bxOp_pick, ↓bxOp_alloc, ↓bxOp_box, ↓bxOp_build, ↓bxOp_buildSlice, ↓bxOp_load, ↓bxOp_store, ↓bxOp_nilCheck, ↓bxOp_bin, ↓bxOp_un, ↓bxOp_makeI, ↓bxOp_makeFunc, ↓bxOp_makeSlice, ↓bxOp_slice, ↓bxOp_fieldAddr, ↓bxOp_field, ↓bxOp_indexAddr, ↓bxOp_index, ↓bxOp_assert, ↓bxOp_extract, ↓bxOp_value, ↓bxOp_len, ↓bxOp_cap, ↓bxOp_append, ↓bxOp_copy, ↓bxOp_max, ↓bxOp_min, ↓bxOp_convert, ↓sxPut_none, ↓bxPut, ↓seqQ_normal, ↓seqQ_exit, ↓seqQ_ret, ↓seqQ_goto, ↓blockQ_normal, ↓blockQ_ret, ↓blockQ_goto, ↓blockQ_exit, ↓loopQ_normal, ↓loopQ_exit, ↓loopQ_ret, ↓loopQ_goto, ↓resQ_normal, ↓resQ_ret, ↓sxRes_nil, ↓sxRes_tmp, ↓bxRes_cell, ↓upd_apply, ↓ev_tmp, ↓ev_const, ↓ev_global, ↓ev_func, ↓dstAt, ↓gval_some, sxOptB_some, sxOptB_ite, mm_max, mm_min, binP_shl, binP_shr, binP_int, intBin, una_not_dec, una_nt, una_nf, una_neg, aPick_true, aPick_false, sxCallVB_fn, sxCallVB_yield, sxGuardB_u, sxGuardB_tt, sxGuardB_tf, sxGuardB_ft, sxGuardB_ff, sxIfB_t, sxIfB_f, packRes_one, packRes_two, List.map_cons, List.map_nil, List.nil_append, List.cons_append, List.append_nil, ↓reduceIte, Nat.reduceEqDiff, Nat.reduceLT, dec_T, dec_F, false_imp, true_and, and_true, true_implies, implies_true, false_and, and_false, true_or, or_true, false_or, or_false, and_self, or_self, read_relow, size_relow, low_relow, relow_relow, aLoad_relow, Nat.add_zero, Nat.mul_one, one1, Option.bind_some, ne_eq, Int.natCast_nonneg, Int.toNat_natCast, not_true_eq_false, not_false_eq_true, Option.map_some, Option.map_none, *, argF, List.getD_cons_zero, List.getD_cons_succ, alQ, Nat.zero_add] | (with_reducible refine sxDL_barE (by assumption) (by decide +kernel) ?_) | (with_reducible refine sxDL_bar (by decide +kernel) ?_) | (with_reducible refine sxD_bar (by decide +kernel) ?_))
  clear f1 f2 e2 p3 hn0
  refine sxL_of (fun m ρ Hc => ∃ (st : Int × Int) (sv v : Value) (w : List (Int × Int)), m ≤ d ∧ planOk l m st = true ∧ w ++ planFrom l m st = planC d l ∧ LstF H Hc v w ∧ Own Hc H1.size 52 sv.cells.toList ∧ PV Hc sv st ∧
      ρ 0 = .int .i64 m ∧ ρ 1 = .int .i64 l ∧ ρ 6 = .pointer (some ⟨H1.size, 0, none⟩) ∧ ρ 7 = v) (n := d)
    ⟨(1, 1), v1, _, [], Nat.le_refl _, hok0, rfl, LstF.nil k3 (k3.grp hg), ow3, q3, rfl, rfl, rfl, rfl⟩ ?_
  rintro m ρ Hc ⟨st, sv, v, w, hm, hok, hw, ls, owc, qc, e0, e1, e6, e7⟩
  refine shield fun P hP => ?_
  clear hok0 ow3 q3
  cases m with
  | zero =>
    have hc : ¬ (0 : Int) < ((0 : Nat) : Int) := by omega
    have hw' : w = planC d l := by rw [← hw]; exact (List.append_nil w).symm
    rw [hw'] at ls
    have lsr := ls.lst
    clear hw hw' hok ls owc qc hlen2
    subst hP
    repeat' (first | (with_reducible refine sxGuardB_tsp (fun h => ?_) (fun h => ?_)) | (with_reducible refine sxGuardB_fsp (fun h => ?_) (fun h => ?_)) | (with_reducible refine sxIfB_sp (fun h => ?_) (fun h => ?_)) | simp only [↓sxC_skip, ↓sxC_draw, ↓sxC_region, ↓sxC_seq, ↓bxC_cond, ↓bxC_loop, ↓sxC_block, ↓sxC_exit, ↓sxC_goto, ↓sxC_ret, ↓sxOps_nil, ↓sxOps_cons, ↓sxDraw_nil, ↓bxDraw_cons, ↓sxDL_move, ↓sxDL_assign, ↓sxDL_pick, ↓sxDL_alloc, ↓sxDL_box, ↓sxDL_build, ↓sxDL_buildSlice, ↓sxDL_insert, ↓sxDL_load, ↓sxDL_nilCheck, ↓sxDL_binOp, ↓sxDL_unOp, ↓sxDL_convert, ↓sxDL_makeInterface, ↓sxDL_makeFunc, ↓sxDL_makeMap, ↓sxDL_makeSlice, ↓sxDL_slice, ↓sxDL_fieldAddr, ↓sxDL_field, ↓sxDL_indexAddr, ↓sxDL_index, ↓sxDL_typeAssert, ↓sxDL_extract, ↓sxDL_call, ↓sxDL_lookup, ↓sxDL_mapUpdate, ↓sxDL_range, ↓sxDL_next, ↓sxDL_entry, ↓sxDL_mapEntry, ↓sxDL_entryStore, ↓sxD_same, ↓sxStep_none, ↓bxStep_some, ↓bxOp_move, ↓bxOp_assign, ↓bxOp_pick, ↓bxOp_alloc, ↓bxOp_box, ↓bxOp_build, ↓bxOp_buildSlice, ↓bxOp_load, ↓bxOp_store, ↓bxOp_nilCheck, ↓bxOp_bin, ↓bxOp_un, ↓bxOp_makeI, ↓bxOp_makeFunc, ↓bxOp_makeSlice, ↓bxOp_slice, ↓bxOp_fieldAddr, ↓bxOp_field, ↓bxOp_indexAddr, ↓bxOp_index, ↓bxOp_assert, ↓bxOp_extract, ↓bxOp_value, ↓bxOp_len, ↓bxOp_cap, ↓bxOp_append, ↓bxOp_copy, ↓bxOp_max, ↓bxOp_min, ↓bxOp_convert, ↓sxPut_none, ↓bxPut, ↓seqQ_normal, ↓seqQ_exit, ↓seqQ_ret, ↓seqQ_goto, ↓blockQ_normal, ↓blockQ_ret, ↓blockQ_goto, ↓blockQ_exit, ↓loopQ_normal, ↓loopQ_exit, ↓loopQ_ret, ↓loopQ_goto, ↓resQ_normal, ↓resQ_ret, ↓sxRes_nil, ↓sxRes_tmp, ↓bxRes_cell, ↓upd_apply, ↓ev_tmp, ↓ev_const, ↓ev_global, ↓ev_func, ↓dstAt, ↓gval_some, sxOptB_some, sxOptB_ite, mm_max, mm_min, binP_shl, binP_shr, binP_int, intBin, una_not_dec, una_nt, una_nf, una_neg, aPick_true, aPick_false, sxCallVB_fn, sxCallVB_yield, sxGuardB_u, sxGuardB_tt, sxGuardB_tf, sxGuardB_ft, sxGuardB_ff, sxIfB_t, sxIfB_f, packRes_one, packRes_two, List.map_cons, List.map_nil, List.nil_append, List.cons_append, List.append_nil, ↓reduceIte, Nat.reduceEqDiff, Nat.reduceLT, dec_T, dec_F, false_imp, true_and, and_true, true_implies, implies_true, false_and, and_false, true_or, or_true, false_or, or_false, and_self, or_self, read_relow, size_relow, low_relow, relow_relow, aLoad_relow, Nat.add_zero, Nat.mul_one, one1, Option.bind_some, ne_eq, Int.natCast_nonneg, Int.toNat_natCast, not_true_eq_false, not_false_eq_true, Option.map_some, Option.map_none, *] | (with_reducible refine sxDL_barE (by assumption) (by decide +kernel) ?_) | (with_reducible refine sxDL_bar (by decide +kernel) ?_) | (with_reducible refine sxD_bar (by decide +kernel) ?_))
    exact ⟨_, rfl, lsr⟩
  | succ m =>
    have hc : (0 : Int) < ((m + 1 : Nat) : Int) := by omega
    obtain ⟨-, -, -, hgo, -⟩ := dayC_facts (d := m + 1) (l := l) (by omega) hl
    obtain ⟨i1, i2, i3, i4, -⟩ := isPart_iff hgo
    have og := okF_part hgo (by decide)
    have hok' := hok
    unfold planOk at hok'
    simp only [Bool.and_eq_true, decide_eq_true_eq] at hok'
    obtain ⟨⟨⟨o2, o3, o4, o5⟩, o6⟩, o7⟩ := hok'
    have os := okF_state ⟨o2, o3, o4, o5⟩
    have hwn : planFrom l (m + 1) st = rat (st.1 * (dayC (m + 1) l).2.2.1) (st.2 * (dayC (m + 1) l).2.2.2) :: planFrom l m (rat (st.1 * ((dayC (m + 1) l).2.2.2 - (dayC (m + 1) l).2.2.1)) (st.2 * (dayC (m + 1) l).2.2.2)) := rfl
    have k0c := ls.1
    have lc := k0c.low hL
    have gc := ls.2.1
    obtain ⟨H5, va, vb, k5, g5, qa, qb, R5⟩ := rtoday_runs hS (m + 1) l Hc (by omega) hl gc lc
    have f5 := R5.bx
    have hlw : w.length < 268435456 := by
      have := congrArg List.length hw
      rw [List.length_append] at this
      omega
    generalize (dayC (m + 1) l).2.2 = go at *
    obtain ⟨H6, e6', k6, z6, ow6⟩ := allocQ H5
    obtain ⟨H7, e7', k7, z7, ow7⟩ := allocQ H6
    have k57 := k6.trans k7
    obtain ⟨H8, p8, z8, ow8, qq8, o8, kk8⟩ := storeQ (ow6.keep k7) QShape.empty (qa.keep k57)
    have kc8 := kk8 Hc (k5.trans k57) k5.size
    obtain ⟨H9, p9, z9, ow9, qq9, o9, kk9⟩ := storeQ (o8 _ _ _ (by omega) ow7) QShape.empty (qq8 _ _ _ (qb.keep k57))
    have kc9 := kk9 Hc kc8 (Nat.le_trans k5.size k6.size)
    have qb9 := qq9 _ _ _ (qq8 _ _ _ (qb.keep k57))
    have k09 := k0c.trans kc9
    have ld9a := own_ldQ (owc.keep kc9) (qc.keep kc9)
    have ld9b := own_ldQ ow9 qb9
    obtain ⟨H10, vm, k10, g10, q10, R10⟩ := MulP hS sv vb st go H9 (k09.grp hg) (k09.low hL) (qc.keep kc9) qb9 os og (by decide) (by decide)
    have f10 := R10.bx
    have hP2 : 1 ≤ st.2 * go.2 := Int.mul_pos (by omega) (by omega)
    have hP1 : 0 ≤ st.1 * go.1 ∧ st.1 * go.1 ≤ st.2 * go.2 := ⟨Int.mul_nonneg o2 i1, Int.mul_le_mul o3 i2 i1 (by omega)⟩
    have k010 := k09.trans k10
    obtain ⟨H11, k11, R11⟩ := rratio_runs hS vm (qmul st go) H10 g10 (k010.low hL) q10 (show 0 < st.2 * go.2 by omega) (show st.2 * go.2 ≤ 1152921504606846976 ∧ ((st.1 * go.1).natAbs : Int) ≤ 1152921504606846976 by omega)
    have R11' : Runs Tryd.prog S (.fn 47) [vm] H10 (ratioV (rat (st.1 * go.1) (st.2 * go.2))) H11 := R11
    have f11 := R11'.bx
    unfold ratioV at f11
    have kc11 := (kc9.trans k10).trans k11
    have k911 := k10.trans k11
    obtain ⟨v2, H12, p12, ls12, o12, rw12⟩ := LstF.push hg (ls.on kc11) hlw (rat (st.1 * go.1) (st.2 * go.2))
    have owc12 := o12 _ _ _ (owc.keep kc11)
    have ow912 := o12 _ _ _ (ow9.keep k911)
    have qc12 := QV.rows2 (qc.keep kc11) rw12
    have qb12 := QV.rows2 (qb9.keep k911) rw12
    have l12 := ls12.1.low hL
    have g12 := ls12.2.1
    have ld12 := own_ldQ owc12 qc12
    obtain ⟨w1, H13', H13, k13, l13, f13, d13, q13⟩ := drawnQ l12 (FracP hS 1 1 (H12.relow H12.size) ((Keep.relowS H12).grp g12) (Nat.le_refl _) (o1.mono (by decide)))
    have g13 := k13.grp g12
    have ld13 := own_ldQ (ow912.keep k13) (qb12.keep k13)
    obtain ⟨w2, H14', H14, k14, l14, f14, d14, q14⟩ := drawnQ l13 (SubP hS w1 vb (1, 1) go (H13.relow H13.size) ((Keep.relowS H13).grp g13) (Nat.le_refl _) (q13.keep (Keep.relowS H13)) ((qb12.keep k13).keep (Keep.relowS H13)) o1 og (by decide) (by decide))
    have g14 := k14.grp g13
    have k1214 := k13.trans k14
    have hmul := MulP hS sv w2 st (qsub (1, 1) go) (H14.relow H14.size) ((Keep.relowS H14).grp g14) (Nat.le_refl _) ((qc12.keep k1214).keep (Keep.relowS H14)) (q14.keep (Keep.relowS H14)) os (o1.sub og) (by decide) (by decide)
    have hmul2 : QOut S 28 [sv, w2] (H14.relow H14.size) (rat (st.1 * (go.2 - go.1)) (st.2 * go.2)).1 (rat (st.1 * (go.2 - go.1)) (st.2 * go.2)).2 :=
      hmul.rt2 (os.mul (o1.sub og)).1 (show 0 < st.2 * go.2 by omega) (stayC st.1 go.1 go.2 st.2)
    obtain ⟨w3, H15', H15, k15, l15, f15, d15, q15⟩ := drawnQ l14 hmul2
    have k1215 := k1214.trans k15
    obtain ⟨H16', H16, p16, y16, k16, z16, l16, ow16, qq16, -⟩ := storeQD (ls12.1.trans k1215) k1.size l15 (owc12.keep k1215) qc12.shape.2 q15
    have ls16 := (ls12.on k1215).otherD hg (owc12.keep k1215) p16 y16 z16 k16
    have q16 := qq16 _ _ _ q15
    have hw2 : (w ++ [rat (st.1 * go.1) (st.2 * go.2)]) ++ planFrom l m (rat (st.1 * (go.2 - go.1)) (st.2 * go.2)) = planC d l := by rw [← hw, hwn, List.append_assoc]; rfl
    have w5 : IntKind.i64.wrap (((m + 1 : Nat) : Int) - 1) = (m : Int) := by rw [IntWalk.i64_in _ (by omega)]; omega
    clear R5 R10 R11 R11' owc ow6 ow7 ow8 ow9 owc12 ow912 qa qb qb9 qc qc12 qb12 q10 q13 q14 q15 hmul hmul2 ls ls12 o8 o9 o12 qq8 qq9 qq16 kk8 kk9 rw12 z6 z7 z8 z9 z16 hok hlen2 hlw hw hwn i1 i2 i3 i4 o1 o2 o3 o4 o5 o6 os og hP1 hP2 hgo
    generalize rat (st.1 * go.1) (st.2 * go.2) = x at *
    generalize rat (st.1 * (go.2 - go.1)) (st.2 * go.2) = st' at *
    subst hP
    repeat' (first | (with_reducible refine sxGuardB_tsp (fun h => ?_) (fun h => ?_)) | (with_reducible refine sxGuardB_fsp (fun h => ?_) (fun h => ?_)) | (with_reducible refine sxIfB_sp (fun h => ?_) (fun h => ?_)) | simp only [↓sxC_skip, ↓sxC_draw, ↓sxC_region, ↓sxC_seq, ↓bxC_cond, ↓bxC_loop, ↓sxC_block, ↓sxC_exit, ↓sxC_goto, ↓sxC_ret, ↓sxOps_nil, ↓sxOps_cons, ↓sxDraw_nil, ↓bxDraw_cons, ↓sxDL_move, ↓sxDL_assign, ↓sxDL_pick, ↓sxDL_alloc, ↓sxDL_box, ↓sxDL_build, ↓sxDL_buildSlice, ↓sxDL_insert, ↓sxDL_load, ↓sxDL_nilCheck, ↓sxDL_binOp, ↓sxDL_unOp, ↓sxDL_convert, ↓sxDL_makeInterface, ↓sxDL_makeFunc, ↓sxDL_makeMap, ↓sxDL_makeSlice, ↓sxDL_slice, ↓sxDL_fieldAddr, ↓sxDL_field, ↓sxDL_indexAddr, ↓sxDL_index, ↓sxDL_typeAssert, ↓sxDL_extract, ↓sxDL_call, ↓sxDL_lookup, ↓sxDL_mapUpdate, ↓sxDL_range, ↓sxDL_next, ↓sxDL_entry, ↓sxDL_mapEntry, ↓sxDL_entryStore, ↓sxD_same, ↓sxStep_none, ↓bxStep_some, ↓bxOp_move, ↓bxOp_assign, ↓bxOp_pick, ↓bxOp_alloc, ↓bxOp_box, ↓bxOp_build, ↓bxOp_buildSlice, ↓bxOp_load, ↓bxOp_store, ↓bxOp_nilCheck, ↓bxOp_bin, ↓bxOp_un, ↓bxOp_makeI, ↓bxOp_makeFunc, ↓bxOp_makeSlice, ↓bxOp_slice, ↓bxOp_fieldAddr, ↓bxOp_field, ↓bxOp_indexAddr, ↓bxOp_index, ↓bxOp_assert, ↓bxOp_extract, ↓bxOp_value, ↓bxOp_len, ↓bxOp_cap, ↓bxOp_append, ↓bxOp_copy, ↓bxOp_max, ↓bxOp_min, ↓bxOp_convert, ↓sxPut_none, ↓bxPut, ↓seqQ_normal, ↓seqQ_exit, ↓seqQ_ret, ↓seqQ_goto, ↓blockQ_normal, ↓blockQ_ret, ↓blockQ_goto, ↓blockQ_exit, ↓loopQ_normal, ↓loopQ_exit, ↓loopQ_ret, ↓loopQ_goto, ↓resQ_normal, ↓resQ_ret, ↓sxRes_nil, ↓sxRes_tmp, ↓bxRes_cell, ↓upd_apply, ↓ev_tmp, ↓ev_const, ↓ev_global, ↓ev_func, ↓dstAt, ↓gval_some, sxOptB_some, sxOptB_ite, mm_max, mm_min, binP_shl, binP_shr, binP_int, intBin, una_not_dec, una_nt, una_nf, una_neg, aPick_true, aPick_false, sxCallVB_fn, sxCallVB_yield, sxGuardB_u, sxGuardB_tt, sxGuardB_tf, sxGuardB_ft, sxGuardB_ff, sxIfB_t, sxIfB_f, packRes_one, packRes_two, List.map_cons, List.map_nil, List.nil_append, List.cons_append, List.append_nil, ↓reduceIte, Nat.reduceEqDiff, Nat.reduceLT, dec_T, dec_F, false_imp, true_and, and_true, true_implies, implies_true, false_and, and_false, true_or, or_true, false_or, or_false, and_self, or_self, read_relow, size_relow, low_relow, relow_relow, aLoad_relow, Nat.add_zero, Nat.mul_one, one1, Option.bind_some, ne_eq, Int.natCast_nonneg, Int.toNat_natCast, not_true_eq_false, not_false_eq_true, Option.map_some, Option.map_none, *, alR, alQ, ex20, ex21, bsR, cells2, Nat.zero_add] | (with_reducible refine sxDL_barE (by assumption) (by decide +kernel) ?_) | (with_reducible refine sxDL_bar (by decide +kernel) ?_) | (with_reducible refine sxD_bar (by decide +kernel) ?_))
    exact ⟨m, by omega, st', w3, v2, _, by omega, o7, hw2, ls16, ow16, q16, rfl, rfl⟩
end Go.Proofs.YtnbhjbelgmkpeaaDoor
