/- Fractions, continued: the quotient; a fraction as a Ratio; of any two ints. -/
import Derived.Test.YtnbhjbelgmkpeaaDoorBL
import Derived.Test.YtnbhjbelgmkpeaaDoorBP
set_option linter.unusedVariables false
set_option linter.unusedSimpArgs false
set_option linter.unusedSectionVars false

namespace Go.Proofs.YtnbhjbelgmkpeaaDoor
open Go Go.AM
set_option maxRecDepth 10000
set_option linter.unusedSimpArgs false

theorem cross_div {n1 d1 n1' d1' n2 d2 n2' d2' : Int} (h1 : n1' * d1 = n1 * d1') (h2 : n2' * d2 = n2 * d2') : (n1' * d2') * (d1 * n2) = (n1 * d2) * (d1' * n2') := by
  calc (n1' * d2') * (d1 * n2) = (n1' * d1) * (n2 * d2') := by ac_rfl
    _ = (n1 * d1') * (n2' * d2) := by rw [h1, h2]
    _ = (n1 * d2) * (d1' * n2') := by ac_rfl
/-- Lowest terms are the only ones. -/
theorem low_eq {n d n' d' : Int} (hd : 0 < d) (hc : n.natAbs.gcd d.natAbs = 1) (hd' : 0 < d') (hc' : n'.natAbs.gcd d'.natAbs = 1) (h : n' * d = n * d') : n' = n ∧ d' = d := by
  have a := (low_le hd hd' hc' h).1
  have b := (low_le hd' hd hc h.symm).1
  obtain rfl : d' = d := by omega
  exact ⟨Int.eq_of_mul_eq_mul_right (by omega) h, rfl⟩
theorem QV.low {H : Heap} {v : Value} {n d : Int} (h : QV H v n d) (hd : 0 < d) (hc : n.natAbs.gcd d.natAbs = 1) : QIs H v n d 400 := by
  obtain ⟨n', d', q, h1, h2, h3⟩ := h
  obtain ⟨rfl, rfl⟩ := low_eq hd hc h1 h2 h3
  exact q

variable {S : AM.Sys} (hS : Only S 10)
include hS

theorem Div_all (v1 v2 : Value) (n1 d1 n2 d2 : Int) (H : Heap) (hg : Grp H) (hL : H.low ≤ H.size) (h1 : QV H v1 n1 d1) (h2 : QV H v2 n2 d2) (z1 : 0 < d1) (z2 : 0 < d2) (b1 : (n1.natAbs : Int) < 10000 ^ 20) (b2 : d1 < 10000 ^ 20) (b3 : (n2.natAbs : Int) < 10000 ^ 20) (b4 : d2 < 10000 ^ 20) (z5 : 0 < n2) : QOut S 84 [v1, v2] H (n1 * d2) (d1 * n2) := by
  suffices h : WCall Tryd.prog S (.fn 84) [v1, v2] H (fun v H' => Keep H H' ∧ Grp H' ∧ QV H' v (n1 * d2) (d1 * n2)) by
    obtain ⟨v, H', hr, h1, h2, h3⟩ := h; exact ⟨H', v, h1, h2, h3, hr⟩
  obtain ⟨m1, e1, ⟨t1, t2, t3, t4, rfl, p1, p2⟩, y1, _, c1⟩ := h1.short z1 b1 b2
  obtain ⟨m2, e2, ⟨t5, t6, t7, t8, rfl, p3, p4⟩, y2, _, c2⟩ := h2.short z2 b3 b4
  have y3 : 0 < m2 := by
    have h := Int.mul_pos z5 y2
    rw [← c2] at h
    exact Int.pos_of_mul_pos_left h z2
  clear b1 b2 b3 b4 h1 h2
  obtain ⟨H1, b1, hK1, hs1, zz1, hr1⟩ := box1 H [t1, t2, t3, t4] 52
  obtain ⟨H2, b2, hK2, hs2, zz2, hr2⟩ := box1 H1 [t5, t6, t7, t8] 52
  obtain ⟨H2r, b3, hK3, hs3, zz3, hr3⟩ := box1 H2 [.bool false, .slice none 0 0, .bool false, .slice none 0 0] 52
  have ow3 : Own H2r H2.size 52 [.bool false, .slice none 0 0, .bool false, .slice none 0 0] := (b3 ▸ Own.new H2 _ _)
  clear zz1 zz2 zz3 hr3
  have lt1 := Nat.lt_of_lt_of_le hs1 (hK2.trans hK3).size
  have lt2 := Nat.lt_of_lt_of_le hs2 hK3.size
  have q0 : H2r.read H.size 0 2 = some [t1, t2] := (hK2.trans hK3).read hs1 (hr1 0 2 (show 0 + 2 ≤ 4 by omega))
  have q1 : H2r.read H.size 2 2 = some [t3, t4] := (hK2.trans hK3).read hs1 (hr1 2 2 (show 2 + 2 ≤ 4 by omega))
  have q2 : H2r.read H1.size 0 2 = some [t5, t6] := hK3.read hs2 (hr2 0 2 (show 0 + 2 ≤ 4 by omega))
  have q3 : H2r.read H1.size 2 2 = some [t7, t8] := hK3.read hs2 (hr2 2 2 (show 2 + 2 ≤ 4 by omega))
  have hK02 := (hK1.trans hK2).trans hK3
  have hL2 := hK02.low hL
  have hg2 := hK02.grp hg
  replace p1 := p1.keep hK02
  replace p2 := p2.keep hK02
  replace p3 := p3.keep hK02
  replace p4 := p4.keep hK02
  have hra := Keep.relowS H2r
  obtain ⟨xa, Haa, Ha, hKa, hLa, fa, ga, bxa⟩ := drawnBig hL2 (Times_runs hS _ _ m1 e2 _ _ (H2r.relow H2r.size) (hra.grp hg2) (Nat.le_refl _) ((p1).keep hra) ((p4).keep hra) (by omega) (by omega))
  have hga := hKa.grp hg2
  have hK2a := hKa
  have q1a := hKa.read lt1 q1
  have q2a := hKa.read lt2 q2
  have hrb := Keep.relowS Ha
  obtain ⟨xb, Hba, Hb, hKb, hLb, fb, gb, bxb⟩ := drawnBig hLa (Times_runs hS _ _ e1 m2 _ _ (Ha.relow Ha.size) (hrb.grp hga) (Nat.le_refl _) ((p2.keep hK2a).keep hrb) ((p3.keep hK2a).keep hrb) (by omega) (by omega))
  have hgb := hKb.grp hga
  have hK2b := hKa.trans hKb
  have hcr := cross_div c1 c2
  have hrz := Keep.relowS Hb
  have hob := lowest_all hS xa xb (m1 * e2) (e1 * m2) _ _ (Hb.relow Hb.size) (hrz.grp hgb) (Nat.le_refl _) (Int.mul_pos y1 y3) ((bxa.keep hKb).keep hrz) ((bxb).keep hrz) (by omega) (by omega)
  have hob' : QOut S 54 [xa, xb] (Hb.relow Hb.size) (n1 * d2) (d1 * n2) := by
    obtain ⟨Hz, vz, k1, k2, k3, k4⟩ := hob
    exact ⟨Hz, vz, k1, k2, k3.as (Int.mul_pos y1 y3) hcr, k4⟩
  obtain ⟨v9, Hm, Hn, Ho, fm, fn, ps, hld, hLn, hK9, hg9, hq9⟩ := endQ (hK02.trans hK2b) (Nat.le_trans hK1.size hK2.size) hLb hg (ow3.keep hK2b) hob'
  have hc1 : (Value.agg ⟨[t1, t2, t3, t4]⟩).cells.toList = [t1, t2, t3, t4] := rfl
  have hc2 : (Value.agg ⟨[t5, t6, t7, t8]⟩).cells.toList = [t5, t6, t7, t8] := rfl
  refine call_of Tryd.func84 rfl (Nat.le_of_ble_eq_true rfl) (hS.no rfl _ _) ?_
  rw [Tryd.ntmps84, Tryd.results84]
  clear p1 p2 p3 p4 ow3 hob hob' c1 c2 hcr bxa bxb
  repeat' (first | (with_reducible refine sxGuardB_tsp (fun h => ?_) (fun h => ?_)) | (with_reducible refine sxGuardB_fsp (fun h => ?_) (fun h => ?_)) | (with_reducible refine sxIfB_sp (fun h => ?_) (fun h => ?_)) | simp only [↓sxC_skip, ↓sxC_draw, ↓sxC_region, ↓sxC_seq, ↓bxC_cond, ↓bxC_loop, ↓sxC_block, ↓sxC_exit, ↓sxC_goto, ↓sxC_ret, ↓sxOps_nil, ↓sxOps_cons, ↓sxDraw_nil, ↓bxDraw_cons, ↓sxDL_move, ↓sxDL_assign, ↓sxDL_pick, ↓sxDL_alloc, ↓sxDL_box, ↓sxDL_build, ↓sxDL_buildSlice, ↓sxDL_insert, ↓sxDL_load, ↓sxDL_nilCheck, ↓sxDL_binOp, ↓sxDL_unOp, ↓sxDL_convert, ↓sxDL_makeInterface, ↓sxDL_makeFunc, ↓sxDL_makeMap, ↓sxDL_makeSlice, ↓sxDL_slice, ↓sxDL_fieldAddr, ↓sxDL_field, ↓sxDL_indexAddr, ↓sxDL_index, ↓sxDL_typeAssert, ↓sxDL_extract, ↓sxDL_call, ↓sxDL_lookup, ↓sxDL_mapUpdate, ↓sxDL_range, ↓sxDL_next, ↓sxDL_entry, ↓sxDL_mapEntry, ↓sxDL_entryStore, ↓sxD_same, ↓sxStep_none, ↓bxStep_some, ↓bxOp_move, ↓bxOp_assign, ↓bxOp_pick, ↓bxOp_alloc, ↓bxOp_box, ↓bxOp_build, ↓bxOp_buildSlice, ↓bxOp_load, ↓bxOp_store, ↓bxOp_nilCheck, ↓bxOp_bin, ↓bxOp_un, ↓bxOp_makeI, ↓bxOp_makeFunc, ↓bxOp_makeSlice, ↓bxOp_slice, ↓bxOp_fieldAddr, ↓bxOp_field, ↓bxOp_indexAddr, ↓bxOp_index, ↓bxOp_assert, ↓bxOp_extract, ↓bxOp_value, ↓bxOp_len, ↓bxOp_cap, ↓bxOp_append, ↓bxOp_copy, ↓bxOp_max, ↓bxOp_min, ↓bxOp_convert, ↓sxPut_none, ↓bxPut, ↓seqQ_normal, ↓seqQ_exit, ↓seqQ_ret, ↓seqQ_goto, ↓blockQ_normal, ↓blockQ_ret, ↓blockQ_goto, ↓blockQ_exit, ↓loopQ_normal, ↓loopQ_exit, ↓loopQ_ret, ↓loopQ_goto, ↓resQ_normal, ↓resQ_ret, ↓sxRes_nil, ↓sxRes_tmp, ↓bxRes_cell, ↓upd_apply, ↓ev_tmp, ↓ev_const, ↓ev_global, ↓ev_func, ↓dstAt, ↓gval_some, sxOptB_some, sxOptB_ite, mm_max, mm_min, binP_shl, binP_shr, binP_int, intBin, una_not_dec, una_nt, una_nf, una_neg, aPick_true, aPick_false, sxCallVB_fn, sxCallVB_yield, sxGuardB_u, sxGuardB_tt, sxGuardB_tf, sxGuardB_ft, sxGuardB_ff, sxIfB_t, sxIfB_f, packRes_one, packRes_two, List.map_cons, List.map_nil, List.nil_append, List.cons_append, List.append_nil, ↓reduceIte, Nat.reduceEqDiff, Nat.reduceLT, dec_T, dec_F, false_imp, true_and, and_true, true_implies, implies_true, false_and, and_false, true_or, or_true, false_or, or_false, and_self, or_self, read_relow, size_relow, low_relow, relow_relow, aLoad_relow, Nat.add_zero, Nat.mul_one, one1, Option.bind_some, ne_eq, Int.natCast_nonneg, Int.toNat_natCast, not_true_eq_false, not_false_eq_true, Option.map_some, Option.map_none, *, argF, List.getD_cons_zero, List.getD_cons_succ, alQ, qaG0, qaG1, ldBig, hc1, hc2, Nat.zero_add] | (with_reducible refine sxDL_bar (by decide +kernel) ?_) | (with_reducible refine sxD_bar (by decide +kernel) ?_))
theorem Frac_any (x y : Int) (H : Heap) (hg : Grp H) (hL : H.low ≤ H.size) (hx : -9223372036854775808 ≤ x ∧ x ≤ 9223372036854775807) (hy : 0 < y) (hy2 : y ≤ 9223372036854775807) : QOut S 25 [.int .i64 x, .int .i64 y] H x y := by
  suffices h : WCall Tryd.prog S (.fn 25) [.int .i64 x, .int .i64 y] H (fun v H' => Keep H H' ∧ Grp H' ∧ QV H' v x y) by
    obtain ⟨v, H', hr, h1, h2, h3⟩ := h; exact ⟨H', v, h1, h2, h3, hr⟩
  obtain ⟨H3, b3, hK3, hs3, zz3, hr3⟩ := box1 H [.bool false, .slice none 0 0, .bool false, .slice none 0 0] 52
  have ow3 : Own H3 H.size 52 [.bool false, .slice none 0 0, .bool false, .slice none 0 0] := (b3 ▸ Own.new H _ _)
  clear zz3 hr3
  have hob := Of_runs hS x H3 (hK3.grp hg) (hK3.low hL) (by omega)
  obtain ⟨H4, vx, hK4, hg4, bx, hR4⟩ := hob
  have f4 := hR4.bx
  have hob5 := Of_runs hS y H4 hg4 ((hK3.trans hK4).low hL) (by omega)
  obtain ⟨H5, vy, hK5, hg5, by', hR5⟩ := hob5
  have f5 := hR5.bx
  have hob6 := lowest_all hS vx vy x y 5 5 H5 hg5 (((hK3.trans hK4).trans hK5).low hL) hy (bx.keep hK5) by' (by omega) (by omega)
  obtain ⟨H6, vq, hK6, hg6, hq, hR6⟩ := hob6
  have f6 := hR6.bx
  have hK36 := (hK4.trans hK5).trans hK6
  obtain ⟨H7, ps, hld, hq7, hkp⟩ := retQV (ow3.keep hK36) hq
  have hK7 := hkp H (hK3.trans hK36) (Nat.le_refl _)
  have hg7 := hK7.grp hg
  refine call_of Tryd.func25 rfl (Nat.le_of_ble_eq_true rfl) (hS.no rfl _ _) ?_
  rw [Tryd.ntmps25, Tryd.results25]
  clear hR4 hR5 hR6 bx by' hq ow3 hkp
  repeat' (first | (with_reducible refine sxGuardB_tsp (fun h => ?_) (fun h => ?_)) | (with_reducible refine sxGuardB_fsp (fun h => ?_) (fun h => ?_)) | (with_reducible refine sxIfB_sp (fun h => ?_) (fun h => ?_)) | simp only [↓sxC_skip, ↓sxC_draw, ↓sxC_region, ↓sxC_seq, ↓bxC_cond, ↓bxC_loop, ↓sxC_block, ↓sxC_exit, ↓sxC_goto, ↓sxC_ret, ↓sxOps_nil, ↓sxOps_cons, ↓sxDraw_nil, ↓bxDraw_cons, ↓sxDL_move, ↓sxDL_assign, ↓sxDL_pick, ↓sxDL_alloc, ↓sxDL_box, ↓sxDL_build, ↓sxDL_buildSlice, ↓sxDL_insert, ↓sxDL_load, ↓sxDL_nilCheck, ↓sxDL_binOp, ↓sxDL_unOp, ↓sxDL_convert, ↓sxDL_makeInterface, ↓sxDL_makeFunc, ↓sxDL_makeMap, ↓sxDL_makeSlice, ↓sxDL_slice, ↓sxDL_fieldAddr, ↓sxDL_field, ↓sxDL_indexAddr, ↓sxDL_index, ↓sxDL_typeAssert, ↓sxDL_extract, ↓sxDL_call, ↓sxDL_lookup, ↓sxDL_mapUpdate, ↓sxDL_range, ↓sxDL_next, ↓sxDL_entry, ↓sxDL_mapEntry, ↓sxDL_entryStore, ↓sxD_same, ↓sxStep_none, ↓bxStep_some, ↓bxOp_move, ↓bxOp_assign, ↓bxOp_pick, ↓bxOp_alloc, ↓bxOp_box, ↓bxOp_build, ↓bxOp_buildSlice, ↓bxOp_load, ↓bxOp_store, ↓bxOp_nilCheck, ↓bxOp_bin, ↓bxOp_un, ↓bxOp_makeI, ↓bxOp_makeFunc, ↓bxOp_makeSlice, ↓bxOp_slice, ↓bxOp_fieldAddr, ↓bxOp_field, ↓bxOp_indexAddr, ↓bxOp_index, ↓bxOp_assert, ↓bxOp_extract, ↓bxOp_value, ↓bxOp_len, ↓bxOp_cap, ↓bxOp_append, ↓bxOp_copy, ↓bxOp_max, ↓bxOp_min, ↓bxOp_convert, ↓sxPut_none, ↓bxPut, ↓seqQ_normal, ↓seqQ_exit, ↓seqQ_ret, ↓seqQ_goto, ↓blockQ_normal, ↓blockQ_ret, ↓blockQ_goto, ↓blockQ_exit, ↓loopQ_normal, ↓loopQ_exit, ↓loopQ_ret, ↓loopQ_goto, ↓resQ_normal, ↓resQ_ret, ↓sxRes_nil, ↓sxRes_tmp, ↓bxRes_cell, ↓upd_apply, ↓ev_tmp, ↓ev_const, ↓ev_global, ↓ev_func, ↓dstAt, ↓gval_some, sxOptB_some, sxOptB_ite, mm_max, mm_min, binP_shl, binP_shr, binP_int, intBin, una_not_dec, una_nt, una_nf, una_neg, aPick_true, aPick_false, sxCallVB_fn, sxCallVB_yield, sxGuardB_u, sxGuardB_tt, sxGuardB_tf, sxGuardB_ft, sxGuardB_ff, sxIfB_t, sxIfB_f, packRes_one, packRes_two, List.map_cons, List.map_nil, List.nil_append, List.cons_append, List.append_nil, ↓reduceIte, Nat.reduceEqDiff, Nat.reduceLT, dec_T, dec_F, false_imp, true_and, and_true, true_implies, implies_true, false_and, and_false, true_or, or_true, false_or, or_false, and_self, or_self, read_relow, size_relow, low_relow, relow_relow, aLoad_relow, Nat.add_zero, Nat.mul_one, one1, Option.bind_some, ne_eq, Int.natCast_nonneg, Int.toNat_natCast, not_true_eq_false, not_false_eq_true, Option.map_some, Option.map_none, *, argF, List.getD_cons_zero, List.getD_cons_succ, lenI, alQ, hld, Nat.zero_add] | (with_reducible refine sxDL_bar (by decide +kernel) ?_) | (with_reducible refine sxD_bar (by decide +kernel) ?_))
end Go.Proofs.YtnbhjbelgmkpeaaDoor
