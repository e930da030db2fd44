/- Fractions, continued: of two ints. -/
import Derived.Test.YtnbhjbelgmkpeaaDoorBC
set_option linter.unusedVariables false
set_option linter.unusedSimpArgs false
set_option linter.unusedSectionVars false

namespace Go.Proofs.YtnbhjbelgmkpeaaDoor
open Go Go.AM
set_option maxRecDepth 10000
set_option linter.unusedSimpArgs false

/-- A fraction laid into the empty row of a result. -/
theorem retQ {H : Heap} {r : Nat} (h : Own H r 52 [.bool false, .slice none 0 0, .bool false, .slice none 0 0]) {v : Value} {n d : Int} {lo : Nat} (hq : QIs H v n d lo) :
    ∃ H2, aStore Tryd.prog H 52 (.pointer (some ⟨r, 0, none⟩)) v = some H2 ∧ aLoad Tryd.prog H2 52 (.pointer (some ⟨r, 0, none⟩)) = some v ∧ QIs H2 v n d lo ∧ (∀ H0, Keep H0 H → H0.size ≤ r → Keep H0 H2) := by
  obtain ⟨t1, t2, t3, t4, rfl, q1, q2⟩ := hq
  have q1' := q1
  have q2' := q2
  obtain ⟨u1, w1, r1, o1, hu1, s1, _⟩ := q1
  obtain ⟨u2, w2, r2, o2, hu2, s2, _⟩ := q2
  obtain ⟨a1, c1, rfl⟩ := s1.v0
  obtain ⟨a2, c2, rfl⟩ := s2.v0
  cases hu1
  cases hu2
  obtain ⟨H2, ps, q8, hsz, hkp⟩ := stQ h rfl (decide (n < 0)) (decide (d < 0)) a1 a2 w1.length w2.length c1 c2
  exact ⟨H2, ps, by rw [ldQ, q8]; rfl, ⟨_, _, _, _, rfl, BigIs.other h ps hsz q1', BigIs.other h ps hsz q2'⟩, hkp⟩

variable {S : AM.Sys} (hS : Only S 10)
include hS

theorem Frac_runs (x y : Int) (H : Heap) (hg : Grp H) (hL : H.low ≤ H.size) (hx : 0 ≤ x) (hy : 0 < y) (hx2 : x ≤ 9223372036854775807) (hy2 : y ≤ 9223372036854775807) : ∃ H' v, Keep H H' ∧ Grp H' ∧ QIs H' v (x / (Nat.gcd x.toNat y.toNat : Nat)) (y / (Nat.gcd x.toNat y.toNat : Nat)) 400 ∧ Runs Tryd.prog S (.fn 25) [.int .i64 x, .int .i64 y] H v H' := by
  suffices h : WCall Tryd.prog S (.fn 25) [.int .i64 x, .int .i64 y] H (fun v H' => Keep H H' ∧ Grp H' ∧ QIs H' v (x / (Nat.gcd x.toNat y.toNat : Nat)) (y / (Nat.gcd x.toNat y.toNat : Nat)) 400) by
    obtain ⟨v, H', hr, h1, h2, h3⟩ := h; exact ⟨H', v, h1, h2, h3, hr⟩
  obtain ⟨H3, b3, hK3, hs3, zz3, hr3⟩ := box1 H [.bool false, .slice none 0 0, .bool false, .slice none 0 0] 52
  have ow3 : Own H3 H.size 52 [.bool false, .slice none 0 0, .bool false, .slice none 0 0] := (b3 ▸ Own.new H _ _)
  clear zz3 hr3
  have hob := Of_runs hS x H3 (hK3.grp hg) (hK3.low hL) (by omega)
  obtain ⟨H4, vx, hK4, hg4, bx, hR4⟩ := hob
  have f4 := hR4.bx
  have hob5 := Of_runs hS y H4 hg4 ((hK3.trans hK4).low hL) (by omega)
  obtain ⟨H5, vy, hK5, hg5, by', hR5⟩ := hob5
  have f5 := hR5.bx
  have hob6 := lowest_runs hS vx vy x y 5 5 H5 hg5 (((hK3.trans hK4).trans hK5).low hL) hx hy (bx.keep hK5) by' (by omega) (by omega)
  obtain ⟨H6, vq, hK6, hg6, hq, hR6⟩ := hob6
  have f6 := hR6.bx
  have hK36 := (hK4.trans hK5).trans hK6
  obtain ⟨H7, ps, hld, hq7, hkp⟩ := retQ (ow3.keep hK36) hq
  have hK7 := hkp H (hK3.trans hK36) (Nat.le_refl _)
  have hg7 := hK7.grp hg
  refine call_of Tryd.func25 rfl (Nat.le_of_ble_eq_true rfl) (hS.no rfl _ _) ?_
  rw [Tryd.ntmps25, Tryd.results25]
  clear hR4 hR5 hR6 bx by' hq ow3 hkp
  repeat' (first | (with_reducible refine sxGuardB_tsp (fun h => ?_) (fun h => ?_)) | (with_reducible refine sxGuardB_fsp (fun h => ?_) (fun h => ?_)) | (with_reducible refine sxIfB_sp (fun h => ?_) (fun h => ?_)) | simp only [↓sxC_skip, ↓sxC_draw, ↓sxC_region, ↓sxC_seq, ↓bxC_cond, ↓bxC_loop, ↓sxC_block, ↓sxC_exit, ↓sxC_goto, ↓sxC_ret, ↓sxOps_nil, ↓sxOps_cons, ↓sxDraw_nil, ↓bxDraw_cons, ↓sxDL_move, ↓sxDL_assign, ↓sxDL_pick, ↓sxDL_alloc, ↓sxDL_box, ↓sxDL_build, ↓sxDL_buildSlice, ↓sxDL_insert, ↓sxDL_load, ↓sxDL_nilCheck, ↓sxDL_binOp, ↓sxDL_unOp, ↓sxDL_convert, ↓sxDL_makeInterface, ↓sxDL_makeFunc, ↓sxDL_makeMap, ↓sxDL_makeSlice, ↓sxDL_slice, ↓sxDL_fieldAddr, ↓sxDL_field, ↓sxDL_indexAddr, ↓sxDL_index, ↓sxDL_typeAssert, ↓sxDL_extract, ↓sxDL_call, ↓sxDL_lookup, ↓sxDL_mapUpdate, ↓sxDL_range, ↓sxDL_next, ↓sxDL_entry, ↓sxDL_mapEntry, ↓sxDL_entryStore, ↓sxD_same, ↓sxStep_none, ↓bxStep_some, ↓bxOp_move, ↓bxOp_assign, ↓bxOp_pick, ↓bxOp_alloc, ↓bxOp_box, ↓bxOp_build, ↓bxOp_buildSlice, ↓bxOp_load, ↓bxOp_store, ↓bxOp_nilCheck, ↓bxOp_bin, ↓bxOp_un, ↓bxOp_makeI, ↓bxOp_makeFunc, ↓bxOp_makeSlice, ↓bxOp_slice, ↓bxOp_fieldAddr, ↓bxOp_field, ↓bxOp_indexAddr, ↓bxOp_index, ↓bxOp_assert, ↓bxOp_extract, ↓bxOp_value, ↓bxOp_len, ↓bxOp_cap, ↓bxOp_append, ↓bxOp_copy, ↓bxOp_max, ↓bxOp_min, ↓bxOp_convert, ↓sxPut_none, ↓bxPut, ↓seqQ_normal, ↓seqQ_exit, ↓seqQ_ret, ↓seqQ_goto, ↓blockQ_normal, ↓blockQ_ret, ↓blockQ_goto, ↓blockQ_exit, ↓loopQ_normal, ↓loopQ_exit, ↓loopQ_ret, ↓loopQ_goto, ↓resQ_normal, ↓resQ_ret, ↓sxRes_nil, ↓sxRes_tmp, ↓bxRes_cell, ↓upd_apply, ↓ev_tmp, ↓ev_const, ↓ev_global, ↓ev_func, ↓dstAt, ↓gval_some, sxOptB_some, sxOptB_ite, mm_max, mm_min, binP_shl, binP_shr, binP_int, intBin, una_not_dec, una_nt, una_nf, una_neg, aPick_true, aPick_false, sxCallVB_fn, sxCallVB_yield, sxGuardB_u, sxGuardB_tt, sxGuardB_tf, sxGuardB_ft, sxGuardB_ff, sxIfB_t, sxIfB_f, packRes_one, packRes_two, List.map_cons, List.map_nil, List.nil_append, List.cons_append, List.append_nil, ↓reduceIte, Nat.reduceEqDiff, Nat.reduceLT, dec_T, dec_F, false_imp, true_and, and_true, true_implies, implies_true, false_and, and_false, true_or, or_true, false_or, or_false, and_self, or_self, read_relow, size_relow, low_relow, relow_relow, aLoad_relow, Nat.add_zero, Nat.mul_one, one1, Option.bind_some, ne_eq, Int.natCast_nonneg, Int.toNat_natCast, not_true_eq_false, not_false_eq_true, Option.map_some, Option.map_none, *, argF, List.getD_cons_zero, List.getD_cons_succ, lenI, alQ, hld, Nat.zero_add] | (with_reducible refine sxDL_bar (by decide +kernel) ?_) | (with_reducible refine sxD_bar (by decide +kernel) ?_))
end Go.Proofs.YtnbhjbelgmkpeaaDoor
