/- Fractions, continued: the product. -/
import Derived.Test.YtnbhjbelgmkpeaaDoorBE
set_option linter.unusedVariables false
set_option linter.unusedSimpArgs false
set_option linter.unusedSectionVars false

namespace Go.Proofs.YtnbhjbelgmkpeaaDoor
open Go Go.AM
set_option maxRecDepth 10000
set_option linter.unusedSimpArgs false

theorem QIs.addr {H : Heap} {v : Value} {n d : Int} {lo l : Nat} (h : QIs H v n d lo) : QIs (H.relow l) v n d lo := by
  obtain ⟨a, b, c, e, h1, h2, h3⟩ := h
  exact ⟨a, b, c, e, h1, h2.addr, h3.addr⟩

variable {S : AM.Sys} (hS : Only S 10)
include hS

theorem Mul_runs (v1 v2 : Value) (n1 d1 n2 d2 : Int) (lo : Nat) (H : Heap) (hg : Grp H) (hL : H.low ≤ H.size) (h1 : QIs H v1 n1 d1 lo) (h2 : QIs H v2 n2 d2 lo) (hlo : lo ≤ 200) (z1 : 0 ≤ n1) (z2 : 0 ≤ n2) (z3 : 0 < d1) (z4 : 0 < d2) : ∃ H' v, Keep H H' ∧ Grp H' ∧ QIs H' v (n1 * n2 / (Nat.gcd (n1 * n2).toNat (d1 * d2).toNat : Nat)) (d1 * d2 / (Nat.gcd (n1 * n2).toNat (d1 * d2).toNat : Nat)) 400 ∧ Runs Tryd.prog S (.fn 28) [v1, v2] H v H' := by
  suffices h : WCall Tryd.prog S (.fn 28) [v1, v2] H (fun v H' => Keep H H' ∧ Grp H' ∧ QIs H' v (n1 * n2 / (Nat.gcd (n1 * n2).toNat (d1 * d2).toNat : Nat)) (d1 * d2 / (Nat.gcd (n1 * n2).toNat (d1 * d2).toNat : Nat)) 400) by
    obtain ⟨v, H', hr, h1, h2, h3⟩ := h; exact ⟨H', v, h1, h2, h3, hr⟩
  obtain ⟨t1, t2, t3, t4, rfl, p1, p2⟩ := h1
  obtain ⟨t5, t6, t7, t8, rfl, p3, p4⟩ := h2
  obtain ⟨H1, b1, hK1, hs1, zz1, hr1⟩ := box1 H [t1, t2, t3, t4] 52
  obtain ⟨H2, b2, hK2, hs2, zz2, hr2⟩ := box1 H1 [t5, t6, t7, t8] 52
  obtain ⟨H2r, b3, hK3, hs3, zz3, hr3⟩ := box1 H2 [.bool false, .slice none 0 0, .bool false, .slice none 0 0] 52
  have ow3 : Own H2r H2.size 52 [.bool false, .slice none 0 0, .bool false, .slice none 0 0] := (b3 ▸ Own.new H2 _ _)
  clear zz1 zz2 zz3 hr3
  have q0 : H2r.read H.size 0 2 = some [t1, t2] := (hK2.trans hK3).read hs1 (hr1 0 2 (show 0 + 2 ≤ 4 by omega))
  have q1 : H2r.read H.size 2 2 = some [t3, t4] := (hK2.trans hK3).read hs1 (hr1 2 2 (show 2 + 2 ≤ 4 by omega))
  have q2 : H2r.read H1.size 0 2 = some [t5, t6] := hK3.read hs2 (hr2 0 2 (show 0 + 2 ≤ 4 by omega))
  have q3 : H2r.read H1.size 2 2 = some [t7, t8] := hK3.read hs2 (hr2 2 2 (show 2 + 2 ≤ 4 by omega))
  have hK02 := (hK1.trans hK2).trans hK3
  have hL2 := hK02.low hL
  have hg2 := hK02.grp hg
  have hrl := Keep.relowS H2r
  have hob := Times_runs hS _ _ n1 n2 lo lo (H2r.relow H2r.size) (hrl.grp hg2) (Nat.le_refl _) ((p1.keep hK02).keep hrl) ((p3.keep hK02).keep hrl) (by omega) (by omega)
  obtain ⟨H3, x1, hK3', hg3, e1, hR3⟩ := hob
  have f3 := hR3.bx
  have hd1 : ∀ (all : List Oper) (n : Nat) (k : Heap → Prop), sxD all n H2r H3 k = k (H3.relow (Nat.min H2r.low H3.low)) := fun all n k => sxD_keep hK3' k
  have hK24 := Keep.draw hK3'
  have e1' := e1.addr (l := Nat.min H2r.low H3.low)
  generalize hH4 : H3.relow (Nat.min H2r.low H3.low) = H4 at *
  have hg4 := hK24.grp hg2
  have hL4 := hK24.low hL2
  have hrl4 := Keep.relowS H4
  have hob2 := Times_runs hS _ _ d1 d2 lo lo (H4.relow H4.size) (hrl4.grp hg4) (Nat.le_refl _) ((p2.keep (hK02.trans hK24)).keep hrl4) ((p4.keep (hK02.trans hK24)).keep hrl4) (by omega) (by omega)
  obtain ⟨H5, x2, hK5, hg5, e2, hR5⟩ := hob2
  have f5 := hR5.bx
  have hd2 : ∀ (all : List Oper) (n : Nat) (k : Heap → Prop), sxD all n H4 H5 k = k (H5.relow (Nat.min H4.low H5.low)) := fun all n k => sxD_keep hK5 k
  have hK46 := Keep.draw hK5
  have e2' := e2.addr (l := Nat.min H4.low H5.low)
  generalize hH6 : H5.relow (Nat.min H4.low H5.low) = H6 at *
  have hg6 := hK46.grp hg4
  have hL6 := hK46.low hL4
  have hrl6 := Keep.relowS H6
  have hob3 := lowest_runs hS x1 x2 (n1 * n2) (d1 * d2) _ _ (H6.relow H6.size) (hrl6.grp hg6) (Nat.le_refl _) (Int.mul_nonneg z1 z2) (Int.mul_pos z3 z4) ((e1'.keep hK46).keep hrl6) (e2'.keep hrl6) (by omega) (by omega)
  obtain ⟨H7, vq, hK7, hg7, hq, hR7⟩ := hob3
  have f7 := hR7.bx
  have hd3 : ∀ (all : List Oper) (n : Nat) (k : Heap → Prop), sxD all n H6 H7 k = k (H7.relow (Nat.min H6.low H7.low)) := fun all n k => sxD_keep hK7 k
  have hK68 := Keep.draw hK7
  have hq8 : QIs (H7.relow (Nat.min H6.low H7.low)) vq _ _ _ := hq.addr
  generalize hH8 : H7.relow (Nat.min H6.low H7.low) = H8 at *
  have hK28 := (hK24.trans hK46).trans hK68
  have hK08 := hK02.trans hK28
  have ow8 := (ow3.keep hK28).addr (l := H8.size)
  obtain ⟨H9, ps, hld, hq9, hkp⟩ := retQ ow8 (hq8.addr (l := H8.size))
  have hK9 := hkp H (hK08.trans (Keep.relowS H8)) (Nat.le_trans hK1.size hK2.size)
  have hK10 := Keep.lower hK08 hK9
  have hg10 := hK10.grp hg
  have hq10 := hq9.addr (l := Nat.min H8.low H9.low)
  have q1' := hK24.read (Nat.lt_of_lt_of_le hs1 (hK2.trans hK3).size) q1
  have q3' := hK24.read (Nat.lt_of_lt_of_le hs2 hK3.size) q3
  have hc1 : (Value.agg ⟨[t1, t2, t3, t4]⟩).cells.toList = [t1, t2, t3, t4] := rfl
  have hc2 : (Value.agg ⟨[t5, t6, t7, t8]⟩).cells.toList = [t5, t6, t7, t8] := rfl
  refine call_of Tryd.func28 rfl (Nat.le_of_ble_eq_true rfl) (hS.no rfl _ _) ?_
  rw [Tryd.ntmps28, Tryd.results28]
  clear hR3 hR5 hR7 hq hq8 hq9 hkp ow3 ow8 p1 p2 p3 p4 e1 e2 e1' e2'
  repeat' (first | (with_reducible refine sxGuardB_tsp (fun h => ?_) (fun h => ?_)) | (with_reducible refine sxGuardB_fsp (fun h => ?_) (fun h => ?_)) | (with_reducible refine sxIfB_sp (fun h => ?_) (fun h => ?_)) | simp only [↓sxC_skip, ↓sxC_draw, ↓sxC_region, ↓sxC_seq, ↓bxC_cond, ↓bxC_loop, ↓sxC_block, ↓sxC_exit, ↓sxC_goto, ↓sxC_ret, ↓sxOps_nil, ↓sxOps_cons, ↓sxDraw_nil, ↓bxDraw_cons, ↓sxDL_move, ↓sxDL_assign, ↓sxDL_pick, ↓sxDL_alloc, ↓sxDL_box, ↓sxDL_build, ↓sxDL_buildSlice, ↓sxDL_insert, ↓sxDL_load, ↓sxDL_nilCheck, ↓sxDL_binOp, ↓sxDL_unOp, ↓sxDL_convert, ↓sxDL_makeInterface, ↓sxDL_makeFunc, ↓sxDL_makeMap, ↓sxDL_makeSlice, ↓sxDL_slice, ↓sxDL_fieldAddr, ↓sxDL_field, ↓sxDL_indexAddr, ↓sxDL_index, ↓sxDL_typeAssert, ↓sxDL_extract, ↓sxDL_call, ↓sxDL_lookup, ↓sxDL_mapUpdate, ↓sxDL_range, ↓sxDL_next, ↓sxDL_entry, ↓sxDL_mapEntry, ↓sxDL_entryStore, ↓sxD_same, ↓sxStep_none, ↓bxStep_some, ↓bxOp_move, ↓bxOp_assign, ↓bxOp_pick, ↓bxOp_alloc, ↓bxOp_box, ↓bxOp_build, ↓bxOp_buildSlice, ↓bxOp_load, ↓bxOp_store, ↓bxOp_nilCheck, ↓bxOp_bin, ↓bxOp_un, ↓bxOp_makeI, ↓bxOp_makeFunc, ↓bxOp_makeSlice, ↓bxOp_slice, ↓bxOp_fieldAddr, ↓bxOp_field, ↓bxOp_indexAddr, ↓bxOp_index, ↓bxOp_assert, ↓bxOp_extract, ↓bxOp_value, ↓bxOp_len, ↓bxOp_cap, ↓bxOp_append, ↓bxOp_copy, ↓bxOp_max, ↓bxOp_min, ↓bxOp_convert, ↓sxPut_none, ↓bxPut, ↓seqQ_normal, ↓seqQ_exit, ↓seqQ_ret, ↓seqQ_goto, ↓blockQ_normal, ↓blockQ_ret, ↓blockQ_goto, ↓blockQ_exit, ↓loopQ_normal, ↓loopQ_exit, ↓loopQ_ret, ↓loopQ_goto, ↓resQ_normal, ↓resQ_ret, ↓sxRes_nil, ↓sxRes_tmp, ↓bxRes_cell, ↓upd_apply, ↓ev_tmp, ↓ev_const, ↓ev_global, ↓ev_func, ↓dstAt, ↓gval_some, sxOptB_some, sxOptB_ite, mm_max, mm_min, binP_shl, binP_shr, binP_int, intBin, una_not_dec, una_nt, una_nf, una_neg, aPick_true, aPick_false, sxCallVB_fn, sxCallVB_yield, sxGuardB_u, sxGuardB_tt, sxGuardB_tf, sxGuardB_ft, sxGuardB_ff, sxIfB_t, sxIfB_f, packRes_one, packRes_two, List.map_cons, List.map_nil, List.nil_append, List.cons_append, List.append_nil, ↓reduceIte, Nat.reduceEqDiff, Nat.reduceLT, dec_T, dec_F, false_imp, true_and, and_true, true_implies, implies_true, false_and, and_false, true_or, or_true, false_or, or_false, and_self, or_self, read_relow, size_relow, low_relow, relow_relow, aLoad_relow, Nat.add_zero, Nat.mul_one, one1, Option.bind_some, ne_eq, Int.natCast_nonneg, Int.toNat_natCast, not_true_eq_false, not_false_eq_true, Option.map_some, Option.map_none, *, argF, List.getD_cons_zero, List.getD_cons_succ, alQ, hld, qaG0, qaG1, ldBig, hc1, hc2, Nat.zero_add] | (with_reducible refine sxDL_bar (by decide +kernel) ?_) | (with_reducible refine sxD_bar (by decide +kernel) ?_))
end Go.Proofs.YtnbhjbelgmkpeaaDoor
