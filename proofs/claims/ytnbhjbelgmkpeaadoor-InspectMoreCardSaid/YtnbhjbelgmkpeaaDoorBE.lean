/- Fractions, continued: which one is greater. -/
import Derived.Test.YtnbhjbelgmkpeaaDoorBC
import Derived.Test.YtnbhjbelgmkpeaaDoorB1
set_option linter.unusedVariables false
set_option linter.unusedSimpArgs false
set_option linter.unusedSectionVars false

namespace Go.Proofs.YtnbhjbelgmkpeaaDoor
open Go Go.AM
set_option maxRecDepth 10000
set_option linter.unusedSimpArgs false

theorem BigIs.addr {H : Heap} {v : Value} {z : Int} {lo l : Nat} (h : BigIs H v z lo) : BigIs (H.relow l) v z lo := by
  obtain ⟨v', w, r, o, h1, h2, h3⟩ := h
  exact ⟨v', w, r, o, h1, ⟨h2.isv, h2.rd, h2.lt, h2.ml⟩, h3⟩

variable {S : AM.Sys} (hS : Only S 10)
include hS

theorem Cmp_runs (v1 v2 : Value) (n1 d1 n2 d2 : Int) (lo : Nat) (H : Heap) (hg : Grp H) (hL : H.low ≤ H.size) (h1 : QIs H v1 n1 d1 lo) (h2 : QIs H v2 n2 d2 lo) (hlo : lo ≤ 400) : ∃ H', Keep H H' ∧ Runs Tryd.prog S (.fn 23) [v1, v2] H (.int .i64 (sgn3 (n1 * d2) (n2 * d1))) H' := by
  suffices h : WCall Tryd.prog S (.fn 23) [v1, v2] H (fun v H' => v = .int .i64 (sgn3 (n1 * d2) (n2 * d1)) ∧ Keep H H') by
    obtain ⟨_, H', hr, rfl, hk⟩ := h; exact ⟨H', hk, hr⟩
  obtain ⟨t1, t2, t3, t4, rfl, p1, p2⟩ := h1
  obtain ⟨t5, t6, t7, t8, rfl, p3, p4⟩ := h2
  obtain ⟨H1, b1, hK1, hs1, zz1, hr1⟩ := box1 H [t1, t2, t3, t4] 52
  obtain ⟨H2, b2, hK2, hs2, zz2, hr2⟩ := box1 H1 [t5, t6, t7, t8] 52
  clear zz1 zz2
  have q0 : H2.read H.size 0 2 = some [t1, t2] := hK2.read hs1 (hr1 0 2 (show 0 + 2 ≤ 4 by omega))
  have q1 : H2.read H.size 2 2 = some [t3, t4] := hK2.read hs1 (hr1 2 2 (show 2 + 2 ≤ 4 by omega))
  have q2 : H2.read H1.size 0 2 = some [t5, t6] := hr2 0 2 (show 0 + 2 ≤ 4 by omega)
  have q3 : H2.read H1.size 2 2 = some [t7, t8] := hr2 2 2 (show 2 + 2 ≤ 4 by omega)
  have hK02 := hK1.trans hK2
  have hL2 := hK02.low hL
  have hg2 := hK02.grp hg
  have hrl := Keep.relowS H2
  have hob := Times_runs hS _ _ n1 d2 lo lo (H2.relow H2.size) (hrl.grp hg2) (Nat.le_refl _) ((p1.keep hK02).keep hrl) ((p4.keep hK02).keep hrl) hlo hlo
  obtain ⟨H3, x1, hK3, hg3, e1, hR3⟩ := hob
  have f3 := hR3.bx
  have hd1 : ∀ (all : List Oper) (n : Nat) (k : Heap → Prop), sxD all n H2 H3 k = k (H3.relow (Nat.min H2.low H3.low)) := fun all n k => sxD_keep hK3 k
  have hK24 := Keep.draw hK3
  have e1' := e1.addr (l := Nat.min H2.low H3.low)
  generalize hH4 : H3.relow (Nat.min H2.low H3.low) = H4 at *
  have hg4 := hK24.grp hg2
  have hL4 := hK24.low hL2
  have hrl4 := Keep.relowS H4
  have hob2 := Times_runs hS _ _ n2 d1 lo lo (H4.relow H4.size) (hrl4.grp hg4) (Nat.le_refl _) ((p3.keep (hK02.trans hK24)).keep hrl4) ((p2.keep (hK02.trans hK24)).keep hrl4) hlo hlo
  obtain ⟨H5, x2, hK5, hg5, e2, hR5⟩ := hob2
  have f5 := hR5.bx
  have hd2 : ∀ (all : List Oper) (n : Nat) (k : Heap → Prop), sxD all n H4 H5 k = k (H5.relow (Nat.min H4.low H5.low)) := fun all n k => sxD_keep hK5 k
  have hK46 := Keep.draw hK5
  have e2' := e2.addr (l := Nat.min H4.low H5.low)
  generalize hH6 : H5.relow (Nat.min H4.low H5.low) = H6 at *
  have hL6 := hK46.low hL4
  have hrl6 := Keep.relowS H6
  have hob3 := Compare_runs hS x1 x2 (n1 * d2) (n2 * d1) _ _ (H6.relow H6.size) (Nat.le_refl _) ((e1'.keep hK46).keep hrl6) (e2'.keep hrl6)
  obtain ⟨H7, hK7, hR7⟩ := hob3
  have f7 := hR7.bx
  have hd3 : ∀ (all : List Oper) (n : Nat) (k : Heap → Prop), sxD all n H6 H7 k = k (H7.relow (Nat.min H6.low H7.low)) := fun all n k => sxD_keep hK7 k
  have hK68 := Keep.draw hK7
  have hK08 := ((hK02.trans hK24).trans hK46).trans hK68
  have q2' := hK24.read hs2 q2
  have q1' := hK24.read (Nat.lt_of_lt_of_le hs1 hK2.size) q1
  have hc1 : (Value.agg ⟨[t1, t2, t3, t4]⟩).cells.toList = [t1, t2, t3, t4] := rfl
  have hc2 : (Value.agg ⟨[t5, t6, t7, t8]⟩).cells.toList = [t5, t6, t7, t8] := rfl
  refine call_of Tryd.func23 rfl (Nat.le_of_ble_eq_true rfl) (hS.no rfl _ _) ?_
  rw [Tryd.ntmps23, Tryd.results23]
  clear hR3 hR5 hR7 p1 p2 p3 p4 e1 e2 e1' e2'
  repeat' (first | (with_reducible refine sxGuardB_tsp (fun h => ?_) (fun h => ?_)) | (with_reducible refine sxGuardB_fsp (fun h => ?_) (fun h => ?_)) | (with_reducible refine sxIfB_sp (fun h => ?_) (fun h => ?_)) | simp only [↓sxC_skip, ↓sxC_draw, ↓sxC_region, ↓sxC_seq, ↓bxC_cond, ↓bxC_loop, ↓sxC_block, ↓sxC_exit, ↓sxC_goto, ↓sxC_ret, ↓sxOps_nil, ↓sxOps_cons, ↓sxDraw_nil, ↓bxDraw_cons, ↓sxDL_move, ↓sxDL_assign, ↓sxDL_pick, ↓sxDL_alloc, ↓sxDL_box, ↓sxDL_build, ↓sxDL_buildSlice, ↓sxDL_insert, ↓sxDL_load, ↓sxDL_nilCheck, ↓sxDL_binOp, ↓sxDL_unOp, ↓sxDL_convert, ↓sxDL_makeInterface, ↓sxDL_makeFunc, ↓sxDL_makeMap, ↓sxDL_makeSlice, ↓sxDL_slice, ↓sxDL_fieldAddr, ↓sxDL_field, ↓sxDL_indexAddr, ↓sxDL_index, ↓sxDL_typeAssert, ↓sxDL_extract, ↓sxDL_call, ↓sxDL_lookup, ↓sxDL_mapUpdate, ↓sxDL_range, ↓sxDL_next, ↓sxDL_entry, ↓sxDL_mapEntry, ↓sxDL_entryStore, ↓sxD_same, ↓sxStep_none, ↓bxStep_some, ↓bxOp_move, ↓bxOp_assign, ↓bxOp_pick, ↓bxOp_alloc, ↓bxOp_box, ↓bxOp_build, ↓bxOp_buildSlice, ↓bxOp_load, ↓bxOp_store, ↓bxOp_nilCheck, ↓bxOp_bin, ↓bxOp_un, ↓bxOp_makeI, ↓bxOp_makeFunc, ↓bxOp_makeSlice, ↓bxOp_slice, ↓bxOp_fieldAddr, ↓bxOp_field, ↓bxOp_indexAddr, ↓bxOp_index, ↓bxOp_assert, ↓bxOp_extract, ↓bxOp_value, ↓bxOp_len, ↓bxOp_cap, ↓bxOp_append, ↓bxOp_copy, ↓bxOp_clear, ↓bxOp_max, ↓bxOp_min, ↓bxOp_convert, ↓sxPut_none, ↓bxPut, ↓seqQ_normal, ↓seqQ_exit, ↓seqQ_ret, ↓seqQ_goto, ↓blockQ_normal, ↓blockQ_ret, ↓blockQ_goto, ↓blockQ_exit, ↓loopQ_normal, ↓loopQ_exit, ↓loopQ_ret, ↓loopQ_goto, ↓resQ_normal, ↓resQ_ret, ↓sxRes_nil, ↓sxRes_tmp, ↓bxRes_cell, ↓upd_apply, ↓ev_tmp, ↓ev_const, ↓ev_global, ↓ev_func, ↓dstAt, ↓gval_some, sxOptB_some, sxOptB_ite, mm_max, mm_min, binP_shl, binP_shr, binP_int, intBin, una_not_dec, una_nt, una_nf, una_neg, aPick_true, aPick_false, sxCallVB_fn, sxCallVB_yield, sxGuardB_u, sxGuardB_tt, sxGuardB_tf, sxGuardB_ft, sxGuardB_ff, sxIfB_t, sxIfB_f, packRes_one, packRes_two, List.map_cons, List.map_nil, List.nil_append, List.cons_append, List.append_nil, ↓reduceIte, Nat.reduceEqDiff, Nat.reduceLT, dec_T, dec_F, false_imp, true_and, and_true, true_implies, implies_true, false_and, and_false, true_or, or_true, false_or, or_false, and_self, or_self, read_relow, size_relow, low_relow, relow_relow, aLoad_relow, Nat.add_zero, Nat.mul_one, one1, Option.bind_some, ne_eq, Int.natCast_nonneg, Int.toNat_natCast, not_true_eq_false, not_false_eq_true, Option.map_some, Option.map_none, *, argF, List.getD_cons_zero, List.getD_cons_succ, qaG0, qaG1, ldBig, hc1, hc2, Nat.zero_add] | (with_reducible refine sxDL_barE (by assumption) (by decide +kernel) ?_) | (with_reducible refine sxDL_bar (by decide +kernel) ?_) | (with_reducible refine sxD_bar (by decide +kernel) ?_))
  exact { size := hK08.size, low := fun _ => Nat.min_le_right _ _, lo := Nat.le_min.2 ⟨hK08.lo, Nat.le_trans (Nat.min_le_right _ _) hK08.size⟩, row := hK08.row, grp := hK08.grp, mem := hK08.mem }
end Go.Proofs.YtnbhjbelgmkpeaaDoor

namespace Go.Proofs.YtnbhjbelgmkpeaaDoor
open Go Go.AM
set_option maxRecDepth 10000
set_option linter.unusedSimpArgs false

theorem QIs.addr {H : Heap} {v : Value} {n d : Int} {lo l : Nat} (h : QIs H v n d lo) : QIs (H.relow l) v n d lo := by
  obtain ⟨a, b, c, e, h1, h2, h3⟩ := h
  exact ⟨a, b, c, e, h1, h2.addr, h3.addr⟩

variable {S : AM.Sys} (hS : Only S 10)
include hS

theorem Mul_runs (v1 v2 : Value) (n1 d1 n2 d2 : Int) (lo : Nat) (H : Heap) (hg : Grp H) (hL : H.low ≤ H.size) (h1 : QIs H v1 n1 d1 lo) (h2 : QIs H v2 n2 d2 lo) (hlo : lo ≤ 200) (z1 : 0 ≤ n1) (z2 : 0 ≤ n2) (z3 : 0 < d1) (z4 : 0 < d2) : ∃ H' v, Keep H H' ∧ Grp H' ∧ QIs H' v (n1 * n2 / (Nat.gcd (n1 * n2).toNat (d1 * d2).toNat : Nat)) (d1 * d2 / (Nat.gcd (n1 * n2).toNat (d1 * d2).toNat : Nat)) 400 ∧ Runs Tryd.prog S (.fn 28) [v1, v2] H v H' := by
  suffices h : WCall Tryd.prog S (.fn 28) [v1, v2] H (fun v H' => Keep H H' ∧ Grp H' ∧ QIs H' v (n1 * n2 / (Nat.gcd (n1 * n2).toNat (d1 * d2).toNat : Nat)) (d1 * d2 / (Nat.gcd (n1 * n2).toNat (d1 * d2).toNat : Nat)) 400) by
    obtain ⟨v, H', hr, h1, h2, h3⟩ := h; exact ⟨H', v, h1, h2, h3, hr⟩
  obtain ⟨t1, t2, t3, t4, rfl, p1, p2⟩ := h1
  obtain ⟨t5, t6, t7, t8, rfl, p3, p4⟩ := h2
  obtain ⟨H1, b1, hK1, hs1, zz1, hr1⟩ := box1 H [t1, t2, t3, t4] 52
  obtain ⟨H2, b2, hK2, hs2, zz2, hr2⟩ := box1 H1 [t5, t6, t7, t8] 52
  obtain ⟨H2r, b3, hK3, hs3, zz3, hr3⟩ := box1 H2 [.bool false, .slice none 0 0, .bool false, .slice none 0 0] 52
  have ow3 : Own H2r H2.size 52 [.bool false, .slice none 0 0, .bool false, .slice none 0 0] := (b3 ▸ Own.new H2 _ _)
  clear zz1 zz2 zz3 hr3
  have q0 : H2r.read H.size 0 2 = some [t1, t2] := (hK2.trans hK3).read hs1 (hr1 0 2 (show 0 + 2 ≤ 4 by omega))
  have q1 : H2r.read H.size 2 2 = some [t3, t4] := (hK2.trans hK3).read hs1 (hr1 2 2 (show 2 + 2 ≤ 4 by omega))
  have q2 : H2r.read H1.size 0 2 = some [t5, t6] := hK3.read hs2 (hr2 0 2 (show 0 + 2 ≤ 4 by omega))
  have q3 : H2r.read H1.size 2 2 = some [t7, t8] := hK3.read hs2 (hr2 2 2 (show 2 + 2 ≤ 4 by omega))
  have hK02 := (hK1.trans hK2).trans hK3
  have hL2 := hK02.low hL
  have hg2 := hK02.grp hg
  have hrl := Keep.relowS H2r
  have hob := Times_runs hS _ _ n1 n2 lo lo (H2r.relow H2r.size) (hrl.grp hg2) (Nat.le_refl _) ((p1.keep hK02).keep hrl) ((p3.keep hK02).keep hrl) (by omega) (by omega)
  obtain ⟨H3, x1, hK3', hg3, e1, hR3⟩ := hob
  have f3 := hR3.bx
  have hd1 : ∀ (all : List Oper) (n : Nat) (k : Heap → Prop), sxD all n H2r H3 k = k (H3.relow (Nat.min H2r.low H3.low)) := fun all n k => sxD_keep hK3' k
  have hK24 := Keep.draw hK3'
  have e1' := e1.addr (l := Nat.min H2r.low H3.low)
  generalize hH4 : H3.relow (Nat.min H2r.low H3.low) = H4 at *
  have hg4 := hK24.grp hg2
  have hL4 := hK24.low hL2
  have hrl4 := Keep.relowS H4
  have hob2 := Times_runs hS _ _ d1 d2 lo lo (H4.relow H4.size) (hrl4.grp hg4) (Nat.le_refl _) ((p2.keep (hK02.trans hK24)).keep hrl4) ((p4.keep (hK02.trans hK24)).keep hrl4) (by omega) (by omega)
  obtain ⟨H5, x2, hK5, hg5, e2, hR5⟩ := hob2
  have f5 := hR5.bx
  have hd2 : ∀ (all : List Oper) (n : Nat) (k : Heap → Prop), sxD all n H4 H5 k = k (H5.relow (Nat.min H4.low H5.low)) := fun all n k => sxD_keep hK5 k
  have hK46 := Keep.draw hK5
  have e2' := e2.addr (l := Nat.min H4.low H5.low)
  generalize hH6 : H5.relow (Nat.min H4.low H5.low) = H6 at *
  have hg6 := hK46.grp hg4
  have hL6 := hK46.low hL4
  have hrl6 := Keep.relowS H6
  have hob3 := lowest_runs hS x1 x2 (n1 * n2) (d1 * d2) _ _ (H6.relow H6.size) (hrl6.grp hg6) (Nat.le_refl _) (Int.mul_nonneg z1 z2) (Int.mul_pos z3 z4) ((e1'.keep hK46).keep hrl6) (e2'.keep hrl6) (by omega) (by omega)
  obtain ⟨H7, vq, hK7, hg7, hq, hR7⟩ := hob3
  have f7 := hR7.bx
  have hd3 : ∀ (all : List Oper) (n : Nat) (k : Heap → Prop), sxD all n H6 H7 k = k (H7.relow (Nat.min H6.low H7.low)) := fun all n k => sxD_keep hK7 k
  have hK68 := Keep.draw hK7
  have hq8 : QIs (H7.relow (Nat.min H6.low H7.low)) vq _ _ _ := hq.addr
  generalize hH8 : H7.relow (Nat.min H6.low H7.low) = H8 at *
  have hK28 := (hK24.trans hK46).trans hK68
  have hK08 := hK02.trans hK28
  have ow8 := (ow3.keep hK28).addr (l := H8.size)
  obtain ⟨H9, ps, hld, hq9, hkp⟩ := retQ ow8 (hq8.addr (l := H8.size))
  have hK9 := hkp H (hK08.trans (Keep.relowS H8)) (Nat.le_trans hK1.size hK2.size)
  have hK10 := Keep.lower hK08 hK9
  have hg10 := hK10.grp hg
  have hq10 := hq9.addr (l := Nat.min H8.low H9.low)
  have q1' := hK24.read (Nat.lt_of_lt_of_le hs1 (hK2.trans hK3).size) q1
  have q3' := hK24.read (Nat.lt_of_lt_of_le hs2 hK3.size) q3
  have hc1 : (Value.agg ⟨[t1, t2, t3, t4]⟩).cells.toList = [t1, t2, t3, t4] := rfl
  have hc2 : (Value.agg ⟨[t5, t6, t7, t8]⟩).cells.toList = [t5, t6, t7, t8] := rfl
  refine call_of Tryd.func28 rfl (Nat.le_of_ble_eq_true rfl) (hS.no rfl _ _) ?_
  rw [Tryd.ntmps28, Tryd.results28]
  clear hR3 hR5 hR7 hq hq8 hq9 hkp ow3 ow8 p1 p2 p3 p4 e1 e2 e1' e2'
  repeat' (first | (with_reducible refine sxGuardB_tsp (fun h => ?_) (fun h => ?_)) | (with_reducible refine sxGuardB_fsp (fun h => ?_) (fun h => ?_)) | (with_reducible refine sxIfB_sp (fun h => ?_) (fun h => ?_)) | simp only [↓sxC_skip, ↓sxC_draw, ↓sxC_region, ↓sxC_seq, ↓bxC_cond, ↓bxC_loop, ↓sxC_block, ↓sxC_exit, ↓sxC_goto, ↓sxC_ret, ↓sxOps_nil, ↓sxOps_cons, ↓sxDraw_nil, ↓bxDraw_cons, ↓sxDL_move, ↓sxDL_assign, ↓sxDL_pick, ↓sxDL_alloc, ↓sxDL_box, ↓sxDL_build, ↓sxDL_buildSlice, ↓sxDL_insert, ↓sxDL_load, ↓sxDL_nilCheck, ↓sxDL_binOp, ↓sxDL_unOp, ↓sxDL_convert, ↓sxDL_makeInterface, ↓sxDL_makeFunc, ↓sxDL_makeMap, ↓sxDL_makeSlice, ↓sxDL_slice, ↓sxDL_fieldAddr, ↓sxDL_field, ↓sxDL_indexAddr, ↓sxDL_index, ↓sxDL_typeAssert, ↓sxDL_extract, ↓sxDL_call, ↓sxDL_lookup, ↓sxDL_mapUpdate, ↓sxDL_range, ↓sxDL_next, ↓sxDL_entry, ↓sxDL_mapEntry, ↓sxDL_entryStore, ↓sxD_same, ↓sxStep_none, ↓bxStep_some, ↓bxOp_move, ↓bxOp_assign, ↓bxOp_pick, ↓bxOp_alloc, ↓bxOp_box, ↓bxOp_build, ↓bxOp_buildSlice, ↓bxOp_load, ↓bxOp_store, ↓bxOp_nilCheck, ↓bxOp_bin, ↓bxOp_un, ↓bxOp_makeI, ↓bxOp_makeFunc, ↓bxOp_makeSlice, ↓bxOp_slice, ↓bxOp_fieldAddr, ↓bxOp_field, ↓bxOp_indexAddr, ↓bxOp_index, ↓bxOp_assert, ↓bxOp_extract, ↓bxOp_value, ↓bxOp_len, ↓bxOp_cap, ↓bxOp_append, ↓bxOp_copy, ↓bxOp_clear, ↓bxOp_max, ↓bxOp_min, ↓bxOp_convert, ↓sxPut_none, ↓bxPut, ↓seqQ_normal, ↓seqQ_exit, ↓seqQ_ret, ↓seqQ_goto, ↓blockQ_normal, ↓blockQ_ret, ↓blockQ_goto, ↓blockQ_exit, ↓loopQ_normal, ↓loopQ_exit, ↓loopQ_ret, ↓loopQ_goto, ↓resQ_normal, ↓resQ_ret, ↓sxRes_nil, ↓sxRes_tmp, ↓bxRes_cell, ↓upd_apply, ↓ev_tmp, ↓ev_const, ↓ev_global, ↓ev_func, ↓dstAt, ↓gval_some, sxOptB_some, sxOptB_ite, mm_max, mm_min, binP_shl, binP_shr, binP_int, intBin, una_not_dec, una_nt, una_nf, una_neg, aPick_true, aPick_false, sxCallVB_fn, sxCallVB_yield, sxGuardB_u, sxGuardB_tt, sxGuardB_tf, sxGuardB_ft, sxGuardB_ff, sxIfB_t, sxIfB_f, packRes_one, packRes_two, List.map_cons, List.map_nil, List.nil_append, List.cons_append, List.append_nil, ↓reduceIte, Nat.reduceEqDiff, Nat.reduceLT, dec_T, dec_F, false_imp, true_and, and_true, true_implies, implies_true, false_and, and_false, true_or, or_true, false_or, or_false, and_self, or_self, read_relow, size_relow, low_relow, relow_relow, aLoad_relow, Nat.add_zero, Nat.mul_one, one1, Option.bind_some, ne_eq, Int.natCast_nonneg, Int.toNat_natCast, not_true_eq_false, not_false_eq_true, Option.map_some, Option.map_none, *, argF, List.getD_cons_zero, List.getD_cons_succ, alQ, hld, qaG0, qaG1, ldBig, hc1, hc2, Nat.zero_add] | (with_reducible refine sxDL_barE (by assumption) (by decide +kernel) ?_) | (with_reducible refine sxDL_bar (by decide +kernel) ?_) | (with_reducible refine sxD_bar (by decide +kernel) ?_))
end Go.Proofs.YtnbhjbelgmkpeaaDoor

namespace Go.Proofs.YtnbhjbelgmkpeaaDoor
open Go Go.AM
set_option maxRecDepth 10000
set_option linter.unusedSimpArgs false

variable {S : AM.Sys} (hS : Only S 10)
include hS

theorem Gcd_runs (x y : Int) (H : Heap) (hx : 0 ≤ x) (hy : 0 ≤ y) (hx2 : x ≤ 9223372036854775807) (hy2 : y ≤ 9223372036854775807) : ∃ H', Keep H H' ∧ Runs Tryd.prog S (.fn 110) [.int .i64 x, .int .i64 y] H (.int .i64 (Nat.gcd x.toNat y.toNat : Nat)) H' := by
  suffices h : WCall Tryd.prog S (.fn 110) [.int .i64 x, .int .i64 y] H (fun v H' => v = .int .i64 (Nat.gcd x.toNat y.toNat : Nat) ∧ Keep H H') by
    obtain ⟨_, H', hr, rfl, hk⟩ := h; exact ⟨H', hk, hr⟩
  refine call_of Tryd.func110 rfl (Nat.le_of_ble_eq_true rfl) (hS.no rfl _ _) ?_
  rw [Tryd.ntmps110, Tryd.results110]
  repeat' (first | (with_reducible refine sxGuardB_tsp (fun h => ?_) (fun h => ?_)) | (with_reducible refine sxGuardB_fsp (fun h => ?_) (fun h => ?_)) | (with_reducible refine sxIfB_sp (fun h => ?_) (fun h => ?_)) | simp only [↓sxC_skip, ↓sxC_draw, ↓sxC_region, ↓sxC_seq, ↓bxC_cond, ↓bxC_loop, ↓sxC_block, ↓sxC_exit, ↓sxC_goto, ↓sxC_ret, ↓sxOps_nil, ↓sxOps_cons, ↓sxDraw_nil, ↓bxDraw_cons, ↓sxDL_move, ↓sxDL_assign, ↓sxDL_pick, ↓sxDL_alloc, ↓sxDL_box, ↓sxDL_build, ↓sxDL_buildSlice, ↓sxDL_insert, ↓sxDL_load, ↓sxDL_nilCheck, ↓sxDL_binOp, ↓sxDL_unOp, ↓sxDL_convert, ↓sxDL_makeInterface, ↓sxDL_makeFunc, ↓sxDL_makeMap, ↓sxDL_makeSlice, ↓sxDL_slice, ↓sxDL_fieldAddr, ↓sxDL_field, ↓sxDL_indexAddr, ↓sxDL_index, ↓sxDL_typeAssert, ↓sxDL_extract, ↓sxDL_call, ↓sxDL_lookup, ↓sxDL_mapUpdate, ↓sxDL_range, ↓sxDL_next, ↓sxDL_entry, ↓sxDL_mapEntry, ↓sxDL_entryStore, ↓sxD_same, ↓sxStep_none, ↓bxStep_some, ↓bxOp_move, ↓bxOp_assign, ↓bxOp_pick, ↓bxOp_alloc, ↓bxOp_box, ↓bxOp_build, ↓bxOp_buildSlice, ↓bxOp_load, ↓bxOp_store, ↓bxOp_nilCheck, ↓bxOp_bin, ↓bxOp_un, ↓bxOp_makeI, ↓bxOp_makeFunc, ↓bxOp_makeSlice, ↓bxOp_slice, ↓bxOp_fieldAddr, ↓bxOp_field, ↓bxOp_indexAddr, ↓bxOp_index, ↓bxOp_assert, ↓bxOp_extract, ↓bxOp_value, ↓bxOp_len, ↓bxOp_cap, ↓bxOp_append, ↓bxOp_copy, ↓bxOp_clear, ↓bxOp_max, ↓bxOp_min, ↓bxOp_convert, ↓sxPut_none, ↓bxPut, ↓seqQ_normal, ↓seqQ_exit, ↓seqQ_ret, ↓seqQ_goto, ↓blockQ_normal, ↓blockQ_ret, ↓blockQ_goto, ↓blockQ_exit, ↓loopQ_normal, ↓loopQ_exit, ↓loopQ_ret, ↓loopQ_goto, ↓resQ_normal, ↓resQ_ret, ↓sxRes_nil, ↓sxRes_tmp, ↓bxRes_cell, ↓upd_apply, ↓ev_tmp, ↓ev_const, ↓ev_global, ↓ev_func, ↓dstAt, ↓gval_some, sxOptB_some, sxOptB_ite, mm_max, mm_min, binP_shl, binP_shr, binP_int, intBin, una_not_dec, una_nt, una_nf, una_neg, aPick_true, aPick_false, sxCallVB_fn, sxCallVB_yield, sxGuardB_u, sxGuardB_tt, sxGuardB_tf, sxGuardB_ft, sxGuardB_ff, sxIfB_t, sxIfB_f, packRes_one, packRes_two, List.map_cons, List.map_nil, List.nil_append, List.cons_append, List.append_nil, ↓reduceIte, Nat.reduceEqDiff, Nat.reduceLT, dec_T, dec_F, false_imp, true_and, and_true, true_implies, implies_true, false_and, and_false, true_or, or_true, false_or, or_false, and_self, or_self, read_relow, size_relow, low_relow, relow_relow, aLoad_relow, Nat.add_zero, Nat.mul_one, one1, Option.bind_some, ne_eq, Int.natCast_nonneg, Int.toNat_natCast, not_true_eq_false, not_false_eq_true, Option.map_some, Option.map_none, *, argF, List.getD_cons_zero, List.getD_cons_succ, lenI] | (with_reducible refine sxDL_barE (by assumption) (by decide +kernel) ?_) | (with_reducible refine sxDL_bar (by decide +kernel) ?_) | (with_reducible refine sxD_bar (by decide +kernel) ?_))
  refine sxL_of (fun m ρ H2 => ∃ a b : Int, m = b.toNat ∧ 0 ≤ a ∧ 0 ≤ b ∧ a ≤ 9223372036854775807 ∧ b ≤ 9223372036854775807 ∧ Nat.gcd a.toNat b.toNat = Nat.gcd x.toNat y.toNat ∧ Keep H H2 ∧ ρ 0 = .int .i64 a ∧ ρ 1 = .int .i64 b)
    ⟨x, y, rfl, hx, hy, hx2, hy2, rfl, Keep.refl H, rfl, rfl⟩ ?_
  rintro m ρ H2 ⟨a, b, rfl, ha, hb, ha2, hb2, hG, hK, e0, e1⟩
  generalize Nat.gcd x.toNat y.toNat = G at *
  by_cases hb0 : b = 0
  · subst hb0
    have hG2 : (G : Int) = a := by rw [← hG, show (0 : Int).toNat = 0 from rfl, Nat.gcd_zero_right]; omega
    have f1 : IntKind.i64.wrap (0 - a) = 0 - a := IntWalk.i64_in _ (by omega)
    have f2 : max a (0 - a) = a := by omega
    clear hG
    repeat' (first | (with_reducible refine sxGuardB_tsp (fun h => ?_) (fun h => ?_)) | (with_reducible refine sxGuardB_fsp (fun h => ?_) (fun h => ?_)) | (with_reducible refine sxIfB_sp (fun h => ?_) (fun h => ?_)) | simp only [↓sxC_skip, ↓sxC_draw, ↓sxC_region, ↓sxC_seq, ↓bxC_cond, ↓bxC_loop, ↓sxC_block, ↓sxC_exit, ↓sxC_goto, ↓sxC_ret, ↓sxOps_nil, ↓sxOps_cons, ↓sxDraw_nil, ↓bxDraw_cons, ↓sxDL_move, ↓sxDL_assign, ↓sxDL_pick, ↓sxDL_alloc, ↓sxDL_box, ↓sxDL_build, ↓sxDL_buildSlice, ↓sxDL_insert, ↓sxDL_load, ↓sxDL_nilCheck, ↓sxDL_binOp, ↓sxDL_unOp, ↓sxDL_convert, ↓sxDL_makeInterface, ↓sxDL_makeFunc, ↓sxDL_makeMap, ↓sxDL_makeSlice, ↓sxDL_slice, ↓sxDL_fieldAddr, ↓sxDL_field, ↓sxDL_indexAddr, ↓sxDL_index, ↓sxDL_typeAssert, ↓sxDL_extract, ↓sxDL_call, ↓sxDL_lookup, ↓sxDL_mapUpdate, ↓sxDL_range, ↓sxDL_next, ↓sxDL_entry, ↓sxDL_mapEntry, ↓sxDL_entryStore, ↓sxD_same, ↓sxStep_none, ↓bxStep_some, ↓bxOp_move, ↓bxOp_assign, ↓bxOp_pick, ↓bxOp_alloc, ↓bxOp_box, ↓bxOp_build, ↓bxOp_buildSlice, ↓bxOp_load, ↓bxOp_store, ↓bxOp_nilCheck, ↓bxOp_bin, ↓bxOp_un, ↓bxOp_makeI, ↓bxOp_makeFunc, ↓bxOp_makeSlice, ↓bxOp_slice, ↓bxOp_fieldAddr, ↓bxOp_field, ↓bxOp_indexAddr, ↓bxOp_index, ↓bxOp_assert, ↓bxOp_extract, ↓bxOp_value, ↓bxOp_len, ↓bxOp_cap, ↓bxOp_append, ↓bxOp_copy, ↓bxOp_clear, ↓bxOp_max, ↓bxOp_min, ↓bxOp_convert, ↓sxPut_none, ↓bxPut, ↓seqQ_normal, ↓seqQ_exit, ↓seqQ_ret, ↓seqQ_goto, ↓blockQ_normal, ↓blockQ_ret, ↓blockQ_goto, ↓blockQ_exit, ↓loopQ_normal, ↓loopQ_exit, ↓loopQ_ret, ↓loopQ_goto, ↓resQ_normal, ↓resQ_ret, ↓sxRes_nil, ↓sxRes_tmp, ↓bxRes_cell, ↓upd_apply, ↓ev_tmp, ↓ev_const, ↓ev_global, ↓ev_func, ↓dstAt, ↓gval_some, sxOptB_some, sxOptB_ite, mm_max, mm_min, binP_shl, binP_shr, binP_int, intBin, una_not_dec, una_nt, una_nf, una_neg, aPick_true, aPick_false, sxCallVB_fn, sxCallVB_yield, sxGuardB_u, sxGuardB_tt, sxGuardB_tf, sxGuardB_ft, sxGuardB_ff, sxIfB_t, sxIfB_f, packRes_one, packRes_two, List.map_cons, List.map_nil, List.nil_append, List.cons_append, List.append_nil, ↓reduceIte, Nat.reduceEqDiff, Nat.reduceLT, dec_T, dec_F, false_imp, true_and, and_true, true_implies, implies_true, false_and, and_false, true_or, or_true, false_or, or_false, and_self, or_self, read_relow, size_relow, low_relow, relow_relow, aLoad_relow, Nat.add_zero, Nat.mul_one, one1, Option.bind_some, ne_eq, Int.natCast_nonneg, Int.toNat_natCast, not_true_eq_false, not_false_eq_true, Option.map_some, Option.map_none, *, lenI] | (with_reducible refine sxDL_barE (by assumption) (by decide +kernel) ?_) | (with_reducible refine sxDL_bar (by decide +kernel) ?_) | (with_reducible refine sxD_bar (by decide +kernel) ?_))
    rw [if_neg (by omega)]
  · have hm : a.tmod b = a % b := Int.tmod_eq_emod_of_nonneg ha
    have h1 := Int.emod_nonneg a hb0
    have h2 := Int.emod_lt_of_pos a (show 0 < b by omega)
    have f1 : IntKind.i64.wrap (a % b) = a % b := IntWalk.i64_in _ (by omega)
    have hg2 : Nat.gcd b.toNat (a % b).toNat = G := by
      rw [← hG, Int.toNat_emod ha hb, Nat.gcd_comm b.toNat (a.toNat % b.toNat), ← Nat.gcd_rec, Nat.gcd_comm]
    repeat' (first | (with_reducible refine sxGuardB_tsp (fun h => ?_) (fun h => ?_)) | (with_reducible refine sxGuardB_fsp (fun h => ?_) (fun h => ?_)) | (with_reducible refine sxIfB_sp (fun h => ?_) (fun h => ?_)) | simp only [↓sxC_skip, ↓sxC_draw, ↓sxC_region, ↓sxC_seq, ↓bxC_cond, ↓bxC_loop, ↓sxC_block, ↓sxC_exit, ↓sxC_goto, ↓sxC_ret, ↓sxOps_nil, ↓sxOps_cons, ↓sxDraw_nil, ↓bxDraw_cons, ↓sxDL_move, ↓sxDL_assign, ↓sxDL_pick, ↓sxDL_alloc, ↓sxDL_box, ↓sxDL_build, ↓sxDL_buildSlice, ↓sxDL_insert, ↓sxDL_load, ↓sxDL_nilCheck, ↓sxDL_binOp, ↓sxDL_unOp, ↓sxDL_convert, ↓sxDL_makeInterface, ↓sxDL_makeFunc, ↓sxDL_makeMap, ↓sxDL_makeSlice, ↓sxDL_slice, ↓sxDL_fieldAddr, ↓sxDL_field, ↓sxDL_indexAddr, ↓sxDL_index, ↓sxDL_typeAssert, ↓sxDL_extract, ↓sxDL_call, ↓sxDL_lookup, ↓sxDL_mapUpdate, ↓sxDL_range, ↓sxDL_next, ↓sxDL_entry, ↓sxDL_mapEntry, ↓sxDL_entryStore, ↓sxD_same, ↓sxStep_none, ↓bxStep_some, ↓bxOp_move, ↓bxOp_assign, ↓bxOp_pick, ↓bxOp_alloc, ↓bxOp_box, ↓bxOp_build, ↓bxOp_buildSlice, ↓bxOp_load, ↓bxOp_store, ↓bxOp_nilCheck, ↓bxOp_bin, ↓bxOp_un, ↓bxOp_makeI, ↓bxOp_makeFunc, ↓bxOp_makeSlice, ↓bxOp_slice, ↓bxOp_fieldAddr, ↓bxOp_field, ↓bxOp_indexAddr, ↓bxOp_index, ↓bxOp_assert, ↓bxOp_extract, ↓bxOp_value, ↓bxOp_len, ↓bxOp_cap, ↓bxOp_append, ↓bxOp_copy, ↓bxOp_clear, ↓bxOp_max, ↓bxOp_min, ↓bxOp_convert, ↓sxPut_none, ↓bxPut, ↓seqQ_normal, ↓seqQ_exit, ↓seqQ_ret, ↓seqQ_goto, ↓blockQ_normal, ↓blockQ_ret, ↓blockQ_goto, ↓blockQ_exit, ↓loopQ_normal, ↓loopQ_exit, ↓loopQ_ret, ↓loopQ_goto, ↓resQ_normal, ↓resQ_ret, ↓sxRes_nil, ↓sxRes_tmp, ↓bxRes_cell, ↓upd_apply, ↓ev_tmp, ↓ev_const, ↓ev_global, ↓ev_func, ↓dstAt, ↓gval_some, sxOptB_some, sxOptB_ite, mm_max, mm_min, binP_shl, binP_shr, binP_int, intBin, una_not_dec, una_nt, una_nf, una_neg, aPick_true, aPick_false, sxCallVB_fn, sxCallVB_yield, sxGuardB_u, sxGuardB_tt, sxGuardB_tf, sxGuardB_ft, sxGuardB_ff, sxIfB_t, sxIfB_f, packRes_one, packRes_two, List.map_cons, List.map_nil, List.nil_append, List.cons_append, List.append_nil, ↓reduceIte, Nat.reduceEqDiff, Nat.reduceLT, dec_T, dec_F, false_imp, true_and, and_true, true_implies, implies_true, false_and, and_false, true_or, or_true, false_or, or_false, and_self, or_self, read_relow, size_relow, low_relow, relow_relow, aLoad_relow, Nat.add_zero, Nat.mul_one, one1, Option.bind_some, ne_eq, Int.natCast_nonneg, Int.toNat_natCast, not_true_eq_false, not_false_eq_true, Option.map_some, Option.map_none, *, lenI] | (with_reducible refine sxDL_barE (by assumption) (by decide +kernel) ?_) | (with_reducible refine sxDL_bar (by decide +kernel) ?_) | (with_reducible refine sxD_bar (by decide +kernel) ?_))
    refine ⟨_, ?_, b, a % b, rfl, hb, h1, hb2, by omega, hg2, ?_, rfl, ?_⟩
    · omega
    · have z1 : min H.low H.size ≤ H2.size := Nat.le_trans (Nat.min_le_right _ _) hK.size
      exact { size := hK.size, low := fun _ => Nat.min_le_right _ _, lo := by repeat' (first | exact hK.lo | exact z1 | refine Nat.le_min.2 ⟨?_, ?_⟩), row := hK.row, grp := hK.grp, mem := hK.mem }
    · rfl
end Go.Proofs.YtnbhjbelgmkpeaaDoor

namespace Go.Proofs.YtnbhjbelgmkpeaaDoor
open Go Go.AM
set_option maxRecDepth 10000
set_option linter.unusedSimpArgs false

theorem Digs.getD_in {a : List Int} (h : Digs a) (i : Nat) : 0 ≤ a.getD i 0 ∧ a.getD i 0 ≤ 9999 := h.getD i
theorem val_split_all (a : List Int) (i : Nat) : val (a.take (i + 1)) = val (a.take i) + 10000 ^ i * a.getD i 0 := by
  by_cases h : i < a.length
  · exact val_split h
  · rw [List.take_of_length_le (by omega), List.take_of_length_le (by omega), List.getD_eq_getElem?_getD, List.getElem?_eq_none (by omega)]
    simp
theorem getD_past {a : List Int} {i : Nat} (h : ¬ i < a.length) : a.getD i 0 = 0 := by
  rw [List.getD_eq_getElem?_getD, List.getElem?_eq_none (by omega)]; rfl
theorem take_past {a : List Int} {i : Nat} (h : a.length ≤ i) : a.take (i + 1) = a.take i := by
  rw [List.take_of_length_le (by omega), List.take_of_length_le h]

variable {S : AM.Sys} (hS : Only S 10)
include hS

theorem addD_runs (v1 v2 : Value) (a b : List Int) (r1 o1 r2 o2 : Nat) (H : Heap) (hg : Grp H) (hL : H.low ≤ H.size) (h1 : SlI .i64 H v1 a r1 o1) (h2 : SlI .i64 H v2 b r2 o2) (ha : Digs a) (hb : Digs b) (hsa : a.length ≤ 3000) (hsb : b.length ≤ 3000) :
    ∃ w, Digs w ∧ val w = val a + val b ∧ w.length ≤ a.length + b.length + 1 ∧ Out S 91 [v1, v2] H w := by
  suffices h : WCall Tryd.prog S (.fn 91) [v1, v2] H (fun v H' => ∃ w r' o', Digs w ∧ val w = val a + val b ∧ w.length ≤ a.length + b.length + 1 ∧ Keep H H' ∧ Grp H' ∧ SlI .i64 H' v w r' o' ∧ Fine v ∧ (0 < w.length → H.size ≤ r')) by
    obtain ⟨v', H', hr, w, r', o', h1, h2, h2b, h3, h4, h5, h6, h7⟩ := h; exact ⟨w, h1, h2, h2b, H', v', r', o', h3, h4, h5, h6, h7, hr⟩
  obtain ⟨a1, c1, rfl⟩ := h1.v0
  obtain ⟨a2, c2, rfl⟩ := h2.v0
  refine call_of Tryd.func91 rfl (Nat.le_of_ble_eq_true rfl) (hS.no rfl _ _) ?_
  rw [Tryd.ntmps91, Tryd.results91]
  repeat' (first | (with_reducible refine sxGuardB_tsp (fun h => ?_) (fun h => ?_)) | (with_reducible refine sxGuardB_fsp (fun h => ?_) (fun h => ?_)) | (with_reducible refine sxIfB_sp (fun h => ?_) (fun h => ?_)) | simp only [↓sxC_skip, ↓sxC_draw, ↓sxC_region, ↓sxC_seq, ↓bxC_cond, ↓bxC_loop, ↓sxC_block, ↓sxC_exit, ↓sxC_goto, ↓sxC_ret, ↓sxOps_nil, ↓sxOps_cons, ↓sxDraw_nil, ↓bxDraw_cons, ↓sxDL_move, ↓sxDL_assign, ↓sxDL_pick, ↓sxDL_alloc, ↓sxDL_box, ↓sxDL_build, ↓sxDL_buildSlice, ↓sxDL_insert, ↓sxDL_load, ↓sxDL_nilCheck, ↓sxDL_binOp, ↓sxDL_unOp, ↓sxDL_convert, ↓sxDL_makeInterface, ↓sxDL_makeFunc, ↓sxDL_makeMap, ↓sxDL_makeSlice, ↓sxDL_slice, ↓sxDL_fieldAddr, ↓sxDL_field, ↓sxDL_indexAddr, ↓sxDL_index, ↓sxDL_typeAssert, ↓sxDL_extract, ↓sxDL_call, ↓sxDL_lookup, ↓sxDL_mapUpdate, ↓sxDL_range, ↓sxDL_next, ↓sxDL_entry, ↓sxDL_mapEntry, ↓sxDL_entryStore, ↓sxD_same, ↓sxStep_none, ↓bxStep_some, ↓bxOp_move, ↓bxOp_assign, ↓bxOp_pick, ↓bxOp_alloc, ↓bxOp_box, ↓bxOp_build, ↓bxOp_buildSlice, ↓bxOp_load, ↓bxOp_store, ↓bxOp_nilCheck, ↓bxOp_bin, ↓bxOp_un, ↓bxOp_makeI, ↓bxOp_makeFunc, ↓bxOp_makeSlice, ↓bxOp_slice, ↓bxOp_fieldAddr, ↓bxOp_field, ↓bxOp_indexAddr, ↓bxOp_index, ↓bxOp_assert, ↓bxOp_extract, ↓bxOp_value, ↓bxOp_len, ↓bxOp_cap, ↓bxOp_append, ↓bxOp_copy, ↓bxOp_clear, ↓bxOp_max, ↓bxOp_min, ↓bxOp_convert, ↓sxPut_none, ↓bxPut, ↓seqQ_normal, ↓seqQ_exit, ↓seqQ_ret, ↓seqQ_goto, ↓blockQ_normal, ↓blockQ_ret, ↓blockQ_goto, ↓blockQ_exit, ↓loopQ_normal, ↓loopQ_exit, ↓loopQ_ret, ↓loopQ_goto, ↓resQ_normal, ↓resQ_ret, ↓sxRes_nil, ↓sxRes_tmp, ↓bxRes_cell, ↓upd_apply, ↓ev_tmp, ↓ev_const, ↓ev_global, ↓ev_func, ↓dstAt, ↓gval_some, sxOptB_some, sxOptB_ite, mm_max, mm_min, binP_shl, binP_shr, binP_int, intBin, una_not_dec, una_nt, una_nf, una_neg, aPick_true, aPick_false, sxCallVB_fn, sxCallVB_yield, sxGuardB_u, sxGuardB_tt, sxGuardB_tf, sxGuardB_ft, sxGuardB_ff, sxIfB_t, sxIfB_f, packRes_one, packRes_two, List.map_cons, List.map_nil, List.nil_append, List.cons_append, List.append_nil, ↓reduceIte, Nat.reduceEqDiff, Nat.reduceLT, dec_T, dec_F, false_imp, true_and, and_true, true_implies, implies_true, false_and, and_false, true_or, or_true, false_or, or_false, and_self, or_self, read_relow, size_relow, low_relow, relow_relow, aLoad_relow, Nat.add_zero, Nat.mul_one, one1, Option.bind_some, ne_eq, Int.natCast_nonneg, Int.toNat_natCast, not_true_eq_false, not_false_eq_true, Option.map_some, Option.map_none, *, argF, List.getD_cons_zero, List.getD_cons_succ, lenI] | (with_reducible refine sxDL_barE (by assumption) (by decide +kernel) ?_) | (with_reducible refine sxDL_bar (by decide +kernel) ?_) | (with_reducible refine sxD_bar (by decide +kernel) ?_))
  refine sxL_of (fun m ρ H2 => ∃ (i : Nat) (out : List Int) (v' : Value) (c : Int), m = a.length + b.length + 1 - i ∧ out.length = i ∧ i ≤ a.length + b.length + 1 ∧ Digs out ∧ (c = 0 ∨ c = 1) ∧ (a.length < i ∧ b.length < i → c = 0) ∧ val out + 10000 ^ i * c = val (a.take i) + val (b.take i) ∧ Lst 3 .i64 H H2 v' out ∧
    ρ 0 = .slice a1 a.length c1 ∧ ρ 1 = .slice a2 b.length c2 ∧ ρ 5 = v' ∧ ρ 6 = .int .i64 c ∧ ρ 7 = .int .i64 i)
    ⟨0, [], _, 0, rfl, rfl, Nat.zero_le _, (fun x hx => absurd hx (List.not_mem_nil)), .inl rfl, (fun _ => rfl), (by simp [val]), Lst.nil (Keep.refl H) hg, rfl, rfl, rfl, rfl, rfl⟩ ?_
  rintro m ρ H2 ⟨i, out, v', c, rfl, hol, hi, hod, hc, hcz, hov, L, e0, e1, e5, e6, e7⟩
  have hL2 : H2.low ≤ H2.size := L.keep.low hL
  have hsa' := val_split_all a i
  have hsb' := val_split_all b i
  have hai := ha.getD i
  have hbi := hb.getD i
  have hc01 : 0 ≤ c ∧ c ≤ 1 := by rcases hc with h | h <;> omega
  have fin : ∀ s : Int, s = c + a.getD i 0 + b.getD i 0 → (Digs (out ++ [s.tmod 10000]) ∧ val (out ++ [s.tmod 10000]) + 10000 ^ (i + 1) * s.tdiv 10000 = val (a.take (i + 1)) + val (b.take (i + 1)) ∧ (s.tdiv 10000 = 0 ∨ s.tdiv 10000 = 1)) := fun s hs => by
    rw [Int.tmod_eq_emod_of_nonneg (by omega), Int.tdiv_eq_ediv_of_nonneg (by omega)]
    refine ⟨hod.append (Digs.one (by omega)), ?_, by omega⟩
    rw [val_append, hol, hsa', hsb', Int.pow_succ, Int.mul_assoc]
    simp only [val, Int.mul_zero, Int.add_zero]
    have h3 : (10000 : Int) ^ i * (s % 10000) + 10000 ^ i * (10000 * (s / 10000)) = 10000 ^ i * c + 10000 ^ i * a.getD i 0 + 10000 ^ i * b.getD i 0 := by
      rw [← Int.mul_add, ← Int.mul_add, ← Int.mul_add]
      congr 1
      omega
    omega
  by_cases hA : i < a.length
  · by_cases hB : i < b.length
    · have hlt1 : (i : Int) < (a.length : Int) := by omega
      have hlt2 : (i : Int) < (b.length : Int) := by omega
      have p1 := SlI_ix h1 hA
      have q1 := ((h1.keep L.keep).rdI hA).1
      have hwi := wrap_succ hA h1.ml
      have p2 := SlI_ix h2 hB
      have q2 := ((h2.keep L.keep).rdI hB).1
      have hwj := wrap_succ hB h2.ml
      have hf := fin (c + a.getD i 0 + b.getD i 0) (by omega)
      have hob1 := L.push okI hg (by omega) ((c + a.getD i 0 + b.getD i 0).tmod 10000)
      obtain ⟨v3, H3, p3, L3⟩ := hob1
      have b3 := bsI H2 ((c + a.getD i 0 + b.getD i 0).tmod 10000)
      have hcz' : a.length < i + 1 ∧ b.length < i + 1 → (c + a.getD i 0 + b.getD i 0).tdiv 10000 = 0 := fun hh => by rw [Int.tdiv_eq_ediv_of_nonneg (by omega)]; omega
      clear h1 h2 hsa' hsb' ha hb hov fin
      generalize a.getD i 0 = x at *
      generalize b.getD i 0 = y at *
      have f1 : IntKind.i64.wrap (c + x) = c + x := IntWalk.i64_in _ (by omega)
      have f2 : IntKind.i64.wrap (c + x + y) = c + x + y := IntWalk.i64_in _ (by omega)
      have hb0 : ¬ (10000 : Int) = 0 := by omega
      have hdv : IntKind.i64.wrap ((c + x + y).tdiv 10000) = (c + x + y).tdiv 10000 := IntWalk.i64_in _ (by rw [Int.tdiv_eq_ediv_of_nonneg (by omega)]; omega)
      repeat' (first | (with_reducible refine sxGuardB_tsp (fun h => ?_) (fun h => ?_)) | (with_reducible refine sxGuardB_fsp (fun h => ?_) (fun h => ?_)) | (with_reducible refine sxIfB_sp (fun h => ?_) (fun h => ?_)) | simp only [↓sxC_skip, ↓sxC_draw, ↓sxC_region, ↓sxC_seq, ↓bxC_cond, ↓bxC_loop, ↓sxC_block, ↓sxC_exit, ↓sxC_goto, ↓sxC_ret, ↓sxOps_nil, ↓sxOps_cons, ↓sxDraw_nil, ↓bxDraw_cons, ↓sxDL_move, ↓sxDL_assign, ↓sxDL_pick, ↓sxDL_alloc, ↓sxDL_box, ↓sxDL_build, ↓sxDL_buildSlice, ↓sxDL_insert, ↓sxDL_load, ↓sxDL_nilCheck, ↓sxDL_binOp, ↓sxDL_unOp, ↓sxDL_convert, ↓sxDL_makeInterface, ↓sxDL_makeFunc, ↓sxDL_makeMap, ↓sxDL_makeSlice, ↓sxDL_slice, ↓sxDL_fieldAddr, ↓sxDL_field, ↓sxDL_indexAddr, ↓sxDL_index, ↓sxDL_typeAssert, ↓sxDL_extract, ↓sxDL_call, ↓sxDL_lookup, ↓sxDL_mapUpdate, ↓sxDL_range, ↓sxDL_next, ↓sxDL_entry, ↓sxDL_mapEntry, ↓sxDL_entryStore, ↓sxD_same, ↓sxStep_none, ↓bxStep_some, ↓bxOp_move, ↓bxOp_assign, ↓bxOp_pick, ↓bxOp_alloc, ↓bxOp_box, ↓bxOp_build, ↓bxOp_buildSlice, ↓bxOp_load, ↓bxOp_store, ↓bxOp_nilCheck, ↓bxOp_bin, ↓bxOp_un, ↓bxOp_makeI, ↓bxOp_makeFunc, ↓bxOp_makeSlice, ↓bxOp_slice, ↓bxOp_fieldAddr, ↓bxOp_field, ↓bxOp_indexAddr, ↓bxOp_index, ↓bxOp_assert, ↓bxOp_extract, ↓bxOp_value, ↓bxOp_len, ↓bxOp_cap, ↓bxOp_append, ↓bxOp_copy, ↓bxOp_clear, ↓bxOp_max, ↓bxOp_min, ↓bxOp_convert, ↓sxPut_none, ↓bxPut, ↓seqQ_normal, ↓seqQ_exit, ↓seqQ_ret, ↓seqQ_goto, ↓blockQ_normal, ↓blockQ_ret, ↓blockQ_goto, ↓blockQ_exit, ↓loopQ_normal, ↓loopQ_exit, ↓loopQ_ret, ↓loopQ_goto, ↓resQ_normal, ↓resQ_ret, ↓sxRes_nil, ↓sxRes_tmp, ↓bxRes_cell, ↓upd_apply, ↓ev_tmp, ↓ev_const, ↓ev_global, ↓ev_func, ↓dstAt, ↓gval_some, sxOptB_some, sxOptB_ite, mm_max, mm_min, binP_shl, binP_shr, binP_int, intBin, una_not_dec, una_nt, una_nf, una_neg, aPick_true, aPick_false, sxCallVB_fn, sxCallVB_yield, sxGuardB_u, sxGuardB_tt, sxGuardB_tf, sxGuardB_ft, sxGuardB_ff, sxIfB_t, sxIfB_f, packRes_one, packRes_two, List.map_cons, List.map_nil, List.nil_append, List.cons_append, List.append_nil, ↓reduceIte, Nat.reduceEqDiff, Nat.reduceLT, dec_T, dec_F, false_imp, true_and, and_true, true_implies, implies_true, false_and, and_false, true_or, or_true, false_or, or_false, and_self, or_self, read_relow, size_relow, low_relow, relow_relow, aLoad_relow, Nat.add_zero, Nat.mul_one, one1, Option.bind_some, ne_eq, Int.natCast_nonneg, Int.toNat_natCast, not_true_eq_false, not_false_eq_true, Option.map_some, Option.map_none, *, lenI, ldI] | (with_reducible refine sxDL_barE (by assumption) (by decide +kernel) ?_) | (with_reducible refine sxDL_bar (by decide +kernel) ?_) | (with_reducible refine sxD_bar (by decide +kernel) ?_))
      exact ⟨_, by omega, i + 1, _, _, _, rfl, by simp [hol], by omega, hf.1, hf.2.2, hcz', hf.2.1, L3, rfl, rfl, rfl⟩
    · have hlt1 : (i : Int) < (a.length : Int) := by omega
      have hlt2 : ¬ (i : Int) < (b.length : Int) := by omega
      have p1 := SlI_ix h1 hA
      have q1 := ((h1.keep L.keep).rdI hA).1
      have hwi := wrap_succ hA h1.ml
      have gy := getD_past hB
      have hf := fin (c + a.getD i 0) (by omega)
      have hob1 := L.push okI hg (by omega) ((c + a.getD i 0).tmod 10000)
      obtain ⟨v3, H3, p3, L3⟩ := hob1
      have b3 := bsI H2 ((c + a.getD i 0).tmod 10000)
      have hcz' : a.length < i + 1 ∧ b.length < i + 1 → (c + a.getD i 0).tdiv 10000 = 0 := fun hh => by rw [Int.tdiv_eq_ediv_of_nonneg (by omega)]; omega
      clear h1 h2 hsa' hsb' ha hb hov fin
      generalize a.getD i 0 = x at *
      have f1 : IntKind.i64.wrap (c + x) = c + x := IntWalk.i64_in _ (by omega)
      have hb0 : ¬ (10000 : Int) = 0 := by omega
      have hdv : IntKind.i64.wrap ((c + x).tdiv 10000) = (c + x).tdiv 10000 := IntWalk.i64_in _ (by rw [Int.tdiv_eq_ediv_of_nonneg (by omega)]; omega)
      repeat' (first | (with_reducible refine sxGuardB_tsp (fun h => ?_) (fun h => ?_)) | (with_reducible refine sxGuardB_fsp (fun h => ?_) (fun h => ?_)) | (with_reducible refine sxIfB_sp (fun h => ?_) (fun h => ?_)) | simp only [↓sxC_skip, ↓sxC_draw, ↓sxC_region, ↓sxC_seq, ↓bxC_cond, ↓bxC_loop, ↓sxC_block, ↓sxC_exit, ↓sxC_goto, ↓sxC_ret, ↓sxOps_nil, ↓sxOps_cons, ↓sxDraw_nil, ↓bxDraw_cons, ↓sxDL_move, ↓sxDL_assign, ↓sxDL_pick, ↓sxDL_alloc, ↓sxDL_box, ↓sxDL_build, ↓sxDL_buildSlice, ↓sxDL_insert, ↓sxDL_load, ↓sxDL_nilCheck, ↓sxDL_binOp, ↓sxDL_unOp, ↓sxDL_convert, ↓sxDL_makeInterface, ↓sxDL_makeFunc, ↓sxDL_makeMap, ↓sxDL_makeSlice, ↓sxDL_slice, ↓sxDL_fieldAddr, ↓sxDL_field, ↓sxDL_indexAddr, ↓sxDL_index, ↓sxDL_typeAssert, ↓sxDL_extract, ↓sxDL_call, ↓sxDL_lookup, ↓sxDL_mapUpdate, ↓sxDL_range, ↓sxDL_next, ↓sxDL_entry, ↓sxDL_mapEntry, ↓sxDL_entryStore, ↓sxD_same, ↓sxStep_none, ↓bxStep_some, ↓bxOp_move, ↓bxOp_assign, ↓bxOp_pick, ↓bxOp_alloc, ↓bxOp_box, ↓bxOp_build, ↓bxOp_buildSlice, ↓bxOp_load, ↓bxOp_store, ↓bxOp_nilCheck, ↓bxOp_bin, ↓bxOp_un, ↓bxOp_makeI, ↓bxOp_makeFunc, ↓bxOp_makeSlice, ↓bxOp_slice, ↓bxOp_fieldAddr, ↓bxOp_field, ↓bxOp_indexAddr, ↓bxOp_index, ↓bxOp_assert, ↓bxOp_extract, ↓bxOp_value, ↓bxOp_len, ↓bxOp_cap, ↓bxOp_append, ↓bxOp_copy, ↓bxOp_clear, ↓bxOp_max, ↓bxOp_min, ↓bxOp_convert, ↓sxPut_none, ↓bxPut, ↓seqQ_normal, ↓seqQ_exit, ↓seqQ_ret, ↓seqQ_goto, ↓blockQ_normal, ↓blockQ_ret, ↓blockQ_goto, ↓blockQ_exit, ↓loopQ_normal, ↓loopQ_exit, ↓loopQ_ret, ↓loopQ_goto, ↓resQ_normal, ↓resQ_ret, ↓sxRes_nil, ↓sxRes_tmp, ↓bxRes_cell, ↓upd_apply, ↓ev_tmp, ↓ev_const, ↓ev_global, ↓ev_func, ↓dstAt, ↓gval_some, sxOptB_some, sxOptB_ite, mm_max, mm_min, binP_shl, binP_shr, binP_int, intBin, una_not_dec, una_nt, una_nf, una_neg, aPick_true, aPick_false, sxCallVB_fn, sxCallVB_yield, sxGuardB_u, sxGuardB_tt, sxGuardB_tf, sxGuardB_ft, sxGuardB_ff, sxIfB_t, sxIfB_f, packRes_one, packRes_two, List.map_cons, List.map_nil, List.nil_append, List.cons_append, List.append_nil, ↓reduceIte, Nat.reduceEqDiff, Nat.reduceLT, dec_T, dec_F, false_imp, true_and, and_true, true_implies, implies_true, false_and, and_false, true_or, or_true, false_or, or_false, and_self, or_self, read_relow, size_relow, low_relow, relow_relow, aLoad_relow, Nat.add_zero, Nat.mul_one, one1, Option.bind_some, ne_eq, Int.natCast_nonneg, Int.toNat_natCast, not_true_eq_false, not_false_eq_true, Option.map_some, Option.map_none, *, lenI, ldI] | (with_reducible refine sxDL_barE (by assumption) (by decide +kernel) ?_) | (with_reducible refine sxDL_bar (by decide +kernel) ?_) | (with_reducible refine sxD_bar (by decide +kernel) ?_))
      exact ⟨_, by omega, i + 1, _, _, _, rfl, by simp [hol], by omega, hf.1, hf.2.2, hcz', hf.2.1, L3, rfl, rfl, rfl⟩
  · by_cases hB : i < b.length
    · have hlt1 : ¬ (i : Int) < (a.length : Int) := by omega
      have hlt2 : (i : Int) < (b.length : Int) := by omega
      have gx := getD_past hA
      have p2 := SlI_ix h2 hB
      have q2 := ((h2.keep L.keep).rdI hB).1
      have hwj := wrap_succ hB h2.ml
      have hf := fin (c + b.getD i 0) (by omega)
      have hob1 := L.push okI hg (by omega) ((c + b.getD i 0).tmod 10000)
      obtain ⟨v3, H3, p3, L3⟩ := hob1
      have b3 := bsI H2 ((c + b.getD i 0).tmod 10000)
      have hcz' : a.length < i + 1 ∧ b.length < i + 1 → (c + b.getD i 0).tdiv 10000 = 0 := fun hh => by rw [Int.tdiv_eq_ediv_of_nonneg (by omega)]; omega
      clear h1 h2 hsa' hsb' ha hb hov fin
      generalize b.getD i 0 = y at *
      have f2 : IntKind.i64.wrap (c + y) = c + y := IntWalk.i64_in _ (by omega)
      have hb0 : ¬ (10000 : Int) = 0 := by omega
      have hdv : IntKind.i64.wrap ((c + y).tdiv 10000) = (c + y).tdiv 10000 := IntWalk.i64_in _ (by rw [Int.tdiv_eq_ediv_of_nonneg (by omega)]; omega)
      repeat' (first | (with_reducible refine sxGuardB_tsp (fun h => ?_) (fun h => ?_)) | (with_reducible refine sxGuardB_fsp (fun h => ?_) (fun h => ?_)) | (with_reducible refine sxIfB_sp (fun h => ?_) (fun h => ?_)) | simp only [↓sxC_skip, ↓sxC_draw, ↓sxC_region, ↓sxC_seq, ↓bxC_cond, ↓bxC_loop, ↓sxC_block, ↓sxC_exit, ↓sxC_goto, ↓sxC_ret, ↓sxOps_nil, ↓sxOps_cons, ↓sxDraw_nil, ↓bxDraw_cons, ↓sxDL_move, ↓sxDL_assign, ↓sxDL_pick, ↓sxDL_alloc, ↓sxDL_box, ↓sxDL_build, ↓sxDL_buildSlice, ↓sxDL_insert, ↓sxDL_load, ↓sxDL_nilCheck, ↓sxDL_binOp, ↓sxDL_unOp, ↓sxDL_convert, ↓sxDL_makeInterface, ↓sxDL_makeFunc, ↓sxDL_makeMap, ↓sxDL_makeSlice, ↓sxDL_slice, ↓sxDL_fieldAddr, ↓sxDL_field, ↓sxDL_indexAddr, ↓sxDL_index, ↓sxDL_typeAssert, ↓sxDL_extract, ↓sxDL_call, ↓sxDL_lookup, ↓sxDL_mapUpdate, ↓sxDL_range, ↓sxDL_next, ↓sxDL_entry, ↓sxDL_mapEntry, ↓sxDL_entryStore, ↓sxD_same, ↓sxStep_none, ↓bxStep_some, ↓bxOp_move, ↓bxOp_assign, ↓bxOp_pick, ↓bxOp_alloc, ↓bxOp_box, ↓bxOp_build, ↓bxOp_buildSlice, ↓bxOp_load, ↓bxOp_store, ↓bxOp_nilCheck, ↓bxOp_bin, ↓bxOp_un, ↓bxOp_makeI, ↓bxOp_makeFunc, ↓bxOp_makeSlice, ↓bxOp_slice, ↓bxOp_fieldAddr, ↓bxOp_field, ↓bxOp_indexAddr, ↓bxOp_index, ↓bxOp_assert, ↓bxOp_extract, ↓bxOp_value, ↓bxOp_len, ↓bxOp_cap, ↓bxOp_append, ↓bxOp_copy, ↓bxOp_clear, ↓bxOp_max, ↓bxOp_min, ↓bxOp_convert, ↓sxPut_none, ↓bxPut, ↓seqQ_normal, ↓seqQ_exit, ↓seqQ_ret, ↓seqQ_goto, ↓blockQ_normal, ↓blockQ_ret, ↓blockQ_goto, ↓blockQ_exit, ↓loopQ_normal, ↓loopQ_exit, ↓loopQ_ret, ↓loopQ_goto, ↓resQ_normal, ↓resQ_ret, ↓sxRes_nil, ↓sxRes_tmp, ↓bxRes_cell, ↓upd_apply, ↓ev_tmp, ↓ev_const, ↓ev_global, ↓ev_func, ↓dstAt, ↓gval_some, sxOptB_some, sxOptB_ite, mm_max, mm_min, binP_shl, binP_shr, binP_int, intBin, una_not_dec, una_nt, una_nf, una_neg, aPick_true, aPick_false, sxCallVB_fn, sxCallVB_yield, sxGuardB_u, sxGuardB_tt, sxGuardB_tf, sxGuardB_ft, sxGuardB_ff, sxIfB_t, sxIfB_f, packRes_one, packRes_two, List.map_cons, List.map_nil, List.nil_append, List.cons_append, List.append_nil, ↓reduceIte, Nat.reduceEqDiff, Nat.reduceLT, dec_T, dec_F, false_imp, true_and, and_true, true_implies, implies_true, false_and, and_false, true_or, or_true, false_or, or_false, and_self, or_self, read_relow, size_relow, low_relow, relow_relow, aLoad_relow, Nat.add_zero, Nat.mul_one, one1, Option.bind_some, ne_eq, Int.natCast_nonneg, Int.toNat_natCast, not_true_eq_false, not_false_eq_true, Option.map_some, Option.map_none, *, lenI, ldI] | (with_reducible refine sxDL_barE (by assumption) (by decide +kernel) ?_) | (with_reducible refine sxDL_bar (by decide +kernel) ?_) | (with_reducible refine sxD_bar (by decide +kernel) ?_))
      exact ⟨_, by omega, i + 1, _, _, _, rfl, by simp [hol], by omega, hf.1, hf.2.2, hcz', hf.2.1, L3, rfl, rfl, rfl⟩
    · by_cases hC : c = 1
      · have hlt1 : ¬ (i : Int) < (a.length : Int) := by omega
        have hlt2 : ¬ (i : Int) < (b.length : Int) := by omega
        have gx := getD_past hA
        have gy := getD_past hB
        have hcp : 0 < c := by omega
        clear hC
        have hil : i ≤ a.length + b.length := by
          rcases Nat.lt_or_ge (a.length + b.length) i with h | h
          · have := hcz ⟨by omega, by omega⟩; omega
          · exact h
        have hwi : IntKind.i64.wrap ((i : Int) + 1) = ((i + 1 : Nat) : Int) := by rw [IntWalk.i64_in _ (by omega)]; omega
        have hf := fin (c) (by omega)
        have hob1 := L.push okI hg (by omega) ((c).tmod 10000)
        obtain ⟨v3, H3, p3, L3⟩ := hob1
        have b3 := bsI H2 ((c).tmod 10000)
        have hcz' : a.length < i + 1 ∧ b.length < i + 1 → (c).tdiv 10000 = 0 := fun hh => by rw [Int.tdiv_eq_ediv_of_nonneg (by omega)]; omega
        clear h1 h2 hsa' hsb' ha hb hov fin
        have hb0 : ¬ (10000 : Int) = 0 := by omega
        have hdv : IntKind.i64.wrap ((c).tdiv 10000) = (c).tdiv 10000 := IntWalk.i64_in _ (by rw [Int.tdiv_eq_ediv_of_nonneg (by omega)]; omega)
        repeat' (first | (with_reducible refine sxGuardB_tsp (fun h => ?_) (fun h => ?_)) | (with_reducible refine sxGuardB_fsp (fun h => ?_) (fun h => ?_)) | (with_reducible refine sxIfB_sp (fun h => ?_) (fun h => ?_)) | simp only [↓sxC_skip, ↓sxC_draw, ↓sxC_region, ↓sxC_seq, ↓bxC_cond, ↓bxC_loop, ↓sxC_block, ↓sxC_exit, ↓sxC_goto, ↓sxC_ret, ↓sxOps_nil, ↓sxOps_cons, ↓sxDraw_nil, ↓bxDraw_cons, ↓sxDL_move, ↓sxDL_assign, ↓sxDL_pick, ↓sxDL_alloc, ↓sxDL_box, ↓sxDL_build, ↓sxDL_buildSlice, ↓sxDL_insert, ↓sxDL_load, ↓sxDL_nilCheck, ↓sxDL_binOp, ↓sxDL_unOp, ↓sxDL_convert, ↓sxDL_makeInterface, ↓sxDL_makeFunc, ↓sxDL_makeMap, ↓sxDL_makeSlice, ↓sxDL_slice, ↓sxDL_fieldAddr, ↓sxDL_field, ↓sxDL_indexAddr, ↓sxDL_index, ↓sxDL_typeAssert, ↓sxDL_extract, ↓sxDL_call, ↓sxDL_lookup, ↓sxDL_mapUpdate, ↓sxDL_range, ↓sxDL_next, ↓sxDL_entry, ↓sxDL_mapEntry, ↓sxDL_entryStore, ↓sxD_same, ↓sxStep_none, ↓bxStep_some, ↓bxOp_move, ↓bxOp_assign, ↓bxOp_pick, ↓bxOp_alloc, ↓bxOp_box, ↓bxOp_build, ↓bxOp_buildSlice, ↓bxOp_load, ↓bxOp_store, ↓bxOp_nilCheck, ↓bxOp_bin, ↓bxOp_un, ↓bxOp_makeI, ↓bxOp_makeFunc, ↓bxOp_makeSlice, ↓bxOp_slice, ↓bxOp_fieldAddr, ↓bxOp_field, ↓bxOp_indexAddr, ↓bxOp_index, ↓bxOp_assert, ↓bxOp_extract, ↓bxOp_value, ↓bxOp_len, ↓bxOp_cap, ↓bxOp_append, ↓bxOp_copy, ↓bxOp_clear, ↓bxOp_max, ↓bxOp_min, ↓bxOp_convert, ↓sxPut_none, ↓bxPut, ↓seqQ_normal, ↓seqQ_exit, ↓seqQ_ret, ↓seqQ_goto, ↓blockQ_normal, ↓blockQ_ret, ↓blockQ_goto, ↓blockQ_exit, ↓loopQ_normal, ↓loopQ_exit, ↓loopQ_ret, ↓loopQ_goto, ↓resQ_normal, ↓resQ_ret, ↓sxRes_nil, ↓sxRes_tmp, ↓bxRes_cell, ↓upd_apply, ↓ev_tmp, ↓ev_const, ↓ev_global, ↓ev_func, ↓dstAt, ↓gval_some, sxOptB_some, sxOptB_ite, mm_max, mm_min, binP_shl, binP_shr, binP_int, intBin, una_not_dec, una_nt, una_nf, una_neg, aPick_true, aPick_false, sxCallVB_fn, sxCallVB_yield, sxGuardB_u, sxGuardB_tt, sxGuardB_tf, sxGuardB_ft, sxGuardB_ff, sxIfB_t, sxIfB_f, packRes_one, packRes_two, List.map_cons, List.map_nil, List.nil_append, List.cons_append, List.append_nil, ↓reduceIte, Nat.reduceEqDiff, Nat.reduceLT, dec_T, dec_F, false_imp, true_and, and_true, true_implies, implies_true, false_and, and_false, true_or, or_true, false_or, or_false, and_self, or_self, read_relow, size_relow, low_relow, relow_relow, aLoad_relow, Nat.add_zero, Nat.mul_one, one1, Option.bind_some, ne_eq, Int.natCast_nonneg, Int.toNat_natCast, not_true_eq_false, not_false_eq_true, Option.map_some, Option.map_none, *, lenI, ldI] | (with_reducible refine sxDL_barE (by assumption) (by decide +kernel) ?_) | (with_reducible refine sxDL_bar (by decide +kernel) ?_) | (with_reducible refine sxD_bar (by decide +kernel) ?_))
        exact ⟨_, by omega, i + 1, _, _, _, rfl, by simp [hol], by omega, hf.1, hf.2.2, hcz', hf.2.1, L3, rfl, rfl, rfl⟩
      · have hc0 : c = 0 := by omega
        have hlt1 : ¬ (i : Int) < (a.length : Int) := by omega
        have hlt2 : ¬ (i : Int) < (b.length : Int) := by omega
        have hcp : ¬ 0 < c := by omega
        rw [List.take_of_length_le (by omega), List.take_of_length_le (by omega), hc0, Int.mul_zero, Int.add_zero] at hov
        have hob1 := L.slF (fun z hz => by have := hod z hz; show -9223372036854775808 ≤ z ∧ z ≤ 9223372036854775807; omega) (by show out.length ≤ 9223372036854775807; omega)
        obtain ⟨rr, sl, hfr⟩ := hob1
        have hF := L.fine
        have hle : out.length ≤ a.length + b.length + 1 := by omega
        have hk := L.keep
        have hgg := L.grp
        clear h1 h2 ha hb L hol fin hc0 hc hcz hsa' hsb' hai hbi
        repeat' (first | (with_reducible refine sxGuardB_tsp (fun h => ?_) (fun h => ?_)) | (with_reducible refine sxGuardB_fsp (fun h => ?_) (fun h => ?_)) | (with_reducible refine sxIfB_sp (fun h => ?_) (fun h => ?_)) | simp only [↓sxC_skip, ↓sxC_draw, ↓sxC_region, ↓sxC_seq, ↓bxC_cond, ↓bxC_loop, ↓sxC_block, ↓sxC_exit, ↓sxC_goto, ↓sxC_ret, ↓sxOps_nil, ↓sxOps_cons, ↓sxDraw_nil, ↓bxDraw_cons, ↓sxDL_move, ↓sxDL_assign, ↓sxDL_pick, ↓sxDL_alloc, ↓sxDL_box, ↓sxDL_build, ↓sxDL_buildSlice, ↓sxDL_insert, ↓sxDL_load, ↓sxDL_nilCheck, ↓sxDL_binOp, ↓sxDL_unOp, ↓sxDL_convert, ↓sxDL_makeInterface, ↓sxDL_makeFunc, ↓sxDL_makeMap, ↓sxDL_makeSlice, ↓sxDL_slice, ↓sxDL_fieldAddr, ↓sxDL_field, ↓sxDL_indexAddr, ↓sxDL_index, ↓sxDL_typeAssert, ↓sxDL_extract, ↓sxDL_call, ↓sxDL_lookup, ↓sxDL_mapUpdate, ↓sxDL_range, ↓sxDL_next, ↓sxDL_entry, ↓sxDL_mapEntry, ↓sxDL_entryStore, ↓sxD_same, ↓sxStep_none, ↓bxStep_some, ↓bxOp_move, ↓bxOp_assign, ↓bxOp_pick, ↓bxOp_alloc, ↓bxOp_box, ↓bxOp_build, ↓bxOp_buildSlice, ↓bxOp_load, ↓bxOp_store, ↓bxOp_nilCheck, ↓bxOp_bin, ↓bxOp_un, ↓bxOp_makeI, ↓bxOp_makeFunc, ↓bxOp_makeSlice, ↓bxOp_slice, ↓bxOp_fieldAddr, ↓bxOp_field, ↓bxOp_indexAddr, ↓bxOp_index, ↓bxOp_assert, ↓bxOp_extract, ↓bxOp_value, ↓bxOp_len, ↓bxOp_cap, ↓bxOp_append, ↓bxOp_copy, ↓bxOp_clear, ↓bxOp_max, ↓bxOp_min, ↓bxOp_convert, ↓sxPut_none, ↓bxPut, ↓seqQ_normal, ↓seqQ_exit, ↓seqQ_ret, ↓seqQ_goto, ↓blockQ_normal, ↓blockQ_ret, ↓blockQ_goto, ↓blockQ_exit, ↓loopQ_normal, ↓loopQ_exit, ↓loopQ_ret, ↓loopQ_goto, ↓resQ_normal, ↓resQ_ret, ↓sxRes_nil, ↓sxRes_tmp, ↓bxRes_cell, ↓upd_apply, ↓ev_tmp, ↓ev_const, ↓ev_global, ↓ev_func, ↓dstAt, ↓gval_some, sxOptB_some, sxOptB_ite, mm_max, mm_min, binP_shl, binP_shr, binP_int, intBin, una_not_dec, una_nt, una_nf, una_neg, aPick_true, aPick_false, sxCallVB_fn, sxCallVB_yield, sxGuardB_u, sxGuardB_tt, sxGuardB_tf, sxGuardB_ft, sxGuardB_ff, sxIfB_t, sxIfB_f, packRes_one, packRes_two, List.map_cons, List.map_nil, List.nil_append, List.cons_append, List.append_nil, ↓reduceIte, Nat.reduceEqDiff, Nat.reduceLT, dec_T, dec_F, false_imp, true_and, and_true, true_implies, implies_true, false_and, and_false, true_or, or_true, false_or, or_false, and_self, or_self, read_relow, size_relow, low_relow, relow_relow, aLoad_relow, Nat.add_zero, Nat.mul_one, one1, Option.bind_some, ne_eq, Int.natCast_nonneg, Int.toNat_natCast, not_true_eq_false, not_false_eq_true, Option.map_some, Option.map_none, *, lenI] | (with_reducible refine sxDL_barE (by assumption) (by decide +kernel) ?_) | (with_reducible refine sxDL_bar (by decide +kernel) ?_) | (with_reducible refine sxD_bar (by decide +kernel) ?_))
        exact ⟨out, rr, 0, hod, hov, hle, sl, hfr⟩
end Go.Proofs.YtnbhjbelgmkpeaaDoor
