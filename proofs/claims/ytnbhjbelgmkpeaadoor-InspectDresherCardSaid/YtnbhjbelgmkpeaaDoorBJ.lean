/- Whole numbers of any size, continued: the difference. -/
import Derived.Test.YtnbhjbelgmkpeaaDoorBI
set_option linter.unusedVariables false
set_option linter.unusedSimpArgs false
set_option linter.unusedSectionVars false

namespace Go.Proofs.YtnbhjbelgmkpeaaDoor
open Go Go.AM
set_option maxRecDepth 10000
set_option linter.unusedSimpArgs false

variable {S : AM.Sys} (hS : Only S 10)
include hS

theorem Minus_runs (v1 v2 : Value) (x y : Int) (l1 l2 : Nat) (H : Heap) (hg : Grp H) (hL : H.low ≤ H.size) (h1 : BigIs H v1 x l1) (h2 : BigIs H v2 y l2) (hl1 : l1 ≤ 400) (hl2 : l2 ≤ 400) : BigOut S 57 [v1, v2] H (x - y) (l1 + l2 + 1) := by
  suffices h : WCall Tryd.prog S (.fn 57) [v1, v2] H (fun v H' => Keep H H' ∧ Grp H' ∧ BigIs H' v (x - y) (l1 + l2 + 1)) by
    obtain ⟨v, H', hr, h1, h2, h3⟩ := h; exact ⟨H', v, h1, h2, h3, hr⟩
  have h1' := h1
  have h2' := h2
  obtain ⟨u1, w1, r1, o1, rfl, s1, -⟩ := h1
  obtain ⟨u2, w2, r2, o2, rfl, s2, -⟩ := h2
  clear s1 s2
  obtain ⟨H1, b1, hK1, hs1, zz1, hr1⟩ := box1 H [.bool (decide (x < 0)), u1] 50
  obtain ⟨H2, b2, hK2, hs2, zz2, hr2⟩ := box1 H1 [.bool (decide (y < 0)), u2] 50
  obtain ⟨H3, b3, hK3, hs3, zz3, _⟩ := box1 H2 [.bool false, .slice none 0 0] 50
  have ow : Own H3 H2.size 50 [.bool false, .slice none 0 0] := b3 ▸ Own.new H2 _ _
  clear zz1 zz2 zz3
  have q0 := (hK2.trans hK3).read hs1 (hr1 0 2 (show 0 + 2 ≤ 2 by omega))
  have q2 := hK3.read hs2 (hr2 0 2 (show 0 + 2 ≤ 2 by omega))
  replace q0 : H3.read H.size 0 2 = some [.bool (decide (x < 0)), u1] := q0
  replace q2 : H3.read H1.size 0 2 = some [.bool (decide (y < 0)), u2] := q2
  have hc1 : (Value.agg ⟨[.bool (decide (x < 0)), u1]⟩).cells.toList = [.bool (decide (x < 0)), u1] := rfl
  have hc2 : (Value.agg ⟨[.bool (decide (y < 0)), u2]⟩).cells.toList = [.bool (decide (y < 0)), u2] := rfl
  have hK03 := (hK1.trans hK2).trans hK3
  have hL3 := hK03.low hL
  have hg3 := hK03.grp hg
  clear hr1 hr2
  have hrl := Keep.relowS H3
  have hob := Neg_runs hS _ y l2 (H3.relow H3.size) (hrl.grp hg3) (Nat.le_refl _) ((h2'.keep hK03).keep hrl) (by omega)
  obtain ⟨H4, v4, hK4, hg4, hb4, hR4⟩ := hob
  have f4 := hR4.bx
  have hd1 : ∀ (all : List Oper) (n : Nat) (k : Heap → Prop), sxD all n H3 H4 k = k (H4.relow (Nat.min H3.low H4.low)) := fun all n k => sxD_keep hK4 k
  have hK35 := Keep.draw hK4
  have hb5 : BigIs (H4.relow (Nat.min H3.low H4.low)) v4 (0 - y) l2 := hb4.addr0
  have hL5 := hK35.low hL3
  generalize hH5 : H4.relow (Nat.min H3.low H4.low) = H5 at *
  have hrl5 := Keep.relowS H5
  have hz : x + (0 - y) = x - y := by omega
  have hob2 := Plus_runs hS _ _ x (0 - y) l1 l2 (H5.relow H5.size) (hrl5.grp (hK35.grp hg3)) (Nat.le_refl _) ((h1'.keep (hK03.trans hK35)).keep hrl5) (hb5.keep hrl5) hl1 hl2
  rw [hz] at hob2
  obtain ⟨v6, H6, H7, H8, fc, fd, ps, hld, hL7, hK8, hg8, hbig⟩ := endBig (hK03.trans hK35) (Nat.le_trans hK1.size hK2.size) hL5 hg (ow.keep hK35) hob2
  rw [ldBig] at hld
  have q0' := hK35.read (Nat.lt_of_lt_of_le hs1 (hK2.trans hK3).size) q0
  refine call_of Tryd.func57 rfl (Nat.le_of_ble_eq_true rfl) (hS.no rfl _ _) ?_
  rw [Tryd.ntmps57, Tryd.results57]
  clear hR4 ow h1' h2' hb4 hb5 hob2
  repeat' (first | (with_reducible refine sxGuardB_tsp (fun h => ?_) (fun h => ?_)) | (with_reducible refine sxGuardB_fsp (fun h => ?_) (fun h => ?_)) | (with_reducible refine sxIfB_sp (fun h => ?_) (fun h => ?_)) | simp only [↓sxC_skip, ↓sxC_draw, ↓sxC_region, ↓sxC_seq, ↓bxC_cond, ↓bxC_loop, ↓sxC_block, ↓sxC_exit, ↓sxC_goto, ↓sxC_ret, ↓sxOps_nil, ↓sxOps_cons, ↓sxDraw_nil, ↓bxDraw_cons, ↓sxDL_move, ↓sxDL_assign, ↓sxDL_pick, ↓sxDL_alloc, ↓sxDL_box, ↓sxDL_build, ↓sxDL_buildSlice, ↓sxDL_insert, ↓sxDL_load, ↓sxDL_nilCheck, ↓sxDL_binOp, ↓sxDL_unOp, ↓sxDL_convert, ↓sxDL_makeInterface, ↓sxDL_makeFunc, ↓sxDL_makeMap, ↓sxDL_makeSlice, ↓sxDL_slice, ↓sxDL_fieldAddr, ↓sxDL_field, ↓sxDL_indexAddr, ↓sxDL_index, ↓sxDL_typeAssert, ↓sxDL_extract, ↓sxDL_call, ↓sxDL_lookup, ↓sxDL_mapUpdate, ↓sxDL_range, ↓sxDL_next, ↓sxDL_entry, ↓sxDL_mapEntry, ↓sxDL_entryStore, ↓sxD_same, ↓sxStep_none, ↓bxStep_some, ↓bxOp_move, ↓bxOp_assign, ↓bxOp_pick, ↓bxOp_alloc, ↓bxOp_box, ↓bxOp_build, ↓bxOp_buildSlice, ↓bxOp_load, ↓bxOp_store, ↓bxOp_nilCheck, ↓bxOp_bin, ↓bxOp_un, ↓bxOp_makeI, ↓bxOp_makeFunc, ↓bxOp_makeSlice, ↓bxOp_slice, ↓bxOp_fieldAddr, ↓bxOp_field, ↓bxOp_indexAddr, ↓bxOp_index, ↓bxOp_assert, ↓bxOp_extract, ↓bxOp_value, ↓bxOp_len, ↓bxOp_cap, ↓bxOp_append, ↓bxOp_copy, ↓bxOp_max, ↓bxOp_min, ↓bxOp_convert, ↓sxPut_none, ↓bxPut, ↓seqQ_normal, ↓seqQ_exit, ↓seqQ_ret, ↓seqQ_goto, ↓blockQ_normal, ↓blockQ_ret, ↓blockQ_goto, ↓blockQ_exit, ↓loopQ_normal, ↓loopQ_exit, ↓loopQ_ret, ↓loopQ_goto, ↓resQ_normal, ↓resQ_ret, ↓sxRes_nil, ↓sxRes_tmp, ↓bxRes_cell, ↓upd_apply, ↓ev_tmp, ↓ev_const, ↓ev_global, ↓ev_func, ↓dstAt, ↓gval_some, sxOptB_some, sxOptB_ite, mm_max, mm_min, binP_shl, binP_shr, binP_int, intBin, una_not_dec, una_nt, una_nf, una_neg, aPick_true, aPick_false, sxCallVB_fn, sxCallVB_yield, sxGuardB_u, sxGuardB_tt, sxGuardB_tf, sxGuardB_ft, sxGuardB_ff, sxIfB_t, sxIfB_f, packRes_one, packRes_two, List.map_cons, List.map_nil, List.nil_append, List.cons_append, List.append_nil, ↓reduceIte, Nat.reduceEqDiff, Nat.reduceLT, dec_T, dec_F, false_imp, true_and, and_true, true_implies, implies_true, false_and, and_false, true_or, or_true, false_or, or_false, and_self, or_self, read_relow, size_relow, low_relow, relow_relow, aLoad_relow, Nat.add_zero, Nat.mul_one, one1, Option.bind_some, ne_eq, Int.natCast_nonneg, Int.toNat_natCast, not_true_eq_false, not_false_eq_true, Option.map_some, Option.map_none, *, argF, List.getD_cons_zero, List.getD_cons_succ, lenI, alBig, ldBig, faG0, faG1, ldB4, ldIs, eqlB, hc1, hc2, Nat.zero_add] | (with_reducible refine sxDL_bar (by decide +kernel) ?_) | (with_reducible refine sxD_bar (by decide +kernel) ?_))
end Go.Proofs.YtnbhjbelgmkpeaaDoor
