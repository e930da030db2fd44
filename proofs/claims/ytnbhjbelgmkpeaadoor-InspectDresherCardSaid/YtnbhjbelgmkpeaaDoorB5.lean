/- Whole numbers of any size, continued: a number of a sign and digits. -/
import Derived.Test.YtnbhjbelgmkpeaaDoorB4
set_option linter.unusedVariables false
set_option linter.unusedSimpArgs false
set_option linter.unusedSectionVars false

namespace Go.Proofs.YtnbhjbelgmkpeaaDoor
open Go Go.AM
set_option maxRecDepth 10000
set_option linter.unusedSimpArgs false
variable {S : AM.Sys} (hS : Only S 10)
include hS

theorem whole_runs (neg : Bool) (v : Value) (d : List Int) (r o : Nat) (H : Heap) (hg : Grp H) (hL : H.low ≤ H.size) (hd : SlI .i64 H v d r o) (hs : d.length ≤ 100000) :
    ∃ H' v' r' o', Keep H H' ∧ Grp H' ∧ SlI .i64 H' v' (trimL d) r' o' ∧ Fine v' ∧ (0 < (trimL d).length → H.size ≤ r') ∧ Runs Tryd.prog S (.fn 86) [.bool neg, v] H (.agg ⟨[.bool (neg && decide (0 < (trimL d).length)), v']⟩) H' := by
  suffices h : WCall Tryd.prog S (.fn 86) [.bool neg, v] H (fun v' H' => ∃ v3 r' o', v' = .agg ⟨[.bool (neg && decide (0 < (trimL d).length)), v3]⟩ ∧ Keep H H' ∧ Grp H' ∧ SlI .i64 H' v3 (trimL d) r' o' ∧ Fine v3 ∧ (0 < (trimL d).length → H.size ≤ r')) by
    obtain ⟨_, H', hr, v3, r', o', rfl, h1, h2, h3, h4, h5⟩ := h; exact ⟨H', v3, r', o', h1, h2, h3, h4, h5, hr⟩
  obtain ⟨H1, e1, hK1, hs1, zz, _⟩ := box1 H [.bool false, .slice none 0 0] 50
  have w1 : Own H1 H.size 50 [.bool false, .slice none 0 0] := e1 ▸ Own.new H _ _
  have hal : aAlloc Tryd.prog H 50 = some (.pointer (some ⟨H.size, 0, none⟩), H.newExact [.bool false, .slice none 0 0] 50) := by kernel_rfl
  have hob := trim_runs hS v d r o H1 (hK1.grp hg) (hK1.low hL) (hd.keep hK1) hs
  obtain ⟨H3, v3, r3, o3, hK3, hg3, s3, hF3, hfr3, hR3⟩ := hob
  have f3 := hR3.bx
  obtain ⟨a3, c3, rfl⟩ := s3.v0
  have w3 := w1.keep hK3
  have hK13 := hK1.trans hK3
  have hob2 := w3.store (P := Tryd.prog) (t := 50) (i := Tryd.t50) (by kernel_rfl) (v := .agg ⟨[.bool (neg && decide (0 < (trimL d).length)), .slice a3 (trimL d).length c3]⟩) (new := [.bool (neg && decide (0 < (trimL d).length)), .slice a3 (trimL d).length c3]) rfl (by kernel_rfl) rfl (o := 0) (show 0 + 2 ≤ 2 by omega)
  obtain ⟨H4, ps, w4, hsz4, _, hkp⟩ := hob2
  have hK4 := hkp H hK13 (Nat.le_refl _)
  have s4 := SlE.other w3 ps hsz4 s3 (fun h0 => by have := hfr3 h0; omega)
  have q4 := w4.read (o := 0) (n := 2) (by rw [splice_length (show 0 + 2 ≤ 2 by omega)]; show 0 + 2 ≤ 2; omega)
  have q5 : H4.read H.size 0 2 = some [.bool (neg && decide (0 < (trimL d).length)), .slice a3 (trimL d).length c3] := q4
  have hld : ∀ (H : Heap) (r o : Nat), aLoad Tryd.prog H 50 (.pointer (some ⟨r, o, none⟩)) = (H.read r o 2).map fun l => .agg ⟨l⟩ := fun H r o => by kernel_rfl
  have hbd : ∀ (x : Bool) (a : Option Addr) (n c : Nat), aBuild Tryd.prog 50 [(0, .bool x), (1, .slice a n c)] = some (.agg ⟨[.bool x, .slice a n c]⟩) := fun x a n c => by kernel_rfl
  have hfr : 0 < (trimL d).length → H.size ≤ r3 := fun h => by have := hfr3 h; omega
  have hg4 := hK4.grp hg
  have hpos : (0 : Int) < ((trimL d).length : Int) ↔ 0 < (trimL d).length := by omega
  clear zz hs1
  refine call_of Tryd.func86 rfl (Nat.le_of_ble_eq_true rfl) (hS.no rfl _ _) ?_
  rw [Tryd.ntmps86, Tryd.results86]
  clear hR3 hd s3 w1 w3 w4 q4 hkp hfr3
  generalize trimL d = T at *
  cases neg
  · simp only [Bool.false_and] at ps q5 ⊢
    repeat' (first | (with_reducible refine sxGuardB_tsp (fun h => ?_) (fun h => ?_)) | (with_reducible refine sxGuardB_fsp (fun h => ?_) (fun h => ?_)) | (with_reducible refine sxIfB_sp (fun h => ?_) (fun h => ?_)) | simp only [↓sxC_skip, ↓sxC_draw, ↓sxC_region, ↓sxC_seq, ↓bxC_cond, ↓bxC_loop, ↓sxC_block, ↓sxC_exit, ↓sxC_goto, ↓sxC_ret, ↓sxOps_nil, ↓sxOps_cons, ↓sxDraw_nil, ↓bxDraw_cons, ↓sxDL_move, ↓sxDL_assign, ↓sxDL_pick, ↓sxDL_alloc, ↓sxDL_box, ↓sxDL_build, ↓sxDL_buildSlice, ↓sxDL_insert, ↓sxDL_load, ↓sxDL_nilCheck, ↓sxDL_binOp, ↓sxDL_unOp, ↓sxDL_convert, ↓sxDL_makeInterface, ↓sxDL_makeFunc, ↓sxDL_makeMap, ↓sxDL_makeSlice, ↓sxDL_slice, ↓sxDL_fieldAddr, ↓sxDL_field, ↓sxDL_indexAddr, ↓sxDL_index, ↓sxDL_typeAssert, ↓sxDL_extract, ↓sxDL_call, ↓sxDL_lookup, ↓sxDL_mapUpdate, ↓sxDL_range, ↓sxDL_next, ↓sxDL_entry, ↓sxDL_mapEntry, ↓sxDL_entryStore, ↓sxD_same, ↓sxStep_none, ↓bxStep_some, ↓bxOp_move, ↓bxOp_assign, ↓bxOp_pick, ↓bxOp_alloc, ↓bxOp_box, ↓bxOp_build, ↓bxOp_buildSlice, ↓bxOp_load, ↓bxOp_store, ↓bxOp_nilCheck, ↓bxOp_bin, ↓bxOp_un, ↓bxOp_makeI, ↓bxOp_makeFunc, ↓bxOp_makeSlice, ↓bxOp_slice, ↓bxOp_fieldAddr, ↓bxOp_field, ↓bxOp_indexAddr, ↓bxOp_index, ↓bxOp_assert, ↓bxOp_extract, ↓bxOp_value, ↓bxOp_len, ↓bxOp_cap, ↓bxOp_append, ↓bxOp_copy, ↓bxOp_max, ↓bxOp_min, ↓bxOp_convert, ↓sxPut_none, ↓bxPut, ↓seqQ_normal, ↓seqQ_exit, ↓seqQ_ret, ↓seqQ_goto, ↓blockQ_normal, ↓blockQ_ret, ↓blockQ_goto, ↓blockQ_exit, ↓loopQ_normal, ↓loopQ_exit, ↓loopQ_ret, ↓loopQ_goto, ↓resQ_normal, ↓resQ_ret, ↓sxRes_nil, ↓sxRes_tmp, ↓bxRes_cell, ↓upd_apply, ↓ev_tmp, ↓ev_const, ↓ev_global, ↓ev_func, ↓dstAt, ↓gval_some, sxOptB_some, sxOptB_ite, mm_max, mm_min, binP_shl, binP_shr, binP_int, intBin, una_not_dec, una_nt, una_nf, una_neg, aPick_true, aPick_false, sxCallVB_fn, sxCallVB_yield, sxGuardB_u, sxGuardB_tt, sxGuardB_tf, sxGuardB_ft, sxGuardB_ff, sxIfB_t, sxIfB_f, packRes_one, packRes_two, List.map_cons, List.map_nil, List.nil_append, List.cons_append, List.append_nil, ↓reduceIte, Nat.reduceEqDiff, Nat.reduceLT, dec_T, dec_F, false_imp, true_and, and_true, true_implies, implies_true, false_and, and_false, true_or, or_true, false_or, or_false, and_self, or_self, read_relow, size_relow, low_relow, relow_relow, aLoad_relow, Nat.add_zero, Nat.mul_one, one1, Option.bind_some, ne_eq, Int.natCast_nonneg, Int.toNat_natCast, not_true_eq_false, not_false_eq_true, Option.map_some, Option.map_none, *, argF, List.getD_cons_zero, List.getD_cons_succ, lenI] | (with_reducible refine sxDL_bar (by decide +kernel) ?_) | (with_reducible refine sxD_bar (by decide +kernel) ?_))
    exact ⟨_, r3, o3, rfl, s4, hF3, hfr⟩
  · simp only [Bool.true_and] at ps q5 ⊢
    repeat' (first | (with_reducible refine sxGuardB_tsp (fun h => ?_) (fun h => ?_)) | (with_reducible refine sxGuardB_fsp (fun h => ?_) (fun h => ?_)) | (with_reducible refine sxIfB_sp (fun h => ?_) (fun h => ?_)) | simp only [↓sxC_skip, ↓sxC_draw, ↓sxC_region, ↓sxC_seq, ↓bxC_cond, ↓bxC_loop, ↓sxC_block, ↓sxC_exit, ↓sxC_goto, ↓sxC_ret, ↓sxOps_nil, ↓sxOps_cons, ↓sxDraw_nil, ↓bxDraw_cons, ↓sxDL_move, ↓sxDL_assign, ↓sxDL_pick, ↓sxDL_alloc, ↓sxDL_box, ↓sxDL_build, ↓sxDL_buildSlice, ↓sxDL_insert, ↓sxDL_load, ↓sxDL_nilCheck, ↓sxDL_binOp, ↓sxDL_unOp, ↓sxDL_convert, ↓sxDL_makeInterface, ↓sxDL_makeFunc, ↓sxDL_makeMap, ↓sxDL_makeSlice, ↓sxDL_slice, ↓sxDL_fieldAddr, ↓sxDL_field, ↓sxDL_indexAddr, ↓sxDL_index, ↓sxDL_typeAssert, ↓sxDL_extract, ↓sxDL_call, ↓sxDL_lookup, ↓sxDL_mapUpdate, ↓sxDL_range, ↓sxDL_next, ↓sxDL_entry, ↓sxDL_mapEntry, ↓sxDL_entryStore, ↓sxD_same, ↓sxStep_none, ↓bxStep_some, ↓bxOp_move, ↓bxOp_assign, ↓bxOp_pick, ↓bxOp_alloc, ↓bxOp_box, ↓bxOp_build, ↓bxOp_buildSlice, ↓bxOp_load, ↓bxOp_store, ↓bxOp_nilCheck, ↓bxOp_bin, ↓bxOp_un, ↓bxOp_makeI, ↓bxOp_makeFunc, ↓bxOp_makeSlice, ↓bxOp_slice, ↓bxOp_fieldAddr, ↓bxOp_field, ↓bxOp_indexAddr, ↓bxOp_index, ↓bxOp_assert, ↓bxOp_extract, ↓bxOp_value, ↓bxOp_len, ↓bxOp_cap, ↓bxOp_append, ↓bxOp_copy, ↓bxOp_max, ↓bxOp_min, ↓bxOp_convert, ↓sxPut_none, ↓bxPut, ↓seqQ_normal, ↓seqQ_exit, ↓seqQ_ret, ↓seqQ_goto, ↓blockQ_normal, ↓blockQ_ret, ↓blockQ_goto, ↓blockQ_exit, ↓loopQ_normal, ↓loopQ_exit, ↓loopQ_ret, ↓loopQ_goto, ↓resQ_normal, ↓resQ_ret, ↓sxRes_nil, ↓sxRes_tmp, ↓bxRes_cell, ↓upd_apply, ↓ev_tmp, ↓ev_const, ↓ev_global, ↓ev_func, ↓dstAt, ↓gval_some, sxOptB_some, sxOptB_ite, mm_max, mm_min, binP_shl, binP_shr, binP_int, intBin, una_not_dec, una_nt, una_nf, una_neg, aPick_true, aPick_false, sxCallVB_fn, sxCallVB_yield, sxGuardB_u, sxGuardB_tt, sxGuardB_tf, sxGuardB_ft, sxGuardB_ff, sxIfB_t, sxIfB_f, packRes_one, packRes_two, List.map_cons, List.map_nil, List.nil_append, List.cons_append, List.append_nil, ↓reduceIte, Nat.reduceEqDiff, Nat.reduceLT, dec_T, dec_F, false_imp, true_and, and_true, true_implies, implies_true, false_and, and_false, true_or, or_true, false_or, or_false, and_self, or_self, read_relow, size_relow, low_relow, relow_relow, aLoad_relow, Nat.add_zero, Nat.mul_one, one1, Option.bind_some, ne_eq, Int.natCast_nonneg, Int.toNat_natCast, not_true_eq_false, not_false_eq_true, Option.map_some, Option.map_none, *, argF, List.getD_cons_zero, List.getD_cons_succ, lenI] | (with_reducible refine sxDL_bar (by decide +kernel) ?_) | (with_reducible refine sxD_bar (by decide +kernel) ?_))
    exact ⟨_, r3, o3, rfl, s4, hF3, hfr⟩
end Go.Proofs.YtnbhjbelgmkpeaaDoor
