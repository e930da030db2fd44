/- The program's Print, on the canonical machine. -/
import Derived.Test.YtifnmlocblanbaaN5
set_option linter.unusedVariables false
set_option linter.unusedSimpArgs false
set_option linter.unusedSectionVars false

namespace Go.Proofs.Ytifnmlocblanbaa
open Go Go.AM
set_option maxRecDepth 10000
set_option linter.unusedSimpArgs false
set_option linter.unusedVariables false

theorem encPart_bound (p : Txt) : (encPart p).length ≤ 2 * p.length := by
  induction p with
  | nil => simp [encPart]
  | cons b p ih =>
    have : encPart (b :: p) = (if Sg b then [63, b] else [b]) ++ encPart p := by unfold encPart; simp
    rw [this, List.length_append]
    split <;> simp <;> omega
theorem flat_bound {α : Type} (f : α → Txt) (b : Nat) : ∀ (l : List α), (∀ x ∈ l, (f x).length ≤ b) → (l.flatMap f).length ≤ l.length * b
  | [], _ => by simp
  | x :: l, h => by
    have h1 := flat_bound f b l fun y hy => h y (by simp [hy])
    have h2 := h x (by simp)
    rw [List.flatMap_cons, List.length_append, List.length_cons, Nat.succ_mul]
    omega
theorem encElem_bound {e : List Txt} (h : ElemOkP e) : (encElem e).length ≤ 205 := by
  obtain ⟨h1, h2, h3⟩ := h
  cases e with
  | nil => simp [encElem]
  | cons p ps =>
    have hp := encPart_bound p
    have hpl := (h3 p (by simp)).1
    have hps := flat_bound (fun p => (58 : UInt8) :: encPart p) 41 ps fun q hq => by
      have := encPart_bound q
      have := (h3 q (by simp [hq])).1
      simp; omega
    have he : (encElem (p :: ps)).length = 1 + (encPart p).length + (encParts 58 ps).length := by simp [encElem]; omega
    have hq : (encParts 58 ps).length ≤ ps.length * 41 := hps
    simp at h2
    have : ps.length * 41 ≤ 4 * 41 := Nat.mul_le_mul_right _ (by omega)
    omega
theorem encSeg_bound {x : Segm} (h : SegOk x) : (encSeg x).length ≤ 1644 := by
  obtain ⟨⟨_, h1, _⟩, h2, h3⟩ := h
  have he : (encSeg x).length = x.1.length + (x.2.flatMap encElem).length + 1 := by unfold encSeg; simp; omega
  have hq := flat_bound encElem 205 x.2 fun e he => encElem_bound (h3 e he)
  have : x.2.length * 205 ≤ 8 * 205 := Nat.mul_le_mul_right _ h2
  omega
theorem encMsg_bound {w : List Segm} (h : MsgOk w) : (encMsg w).length ≤ 98640 := by
  have hq := flat_bound encSeg 1644 w fun x hx => encSeg_bound (h.2 x hx)
  have : w.length * 1644 ≤ 60 * 1644 := Nat.mul_le_mul_right _ h.1
  unfold encMsg
  omega

theorem alG (H : Heap) : aAlloc Try.prog H 32 = some (.pointer (some ⟨H.size, 0, none⟩), H.newExact [str [], .slice none 0 0] 32) := by kernel_rfl
theorem infoG : ∃ i, Try.prog.info? 32 = some i ∧ i.size = 2 := Option.map_eq_some_iff.1 (show (Try.prog.info? 32).map (·.size) = some 2 by kernel_rfl)
/-- A new segment. -/
theorem newSeg (H : Heap) (x : Txt) (a : Option Addr) (n c : Nat) : ∃ H2, aStore Try.prog (H.newExact [str [], .slice none 0 0] 32) 32 (.pointer (some ⟨H.size, 0, none⟩)) (.agg ⟨[str x, .slice a n c]⟩) = some H2 ∧ Keep H H2 ∧ Own H2 H.size 32 [str x, .slice a n c] := by
  obtain ⟨i, hi, hsz⟩ := infoG
  obtain ⟨H2, h1, h2, h3, h4, h5⟩ := (Own.new H [str [], .slice none 0 0] 32).store (t := 32) hi (v := .agg ⟨[str x, .slice a n c]⟩) (new := [str x, .slice a n c]) rfl (by rw [hsz]; rfl) rfl (o := 0) (by simp)
  exact ⟨H2, h1, h5 H (Keep.newExact _ _ _) (Nat.le_refl _), h2⟩

variable {S : AM.Sys} (hS : Only S 6)
include hS

theorem Print_runs (w : List Segm) (a : Option Addr) (c r o : Nat) (H : Heap) (hg : Grp H) (hl : SlM H (.slice a w.length c) w r o) :
    ∃ H', Keep H H' ∧ Runs Try.prog S (.fn 10) [.slice a w.length c] H (.tuple ⟨[str (if MsgOk w then encMsg w else []), .int .i64 (if MsgOk w then 0 else 2)]⟩) H' := by
  suffices h : WCall Try.prog S (.fn 10) [.slice a w.length c] H (fun v H' => v = (.tuple ⟨[str (if MsgOk w then encMsg w else []), .int .i64 (if MsgOk w then 0 else 2)]⟩) ∧ Keep H H') by
    obtain ⟨_, H', hr, rfl, h⟩ := h; exact ⟨H', h, hr⟩
  obtain ⟨H1, hK1, hR1⟩ := isMessage_runs hS w a c r o H hl
  have f1 := hR1.bx
  refine call_of Try.func10 rfl (Nat.le_of_ble_eq_true rfl) (hS.no rfl _ _) ?_
  rw [Try.ntmps10, Try.results10]
  by_cases hok : MsgOk w
  · have hb := encMsg_bound hok
    rw [if_pos hok, if_pos hok]
    have hl1 := hl.keep hK1
    have hg1 := hK1.grp hg
    clear hR1
    repeat' (first | (with_reducible refine sxGuardB_tsp (fun h => ?_) (fun h => ?_)) | (with_reducible refine sxGuardB_fsp (fun h => ?_) (fun h => ?_)) | (with_reducible refine sxIfB_sp (fun h => ?_) (fun h => ?_)) | simp only [↓sxC_skip, ↓sxC_draw, ↓sxC_region, ↓sxC_seq, ↓bxC_cond, ↓bxC_loop, ↓sxC_block, ↓sxC_exit, ↓sxC_goto, ↓sxC_ret, ↓sxOps_nil, ↓sxOps_cons, ↓sxDraw_nil, ↓bxDraw_cons, ↓sxDL_move, ↓sxDL_assign, ↓sxDL_pick, ↓sxDL_alloc, ↓sxDL_box, ↓sxDL_build, ↓sxDL_buildSlice, ↓sxDL_insert, ↓sxDL_load, ↓sxDL_nilCheck, ↓sxDL_binOp, ↓sxDL_unOp, ↓sxDL_convert, ↓sxDL_makeInterface, ↓sxDL_makeFunc, ↓sxDL_makeMap, ↓sxDL_makeSlice, ↓sxDL_slice, ↓sxDL_fieldAddr, ↓sxDL_field, ↓sxDL_indexAddr, ↓sxDL_index, ↓sxDL_typeAssert, ↓sxDL_extract, ↓sxDL_lookup, ↓sxDL_mapUpdate, ↓sxDL_range, ↓sxDL_next, ↓sxDL_entry, ↓sxDL_mapEntry, ↓sxDL_entryStore, ↓sxD_same, ↓sxStep_none, ↓bxStep_some, ↓bxOp_move, ↓bxOp_assign, ↓bxOp_pick, ↓bxOp_alloc, ↓bxOp_box, ↓bxOp_build, ↓bxOp_buildSlice, ↓bxOp_load, ↓bxOp_store, ↓bxOp_nilCheck, ↓bxOp_bin, ↓bxOp_un, ↓bxOp_makeI, ↓bxOp_makeFunc, ↓bxOp_makeSlice, ↓bxOp_slice, ↓bxOp_fieldAddr, ↓bxOp_field, ↓bxOp_indexAddr, ↓bxOp_index, ↓bxOp_assert, ↓bxOp_extract, ↓bxOp_value, ↓bxOp_len, ↓bxOp_cap, ↓bxOp_append, ↓bxOp_copy, ↓bxOp_clear, ↓bxOp_max, ↓bxOp_min, ↓bxOp_convert, ↓sxPut_none, ↓bxPut, ↓seqQ_normal, ↓seqQ_exit, ↓seqQ_ret, ↓seqQ_goto, ↓blockQ_normal, ↓blockQ_ret, ↓blockQ_goto, ↓blockQ_exit, ↓loopQ_normal, ↓loopQ_exit, ↓loopQ_ret, ↓loopQ_goto, ↓resQ_normal, ↓resQ_ret, ↓sxRes_nil, ↓sxRes_tmp, ↓bxRes_cell, ↓upd_apply, ↓ev_tmp, ↓ev_const, ↓ev_global, ↓ev_func, ↓dstAt, ↓gval_some, binP_str, eql_str, neq_str, aConvH_int, aConvH_str, aConvH_some, aSliceH_slice, aSliceH_ptr, aSliceH_str, sxOptB_some, sxOptB_ite, mm_max, mm_min, binP_shl, binP_shr, binP_int, intBin, una_not_dec, una_nt, una_nf, una_neg, aPick_true, aPick_false, sxCallVB_fn, sxCallVB_yield, sxGuardB_u, sxGuardB_tt, sxGuardB_tf, sxGuardB_ft, sxGuardB_ff, sxIfB_t, sxIfB_f, packRes_one, packRes_two, List.map_cons, List.map_nil, List.nil_append, List.cons_append, List.append_nil, ↓reduceIte, Nat.reduceEqDiff, Nat.reduceLT, dec_T, dec_F, false_imp, true_and, and_true, true_implies, implies_true, false_and, and_false, true_or, or_true, false_or, or_false, and_self, or_self, read_relow, size_relow, low_relow, relow_relow, aLoad_relow, Nat.add_zero, Nat.mul_one, one1, Option.bind_some, ne_eq, Int.natCast_nonneg, Int.toNat_natCast, not_true_eq_false, not_false_eq_true, Option.map_some, Option.map_none, *, argF, List.getD_cons_zero, List.getD_cons_succ, lenG, una_not_dec] | (with_reducible refine sxDL_barE (by assumption) (by decide +kernel) ?_) | (with_reducible refine sxDL_bar (by decide +kernel) ?_) | (with_reducible refine sxD_bar (by decide +kernel) ?_) | (with_reducible refine sxDL_callD ?_))
    refine sxL_of (fun m ρ H2 => ∃ (k : Nat) (v1 : Value), m = w.length - k ∧ k ≤ w.length ∧ Grow H.size H1 H2 ∧ LstB H.size H2 v1 (encMsg (w.take k)) ∧ ρ 4 = v1 ∧
      ρ 10 = .slice a w.length c ∧ ρ 11 = .int .i64 w.length ∧ ρ 12 = .int .i64 k) ⟨0, .slice none 0 0, rfl, Nat.zero_le _, Grow.refl _ _, LstG.nil, rfl, rfl, rfl, rfl⟩ ?_
    rintro m ρ H2 ⟨k, v1, rfl, hk, hG, hB, e4, e10, e11, e12⟩
    have hg2 := hG.grp hg1
    have hL2 : H.size ≤ H2.size := Nat.le_trans hK1.size hG.ge.size
    have hl2 := SlE.grow stable_seg hl1 hG
    by_cases hlt : k < w.length
    · have hob := SlM_at hl2 hlt
      obtain ⟨hix, a1, c1, r1, o1, hrd, _, _, hml, hx⟩ := hob
      have hlt' : (k : Int) < (w.length : Int) := by omega
      have hw := wrap_succ hlt hl.ml
      have hnext : encMsg (w.take (k + 1)) = encMsg (w.take k) ++ encSeg (w.getD k default) := flat_take encSeg w k default hlt
      have hle : (encMsg (w.take (k + 1))).length ≤ (encMsg w).length := flat_le encSeg w (k + 1)
      rw [hnext, List.length_append] at hle
      generalize w.getD k default = x at *
      obtain ⟨H3, s3, hK3, hO3⟩ := newSeg H2 x.1 a1 x.2.length c1
      have rd3 : H3.read H2.size 0 2 = some [str x.1, .slice a1 x.2.length c1] := by
        have := hO3.read (o := 0) (n := 2) (by simp)
        simpa using this
      obtain ⟨v4, H4, hR4, hB4, hG4⟩ := appendSegment_runs hS x a1 c1 r1 o1 hml H.size _ v1 H3 (hK3.grp hg2) (Nat.le_trans hL2 hK3.size) (LstG.keep hB hK3) (hx.keep hK3) (by omega)
      have f4 := hR4.bx
      have hfin : LstB H.size H4 v4 (encMsg (w.take (k + 1))) := by rw [hnext]; exact hB4
      have hG' := (hG.trans (hK3.growG H.size)).trans hG4
      clear hB hB4 hR4 hnext hle hx hl2
      repeat' (first | (with_reducible refine sxGuardB_tsp (fun h => ?_) (fun h => ?_)) | (with_reducible refine sxGuardB_fsp (fun h => ?_) (fun h => ?_)) | (with_reducible refine sxIfB_sp (fun h => ?_) (fun h => ?_)) | simp only [↓sxC_skip, ↓sxC_draw, ↓sxC_region, ↓sxC_seq, ↓bxC_cond, ↓bxC_loop, ↓sxC_block, ↓sxC_exit, ↓sxC_goto, ↓sxC_ret, ↓sxOps_nil, ↓sxOps_cons, ↓sxDraw_nil, ↓bxDraw_cons, ↓sxDL_move, ↓sxDL_assign, ↓sxDL_pick, ↓sxDL_alloc, ↓sxDL_box, ↓sxDL_build, ↓sxDL_buildSlice, ↓sxDL_insert, ↓sxDL_load, ↓sxDL_nilCheck, ↓sxDL_binOp, ↓sxDL_unOp, ↓sxDL_convert, ↓sxDL_makeInterface, ↓sxDL_makeFunc, ↓sxDL_makeMap, ↓sxDL_makeSlice, ↓sxDL_slice, ↓sxDL_fieldAddr, ↓sxDL_field, ↓sxDL_indexAddr, ↓sxDL_index, ↓sxDL_typeAssert, ↓sxDL_extract, ↓sxDL_lookup, ↓sxDL_mapUpdate, ↓sxDL_range, ↓sxDL_next, ↓sxDL_entry, ↓sxDL_mapEntry, ↓sxDL_entryStore, ↓sxD_same, ↓sxStep_none, ↓bxStep_some, ↓bxOp_move, ↓bxOp_assign, ↓bxOp_pick, ↓bxOp_alloc, ↓bxOp_box, ↓bxOp_build, ↓bxOp_buildSlice, ↓bxOp_load, ↓bxOp_store, ↓bxOp_nilCheck, ↓bxOp_bin, ↓bxOp_un, ↓bxOp_makeI, ↓bxOp_makeFunc, ↓bxOp_makeSlice, ↓bxOp_slice, ↓bxOp_fieldAddr, ↓bxOp_field, ↓bxOp_indexAddr, ↓bxOp_index, ↓bxOp_assert, ↓bxOp_extract, ↓bxOp_value, ↓bxOp_len, ↓bxOp_cap, ↓bxOp_append, ↓bxOp_copy, ↓bxOp_clear, ↓bxOp_max, ↓bxOp_min, ↓bxOp_convert, ↓sxPut_none, ↓bxPut, ↓seqQ_normal, ↓seqQ_exit, ↓seqQ_ret, ↓seqQ_goto, ↓blockQ_normal, ↓blockQ_ret, ↓blockQ_goto, ↓blockQ_exit, ↓loopQ_normal, ↓loopQ_exit, ↓loopQ_ret, ↓loopQ_goto, ↓resQ_normal, ↓resQ_ret, ↓sxRes_nil, ↓sxRes_tmp, ↓bxRes_cell, ↓upd_apply, ↓ev_tmp, ↓ev_const, ↓ev_global, ↓ev_func, ↓dstAt, ↓gval_some, binP_str, eql_str, neq_str, aConvH_int, aConvH_str, aConvH_some, aSliceH_slice, aSliceH_ptr, aSliceH_str, sxOptB_some, sxOptB_ite, mm_max, mm_min, binP_shl, binP_shr, binP_int, intBin, una_not_dec, una_nt, una_nf, una_neg, aPick_true, aPick_false, sxCallVB_fn, sxCallVB_yield, sxGuardB_u, sxGuardB_tt, sxGuardB_tf, sxGuardB_ft, sxGuardB_ff, sxIfB_t, sxIfB_f, packRes_one, packRes_two, List.map_cons, List.map_nil, List.nil_append, List.cons_append, List.append_nil, ↓reduceIte, Nat.reduceEqDiff, Nat.reduceLT, dec_T, dec_F, false_imp, true_and, and_true, true_implies, implies_true, false_and, and_false, true_or, or_true, false_or, or_false, and_self, or_self, read_relow, size_relow, low_relow, relow_relow, aLoad_relow, Nat.add_zero, Nat.mul_one, one1, Option.bind_some, ne_eq, Int.natCast_nonneg, Int.toNat_natCast, not_true_eq_false, not_false_eq_true, Option.map_some, Option.map_none, *, lenG, ldG, alG] | (with_reducible refine sxDL_barE (by assumption) (by decide +kernel) ?_) | (with_reducible refine sxDL_bar (by decide +kernel) ?_) | (with_reducible refine sxD_bar (by decide +kernel) ?_) | (with_reducible refine sxDL_callD ?_))
      exact ⟨_, by omega, k + 1, v4, rfl, by omega, hfin, rfl, rfl⟩
    · have hlt' : ¬ (k : Int) < (w.length : Int) := by omega
      obtain rfl : k = w.length := by omega
      rw [List.take_length] at hB
      have hstr := hB.str
      have hK' := hG.base H hg hK1 (Nat.le_refl _)
      clear hB hl2
      repeat' (first | (with_reducible refine sxGuardB_tsp (fun h => ?_) (fun h => ?_)) | (with_reducible refine sxGuardB_fsp (fun h => ?_) (fun h => ?_)) | (with_reducible refine sxIfB_sp (fun h => ?_) (fun h => ?_)) | simp only [↓sxC_skip, ↓sxC_draw, ↓sxC_region, ↓sxC_seq, ↓bxC_cond, ↓bxC_loop, ↓sxC_block, ↓sxC_exit, ↓sxC_goto, ↓sxC_ret, ↓sxOps_nil, ↓sxOps_cons, ↓sxDraw_nil, ↓bxDraw_cons, ↓sxDL_move, ↓sxDL_assign, ↓sxDL_pick, ↓sxDL_alloc, ↓sxDL_box, ↓sxDL_build, ↓sxDL_buildSlice, ↓sxDL_insert, ↓sxDL_load, ↓sxDL_nilCheck, ↓sxDL_binOp, ↓sxDL_unOp, ↓sxDL_convert, ↓sxDL_makeInterface, ↓sxDL_makeFunc, ↓sxDL_makeMap, ↓sxDL_makeSlice, ↓sxDL_slice, ↓sxDL_fieldAddr, ↓sxDL_field, ↓sxDL_indexAddr, ↓sxDL_index, ↓sxDL_typeAssert, ↓sxDL_extract, ↓sxDL_lookup, ↓sxDL_mapUpdate, ↓sxDL_range, ↓sxDL_next, ↓sxDL_entry, ↓sxDL_mapEntry, ↓sxDL_entryStore, ↓sxD_same, ↓sxStep_none, ↓bxStep_some, ↓bxOp_move, ↓bxOp_assign, ↓bxOp_pick, ↓bxOp_alloc, ↓bxOp_box, ↓bxOp_build, ↓bxOp_buildSlice, ↓bxOp_load, ↓bxOp_store, ↓bxOp_nilCheck, ↓bxOp_bin, ↓bxOp_un, ↓bxOp_makeI, ↓bxOp_makeFunc, ↓bxOp_makeSlice, ↓bxOp_slice, ↓bxOp_fieldAddr, ↓bxOp_field, ↓bxOp_indexAddr, ↓bxOp_index, ↓bxOp_assert, ↓bxOp_extract, ↓bxOp_value, ↓bxOp_len, ↓bxOp_cap, ↓bxOp_append, ↓bxOp_copy, ↓bxOp_clear, ↓bxOp_max, ↓bxOp_min, ↓bxOp_convert, ↓sxPut_none, ↓bxPut, ↓seqQ_normal, ↓seqQ_exit, ↓seqQ_ret, ↓seqQ_goto, ↓blockQ_normal, ↓blockQ_ret, ↓blockQ_goto, ↓blockQ_exit, ↓loopQ_normal, ↓loopQ_exit, ↓loopQ_ret, ↓loopQ_goto, ↓resQ_normal, ↓resQ_ret, ↓sxRes_nil, ↓sxRes_tmp, ↓bxRes_cell, ↓upd_apply, ↓ev_tmp, ↓ev_const, ↓ev_global, ↓ev_func, ↓dstAt, ↓gval_some, binP_str, eql_str, neq_str, aConvH_int, aConvH_str, aConvH_some, aSliceH_slice, aSliceH_ptr, aSliceH_str, sxOptB_some, sxOptB_ite, mm_max, mm_min, binP_shl, binP_shr, binP_int, intBin, una_not_dec, una_nt, una_nf, una_neg, aPick_true, aPick_false, sxCallVB_fn, sxCallVB_yield, sxGuardB_u, sxGuardB_tt, sxGuardB_tf, sxGuardB_ft, sxGuardB_ff, sxIfB_t, sxIfB_f, packRes_one, packRes_two, List.map_cons, List.map_nil, List.nil_append, List.cons_append, List.append_nil, ↓reduceIte, Nat.reduceEqDiff, Nat.reduceLT, dec_T, dec_F, false_imp, true_and, and_true, true_implies, implies_true, false_and, and_false, true_or, or_true, false_or, or_false, and_self, or_self, read_relow, size_relow, low_relow, relow_relow, aLoad_relow, Nat.add_zero, Nat.mul_one, one1, Option.bind_some, ne_eq, Int.natCast_nonneg, Int.toNat_natCast, not_true_eq_false, not_false_eq_true, Option.map_some, Option.map_none, *, lenG] | (with_reducible refine sxDL_barE (by assumption) (by decide +kernel) ?_) | (with_reducible refine sxDL_bar (by decide +kernel) ?_) | (with_reducible refine sxD_bar (by decide +kernel) ?_) | (with_reducible refine sxDL_callD ?_))
  · rw [if_neg hok, if_neg hok]
    clear hR1
    repeat' (first | (with_reducible refine sxGuardB_tsp (fun h => ?_) (fun h => ?_)) | (with_reducible refine sxGuardB_fsp (fun h => ?_) (fun h => ?_)) | (with_reducible refine sxIfB_sp (fun h => ?_) (fun h => ?_)) | simp only [↓sxC_skip, ↓sxC_draw, ↓sxC_region, ↓sxC_seq, ↓bxC_cond, ↓bxC_loop, ↓sxC_block, ↓sxC_exit, ↓sxC_goto, ↓sxC_ret, ↓sxOps_nil, ↓sxOps_cons, ↓sxDraw_nil, ↓bxDraw_cons, ↓sxDL_move, ↓sxDL_assign, ↓sxDL_pick, ↓sxDL_alloc, ↓sxDL_box, ↓sxDL_build, ↓sxDL_buildSlice, ↓sxDL_insert, ↓sxDL_load, ↓sxDL_nilCheck, ↓sxDL_binOp, ↓sxDL_unOp, ↓sxDL_convert, ↓sxDL_makeInterface, ↓sxDL_makeFunc, ↓sxDL_makeMap, ↓sxDL_makeSlice, ↓sxDL_slice, ↓sxDL_fieldAddr, ↓sxDL_field, ↓sxDL_indexAddr, ↓sxDL_index, ↓sxDL_typeAssert, ↓sxDL_extract, ↓sxDL_lookup, ↓sxDL_mapUpdate, ↓sxDL_range, ↓sxDL_next, ↓sxDL_entry, ↓sxDL_mapEntry, ↓sxDL_entryStore, ↓sxD_same, ↓sxStep_none, ↓bxStep_some, ↓bxOp_move, ↓bxOp_assign, ↓bxOp_pick, ↓bxOp_alloc, ↓bxOp_box, ↓bxOp_build, ↓bxOp_buildSlice, ↓bxOp_load, ↓bxOp_store, ↓bxOp_nilCheck, ↓bxOp_bin, ↓bxOp_un, ↓bxOp_makeI, ↓bxOp_makeFunc, ↓bxOp_makeSlice, ↓bxOp_slice, ↓bxOp_fieldAddr, ↓bxOp_field, ↓bxOp_indexAddr, ↓bxOp_index, ↓bxOp_assert, ↓bxOp_extract, ↓bxOp_value, ↓bxOp_len, ↓bxOp_cap, ↓bxOp_append, ↓bxOp_copy, ↓bxOp_clear, ↓bxOp_max, ↓bxOp_min, ↓bxOp_convert, ↓sxPut_none, ↓bxPut, ↓seqQ_normal, ↓seqQ_exit, ↓seqQ_ret, ↓seqQ_goto, ↓blockQ_normal, ↓blockQ_ret, ↓blockQ_goto, ↓blockQ_exit, ↓loopQ_normal, ↓loopQ_exit, ↓loopQ_ret, ↓loopQ_goto, ↓resQ_normal, ↓resQ_ret, ↓sxRes_nil, ↓sxRes_tmp, ↓bxRes_cell, ↓upd_apply, ↓ev_tmp, ↓ev_const, ↓ev_global, ↓ev_func, ↓dstAt, ↓gval_some, binP_str, eql_str, neq_str, aConvH_int, aConvH_str, aConvH_some, aSliceH_slice, aSliceH_ptr, aSliceH_str, sxOptB_some, sxOptB_ite, mm_max, mm_min, binP_shl, binP_shr, binP_int, intBin, una_not_dec, una_nt, una_nf, una_neg, aPick_true, aPick_false, sxCallVB_fn, sxCallVB_yield, sxGuardB_u, sxGuardB_tt, sxGuardB_tf, sxGuardB_ft, sxGuardB_ff, sxIfB_t, sxIfB_f, packRes_one, packRes_two, List.map_cons, List.map_nil, List.nil_append, List.cons_append, List.append_nil, ↓reduceIte, Nat.reduceEqDiff, Nat.reduceLT, dec_T, dec_F, false_imp, true_and, and_true, true_implies, implies_true, false_and, and_false, true_or, or_true, false_or, or_false, and_self, or_self, read_relow, size_relow, low_relow, relow_relow, aLoad_relow, Nat.add_zero, Nat.mul_one, one1, Option.bind_some, ne_eq, Int.natCast_nonneg, Int.toNat_natCast, not_true_eq_false, not_false_eq_true, Option.map_some, Option.map_none, *, argF, List.getD_cons_zero, List.getD_cons_succ, lenG, una_not_dec] | (with_reducible refine sxDL_barE (by assumption) (by decide +kernel) ?_) | (with_reducible refine sxDL_bar (by decide +kernel) ?_) | (with_reducible refine sxD_bar (by decide +kernel) ?_) | (with_reducible refine sxDL_callD ?_))
end Go.Proofs.Ytifnmlocblanbaa
