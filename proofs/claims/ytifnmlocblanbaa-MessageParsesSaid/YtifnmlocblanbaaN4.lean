/- Bytes that append makes; how a part is printed, on the canonical machine. -/
import Derived.Test.YtifnmlocblanbaaN3
set_option linter.unusedVariables false
set_option linter.unusedSimpArgs false
set_option linter.unusedSectionVars false

namespace Go.Proofs.Ytifnmlocblanbaa
open Go Go.AM
set_option maxRecDepth 10000
set_option linter.unusedSimpArgs false
set_option linter.unusedVariables false

theorem okB : ElemOk Try.prog #[35, 35] 5 1 := ⟨⟨35, 35, _, Try.t5, .int .u8 0, rfl, rfl, Try.underlying35, Try.underlying35, rfl, by kernel_rfl, by kernel_rfl, by kernel_rfl, by kernel_rfl, of_decide_eq_true (by kernel_rfl)⟩, by omega⟩
theorem okBS : ElemOk Try.prog #[35, 9] 5 1 := ⟨⟨35, 9, _, Try.t5, .int .u8 0, rfl, rfl, Try.underlying35, Try.underlying9, rfl, by kernel_rfl, by kernel_rfl, by kernel_rfl, by kernel_rfl, of_decide_eq_true (by kernel_rfl)⟩, by omega⟩
theorem bsB (H : Heap) (z : Int) : aBuildSlice Try.prog H 35 1 [(0, .int .u8 z)] = some (.slice (some ⟨H.size, 0, none⟩) 1 1, H.newExact [.int .u8 z] 5) := by kernel_rfl

abbrev ints (l : Txt) : List Int := l.map fun b => ((b.toNat : Nat) : Int)
/-- Bytes that append has made. -/
abbrev LstB (L : Nat) (H : Heap) (v : Value) (l : Txt) : Prop := LstG (intE .u8) 5 L H v (ints l)
theorem LstB.byte {L : Nat} {H : Heap} {v : Value} {l : Txt} (hg : Grp H) (h : LstB L H v l) (hL : L ≤ H.size) (hs : l.length + 1 ≤ 268435456) (b : UInt8) :
    ∃ v2 H2, aAppend Try.prog (H.newExact [byteV b] 5) #[35, 35] v (.slice (some ⟨H.size, 0, none⟩) 1 1) = some (v2, H2) ∧ LstB L H2 v2 (l ++ [b]) ∧ Grow L H H2 := by
  obtain ⟨v2, H2, h1, h2, h3⟩ := LstG.push okB (stable_int .u8 0) hg h hL (x := ((b.toNat : Nat) : Int)) (es := [byteV b]) (by
    refine ⟨rfl, ?_⟩
    have := b.toNat_lt
    have h1 : IntKind.u8.min = 0 := by decide
    have h2 : IntKind.u8.max = 255 := by decide
    rw [h1, h2]; omega) rfl (by simpa using hs) 5
  refine ⟨v2, H2, h1, ?_, h3⟩
  have : ints (l ++ [b]) = ints l ++ [((b.toNat : Nat) : Int)] := by simp
  unfold LstB
  rw [this]
  exact h2
theorem ones_bts : ∀ l : Txt, ones (bts l) = true
  | [] => rfl
  | b :: l => by
    show (Value.oneCell' (.int .u8 ((b.toNat : Nat) : Int)) && ones (bts l)) = true
    rw [ones_bts l]; rfl
theorem LstB.text {L : Nat} {H : Heap} {v : Value} {l : Txt} (hg : Grp H) (h : LstB L H v l) (hL : L ≤ H.size) (x : Txt) (hs : l.length + x.length ≤ 268435456) :
    ∃ v2 H2, aAppend Try.prog H #[35, 9] v (str x) = some (v2, H2) ∧ LstB L H2 v2 (l ++ x) ∧ Grow L H H2 := by
  obtain ⟨v2, H2, h1, h2, h3⟩ := LstG.put okBS (stable_int .u8 0) hg h hL (x := str x) (n := x.length) (new := bts x) (ys := ints x) rfl (first_str H x) (by simp) (ones_bts x) (chunks_bts x) (by simpa using hs)
  refine ⟨v2, H2, h1, ?_, h3⟩
  have : ints (l ++ x) = ints l ++ ints x := by simp
  unfold LstB
  rw [this]
  exact h2
/-- As a string. -/
theorem LstB.str {L : Nat} {H : Heap} {v : Value} {l : Txt} (h : LstB L H v l) : aConvH Try.prog H 35 9 v = some (AM.str l) := by
  rcases h.all with ⟨h1, rfl⟩ | ⟨r, cells, rfl, hlt, _, hr, hc⟩
  · have : l = [] := by simpa using h1
    subst this
    unfold aConvH
    simp only [Try.underlying35, Try.underlying9, Try.underlying5]
  · have hcl : cells = bts l := by
      obtain ⟨h1, h2⟩ := hc
      have hlen : cells.length = l.length := by
        rw [h1]
        show (ints l).length * 1 = _
        simp
      apply List.ext_getElem?
      intro i
      by_cases hi : i < l.length
      · have h3 := (h2 i (by simpa using hi)).1
        have e1 : (intE .u8).sz = 1 := rfl
        rw [e1, Nat.mul_one] at h3
        rw [List.drop_eq_getElem_cons (by omega)] at h3
        simp only [List.take_succ_cons, List.take_zero, List.cons.injEq, and_true] at h3
        rw [List.getElem?_eq_getElem (by omega), h3]
        unfold bts
        rw [List.getElem?_map, List.getElem?_eq_getElem hi]
        simp [ints, List.getD_eq_getElem?_getD, List.getElem?_eq_getElem hi]
      · rw [List.getElem?_eq_none (by omega), List.getElem?_eq_none (by unfold bts; simp; omega)]
    subst hcl
    rw [aConvH_some]
    have e2 : (ints l).length = l.length := by simp
    rw [e2]
    refine text_of Try.underlying35 Try.underlying9 Try.underlying5 fun _ => ?_
    have : (bts l).length = l.length := by unfold bts; simp
    rw [this] at hr
    exact hr

theorem encPart_snoc (p : Txt) (b : UInt8) : encPart (p ++ [b]) = encPart p ++ (if Sg b then [63, b] else [b]) := by unfold encPart; simp
theorem take_snoc {α : Type} {l : List α} {k : Nat} {d : α} (h : k < l.length) : l.take (k + 1) = l.take k ++ [l.getD k d] := by
  rw [List.take_add_one, List.getElem?_eq_getElem h, List.getD_eq_getElem?_getD, List.getElem?_eq_getElem h]; rfl
theorem encPart_le (p : Txt) (k : Nat) : (encPart (p.take k)).length ≤ (encPart p).length := by
  have h : encPart p = encPart (p.take k) ++ encPart (p.drop k) := by unfold encPart; rw [← List.flatMap_append, List.take_append_drop]
  rw [h, List.length_append]; omega

variable {S : AM.Sys} (hS : Only S 6)
include hS

theorem appendPart_runs (p : Txt) (hp : p.length ≤ Go.maxLen) (L : Nat) (l : Txt) (v : Value) (H : Heap) (hg : Grp H) (hL : L ≤ H.size) (hl : LstB L H v l) (hs : l.length + (encPart p).length ≤ 268435456) :
    ∃ v' H', Runs Try.prog S (.fn 42) [v, str p] H v' H' ∧ LstB L H' v' (l ++ encPart p) ∧ Grow L H H' := by
  suffices h : WCall Try.prog S (.fn 42) [v, str p] H (fun v' H' => LstB L H' v' (l ++ encPart p) ∧ Grow L H H') by
    obtain ⟨v', H', hr, h⟩ := h; exact ⟨v', H', hr, h⟩
  refine call_of Try.func42 rfl (Nat.le_of_ble_eq_true rfl) (hS.no rfl _ _) ?_
  rw [Try.ntmps42, Try.results42]
  repeat' (first | (with_reducible refine sxGuardB_tsp (fun h => ?_) (fun h => ?_)) | (with_reducible refine sxGuardB_fsp (fun h => ?_) (fun h => ?_)) | (with_reducible refine sxIfB_sp (fun h => ?_) (fun h => ?_)) | simp only [↓sxC_skip, ↓sxC_draw, ↓sxC_region, ↓sxC_seq, ↓bxC_cond, ↓bxC_loop, ↓sxC_block, ↓sxC_exit, ↓sxC_goto, ↓sxC_ret, ↓sxOps_nil, ↓sxOps_cons, ↓sxDraw_nil, ↓bxDraw_cons, ↓sxDL_move, ↓sxDL_assign, ↓sxDL_pick, ↓sxDL_alloc, ↓sxDL_box, ↓sxDL_build, ↓sxDL_buildSlice, ↓sxDL_insert, ↓sxDL_load, ↓sxDL_nilCheck, ↓sxDL_binOp, ↓sxDL_unOp, ↓sxDL_convert, ↓sxDL_makeInterface, ↓sxDL_makeFunc, ↓sxDL_makeMap, ↓sxDL_makeSlice, ↓sxDL_slice, ↓sxDL_fieldAddr, ↓sxDL_field, ↓sxDL_indexAddr, ↓sxDL_index, ↓sxDL_typeAssert, ↓sxDL_extract, ↓sxDL_lookup, ↓sxDL_mapUpdate, ↓sxDL_range, ↓sxDL_next, ↓sxDL_entry, ↓sxDL_mapEntry, ↓sxDL_entryStore, ↓sxD_same, ↓sxStep_none, ↓bxStep_some, ↓bxOp_move, ↓bxOp_assign, ↓bxOp_pick, ↓bxOp_alloc, ↓bxOp_box, ↓bxOp_build, ↓bxOp_buildSlice, ↓bxOp_load, ↓bxOp_store, ↓bxOp_nilCheck, ↓bxOp_bin, ↓bxOp_un, ↓bxOp_makeI, ↓bxOp_makeFunc, ↓bxOp_makeSlice, ↓bxOp_slice, ↓bxOp_fieldAddr, ↓bxOp_field, ↓bxOp_indexAddr, ↓bxOp_index, ↓bxOp_assert, ↓bxOp_extract, ↓bxOp_value, ↓bxOp_len, ↓bxOp_cap, ↓bxOp_append, ↓bxOp_copy, ↓bxOp_clear, ↓bxOp_max, ↓bxOp_min, ↓bxOp_convert, ↓sxPut_none, ↓bxPut, ↓seqQ_normal, ↓seqQ_exit, ↓seqQ_ret, ↓seqQ_goto, ↓blockQ_normal, ↓blockQ_ret, ↓blockQ_goto, ↓blockQ_exit, ↓loopQ_normal, ↓loopQ_exit, ↓loopQ_ret, ↓loopQ_goto, ↓resQ_normal, ↓resQ_ret, ↓sxRes_nil, ↓sxRes_tmp, ↓bxRes_cell, ↓upd_apply, ↓ev_tmp, ↓ev_const, ↓ev_global, ↓ev_func, ↓dstAt, ↓gval_some, binP_str, eql_str, neq_str, aConvH_int, aConvH_str, aConvH_some, aSliceH_slice, aSliceH_ptr, aSliceH_str, sxOptB_some, sxOptB_ite, mm_max, mm_min, binP_shl, binP_shr, binP_int, intBin, una_not_dec, una_nt, una_nf, una_neg, aPick_true, aPick_false, sxCallVB_fn, sxCallVB_yield, sxGuardB_u, sxGuardB_tt, sxGuardB_tf, sxGuardB_ft, sxGuardB_ff, sxIfB_t, sxIfB_f, packRes_one, packRes_two, List.map_cons, List.map_nil, List.nil_append, List.cons_append, List.append_nil, ↓reduceIte, Nat.reduceEqDiff, Nat.reduceLT, dec_T, dec_F, false_imp, true_and, and_true, true_implies, implies_true, false_and, and_false, true_or, or_true, false_or, or_false, and_self, or_self, read_relow, size_relow, low_relow, relow_relow, aLoad_relow, Nat.add_zero, Nat.mul_one, one1, Option.bind_some, ne_eq, Int.natCast_nonneg, Int.toNat_natCast, not_true_eq_false, not_false_eq_true, Option.map_some, Option.map_none, *, argF, List.getD_cons_zero, List.getD_cons_succ, lenS] | (with_reducible refine sxDL_barE (by assumption) (by decide +kernel) ?_) | (with_reducible refine sxDL_bar (by decide +kernel) ?_) | (with_reducible refine sxD_bar (by decide +kernel) ?_) | (with_reducible refine sxDL_callD ?_))
  refine sxL_of (fun m ρ H1 => ∃ (k : Nat) (v1 : Value), m = p.length - k ∧ k ≤ p.length ∧ Grow L H H1 ∧ LstB L H1 v1 (l ++ encPart (p.take k)) ∧ ρ 0 = v1 ∧
    ρ 1 = str p ∧ ρ 7 = .int .i64 p.length ∧ ρ 8 = .int .i64 k) ⟨0, v, rfl, Nat.zero_le _, Grow.refl _ _, by simpa [encPart] using hl, rfl, rfl, rfl, rfl⟩ ?_
  rintro m ρ H1 ⟨k, v1, rfl, hk, hG, hB, e0, e1, e7, e8⟩
  have hg1 := hG.grp hg
  have hL1 : L ≤ H1.size := Nat.le_trans hL hG.ge.size
  by_cases hlt : k < p.length
  · have hix := ixS (l := p) (k := .i64) hlt
    have hb := (isSign_runs hS (p.getD k 0) H1).bx
    have hw := wrap_succ hlt hp
    have hlt' : (k : Int) < (p.length : Int) := by omega
    have hnext : encPart (p.take (k + 1)) = encPart (p.take k) ++ (if Sg (p.getD k 0) then [63, p.getD k 0] else [p.getD k 0]) := by rw [take_snoc hlt (d := 0), encPart_snoc]
    have hle := encPart_le p (k + 1)
    generalize p.getD k 0 = b at *
    by_cases hsg : Sg b
    · rw [if_pos hsg] at hnext
      rw [hnext] at hle
      simp only [List.length_append, List.length_cons, List.length_nil] at hle
      obtain ⟨v2, H2, a2, hB2, hG2⟩ := hB.byte hg1 hL1 (by rw [List.length_append]; omega) 63
      have hL2 : L ≤ H2.size := Nat.le_trans hL1 hG2.ge.size
      obtain ⟨v3, H3, a3, hB3, hG3⟩ := hB2.byte (hG2.grp hg1) hL2 (by rw [List.length_append, List.length_append]; simp only [List.length_cons, List.length_nil]; omega) b
      have a2 : aAppend Try.prog (H1.newExact [.int .u8 63] 5) #[35, 35] v1 (.slice (some ⟨H1.size, 0, none⟩) 1 1) = some (v2, H2) := a2
      have hfin : LstB L H3 v3 (l ++ encPart (p.take (k + 1))) := by rw [hnext]; simpa using hB3
      have hG' := (hG.trans hG2).trans hG3
      clear hB hB2 hB3 hle hnext
      repeat' (first | (with_reducible refine sxGuardB_tsp (fun h => ?_) (fun h => ?_)) | (with_reducible refine sxGuardB_fsp (fun h => ?_) (fun h => ?_)) | (with_reducible refine sxIfB_sp (fun h => ?_) (fun h => ?_)) | simp only [↓sxC_skip, ↓sxC_draw, ↓sxC_region, ↓sxC_seq, ↓bxC_cond, ↓bxC_loop, ↓sxC_block, ↓sxC_exit, ↓sxC_goto, ↓sxC_ret, ↓sxOps_nil, ↓sxOps_cons, ↓sxDraw_nil, ↓bxDraw_cons, ↓sxDL_move, ↓sxDL_assign, ↓sxDL_pick, ↓sxDL_alloc, ↓sxDL_box, ↓sxDL_build, ↓sxDL_buildSlice, ↓sxDL_insert, ↓sxDL_load, ↓sxDL_nilCheck, ↓sxDL_binOp, ↓sxDL_unOp, ↓sxDL_convert, ↓sxDL_makeInterface, ↓sxDL_makeFunc, ↓sxDL_makeMap, ↓sxDL_makeSlice, ↓sxDL_slice, ↓sxDL_fieldAddr, ↓sxDL_field, ↓sxDL_indexAddr, ↓sxDL_index, ↓sxDL_typeAssert, ↓sxDL_extract, ↓sxDL_lookup, ↓sxDL_mapUpdate, ↓sxDL_range, ↓sxDL_next, ↓sxDL_entry, ↓sxDL_mapEntry, ↓sxDL_entryStore, ↓sxD_same, ↓sxStep_none, ↓bxStep_some, ↓bxOp_move, ↓bxOp_assign, ↓bxOp_pick, ↓bxOp_alloc, ↓bxOp_box, ↓bxOp_build, ↓bxOp_buildSlice, ↓bxOp_load, ↓bxOp_store, ↓bxOp_nilCheck, ↓bxOp_bin, ↓bxOp_un, ↓bxOp_makeI, ↓bxOp_makeFunc, ↓bxOp_makeSlice, ↓bxOp_slice, ↓bxOp_fieldAddr, ↓bxOp_field, ↓bxOp_indexAddr, ↓bxOp_index, ↓bxOp_assert, ↓bxOp_extract, ↓bxOp_value, ↓bxOp_len, ↓bxOp_cap, ↓bxOp_append, ↓bxOp_copy, ↓bxOp_clear, ↓bxOp_max, ↓bxOp_min, ↓bxOp_convert, ↓sxPut_none, ↓bxPut, ↓seqQ_normal, ↓seqQ_exit, ↓seqQ_ret, ↓seqQ_goto, ↓blockQ_normal, ↓blockQ_ret, ↓blockQ_goto, ↓blockQ_exit, ↓loopQ_normal, ↓loopQ_exit, ↓loopQ_ret, ↓loopQ_goto, ↓resQ_normal, ↓resQ_ret, ↓sxRes_nil, ↓sxRes_tmp, ↓bxRes_cell, ↓upd_apply, ↓ev_tmp, ↓ev_const, ↓ev_global, ↓ev_func, ↓dstAt, ↓gval_some, binP_str, eql_str, neq_str, aConvH_int, aConvH_str, aConvH_some, aSliceH_slice, aSliceH_ptr, aSliceH_str, sxOptB_some, sxOptB_ite, mm_max, mm_min, binP_shl, binP_shr, binP_int, intBin, una_not_dec, una_nt, una_nf, una_neg, aPick_true, aPick_false, sxCallVB_fn, sxCallVB_yield, sxGuardB_u, sxGuardB_tt, sxGuardB_tf, sxGuardB_ft, sxGuardB_ff, sxIfB_t, sxIfB_f, packRes_one, packRes_two, List.map_cons, List.map_nil, List.nil_append, List.cons_append, List.append_nil, ↓reduceIte, Nat.reduceEqDiff, Nat.reduceLT, dec_T, dec_F, false_imp, true_and, and_true, true_implies, implies_true, false_and, and_false, true_or, or_true, false_or, or_false, and_self, or_self, read_relow, size_relow, low_relow, relow_relow, aLoad_relow, Nat.add_zero, Nat.mul_one, one1, Option.bind_some, ne_eq, Int.natCast_nonneg, Int.toNat_natCast, not_true_eq_false, not_false_eq_true, Option.map_some, Option.map_none, *, lenS, bsB] | (with_reducible refine sxDL_barE (by assumption) (by decide +kernel) ?_) | (with_reducible refine sxDL_bar (by decide +kernel) ?_) | (with_reducible refine sxD_bar (by decide +kernel) ?_) | (with_reducible refine sxDL_callD ?_))
      exact ⟨_, by omega, k + 1, v3, rfl, by omega, hfin, rfl, rfl⟩
    · rw [if_neg hsg] at hnext
      rw [hnext] at hle
      simp only [List.length_append, List.length_cons, List.length_nil] at hle
      obtain ⟨v2, H2, a2, hB2, hG2⟩ := hB.byte hg1 hL1 (by rw [List.length_append]; omega) b
      have hfin : LstB L H2 v2 (l ++ encPart (p.take (k + 1))) := by rw [hnext]; simpa using hB2
      have hG' := hG.trans hG2
      clear hB hB2 hle hnext
      repeat' (first | (with_reducible refine sxGuardB_tsp (fun h => ?_) (fun h => ?_)) | (with_reducible refine sxGuardB_fsp (fun h => ?_) (fun h => ?_)) | (with_reducible refine sxIfB_sp (fun h => ?_) (fun h => ?_)) | simp only [↓sxC_skip, ↓sxC_draw, ↓sxC_region, ↓sxC_seq, ↓bxC_cond, ↓bxC_loop, ↓sxC_block, ↓sxC_exit, ↓sxC_goto, ↓sxC_ret, ↓sxOps_nil, ↓sxOps_cons, ↓sxDraw_nil, ↓bxDraw_cons, ↓sxDL_move, ↓sxDL_assign, ↓sxDL_pick, ↓sxDL_alloc, ↓sxDL_box, ↓sxDL_build, ↓sxDL_buildSlice, ↓sxDL_insert, ↓sxDL_load, ↓sxDL_nilCheck, ↓sxDL_binOp, ↓sxDL_unOp, ↓sxDL_convert, ↓sxDL_makeInterface, ↓sxDL_makeFunc, ↓sxDL_makeMap, ↓sxDL_makeSlice, ↓sxDL_slice, ↓sxDL_fieldAddr, ↓sxDL_field, ↓sxDL_indexAddr, ↓sxDL_index, ↓sxDL_typeAssert, ↓sxDL_extract, ↓sxDL_lookup, ↓sxDL_mapUpdate, ↓sxDL_range, ↓sxDL_next, ↓sxDL_entry, ↓sxDL_mapEntry, ↓sxDL_entryStore, ↓sxD_same, ↓sxStep_none, ↓bxStep_some, ↓bxOp_move, ↓bxOp_assign, ↓bxOp_pick, ↓bxOp_alloc, ↓bxOp_box, ↓bxOp_build, ↓bxOp_buildSlice, ↓bxOp_load, ↓bxOp_store, ↓bxOp_nilCheck, ↓bxOp_bin, ↓bxOp_un, ↓bxOp_makeI, ↓bxOp_makeFunc, ↓bxOp_makeSlice, ↓bxOp_slice, ↓bxOp_fieldAddr, ↓bxOp_field, ↓bxOp_indexAddr, ↓bxOp_index, ↓bxOp_assert, ↓bxOp_extract, ↓bxOp_value, ↓bxOp_len, ↓bxOp_cap, ↓bxOp_append, ↓bxOp_copy, ↓bxOp_clear, ↓bxOp_max, ↓bxOp_min, ↓bxOp_convert, ↓sxPut_none, ↓bxPut, ↓seqQ_normal, ↓seqQ_exit, ↓seqQ_ret, ↓seqQ_goto, ↓blockQ_normal, ↓blockQ_ret, ↓blockQ_goto, ↓blockQ_exit, ↓loopQ_normal, ↓loopQ_exit, ↓loopQ_ret, ↓loopQ_goto, ↓resQ_normal, ↓resQ_ret, ↓sxRes_nil, ↓sxRes_tmp, ↓bxRes_cell, ↓upd_apply, ↓ev_tmp, ↓ev_const, ↓ev_global, ↓ev_func, ↓dstAt, ↓gval_some, binP_str, eql_str, neq_str, aConvH_int, aConvH_str, aConvH_some, aSliceH_slice, aSliceH_ptr, aSliceH_str, sxOptB_some, sxOptB_ite, mm_max, mm_min, binP_shl, binP_shr, binP_int, intBin, una_not_dec, una_nt, una_nf, una_neg, aPick_true, aPick_false, sxCallVB_fn, sxCallVB_yield, sxGuardB_u, sxGuardB_tt, sxGuardB_tf, sxGuardB_ft, sxGuardB_ff, sxIfB_t, sxIfB_f, packRes_one, packRes_two, List.map_cons, List.map_nil, List.nil_append, List.cons_append, List.append_nil, ↓reduceIte, Nat.reduceEqDiff, Nat.reduceLT, dec_T, dec_F, false_imp, true_and, and_true, true_implies, implies_true, false_and, and_false, true_or, or_true, false_or, or_false, and_self, or_self, read_relow, size_relow, low_relow, relow_relow, aLoad_relow, Nat.add_zero, Nat.mul_one, one1, Option.bind_some, ne_eq, Int.natCast_nonneg, Int.toNat_natCast, not_true_eq_false, not_false_eq_true, Option.map_some, Option.map_none, *, lenS, bsB] | (with_reducible refine sxDL_barE (by assumption) (by decide +kernel) ?_) | (with_reducible refine sxDL_bar (by decide +kernel) ?_) | (with_reducible refine sxD_bar (by decide +kernel) ?_) | (with_reducible refine sxDL_callD ?_))
      exact ⟨_, by omega, k + 1, v2, rfl, by omega, hfin, rfl, rfl⟩
  · have hlt' : ¬ (k : Int) < (p.length : Int) := by omega
    obtain rfl : k = p.length := by omega
    rw [List.take_length] at hB
    repeat' (first | (with_reducible refine sxGuardB_tsp (fun h => ?_) (fun h => ?_)) | (with_reducible refine sxGuardB_fsp (fun h => ?_) (fun h => ?_)) | (with_reducible refine sxIfB_sp (fun h => ?_) (fun h => ?_)) | simp only [↓sxC_skip, ↓sxC_draw, ↓sxC_region, ↓sxC_seq, ↓bxC_cond, ↓bxC_loop, ↓sxC_block, ↓sxC_exit, ↓sxC_goto, ↓sxC_ret, ↓sxOps_nil, ↓sxOps_cons, ↓sxDraw_nil, ↓bxDraw_cons, ↓sxDL_move, ↓sxDL_assign, ↓sxDL_pick, ↓sxDL_alloc, ↓sxDL_box, ↓sxDL_build, ↓sxDL_buildSlice, ↓sxDL_insert, ↓sxDL_load, ↓sxDL_nilCheck, ↓sxDL_binOp, ↓sxDL_unOp, ↓sxDL_convert, ↓sxDL_makeInterface, ↓sxDL_makeFunc, ↓sxDL_makeMap, ↓sxDL_makeSlice, ↓sxDL_slice, ↓sxDL_fieldAddr, ↓sxDL_field, ↓sxDL_indexAddr, ↓sxDL_index, ↓sxDL_typeAssert, ↓sxDL_extract, ↓sxDL_lookup, ↓sxDL_mapUpdate, ↓sxDL_range, ↓sxDL_next, ↓sxDL_entry, ↓sxDL_mapEntry, ↓sxDL_entryStore, ↓sxD_same, ↓sxStep_none, ↓bxStep_some, ↓bxOp_move, ↓bxOp_assign, ↓bxOp_pick, ↓bxOp_alloc, ↓bxOp_box, ↓bxOp_build, ↓bxOp_buildSlice, ↓bxOp_load, ↓bxOp_store, ↓bxOp_nilCheck, ↓bxOp_bin, ↓bxOp_un, ↓bxOp_makeI, ↓bxOp_makeFunc, ↓bxOp_makeSlice, ↓bxOp_slice, ↓bxOp_fieldAddr, ↓bxOp_field, ↓bxOp_indexAddr, ↓bxOp_index, ↓bxOp_assert, ↓bxOp_extract, ↓bxOp_value, ↓bxOp_len, ↓bxOp_cap, ↓bxOp_append, ↓bxOp_copy, ↓bxOp_clear, ↓bxOp_max, ↓bxOp_min, ↓bxOp_convert, ↓sxPut_none, ↓bxPut, ↓seqQ_normal, ↓seqQ_exit, ↓seqQ_ret, ↓seqQ_goto, ↓blockQ_normal, ↓blockQ_ret, ↓blockQ_goto, ↓blockQ_exit, ↓loopQ_normal, ↓loopQ_exit, ↓loopQ_ret, ↓loopQ_goto, ↓resQ_normal, ↓resQ_ret, ↓sxRes_nil, ↓sxRes_tmp, ↓bxRes_cell, ↓upd_apply, ↓ev_tmp, ↓ev_const, ↓ev_global, ↓ev_func, ↓dstAt, ↓gval_some, binP_str, eql_str, neq_str, aConvH_int, aConvH_str, aConvH_some, aSliceH_slice, aSliceH_ptr, aSliceH_str, sxOptB_some, sxOptB_ite, mm_max, mm_min, binP_shl, binP_shr, binP_int, intBin, una_not_dec, una_nt, una_nf, una_neg, aPick_true, aPick_false, sxCallVB_fn, sxCallVB_yield, sxGuardB_u, sxGuardB_tt, sxGuardB_tf, sxGuardB_ft, sxGuardB_ff, sxIfB_t, sxIfB_f, packRes_one, packRes_two, List.map_cons, List.map_nil, List.nil_append, List.cons_append, List.append_nil, ↓reduceIte, Nat.reduceEqDiff, Nat.reduceLT, dec_T, dec_F, false_imp, true_and, and_true, true_implies, implies_true, false_and, and_false, true_or, or_true, false_or, or_false, and_self, or_self, read_relow, size_relow, low_relow, relow_relow, aLoad_relow, Nat.add_zero, Nat.mul_one, one1, Option.bind_some, ne_eq, Int.natCast_nonneg, Int.toNat_natCast, not_true_eq_false, not_false_eq_true, Option.map_some, Option.map_none, *, lenS] | (with_reducible refine sxDL_barE (by assumption) (by decide +kernel) ?_) | (with_reducible refine sxDL_bar (by decide +kernel) ?_) | (with_reducible refine sxD_bar (by decide +kernel) ?_) | (with_reducible refine sxDL_callD ?_))
end Go.Proofs.Ytifnmlocblanbaa
