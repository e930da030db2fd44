/- Whether a rule fits, on the canonical machine. -/
import Derived.Test.YtmllfacipbpkfaaDoorT1
set_option linter.unusedVariables false
set_option linter.unusedSimpArgs false
set_option linter.unusedSectionVars false

namespace Go.Proofs.YtmllfacipbpkfaaDoor
open Go Go.AM
set_option maxRecDepth 10000
set_option linter.unusedSimpArgs false
def Fits (x : Rl) (w : List Int) : Prop := ∀ j, j < x.bands.length → (x.bands.getD j default).lo ≤ w.getD j 0 ∧ w.getD j 0 < (x.bands.getD j default).hi
instance (x : Rl) (w : List Int) : Decidable (Fits x w) := by unfold Fits; infer_instance
theorem alB (H : Heap) : aAlloc Tryd.prog H 63 = some (.pointer (some ⟨H.size, 0, none⟩), H.newExact [.int .i64 0, .int .i64 0] 63) := by kernel_rfl
theorem infoB : ∃ i, Tryd.prog.info? 63 = some i ∧ i.size = 2 := ⟨Tryd.t63, by kernel_rfl, by kernel_rfl⟩
theorem stB (H : Heap) (lo hi : Int) : ∃ H2, aStore Tryd.prog (H.newExact [.int .i64 0, .int .i64 0] 63) 63 (.pointer (some ⟨H.size, 0, none⟩)) (.agg ⟨[.int .i64 lo, .int .i64 hi]⟩) = some H2 ∧ Keep H H2 ∧
    H.size < H2.size ∧ H2.read H.size 0 1 = some [.int .i64 lo] ∧ H2.read H.size 1 1 = some [.int .i64 hi] := by
  obtain ⟨i, hi', hs⟩ := infoB
  obtain ⟨H2, h1, h2, h4, h3⟩ := store_new (P := Tryd.prog) (t := 63) (e := 63) hi' H (l := [.int .i64 0, .int .i64 0]) (cells := [.int .i64 lo, .int .i64 hi]) rfl (hs.trans rfl) rfl
  exact ⟨H2, h1, h2, by omega, h3 0 1 (show 0 + 1 ≤ 2 by omega), h3 1 1 (show 1 + 1 ≤ 2 by omega)⟩
variable {S : AM.Sys} (hS : Only S 8)
include hS

theorem isFit_runs (x : Rl) (cs : List Value) (v : Value) (w : List Int) (r o : Nat) (H : Heap) (hL : H.low ≤ H.size) (hx : ruleE.At H x cs) (hw : SlI .i64 H v w r o) (hl : w.length ≤ x.bands.length ∧ x.bands.length ≤ w.length) :
    ∃ H', Keep H H' ∧ Runs Tryd.prog S (.fn 25) [.agg ⟨cs⟩, v] H (.bool (decide (Fits x w))) H' := by
  obtain ⟨v1, r1, o1, rfl, hb, _⟩ := ruleE_inv hx
  suffices h : WCall Tryd.prog S (.fn 25) [.agg ⟨[v1, .int .i64 x.code]⟩, v] H (fun v H' => v = .bool (decide (Fits x w)) ∧ Keep H H') by
    obtain ⟨_, H', hr, rfl, hk⟩ := h; exact ⟨H', hk, hr⟩
  refine call_of Tryd.func25 rfl (Nat.le_of_ble_eq_true rfl) (hS.no rfl _ _) ?_
  rw [Tryd.ntmps25, Tryd.results25]
  obtain ⟨H1, e1, hK1, hs1, zz, hr1⟩ := box1 H [v1, .int .i64 x.code] 44
  clear zz
  have q0 : H1.read H.size 0 1 = some [v1] := hr1 0 1 (show 0 + 1 ≤ 2 by omega)
  obtain ⟨a, cap, rfl⟩ := hb.v0
  obtain ⟨a2, cap2, rfl⟩ := hw.v0
  have hc : (Value.agg ⟨[.slice a x.bands.length cap, .int .i64 x.code]⟩).cells.toList = [.slice a x.bands.length cap, .int .i64 x.code] := rfl
  repeat' (first | (with_reducible refine sxGuardB_tsp (fun h => ?_) (fun h => ?_)) | (with_reducible refine sxGuardB_fsp (fun h => ?_) (fun h => ?_)) | (with_reducible refine sxIfB_sp (fun h => ?_) (fun h => ?_)) | (with_reducible refine sxD_bar (by kernel_rfl) ?_) | simp only [↓sxC_skip, ↓sxC_draw, ↓sxC_region, ↓sxC_seq, ↓bxC_cond, ↓bxC_loop, ↓sxC_block, ↓sxC_exit, ↓sxC_goto, ↓sxC_ret, ↓sxOps_nil, ↓sxOps_cons, ↓sxDraw_nil, ↓bxDraw_cons, ↓sxD_same, ↓sxStep_none, ↓bxStep_some, ↓bxOp_move, ↓bxOp_assign, ↓bxOp_pick, ↓bxOp_alloc, ↓bxOp_box, ↓bxOp_build, ↓bxOp_buildSlice, ↓bxOp_load, ↓bxOp_store, ↓bxOp_nilCheck, ↓bxOp_bin, ↓bxOp_un, ↓bxOp_makeI, ↓bxOp_makeFunc, ↓bxOp_makeSlice, ↓bxOp_slice, ↓bxOp_fieldAddr, ↓bxOp_field, ↓bxOp_indexAddr, ↓bxOp_index, ↓bxOp_assert, ↓bxOp_extract, ↓bxOp_value, ↓bxOp_len, ↓bxOp_cap, ↓bxOp_append, ↓bxOp_copy, ↓bxOp_max, ↓bxOp_min, ↓bxOp_convert, ↓sxPut_none, ↓bxPut, ↓seqQ_normal, ↓seqQ_exit, ↓seqQ_ret, ↓seqQ_goto, ↓blockQ_normal, ↓blockQ_ret, ↓blockQ_goto, ↓blockQ_exit, ↓loopQ_normal, ↓loopQ_exit, ↓loopQ_ret, ↓loopQ_goto, ↓resQ_normal, ↓resQ_ret, ↓sxRes_nil, ↓sxRes_tmp, ↓bxRes_cell, ↓upd_apply, ↓ev_tmp, ↓ev_const, ↓ev_global, ↓ev_func, ↓dstAt, ↓gval_some, sxOptB_some, sxOptB_ite, mm_max, mm_min, bin_shl, bin_shr, bin_int, intBin, una_not_dec, una_nt, una_nf, una_neg, aPick_true, aPick_false, sxCallVB_fn, sxCallVB_yield, sxGuardB_u, sxGuardB_tt, sxGuardB_tf, sxGuardB_ft, sxGuardB_ff, sxIfB_t, sxIfB_f, packRes_one, packRes_two, List.map_cons, List.map_nil, List.nil_append, List.cons_append, List.append_nil, ↓reduceIte, Nat.reduceEqDiff, Nat.reduceLT, dec_T, dec_F, false_imp, true_and, and_true, true_implies, implies_true, false_and, and_false, true_or, or_true, false_or, or_false, and_self, or_self, read_relow, size_relow, low_relow, relow_relow, aLoad_relow, Nat.add_zero, Nat.mul_one, one1, Option.bind_some, ne_eq, Int.natCast_nonneg, Int.toNat_natCast, not_true_eq_false, not_false_eq_true, Option.map_some, Option.map_none, *, argF, List.getD_cons_zero, List.getD_cons_succ, hc, faR0, faR1, ldI, ldBs, lenB, Nat.zero_add])
  clear hr1 hc q0
  refine sxL_of (fun m ρ H2 => ∃ j : Nat, m = x.bands.length - j ∧ j ≤ x.bands.length ∧ Keep H H2 ∧ (∀ i, i < j → (x.bands.getD i default).lo ≤ w.getD i 0 ∧ w.getD i 0 < (x.bands.getD i default).hi) ∧ ρ 1 = .slice a2 w.length cap2 ∧
    ρ 8 = .slice a x.bands.length cap ∧ ρ 9 = .int .i64 x.bands.length ∧ ρ 10 = .int .i64 j)
    ⟨0, rfl, Nat.zero_le _, hK1, fun j hj => absurd hj (Nat.not_lt_zero j), rfl, rfl, rfl, rfl⟩ ?_
  rintro m ρ H2 ⟨j, rfl, hj, hK, hall, e1', e8, e9, e10⟩
  by_cases hlt : j < x.bands.length
  · have hb2 := hb.keep hK
    have hlt' : (j : Int) < (x.bands.length : Int) := by omega
    have hwj : j < w.length := by omega
    have p1 := SlB_ixN hb2 hlt
    obtain ⟨p2, _, _⟩ := SlB_rd hb2 hlt
    have hno : ¬ ((x.bands.getD j default).lo ≤ w.getD j 0 ∧ w.getD j 0 < (x.bands.getD j default).hi) → Value.bool false = .bool (decide (Fits x w)) := fun h => bool_f fun hc => h (hc j hlt)
    have hgo : ((x.bands.getD j default).lo ≤ w.getD j 0 ∧ w.getD j 0 < (x.bands.getD j default).hi) → ∀ i, i < j + 1 → (x.bands.getD i default).lo ≤ w.getD i 0 ∧ w.getD i 0 < (x.bands.getD i default).hi := fun h i hi => by
      rcases Nat.lt_or_ge i j with h1 | h1
      · exact hall i h1
      · rw [show i = j by omega]; exact h
    have hwr := wrap_succ hlt hb.ml
    obtain ⟨H3, hst, hK3, hsz, q0, q1⟩ := stB H2 (x.bands.getD j default).lo (x.bands.getD j default).hi
    have hKK := hK.trans hK3
    have hw3 := hw.keep hKK
    have p3 := SlI_ix hw3 hwj
    have p4 := (hw3.rdI hwj).1
    have hL3 : H3.low ≤ H3.size := hKK.low hL
    clear hb2 hb hw hw3 hx hK hK3
    generalize (x.bands.getD j default).lo = lo at *
    generalize (x.bands.getD j default).hi = hi at *
    repeat' (first | (with_reducible refine sxGuardB_tsp (fun h => ?_) (fun h => ?_)) | (with_reducible refine sxGuardB_fsp (fun h => ?_) (fun h => ?_)) | (with_reducible refine sxIfB_sp (fun h => ?_) (fun h => ?_)) | (with_reducible refine sxD_bar (by kernel_rfl) ?_) | simp only [↓sxC_skip, ↓sxC_draw, ↓sxC_region, ↓sxC_seq, ↓bxC_cond, ↓bxC_loop, ↓sxC_block, ↓sxC_exit, ↓sxC_goto, ↓sxC_ret, ↓sxOps_nil, ↓sxOps_cons, ↓sxDraw_nil, ↓bxDraw_cons, ↓sxD_same, ↓sxStep_none, ↓bxStep_some, ↓bxOp_move, ↓bxOp_assign, ↓bxOp_pick, ↓bxOp_alloc, ↓bxOp_box, ↓bxOp_build, ↓bxOp_buildSlice, ↓bxOp_load, ↓bxOp_store, ↓bxOp_nilCheck, ↓bxOp_bin, ↓bxOp_un, ↓bxOp_makeI, ↓bxOp_makeFunc, ↓bxOp_makeSlice, ↓bxOp_slice, ↓bxOp_fieldAddr, ↓bxOp_field, ↓bxOp_indexAddr, ↓bxOp_index, ↓bxOp_assert, ↓bxOp_extract, ↓bxOp_value, ↓bxOp_len, ↓bxOp_cap, ↓bxOp_append, ↓bxOp_copy, ↓bxOp_max, ↓bxOp_min, ↓bxOp_convert, ↓sxPut_none, ↓bxPut, ↓seqQ_normal, ↓seqQ_exit, ↓seqQ_ret, ↓seqQ_goto, ↓blockQ_normal, ↓blockQ_ret, ↓blockQ_goto, ↓blockQ_exit, ↓loopQ_normal, ↓loopQ_exit, ↓loopQ_ret, ↓loopQ_goto, ↓resQ_normal, ↓resQ_ret, ↓sxRes_nil, ↓sxRes_tmp, ↓bxRes_cell, ↓upd_apply, ↓ev_tmp, ↓ev_const, ↓ev_global, ↓ev_func, ↓dstAt, ↓gval_some, sxOptB_some, sxOptB_ite, mm_max, mm_min, bin_shl, bin_shr, bin_int, intBin, una_not_dec, una_nt, una_nf, una_neg, aPick_true, aPick_false, sxCallVB_fn, sxCallVB_yield, sxGuardB_u, sxGuardB_tt, sxGuardB_tf, sxGuardB_ft, sxGuardB_ff, sxIfB_t, sxIfB_f, packRes_one, packRes_two, List.map_cons, List.map_nil, List.nil_append, List.cons_append, List.append_nil, ↓reduceIte, Nat.reduceEqDiff, Nat.reduceLT, dec_T, dec_F, false_imp, true_and, and_true, true_implies, implies_true, false_and, and_false, true_or, or_true, false_or, or_false, and_self, or_self, read_relow, size_relow, low_relow, relow_relow, aLoad_relow, Nat.add_zero, Nat.mul_one, one1, Option.bind_some, ne_eq, Int.natCast_nonneg, Int.toNat_natCast, not_true_eq_false, not_false_eq_true, Option.map_some, Option.map_none, *, lenB, ldB, alB, hst, faB0, faB1, ldI, Nat.zero_add])
    all_goals first
      | exact hno fun hc => by have := hc.1; have := hc.2; omega
      | exact ⟨_, by omega, j + 1, rfl, by omega, hgo ⟨by omega, by omega⟩, rfl⟩
      | trace_state
  · have hlt' : ¬ (j : Int) < (x.bands.length : Int) := by omega
    have hF : Fits x w := fun i hi => hall i (by omega)
    clear hb hw hx
    repeat' (first | (with_reducible refine sxGuardB_tsp (fun h => ?_) (fun h => ?_)) | (with_reducible refine sxGuardB_fsp (fun h => ?_) (fun h => ?_)) | (with_reducible refine sxIfB_sp (fun h => ?_) (fun h => ?_)) | (with_reducible refine sxD_bar (by kernel_rfl) ?_) | simp only [↓sxC_skip, ↓sxC_draw, ↓sxC_region, ↓sxC_seq, ↓bxC_cond, ↓bxC_loop, ↓sxC_block, ↓sxC_exit, ↓sxC_goto, ↓sxC_ret, ↓sxOps_nil, ↓sxOps_cons, ↓sxDraw_nil, ↓bxDraw_cons, ↓sxD_same, ↓sxStep_none, ↓bxStep_some, ↓bxOp_move, ↓bxOp_assign, ↓bxOp_pick, ↓bxOp_alloc, ↓bxOp_box, ↓bxOp_build, ↓bxOp_buildSlice, ↓bxOp_load, ↓bxOp_store, ↓bxOp_nilCheck, ↓bxOp_bin, ↓bxOp_un, ↓bxOp_makeI, ↓bxOp_makeFunc, ↓bxOp_makeSlice, ↓bxOp_slice, ↓bxOp_fieldAddr, ↓bxOp_field, ↓bxOp_indexAddr, ↓bxOp_index, ↓bxOp_assert, ↓bxOp_extract, ↓bxOp_value, ↓bxOp_len, ↓bxOp_cap, ↓bxOp_append, ↓bxOp_copy, ↓bxOp_max, ↓bxOp_min, ↓bxOp_convert, ↓sxPut_none, ↓bxPut, ↓seqQ_normal, ↓seqQ_exit, ↓seqQ_ret, ↓seqQ_goto, ↓blockQ_normal, ↓blockQ_ret, ↓blockQ_goto, ↓blockQ_exit, ↓loopQ_normal, ↓loopQ_exit, ↓loopQ_ret, ↓loopQ_goto, ↓resQ_normal, ↓resQ_ret, ↓sxRes_nil, ↓sxRes_tmp, ↓bxRes_cell, ↓upd_apply, ↓ev_tmp, ↓ev_const, ↓ev_global, ↓ev_func, ↓dstAt, ↓gval_some, sxOptB_some, sxOptB_ite, mm_max, mm_min, bin_shl, bin_shr, bin_int, intBin, una_not_dec, una_nt, una_nf, una_neg, aPick_true, aPick_false, sxCallVB_fn, sxCallVB_yield, sxGuardB_u, sxGuardB_tt, sxGuardB_tf, sxGuardB_ft, sxGuardB_ff, sxIfB_t, sxIfB_f, packRes_one, packRes_two, List.map_cons, List.map_nil, List.nil_append, List.cons_append, List.append_nil, ↓reduceIte, Nat.reduceEqDiff, Nat.reduceLT, dec_T, dec_F, false_imp, true_and, and_true, true_implies, implies_true, false_and, and_false, true_or, or_true, false_or, or_false, and_self, or_self, read_relow, size_relow, low_relow, relow_relow, aLoad_relow, Nat.add_zero, Nat.mul_one, one1, Option.bind_some, ne_eq, Int.natCast_nonneg, Int.toNat_natCast, not_true_eq_false, not_false_eq_true, Option.map_some, Option.map_none, *, lenB])

theorem fits_runs (x : Rl) (cs : List Value) (v : Value) (w : List Int) (r o : Nat) (H : Heap) (hL : H.low ≤ H.size) (hx : ruleE.At H x cs) (hw : SlI .i64 H v w r o) (hl : w.length ≤ x.bands.length ∧ x.bands.length ≤ w.length) :
    ∃ H', Keep H H' ∧ Runs Tryd.prog S (.fn 48) [.agg ⟨cs⟩, v] H (.bool (decide (Fits x w))) H' := by
  obtain ⟨v1, r1, o1, rfl, hb, _⟩ := ruleE_inv hx
  suffices h : WCall Tryd.prog S (.fn 48) [.agg ⟨[v1, .int .i64 x.code]⟩, v] H (fun v H' => v = .bool (decide (Fits x w)) ∧ Keep H H') by
    obtain ⟨_, H', hr, rfl, hk⟩ := h; exact ⟨H', hk, hr⟩
  refine call_of Tryd.func48 rfl (Nat.le_of_ble_eq_true rfl) (hS.no rfl _ _) ?_
  rw [Tryd.ntmps48, Tryd.results48]
  obtain ⟨H1, e1, hK1, hs1, zz, hr1⟩ := box1 H [v1, .int .i64 x.code] 44
  clear zz
  have q0 : H1.read H.size 0 1 = some [v1] := hr1 0 1 (show 0 + 1 ≤ 2 by omega)
  obtain ⟨a, cap, rfl⟩ := hb.v0
  obtain ⟨a2, cap2, rfl⟩ := hw.v0
  have hc : (Value.agg ⟨[.slice a x.bands.length cap, .int .i64 x.code]⟩).cells.toList = [.slice a x.bands.length cap, .int .i64 x.code] := rfl
  repeat' (first | (with_reducible refine sxGuardB_tsp (fun h => ?_) (fun h => ?_)) | (with_reducible refine sxGuardB_fsp (fun h => ?_) (fun h => ?_)) | (with_reducible refine sxIfB_sp (fun h => ?_) (fun h => ?_)) | (with_reducible refine sxD_bar (by kernel_rfl) ?_) | simp only [↓sxC_skip, ↓sxC_draw, ↓sxC_region, ↓sxC_seq, ↓bxC_cond, ↓bxC_loop, ↓sxC_block, ↓sxC_exit, ↓sxC_goto, ↓sxC_ret, ↓sxOps_nil, ↓sxOps_cons, ↓sxDraw_nil, ↓bxDraw_cons, ↓sxD_same, ↓sxStep_none, ↓bxStep_some, ↓bxOp_move, ↓bxOp_assign, ↓bxOp_pick, ↓bxOp_alloc, ↓bxOp_box, ↓bxOp_build, ↓bxOp_buildSlice, ↓bxOp_load, ↓bxOp_store, ↓bxOp_nilCheck, ↓bxOp_bin, ↓bxOp_un, ↓bxOp_makeI, ↓bxOp_makeFunc, ↓bxOp_makeSlice, ↓bxOp_slice, ↓bxOp_fieldAddr, ↓bxOp_field, ↓bxOp_indexAddr, ↓bxOp_index, ↓bxOp_assert, ↓bxOp_extract, ↓bxOp_value, ↓bxOp_len, ↓bxOp_cap, ↓bxOp_append, ↓bxOp_copy, ↓bxOp_max, ↓bxOp_min, ↓bxOp_convert, ↓sxPut_none, ↓bxPut, ↓seqQ_normal, ↓seqQ_exit, ↓seqQ_ret, ↓seqQ_goto, ↓blockQ_normal, ↓blockQ_ret, ↓blockQ_goto, ↓blockQ_exit, ↓loopQ_normal, ↓loopQ_exit, ↓loopQ_ret, ↓loopQ_goto, ↓resQ_normal, ↓resQ_ret, ↓sxRes_nil, ↓sxRes_tmp, ↓bxRes_cell, ↓upd_apply, ↓ev_tmp, ↓ev_const, ↓ev_global, ↓ev_func, ↓dstAt, ↓gval_some, sxOptB_some, sxOptB_ite, mm_max, mm_min, bin_shl, bin_shr, bin_int, intBin, una_not_dec, una_nt, una_nf, una_neg, aPick_true, aPick_false, sxCallVB_fn, sxCallVB_yield, sxGuardB_u, sxGuardB_tt, sxGuardB_tf, sxGuardB_ft, sxGuardB_ff, sxIfB_t, sxIfB_f, packRes_one, packRes_two, List.map_cons, List.map_nil, List.nil_append, List.cons_append, List.append_nil, ↓reduceIte, Nat.reduceEqDiff, Nat.reduceLT, dec_T, dec_F, false_imp, true_and, and_true, true_implies, implies_true, false_and, and_false, true_or, or_true, false_or, or_false, and_self, or_self, read_relow, size_relow, low_relow, relow_relow, aLoad_relow, Nat.add_zero, Nat.mul_one, one1, Option.bind_some, ne_eq, Int.natCast_nonneg, Int.toNat_natCast, not_true_eq_false, not_false_eq_true, Option.map_some, Option.map_none, *, argF, List.getD_cons_zero, List.getD_cons_succ, hc, faR0, faR1, ldI, ldBs, lenB, Nat.zero_add])
  clear hr1 hc
  have hb2 := hb.keep hK1
  have hw2 := hw.keep hK1
  have hL1 : H1.low ≤ H1.size := hK1.low hL
  refine sxL_of (fun m ρ H2 => ∃ j : Nat, m = w.length - j ∧ j ≤ w.length ∧ H2 = H1 ∧ (∀ i, i < j → (x.bands.getD i default).lo ≤ w.getD i 0 ∧ w.getD i 0 < (x.bands.getD i default).hi) ∧ ρ 1 = .slice a2 w.length cap2 ∧
    ρ 2 = .pointer (some ⟨H.size, 0, none⟩) ∧ ρ 5 = .int .i64 j)
    ⟨0, rfl, Nat.zero_le _, rfl, fun j hj => absurd hj (Nat.not_lt_zero j), rfl, rfl, rfl⟩ ?_
  rintro m ρ H2 ⟨j, rfl, hj, rfl, hall, e1', e2, e5⟩
  by_cases hlt : j < w.length
  · have hlt' : (j : Int) < (w.length : Int) := by omega
    have hbj : j < x.bands.length := by omega
    have p1 := SlB_ixN hb2 hbj
    obtain ⟨_, p2, p2'⟩ := SlB_rd hb2 hbj
    have hno : ¬ ((x.bands.getD j default).lo ≤ w.getD j 0 ∧ w.getD j 0 < (x.bands.getD j default).hi) → Value.bool false = .bool (decide (Fits x w)) := fun h => bool_f fun hc => h (hc j hbj)
    have hgo : ((x.bands.getD j default).lo ≤ w.getD j 0 ∧ w.getD j 0 < (x.bands.getD j default).hi) → ∀ i, i < j + 1 → (x.bands.getD i default).lo ≤ w.getD i 0 ∧ w.getD i 0 < (x.bands.getD i default).hi := fun h i hi => by
      rcases Nat.lt_or_ge i j with h1 | h1
      · exact hall i h1
      · rw [show i = j by omega]; exact h
    have hwr := wrap_succ hlt hw.ml
    have p3 := SlI_ix hw2 hlt
    have p4 := (hw2.rdI hlt).1
    clear hb2 hb hw hw2 hx
    generalize (x.bands.getD j default).lo = lo at *
    generalize (x.bands.getD j default).hi = hi at *
    repeat' (first | (with_reducible refine sxGuardB_tsp (fun h => ?_) (fun h => ?_)) | (with_reducible refine sxGuardB_fsp (fun h => ?_) (fun h => ?_)) | (with_reducible refine sxIfB_sp (fun h => ?_) (fun h => ?_)) | (with_reducible refine sxD_bar (by kernel_rfl) ?_) | simp only [↓sxC_skip, ↓sxC_draw, ↓sxC_region, ↓sxC_seq, ↓bxC_cond, ↓bxC_loop, ↓sxC_block, ↓sxC_exit, ↓sxC_goto, ↓sxC_ret, ↓sxOps_nil, ↓sxOps_cons, ↓sxDraw_nil, ↓bxDraw_cons, ↓sxD_same, ↓sxStep_none, ↓bxStep_some, ↓bxOp_move, ↓bxOp_assign, ↓bxOp_pick, ↓bxOp_alloc, ↓bxOp_box, ↓bxOp_build, ↓bxOp_buildSlice, ↓bxOp_load, ↓bxOp_store, ↓bxOp_nilCheck, ↓bxOp_bin, ↓bxOp_un, ↓bxOp_makeI, ↓bxOp_makeFunc, ↓bxOp_makeSlice, ↓bxOp_slice, ↓bxOp_fieldAddr, ↓bxOp_field, ↓bxOp_indexAddr, ↓bxOp_index, ↓bxOp_assert, ↓bxOp_extract, ↓bxOp_value, ↓bxOp_len, ↓bxOp_cap, ↓bxOp_append, ↓bxOp_copy, ↓bxOp_max, ↓bxOp_min, ↓bxOp_convert, ↓sxPut_none, ↓bxPut, ↓seqQ_normal, ↓seqQ_exit, ↓seqQ_ret, ↓seqQ_goto, ↓blockQ_normal, ↓blockQ_ret, ↓blockQ_goto, ↓blockQ_exit, ↓loopQ_normal, ↓loopQ_exit, ↓loopQ_ret, ↓loopQ_goto, ↓resQ_normal, ↓resQ_ret, ↓sxRes_nil, ↓sxRes_tmp, ↓bxRes_cell, ↓upd_apply, ↓ev_tmp, ↓ev_const, ↓ev_global, ↓ev_func, ↓dstAt, ↓gval_some, sxOptB_some, sxOptB_ite, mm_max, mm_min, bin_shl, bin_shr, bin_int, intBin, una_not_dec, una_nt, una_nf, una_neg, aPick_true, aPick_false, sxCallVB_fn, sxCallVB_yield, sxGuardB_u, sxGuardB_tt, sxGuardB_tf, sxGuardB_ft, sxGuardB_ff, sxIfB_t, sxIfB_f, packRes_one, packRes_two, List.map_cons, List.map_nil, List.nil_append, List.cons_append, List.append_nil, ↓reduceIte, Nat.reduceEqDiff, Nat.reduceLT, dec_T, dec_F, false_imp, true_and, and_true, true_implies, implies_true, false_and, and_false, true_or, or_true, false_or, or_false, and_self, or_self, read_relow, size_relow, low_relow, relow_relow, aLoad_relow, Nat.add_zero, Nat.mul_one, one1, Option.bind_some, ne_eq, Int.natCast_nonneg, Int.toNat_natCast, not_true_eq_false, not_false_eq_true, Option.map_some, Option.map_none, *, lenI, lenB, faR0, faB0, faB1, ldI, ldBs, Nat.zero_add])
    all_goals first
      | exact hno fun hc => by have := hc.1; have := hc.2; omega
      | exact ⟨_, by omega, j + 1, rfl, by omega, hgo ⟨by omega, by omega⟩, rfl⟩
      | trace_state
  · have hlt' : ¬ (j : Int) < (w.length : Int) := by omega
    have hF : Fits x w := fun i hi => hall i (by omega)
    clear hb hw hx hb2 hw2
    repeat' (first | (with_reducible refine sxGuardB_tsp (fun h => ?_) (fun h => ?_)) | (with_reducible refine sxGuardB_fsp (fun h => ?_) (fun h => ?_)) | (with_reducible refine sxIfB_sp (fun h => ?_) (fun h => ?_)) | (with_reducible refine sxD_bar (by kernel_rfl) ?_) | simp only [↓sxC_skip, ↓sxC_draw, ↓sxC_region, ↓sxC_seq, ↓bxC_cond, ↓bxC_loop, ↓sxC_block, ↓sxC_exit, ↓sxC_goto, ↓sxC_ret, ↓sxOps_nil, ↓sxOps_cons, ↓sxDraw_nil, ↓bxDraw_cons, ↓sxD_same, ↓sxStep_none, ↓bxStep_some, ↓bxOp_move, ↓bxOp_assign, ↓bxOp_pick, ↓bxOp_alloc, ↓bxOp_box, ↓bxOp_build, ↓bxOp_buildSlice, ↓bxOp_load, ↓bxOp_store, ↓bxOp_nilCheck, ↓bxOp_bin, ↓bxOp_un, ↓bxOp_makeI, ↓bxOp_makeFunc, ↓bxOp_makeSlice, ↓bxOp_slice, ↓bxOp_fieldAddr, ↓bxOp_field, ↓bxOp_indexAddr, ↓bxOp_index, ↓bxOp_assert, ↓bxOp_extract, ↓bxOp_value, ↓bxOp_len, ↓bxOp_cap, ↓bxOp_append, ↓bxOp_copy, ↓bxOp_max, ↓bxOp_min, ↓bxOp_convert, ↓sxPut_none, ↓bxPut, ↓seqQ_normal, ↓seqQ_exit, ↓seqQ_ret, ↓seqQ_goto, ↓blockQ_normal, ↓blockQ_ret, ↓blockQ_goto, ↓blockQ_exit, ↓loopQ_normal, ↓loopQ_exit, ↓loopQ_ret, ↓loopQ_goto, ↓resQ_normal, ↓resQ_ret, ↓sxRes_nil, ↓sxRes_tmp, ↓bxRes_cell, ↓upd_apply, ↓ev_tmp, ↓ev_const, ↓ev_global, ↓ev_func, ↓dstAt, ↓gval_some, sxOptB_some, sxOptB_ite, mm_max, mm_min, bin_shl, bin_shr, bin_int, intBin, una_not_dec, una_nt, una_nf, una_neg, aPick_true, aPick_false, sxCallVB_fn, sxCallVB_yield, sxGuardB_u, sxGuardB_tt, sxGuardB_tf, sxGuardB_ft, sxGuardB_ff, sxIfB_t, sxIfB_f, packRes_one, packRes_two, List.map_cons, List.map_nil, List.nil_append, List.cons_append, List.append_nil, ↓reduceIte, Nat.reduceEqDiff, Nat.reduceLT, dec_T, dec_F, false_imp, true_and, and_true, true_implies, implies_true, false_and, and_false, true_or, or_true, false_or, or_false, and_self, or_self, read_relow, size_relow, low_relow, relow_relow, aLoad_relow, Nat.add_zero, Nat.mul_one, one1, Option.bind_some, ne_eq, Int.natCast_nonneg, Int.toNat_natCast, not_true_eq_false, not_false_eq_true, Option.map_some, Option.map_none, *, lenI])
end Go.Proofs.YtmllfacipbpkfaaDoor
