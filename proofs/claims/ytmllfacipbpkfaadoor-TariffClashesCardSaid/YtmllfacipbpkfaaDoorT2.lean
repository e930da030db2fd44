/- Good of the reference, on the canonical machine. -/
import Derived.Test.YtmllfacipbpkfaaDoorT1
set_option linter.unusedVariables false
set_option linter.unusedSimpArgs false
set_option linter.unusedSectionVars false

namespace Go.Proofs.YtmllfacipbpkfaaDoor
open Go Go.AM
set_option maxRecDepth 10000
set_option linter.unusedSimpArgs false
theorem alR (H : Heap) : aAlloc Tryd.prog H 44 = some (.pointer (some ⟨H.size, 0, none⟩), H.newExact [.slice none 0 0, .int .i64 0] 44) := by kernel_rfl
theorem infoR : ∃ i, Tryd.prog.info? 44 = some i ∧ i.size = 2 := ⟨Tryd.t44, by kernel_rfl, by kernel_rfl⟩
theorem stR (H : Heap) (m : Int) (a1 : Option Addr) (n1 c1 : Nat) : ∃ H2, aStore Tryd.prog (H.newExact [.slice none 0 0, .int .i64 0] 44) 44 (.pointer (some ⟨H.size, 0, none⟩)) (.agg ⟨[.slice a1 n1 c1, .int .i64 m]⟩) = some H2 ∧ Keep H H2 ∧
    H.size < H2.size ∧ H2.read H.size 0 1 = some [.slice a1 n1 c1] ∧ H2.read H.size 1 1 = some [.int .i64 m] := by
  obtain ⟨i, hi, hs⟩ := infoR
  obtain ⟨H2, h1, h2, h4, h3⟩ := store_new (P := Tryd.prog) (t := 44) (e := 44) hi H (l := [.slice none 0 0, .int .i64 0]) (cells := [.slice a1 n1 c1, .int .i64 m]) rfl (hs.trans rfl) rfl
  exact ⟨H2, h1, h2, by omega, h3 0 1 (show 0 + 1 ≤ 2 by omega), h3 1 1 (show 1 + 1 ≤ 2 by omega)⟩

variable {S : AM.Sys} (hS : Only S 8)
include hS

theorem Good_runs (k : Int) (v : Value) (t : List Rl) (r o : Nat) (H : Heap) (hL : H.low ≤ H.size) (ht : SlR H v t r o) : ∃ H', Keep H H' ∧ Runs Tryd.prog S (.fn 26) [.int .i64 k, v] H (.int .i64 (chk k t)) H' := by
  suffices h : WCall Tryd.prog S (.fn 26) [.int .i64 k, v] H (fun v H' => v = .int .i64 (chk k t) ∧ Keep H H') by
    obtain ⟨_, H', hr, rfl, hk⟩ := h; exact ⟨H', hk, hr⟩
  obtain ⟨a, cap, rfl⟩ := ht.v0
  refine call_of Tryd.func26 rfl (Nat.le_of_ble_eq_true rfl) (hS.no rfl _ _) ?_
  rw [Tryd.ntmps26, Tryd.results26]
  repeat' (first | (with_reducible refine sxGuardB_tsp (fun h => ?_) (fun h => ?_)) | (with_reducible refine sxGuardB_fsp (fun h => ?_) (fun h => ?_)) | (with_reducible refine sxIfB_sp (fun h => ?_) (fun h => ?_)) | (with_reducible refine sxD_bar (by kernel_rfl) ?_) | simp only [↓sxC_skip, ↓sxC_draw, ↓sxC_region, ↓sxC_seq, ↓bxC_cond, ↓bxC_loop, ↓sxC_block, ↓sxC_exit, ↓sxC_goto, ↓sxC_ret, ↓sxOps_nil, ↓sxOps_cons, ↓sxDraw_nil, ↓bxDraw_cons, ↓sxD_same, ↓sxStep_none, ↓bxStep_some, ↓bxOp_move, ↓bxOp_assign, ↓bxOp_pick, ↓bxOp_alloc, ↓bxOp_box, ↓bxOp_build, ↓bxOp_buildSlice, ↓bxOp_load, ↓bxOp_store, ↓bxOp_nilCheck, ↓bxOp_bin, ↓bxOp_un, ↓bxOp_makeI, ↓bxOp_makeFunc, ↓bxOp_makeSlice, ↓bxOp_slice, ↓bxOp_fieldAddr, ↓bxOp_field, ↓bxOp_indexAddr, ↓bxOp_index, ↓bxOp_assert, ↓bxOp_extract, ↓bxOp_value, ↓bxOp_len, ↓bxOp_cap, ↓bxOp_append, ↓bxOp_copy, ↓bxOp_max, ↓bxOp_min, ↓bxOp_convert, ↓sxPut_none, ↓bxPut, ↓seqQ_normal, ↓seqQ_exit, ↓seqQ_ret, ↓seqQ_goto, ↓blockQ_normal, ↓blockQ_ret, ↓blockQ_goto, ↓blockQ_exit, ↓loopQ_normal, ↓loopQ_exit, ↓loopQ_ret, ↓loopQ_goto, ↓resQ_normal, ↓resQ_ret, ↓sxRes_nil, ↓sxRes_tmp, ↓bxRes_cell, ↓upd_apply, ↓ev_tmp, ↓ev_const, ↓ev_global, ↓ev_func, ↓dstAt, ↓gval_some, sxOptB_some, sxOptB_ite, mm_max, mm_min, bin_shl, bin_shr, bin_int, intBin, una_not_dec, una_nt, una_nf, una_neg, aPick_true, aPick_false, sxCallVB_fn, sxCallVB_yield, sxGuardB_u, sxGuardB_tt, sxGuardB_tf, sxGuardB_ft, sxGuardB_ff, sxIfB_t, sxIfB_f, packRes_one, packRes_two, List.map_cons, List.map_nil, List.nil_append, List.cons_append, List.append_nil, ↓reduceIte, Nat.reduceEqDiff, Nat.reduceLT, dec_T, dec_F, false_imp, true_and, and_true, true_implies, implies_true, false_and, and_false, true_or, or_true, false_or, or_false, and_self, or_self, read_relow, size_relow, low_relow, relow_relow, aLoad_relow, Nat.add_zero, Nat.mul_one, one1, Option.bind_some, ne_eq, Int.natCast_nonneg, Int.toNat_natCast, not_true_eq_false, not_false_eq_true, Option.map_some, Option.map_none, *, argF, List.getD_cons_zero, List.getD_cons_succ, lenR])
  all_goals first
    | exact ⟨congrArg (Value.int .i64) (by rw [chk, if_pos (by omega)]), Keep.refl _⟩
    | exact ⟨congrArg (Value.int .i64) (by rw [chk, if_neg (by omega), if_pos (by omega)]), Keep.refl _⟩
    | skip
  have hk4 : 1 ≤ k ∧ k ≤ 4 := by omega
  have hl24 : t.length ≤ 24 := by omega
  have hyes : (∀ x ∈ t, RuleOk k x) → (0 : Int) = chk k t := fun h => by rw [chk, if_neg (by omega), if_neg (by omega), if_pos h]
  have hnot : (¬ ∀ x ∈ t, RuleOk k x) → Value.int .i64 2 = Value.int .i64 (chk k t) := fun h => by rw [chk, if_neg (by omega), if_neg (by omega), if_neg h]
  refine sxL_of (fun m ρ H1 => ∃ j : Nat, m = t.length - j ∧ j ≤ t.length ∧ Keep H H1 ∧ (∀ i, i < j → RuleOk k (t.getD i default)) ∧ ρ 0 = .int .i64 k ∧ ρ 1 = .slice a t.length cap ∧ ρ 5 = .int .i64 j)
    ⟨0, rfl, Nat.zero_le _, Keep.refl _, fun j hj => absurd hj (Nat.not_lt_zero j), rfl, rfl, rfl⟩ ?_
  rintro m ρ H1 ⟨j, rfl, hj, hK, hall, e0, e1, e5⟩
  by_cases hlt : j < t.length
  · have ht1 := ht.keep hK
    have hix := SlR_ixN ht1 hlt
    obtain ⟨a1, c1, r1, o1, hrd, _, _, hb, _⟩ := SlR_rd ht1 hlt
    have hmem : t.getD j default ∈ t := getD_mem hlt
    have hno : ¬ RuleOk k (t.getD j default) → Value.int .i64 2 = Value.int .i64 (chk k t) := fun h => hnot fun hc => h (hc _ hmem)
    have hgo : RuleOk k (t.getD j default) → ∀ i, i < j + 1 → RuleOk k (t.getD i default) := fun h i hi => by
      rcases Nat.lt_or_ge i j with h1 | h1
      · exact hall i h1
      · rw [show i = j by omega]; exact h
    have hw := wrap_succ hlt ht.ml
    clear hnot hyes ht ht1 hmem
    generalize t.getD j default = x at *
    obtain ⟨H2, hst, hK2, hsz, q0, q1⟩ := stR H1 x.code a1 x.bands.length c1
    have hb2 := hb.keep hK2
    have hKK := hK.trans hK2
    have hL2 : H2.low ≤ H2.size := hKK.low hL
    have hlt' : (j : Int) < (t.length : Int) := by omega
    clear hK hK2 hb
    repeat' (first | (with_reducible refine sxGuardB_tsp (fun h => ?_) (fun h => ?_)) | (with_reducible refine sxGuardB_fsp (fun h => ?_) (fun h => ?_)) | (with_reducible refine sxIfB_sp (fun h => ?_) (fun h => ?_)) | (with_reducible refine sxD_bar (by kernel_rfl) ?_) | simp only [↓sxC_skip, ↓sxC_draw, ↓sxC_region, ↓sxC_seq, ↓bxC_cond, ↓bxC_loop, ↓sxC_block, ↓sxC_exit, ↓sxC_goto, ↓sxC_ret, ↓sxOps_nil, ↓sxOps_cons, ↓sxDraw_nil, ↓bxDraw_cons, ↓sxD_same, ↓sxStep_none, ↓bxStep_some, ↓bxOp_move, ↓bxOp_assign, ↓bxOp_pick, ↓bxOp_alloc, ↓bxOp_box, ↓bxOp_build, ↓bxOp_buildSlice, ↓bxOp_load, ↓bxOp_store, ↓bxOp_nilCheck, ↓bxOp_bin, ↓bxOp_un, ↓bxOp_makeI, ↓bxOp_makeFunc, ↓bxOp_makeSlice, ↓bxOp_slice, ↓bxOp_fieldAddr, ↓bxOp_field, ↓bxOp_indexAddr, ↓bxOp_index, ↓bxOp_assert, ↓bxOp_extract, ↓bxOp_value, ↓bxOp_len, ↓bxOp_cap, ↓bxOp_append, ↓bxOp_copy, ↓bxOp_max, ↓bxOp_min, ↓bxOp_convert, ↓sxPut_none, ↓bxPut, ↓seqQ_normal, ↓seqQ_exit, ↓seqQ_ret, ↓seqQ_goto, ↓blockQ_normal, ↓blockQ_ret, ↓blockQ_goto, ↓blockQ_exit, ↓loopQ_normal, ↓loopQ_exit, ↓loopQ_ret, ↓loopQ_goto, ↓resQ_normal, ↓resQ_ret, ↓sxRes_nil, ↓sxRes_tmp, ↓bxRes_cell, ↓upd_apply, ↓ev_tmp, ↓ev_const, ↓ev_global, ↓ev_func, ↓dstAt, ↓gval_some, sxOptB_some, sxOptB_ite, mm_max, mm_min, bin_shl, bin_shr, bin_int, intBin, una_not_dec, una_nt, una_nf, una_neg, aPick_true, aPick_false, sxCallVB_fn, sxCallVB_yield, sxGuardB_u, sxGuardB_tt, sxGuardB_tf, sxGuardB_ft, sxGuardB_ff, sxIfB_t, sxIfB_f, packRes_one, packRes_two, List.map_cons, List.map_nil, List.nil_append, List.cons_append, List.append_nil, ↓reduceIte, Nat.reduceEqDiff, Nat.reduceLT, dec_T, dec_F, false_imp, true_and, and_true, true_implies, implies_true, false_and, and_false, true_or, or_true, false_or, or_false, and_self, or_self, read_relow, size_relow, low_relow, relow_relow, aLoad_relow, Nat.add_zero, Nat.mul_one, one1, Option.bind_some, ne_eq, Int.natCast_nonneg, Int.toNat_natCast, not_true_eq_false, not_false_eq_true, Option.map_some, Option.map_none, *, lenR, lenB, ldR, alR, hst, faR0, faR1, ldI, ldBs, Nat.zero_add])
    all_goals first
      | exact ⟨hno fun hc => by have := hc.1; have := hc.2.1; have := hc.2.2.1; omega, hKK⟩
      | exact hno fun hc => by have := hc.1; have := hc.2.1; have := hc.2.2.1; omega
      | skip
    have hm : (x.bands.length : Int) = k ∧ 0 ≤ x.code ∧ x.code ≤ 99 := by omega
    rename_i u1 u2
    clear u1 u2 h
    have hbm := hb2.ml
    refine sxL_of (fun m ρ H3 => ∃ i : Nat, m = x.bands.length - i ∧ i ≤ x.bands.length ∧ H3 = H2 ∧ (∀ i', i' < i → BandOk (x.bands.getD i' default)) ∧ ρ 0 = .int .i64 k ∧ ρ 1 = .slice a t.length cap ∧ ρ 5 = .int .i64 j ∧
      ρ 6 = .pointer (some ⟨H1.size, 0, none⟩) ∧ ρ 7 = .int .i64 i)
      ⟨0, rfl, Nat.zero_le _, rfl, fun j hj => absurd hj (Nat.not_lt_zero j), by assumption, by assumption, by assumption, rfl, rfl⟩ ?_
    clear e0 e1 e5
    rintro m ρ H3 ⟨i, rfl, hi, rfl, hall2, e0, e1, e5, e6, e7⟩
    by_cases hlt2 : i < x.bands.length
    · have hlt2' : (i : Int) < k := by omega
      have hw2 := wrap_succ hlt2 hb2.ml
      have x0 := SlB_ixN hb2 hlt2
      obtain ⟨_, x1, x2⟩ := SlB_rd hb2 hlt2
      have hbad : ¬ BandOk (x.bands.getD i default) → Value.int .i64 2 = Value.int .i64 (chk k t) := fun h => hno fun hc => h (hc.2.2.2 _ (getD_mem hlt2))
      have hgo2 : BandOk (x.bands.getD i default) → ∀ i', i' < i + 1 → BandOk (x.bands.getD i' default) := fun h i' hi' => by
        rcases Nat.lt_or_ge i' i with h1 | h1
        · exact hall2 i' h1
        · rw [show i' = i by omega]; exact h
      clear hno hgo hb2 hst
      generalize x.bands.getD i default = b at *
      repeat' (first | (with_reducible refine sxGuardB_tsp (fun h => ?_) (fun h => ?_)) | (with_reducible refine sxGuardB_fsp (fun h => ?_) (fun h => ?_)) | (with_reducible refine sxIfB_sp (fun h => ?_) (fun h => ?_)) | (with_reducible refine sxD_bar (by kernel_rfl) ?_) | simp only [↓sxC_skip, ↓sxC_draw, ↓sxC_region, ↓sxC_seq, ↓bxC_cond, ↓bxC_loop, ↓sxC_block, ↓sxC_exit, ↓sxC_goto, ↓sxC_ret, ↓sxOps_nil, ↓sxOps_cons, ↓sxDraw_nil, ↓bxDraw_cons, ↓sxD_same, ↓sxStep_none, ↓bxStep_some, ↓bxOp_move, ↓bxOp_assign, ↓bxOp_pick, ↓bxOp_alloc, ↓bxOp_box, ↓bxOp_build, ↓bxOp_buildSlice, ↓bxOp_load, ↓bxOp_store, ↓bxOp_nilCheck, ↓bxOp_bin, ↓bxOp_un, ↓bxOp_makeI, ↓bxOp_makeFunc, ↓bxOp_makeSlice, ↓bxOp_slice, ↓bxOp_fieldAddr, ↓bxOp_field, ↓bxOp_indexAddr, ↓bxOp_index, ↓bxOp_assert, ↓bxOp_extract, ↓bxOp_value, ↓bxOp_len, ↓bxOp_cap, ↓bxOp_append, ↓bxOp_copy, ↓bxOp_max, ↓bxOp_min, ↓bxOp_convert, ↓sxPut_none, ↓bxPut, ↓seqQ_normal, ↓seqQ_exit, ↓seqQ_ret, ↓seqQ_goto, ↓blockQ_normal, ↓blockQ_ret, ↓blockQ_goto, ↓blockQ_exit, ↓loopQ_normal, ↓loopQ_exit, ↓loopQ_ret, ↓loopQ_goto, ↓resQ_normal, ↓resQ_ret, ↓sxRes_nil, ↓sxRes_tmp, ↓bxRes_cell, ↓upd_apply, ↓ev_tmp, ↓ev_const, ↓ev_global, ↓ev_func, ↓dstAt, ↓gval_some, sxOptB_some, sxOptB_ite, mm_max, mm_min, bin_shl, bin_shr, bin_int, intBin, una_not_dec, una_nt, una_nf, una_neg, aPick_true, aPick_false, sxCallVB_fn, sxCallVB_yield, sxGuardB_u, sxGuardB_tt, sxGuardB_tf, sxGuardB_ft, sxGuardB_ff, sxIfB_t, sxIfB_f, packRes_one, packRes_two, List.map_cons, List.map_nil, List.nil_append, List.cons_append, List.append_nil, ↓reduceIte, Nat.reduceEqDiff, Nat.reduceLT, dec_T, dec_F, false_imp, true_and, and_true, true_implies, implies_true, false_and, and_false, true_or, or_true, false_or, or_false, and_self, or_self, read_relow, size_relow, low_relow, relow_relow, aLoad_relow, Nat.add_zero, Nat.mul_one, one1, Option.bind_some, ne_eq, Int.natCast_nonneg, Int.toNat_natCast, not_true_eq_false, not_false_eq_true, Option.map_some, Option.map_none, *, lenR, lenB, faR0, faR1, faB0, faB1, ldI, ldBs, Nat.zero_add])
      all_goals first
        | exact hbad fun hc => by have := hc.1; have := hc.2.1; have := hc.2.2; omega
        | exact ⟨_, by omega, i + 1, rfl, by omega, hgo2 ⟨by omega, by omega, by omega⟩, rfl⟩
    · have hlt2' : ¬ (i : Int) < k := by omega
      have hie : i = x.bands.length := by omega
      have hok : RuleOk k x := ⟨hm.1, hm.2.1, hm.2.2, all_of fun j hj => hall2 j (by omega)⟩
      clear hb2 hst hno hie hm
      repeat' (first | (with_reducible refine sxGuardB_tsp (fun h => ?_) (fun h => ?_)) | (with_reducible refine sxGuardB_fsp (fun h => ?_) (fun h => ?_)) | (with_reducible refine sxIfB_sp (fun h => ?_) (fun h => ?_)) | (with_reducible refine sxD_bar (by kernel_rfl) ?_) | simp only [↓sxC_skip, ↓sxC_draw, ↓sxC_region, ↓sxC_seq, ↓bxC_cond, ↓bxC_loop, ↓sxC_block, ↓sxC_exit, ↓sxC_goto, ↓sxC_ret, ↓sxOps_nil, ↓sxOps_cons, ↓sxDraw_nil, ↓bxDraw_cons, ↓sxD_same, ↓sxStep_none, ↓bxStep_some, ↓bxOp_move, ↓bxOp_assign, ↓bxOp_pick, ↓bxOp_alloc, ↓bxOp_box, ↓bxOp_build, ↓bxOp_buildSlice, ↓bxOp_load, ↓bxOp_store, ↓bxOp_nilCheck, ↓bxOp_bin, ↓bxOp_un, ↓bxOp_makeI, ↓bxOp_makeFunc, ↓bxOp_makeSlice, ↓bxOp_slice, ↓bxOp_fieldAddr, ↓bxOp_field, ↓bxOp_indexAddr, ↓bxOp_index, ↓bxOp_assert, ↓bxOp_extract, ↓bxOp_value, ↓bxOp_len, ↓bxOp_cap, ↓bxOp_append, ↓bxOp_copy, ↓bxOp_max, ↓bxOp_min, ↓bxOp_convert, ↓sxPut_none, ↓bxPut, ↓seqQ_normal, ↓seqQ_exit, ↓seqQ_ret, ↓seqQ_goto, ↓blockQ_normal, ↓blockQ_ret, ↓blockQ_goto, ↓blockQ_exit, ↓loopQ_normal, ↓loopQ_exit, ↓loopQ_ret, ↓loopQ_goto, ↓resQ_normal, ↓resQ_ret, ↓sxRes_nil, ↓sxRes_tmp, ↓bxRes_cell, ↓upd_apply, ↓ev_tmp, ↓ev_const, ↓ev_global, ↓ev_func, ↓dstAt, ↓gval_some, sxOptB_some, sxOptB_ite, mm_max, mm_min, bin_shl, bin_shr, bin_int, intBin, una_not_dec, una_nt, una_nf, una_neg, aPick_true, aPick_false, sxCallVB_fn, sxCallVB_yield, sxGuardB_u, sxGuardB_tt, sxGuardB_tf, sxGuardB_ft, sxGuardB_ff, sxIfB_t, sxIfB_f, packRes_one, packRes_two, List.map_cons, List.map_nil, List.nil_append, List.cons_append, List.append_nil, ↓reduceIte, Nat.reduceEqDiff, Nat.reduceLT, dec_T, dec_F, false_imp, true_and, and_true, true_implies, implies_true, false_and, and_false, true_or, or_true, false_or, or_false, and_self, or_self, read_relow, size_relow, low_relow, relow_relow, aLoad_relow, Nat.add_zero, Nat.mul_one, one1, Option.bind_some, ne_eq, Int.natCast_nonneg, Int.toNat_natCast, not_true_eq_false, not_false_eq_true, Option.map_some, Option.map_none, *, lenR, lenB, Nat.zero_add])
      exact ⟨_, by omega, j + 1, rfl, by omega, hgo hok, rfl⟩
  · have hlt' : ¬ (j : Int) < (t.length : Int) := by omega
    have hje : j = t.length := by omega
    have hA : ∀ x ∈ t, RuleOk k x := all_of (d := default) fun i hi => hall i (by omega)
    clear ht hnot hje
    repeat' (first | (with_reducible refine sxGuardB_tsp (fun h => ?_) (fun h => ?_)) | (with_reducible refine sxGuardB_fsp (fun h => ?_) (fun h => ?_)) | (with_reducible refine sxIfB_sp (fun h => ?_) (fun h => ?_)) | (with_reducible refine sxD_bar (by kernel_rfl) ?_) | simp only [↓sxC_skip, ↓sxC_draw, ↓sxC_region, ↓sxC_seq, ↓bxC_cond, ↓bxC_loop, ↓sxC_block, ↓sxC_exit, ↓sxC_goto, ↓sxC_ret, ↓sxOps_nil, ↓sxOps_cons, ↓sxDraw_nil, ↓bxDraw_cons, ↓sxD_same, ↓sxStep_none, ↓bxStep_some, ↓bxOp_move, ↓bxOp_assign, ↓bxOp_pick, ↓bxOp_alloc, ↓bxOp_box, ↓bxOp_build, ↓bxOp_buildSlice, ↓bxOp_load, ↓bxOp_store, ↓bxOp_nilCheck, ↓bxOp_bin, ↓bxOp_un, ↓bxOp_makeI, ↓bxOp_makeFunc, ↓bxOp_makeSlice, ↓bxOp_slice, ↓bxOp_fieldAddr, ↓bxOp_field, ↓bxOp_indexAddr, ↓bxOp_index, ↓bxOp_assert, ↓bxOp_extract, ↓bxOp_value, ↓bxOp_len, ↓bxOp_cap, ↓bxOp_append, ↓bxOp_copy, ↓bxOp_max, ↓bxOp_min, ↓bxOp_convert, ↓sxPut_none, ↓bxPut, ↓seqQ_normal, ↓seqQ_exit, ↓seqQ_ret, ↓seqQ_goto, ↓blockQ_normal, ↓blockQ_ret, ↓blockQ_goto, ↓blockQ_exit, ↓loopQ_normal, ↓loopQ_exit, ↓loopQ_ret, ↓loopQ_goto, ↓resQ_normal, ↓resQ_ret, ↓sxRes_nil, ↓sxRes_tmp, ↓bxRes_cell, ↓upd_apply, ↓ev_tmp, ↓ev_const, ↓ev_global, ↓ev_func, ↓dstAt, ↓gval_some, sxOptB_some, sxOptB_ite, mm_max, mm_min, bin_shl, bin_shr, bin_int, intBin, una_not_dec, una_nt, una_nf, una_neg, aPick_true, aPick_false, sxCallVB_fn, sxCallVB_yield, sxGuardB_u, sxGuardB_tt, sxGuardB_tf, sxGuardB_ft, sxGuardB_ff, sxIfB_t, sxIfB_f, packRes_one, packRes_two, List.map_cons, List.map_nil, List.nil_append, List.cons_append, List.append_nil, ↓reduceIte, Nat.reduceEqDiff, Nat.reduceLT, dec_T, dec_F, false_imp, true_and, and_true, true_implies, implies_true, false_and, and_false, true_or, or_true, false_or, or_false, and_self, or_self, read_relow, size_relow, low_relow, relow_relow, aLoad_relow, Nat.add_zero, Nat.mul_one, one1, Option.bind_some, ne_eq, Int.natCast_nonneg, Int.toNat_natCast, not_true_eq_false, not_false_eq_true, Option.map_some, Option.map_none, *, lenR])
    exact congrArg (Value.int .i64) (hyes hA)
end Go.Proofs.YtmllfacipbpkfaaDoor
