/- The law QuotaContests comes to true on the canonical machine, for all arguments; the closed example is taken as known. -/
import Derived.Test.YtmcomjgebcemdaaGreatBU
set_option linter.unusedVariables false
set_option linter.unusedSimpArgs false
set_option linter.unusedSectionVars false

namespace Go.Proofs.YtmcomjgebcemdaaGreat
open Go Go.AM
set_option maxRecDepth 10000
set_option linter.unusedSimpArgs false

theorem ex0L (a b : Value) : aExtract (.tuple ⟨[a, b]⟩) 0 = some a := by kernel_rfl
theorem ex1L (a b : Value) : aExtract (.tuple ⟨[a, b]⟩) 1 = some b := by kernel_rfl

variable {S : AM.Sys} (hS : Only S 8)
include hS

theorem both (e a b : Int) (ha : -9223372036854775808 ≤ a ∧ a ≤ 9223372036854775807) (hb : -9223372036854775808 ≤ b ∧ b ≤ 9223372036854775807) : ∃ (w : List Int) (d f : Int),
    (∀ H, Grp H → H.low ≤ H.size → ∃ H' v r o, Keep H H' ∧ Grp H' ∧ SlI .i64 H' v w r o ∧ (0 < w.length → H.size ≤ r) ∧ Runs Tryz.prog S (.fn 5) [.int .i64 e, .int .i64 a, .int .i64 b] H (.tuple #[.agg ⟨[v, .int .i64 d]⟩, .int .i64 f]) H') ∧
    (∀ H, Grp H → H.low ≤ H.size → ∃ H' v r o, Keep H H' ∧ Grp H' ∧ SlI .i64 H' v w r o ∧ (0 < w.length → H.size ≤ r) ∧ Runs Tryz.prog S (.fn 6) [.int .i64 e, .int .i64 a, .int .i64 b] H (.tuple #[.agg ⟨[v, .int .i64 d]⟩, .int .i64 f]) H') := by
  by_cases hP : Q.Prob e [a, b]
  · refine ⟨halfN (twice e a b) (2 * e - twice e a b), halfD (twice e a b), 0, fun H hg hL => ?_, fun H hg hL => ?_⟩
    · obtain ⟨H', v, r, o, h1, h2, h3, h4, h5⟩ := Contest_good hS e a b H hg hL hP
      exact ⟨H', v, r, o, h1, h2, h3, fun _ => h4, h5⟩
    · obtain ⟨H', v, r, o, h1, h2, h3, h4, h5⟩ := rContest_good hS e a b H hg hL hP
      exact ⟨H', v, r, o, h1, h2, h3, fun _ => h4, h5⟩
  · refine ⟨[], 0, 2, fun H hg hL => ?_, fun H hg hL => ?_⟩
    · obtain ⟨H', h1, h2⟩ := Contest_bad hS e a b H hg hL ha hb hP
      exact ⟨H', _, 0, 0, h1, h1.grp hg, SlI_nil _, fun h => absurd h (Nat.lt_irrefl 0), h2⟩
    · obtain ⟨H', h1, h2⟩ := rContest_bad hS e a b H hg hL ha hb hP
      exact ⟨H', _, 0, 0, h1, h1.grp hg, SlI_nil _, fun h => absurd h (Nat.lt_irrefl 0), h2⟩

/-- THE LAW, on the canonical machine. -/
theorem contests_runs (e a b : Int) (H : Heap) (hg : Grp H) (hL : H.low ≤ H.size) (ha : -9223372036854775808 ≤ a ∧ a ≤ 9223372036854775807) (hb : -9223372036854775808 ≤ b ∧ b ≤ 9223372036854775807)
    (hO : ∀ H', Keep H H' → S.O 8 [] H') : ∃ H', Runs Tryz.prog S (.fn 3) [.int .i64 e, .int .i64 a, .int .i64 b] H (.bool true) H' := by
  suffices h : WCall Tryz.prog S (.fn 3) [.int .i64 e, .int .i64 a, .int .i64 b] H (fun v H' => v = .bool true) by
    obtain ⟨_, H', hr, rfl⟩ := h; exact ⟨H', hr⟩
  obtain ⟨w, d, f, hC, hR⟩ := both hS e a b ha hb
  obtain ⟨H1, v1, r1, o1, k1, g1, s1, fr1, R1⟩ := hC H hg hL
  have f1 := R1.bx
  obtain ⟨a1, c1, rfl⟩ := s1.v0
  obtain ⟨H2, e2, k2, z2, -, -⟩ := box1 H1 [.slice none 0 0, .int .i64 0] 24
  have ow2 : Own H2 H1.size 24 [.slice none 0 0, .int .i64 0] := e2 ▸ Own.new H1 _ _
  obtain ⟨H3, p3, ow3, z3, rr3, kk3⟩ := stP ow2 rfl a1 w.length c1 d
  have k13 := kk3 H1 k2 (Nat.le_refl _)
  have k03 := k1.trans k13
  obtain ⟨H4, v2, r2, o2, k4, g4, s4, fr4, R4⟩ := hR H3 (k03.grp hg) (k03.low hL)
  have f4 := R4.bx
  obtain ⟨a2, c2, rfl⟩ := s4.v0
  obtain ⟨H5, e5, k5, z5, -, -⟩ := box1 H4 [.slice none 0 0, .int .i64 0] 24
  have ow5 : Own H5 H4.size 24 [.slice none 0 0, .int .i64 0] := e5 ▸ Own.new H4 _ _
  obtain ⟨H6, p6, ow6, z6, rr6, kk6⟩ := stP ow5 rfl a2 w.length c2 d
  have k46 := kk6 H4 k5 (Nat.le_refl _)
  have k06 := (k03.trans k4).trans k46
  obtain ⟨m1, _, _⟩ := ownP (ow3.keep (k4.trans k46))
  obtain ⟨m2, _, _⟩ := ownP ow6
  have l6 := k06.low hL
  obtain ⟨H7, k7, R7⟩ := cparts_runs hS (.slice a1 w.length c1) (.slice a2 w.length c2) w d r1 o1 r2 o2 H6 l6 ((s1.keep k13).keep (k4.trans k46)) (s4.keep k46)
  have f7 := R7.bx
  obtain ⟨H8, k8, R8⟩ := cparts_runs hS (.slice a1 w.length c1) (.slice a2 w.length c2) w d r1 o1 r2 o2 (H6.relow H6.size) (Nat.le_refl _) (((s1.keep k13).keep (k4.trans k46)).keep (Keep.relowS _)) ((s4.keep k46).keep (Keep.relowS _))
  have f8 := R8.bx
  have hk3 : ∀ (K : Value → Heap → Prop) (b : Blk K), sxCallB Tryz.prog S (.fn 8) [] H7 K b = K (.bool true) H7 := fun K b => known_bx (hO _ (k06.trans k7))
  clear R1 R4 R7 R8 s1 s4 ow2 ow3 ow5 ow6 z3 z6 rr3 rr6 kk3 kk6 fr1 fr4 hC hR
  generalize w.length = wl at *
  refine call_of Tryz.func3 rfl (Nat.le_of_ble_eq_true rfl) (hS.no rfl _ _) ?_
  rw [Tryz.ntmps3, Tryz.results3]
  repeat' (first | (with_reducible refine sxGuardB_tsp (fun h => ?_) (fun h => ?_)) | (with_reducible refine sxGuardB_fsp (fun h => ?_) (fun h => ?_)) | (with_reducible refine sxIfB_sp (fun h => ?_) (fun h => ?_)) | simp only [↓sxC_skip, ↓sxC_draw, ↓sxC_region, ↓sxC_seq, ↓bxC_cond, ↓bxC_loop, ↓sxC_block, ↓sxC_exit, ↓sxC_goto, ↓sxC_ret, ↓sxOps_nil, ↓sxOps_cons, ↓sxDraw_nil, ↓bxDraw_cons, ↓sxD_same, ↓sxStep_none, ↓bxStep_some, ↓bxOp_move, ↓bxOp_assign, ↓bxOp_pick, ↓bxOp_alloc, ↓bxOp_box, ↓bxOp_build, ↓bxOp_buildSlice, ↓bxOp_load, ↓bxOp_store, ↓bxOp_nilCheck, ↓bxOp_bin, ↓bxOp_un, ↓bxOp_makeI, ↓bxOp_makeFunc, ↓bxOp_makeSlice, ↓bxOp_slice, ↓bxOp_fieldAddr, ↓bxOp_field, ↓bxOp_indexAddr, ↓bxOp_index, ↓bxOp_assert, ↓bxOp_extract, ↓bxOp_value, ↓bxOp_len, ↓bxOp_cap, ↓bxOp_append, ↓bxOp_copy, ↓bxOp_max, ↓bxOp_min, ↓bxOp_convert, ↓sxPut_none, ↓bxPut, ↓seqQ_normal, ↓seqQ_exit, ↓seqQ_ret, ↓seqQ_goto, ↓blockQ_normal, ↓blockQ_ret, ↓blockQ_goto, ↓blockQ_exit, ↓loopQ_normal, ↓loopQ_exit, ↓loopQ_ret, ↓loopQ_goto, ↓resQ_normal, ↓resQ_ret, ↓sxRes_nil, ↓sxRes_tmp, ↓bxRes_cell, ↓upd_apply, ↓ev_tmp, ↓ev_const, ↓ev_global, ↓ev_func, ↓dstAt, ↓gval_some, sxOptB_some, sxOptB_ite, mm_max, mm_min, binP_shl, binP_shr, binP_int, intBin, una_not_dec, una_nt, una_nf, una_neg, aPick_true, aPick_false, sxCallVB_fn, sxCallVB_yield, sxGuardB_u, sxGuardB_tt, sxGuardB_tf, sxGuardB_ft, sxGuardB_ff, sxIfB_t, sxIfB_f, packRes_one, packRes_two, List.map_cons, List.map_nil, List.nil_append, List.cons_append, List.append_nil, ↓reduceIte, Nat.reduceEqDiff, Nat.reduceLT, dec_T, dec_F, false_imp, true_and, and_true, true_implies, implies_true, false_and, and_false, true_or, or_true, false_or, or_false, and_self, or_self, read_relow, size_relow, low_relow, relow_relow, aLoad_relow, Nat.add_zero, Nat.mul_one, one1, Option.bind_some, ne_eq, Int.natCast_nonneg, Int.toNat_natCast, not_true_eq_false, not_false_eq_true, Option.map_some, Option.map_none, *, argF, List.getD_cons_zero, List.getD_cons_succ, alP, ldP, ex0L, ex1L, Nat.zero_add] | (with_reducible refine sxD_bar (by kernel_rfl) ?_))
end Go.Proofs.YtmcomjgebcemdaaGreat
