/- Into how many pieces the ends of a tariff's bands cut all things, continued. -/
import Derived.Test.YtmllfacipbpkfaaDoorT2
import Derived.Test.YtmllfacipbpkfaaDoorT3
set_option linter.unusedVariables false
set_option linter.unusedSimpArgs false
set_option linter.unusedSectionVars false

namespace Go.Proofs.YtmllfacipbpkfaaDoor
open Go Go.AM
set_option maxRecDepth 10000
set_option linter.unusedSimpArgs false
variable {S : AM.Sys} (hS : Only S 8)
include hS

theorem all_runs (a : Option Addr) (n c : Nat) (H : Heap) : ∃ z, Runs Tryd.prog S (.fn 36) [.slice a n c] H (.int .i64 z) H := by
  suffices h : WCall Tryd.prog S (.fn 36) [.slice a n c] H (fun v H' => ∃ z, v = .int .i64 z ∧ H' = H) by
    obtain ⟨_, _, hr, z, rfl, rfl⟩ := h; exact ⟨z, hr⟩
  refine call_of Tryd.func36 rfl (Nat.le_of_ble_eq_true rfl) (hS.no rfl _ _) ?_
  rw [Tryd.ntmps36, Tryd.results36]
  have h0 : (0 : Int) ≤ (n : Int) := by omega
  repeat' (first | (with_reducible refine sxGuardB_tsp (fun h => ?_) (fun h => ?_)) | (with_reducible refine sxGuardB_fsp (fun h => ?_) (fun h => ?_)) | (with_reducible refine sxIfB_sp (fun h => ?_) (fun h => ?_)) | (with_reducible refine sxD_bar (by kernel_rfl) ?_) | simp only [↓sxC_skip, ↓sxC_draw, ↓sxC_region, ↓sxC_seq, ↓bxC_cond, ↓bxC_loop, ↓sxC_block, ↓sxC_exit, ↓sxC_goto, ↓sxC_ret, ↓sxOps_nil, ↓sxOps_cons, ↓sxDraw_nil, ↓bxDraw_cons, ↓sxD_same, ↓sxStep_none, ↓bxStep_some, ↓bxOp_move, ↓bxOp_assign, ↓bxOp_pick, ↓bxOp_alloc, ↓bxOp_box, ↓bxOp_build, ↓bxOp_buildSlice, ↓bxOp_load, ↓bxOp_store, ↓bxOp_nilCheck, ↓bxOp_bin, ↓bxOp_un, ↓bxOp_makeI, ↓bxOp_makeFunc, ↓bxOp_makeSlice, ↓bxOp_slice, ↓bxOp_fieldAddr, ↓bxOp_field, ↓bxOp_indexAddr, ↓bxOp_index, ↓bxOp_assert, ↓bxOp_extract, ↓bxOp_value, ↓bxOp_len, ↓bxOp_cap, ↓bxOp_append, ↓bxOp_copy, ↓bxOp_max, ↓bxOp_min, ↓bxOp_convert, ↓sxPut_none, ↓bxPut, ↓seqQ_normal, ↓seqQ_exit, ↓seqQ_ret, ↓seqQ_goto, ↓blockQ_normal, ↓blockQ_ret, ↓blockQ_goto, ↓blockQ_exit, ↓loopQ_normal, ↓loopQ_exit, ↓loopQ_ret, ↓loopQ_goto, ↓resQ_normal, ↓resQ_ret, ↓sxRes_nil, ↓sxRes_tmp, ↓bxRes_cell, ↓upd_apply, ↓ev_tmp, ↓ev_const, ↓ev_global, ↓ev_func, ↓dstAt, ↓gval_some, sxOptB_some, sxOptB_ite, mm_max, mm_min, bin_shl, bin_shr, bin_int, intBin, una_not_dec, una_nt, una_nf, una_neg, aPick_true, aPick_false, sxCallVB_fn, sxCallVB_yield, sxGuardB_u, sxGuardB_tt, sxGuardB_tf, sxGuardB_ft, sxGuardB_ff, sxIfB_t, sxIfB_f, packRes_one, packRes_two, List.map_cons, List.map_nil, List.nil_append, List.cons_append, List.append_nil, ↓reduceIte, Nat.reduceEqDiff, Nat.reduceLT, dec_T, dec_F, false_imp, true_and, and_true, true_implies, implies_true, false_and, and_false, true_or, or_true, false_or, or_false, and_self, or_self, read_relow, size_relow, low_relow, relow_relow, aLoad_relow, Nat.add_zero, Nat.mul_one, one1, Option.bind_some, ne_eq, Int.natCast_nonneg, Int.toNat_natCast, not_true_eq_false, not_false_eq_true, Option.map_some, Option.map_none, *, argF, List.getD_cons_zero, List.getD_cons_succ, lenR])
  exact ⟨_, rfl⟩

/-- Rules whose bands are bands for k marks. -/
theorem cuts_runs (k : Int) (v : Value) (t : List Rl) (r o : Nat) (mark set : Int) (H : Heap) (hL : H.low ≤ H.size) (hg : Grp H) (ht : SlR H v t r o) (hk : ∀ x ∈ t, RuleOk k x) (hm : 0 ≤ mark ∧ mark < k) (hl : t.length ≤ 24) :
    ∃ H' v' w', Keep H H' ∧ Grp H' ∧ w'.length ≤ 100 ∧ (∃ r' o', SlI .i64 H' v' w' r' o') ∧ Runs Tryd.prog S (.fn 35) [v, .int .i64 mark, .int .i64 set] H v' H' := by
  suffices h : WCall Tryd.prog S (.fn 35) [v, .int .i64 mark, .int .i64 set] H (fun v' H' => ∃ w', Keep H H' ∧ Grp H' ∧ w'.length ≤ 100 ∧ (∃ r' o', SlI .i64 H' v' w' r' o')) by
    obtain ⟨v', H', hr, w', h1, h2, h3, h4⟩ := h; exact ⟨H', v', w', h1, h2, h3, h4, hr⟩
  obtain ⟨a, cap, rfl⟩ := ht.v0
  refine call_of Tryd.func35 rfl (Nat.le_of_ble_eq_true rfl) (hS.no rfl _ _) ?_
  rw [Tryd.ntmps35, Tryd.results35]
  have b0 := bsI H 1000
  repeat' (first | (with_reducible refine sxGuardB_tsp (fun h => ?_) (fun h => ?_)) | (with_reducible refine sxGuardB_fsp (fun h => ?_) (fun h => ?_)) | (with_reducible refine sxIfB_sp (fun h => ?_) (fun h => ?_)) | (with_reducible refine sxD_bar (by kernel_rfl) ?_) | simp only [↓sxC_skip, ↓sxC_draw, ↓sxC_region, ↓sxC_seq, ↓bxC_cond, ↓bxC_loop, ↓sxC_block, ↓sxC_exit, ↓sxC_goto, ↓sxC_ret, ↓sxOps_nil, ↓sxOps_cons, ↓sxDraw_nil, ↓bxDraw_cons, ↓sxD_same, ↓sxStep_none, ↓bxStep_some, ↓bxOp_move, ↓bxOp_assign, ↓bxOp_pick, ↓bxOp_alloc, ↓bxOp_box, ↓bxOp_build, ↓bxOp_buildSlice, ↓bxOp_load, ↓bxOp_store, ↓bxOp_nilCheck, ↓bxOp_bin, ↓bxOp_un, ↓bxOp_makeI, ↓bxOp_makeFunc, ↓bxOp_makeSlice, ↓bxOp_slice, ↓bxOp_fieldAddr, ↓bxOp_field, ↓bxOp_indexAddr, ↓bxOp_index, ↓bxOp_assert, ↓bxOp_extract, ↓bxOp_value, ↓bxOp_len, ↓bxOp_cap, ↓bxOp_append, ↓bxOp_copy, ↓bxOp_max, ↓bxOp_min, ↓bxOp_convert, ↓sxPut_none, ↓bxPut, ↓seqQ_normal, ↓seqQ_exit, ↓seqQ_ret, ↓seqQ_goto, ↓blockQ_normal, ↓blockQ_ret, ↓blockQ_goto, ↓blockQ_exit, ↓loopQ_normal, ↓loopQ_exit, ↓loopQ_ret, ↓loopQ_goto, ↓resQ_normal, ↓resQ_ret, ↓sxRes_nil, ↓sxRes_tmp, ↓bxRes_cell, ↓upd_apply, ↓ev_tmp, ↓ev_const, ↓ev_global, ↓ev_func, ↓dstAt, ↓gval_some, sxOptB_some, sxOptB_ite, mm_max, mm_min, bin_shl, bin_shr, bin_int, intBin, una_not_dec, una_nt, una_nf, una_neg, aPick_true, aPick_false, sxCallVB_fn, sxCallVB_yield, sxGuardB_u, sxGuardB_tt, sxGuardB_tf, sxGuardB_ft, sxGuardB_ff, sxIfB_t, sxIfB_f, packRes_one, packRes_two, List.map_cons, List.map_nil, List.nil_append, List.cons_append, List.append_nil, ↓reduceIte, Nat.reduceEqDiff, Nat.reduceLT, dec_T, dec_F, false_imp, true_and, and_true, true_implies, implies_true, false_and, and_false, true_or, or_true, false_or, or_false, and_self, or_self, read_relow, size_relow, low_relow, relow_relow, aLoad_relow, Nat.add_zero, Nat.mul_one, one1, Option.bind_some, ne_eq, Int.natCast_nonneg, Int.toNat_natCast, not_true_eq_false, not_false_eq_true, Option.map_some, Option.map_none, *, argF, List.getD_cons_zero, List.getD_cons_succ, lenR])
  have ho := Own.new H [.int .i64 1000] 3
  have hKn := Keep.newExact H [.int .i64 1000] 3
  have hmx : Go.maxLen = 9223372036854775807 := rfl
  have s0 : SlI .i64 (H.newExact [.int .i64 1000] 3) (.slice (some ⟨H.size, 0, none⟩) 1 1) [1000] H.size 0 := ⟨⟨_, 1, rfl, fun _ => rfl⟩, fun i hi => by
    have hi0 : i = 0 := by simpa using hi
    subst hi0
    exact ⟨_, ho.read (o := 0) (n := 1) (show 0 + 1 ≤ 1 by omega), rfl, by decide, by decide⟩, fun _ => ho.lt, by simp; omega⟩
  refine sxL_of (fun m ρ H1 => ∃ (j : Nat) (w' : List Int) (v' : Value) (r' o' : Nat), m = t.length - j ∧ j ≤ t.length ∧ Keep H H1 ∧ Grp H1 ∧ SlI .i64 H1 v' w' r' o' ∧ w'.length ≤ 1 + 2 * j ∧ ρ 0 = .slice a t.length cap ∧ ρ 1 = .int .i64 mark ∧ ρ 2 = .int .i64 set ∧ ρ 7 = v' ∧ ρ 8 = .int .i64 j)
    ⟨0, [1000], _, H.size, 0, rfl, Nat.zero_le _, hKn, hKn.grp hg, s0, by simp, rfl, rfl, rfl, rfl, rfl⟩ ?_
  clear s0 ho b0
  rintro m ρ H1 ⟨j, w', v', r', o', rfl, hj, hK, hg1, hs1, hlen, e0, e1, e2, e7, e8⟩
  by_cases hlt : j < t.length
  · have ht1 := ht.keep hK
    have hx := hk _ (getD_mem (d := default) hlt)
    have p1 := SlR_ixN ht1 hlt
    obtain ⟨a1, c1, r1, o1, _, p2, _, hb, _⟩ := SlR_rd ht1 hlt
    have hbl : mark.toNat < (t.getD j default).bands.length := by have := hx.1; omega
    have p3 := SlB_ix hb hm.1 (by omega)
    obtain ⟨_, p4, p5⟩ := SlB_rd hb hbl
    have hbo := hx.2.2.2 _ (getD_mem (d := default) hbl)
    have hw := wrap_succ hlt ht.ml
    have hlt' : (j : Int) < (t.length : Int) := by omega
    have hne2 : ¬ (2 : Int) = 0 := by omega
    obtain ⟨H2, v2, w2, L2, hl2, hr2, hR2⟩ := put_runs hS v' w' r' o' ((t.getD j default).bands.getD mark.toNat default).lo H1 hg1 (by have := hbo.1; have := hbo.2.1; have := hbo.2.2; omega) hs1 (by omega)
    obtain ⟨rr2, s2⟩ := L2.sl hr2 (by omega)
    obtain ⟨H3, v3, w3, L3, hl3, hr3, hR3⟩ := put_runs hS v2 w2 rr2 0 ((t.getD j default).bands.getD mark.toNat default).hi H2 L2.grp (by have := hbo.1; have := hbo.2.1; have := hbo.2.2; omega) s2 (by omega)
    obtain ⟨rr3, s3⟩ := L3.sl hr3 (by omega)
    obtain ⟨H4, v4, w4, L4, hl4, hr4, hR4⟩ := put_runs hS v' w' r' o' ((t.getD j default).bands.getD mark.toNat default).hi H1 hg1 (by have := hbo.1; have := hbo.2.1; have := hbo.2.2; omega) hs1 (by omega)
    obtain ⟨rr4, s4⟩ := L4.sl hr4 (by omega)
    have p2' := L2.keep.read ((ht1.lt (by omega))) p2
    have p4' := L2.keep.read ((hb.lt (by omega))) p4
    have p5' := L2.keep.read ((hb.lt (by omega))) p5
    have f2 := hR2.bx
    have f3 := hR3.bx
    have f4 := hR4.bx
    have k3 := (hK.trans L2.keep).trans L3.keep
    have k4 := hK.trans L4.keep
    have g3 := L3.grp
    have g4 := L4.grp
    clear hR2 hR3 hR4 ht ht1 hb s2 hr2 hr3 hr4 hbo hx hk hg hmx
    generalize ((t.getD j default).bands.getD mark.toNat default).lo = lo at *
    generalize ((t.getD j default).bands.getD mark.toNat default).hi = hi at *
    generalize (t.getD j default).bands.length = bl at *
    repeat' (first | (with_reducible refine sxGuardB_tsp (fun h => ?_) (fun h => ?_)) | (with_reducible refine sxGuardB_fsp (fun h => ?_) (fun h => ?_)) | (with_reducible refine sxIfB_sp (fun h => ?_) (fun h => ?_)) | (with_reducible refine sxD_bar (by kernel_rfl) ?_) | simp only [↓sxC_skip, ↓sxC_draw, ↓sxC_region, ↓sxC_seq, ↓bxC_cond, ↓bxC_loop, ↓sxC_block, ↓sxC_exit, ↓sxC_goto, ↓sxC_ret, ↓sxOps_nil, ↓sxOps_cons, ↓sxDraw_nil, ↓bxDraw_cons, ↓sxD_same, ↓sxStep_none, ↓bxStep_some, ↓bxOp_move, ↓bxOp_assign, ↓bxOp_pick, ↓bxOp_alloc, ↓bxOp_box, ↓bxOp_build, ↓bxOp_buildSlice, ↓bxOp_load, ↓bxOp_store, ↓bxOp_nilCheck, ↓bxOp_bin, ↓bxOp_un, ↓bxOp_makeI, ↓bxOp_makeFunc, ↓bxOp_makeSlice, ↓bxOp_slice, ↓bxOp_fieldAddr, ↓bxOp_field, ↓bxOp_indexAddr, ↓bxOp_index, ↓bxOp_assert, ↓bxOp_extract, ↓bxOp_value, ↓bxOp_len, ↓bxOp_cap, ↓bxOp_append, ↓bxOp_copy, ↓bxOp_max, ↓bxOp_min, ↓bxOp_convert, ↓sxPut_none, ↓bxPut, ↓seqQ_normal, ↓seqQ_exit, ↓seqQ_ret, ↓seqQ_goto, ↓blockQ_normal, ↓blockQ_ret, ↓blockQ_goto, ↓blockQ_exit, ↓loopQ_normal, ↓loopQ_exit, ↓loopQ_ret, ↓loopQ_goto, ↓resQ_normal, ↓resQ_ret, ↓sxRes_nil, ↓sxRes_tmp, ↓bxRes_cell, ↓upd_apply, ↓ev_tmp, ↓ev_const, ↓ev_global, ↓ev_func, ↓dstAt, ↓gval_some, sxOptB_some, sxOptB_ite, mm_max, mm_min, bin_shl, bin_shr, bin_int, intBin, una_not_dec, una_nt, una_nf, una_neg, aPick_true, aPick_false, sxCallVB_fn, sxCallVB_yield, sxGuardB_u, sxGuardB_tt, sxGuardB_tf, sxGuardB_ft, sxGuardB_ff, sxIfB_t, sxIfB_f, packRes_one, packRes_two, List.map_cons, List.map_nil, List.nil_append, List.cons_append, List.append_nil, ↓reduceIte, Nat.reduceEqDiff, Nat.reduceLT, dec_T, dec_F, false_imp, true_and, and_true, true_implies, implies_true, false_and, and_false, true_or, or_true, false_or, or_false, and_self, or_self, read_relow, size_relow, low_relow, relow_relow, aLoad_relow, Nat.add_zero, Nat.mul_one, one1, Option.bind_some, ne_eq, Int.natCast_nonneg, Int.toNat_natCast, not_true_eq_false, not_false_eq_true, Option.map_some, Option.map_none, *, lenR, lenB, faR0, faB0, faB1, ldI, ldBs, Nat.zero_add])
    all_goals first
      | exact ⟨_, by omega, j + 1, w3, v3, rr3, 0, rfl, by omega, s3, by omega, rfl, rfl⟩
      | exact ⟨_, by omega, j + 1, w4, v4, rr4, 0, rfl, by omega, s4, by omega, rfl, rfl⟩
      | exact ⟨_, by omega, j + 1, w', v', r', o', rfl, by omega, hs1, by omega, rfl, rfl⟩
      | trace_state
  · have hlt' : ¬ (j : Int) < (t.length : Int) := by omega
    have h100 : w'.length ≤ 100 := by omega
    clear ht hk hg hmx
    repeat' (first | (with_reducible refine sxGuardB_tsp (fun h => ?_) (fun h => ?_)) | (with_reducible refine sxGuardB_fsp (fun h => ?_) (fun h => ?_)) | (with_reducible refine sxIfB_sp (fun h => ?_) (fun h => ?_)) | (with_reducible refine sxD_bar (by kernel_rfl) ?_) | simp only [↓sxC_skip, ↓sxC_draw, ↓sxC_region, ↓sxC_seq, ↓bxC_cond, ↓bxC_loop, ↓sxC_block, ↓sxC_exit, ↓sxC_goto, ↓sxC_ret, ↓sxOps_nil, ↓sxOps_cons, ↓sxDraw_nil, ↓bxDraw_cons, ↓sxD_same, ↓sxStep_none, ↓bxStep_some, ↓bxOp_move, ↓bxOp_assign, ↓bxOp_pick, ↓bxOp_alloc, ↓bxOp_box, ↓bxOp_build, ↓bxOp_buildSlice, ↓bxOp_load, ↓bxOp_store, ↓bxOp_nilCheck, ↓bxOp_bin, ↓bxOp_un, ↓bxOp_makeI, ↓bxOp_makeFunc, ↓bxOp_makeSlice, ↓bxOp_slice, ↓bxOp_fieldAddr, ↓bxOp_field, ↓bxOp_indexAddr, ↓bxOp_index, ↓bxOp_assert, ↓bxOp_extract, ↓bxOp_value, ↓bxOp_len, ↓bxOp_cap, ↓bxOp_append, ↓bxOp_copy, ↓bxOp_max, ↓bxOp_min, ↓bxOp_convert, ↓sxPut_none, ↓bxPut, ↓seqQ_normal, ↓seqQ_exit, ↓seqQ_ret, ↓seqQ_goto, ↓blockQ_normal, ↓blockQ_ret, ↓blockQ_goto, ↓blockQ_exit, ↓loopQ_normal, ↓loopQ_exit, ↓loopQ_ret, ↓loopQ_goto, ↓resQ_normal, ↓resQ_ret, ↓sxRes_nil, ↓sxRes_tmp, ↓bxRes_cell, ↓upd_apply, ↓ev_tmp, ↓ev_const, ↓ev_global, ↓ev_func, ↓dstAt, ↓gval_some, sxOptB_some, sxOptB_ite, mm_max, mm_min, bin_shl, bin_shr, bin_int, intBin, una_not_dec, una_nt, una_nf, una_neg, aPick_true, aPick_false, sxCallVB_fn, sxCallVB_yield, sxGuardB_u, sxGuardB_tt, sxGuardB_tf, sxGuardB_ft, sxGuardB_ff, sxIfB_t, sxIfB_f, packRes_one, packRes_two, List.map_cons, List.map_nil, List.nil_append, List.cons_append, List.append_nil, ↓reduceIte, Nat.reduceEqDiff, Nat.reduceLT, dec_T, dec_F, false_imp, true_and, and_true, true_implies, implies_true, false_and, and_false, true_or, or_true, false_or, or_false, and_self, or_self, read_relow, size_relow, low_relow, relow_relow, aLoad_relow, Nat.add_zero, Nat.mul_one, one1, Option.bind_some, ne_eq, Int.natCast_nonneg, Int.toNat_natCast, not_true_eq_false, not_false_eq_true, Option.map_some, Option.map_none, *, lenR])
    exact ⟨w', h100, r', o', hs1⟩
end Go.Proofs.YtmllfacipbpkfaaDoor
