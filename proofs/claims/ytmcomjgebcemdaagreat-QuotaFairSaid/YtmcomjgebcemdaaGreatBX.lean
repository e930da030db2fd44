/- The first pair that a division treats otherwise: what it is, and the program's search. -/
import Derived.Test.YtmcomjgebcemdaaGreatBU
set_option linter.unusedVariables false
set_option linter.unusedSimpArgs false
set_option linter.unusedSectionVars false

namespace Go.Proofs.YtmcomjgebcemdaaGreat
open Go Go.AM
set_option maxRecDepth 10000
set_option linter.unusedSimpArgs false

/-- Are two shares other ones than the contest would give? -/
def Unf (c w : List Int) (d : Int) (i j : Nat) : Prop := twice (w.getD i 0 + w.getD j 0) (c.getD i 0 * d) (c.getD j 0 * d) ≠ 2 * w.getD i 0
instance (c w : List Int) (d : Int) (i j : Nat) : Decidable (Unf c w d i j) := by unfold Unf; infer_instance
/-- All pairs before one, in their order, are treated fairly. -/
def Before (c w : List Int) (d : Int) (i j : Nat) : Prop := (∀ i' j', i' < i → i' < j' → j' < c.length → ¬ Unf c w d i' j') ∧ ∀ j', i < j' → j' < j → ¬ Unf c w d i j'
/-- The list that is to be returned. -/
def Res (c w : List Int) (d : Int) (u : List Int) : Prop :=
  (∃ i j : Nat, i < j ∧ j < c.length ∧ u = [(i : Int), (j : Int)] ∧ Unf c w d i j ∧ Before c w d i j) ∨ (u = [] ∧ ∀ i j, i < j → j < c.length → ¬ Unf c w d i j)
theorem Res.one {c w : List Int} {d : Int} {u u2 : List Int} (h : Res c w d u) (h2 : Res c w d u2) : u = u2 := by
  rcases h with ⟨i, j, a1, a2, rfl, a3, a4⟩ | ⟨rfl, a⟩
  · rcases h2 with ⟨i2, j2, b1, b2, rfl, b3, b4⟩ | ⟨rfl, b⟩
    · have hi : i = i2 := by
        rcases Nat.lt_trichotomy i i2 with h | h | h
        · exact absurd a3 (b4.1 i j h a1 a2)
        · exact h
        · exact absurd b3 (a4.1 i2 j2 h b1 b2)
      subst hi
      have hj : j = j2 := by
        rcases Nat.lt_trichotomy j j2 with h | h | h
        · exact absurd a3 (b4.2 j a1 h)
        · exact h
        · exact absurd b3 (a4.2 j2 b1 h)
      subst hj
      rfl
    · exact absurd a3 (b i j a1 a2)
  · rcases h2 with ⟨i2, j2, b1, b2, rfl, b3, b4⟩ | ⟨rfl, b⟩
    · exact absurd b3 (a i2 j2 b1 b2)
    · rfl
/-- What is known of shares. -/
theorem shr_in {e : Int} {c w : List Int} {d : Int} (hP : Q.Prob e c) (hS : Q.Shr e c w d) {i : Nat} (hi : i < c.length) : (0 ≤ c.getD i 0 ∧ c.getD i 0 ≤ 100000) ∧ (0 ≤ w.getD i 0 ∧ w.getD i 0 ≤ 100000000000) ∧ (0 ≤ c.getD i 0 * d ∧ c.getD i 0 * d ≤ 100000000000) := by
  have h1 := hP.2.2.1 _ (getD_mem (d := 0) hi)
  have h2 := hS.2.1
  have h3 := hS.2.2.1 i (by rw [hS.1]; exact hi)
  have h4 : c.getD i 0 * d ≤ 100000 * 1000000 := Int.mul_le_mul h1.2 h2.2 (by omega) (by omega)
  have h5 := Int.mul_nonneg h1.1 (show 0 ≤ d by omega)
  exact ⟨h1, ⟨h3.1, by omega⟩, h5, by omega⟩

variable {S : AM.Sys} (hS : Only S 8)
include hS

theorem Fair_runs (e : Int) (v v2 : Value) (c w : List Int) (d : Int) (r o r2 o2 : Nat) (H : Heap) (hg : Grp H) (hL : H.low ≤ H.size) (hc : SlI .i64 H v c r o) (hl : SlI .i64 H v2 w r2 o2) (hP : Q.Prob e c) (hShr : Q.Shr e c w d) :
    ∃ H' v' u r' o', Res c w d u ∧ Keep H H' ∧ Grp H' ∧ SlI .i64 H' v' u r' o' ∧ Runs Tryz.prog S (.fn 10) [.int .i64 e, v, .agg ⟨[v2, .int .i64 d]⟩] H (.tuple #[v', .int .i64 0]) H' := by
  suffices h : WCall Tryz.prog S (.fn 10) [.int .i64 e, v, .agg ⟨[v2, .int .i64 d]⟩] H (fun z H' => ∃ v' u r' o', z = .tuple #[v', .int .i64 0] ∧ Res c w d u ∧ Keep H H' ∧ Grp H' ∧ SlI .i64 H' v' u r' o') by
    obtain ⟨_, H', hr, v', u, r', o', rfl, h1, h2, h3, h4⟩ := h; exact ⟨H', v', u, r', o', h1, h2, h3, h4, hr⟩
  obtain ⟨a, cap, rfl⟩ := hc.v0
  obtain ⟨a2, cap2, rfl⟩ := hl.v0
  obtain ⟨H1, e1, k1, z1, rd2, rd0, rd1⟩ := Q.boxP H (.slice a2 w.length cap2) (.int .i64 d)
  obtain ⟨H2, k2, R2⟩ := Q.isProblem_runs hS e _ c r o H1 (hc.keep k1)
  have f2 := R2.bx
  rw [decide_eq_true hP] at f2
  have k12 := k1.trans k2
  obtain ⟨H3, k3, R3⟩ := Q.areShares_runs hS e _ _ c w d r o r2 o2 H2 (k12.low hL) (hc.keep k12) (hl.keep k12) hP
  have f3 := R3.bx
  rw [decide_eq_true hShr] at f3
  have k13 := k12.trans k3
  have l3 := k13.low hL
  have g3 := k13.grp hg
  have m2 := k2.read z1 rd2
  have m3 := (k2.trans k3).read z1 rd0
  have m4 := (k2.trans k3).read z1 rd1
  have hc3 := hc.keep k13
  have hl3 := hl.keep k13
  have hnot : una UnOp.not (Value.bool true) = some (.bool false) := rfl
  have hml := hc.ml
  clear rd2 rd0 rd1 R2 R3 hc hl
  refine call_of Tryz.func10 rfl (Nat.le_of_ble_eq_true rfl) (hS.no rfl _ _) ?_
  rw [Tryz.ntmps10, Tryz.results10]
  repeat' (first | (with_reducible refine sxGuardB_tsp (fun h => ?_) (fun h => ?_)) | (with_reducible refine sxGuardB_fsp (fun h => ?_) (fun h => ?_)) | (with_reducible refine sxIfB_sp (fun h => ?_) (fun h => ?_)) | simp only [↓sxC_skip, ↓sxC_draw, ↓sxC_region, ↓sxC_seq, ↓bxC_cond, ↓bxC_loop, ↓sxC_block, ↓sxC_exit, ↓sxC_goto, ↓sxC_ret, ↓sxOps_nil, ↓sxOps_cons, ↓sxDraw_nil, ↓bxDraw_cons, ↓sxD_same, ↓sxStep_none, ↓bxStep_some, ↓bxOp_move, ↓bxOp_assign, ↓bxOp_pick, ↓bxOp_alloc, ↓bxOp_box, ↓bxOp_build, ↓bxOp_buildSlice, ↓bxOp_load, ↓bxOp_store, ↓bxOp_nilCheck, ↓bxOp_bin, ↓bxOp_un, ↓bxOp_makeI, ↓bxOp_makeFunc, ↓bxOp_makeSlice, ↓bxOp_slice, ↓bxOp_fieldAddr, ↓bxOp_field, ↓bxOp_indexAddr, ↓bxOp_index, ↓bxOp_assert, ↓bxOp_extract, ↓bxOp_value, ↓bxOp_len, ↓bxOp_cap, ↓bxOp_append, ↓bxOp_copy, ↓bxOp_max, ↓bxOp_min, ↓bxOp_convert, ↓sxPut_none, ↓bxPut, ↓seqQ_normal, ↓seqQ_exit, ↓seqQ_ret, ↓seqQ_goto, ↓blockQ_normal, ↓blockQ_ret, ↓blockQ_goto, ↓blockQ_exit, ↓loopQ_normal, ↓loopQ_exit, ↓loopQ_ret, ↓loopQ_goto, ↓resQ_normal, ↓resQ_ret, ↓sxRes_nil, ↓sxRes_tmp, ↓bxRes_cell, ↓upd_apply, ↓ev_tmp, ↓ev_const, ↓ev_global, ↓ev_func, ↓dstAt, ↓gval_some, sxOptB_some, sxOptB_ite, mm_max, mm_min, binP_shl, binP_shr, binP_int, intBin, una_not_dec, una_nt, una_nf, una_neg, aPick_true, aPick_false, sxCallVB_fn, sxCallVB_yield, sxGuardB_u, sxGuardB_tt, sxGuardB_tf, sxGuardB_ft, sxGuardB_ff, sxIfB_t, sxIfB_f, packRes_one, packRes_two, List.map_cons, List.map_nil, List.nil_append, List.cons_append, List.append_nil, ↓reduceIte, Nat.reduceEqDiff, Nat.reduceLT, dec_T, dec_F, false_imp, true_and, and_true, true_implies, implies_true, false_and, and_false, true_or, or_true, false_or, or_false, and_self, or_self, read_relow, size_relow, low_relow, relow_relow, aLoad_relow, Nat.add_zero, Nat.mul_one, one1, Option.bind_some, ne_eq, Int.natCast_nonneg, Int.toNat_natCast, not_true_eq_false, not_false_eq_true, Option.map_some, Option.map_none, *, argF, List.getD_cons_zero, List.getD_cons_succ, lenI, ldP, hnot, Q.cells_agg, Nat.zero_add] | (with_reducible refine sxD_bar (by kernel_rfl) ?_))
  refine sxL_of (fun m ρ H4 => ∃ k : Nat, m = c.length - k ∧ k ≤ c.length ∧ H4 = H3 ∧ (∀ i j, i < k → i < j → j < c.length → ¬ Unf c w d i j) ∧ ρ 1 = .slice a c.length cap ∧ ρ 5 = .pointer (some ⟨H.size, 0, none⟩) ∧ ρ 23 = .int .i64 c.length ∧ ρ 24 = .int .i64 k)
    ⟨0, rfl, Nat.zero_le _, rfl, (fun i j hi => absurd hi (Nat.not_lt_zero i)), rfl, rfl, rfl, rfl⟩ ?_
  rintro m ρ H4 ⟨k, rfl, hk, rfl, hall, e1, e5, e23, e24⟩
  by_cases hlt : k < c.length
  · have hlt' : (k : Int) < (c.length : Int) := by omega
    have hw := wrap_succ hlt hml
    repeat' (first | (with_reducible refine sxGuardB_tsp (fun h => ?_) (fun h => ?_)) | (with_reducible refine sxGuardB_fsp (fun h => ?_) (fun h => ?_)) | (with_reducible refine sxIfB_sp (fun h => ?_) (fun h => ?_)) | simp only [↓sxC_skip, ↓sxC_draw, ↓sxC_region, ↓sxC_seq, ↓bxC_cond, ↓bxC_loop, ↓sxC_block, ↓sxC_exit, ↓sxC_goto, ↓sxC_ret, ↓sxOps_nil, ↓sxOps_cons, ↓sxDraw_nil, ↓bxDraw_cons, ↓sxD_same, ↓sxStep_none, ↓bxStep_some, ↓bxOp_move, ↓bxOp_assign, ↓bxOp_pick, ↓bxOp_alloc, ↓bxOp_box, ↓bxOp_build, ↓bxOp_buildSlice, ↓bxOp_load, ↓bxOp_store, ↓bxOp_nilCheck, ↓bxOp_bin, ↓bxOp_un, ↓bxOp_makeI, ↓bxOp_makeFunc, ↓bxOp_makeSlice, ↓bxOp_slice, ↓bxOp_fieldAddr, ↓bxOp_field, ↓bxOp_indexAddr, ↓bxOp_index, ↓bxOp_assert, ↓bxOp_extract, ↓bxOp_value, ↓bxOp_len, ↓bxOp_cap, ↓bxOp_append, ↓bxOp_copy, ↓bxOp_max, ↓bxOp_min, ↓bxOp_convert, ↓sxPut_none, ↓bxPut, ↓seqQ_normal, ↓seqQ_exit, ↓seqQ_ret, ↓seqQ_goto, ↓blockQ_normal, ↓blockQ_ret, ↓blockQ_goto, ↓blockQ_exit, ↓loopQ_normal, ↓loopQ_exit, ↓loopQ_ret, ↓loopQ_goto, ↓resQ_normal, ↓resQ_ret, ↓sxRes_nil, ↓sxRes_tmp, ↓bxRes_cell, ↓upd_apply, ↓ev_tmp, ↓ev_const, ↓ev_global, ↓ev_func, ↓dstAt, ↓gval_some, sxOptB_some, sxOptB_ite, mm_max, mm_min, binP_shl, binP_shr, binP_int, intBin, una_not_dec, una_nt, una_nf, una_neg, aPick_true, aPick_false, sxCallVB_fn, sxCallVB_yield, sxGuardB_u, sxGuardB_tt, sxGuardB_tf, sxGuardB_ft, sxGuardB_ff, sxIfB_t, sxIfB_f, packRes_one, packRes_two, List.map_cons, List.map_nil, List.nil_append, List.cons_append, List.append_nil, ↓reduceIte, Nat.reduceEqDiff, Nat.reduceLT, dec_T, dec_F, false_imp, true_and, and_true, true_implies, implies_true, false_and, and_false, true_or, or_true, false_or, or_false, and_self, or_self, read_relow, size_relow, low_relow, relow_relow, aLoad_relow, Nat.add_zero, Nat.mul_one, one1, Option.bind_some, ne_eq, Int.natCast_nonneg, Int.toNat_natCast, not_true_eq_false, not_false_eq_true, Option.map_some, Option.map_none, *, lenI] | (with_reducible refine sxD_bar (by kernel_rfl) ?_))
    refine sxL_of (fun m ρ H5 => ∃ l : Nat, m = c.length - l ∧ k < l ∧ l ≤ c.length ∧ H5 = H4 ∧ (∀ j, k < j → j < l → ¬ Unf c w d k j) ∧ ρ 1 = .slice a c.length cap ∧ ρ 5 = .pointer (some ⟨H.size, 0, none⟩) ∧ ρ 8 = .int .i64 k ∧ ρ 9 = .int .i64 l ∧ ρ 23 = .int .i64 c.length ∧ ρ 24 = .int .i64 k)
      ⟨k + 1, rfl, by omega, by omega, rfl, (fun j h1 h2 => by omega), by first | rfl | assumption, by first | rfl | assumption, rfl, rfl, by first | rfl | assumption, by first | rfl | assumption⟩ ?_
    clear e1 e5 e23 e24
    rintro m ρ H5 ⟨l, rfl, hkl, hl, rfl, hall2, e1, e5, e8, e9, e23, e24⟩
    by_cases hlt2 : l < c.length
    · have hlt2' : (l : Int) < (c.length : Int) := by omega
      have hw2 := wrap_succ hlt2 hml
      have hwl := hShr.1
      have hik := SlI_ix hc3 hlt
      have hil := SlI_ix hc3 hlt2
      have hjk := SlI_ix hl3 (show k < w.length by omega)
      have hjl := SlI_ix hl3 (show l < w.length by omega)
      have rik := (hc3.rdI hlt).1
      have ril := (hc3.rdI hlt2).1
      have rjk := (hl3.rdI (show k < w.length by omega)).1
      have rjl := (hl3.rdI (show l < w.length by omega)).1
      obtain ⟨b1, b2, b3⟩ := shr_in hP hShr hlt
      obtain ⟨b4, b5, b6⟩ := shr_in hP hShr hlt2
      have w1 : IntKind.i64.wrap (w.getD k 0 + w.getD l 0) = w.getD k 0 + w.getD l 0 := IntWalk.i64_in _ (by omega)
      have w2 : IntKind.i64.wrap (c.getD k 0 * d) = c.getD k 0 * d := IntWalk.i64_in _ (by omega)
      have w3 : IntKind.i64.wrap (c.getD l 0 * d) = c.getD l 0 * d := IntWalk.i64_in _ (by omega)
      have w4 : IntKind.i64.wrap (2 * w.getD k 0) = 2 * w.getD k 0 := IntWalk.i64_in _ (by omega)
      have ft := (twice_runs hS (w.getD k 0 + w.getD l 0) (c.getD k 0 * d) (c.getD l 0 * d) (H5.relow H5.size) (by omega) (by omega) (by omega)).bx
      by_cases hu : Unf c w d k l
      · have hres : Res c w d [(k : Int), (l : Int)] := .inl ⟨k, l, hkl, hlt2, rfl, hu, hall, hall2⟩
        unfold Unf at hu
        obtain ⟨H6, e6, k6, z6, -, -⟩ := box1 H5 [.int .i64 k, .int .i64 l] 3
        have ol : Own H6 H5.size 3 [.int .i64 k, .int .i64 l] := e6 ▸ Own.new H5 _ _
        have hmx : Go.maxLen = 9223372036854775807 := rfl
        have sl := sl2 ol (by omega) (by omega)
        have k06 := k13.trans k6
        have g06 := k06.grp hg
        clear hc3 hl3 hP hShr ol hall hall2 b1 b2 b3 b4 b5 b6 hmx hwl
        generalize twice (w.getD k 0 + w.getD l 0) (c.getD k 0 * d) (c.getD l 0 * d) = T at *
        generalize w.getD k 0 = wk at *
        repeat' (first | (with_reducible refine sxGuardB_tsp (fun h => ?_) (fun h => ?_)) | (with_reducible refine sxGuardB_fsp (fun h => ?_) (fun h => ?_)) | (with_reducible refine sxIfB_sp (fun h => ?_) (fun h => ?_)) | simp only [↓sxC_skip, ↓sxC_draw, ↓sxC_region, ↓sxC_seq, ↓bxC_cond, ↓bxC_loop, ↓sxC_block, ↓sxC_exit, ↓sxC_goto, ↓sxC_ret, ↓sxOps_nil, ↓sxOps_cons, ↓sxDraw_nil, ↓bxDraw_cons, ↓sxD_same, ↓sxStep_none, ↓bxStep_some, ↓bxOp_move, ↓bxOp_assign, ↓bxOp_pick, ↓bxOp_alloc, ↓bxOp_box, ↓bxOp_build, ↓bxOp_buildSlice, ↓bxOp_load, ↓bxOp_store, ↓bxOp_nilCheck, ↓bxOp_bin, ↓bxOp_un, ↓bxOp_makeI, ↓bxOp_makeFunc, ↓bxOp_makeSlice, ↓bxOp_slice, ↓bxOp_fieldAddr, ↓bxOp_field, ↓bxOp_indexAddr, ↓bxOp_index, ↓bxOp_assert, ↓bxOp_extract, ↓bxOp_value, ↓bxOp_len, ↓bxOp_cap, ↓bxOp_append, ↓bxOp_copy, ↓bxOp_max, ↓bxOp_min, ↓bxOp_convert, ↓sxPut_none, ↓bxPut, ↓seqQ_normal, ↓seqQ_exit, ↓seqQ_ret, ↓seqQ_goto, ↓blockQ_normal, ↓blockQ_ret, ↓blockQ_goto, ↓blockQ_exit, ↓loopQ_normal, ↓loopQ_exit, ↓loopQ_ret, ↓loopQ_goto, ↓resQ_normal, ↓resQ_ret, ↓sxRes_nil, ↓sxRes_tmp, ↓bxRes_cell, ↓upd_apply, ↓ev_tmp, ↓ev_const, ↓ev_global, ↓ev_func, ↓dstAt, ↓gval_some, sxOptB_some, sxOptB_ite, mm_max, mm_min, binP_shl, binP_shr, binP_int, intBin, una_not_dec, una_nt, una_nf, una_neg, aPick_true, aPick_false, sxCallVB_fn, sxCallVB_yield, sxGuardB_u, sxGuardB_tt, sxGuardB_tf, sxGuardB_ft, sxGuardB_ff, sxIfB_t, sxIfB_f, packRes_one, packRes_two, List.map_cons, List.map_nil, List.nil_append, List.cons_append, List.append_nil, ↓reduceIte, Nat.reduceEqDiff, Nat.reduceLT, dec_T, dec_F, false_imp, true_and, and_true, true_implies, implies_true, false_and, and_false, true_or, or_true, false_or, or_false, and_self, or_self, read_relow, size_relow, low_relow, relow_relow, aLoad_relow, Nat.add_zero, Nat.mul_one, one1, Option.bind_some, ne_eq, Int.natCast_nonneg, Int.toNat_natCast, not_true_eq_false, not_false_eq_true, Option.map_some, Option.map_none, *, lenI, ldI, ldIs, paG0, paG1, bs2, Nat.zero_add] | (with_reducible refine sxD_bar (by kernel_rfl) ?_))
        exact ⟨_, _, _, _, rfl, hres, sl⟩
      · have hall3 : ∀ j, k < j → j < l + 1 → ¬ Unf c w d k j := fun j h1 h2 => by
          rcases Nat.lt_or_ge j l with h | h
          · exact hall2 j h1 h
          · rw [show j = l by omega]; exact hu
        have hu2 : twice (w.getD k 0 + w.getD l 0) (c.getD k 0 * d) (c.getD l 0 * d) = 2 * w.getD k 0 := Decidable.not_not.1 hu
        clear hc3 hl3 hP hShr hall hall2 b1 b2 b3 b4 b5 b6 hwl hu
        repeat' (first | (with_reducible refine sxGuardB_tsp (fun h => ?_) (fun h => ?_)) | (with_reducible refine sxGuardB_fsp (fun h => ?_) (fun h => ?_)) | (with_reducible refine sxIfB_sp (fun h => ?_) (fun h => ?_)) | simp only [↓sxC_skip, ↓sxC_draw, ↓sxC_region, ↓sxC_seq, ↓bxC_cond, ↓bxC_loop, ↓sxC_block, ↓sxC_exit, ↓sxC_goto, ↓sxC_ret, ↓sxOps_nil, ↓sxOps_cons, ↓sxDraw_nil, ↓bxDraw_cons, ↓sxD_same, ↓sxStep_none, ↓bxStep_some, ↓bxOp_move, ↓bxOp_assign, ↓bxOp_pick, ↓bxOp_alloc, ↓bxOp_box, ↓bxOp_build, ↓bxOp_buildSlice, ↓bxOp_load, ↓bxOp_store, ↓bxOp_nilCheck, ↓bxOp_bin, ↓bxOp_un, ↓bxOp_makeI, ↓bxOp_makeFunc, ↓bxOp_makeSlice, ↓bxOp_slice, ↓bxOp_fieldAddr, ↓bxOp_field, ↓bxOp_indexAddr, ↓bxOp_index, ↓bxOp_assert, ↓bxOp_extract, ↓bxOp_value, ↓bxOp_len, ↓bxOp_cap, ↓bxOp_append, ↓bxOp_copy, ↓bxOp_max, ↓bxOp_min, ↓bxOp_convert, ↓sxPut_none, ↓bxPut, ↓seqQ_normal, ↓seqQ_exit, ↓seqQ_ret, ↓seqQ_goto, ↓blockQ_normal, ↓blockQ_ret, ↓blockQ_goto, ↓blockQ_exit, ↓loopQ_normal, ↓loopQ_exit, ↓loopQ_ret, ↓loopQ_goto, ↓resQ_normal, ↓resQ_ret, ↓sxRes_nil, ↓sxRes_tmp, ↓bxRes_cell, ↓upd_apply, ↓ev_tmp, ↓ev_const, ↓ev_global, ↓ev_func, ↓dstAt, ↓gval_some, sxOptB_some, sxOptB_ite, mm_max, mm_min, binP_shl, binP_shr, binP_int, intBin, una_not_dec, una_nt, una_nf, una_neg, aPick_true, aPick_false, sxCallVB_fn, sxCallVB_yield, sxGuardB_u, sxGuardB_tt, sxGuardB_tf, sxGuardB_ft, sxGuardB_ff, sxIfB_t, sxIfB_f, packRes_one, packRes_two, List.map_cons, List.map_nil, List.nil_append, List.cons_append, List.append_nil, ↓reduceIte, Nat.reduceEqDiff, Nat.reduceLT, dec_T, dec_F, false_imp, true_and, and_true, true_implies, implies_true, false_and, and_false, true_or, or_true, false_or, or_false, and_self, or_self, read_relow, size_relow, low_relow, relow_relow, aLoad_relow, Nat.add_zero, Nat.mul_one, one1, Option.bind_some, ne_eq, Int.natCast_nonneg, Int.toNat_natCast, not_true_eq_false, not_false_eq_true, Option.map_some, Option.map_none, *, lenI, ldI, ldIs, paG0, paG1, bs2, Nat.zero_add] | (with_reducible refine sxD_bar (by kernel_rfl) ?_))
        exact ⟨_, by omega, l + 1, rfl, by omega, by omega, hall3, rfl⟩
    · have hlt2' : ¬ (l : Int) < (c.length : Int) := by omega
      have hall3 : ∀ i j, i < k + 1 → i < j → j < c.length → ¬ Unf c w d i j := fun i j h1 h2 h3 => by
        rcases Nat.lt_or_ge i k with h | h
        · exact hall i j h h2 h3
        · obtain rfl : i = k := by omega
          exact hall2 j h2 (by omega)
      clear hc3 hl3 hP hShr hall hall2
      repeat' (first | (with_reducible refine sxGuardB_tsp (fun h => ?_) (fun h => ?_)) | (with_reducible refine sxGuardB_fsp (fun h => ?_) (fun h => ?_)) | (with_reducible refine sxIfB_sp (fun h => ?_) (fun h => ?_)) | simp only [↓sxC_skip, ↓sxC_draw, ↓sxC_region, ↓sxC_seq, ↓bxC_cond, ↓bxC_loop, ↓sxC_block, ↓sxC_exit, ↓sxC_goto, ↓sxC_ret, ↓sxOps_nil, ↓sxOps_cons, ↓sxDraw_nil, ↓bxDraw_cons, ↓sxD_same, ↓sxStep_none, ↓bxStep_some, ↓bxOp_move, ↓bxOp_assign, ↓bxOp_pick, ↓bxOp_alloc, ↓bxOp_box, ↓bxOp_build, ↓bxOp_buildSlice, ↓bxOp_load, ↓bxOp_store, ↓bxOp_nilCheck, ↓bxOp_bin, ↓bxOp_un, ↓bxOp_makeI, ↓bxOp_makeFunc, ↓bxOp_makeSlice, ↓bxOp_slice, ↓bxOp_fieldAddr, ↓bxOp_field, ↓bxOp_indexAddr, ↓bxOp_index, ↓bxOp_assert, ↓bxOp_extract, ↓bxOp_value, ↓bxOp_len, ↓bxOp_cap, ↓bxOp_append, ↓bxOp_copy, ↓bxOp_max, ↓bxOp_min, ↓bxOp_convert, ↓sxPut_none, ↓bxPut, ↓seqQ_normal, ↓seqQ_exit, ↓seqQ_ret, ↓seqQ_goto, ↓blockQ_normal, ↓blockQ_ret, ↓blockQ_goto, ↓blockQ_exit, ↓loopQ_normal, ↓loopQ_exit, ↓loopQ_ret, ↓loopQ_goto, ↓resQ_normal, ↓resQ_ret, ↓sxRes_nil, ↓sxRes_tmp, ↓bxRes_cell, ↓upd_apply, ↓ev_tmp, ↓ev_const, ↓ev_global, ↓ev_func, ↓dstAt, ↓gval_some, sxOptB_some, sxOptB_ite, mm_max, mm_min, binP_shl, binP_shr, binP_int, intBin, una_not_dec, una_nt, una_nf, una_neg, aPick_true, aPick_false, sxCallVB_fn, sxCallVB_yield, sxGuardB_u, sxGuardB_tt, sxGuardB_tf, sxGuardB_ft, sxGuardB_ff, sxIfB_t, sxIfB_f, packRes_one, packRes_two, List.map_cons, List.map_nil, List.nil_append, List.cons_append, List.append_nil, ↓reduceIte, Nat.reduceEqDiff, Nat.reduceLT, dec_T, dec_F, false_imp, true_and, and_true, true_implies, implies_true, false_and, and_false, true_or, or_true, false_or, or_false, and_self, or_self, read_relow, size_relow, low_relow, relow_relow, aLoad_relow, Nat.add_zero, Nat.mul_one, one1, Option.bind_some, ne_eq, Int.natCast_nonneg, Int.toNat_natCast, not_true_eq_false, not_false_eq_true, Option.map_some, Option.map_none, *, lenI] | (with_reducible refine sxD_bar (by kernel_rfl) ?_))
      exact ⟨_, by omega, k + 1, rfl, by omega, hall3, rfl⟩
  · have hlt' : ¬ (k : Int) < (c.length : Int) := by omega
    have hres : Res c w d [] := .inr ⟨rfl, fun i j h1 h2 => hall i j (by omega) h1 h2⟩
    have sl := SlI_nil (k := .i64) H4
    clear hc3 hl3 hP hShr hall
    repeat' (first | (with_reducible refine sxGuardB_tsp (fun h => ?_) (fun h => ?_)) | (with_reducible refine sxGuardB_fsp (fun h => ?_) (fun h => ?_)) | (with_reducible refine sxIfB_sp (fun h => ?_) (fun h => ?_)) | simp only [↓sxC_skip, ↓sxC_draw, ↓sxC_region, ↓sxC_seq, ↓bxC_cond, ↓bxC_loop, ↓sxC_block, ↓sxC_exit, ↓sxC_goto, ↓sxC_ret, ↓sxOps_nil, ↓sxOps_cons, ↓sxDraw_nil, ↓bxDraw_cons, ↓sxD_same, ↓sxStep_none, ↓bxStep_some, ↓bxOp_move, ↓bxOp_assign, ↓bxOp_pick, ↓bxOp_alloc, ↓bxOp_box, ↓bxOp_build, ↓bxOp_buildSlice, ↓bxOp_load, ↓bxOp_store, ↓bxOp_nilCheck, ↓bxOp_bin, ↓bxOp_un, ↓bxOp_makeI, ↓bxOp_makeFunc, ↓bxOp_makeSlice, ↓bxOp_slice, ↓bxOp_fieldAddr, ↓bxOp_field, ↓bxOp_indexAddr, ↓bxOp_index, ↓bxOp_assert, ↓bxOp_extract, ↓bxOp_value, ↓bxOp_len, ↓bxOp_cap, ↓bxOp_append, ↓bxOp_copy, ↓bxOp_max, ↓bxOp_min, ↓bxOp_convert, ↓sxPut_none, ↓bxPut, ↓seqQ_normal, ↓seqQ_exit, ↓seqQ_ret, ↓seqQ_goto, ↓blockQ_normal, ↓blockQ_ret, ↓blockQ_goto, ↓blockQ_exit, ↓loopQ_normal, ↓loopQ_exit, ↓loopQ_ret, ↓loopQ_goto, ↓resQ_normal, ↓resQ_ret, ↓sxRes_nil, ↓sxRes_tmp, ↓bxRes_cell, ↓upd_apply, ↓ev_tmp, ↓ev_const, ↓ev_global, ↓ev_func, ↓dstAt, ↓gval_some, sxOptB_some, sxOptB_ite, mm_max, mm_min, binP_shl, binP_shr, binP_int, intBin, una_not_dec, una_nt, una_nf, una_neg, aPick_true, aPick_false, sxCallVB_fn, sxCallVB_yield, sxGuardB_u, sxGuardB_tt, sxGuardB_tf, sxGuardB_ft, sxGuardB_ff, sxIfB_t, sxIfB_f, packRes_one, packRes_two, List.map_cons, List.map_nil, List.nil_append, List.cons_append, List.append_nil, ↓reduceIte, Nat.reduceEqDiff, Nat.reduceLT, dec_T, dec_F, false_imp, true_and, and_true, true_implies, implies_true, false_and, and_false, true_or, or_true, false_or, or_false, and_self, or_self, read_relow, size_relow, low_relow, relow_relow, aLoad_relow, Nat.add_zero, Nat.mul_one, one1, Option.bind_some, ne_eq, Int.natCast_nonneg, Int.toNat_natCast, not_true_eq_false, not_false_eq_true, Option.map_some, Option.map_none, *, lenI] | (with_reducible refine sxD_bar (by kernel_rfl) ?_))
    exact ⟨_, _, _, _, rfl, hres, sl⟩
end Go.Proofs.YtmcomjgebcemdaaGreat
