/- The law InspectDays comes to true on the canonical machine, for all arguments; the closed example is taken as known. -/
import Derived.Test.YtnbhjbelgmkpeaaDoorR5
set_option linter.unusedVariables false
set_option linter.unusedSimpArgs false
set_option linter.unusedSectionVars false

namespace Go.Proofs.YtnbhjbelgmkpeaaDoor
open Go Go.AM
set_option maxRecDepth 10000
set_option linter.unusedSimpArgs false

theorem neqS (x : Int × Int) : binP Tryd.prog .neq 24 (.agg ⟨[.int .i64 x.1, .int .i64 x.2]⟩) (.agg ⟨[.int .i64 x.1, .int .i64 x.2]⟩) = some (.bool false) := by
  rw [(eqlR _ _ _ _).2, decide_eq_false (by simp)]
theorem errT_good {d l : Int} (hin : inDays d l) (h : d ≠ 0) : errT d l = 0 := by unfold errT; rw [if_pos hin, if_neg h]

variable {S : AM.Sys} (hS : Only S 10)
include hS

theorem bothD (d l : Int) : ∃ (x : Int × Int) (e : Int), (∀ H, Grp H → H.low ≤ H.size → ∃ H', Keep H H' ∧ Runs Tryd.prog S (.fn 16) [.int .i64 d, .int .i64 l] H (.tuple #[ratioV x, .int .i64 e]) H') ∧
    (∀ H, Grp H → H.low ≤ H.size → ∃ H', Keep H H' ∧ Runs Tryd.prog S (.fn 17) [.int .i64 d, .int .i64 l] H (.tuple #[ratioV x, .int .i64 e]) H') := by
  by_cases hin : inDays d l
  · obtain ⟨⟨h1, h2⟩, h3, h4⟩ := hin
    obtain ⟨d, rfl⟩ := Int.eq_ofNat_of_zero_le h1
    obtain ⟨l, rfl⟩ := Int.eq_ofNat_of_zero_le h3
    exact ⟨gainC d l, 0, fun H hg hL => pDresher_good hS d l H hL (by omega) (by omega), fun H hg hL => rDresher_good hS d l H hg hL (by omega) (by omega)⟩
  · exact ⟨(0, 0), 2, fun H hg hL => pDresher_bad hS d l H hin, fun H hg hL => rDresher_bad hS d l H hin⟩
theorem bothT (d l : Int) : ∃ (x y : Int × Int) (e : Int), (∀ H, Grp H → H.low ≤ H.size → ∃ H', Keep H H' ∧ Runs Tryd.prog S (.fn 18) [.int .i64 d, .int .i64 l] H (.tuple #[ratioV x, ratioV y, .int .i64 e]) H') ∧
    (∀ H, Grp H → H.low ≤ H.size → ∃ H', Keep H H' ∧ Runs Tryd.prog S (.fn 19) [.int .i64 d, .int .i64 l] H (.tuple #[ratioV x, ratioV y, .int .i64 e]) H') := by
  by_cases he : errT d l = 0
  · have hin : inDays d l := Classical.byContradiction fun h => by rw [rtdF d l h] at he; exact absurd he (by decide)
    have hd0 : d ≠ 0 := fun h => by subst h; rw [rtdZ l hin] at he; exact absurd he (by decide)
    obtain ⟨⟨h1, h2⟩, h3, h4⟩ := hin
    obtain ⟨d, rfl⟩ := Int.eq_ofNat_of_zero_le h1
    obtain ⟨l, rfl⟩ := Int.eq_ofNat_of_zero_le h3
    exact ⟨(dayC d l).2.1, (dayC d l).2.2, 0, fun H hg hL => pToday_good hS d l H hL (by omega) (by omega) (by omega), fun H hg hL => rToday_good hS d l H hg hL (by omega) (by omega) (by omega)⟩
  · exact ⟨(0, 0), (0, 0), errT d l, fun H hg hL => pToday_bad hS d l H he, fun H hg hL => rToday_bad hS d l H he⟩
theorem bothP (d l : Int) : ∃ (w : List (Int × Int)) (e : Int), w.length ≤ 14 ∧ (∀ H, Grp H → H.low ≤ H.size → ∃ H' v, LstR H H' v w ∧ Runs Tryd.prog S (.fn 20) [.int .i64 d, .int .i64 l] H (.tuple #[v, .int .i64 e]) H') ∧
    (∀ H, Grp H → H.low ≤ H.size → ∃ H' v, LstR H H' v w ∧ Runs Tryd.prog S (.fn 21) [.int .i64 d, .int .i64 l] H (.tuple #[v, .int .i64 e]) H') := by
  by_cases he : errT d l = 0
  · have hin : inDays d l := Classical.byContradiction fun h => by rw [rtdF d l h] at he; exact absurd he (by decide)
    have hd0 : d ≠ 0 := fun h => by subst h; rw [rtdZ l hin] at he; exact absurd he (by decide)
    obtain ⟨⟨h1, h2⟩, h3, h4⟩ := hin
    obtain ⟨d, rfl⟩ := Int.eq_ofNat_of_zero_le h1
    obtain ⟨l, rfl⟩ := Int.eq_ofNat_of_zero_le h3
    exact ⟨planC d l, 0, by rw [planC_len]; omega, fun H hg hL => pPlan_good hS d l H (by omega) (by omega) (by omega) hg hL, fun H hg hL => rPlan_good hS d l H (by omega) (by omega) (by omega) hg hL⟩
  · exact ⟨[], errT d l, by simp, fun H hg hL => ⟨H, _, LstR.nil (Keep.refl H) hg, pPlan_bad hS d l H he⟩, fun H hg hL => ⟨H, _, LstR.nil (Keep.refl H) hg, rPlan_bad hS d l H he⟩⟩

set_option maxHeartbeats 1000000 in
/-- THE LAW, on the canonical machine. -/
theorem days_runs (d l : Int) (H : Heap) (hg : Grp H) (hL : H.low ≤ H.size)
    (hO : ∀ H', Keep H H' → S.O 10 [] H') : ∃ H', Runs Tryd.prog S (.fn 5) [.int .i64 d, .int .i64 l] H (.bool true) H' := by
  suffices h : WCall Tryd.prog S (.fn 5) [.int .i64 d, .int .i64 l] H (fun v H' => v = .bool true) by
    obtain ⟨_, H', hr, rfl⟩ := h; exact ⟨H', hr⟩
  obtain ⟨x, e, D1, D2⟩ := bothD hS d l
  obtain ⟨y, z, e', T1, T2⟩ := bothT hS d l
  obtain ⟨w, e'', hw, P1, P2⟩ := bothP hS d l
  obtain ⟨H1, k1, R1⟩ := D1 H hg hL
  obtain ⟨H2, H3, e2, p3, k03, k13, ow3⟩ := putRo k1 x
  obtain ⟨H4, k4, R4⟩ := D2 H3 (k03.grp hg) (k03.low hL)
  obtain ⟨H5, H6, e5, p6, k06, k46, ow6⟩ := putRo (k03.trans k4) x
  have ow36 := ow3.keep (k4.trans k46)
  obtain ⟨a1, -, -⟩ := own2 ow36
  obtain ⟨a2, -, -⟩ := own2 ow6
  -- Today of the program
  obtain ⟨H7, k7, R7⟩ := T1 H6 (k06.grp hg) (k06.low hL)
  obtain ⟨H8, e8, k8, z8, ow8, -, -, -⟩ := box2 H7 0 0 24
  have k68 := k7.trans k8
  have s36 : H1.size < H6.size := Nat.lt_of_lt_of_le ow3.lt (k4.trans k46).size
  have s46 : H4.size < H6.size := ow6.lt
  have s13 : H1.size < H4.size := Nat.lt_of_lt_of_le ow3.lt k4.size
  have s67 : H6.size ≤ H7.size := k7.size
  obtain ⟨H9, p9, k9, z9, ow9, o9⟩ := stH infR.1 (k06.trans k68) k1.size (ow36.keep k68) (v := .agg ⟨[.int .i64 y.1, .int .i64 y.2]⟩) (new := [.int .i64 y.1, .int .i64 y.2]) rfl infR.2 rfl rfl
  have ow69 := o9 _ _ _ (by omega) (ow6.keep k68)
  obtain ⟨H10, p10, k10, z10, ow10, o10⟩ := stH infR.1 k9 (k06.trans k7).size (o9 _ _ _ (by omega) ow8) (v := .agg ⟨[.int .i64 z.1, .int .i64 z.2]⟩) (new := [.int .i64 z.1, .int .i64 z.2]) rfl infR.2 rfl rfl
  have ow610 := o10 _ _ _ (by omega) ow69
  have ow910 := o10 _ _ _ (by omega) ow9
  have s710 : H7.size < H10.size := ow10.lt
  -- Today of the reference
  obtain ⟨H11, k11, R11⟩ := T2 H10 (k10.grp hg) (k10.low hL)
  obtain ⟨H12, e12, k12, z12, ow12, -, -, -⟩ := box2 H11 0 0 24
  have k1012 := k11.trans k12
  have s1011 : H10.size ≤ H11.size := k11.size
  obtain ⟨H13, p13, k13', z13, ow13, o13⟩ := stH infR.1 (k10.trans k1012) (k03.trans k4).size (ow610.keep k1012) (v := .agg ⟨[.int .i64 y.1, .int .i64 y.2]⟩) (new := [.int .i64 y.1, .int .i64 y.2]) rfl infR.2 rfl rfl
  obtain ⟨H14, p14, k14, z14, ow14, o14⟩ := stH infR.1 k13' (k10.trans k11).size (o13 _ _ _ (by omega) ow12) (v := .agg ⟨[.int .i64 z.1, .int .i64 z.2]⟩) (new := [.int .i64 z.1, .int .i64 z.2]) rfl infR.2 rfl rfl
  obtain ⟨b1, -, -⟩ := own2 (o14 _ _ _ (by omega) (o13 _ _ _ (by omega) (ow910.keep k1012)))
  obtain ⟨b2, -, -⟩ := own2 (o14 _ _ _ (by omega) ow13)
  obtain ⟨b3, -, -⟩ := own2 (o14 _ _ _ (by omega) (o13 _ _ _ (by omega) (ow10.keep k1012)))
  obtain ⟨b4, -, -⟩ := own2 ow14
  -- the plans
  obtain ⟨H15, v15, ls15, R15⟩ := P1 H14 (k14.grp hg) (k14.low hL)
  have k15 := k14.trans ls15.1
  obtain ⟨H16, v16, ls16, R16⟩ := P2 H15 (k15.grp hg) (k15.low hL)
  have k16 := k15.trans ls16.1
  obtain ⟨r1, sl1⟩ := ls15.sl (by omega)
  obtain ⟨r2, sl2⟩ := ls16.sl (by omega)
  have sl1' := sl1.keep ls16.1
  obtain ⟨c1, d1, rfl⟩ := sl1.v0
  obtain ⟨c2, d2, rfl⟩ := sl2.v0
  have ha := knownAt hS hO k16
  have l16 := k16.low hL
  have n1 := neqS x
  have n2 := neqS y
  have n3 := neqS z
  have f1 := R1.bx
  have f4 := R4.bx
  have f7 := R7.bx
  have f11 := R11.bx
  have f15 := R15.bx
  have f16 := R16.bx
  unfold ratioV at f1 f4 f7 f11
  clear D1 D2 T1 T2 P1 P2 R1 R4 R7 R11 R15 R16 ow3 ow6 ow36 ow8 ow9 ow69 ow10 ow610 ow910 ow12 ow13 ow14 o9 o10 o13 o14 z8 z9 z10 z12 z13 z14 s36 s46 s13 s67 s710 s1011 ls15 ls16 sl1
  refine call_of Tryd.func5 rfl (Nat.le_of_ble_eq_true rfl) (hS.no rfl _ _) ?_
  rw [Tryd.ntmps5, Tryd.results5]
  repeat' (first | (with_reducible refine sxGuardB_tsp (fun h => ?_) (fun h => ?_)) | (with_reducible refine sxGuardB_fsp (fun h => ?_) (fun h => ?_)) | (with_reducible refine sxIfB_sp (fun h => ?_) (fun h => ?_)) | simp only [↓sxC_skip, ↓sxC_draw, ↓sxC_region, ↓sxC_seq, ↓bxC_cond, ↓bxC_loop, ↓sxC_block, ↓sxC_exit, ↓sxC_goto, ↓sxC_ret, ↓sxOps_nil, ↓sxOps_cons, ↓sxDraw_nil, ↓bxDraw_cons, ↓sxDL_move, ↓sxDL_assign, ↓sxDL_pick, ↓sxDL_alloc, ↓sxDL_box, ↓sxDL_build, ↓sxDL_buildSlice, ↓sxDL_insert, ↓sxDL_load, ↓sxDL_nilCheck, ↓sxDL_binOp, ↓sxDL_unOp, ↓sxDL_convert, ↓sxDL_makeInterface, ↓sxDL_makeFunc, ↓sxDL_makeMap, ↓sxDL_makeSlice, ↓sxDL_slice, ↓sxDL_fieldAddr, ↓sxDL_field, ↓sxDL_indexAddr, ↓sxDL_index, ↓sxDL_typeAssert, ↓sxDL_extract, ↓sxDL_call, ↓sxDL_lookup, ↓sxDL_mapUpdate, ↓sxDL_range, ↓sxDL_next, ↓sxDL_entry, ↓sxDL_mapEntry, ↓sxDL_entryStore, ↓sxD_same, ↓sxStep_none, ↓bxStep_some, ↓bxOp_move, ↓bxOp_assign, ↓bxOp_pick, ↓bxOp_alloc, ↓bxOp_box, ↓bxOp_build, ↓bxOp_buildSlice, ↓bxOp_load, ↓bxOp_store, ↓bxOp_nilCheck, ↓bxOp_bin, ↓bxOp_un, ↓bxOp_makeI, ↓bxOp_makeFunc, ↓bxOp_makeSlice, ↓bxOp_slice, ↓bxOp_fieldAddr, ↓bxOp_field, ↓bxOp_indexAddr, ↓bxOp_index, ↓bxOp_assert, ↓bxOp_extract, ↓bxOp_value, ↓bxOp_len, ↓bxOp_cap, ↓bxOp_append, ↓bxOp_copy, ↓bxOp_max, ↓bxOp_min, ↓bxOp_convert, ↓sxPut_none, ↓bxPut, ↓seqQ_normal, ↓seqQ_exit, ↓seqQ_ret, ↓seqQ_goto, ↓blockQ_normal, ↓blockQ_ret, ↓blockQ_goto, ↓blockQ_exit, ↓loopQ_normal, ↓loopQ_exit, ↓loopQ_ret, ↓loopQ_goto, ↓resQ_normal, ↓resQ_ret, ↓sxRes_nil, ↓sxRes_tmp, ↓bxRes_cell, ↓upd_apply, ↓ev_tmp, ↓ev_const, ↓ev_global, ↓ev_func, ↓dstAt, ↓gval_some, sxOptB_some, sxOptB_ite, mm_max, mm_min, binP_shl, binP_shr, binP_int, intBin, una_not_dec, una_nt, una_nf, una_neg, aPick_true, aPick_false, sxCallVB_fn, sxCallVB_yield, sxGuardB_u, sxGuardB_tt, sxGuardB_tf, sxGuardB_ft, sxGuardB_ff, sxIfB_t, sxIfB_f, packRes_one, packRes_two, List.map_cons, List.map_nil, List.nil_append, List.cons_append, List.append_nil, ↓reduceIte, Nat.reduceEqDiff, Nat.reduceLT, dec_T, dec_F, false_imp, true_and, and_true, true_implies, implies_true, false_and, and_false, true_or, or_true, false_or, or_false, and_self, or_self, read_relow, size_relow, low_relow, relow_relow, aLoad_relow, Nat.add_zero, Nat.mul_one, one1, Option.bind_some, ne_eq, Int.natCast_nonneg, Int.toNat_natCast, not_true_eq_false, not_false_eq_true, Option.map_some, Option.map_none, *, argF, List.getD_cons_zero, List.getD_cons_succ, ex20, ex21, ex30, ex31, ex32, alR, ldRt, lenRs, cells2, Nat.zero_add] | (with_reducible refine sxDL_barE (by assumption) (by decide +kernel) ?_) | (with_reducible refine sxDL_bar (by decide +kernel) ?_) | (with_reducible refine sxD_bar (by decide +kernel) ?_))
  refine sxL_of (fun k ρ Hc => ∃ (j : Nat), k = w.length - j ∧ j ≤ w.length ∧ Hc = H16 ∧ ρ 11 = .slice c1 w.length d1 ∧ ρ 12 = .slice c2 w.length d2 ∧ ρ 13 = .int .i64 j) ⟨0, rfl, Nat.zero_le _, rfl, rfl, rfl, rfl⟩ ?_
  rintro k ρ Hc ⟨j, rfl, hj, rfl, e11, e12', e13⟩
  refine shield fun P hP => ?_
  clear f1 f4 f7 f11 f15 f16 e2 p3 e5 p6 e8 p9 p10 e12 p13 p14 a1 a2 b1 b2 b3 b4 n1 n2 n3
  by_cases hjl : j = w.length
  · have hc : ¬ (j : Int) < (w.length : Int) := by omega
    clear sl1' sl2 hj hjl hw
    subst hP
    repeat' (first | (with_reducible refine sxGuardB_tsp (fun h => ?_) (fun h => ?_)) | (with_reducible refine sxGuardB_fsp (fun h => ?_) (fun h => ?_)) | (with_reducible refine sxIfB_sp (fun h => ?_) (fun h => ?_)) | simp only [↓sxC_skip, ↓sxC_draw, ↓sxC_region, ↓sxC_seq, ↓bxC_cond, ↓bxC_loop, ↓sxC_block, ↓sxC_exit, ↓sxC_goto, ↓sxC_ret, ↓sxOps_nil, ↓sxOps_cons, ↓sxDraw_nil, ↓bxDraw_cons, ↓sxDL_move, ↓sxDL_assign, ↓sxDL_pick, ↓sxDL_alloc, ↓sxDL_box, ↓sxDL_build, ↓sxDL_buildSlice, ↓sxDL_insert, ↓sxDL_load, ↓sxDL_nilCheck, ↓sxDL_binOp, ↓sxDL_unOp, ↓sxDL_convert, ↓sxDL_makeInterface, ↓sxDL_makeFunc, ↓sxDL_makeMap, ↓sxDL_makeSlice, ↓sxDL_slice, ↓sxDL_fieldAddr, ↓sxDL_field, ↓sxDL_indexAddr, ↓sxDL_index, ↓sxDL_typeAssert, ↓sxDL_extract, ↓sxDL_call, ↓sxDL_lookup, ↓sxDL_mapUpdate, ↓sxDL_range, ↓sxDL_next, ↓sxDL_entry, ↓sxDL_mapEntry, ↓sxDL_entryStore, ↓sxD_same, ↓sxStep_none, ↓bxStep_some, ↓bxOp_move, ↓bxOp_assign, ↓bxOp_pick, ↓bxOp_alloc, ↓bxOp_box, ↓bxOp_build, ↓bxOp_buildSlice, ↓bxOp_load, ↓bxOp_store, ↓bxOp_nilCheck, ↓bxOp_bin, ↓bxOp_un, ↓bxOp_makeI, ↓bxOp_makeFunc, ↓bxOp_makeSlice, ↓bxOp_slice, ↓bxOp_fieldAddr, ↓bxOp_field, ↓bxOp_indexAddr, ↓bxOp_index, ↓bxOp_assert, ↓bxOp_extract, ↓bxOp_value, ↓bxOp_len, ↓bxOp_cap, ↓bxOp_append, ↓bxOp_copy, ↓bxOp_max, ↓bxOp_min, ↓bxOp_convert, ↓sxPut_none, ↓bxPut, ↓seqQ_normal, ↓seqQ_exit, ↓seqQ_ret, ↓seqQ_goto, ↓blockQ_normal, ↓blockQ_ret, ↓blockQ_goto, ↓blockQ_exit, ↓loopQ_normal, ↓loopQ_exit, ↓loopQ_ret, ↓loopQ_goto, ↓resQ_normal, ↓resQ_ret, ↓sxRes_nil, ↓sxRes_tmp, ↓bxRes_cell, ↓upd_apply, ↓ev_tmp, ↓ev_const, ↓ev_global, ↓ev_func, ↓dstAt, ↓gval_some, sxOptB_some, sxOptB_ite, mm_max, mm_min, binP_shl, binP_shr, binP_int, intBin, una_not_dec, una_nt, una_nf, una_neg, aPick_true, aPick_false, sxCallVB_fn, sxCallVB_yield, sxGuardB_u, sxGuardB_tt, sxGuardB_tf, sxGuardB_ft, sxGuardB_ff, sxIfB_t, sxIfB_f, packRes_one, packRes_two, List.map_cons, List.map_nil, List.nil_append, List.cons_append, List.append_nil, ↓reduceIte, Nat.reduceEqDiff, Nat.reduceLT, dec_T, dec_F, false_imp, true_and, and_true, true_implies, implies_true, false_and, and_false, true_or, or_true, false_or, or_false, and_self, or_self, read_relow, size_relow, low_relow, relow_relow, aLoad_relow, Nat.add_zero, Nat.mul_one, one1, Option.bind_some, ne_eq, Int.natCast_nonneg, Int.toNat_natCast, not_true_eq_false, not_false_eq_true, Option.map_some, Option.map_none, *, lenRs] | (with_reducible refine sxDL_barE (by assumption) (by decide +kernel) ?_) | (with_reducible refine sxDL_bar (by decide +kernel) ?_) | (with_reducible refine sxD_bar (by decide +kernel) ?_))
  · have hc : (j : Int) < (w.length : Int) := by omega
    have hlt : j < w.length := by omega
    obtain ⟨x1, y1, -, -⟩ := SlR_at sl1' hlt
    obtain ⟨x2, y2, -, -⟩ := SlR_at sl2 hlt
    have nx := neqS (w.getD j default)
    have w5 : IntKind.i64.wrap ((j : Int) + 1) = ((j + 1 : Nat) : Int) := by rw [IntWalk.i64_in _ (by omega)]; omega
    clear sl1' sl2 ha
    subst hP
    repeat' (first | (with_reducible refine sxGuardB_tsp (fun h => ?_) (fun h => ?_)) | (with_reducible refine sxGuardB_fsp (fun h => ?_) (fun h => ?_)) | (with_reducible refine sxIfB_sp (fun h => ?_) (fun h => ?_)) | simp only [↓sxC_skip, ↓sxC_draw, ↓sxC_region, ↓sxC_seq, ↓bxC_cond, ↓bxC_loop, ↓sxC_block, ↓sxC_exit, ↓sxC_goto, ↓sxC_ret, ↓sxOps_nil, ↓sxOps_cons, ↓sxDraw_nil, ↓bxDraw_cons, ↓sxDL_move, ↓sxDL_assign, ↓sxDL_pick, ↓sxDL_alloc, ↓sxDL_box, ↓sxDL_build, ↓sxDL_buildSlice, ↓sxDL_insert, ↓sxDL_load, ↓sxDL_nilCheck, ↓sxDL_binOp, ↓sxDL_unOp, ↓sxDL_convert, ↓sxDL_makeInterface, ↓sxDL_makeFunc, ↓sxDL_makeMap, ↓sxDL_makeSlice, ↓sxDL_slice, ↓sxDL_fieldAddr, ↓sxDL_field, ↓sxDL_indexAddr, ↓sxDL_index, ↓sxDL_typeAssert, ↓sxDL_extract, ↓sxDL_call, ↓sxDL_lookup, ↓sxDL_mapUpdate, ↓sxDL_range, ↓sxDL_next, ↓sxDL_entry, ↓sxDL_mapEntry, ↓sxDL_entryStore, ↓sxD_same, ↓sxStep_none, ↓bxStep_some, ↓bxOp_move, ↓bxOp_assign, ↓bxOp_pick, ↓bxOp_alloc, ↓bxOp_box, ↓bxOp_build, ↓bxOp_buildSlice, ↓bxOp_load, ↓bxOp_store, ↓bxOp_nilCheck, ↓bxOp_bin, ↓bxOp_un, ↓bxOp_makeI, ↓bxOp_makeFunc, ↓bxOp_makeSlice, ↓bxOp_slice, ↓bxOp_fieldAddr, ↓bxOp_field, ↓bxOp_indexAddr, ↓bxOp_index, ↓bxOp_assert, ↓bxOp_extract, ↓bxOp_value, ↓bxOp_len, ↓bxOp_cap, ↓bxOp_append, ↓bxOp_copy, ↓bxOp_max, ↓bxOp_min, ↓bxOp_convert, ↓sxPut_none, ↓bxPut, ↓seqQ_normal, ↓seqQ_exit, ↓seqQ_ret, ↓seqQ_goto, ↓blockQ_normal, ↓blockQ_ret, ↓blockQ_goto, ↓blockQ_exit, ↓loopQ_normal, ↓loopQ_exit, ↓loopQ_ret, ↓loopQ_goto, ↓resQ_normal, ↓resQ_ret, ↓sxRes_nil, ↓sxRes_tmp, ↓bxRes_cell, ↓upd_apply, ↓ev_tmp, ↓ev_const, ↓ev_global, ↓ev_func, ↓dstAt, ↓gval_some, sxOptB_some, sxOptB_ite, mm_max, mm_min, binP_shl, binP_shr, binP_int, intBin, una_not_dec, una_nt, una_nf, una_neg, aPick_true, aPick_false, sxCallVB_fn, sxCallVB_yield, sxGuardB_u, sxGuardB_tt, sxGuardB_tf, sxGuardB_ft, sxGuardB_ff, sxIfB_t, sxIfB_f, packRes_one, packRes_two, List.map_cons, List.map_nil, List.nil_append, List.cons_append, List.append_nil, ↓reduceIte, Nat.reduceEqDiff, Nat.reduceLT, dec_T, dec_F, false_imp, true_and, and_true, true_implies, implies_true, false_and, and_false, true_or, or_true, false_or, or_false, and_self, or_self, read_relow, size_relow, low_relow, relow_relow, aLoad_relow, Nat.add_zero, Nat.mul_one, one1, Option.bind_some, ne_eq, Int.natCast_nonneg, Int.toNat_natCast, not_true_eq_false, not_false_eq_true, Option.map_some, Option.map_none, *, lenRs, ldRt, cells2] | (with_reducible refine sxDL_barE (by assumption) (by decide +kernel) ?_) | (with_reducible refine sxDL_bar (by decide +kernel) ?_) | (with_reducible refine sxD_bar (by decide +kernel) ?_))
    exact ⟨_, by omega, j + 1, rfl, by omega, rfl⟩
end Go.Proofs.YtnbhjbelgmkpeaaDoor
