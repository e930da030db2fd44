/- The law InspectPlans comes to true on the canonical machine, for all arguments; the closed example is taken as known. -/
import Derived.Test.YtnbhjbelgmkpeaaDoorD4
set_option linter.unusedVariables false
set_option linter.unusedSimpArgs false
set_option linter.unusedSectionVars false

namespace Go.Proofs.YtnbhjbelgmkpeaaDoor
open Go Go.AM
set_option maxRecDepth 10000
set_option linter.unusedSimpArgs false

/-- The goal held back. -/
theorem shield {G : Prop} (h : ∀ P : Prop, P = G → P) : G := h G rfl
theorem QOut.rt {S : AM.Sys} {f : FuncId} {args : List Value} {H : Heap} {n d : Int} (h : QOut S f args H n d) (hd : 0 < d) : QOut S f args H (rat n d).1 (rat n d).2 := h.as hd (ratC n d hd)
theorem dropAt {w : List (Int × Int)} {j : Nat} (h : j < w.length) : w.drop j = w.getD j default :: w.drop (j + 1) := by
  rw [List.drop_eq_getElem_cons h, List.getD_eq_getElem?_getD, List.getElem?_eq_getElem h]; rfl
theorem inSum_ok {s : Int × Int} (h : inSum s = true) : okF 15 s ∧ s.1 ≤ s.2 := by
  unfold inSum at h
  have h := of_decide_eq_true h
  exact ⟨⟨by omega, by omega, h.2.2.2⟩, h.2.1⟩
theorem okF_plan {x : Int × Int} (h : 0 ≤ x.1 ∧ x.1 ≤ x.2 ∧ 1 ≤ x.2 ∧ x.2 ≤ 1125899906842624) : okF 4 x := by
  have e : (10000 : Int) ^ 4 = 10000000000000000 := rfl
  exact ⟨by omega, by rw [e]; omega, by rw [e]; omega⟩
theorem sumOkL_cons {x : Int × Int} {xs : List (Int × Int)} {s : Int × Int} (h : sumOkL (x :: xs) s = true) : inSum s = true ∧ (0 ≤ x.1 ∧ x.1 ≤ x.2 ∧ 1 ≤ x.2 ∧ x.2 ≤ 1125899906842624) ∧ sumOkL xs (sumStep s x) = true := by
  rw [sumOkL, Bool.and_eq_true, Bool.and_eq_true, decide_eq_true_eq] at h
  exact h

variable {S : AM.Sys} (hS : Only S 10)
include hS

set_option maxHeartbeats 2000000 in
/-- THE LAW, on the canonical machine. -/
theorem plans_runs (n m : Int) (d l : Nat) (H : Heap) (hg : Grp H) (hL : H.low ≤ H.size) (h0 : 0 < d) (hd : d ≤ 14) (hl : l ≤ 14) (wd : n.tmod 14 + 1 = d) (wl : m.tmod 15 = l)
    (hO : ∀ H', Keep H H' → S.O 10 [] H') : ∃ H', Runs Tryd.prog S (.fn 8) [.int .u8 n, .int .u8 m] H (.bool true) H' := by
  suffices h : WCall Tryd.prog S (.fn 8) [.int .u8 n, .int .u8 m] H (fun v H' => v = .bool true) by
    obtain ⟨_, H', hr, rfl⟩ := h; exact ⟨H', hr⟩
  obtain ⟨F1, F2, F3⟩ := plans_facts hd hl h0
  obtain ⟨F0, -, Fa, Fb, -⟩ := dayC_facts hd hl
  have oq := okF_part F0 (by decide)
  have oa := okF_part Fa (by decide)
  have ob := okF_part Fb (by decide)
  have o1 : okF 1 (1, 1) := okF_small (by decide) (by decide)
  have o2 : okF 1 (2, 1) := okF_small (by decide) (by decide)
  have o0 : okF 1 (0, 1) := okF_small (by decide) (by decide)
  have hpl := planC_len d l
  obtain ⟨H1, k1, R1⟩ := pToday_good hS d l H hL hd hl h0
  obtain ⟨H2, H3, H4, H5, e2, e3, p4, p5, k05, k15, owL, owG⟩ := putRo2 k1 (dayC d l).2.1 (dayC d l).2.2
  obtain ⟨H6, k6, R6⟩ := pDresher_good hS d l H5 (k05.low hL) hd hl
  obtain ⟨H7, H8, e7, p8, k08, k68, owV⟩ := putRo (k05.trans k6) (gainC d l)
  have k58 := k6.trans k68
  obtain ⟨H9, v9, ls9, R9⟩ := pPlan_good hS d l H8 hd hl h0 (k08.grp hg) (k08.low hL)
  have k9 := ls9.1
  have k09 := k08.trans k9
  obtain ⟨rP, sl9⟩ := ls9.sl (by rw [hpl]; omega)
  obtain ⟨aP, cP, rfl⟩ := sl9.v0
  obtain ⟨H10, v10, k10, g10, q10, R10⟩ := FracP hS 1 1 H9 (k09.grp hg) (k09.low hL) (o1.mono (by decide))
  obtain ⟨H11, H12, e11, p12, k012, k1012, s12, ow1, q1⟩ := putQ (k09.trans k10) q10
  obtain ⟨H13, v13, k13, g13, q13, R13⟩ := FracP hS 0 1 H12 (k012.grp hg) (k012.low hL) (o0.mono (by decide))
  have k013 := k012.trans k13
  obtain ⟨H14, e14, k14, z14, ow14⟩ := allocQ H13
  obtain ⟨H15, p15, z15, owS, qq15, o15, kk15⟩ := storeQ ow14 QShape.empty (q13.keep k14)
  have kb15 := kk15 H13 k14 (Nat.le_refl _)
  have qS := qq15 _ _ _ (q13.keep k14)
  have k513 := ((k58.trans k9).trans (k10.trans k1012)).trans k13
  have k813 := (k9.trans (k10.trans k1012)).trans k13
  have k913 := (k10.trans k1012).trans k13
  -- at the memory before the sum
  have bL := owL.keep k513
  have bG := owG.keep k513
  have bV := owV.keep k813
  have b1 := ow1.keep k13
  have c1 := q1.keep k13
  have bP := sl9.keep k913
  have rL := own2 ((bL.keep kb15))
  have rG := own2 ((bG.keep kb15))
  have rV := own2 ((bV.keep kb15))
  obtain ⟨rL1, rL2, rL3⟩ := own2 (owL.keep (k58.trans k9))
  obtain ⟨rG1, rG2, rG3⟩ := own2 (owG.keep (k58.trans k9))
  obtain ⟨rV1, rV2, rV3⟩ := own2 (owV.keep k9)
  obtain ⟨i1, i2, i3, i4, -⟩ := isPart_iff F0
  obtain ⟨a1, a2, a3, a4, -⟩ := isPart_iff Fa
  obtain ⟨b1', b2', b3', b4', -⟩ := isPart_iff Fb
  have h1 : ¬ (gainC d l).2 < 1 := by omega
  have h2 : ¬ (dayC d l).2.1.2 < 1 := by omega
  have h3 : ¬ (dayC d l).2.2.2 < 1 := by omega
  clear i1 i2 i3 i4 a1 a2 a3 a4 b1' b2' b3' b4'
  have f1 := R1.bx
  have f6 := R6.bx
  have f9 := R9.bx
  have f10 := R10.bx
  have f13 := R13.bx
  unfold ratioV at f1 f6
  have w0 : ¬ ((14 : Int) = 0) := by decide
  have w0' : ¬ ((15 : Int) = 0) := by decide
  have hdm : n.tmod 14 = ((d - 1 : Nat) : Int) := by omega
  have w1 : IntKind.i64.wrap ((d - 1 : Nat) : Int) = ((d - 1 : Nat) : Int) := IntWalk.i64_in _ (by omega)
  have w2 : IntKind.i64.wrap (1 + ((d - 1 : Nat) : Int)) = (d : Int) := by rw [IntWalk.i64_in _ (by omega)]; omega
  have w3 : IntKind.i64.wrap (l : Int) = l := IntWalk.i64_in _ (by omega)
  have hlw : ((planC d l).length : Int) = d := by omega
  have hKb := k013
  have hp2 : (planC d l).length ≤ d ∧ d ≤ (planC d l).length := by omega
  clear hpl wd R1 R6 R9 R10 R13 owL owG owV ow14 rL rG rV ls9
  clear q10 q13 qq15 o15 kk15 sl9 q1 ow1
  refine call_of Tryd.func8 rfl (Nat.le_of_ble_eq_true rfl) (hS.no rfl _ _) ?_
  rw [Tryd.ntmps8, Tryd.results8]
  repeat' (first | (with_reducible refine sxGuardB_tsp (fun h => ?_) (fun h => ?_)) | (with_reducible refine sxGuardB_fsp (fun h => ?_) (fun h => ?_)) | (with_reducible refine sxIfB_sp (fun h => ?_) (fun h => ?_)) | simp only [↓sxC_skip, ↓sxC_draw, ↓sxC_region, ↓sxC_seq, ↓bxC_cond, ↓bxC_loop, ↓sxC_block, ↓sxC_exit, ↓sxC_goto, ↓sxC_ret, ↓sxOps_nil, ↓sxOps_cons, ↓sxDraw_nil, ↓bxDraw_cons, ↓sxDL_move, ↓sxDL_assign, ↓sxDL_pick, ↓sxDL_alloc, ↓sxDL_box, ↓sxDL_build, ↓sxDL_buildSlice, ↓sxDL_insert, ↓sxDL_load, ↓sxDL_nilCheck, ↓sxDL_binOp, ↓sxDL_unOp, ↓sxDL_convert, ↓sxDL_makeInterface, ↓sxDL_makeFunc, ↓sxDL_makeMap, ↓sxDL_makeSlice, ↓sxDL_slice, ↓sxDL_fieldAddr, ↓sxDL_field, ↓sxDL_indexAddr, ↓sxDL_index, ↓sxDL_typeAssert, ↓sxDL_extract, ↓sxDL_call, ↓sxDL_lookup, ↓sxDL_mapUpdate, ↓sxDL_range, ↓sxDL_next, ↓sxDL_entry, ↓sxDL_mapEntry, ↓sxDL_entryStore, ↓sxD_same, ↓sxStep_none, ↓bxStep_some, ↓bxOp_move, ↓bxOp_assign, ↓bxOp_pick, ↓bxOp_alloc, ↓bxOp_box, ↓bxOp_build, ↓bxOp_buildSlice, ↓bxOp_load, ↓bxOp_store, ↓bxOp_nilCheck, ↓bxOp_bin, ↓bxOp_un, ↓bxOp_makeI, ↓bxOp_makeFunc, ↓bxOp_makeSlice, ↓bxOp_slice, ↓bxOp_fieldAddr, ↓bxOp_field, ↓bxOp_indexAddr, ↓bxOp_index, ↓bxOp_assert, ↓bxOp_extract, ↓bxOp_value, ↓bxOp_len, ↓bxOp_cap, ↓bxOp_append, ↓bxOp_copy, ↓bxOp_clear, ↓bxOp_max, ↓bxOp_min, ↓bxOp_convert, ↓sxPut_none, ↓bxPut, ↓seqQ_normal, ↓seqQ_exit, ↓seqQ_ret, ↓seqQ_goto, ↓blockQ_normal, ↓blockQ_ret, ↓blockQ_goto, ↓blockQ_exit, ↓loopQ_normal, ↓loopQ_exit, ↓loopQ_ret, ↓loopQ_goto, ↓resQ_normal, ↓resQ_ret, ↓sxRes_nil, ↓sxRes_tmp, ↓bxRes_cell, ↓upd_apply, ↓ev_tmp, ↓ev_const, ↓ev_global, ↓ev_func, ↓dstAt, ↓gval_some, sxOptB_some, sxOptB_ite, mm_max, mm_min, binP_shl, binP_shr, binP_int, intBin, una_not_dec, una_nt, una_nf, una_neg, aPick_true, aPick_false, sxCallVB_fn, sxCallVB_yield, sxGuardB_u, sxGuardB_tt, sxGuardB_tf, sxGuardB_ft, sxGuardB_ff, sxIfB_t, sxIfB_f, packRes_one, packRes_two, List.map_cons, List.map_nil, List.nil_append, List.cons_append, List.append_nil, ↓reduceIte, Nat.reduceEqDiff, Nat.reduceLT, dec_T, dec_F, false_imp, true_and, and_true, true_implies, implies_true, false_and, and_false, true_or, or_true, false_or, or_false, and_self, or_self, read_relow, size_relow, low_relow, relow_relow, aLoad_relow, Nat.add_zero, Nat.mul_one, one1, Option.bind_some, ne_eq, Int.natCast_nonneg, Int.toNat_natCast, not_true_eq_false, not_false_eq_true, Option.map_some, Option.map_none, *, argF, List.getD_cons_zero, List.getD_cons_succ, cvU8, ex20, ex21, ex30, ex31, ex32, alR, alQ, ldRt, ldI, faR0, faR1, bdR, lenRs, cells2, Nat.zero_add] | (with_reducible refine sxDL_barE (by assumption) (by decide +kernel) ?_) | (with_reducible refine sxDL_bar (by decide +kernel) ?_) | (with_reducible refine sxD_bar (by decide +kernel) ?_))

  clear hlw f1 f6 f9 f10 f13 w0 w0' w1 w2 hdm wl rL1 rL2 rL3 rG1 rG2 rG3 rV1 rV2 rV3 e2 e3 p4 p5 e7 p8 e11 p12 e14 p15
  refine sxL_of (fun k ρ Hc => ∃ (j : Nat) (s : Int × Int) (sv : Value), k = (planC d l).length - j ∧ j ≤ (planC d l).length ∧ sumOkL ((planC d l).drop j) s = true ∧ Keep H13 Hc ∧ Own Hc H13.size 52 sv.cells.toList ∧ PV Hc sv s ∧
      ρ 5 = .int .i64 d ∧ ρ 6 = .int .i64 l ∧ ρ 7 = .pointer (some ⟨H1.size, 0, none⟩) ∧ ρ 8 = .pointer (some ⟨H2.size, 0, none⟩) ∧ ρ 10 = .pointer (some ⟨H6.size, 0, none⟩) ∧ ρ 12 = .slice aP (planC d l).length cP ∧ ρ 14 = .pointer (some ⟨H10.size, 0, none⟩) ∧ ρ 15 = .pointer (some ⟨H13.size, 0, none⟩) ∧ ρ 16 = .int .i64 j)
    ⟨0, (0, 1), v13, rfl, Nat.zero_le _, by rw [List.drop_zero]; exact F1, kb15, owS, qS, rfl, rfl, rfl, rfl, rfl, rfl, rfl, rfl, rfl⟩ ?_
  rintro k ρ Hc ⟨j, s, sv, rfl, hj, hs, kc, owc, qc, e5, e6, e7, e8, e10, e12, e14, e15, e16⟩
  refine shield fun P hP => ?_
  have kHc := hKb.trans kc
  have lc := kHc.low hL
  have gc := kHc.grp hg
  have rc := Keep.relowS Hc
  have slc := bP.keep kc
  have lSc := own_ldQ owc qc
  by_cases hjl : j = (planC d l).length
  · subst hjl
    rw [List.drop_length] at hs
    have hob1 := inSum_ok (show inSum s = true from hs)
    obtain ⟨os, hle⟩ := hob1
    have hc : ¬ ((planC d l).length : Int) < ((planC d l).length : Int) := Int.lt_irrefl _
    have l1c := own_ldQ (b1.keep kc) (c1.keep kc)
    have hob2 := drawn lc (CmpP hS sv v10 s (1, 1) (Hc.relow Hc.size) (rc.grp gc) (Nat.le_refl _) (qc.keep rc) ((c1.keep kc).keep rc) os.1 o1.1)
    obtain ⟨H16', H16, k16, l16, f16, d16⟩ := hob2
    have hsg : ¬ 0 < sgn3 (s.1 * 1) (1 * s.2) := sgn3_le (by omega)
    have kb16 := kc.trans k16
    have hob3 := SlR_at (bP.keep kb16) (k := 0) (by omega)
    obtain ⟨ix0', rd0', -, -⟩ := hob3
    have ix1 : aIndexAt Tryd.prog 43 (.slice aP (planC d l).length cP) (.int .i64 0) = some (.pointer (some ⟨rP, 0, none⟩)) := ix0'
    have rd1 : H16.read rP 0 2 = some [.int .i64 (dayC d l).2.2.1, .int .i64 (dayC d l).2.2.2] := by rw [← F2]; exact rd0'
    clear ix0' rd0'
    have hob4 := own2 (bG.keep kb16)
    obtain ⟨rg0, -, -⟩ := hob4
    have nq : binP Tryd.prog .neq 24 (.agg ⟨[.int .i64 (dayC d l).2.2.1, .int .i64 (dayC d l).2.2.2]⟩) (.agg ⟨[.int .i64 (dayC d l).2.2.1, .int .i64 (dayC d l).2.2.2]⟩) = some (.bool false) := by
      rw [(eqlR _ _ _ _).2, decide_eq_false (by simp)]
    have ha16 := knownAt hS hO (hKb.trans kb16)
    by_cases cl : l = 0 ∨ d ≤ l
    · clear owc qc slc os hs bP bL bG bV b1 c1 F1 F2 F3 F0 Fa Fb oq oa ob o1 o2 o0 owS qS hle
      by_cases c0 : l = 0
      · subst c0
        have c5 : ((0 : Nat) : Int) = 0 := rfl
        subst hP
        repeat' (first | (with_reducible refine sxGuardB_tsp (fun h => ?_) (fun h => ?_)) | (with_reducible refine sxGuardB_fsp (fun h => ?_) (fun h => ?_)) | (with_reducible refine sxIfB_sp (fun h => ?_) (fun h => ?_)) | simp only [↓sxC_skip, ↓sxC_draw, ↓sxC_region, ↓sxC_seq, ↓bxC_cond, ↓bxC_loop, ↓sxC_block, ↓sxC_exit, ↓sxC_goto, ↓sxC_ret, ↓sxOps_nil, ↓sxOps_cons, ↓sxDraw_nil, ↓bxDraw_cons, ↓sxDL_move, ↓sxDL_assign, ↓sxDL_pick, ↓sxDL_alloc, ↓sxDL_box, ↓sxDL_build, ↓sxDL_buildSlice, ↓sxDL_insert, ↓sxDL_load, ↓sxDL_nilCheck, ↓sxDL_binOp, ↓sxDL_unOp, ↓sxDL_convert, ↓sxDL_makeInterface, ↓sxDL_makeFunc, ↓sxDL_makeMap, ↓sxDL_makeSlice, ↓sxDL_slice, ↓sxDL_fieldAddr, ↓sxDL_field, ↓sxDL_indexAddr, ↓sxDL_index, ↓sxDL_typeAssert, ↓sxDL_extract, ↓sxDL_call, ↓sxDL_lookup, ↓sxDL_mapUpdate, ↓sxDL_range, ↓sxDL_next, ↓sxDL_entry, ↓sxDL_mapEntry, ↓sxDL_entryStore, ↓sxD_same, ↓sxStep_none, ↓bxStep_some, ↓bxOp_move, ↓bxOp_assign, ↓bxOp_pick, ↓bxOp_alloc, ↓bxOp_box, ↓bxOp_build, ↓bxOp_buildSlice, ↓bxOp_load, ↓bxOp_store, ↓bxOp_nilCheck, ↓bxOp_bin, ↓bxOp_un, ↓bxOp_makeI, ↓bxOp_makeFunc, ↓bxOp_makeSlice, ↓bxOp_slice, ↓bxOp_fieldAddr, ↓bxOp_field, ↓bxOp_indexAddr, ↓bxOp_index, ↓bxOp_assert, ↓bxOp_extract, ↓bxOp_value, ↓bxOp_len, ↓bxOp_cap, ↓bxOp_append, ↓bxOp_copy, ↓bxOp_clear, ↓bxOp_max, ↓bxOp_min, ↓bxOp_convert, ↓sxPut_none, ↓bxPut, ↓seqQ_normal, ↓seqQ_exit, ↓seqQ_ret, ↓seqQ_goto, ↓blockQ_normal, ↓blockQ_ret, ↓blockQ_goto, ↓blockQ_exit, ↓loopQ_normal, ↓loopQ_exit, ↓loopQ_ret, ↓loopQ_goto, ↓resQ_normal, ↓resQ_ret, ↓sxRes_nil, ↓sxRes_tmp, ↓bxRes_cell, ↓upd_apply, ↓ev_tmp, ↓ev_const, ↓ev_global, ↓ev_func, ↓dstAt, ↓gval_some, sxOptB_some, sxOptB_ite, mm_max, mm_min, binP_shl, binP_shr, binP_int, intBin, una_not_dec, una_nt, una_nf, una_neg, aPick_true, aPick_false, sxCallVB_fn, sxCallVB_yield, sxGuardB_u, sxGuardB_tt, sxGuardB_tf, sxGuardB_ft, sxGuardB_ff, sxIfB_t, sxIfB_f, packRes_one, packRes_two, List.map_cons, List.map_nil, List.nil_append, List.cons_append, List.append_nil, ↓reduceIte, Nat.reduceEqDiff, Nat.reduceLT, dec_T, dec_F, false_imp, true_and, and_true, true_implies, implies_true, false_and, and_false, true_or, or_true, false_or, or_false, and_self, or_self, read_relow, size_relow, low_relow, relow_relow, aLoad_relow, Nat.add_zero, Nat.mul_one, one1, Option.bind_some, ne_eq, Int.natCast_nonneg, Int.toNat_natCast, not_true_eq_false, not_false_eq_true, Option.map_some, Option.map_none, *, ldRt, lenRs, cells2, Nat.zero_add] | (with_reducible refine sxDL_barE (by assumption) (by decide +kernel) ?_) | (with_reducible refine sxDL_bar (by decide +kernel) ?_) | (with_reducible refine sxD_bar (by decide +kernel) ?_))
      · have c1 : ¬ (l : Int) = 0 := by omega
        have c2 : (d : Int) ≤ l := by omega
        subst hP
        repeat' (first | (with_reducible refine sxGuardB_tsp (fun h => ?_) (fun h => ?_)) | (with_reducible refine sxGuardB_fsp (fun h => ?_) (fun h => ?_)) | (with_reducible refine sxIfB_sp (fun h => ?_) (fun h => ?_)) | simp only [↓sxC_skip, ↓sxC_draw, ↓sxC_region, ↓sxC_seq, ↓bxC_cond, ↓bxC_loop, ↓sxC_block, ↓sxC_exit, ↓sxC_goto, ↓sxC_ret, ↓sxOps_nil, ↓sxOps_cons, ↓sxDraw_nil, ↓bxDraw_cons, ↓sxDL_move, ↓sxDL_assign, ↓sxDL_pick, ↓sxDL_alloc, ↓sxDL_box, ↓sxDL_build, ↓sxDL_buildSlice, ↓sxDL_insert, ↓sxDL_load, ↓sxDL_nilCheck, ↓sxDL_binOp, ↓sxDL_unOp, ↓sxDL_convert, ↓sxDL_makeInterface, ↓sxDL_makeFunc, ↓sxDL_makeMap, ↓sxDL_makeSlice, ↓sxDL_slice, ↓sxDL_fieldAddr, ↓sxDL_field, ↓sxDL_indexAddr, ↓sxDL_index, ↓sxDL_typeAssert, ↓sxDL_extract, ↓sxDL_call, ↓sxDL_lookup, ↓sxDL_mapUpdate, ↓sxDL_range, ↓sxDL_next, ↓sxDL_entry, ↓sxDL_mapEntry, ↓sxDL_entryStore, ↓sxD_same, ↓sxStep_none, ↓bxStep_some, ↓bxOp_move, ↓bxOp_assign, ↓bxOp_pick, ↓bxOp_alloc, ↓bxOp_box, ↓bxOp_build, ↓bxOp_buildSlice, ↓bxOp_load, ↓bxOp_store, ↓bxOp_nilCheck, ↓bxOp_bin, ↓bxOp_un, ↓bxOp_makeI, ↓bxOp_makeFunc, ↓bxOp_makeSlice, ↓bxOp_slice, ↓bxOp_fieldAddr, ↓bxOp_field, ↓bxOp_indexAddr, ↓bxOp_index, ↓bxOp_assert, ↓bxOp_extract, ↓bxOp_value, ↓bxOp_len, ↓bxOp_cap, ↓bxOp_append, ↓bxOp_copy, ↓bxOp_clear, ↓bxOp_max, ↓bxOp_min, ↓bxOp_convert, ↓sxPut_none, ↓bxPut, ↓seqQ_normal, ↓seqQ_exit, ↓seqQ_ret, ↓seqQ_goto, ↓blockQ_normal, ↓blockQ_ret, ↓blockQ_goto, ↓blockQ_exit, ↓loopQ_normal, ↓loopQ_exit, ↓loopQ_ret, ↓loopQ_goto, ↓resQ_normal, ↓resQ_ret, ↓sxRes_nil, ↓sxRes_tmp, ↓bxRes_cell, ↓upd_apply, ↓ev_tmp, ↓ev_const, ↓ev_global, ↓ev_func, ↓dstAt, ↓gval_some, sxOptB_some, sxOptB_ite, mm_max, mm_min, binP_shl, binP_shr, binP_int, intBin, una_not_dec, una_nt, una_nf, una_neg, aPick_true, aPick_false, sxCallVB_fn, sxCallVB_yield, sxGuardB_u, sxGuardB_tt, sxGuardB_tf, sxGuardB_ft, sxGuardB_ff, sxIfB_t, sxIfB_f, packRes_one, packRes_two, List.map_cons, List.map_nil, List.nil_append, List.cons_append, List.append_nil, ↓reduceIte, Nat.reduceEqDiff, Nat.reduceLT, dec_T, dec_F, false_imp, true_and, and_true, true_implies, implies_true, false_and, and_false, true_or, or_true, false_or, or_false, and_self, or_self, read_relow, size_relow, low_relow, relow_relow, aLoad_relow, Nat.add_zero, Nat.mul_one, one1, Option.bind_some, ne_eq, Int.natCast_nonneg, Int.toNat_natCast, not_true_eq_false, not_false_eq_true, Option.map_some, Option.map_none, *, ldRt, lenRs, cells2, Nat.zero_add] | (with_reducible refine sxDL_barE (by assumption) (by decide +kernel) ?_) | (with_reducible refine sxDL_bar (by decide +kernel) ?_) | (with_reducible refine sxD_bar (by decide +kernel) ?_))
    · have hl0 : 0 < l := by omega
      have hld : l < d := by omega
      have hg1 := F3 hl0 hld
      obtain ⟨E1, E2, E3, E4⟩ := hg1
      have hg2 := dayC_facts (d := d - 1) (l := l - 1) (by omega) (by omega)
      obtain ⟨X0, -⟩ := hg2
      have hg3 := dayC_facts (d := d - 1) (l := l) (by omega) (by omega)
      obtain ⟨Y0, -⟩ := hg3
      have oh := okF_part X0 (by decide)
      have okk := okF_part Y0 (by decide)
      have kH16 := hKb.trans kb16
      have hg4 := pDresher_good hS (d - 1) (l - 1) H16 l16 (by omega) (by omega)
      obtain ⟨H17, k17, R17⟩ := hg4
      have hg5 := putRo (kH16.trans k17) (gainC (d - 1) (l - 1))
      obtain ⟨H18, H19, e18, p19, k019, k1719, owX⟩ := hg5
      have hg6 := pDresher_good hS (d - 1) l H19 (k019.low hL) (by omega) (by omega)
      obtain ⟨H20, k20, R20⟩ := hg6
      have hg7 := putRo (k019.trans k20) (gainC (d - 1) l)
      obtain ⟨H21, H22, e21, p22, k022, k2022, owY⟩ := hg7
      have k1922 := k20.trans k2022
      have k1622 := (k17.trans k1719).trans k1922
      have kb22 := kb16.trans k1622
      have hg8 := own2 (owX.keep k1922)
      obtain ⟨rx2, rx0, rx1⟩ := hg8
      have hg9 := own2 owY
      obtain ⟨ry2, ry0, ry1⟩ := hg9
      have hg10 := isPart_iff X0
      obtain ⟨i1, i2, i3, i4, -⟩ := hg10
      have hg11 := isPart_iff Y0
      obtain ⟨j1, j2, j3, j4, -⟩ := hg11
      have hx1 : ¬ (gainC (d - 1) (l - 1)).2 < 1 := by omega
      have hy1 : ¬ (gainC (d - 1) l).2 < 1 := by omega
      have f17 := R17.bx
      have f20 := R20.bx
      unfold ratioV at f17 f20
      have w8 : IntKind.i64.wrap ((d : Int) - 1) = ((d - 1 : Nat) : Int) := by rw [IntWalk.i64_in _ (by omega)]; omega
      have w9 : IntKind.i64.wrap ((l : Int) - 1) = ((l - 1 : Nat) : Int) := by rw [IntWalk.i64_in _ (by omega)]; omega
      have n1 : ¬ (l : Int) = 0 := by omega
      have n2 : ¬ (d : Int) ≤ l := by omega
      have own_look := bL.keep kb22
      have own_goes := bG.keep kb22
      have own_v := bV.keep kb22
      have own_x := owX.keep k1922
      have own_y := owY
      have own_one := b1.keep kb22
      have pv_one := c1.keep kb22
      have lo22 := k022.low hL
      have k0_22 := k022
      have gr22 := k022.grp hg
      have rd_look22 := (own2 own_look).1
      have hg12 := drawnQ lo22 (FromP hS (dayC d l).2.1 (H22.relow H22.size) (Keep.relowS H22 |>.grp gr22) (Nat.le_refl _) (oa.mono (by decide)))
      obtain ⟨t23, H23', H23, kk23, lw23, ff23, dd23, qt23⟩ := hg12
      have k0_23 := k0_22.trans kk23
      have gr23 := k0_23.grp hg
      have lo23 := lw23
      have rd_goes23 := (own2 (own_goes.keep kk23)).1
      have hg13 := drawnQ lo23 (FromP hS (dayC d l).2.2 (H23.relow H23.size) (Keep.relowS H23 |>.grp gr23) (Nat.le_refl _) (ob.mono (by decide)))
      obtain ⟨t24, H24', H24, kk24, lw24, ff24, dd24, qt24⟩ := hg13
      have kB24 := kk23.trans kk24
      have k0_24 := k0_22.trans kB24
      have gr24 := k0_24.grp hg
      have lo24 := lw24
      have hg14 := putQD2 lo24 (qt23.keep kk24) qt24
      obtain ⟨H25', H25, H26', H26, H27', H27, H28', H28, ea25, da25, ea26, da26, pa27, ya27, pa28, ya28, kk28, lw28, own_a, pv_a, own_b, pv_b⟩ := hg14
      have kB28 := kB24.trans kk28
      have k0_28 := k0_22.trans kB28
      have gr28 := k0_28.grp hg
      have lo28 := lw28
      have rd_v28 := (own2 (own_v.keep kB28)).1
      have hg15 := drawnQ lo28 (FromP hS (gainC d l) (H28.relow H28.size) (Keep.relowS H28 |>.grp gr28) (Nat.le_refl _) (oq.mono (by decide)))
      obtain ⟨t29, H29', H29, kk29, lw29, ff29, dd29, qt29⟩ := hg15
      have kB29 := kB28.trans kk29
      have k0_29 := k0_22.trans kB29
      have gr29 := k0_29.grp hg
      have lo29 := lw29
      have rd_x29 := (own2 (own_x.keep kB29)).1
      have hg16 := drawnQ lo29 (FromP hS (gainC (d - 1) (l - 1)) (H29.relow H29.size) (Keep.relowS H29 |>.grp gr29) (Nat.le_refl _) (oh.mono (by decide)))
      obtain ⟨t30, H30', H30, kk30, lw30, ff30, dd30, qt30⟩ := hg16
      have kB30 := kB29.trans kk30
      have k0_30 := k0_22.trans kB30
      have gr30 := k0_30.grp hg
      have lo30 := lw30
      have rd_y30 := (own2 (own_y.keep kB30)).1
      have hg17 := drawnQ lo30 (FromP hS (gainC (d - 1) l) (H30.relow H30.size) (Keep.relowS H30 |>.grp gr30) (Nat.le_refl _) (okk.mono (by decide)))
      obtain ⟨t31, H31', H31, kk31, lw31, ff31, dd31, qt31⟩ := hg17
      have kB31 := kB30.trans kk31
      have k0_31 := k0_22.trans kB31
      have gr31 := k0_31.grp hg
      have lo31 := lw31
      have kC29_31 := (kk30.trans kk31)
      have hg18 := putQD3 lo31 (qt29.keep kC29_31) (qt30.keep kk31) qt31
      obtain ⟨H32', H32, H33', H33, H34', H34, H35', H35, H36', H36, H37', H37, ea32, da32, ea33, da33, ea34, da34, pa35, ya35, pa36, ya36, pa37, ya37, kk37, lw37, own_q, pv_q, own_h, pv_h, own_k, pv_k⟩ := hg18
      have kB37 := kB31.trans kk37
      have k0_37 := k0_22.trans kB37
      have gr37 := k0_37.grp hg
      have lo37 := lw37
      have ld_one37 := own_ldQ (own_one.keep kB37) (pv_one.keep kB37)
      have hg19 := drawnQ lo37 (FracP hS 2 1 (H37.relow H37.size) (Keep.relowS H37 |>.grp gr37) (Nat.le_refl _) (o2.mono (by decide)))
      obtain ⟨t38, H38', H38, kk38, lw38, ff38, dd38, qt38⟩ := hg19
      have kB38 := kB37.trans kk38
      have k0_38 := k0_22.trans kB38
      have gr38 := k0_38.grp hg
      have lo38 := lw38
      have kC28_38 := ((((kk29.trans kk30).trans kk31).trans kk37).trans kk38)
      have ld_a38 := own_ldQ (own_a.keep kC28_38) (pv_a.keep kC28_38)
      have hg20 := drawnQ lo38 (MulP hS t38 t23 (2, 1) (dayC d l).2.1 (H38.relow H38.size) (Keep.relowS H38 |>.grp gr38) (Nat.le_refl _) (qt38.keep (Keep.relowS H38)) ((pv_a.keep kC28_38).keep (Keep.relowS H38)) o2 oa (by decide) (by decide))
      obtain ⟨t39, H39', H39, kk39, lw39, ff39, dd39, qt39⟩ := hg20
      have kB39 := kB38.trans kk39
      have k0_39 := k0_22.trans kB39
      have gr39 := k0_39.grp hg
      have lo39 := lw39
      have hg21 := drawnQ lo39 (SubP hS v10 t39 (1, 1) (qmul (2, 1) (dayC d l).2.1) (H39.relow H39.size) (Keep.relowS H39 |>.grp gr39) (Nat.le_refl _) ((pv_one.keep kB39).keep (Keep.relowS H39)) (qt39.keep (Keep.relowS H39)) o1 (o2.mul oa) (by decide) (by decide))
      obtain ⟨t40, H40', H40, kk40, lw40, ff40, dd40, qt40⟩ := hg21
      have kB40 := kB39.trans kk40
      have k0_40 := k0_22.trans kB40
      have gr40 := k0_40.grp hg
      have lo40 := lw40
      have hg22 := putQD lo40 qt40
      obtain ⟨H41', H41, H42', H42, ea41, da41, pa42, ya42, kk42, lw42, own_going, pv_going⟩ := hg22
      have kB42 := kB40.trans kk42
      have k0_42 := k0_22.trans kB42
      have gr42 := k0_42.grp hg
      have lo42 := lw42
      have kC28_42 := (((kC28_38.trans kk39).trans kk40).trans kk42)
      have ld_a42 := own_ldQ (own_a.keep kC28_42) (pv_a.keep kC28_42)
      have kC37_42 := (((kk38.trans kk39).trans kk40).trans kk42)
      have ld_h42 := own_ldQ (own_h.keep kC37_42) (pv_h.keep kC37_42)
      have hg23 := drawnQ lo42 (MulP hS t23 t30 (dayC d l).2.1 (gainC (d - 1) (l - 1)) (H42.relow H42.size) (Keep.relowS H42 |>.grp gr42) (Nat.le_refl _) ((pv_a.keep kC28_42).keep (Keep.relowS H42)) ((pv_h.keep kC37_42).keep (Keep.relowS H42)) oa oh (by decide) (by decide))
      obtain ⟨t43, H43', H43, kk43, lw43, ff43, dd43, qt43⟩ := hg23
      have kB43 := kB42.trans kk43
      have k0_43 := k0_22.trans kB43
      have gr43 := k0_43.grp hg
      have lo43 := lw43
      have ld_one43 := own_ldQ (own_one.keep kB43) (pv_one.keep kB43)
      have kC28_43 := (kC28_42.trans kk43)
      have ld_a43 := own_ldQ (own_a.keep kC28_43) (pv_a.keep kC28_43)
      have hg24 := drawnQ lo43 (SubP hS v10 t23 (1, 1) (dayC d l).2.1 (H43.relow H43.size) (Keep.relowS H43 |>.grp gr43) (Nat.le_refl _) ((pv_one.keep kB43).keep (Keep.relowS H43)) ((pv_a.keep kC28_43).keep (Keep.relowS H43)) o1 oa (by decide) (by decide))
      obtain ⟨t44, H44', H44, kk44, lw44, ff44, dd44, qt44⟩ := hg24
      have kB44 := kB43.trans kk44
      have k0_44 := k0_22.trans kB44
      have gr44 := k0_44.grp hg
      have lo44 := lw44
      have kC37_44 := ((kC37_42.trans kk43).trans kk44)
      have ld_k44 := own_ldQ (own_k.keep kC37_44) (pv_k.keep kC37_44)
      have hg25 := drawnQ lo44 (MulP hS t44 t31 (qsub (1, 1) (dayC d l).2.1) (gainC (d - 1) l) (H44.relow H44.size) (Keep.relowS H44 |>.grp gr44) (Nat.le_refl _) (qt44.keep (Keep.relowS H44)) ((pv_k.keep kC37_44).keep (Keep.relowS H44)) (o1.sub oa) okk (by decide) (by decide))
      obtain ⟨t45, H45', H45, kk45, lw45, ff45, dd45, qt45⟩ := hg25
      have kB45 := kB44.trans kk45
      have k0_45 := k0_22.trans kB45
      have gr45 := k0_45.grp hg
      have lo45 := lw45
      have kC43_45 := (kk44.trans kk45)
      have hg26 := drawnQ lo45 (AddP hS t43 t45 (qmul (dayC d l).2.1 (gainC (d - 1) (l - 1))) (qmul (qsub (1, 1) (dayC d l).2.1) (gainC (d - 1) l)) (H45.relow H45.size) (Keep.relowS H45 |>.grp gr45) (Nat.le_refl _) ((qt43.keep kC43_45).keep (Keep.relowS H45)) (qt45.keep (Keep.relowS H45)) (oa.mul oh) ((o1.sub oa).mul okk) (by decide) (by decide))
      obtain ⟨t46, H46', H46, kk46, lw46, ff46, dd46, qt46⟩ := hg26
      have kB46 := kB45.trans kk46
      have k0_46 := k0_22.trans kB46
      have gr46 := k0_46.grp hg
      have lo46 := lw46
      have hg27 := putQD lo46 qt46
      obtain ⟨H47', H47, H48', H48, ea47, da47, pa48, ya48, kk48, lw48, own_staying, pv_staying⟩ := hg27
      have kB48 := kB46.trans kk48
      have k0_48 := k0_22.trans kB48
      have gr48 := k0_48.grp hg
      have lo48 := lw48
      have ld_one48 := own_ldQ (own_one.keep kB48) (pv_one.keep kB48)
      have kC28_48 := ((((kC28_43.trans kk44).trans kk45).trans kk46).trans kk48)
      have ld_b48 := own_ldQ (own_b.keep kC28_48) (pv_b.keep kC28_48)
      have hg28 := drawnQ lo48 (SubP hS v10 t24 (1, 1) (dayC d l).2.2 (H48.relow H48.size) (Keep.relowS H48 |>.grp gr48) (Nat.le_refl _) ((pv_one.keep kB48).keep (Keep.relowS H48)) ((pv_b.keep kC28_48).keep (Keep.relowS H48)) o1 ob (by decide) (by decide))
      obtain ⟨t49, H49', H49, kk49, lw49, ff49, dd49, qt49⟩ := hg28
      have kB49 := kB48.trans kk49
      have k0_49 := k0_22.trans kB49
      have gr49 := k0_49.grp hg
      have lo49 := lw49
      have kC37_49 := ((((kC37_44.trans kk45).trans kk46).trans kk48).trans kk49)
      have ld_h49 := own_ldQ (own_h.keep kC37_49) (pv_h.keep kC37_49)
      have hg29 := drawnQ lo49 (MulP hS t49 t30 (qsub (1, 1) (dayC d l).2.2) (gainC (d - 1) (l - 1)) (H49.relow H49.size) (Keep.relowS H49 |>.grp gr49) (Nat.le_refl _) (qt49.keep (Keep.relowS H49)) ((pv_h.keep kC37_49).keep (Keep.relowS H49)) (o1.sub ob) oh (by decide) (by decide))
      obtain ⟨t50, H50', H50, kk50, lw50, ff50, dd50, qt50⟩ := hg29
      have kB50 := kB49.trans kk50
      have k0_50 := k0_22.trans kB50
      have gr50 := k0_50.grp hg
      have lo50 := lw50
      have kC28_50 := ((kC28_48.trans kk49).trans kk50)
      have ld_b50 := own_ldQ (own_b.keep kC28_50) (pv_b.keep kC28_50)
      have hg30 := drawnQ lo50 (SubP hS t50 t24 (qmul (qsub (1, 1) (dayC d l).2.2) (gainC (d - 1) (l - 1))) (dayC d l).2.2 (H50.relow H50.size) (Keep.relowS H50 |>.grp gr50) (Nat.le_refl _) (qt50.keep (Keep.relowS H50)) ((pv_b.keep kC28_50).keep (Keep.relowS H50)) ((o1.sub ob).mul oh) ob (by decide) (by decide))
      obtain ⟨t51, H51', H51, kk51, lw51, ff51, dd51, qt51⟩ := hg30
      have kB51 := kB50.trans kk51
      have k0_51 := k0_22.trans kB51
      have gr51 := k0_51.grp hg
      have lo51 := lw51
      have hg31 := putQD lo51 qt51
      obtain ⟨H52', H52, H53', H53, ea52, da52, pa53, ya53, kk53, lw53, own_looked, pv_looked⟩ := hg31
      have kB53 := kB51.trans kk53
      have k0_53 := k0_22.trans kB53
      have gr53 := k0_53.grp hg
      have lo53 := lw53
      have ld_one53 := own_ldQ (own_one.keep kB53) (pv_one.keep kB53)
      have kC28_53 := ((kC28_50.trans kk51).trans kk53)
      have ld_b53 := own_ldQ (own_b.keep kC28_53) (pv_b.keep kC28_53)
      have hg32 := drawnQ lo53 (SubP hS v10 t24 (1, 1) (dayC d l).2.2 (H53.relow H53.size) (Keep.relowS H53 |>.grp gr53) (Nat.le_refl _) ((pv_one.keep kB53).keep (Keep.relowS H53)) ((pv_b.keep kC28_53).keep (Keep.relowS H53)) o1 ob (by decide) (by decide))
      obtain ⟨t54, H54', H54, kk54, lw54, ff54, dd54, qt54⟩ := hg32
      have kB54 := kB53.trans kk54
      have k0_54 := k0_22.trans kB54
      have gr54 := k0_54.grp hg
      have lo54 := lw54
      have kC37_54 := ((((kC37_49.trans kk50).trans kk51).trans kk53).trans kk54)
      have ld_k54 := own_ldQ (own_k.keep kC37_54) (pv_k.keep kC37_54)
      have hg33 := drawnQ lo54 (MulP hS t54 t31 (qsub (1, 1) (dayC d l).2.2) (gainC (d - 1) l) (H54.relow H54.size) (Keep.relowS H54 |>.grp gr54) (Nat.le_refl _) (qt54.keep (Keep.relowS H54)) ((pv_k.keep kC37_54).keep (Keep.relowS H54)) (o1.sub ob) okk (by decide) (by decide))
      obtain ⟨t55, H55', H55, kk55, lw55, ff55, dd55, qt55⟩ := hg33
      have kB55 := kB54.trans kk55
      have k0_55 := k0_22.trans kB55
      have gr55 := k0_55.grp hg
      have lo55 := lw55
      have kC28_55 := ((kC28_53.trans kk54).trans kk55)
      have ld_b55 := own_ldQ (own_b.keep kC28_55) (pv_b.keep kC28_55)
      have hg34 := drawnQ lo55 (AddP hS t55 t24 (qmul (qsub (1, 1) (dayC d l).2.2) (gainC (d - 1) l)) (dayC d l).2.2 (H55.relow H55.size) (Keep.relowS H55 |>.grp gr55) (Nat.le_refl _) (qt55.keep (Keep.relowS H55)) ((pv_b.keep kC28_55).keep (Keep.relowS H55)) ((o1.sub ob).mul okk) ob (by decide) (by decide))
      obtain ⟨t56, H56', H56, kk56, lw56, ff56, dd56, qt56⟩ := hg34
      have kB56 := kB55.trans kk56
      have k0_56 := k0_22.trans kB56
      have gr56 := k0_56.grp hg
      have lo56 := lw56
      have hg35 := putQD lo56 qt56
      obtain ⟨H57', H57, H58', H58, ea57, da57, pa58, ya58, kk58, lw58, own_missed, pv_missed⟩ := hg35
      have kB58 := kB56.trans kk58
      have k0_58 := k0_22.trans kB58
      have gr58 := k0_58.grp hg
      have lo58 := lw58
      have kC42_58 := ((((((((((((kk43.trans kk44).trans kk45).trans kk46).trans kk48).trans kk49).trans kk50).trans kk51).trans kk53).trans kk54).trans kk55).trans kk56).trans kk58)
      have ld_going58 := own_ldQ (own_going.keep kC42_58) (pv_going.keep kC42_58)
      have kC37_58 := (((kC37_54.trans kk55).trans kk56).trans kk58)
      have ld_q58 := own_ldQ (own_q.keep kC37_58) (pv_q.keep kC37_58)
      have e_going : (qsub (1, 1) (qmul (2, 1) (dayC d l).2.1)).1 * (gainC d l).2 = (gainC d l).1 * (qsub (1, 1) (qmul (2, 1) (dayC d l).2.1)).2 := E1
      have hg36 := CmpP hS t40 t29 (qsub (1, 1) (qmul (2, 1) (dayC d l).2.1)) (gainC d l) H58 gr58 lo58 (pv_going.keep kC42_58) (pv_q.keep kC37_58) (o1.sub (o2.mul oa)).1 oq.1
      obtain ⟨H59, kk59, RR59⟩ := hg36
      rw [sgn3_same e_going] at RR59
      have ff59 := RR59.bx
      have kB59 := kB58.trans kk59
      have k0_59 := k0_22.trans kB59
      have gr59 := k0_59.grp hg
      have lo59 := kk59.low lo58
      have kC48_59 := ((((((((kk49.trans kk50).trans kk51).trans kk53).trans kk54).trans kk55).trans kk56).trans kk58).trans kk59)
      have ld_staying59 := own_ldQ (own_staying.keep kC48_59) (pv_staying.keep kC48_59)
      have kC37_59 := (kC37_58.trans kk59)
      have ld_q59 := own_ldQ (own_q.keep kC37_59) (pv_q.keep kC37_59)
      have e_staying : (qadd (qmul (dayC d l).2.1 (gainC (d - 1) (l - 1))) (qmul (qsub (1, 1) (dayC d l).2.1) (gainC (d - 1) l))).1 * (gainC d l).2 = (gainC d l).1 * (qadd (qmul (dayC d l).2.1 (gainC (d - 1) (l - 1))) (qmul (qsub (1, 1) (dayC d l).2.1) (gainC (d - 1) l))).2 := E2
      have hg37 := CmpP hS t46 t29 (qadd (qmul (dayC d l).2.1 (gainC (d - 1) (l - 1))) (qmul (qsub (1, 1) (dayC d l).2.1) (gainC (d - 1) l))) (gainC d l) H59 gr59 lo59 (pv_staying.keep kC48_59) (pv_q.keep kC37_59) ((oa.mul oh).add ((o1.sub oa).mul okk)).1 oq.1
      obtain ⟨H60, kk60, RR60⟩ := hg37
      rw [sgn3_same e_staying] at RR60
      have ff60 := RR60.bx
      have kB60 := kB59.trans kk60
      have k0_60 := k0_22.trans kB60
      have gr60 := k0_60.grp hg
      have lo60 := kk60.low lo59
      have kC53_60 := (((((kk54.trans kk55).trans kk56).trans kk58).trans kk59).trans kk60)
      have ld_looked60 := own_ldQ (own_looked.keep kC53_60) (pv_looked.keep kC53_60)
      have kC37_60 := (kC37_59.trans kk60)
      have ld_q60 := own_ldQ (own_q.keep kC37_60) (pv_q.keep kC37_60)
      have e_looked : (qsub (qmul (qsub (1, 1) (dayC d l).2.2) (gainC (d - 1) (l - 1))) (dayC d l).2.2).1 * (gainC d l).2 = (gainC d l).1 * (qsub (qmul (qsub (1, 1) (dayC d l).2.2) (gainC (d - 1) (l - 1))) (dayC d l).2.2).2 := E3
      have hg38 := CmpP hS t51 t29 (qsub (qmul (qsub (1, 1) (dayC d l).2.2) (gainC (d - 1) (l - 1))) (dayC d l).2.2) (gainC d l) H60 gr60 lo60 (pv_looked.keep kC53_60) (pv_q.keep kC37_60) (((o1.sub ob).mul oh).sub ob).1 oq.1
      obtain ⟨H61, kk61, RR61⟩ := hg38
      rw [sgn3_same e_looked] at RR61
      have ff61 := RR61.bx
      have kB61 := kB60.trans kk61
      have k0_61 := k0_22.trans kB61
      have gr61 := k0_61.grp hg
      have lo61 := kk61.low lo60
      have kC58_61 := ((kk59.trans kk60).trans kk61)
      have ld_missed61 := own_ldQ (own_missed.keep kC58_61) (pv_missed.keep kC58_61)
      have kC37_61 := (kC37_60.trans kk61)
      have ld_q61 := own_ldQ (own_q.keep kC37_61) (pv_q.keep kC37_61)
      have e_missed : (qadd (qmul (qsub (1, 1) (dayC d l).2.2) (gainC (d - 1) l)) (dayC d l).2.2).1 * (gainC d l).2 = (gainC d l).1 * (qadd (qmul (qsub (1, 1) (dayC d l).2.2) (gainC (d - 1) l)) (dayC d l).2.2).2 := E4
      have hg39 := CmpP hS t56 t29 (qadd (qmul (qsub (1, 1) (dayC d l).2.2) (gainC (d - 1) l)) (dayC d l).2.2) (gainC d l) H61 gr61 lo61 (pv_missed.keep kC58_61) (pv_q.keep kC37_61) (((o1.sub ob).mul okk).add ob).1 oq.1
      obtain ⟨H62, kk62, RR62⟩ := hg39
      rw [sgn3_same e_missed] at RR62
      have ff62 := RR62.bx
      have kB62 := kB61.trans kk62
      have k0_62 := k0_22.trans kB62
      have gr62 := k0_62.grp hg
      have lo62 := kk62.low lo61
      clear RR62 RR61 RR60 RR59
      have haF := knownAt hS hO k0_62
      clear e_going e_staying e_looked e_missed R17 R20 i1 i2 i3 i4 j1 j2 j3 j4 E1 E2 E3 E4 X0 Y0 oh okk owX owY F1 F2 F3 F0 Fa Fb oq oa ob o1 o2 o0 owS qS owc qc slc bP bL bG bV b1 c1 os hs hle hl0 hld cl k1622 k1922
      clear own_look own_goes own_v own_x own_y own_one own_a own_b own_q own_h own_k own_going own_staying own_looked own_missed pv_one pv_a pv_b pv_q pv_h pv_k pv_going pv_staying pv_looked pv_missed
      subst hP
      repeat' (first | (with_reducible refine sxGuardB_tsp (fun h => ?_) (fun h => ?_)) | (with_reducible refine sxGuardB_fsp (fun h => ?_) (fun h => ?_)) | (with_reducible refine sxIfB_sp (fun h => ?_) (fun h => ?_)) | simp only [↓sxC_skip, ↓sxC_draw, ↓sxC_region, ↓sxC_seq, ↓bxC_cond, ↓bxC_loop, ↓sxC_block, ↓sxC_exit, ↓sxC_goto, ↓sxC_ret, ↓sxOps_nil, ↓sxOps_cons, ↓sxDraw_nil, ↓bxDraw_cons, ↓sxDL_move, ↓sxDL_assign, ↓sxDL_pick, ↓sxDL_alloc, ↓sxDL_box, ↓sxDL_build, ↓sxDL_buildSlice, ↓sxDL_insert, ↓sxDL_load, ↓sxDL_nilCheck, ↓sxDL_binOp, ↓sxDL_unOp, ↓sxDL_convert, ↓sxDL_makeInterface, ↓sxDL_makeFunc, ↓sxDL_makeMap, ↓sxDL_makeSlice, ↓sxDL_slice, ↓sxDL_fieldAddr, ↓sxDL_field, ↓sxDL_indexAddr, ↓sxDL_index, ↓sxDL_typeAssert, ↓sxDL_extract, ↓sxDL_call, ↓sxDL_lookup, ↓sxDL_mapUpdate, ↓sxDL_range, ↓sxDL_next, ↓sxDL_entry, ↓sxDL_mapEntry, ↓sxDL_entryStore, ↓sxD_same, ↓sxStep_none, ↓bxStep_some, ↓bxOp_move, ↓bxOp_assign, ↓bxOp_pick, ↓bxOp_alloc, ↓bxOp_box, ↓bxOp_build, ↓bxOp_buildSlice, ↓bxOp_load, ↓bxOp_store, ↓bxOp_nilCheck, ↓bxOp_bin, ↓bxOp_un, ↓bxOp_makeI, ↓bxOp_makeFunc, ↓bxOp_makeSlice, ↓bxOp_slice, ↓bxOp_fieldAddr, ↓bxOp_field, ↓bxOp_indexAddr, ↓bxOp_index, ↓bxOp_assert, ↓bxOp_extract, ↓bxOp_value, ↓bxOp_len, ↓bxOp_cap, ↓bxOp_append, ↓bxOp_copy, ↓bxOp_clear, ↓bxOp_max, ↓bxOp_min, ↓bxOp_convert, ↓sxPut_none, ↓bxPut, ↓seqQ_normal, ↓seqQ_exit, ↓seqQ_ret, ↓seqQ_goto, ↓blockQ_normal, ↓blockQ_ret, ↓blockQ_goto, ↓blockQ_exit, ↓loopQ_normal, ↓loopQ_exit, ↓loopQ_ret, ↓loopQ_goto, ↓resQ_normal, ↓resQ_ret, ↓sxRes_nil, ↓sxRes_tmp, ↓bxRes_cell, ↓upd_apply, ↓ev_tmp, ↓ev_const, ↓ev_global, ↓ev_func, ↓dstAt, ↓gval_some, sxOptB_some, sxOptB_ite, mm_max, mm_min, binP_shl, binP_shr, binP_int, intBin, una_not_dec, una_nt, una_nf, una_neg, aPick_true, aPick_false, sxCallVB_fn, sxCallVB_yield, sxGuardB_u, sxGuardB_tt, sxGuardB_tf, sxGuardB_ft, sxGuardB_ff, sxIfB_t, sxIfB_f, packRes_one, packRes_two, List.map_cons, List.map_nil, List.nil_append, List.cons_append, List.append_nil, ↓reduceIte, Nat.reduceEqDiff, Nat.reduceLT, dec_T, dec_F, false_imp, true_and, and_true, true_implies, implies_true, false_and, and_false, true_or, or_true, false_or, or_false, and_self, or_self, read_relow, size_relow, low_relow, relow_relow, aLoad_relow, Nat.add_zero, Nat.mul_one, one1, Option.bind_some, ne_eq, Int.natCast_nonneg, Int.toNat_natCast, not_true_eq_false, not_false_eq_true, Option.map_some, Option.map_none, *, argF, ex20, ex21, ex30, ex31, ex32, alR, alQ, ldRt, ldI, faR0, faR1, bdR, lenRs, cells2, Nat.zero_add] | (with_reducible refine sxDL_barE (by assumption) (by decide +kernel) ?_) | (with_reducible refine sxDL_bar (by decide +kernel) ?_) | (with_reducible refine sxD_bar (by decide +kernel) ?_))
  · have hlt : j < (planC d l).length := by omega
    rw [dropAt hlt] at hs
    have hob5 := sumOkL_cons hs
    obtain ⟨hin, hx, hs'⟩ := hob5
    have hob6 := inSum_ok hin
    obtain ⟨os, -⟩ := hob6
    have hc : (j : Int) < ((planC d l).length : Int) := by omega
    have hob7 := SlR_at slc hlt
    obtain ⟨ixj, rj2, rj0, rj1⟩ := hob7
    have hobx : ∃ x, (planC d l).getD j default = x := ⟨_, rfl⟩
    obtain ⟨x, hxe⟩ := hobx
    rw [hxe] at hx hs' rj2 rj0 rj1
    clear hxe hs
    have ox := okF_plan hx
    have hx1 : ¬ x.2 < 1 := by omega
    have hx2 : ¬ x.1 < 0 := by omega
    have hob8 := drawnQ lc (FromP hS x (Hc.relow Hc.size) (rc.grp gc) (Nat.le_refl _) ox)
    obtain ⟨v16, H16', H16, k16, l16, f16, d16, q16⟩ := hob8
    have r16 := Keep.relowS H16
    have hadd := AddP hS sv v16 s x (H16.relow H16.size) (r16.grp (k16.grp gc)) (Nat.le_refl _) ((qc.keep k16).keep r16) (q16.keep r16) os ox (by decide) (by decide)
    have hob9 := drawnQ l16 (hadd.rt (os.add ox).1)
    obtain ⟨v17, H17', H17, k17, l17, f17, d17, q17⟩ := hob9
    have kc17 := k16.trans k17
    have hob10 := storeQD (kc.trans kc17) (Nat.le_refl _) l17 (owc.keep kc17) qc.shape.2 q17
    obtain ⟨H18', H18, p18, y18, k18, z18, l18, ow18, qq18, -⟩ := hob10
    have q18 := qq18 _ _ _ q17
    have w5 : IntKind.i64.wrap ((j : Int) + 1) = ((j + 1 : Nat) : Int) := by rw [IntWalk.i64_in _ (by omega)]; omega
    clear F1 F2 F3 F0 Fa Fb oq oa ob o1 o2 o0 owS qS owc qc slc bP bL bG bV b1 c1 os ox hin hx hadd qq18 q16 q17 z18
    subst hP
    repeat' (first | (with_reducible refine sxGuardB_tsp (fun h => ?_) (fun h => ?_)) | (with_reducible refine sxGuardB_fsp (fun h => ?_) (fun h => ?_)) | (with_reducible refine sxIfB_sp (fun h => ?_) (fun h => ?_)) | simp only [↓sxC_skip, ↓sxC_draw, ↓sxC_region, ↓sxC_seq, ↓bxC_cond, ↓bxC_loop, ↓sxC_block, ↓sxC_exit, ↓sxC_goto, ↓sxC_ret, ↓sxOps_nil, ↓sxOps_cons, ↓sxDraw_nil, ↓bxDraw_cons, ↓sxDL_move, ↓sxDL_assign, ↓sxDL_pick, ↓sxDL_alloc, ↓sxDL_box, ↓sxDL_build, ↓sxDL_buildSlice, ↓sxDL_insert, ↓sxDL_load, ↓sxDL_nilCheck, ↓sxDL_binOp, ↓sxDL_unOp, ↓sxDL_convert, ↓sxDL_makeInterface, ↓sxDL_makeFunc, ↓sxDL_makeMap, ↓sxDL_makeSlice, ↓sxDL_slice, ↓sxDL_fieldAddr, ↓sxDL_field, ↓sxDL_indexAddr, ↓sxDL_index, ↓sxDL_typeAssert, ↓sxDL_extract, ↓sxDL_call, ↓sxDL_lookup, ↓sxDL_mapUpdate, ↓sxDL_range, ↓sxDL_next, ↓sxDL_entry, ↓sxDL_mapEntry, ↓sxDL_entryStore, ↓sxD_same, ↓sxStep_none, ↓bxStep_some, ↓bxOp_move, ↓bxOp_assign, ↓bxOp_pick, ↓bxOp_alloc, ↓bxOp_box, ↓bxOp_build, ↓bxOp_buildSlice, ↓bxOp_load, ↓bxOp_store, ↓bxOp_nilCheck, ↓bxOp_bin, ↓bxOp_un, ↓bxOp_makeI, ↓bxOp_makeFunc, ↓bxOp_makeSlice, ↓bxOp_slice, ↓bxOp_fieldAddr, ↓bxOp_field, ↓bxOp_indexAddr, ↓bxOp_index, ↓bxOp_assert, ↓bxOp_extract, ↓bxOp_value, ↓bxOp_len, ↓bxOp_cap, ↓bxOp_append, ↓bxOp_copy, ↓bxOp_clear, ↓bxOp_max, ↓bxOp_min, ↓bxOp_convert, ↓sxPut_none, ↓bxPut, ↓seqQ_normal, ↓seqQ_exit, ↓seqQ_ret, ↓seqQ_goto, ↓blockQ_normal, ↓blockQ_ret, ↓blockQ_goto, ↓blockQ_exit, ↓loopQ_normal, ↓loopQ_exit, ↓loopQ_ret, ↓loopQ_goto, ↓resQ_normal, ↓resQ_ret, ↓sxRes_nil, ↓sxRes_tmp, ↓bxRes_cell, ↓upd_apply, ↓ev_tmp, ↓ev_const, ↓ev_global, ↓ev_func, ↓dstAt, ↓gval_some, sxOptB_some, sxOptB_ite, mm_max, mm_min, binP_shl, binP_shr, binP_int, intBin, una_not_dec, una_nt, una_nf, una_neg, aPick_true, aPick_false, sxCallVB_fn, sxCallVB_yield, sxGuardB_u, sxGuardB_tt, sxGuardB_tf, sxGuardB_ft, sxGuardB_ff, sxIfB_t, sxIfB_f, packRes_one, packRes_two, List.map_cons, List.map_nil, List.nil_append, List.cons_append, List.append_nil, ↓reduceIte, Nat.reduceEqDiff, Nat.reduceLT, dec_T, dec_F, false_imp, true_and, and_true, true_implies, implies_true, false_and, and_false, true_or, or_true, false_or, or_false, and_self, or_self, read_relow, size_relow, low_relow, relow_relow, aLoad_relow, Nat.add_zero, Nat.mul_one, one1, Option.bind_some, ne_eq, Int.natCast_nonneg, Int.toNat_natCast, not_true_eq_false, not_false_eq_true, Option.map_some, Option.map_none, *, ldRt, ldI, faR0, faR1, lenRs, cells2, Nat.zero_add, Nat.add_zero] | (with_reducible refine sxDL_barE (by assumption) (by decide +kernel) ?_) | (with_reducible refine sxDL_bar (by decide +kernel) ?_) | (with_reducible refine sxD_bar (by decide +kernel) ?_))
    exact ⟨_, by omega, j + 1, sumStep s x, v17, rfl, by omega, hs', ow18, q18, rfl⟩
end Go.Proofs.YtnbhjbelgmkpeaaDoor
