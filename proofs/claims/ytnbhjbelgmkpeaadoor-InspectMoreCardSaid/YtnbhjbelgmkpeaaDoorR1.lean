/- The reference's gains, on the canonical machine. -/
import Derived.Test.YtnbhjbelgmkpeaaDoorD1
import Derived.Test.YtnbhjbelgmkpeaaDoorBM
import Derived.Test.YtnbhjbelgmkpeaaDoorP1
set_option linter.unusedVariables false
set_option linter.unusedSimpArgs false
set_option linter.unusedSectionVars false

namespace Go.Proofs.YtnbhjbelgmkpeaaDoor
open Go Go.AM
set_option maxRecDepth 10000
set_option linter.unusedSimpArgs false

theorem QOut.as {S : AM.Sys} {f : FuncId} {args : List Value} {H : Heap} {n d n2 d2 : Int} (h : QOut S f args H n d) (hd : 0 < d) (he : n * d2 = n2 * d) : QOut S f args H n2 d2 := by
  obtain ⟨H', v, h1, h2, h3, h4⟩ := h
  exact ⟨H', v, h1, h2, h3.as hd he, h4⟩
theorem big20 : (10000 : Int) ^ 20 = 100000000000000000000000000000000000000000000000000000000000000000000000000000000 := by decide
theorem mixG (X D F E : Int) : (X * (1 * D)) * (2 * D + F - E) = X * (D * (2 * D + (F - E) * 1)) := by
  rw [Int.one_mul, Int.mul_one, Int.mul_assoc, show 2 * D + F - E = 2 * D + (F - E) by omega]
theorem ratC (n d : Int) (hd : 0 < d) : n * (rat n d).2 = (rat n d).1 * d := (rat_facts hd).2.2.1.symm
/-- Two steps: to other terms, and to lowest ones. -/
theorem crossR {a b n d : Int} (hb : 0 < b) (hd : 0 < d) (h : a * d = n * b) : a * (rat n d).2 = (rat n d).1 * b := by
  have h1 := ratC n d hd
  generalize (rat n d).1 = p at *
  generalize (rat n d).2 = q at *
  have h2 : d * (a * q) = d * (p * b) := by
    calc d * (a * q) = (a * d) * q := by ac_rfl
      _ = (n * b) * q := by rw [h]
      _ = (n * q) * b := by ac_rfl
      _ = (p * d) * b := by rw [h1]
      _ = d * (p * b) := by ac_rfl
  exact Int.eq_of_mul_eq_mul_left (by omega) h2
/-- The bounds of what two gains give. -/
theorem gain_bounds {d l : Nat} (hd : d + 1 ≤ 14) (hl : l + 1 ≤ 14) (hdl : l < d) : ∃ D F E : Int, (gainC d l).2 * (gainC d (l + 1)).2 = D ∧ (gainC d l).1 * (gainC d (l + 1)).2 = F ∧ (gainC d (l + 1)).1 * (gainC d l).2 = E ∧ 1 ≤ D ∧ D ≤ 1073741824 ∧ 0 ≤ E ∧ E ≤ F ∧ F ≤ D ∧
    dayC (d + 1) (l + 1) = (rat (F + E) (2 * D + F - E), rat (D - E) (2 * D + F - E), rat (F - E) (2 * D + F - E)) := by
  have hf := (dayC_facts (d := d + 1) (l := l + 1) (by omega) (by omega)).2.2.2.2 (by omega) (by omega)
  obtain ⟨g1, g2, -⟩ := dayC_facts (d := d) (l := l) (by omega) (by omega)
  obtain ⟨h1, h2, -⟩ := dayC_facts (d := d) (l := l + 1) (by omega) (by omega)
  obtain ⟨i1, i2, i3, i4, -⟩ := isPart_iff g1
  obtain ⟨j1, j2, j3, j4, -⟩ := isPart_iff h1
  refine ⟨_, _, _, rfl, rfl, rfl, Int.mul_le_mul i3 j3 (by omega) (by omega), Int.mul_le_mul (c := (32768 : Int)) (d := (32768 : Int)) i4 j4 (by omega) (by omega), Int.mul_nonneg j1 (by omega), hf, Int.mul_le_mul_of_nonneg_right i2 (by omega), ?_⟩
  unfold dayC
  rw [if_neg (by omega), if_neg (by omega)]
  rfl
theorem q0 (H : Heap) : H.newExact [.bool false, .slice none 0 0, .bool false, .slice none 0 0] 52 = H.newExact [.bool false, .slice none 0 0, .bool false, .slice none 0 0] 52 := rfl
/-- A new row for a fraction. -/
theorem allocQ (H : Heap) : ∃ H1, H.newExact [.bool false, .slice none 0 0, .bool false, .slice none 0 0] 52 = H1 ∧ Keep H H1 ∧ H1.size = H.size + 1 ∧ Own H1 H.size 52 [.bool false, .slice none 0 0, .bool false, .slice none 0 0] := by
  obtain ⟨Ha, e1, k1, _, z1, _⟩ := box1 H [.bool false, .slice none 0 0, .bool false, .slice none 0 0] 52
  exact ⟨Ha, e1, k1, z1, e1 ▸ Own.new H _ _⟩

variable {S : AM.Sys} (hS : Only S 10)
include hS

/-- The end of a function that returns a fraction which a call gives. -/
theorem endQ0 {f : FuncId} {args : List Value} {H0 H : Heap} {r : Nat} (hk : Keep H0 H) (hr : H0.size ≤ r) (hg0 : Grp H0) (ow : Own H r 52 [.bool false, .slice none 0 0, .bool false, .slice none 0 0]) {n d : Int} (h : QOut S f args H n d) :
    ∃ v H6 H8, (∀ (K : Value → Heap → Prop) (b : Blk K), sxCallB Tryd.prog S (.fn f) args H K b = K v H6) ∧
      aStore Tryd.prog H6 52 (.pointer (some ⟨r, 0, none⟩)) v = some H8 ∧ aLoad Tryd.prog H8 52 (.pointer (some ⟨r, 0, none⟩)) = some v ∧ Keep H0 H8 ∧ Grp H8 ∧ QV H8 v n d := by
  obtain ⟨H6, v, hK6, hg6, hb, hR⟩ := h
  obtain ⟨H8, ps, hld, hq, hkp⟩ := retQV (ow.keep hK6) hb
  have hK8 := hkp H0 (hk.trans hK6) hr
  exact ⟨v, H6, H8, hR.bx, ps, hld, hK8, hK8.grp hg0, hq⟩

theorem rgain_runs : ∀ (d l : Nat) (H : Heap), d ≤ 14 → l ≤ 14 → Grp H → H.low ≤ H.size → QOut S 48 [.int .i64 d, .int .i64 l] H (gainC d l).1 (gainC d l).2
  | d, l, H, hd, hl, hg, hL => by
    suffices h : WCall Tryd.prog S (.fn 48) [.int .i64 d, .int .i64 l] H (fun v H' => Keep H H' ∧ Grp H' ∧ QV H' v (gainC d l).1 (gainC d l).2) by
      obtain ⟨v, H', hr, h1, h2, h3⟩ := h; exact ⟨H', v, h1, h2, h3, hr⟩
    obtain ⟨Ha, ea, ka, za, owa⟩ := allocQ H
    have ga := ka.grp hg
    have la := ka.low hL
    by_cases c1 : d ≤ l
    · have hv : gainC d l = (0, 1) := by unfold gainC; rw [if_pos c1]
      rw [hv]
      obtain ⟨v, H6, H8, f1, p8, l8, k8, g8, q8⟩ := endQ0 hS ka (Nat.le_refl _) hg owa (Frac_any hS 0 1 Ha ga la (by omega) (by omega) (by omega))
      have c2 : (d : Int) ≤ l := by omega
      clear owa c1 hv hd hl za
      refine call_of Tryd.func48 rfl (Nat.le_of_ble_eq_true rfl) (hS.no rfl _ _) ?_
      rw [Tryd.ntmps48, Tryd.results48]
      repeat' (first | (with_reducible refine sxGuardB_tsp (fun h => ?_) (fun h => ?_)) | (with_reducible refine sxGuardB_fsp (fun h => ?_) (fun h => ?_)) | (with_reducible refine sxIfB_sp (fun h => ?_) (fun h => ?_)) | simp only [↓sxC_skip, ↓sxC_draw, ↓sxC_region, ↓sxC_seq, ↓bxC_cond, ↓bxC_loop, ↓sxC_block, ↓sxC_exit, ↓sxC_goto, ↓sxC_ret, ↓sxOps_nil, ↓sxOps_cons, ↓sxDraw_nil, ↓bxDraw_cons, ↓sxDL_move, ↓sxDL_assign, ↓sxDL_pick, ↓sxDL_alloc, ↓sxDL_box, ↓sxDL_build, ↓sxDL_buildSlice, ↓sxDL_insert, ↓sxDL_load, ↓sxDL_nilCheck, ↓sxDL_binOp, ↓sxDL_unOp, ↓sxDL_convert, ↓sxDL_makeInterface, ↓sxDL_makeFunc, ↓sxDL_makeMap, ↓sxDL_makeSlice, ↓sxDL_slice, ↓sxDL_fieldAddr, ↓sxDL_field, ↓sxDL_indexAddr, ↓sxDL_index, ↓sxDL_typeAssert, ↓sxDL_extract, ↓sxDL_call, ↓sxDL_lookup, ↓sxDL_mapUpdate, ↓sxDL_range, ↓sxDL_next, ↓sxDL_entry, ↓sxDL_mapEntry, ↓sxDL_entryStore, ↓sxD_same, ↓sxStep_none, ↓bxStep_some, ↓bxOp_move, ↓bxOp_assign, ↓bxOp_pick, ↓bxOp_alloc, ↓bxOp_box, ↓bxOp_build, ↓bxOp_buildSlice, ↓bxOp_load, ↓bxOp_store, ↓bxOp_nilCheck, ↓bxOp_bin, ↓bxOp_un, ↓bxOp_makeI, ↓bxOp_makeFunc, ↓bxOp_makeSlice, ↓bxOp_slice, ↓bxOp_fieldAddr, ↓bxOp_field, ↓bxOp_indexAddr, ↓bxOp_index, ↓bxOp_assert, ↓bxOp_extract, ↓bxOp_value, ↓bxOp_len, ↓bxOp_cap, ↓bxOp_append, ↓bxOp_copy, ↓bxOp_clear, ↓bxOp_max, ↓bxOp_min, ↓bxOp_convert, ↓sxPut_none, ↓bxPut, ↓seqQ_normal, ↓seqQ_exit, ↓seqQ_ret, ↓seqQ_goto, ↓blockQ_normal, ↓blockQ_ret, ↓blockQ_goto, ↓blockQ_exit, ↓loopQ_normal, ↓loopQ_exit, ↓loopQ_ret, ↓loopQ_goto, ↓resQ_normal, ↓resQ_ret, ↓sxRes_nil, ↓sxRes_tmp, ↓bxRes_cell, ↓upd_apply, ↓ev_tmp, ↓ev_const, ↓ev_global, ↓ev_func, ↓dstAt, ↓gval_some, sxOptB_some, sxOptB_ite, mm_max, mm_min, binP_shl, binP_shr, binP_int, intBin, una_not_dec, una_nt, una_nf, una_neg, aPick_true, aPick_false, sxCallVB_fn, sxCallVB_yield, sxGuardB_u, sxGuardB_tt, sxGuardB_tf, sxGuardB_ft, sxGuardB_ff, sxIfB_t, sxIfB_f, packRes_one, packRes_two, List.map_cons, List.map_nil, List.nil_append, List.cons_append, List.append_nil, ↓reduceIte, Nat.reduceEqDiff, Nat.reduceLT, dec_T, dec_F, false_imp, true_and, and_true, true_implies, implies_true, false_and, and_false, true_or, or_true, false_or, or_false, and_self, or_self, read_relow, size_relow, low_relow, relow_relow, aLoad_relow, Nat.add_zero, Nat.mul_one, one1, Option.bind_some, ne_eq, Int.natCast_nonneg, Int.toNat_natCast, not_true_eq_false, not_false_eq_true, Option.map_some, Option.map_none, *, argF, List.getD_cons_zero, List.getD_cons_succ, alQ, Nat.zero_add] | (with_reducible refine sxDL_barE (by assumption) (by decide +kernel) ?_) | (with_reducible refine sxDL_bar (by decide +kernel) ?_) | (with_reducible refine sxD_bar (by decide +kernel) ?_))
    · by_cases c2 : l = 0
      · subst c2
        have hv : gainC d 0 = (1, 1) := by
          have h := (dayC_facts hd (Nat.zero_le 14)).2.1
          rw [← h]
          unfold dayC; rw [if_neg c1, if_pos rfl]
        rw [hv]
        obtain ⟨v, H6, H8, f1, p8, l8, k8, g8, q8⟩ := endQ0 hS ka (Nat.le_refl _) hg owa (Frac_any hS 1 1 Ha ga la (by omega) (by omega) (by omega))
        have c3 : ¬ (d : Int) ≤ 0 := by omega
        have c5 : ((0 : Nat) : Int) = 0 := rfl
        clear owa c1 hv hd hl za
        refine call_of Tryd.func48 rfl (Nat.le_of_ble_eq_true rfl) (hS.no rfl _ _) ?_
        rw [Tryd.ntmps48, Tryd.results48]
        repeat' (first | (with_reducible refine sxGuardB_tsp (fun h => ?_) (fun h => ?_)) | (with_reducible refine sxGuardB_fsp (fun h => ?_) (fun h => ?_)) | (with_reducible refine sxIfB_sp (fun h => ?_) (fun h => ?_)) | simp only [↓sxC_skip, ↓sxC_draw, ↓sxC_region, ↓sxC_seq, ↓bxC_cond, ↓bxC_loop, ↓sxC_block, ↓sxC_exit, ↓sxC_goto, ↓sxC_ret, ↓sxOps_nil, ↓sxOps_cons, ↓sxDraw_nil, ↓bxDraw_cons, ↓sxDL_move, ↓sxDL_assign, ↓sxDL_pick, ↓sxDL_alloc, ↓sxDL_box, ↓sxDL_build, ↓sxDL_buildSlice, ↓sxDL_insert, ↓sxDL_load, ↓sxDL_nilCheck, ↓sxDL_binOp, ↓sxDL_unOp, ↓sxDL_convert, ↓sxDL_makeInterface, ↓sxDL_makeFunc, ↓sxDL_makeMap, ↓sxDL_makeSlice, ↓sxDL_slice, ↓sxDL_fieldAddr, ↓sxDL_field, ↓sxDL_indexAddr, ↓sxDL_index, ↓sxDL_typeAssert, ↓sxDL_extract, ↓sxDL_call, ↓sxDL_lookup, ↓sxDL_mapUpdate, ↓sxDL_range, ↓sxDL_next, ↓sxDL_entry, ↓sxDL_mapEntry, ↓sxDL_entryStore, ↓sxD_same, ↓sxStep_none, ↓bxStep_some, ↓bxOp_move, ↓bxOp_assign, ↓bxOp_pick, ↓bxOp_alloc, ↓bxOp_box, ↓bxOp_build, ↓bxOp_buildSlice, ↓bxOp_load, ↓bxOp_store, ↓bxOp_nilCheck, ↓bxOp_bin, ↓bxOp_un, ↓bxOp_makeI, ↓bxOp_makeFunc, ↓bxOp_makeSlice, ↓bxOp_slice, ↓bxOp_fieldAddr, ↓bxOp_field, ↓bxOp_indexAddr, ↓bxOp_index, ↓bxOp_assert, ↓bxOp_extract, ↓bxOp_value, ↓bxOp_len, ↓bxOp_cap, ↓bxOp_append, ↓bxOp_copy, ↓bxOp_clear, ↓bxOp_max, ↓bxOp_min, ↓bxOp_convert, ↓sxPut_none, ↓bxPut, ↓seqQ_normal, ↓seqQ_exit, ↓seqQ_ret, ↓seqQ_goto, ↓blockQ_normal, ↓blockQ_ret, ↓blockQ_goto, ↓blockQ_exit, ↓loopQ_normal, ↓loopQ_exit, ↓loopQ_ret, ↓loopQ_goto, ↓resQ_normal, ↓resQ_ret, ↓sxRes_nil, ↓sxRes_tmp, ↓bxRes_cell, ↓upd_apply, ↓ev_tmp, ↓ev_const, ↓ev_global, ↓ev_func, ↓dstAt, ↓gval_some, sxOptB_some, sxOptB_ite, mm_max, mm_min, binP_shl, binP_shr, binP_int, intBin, una_not_dec, una_nt, una_nf, una_neg, aPick_true, aPick_false, sxCallVB_fn, sxCallVB_yield, sxGuardB_u, sxGuardB_tt, sxGuardB_tf, sxGuardB_ft, sxGuardB_ff, sxIfB_t, sxIfB_f, packRes_one, packRes_two, List.map_cons, List.map_nil, List.nil_append, List.cons_append, List.append_nil, ↓reduceIte, Nat.reduceEqDiff, Nat.reduceLT, dec_T, dec_F, false_imp, true_and, and_true, true_implies, implies_true, false_and, and_false, true_or, or_true, false_or, or_false, and_self, or_self, read_relow, size_relow, low_relow, relow_relow, aLoad_relow, Nat.add_zero, Nat.mul_one, one1, Option.bind_some, ne_eq, Int.natCast_nonneg, Int.toNat_natCast, not_true_eq_false, not_false_eq_true, Option.map_some, Option.map_none, *, argF, List.getD_cons_zero, List.getD_cons_succ, alQ, Nat.zero_add] | (with_reducible refine sxDL_barE (by assumption) (by decide +kernel) ?_) | (with_reducible refine sxDL_bar (by decide +kernel) ?_) | (with_reducible refine sxD_bar (by decide +kernel) ?_))
      · obtain ⟨d, rfl⟩ : ∃ d', d = d' + 1 := ⟨d - 1, by omega⟩
        obtain ⟨l, rfl⟩ : ∃ l', l = l' + 1 := ⟨l - 1, by omega⟩
        obtain ⟨g1, -⟩ := dayC_facts (d := d) (l := l) (by omega) (by omega)
        obtain ⟨h1, -⟩ := dayC_facts (d := d) (l := l + 1) (by omega) (by omega)
        obtain ⟨i1, i2, i3, i4, -⟩ := isPart_iff g1
        obtain ⟨j1, j2, j3, j4, -⟩ := isPart_iff h1
        obtain ⟨D, F, E, eD, eF, eE, b1, b2, b3, b4, b5, hday⟩ := gain_bounds hd hl (by omega)
        rw [← (dayC_facts hd hl).2.1, hday]
        obtain ⟨H1, v1, k1, gr1, q1, R1⟩ := rgain_runs d l Ha (by omega) (by omega) ga la
        obtain ⟨H2, v2, k2, gr2, q2, R2⟩ := rgain_runs d (l + 1) H1 (by omega) (by omega) gr1 (k1.low la)
        obtain ⟨H3, e3, k3, z3, ow3⟩ := allocQ H2
        obtain ⟨H4, e4, k4, z4, ow4⟩ := allocQ H3
        have k24 := k3.trans k4
        obtain ⟨H5, p5, z5, ow5, qq5, o5, kk5⟩ := storeQ (ow3.keep k4) QShape.empty ((q1.keep k2).keep k24)
        have ka2 := (ka.trans k1).trans k2
        have k05 := kk5 H (ka2.trans k24) ka2.size
        obtain ⟨H6, p6, z6, ow6, qq6, o6, kk6⟩ := storeQ (o5 _ _ _ (by omega) ow4) QShape.empty (qq5 _ _ _ (q2.keep k24))
        have k06 := kk6 H k05 (Nat.le_trans ka2.size k3.size)
        have sa2 : H.size < H2.size := Nat.lt_of_lt_of_le (by omega) (k1.trans k2).size
        have owa6 := o6 _ _ _ (by omega) (o5 _ _ _ (by omega) (((owa.keep k1).keep k2).keep k24))
        have ow56 := o6 _ _ _ (by omega) ow5
        have q16 := qq6 _ _ _ (qq5 _ _ _ ((q1.keep k2).keep k24))
        have q26 := qq6 _ _ _ (qq5 _ _ _ (q2.keep k24))
        have l61 := own_ldQ ow56 q16
        have l62 := own_ldQ ow6 q26
        have l6 := k06.low hL
        have g6 := k06.grp hg
        have hb := big20
        have r6 := Keep.relowS H6
        obtain ⟨w1, H7', H7, k7, l7, f7, d7, t7⟩ := drawnQ l6 (Add_all hS v1 v2 _ _ _ _ (H6.relow H6.size) (r6.grp g6) (Nat.le_refl _) (q16.keep r6) (q26.keep r6) (by omega) (by omega) (by rw [hb]; omega) (by rw [hb]; omega) (by rw [hb]; omega) (by rw [hb]; omega))
        rw [eF, eE, eD] at t7
        have g7 := k7.grp g6
        have r7 := Keep.relowS H7
        obtain ⟨w2, H8', H8, k8, l8, f8, d8, t8⟩ := drawnQ l7 (Frac_any hS 2 1 (H7.relow H7.size) (r7.grp g7) (Nat.le_refl _) (by omega) (by omega) (by omega))
        have g8 := k8.grp g7
        have k68 := k7.trans k8
        have r8 := Keep.relowS H8
        have l81 := own_ldQ (ow56.keep k68) (q16.keep k68)
        have l82 := own_ldQ (ow6.keep k68) (q26.keep k68)
        obtain ⟨w3, H9', H9, k9, l9, f9, d9, t9⟩ := drawnQ l8 (Sub_all hS v1 v2 _ _ _ _ (H8.relow H8.size) (r8.grp g8) (Nat.le_refl _) ((q16.keep k68).keep r8) ((q26.keep k68).keep r8) (by omega) (by omega) (by rw [hb]; omega) (by rw [hb]; omega) (by rw [hb]; omega) (by rw [hb]; omega))
        rw [eF, eE, eD] at t9
        have g9 := k9.grp g8
        have r9 := Keep.relowS H9
        obtain ⟨w4, H10', H10, k10, l10, f10, d10, t10⟩ := drawnQ l9 (Add_all hS w2 w3 _ _ _ _ (H9.relow H9.size) (r9.grp g9) (Nat.le_refl _) ((t8.keep k9).keep r9) (t9.keep r9) (by omega) (by omega) (by rw [hb]; omega) (by rw [hb]; omega) (by rw [hb]; omega) (by rw [hb]; omega))
        have g10 := k10.grp g9
        have r10 := Keep.relowS H10
        have k710 := (k8.trans k9).trans k10
        have hdiv := Div_all hS w1 w4 _ _ _ _ (H10.relow H10.size) (r10.grp g10) (Nat.le_refl _) ((t7.keep k710).keep r10) (t10.keep r10) (by omega) (by omega) (by rw [hb]; omega) (by rw [hb]; omega) (by rw [hb]; omega) (by rw [hb]; omega) (by omega)
        have hdiv2 := hdiv.as (Int.mul_pos (by omega) (by omega)) (crossR (Int.mul_pos (by omega) (by omega)) (show 0 < 2 * D + F - E by omega) (mixG (F + E) D F E))
        obtain ⟨v9, Hm, Hn, Ho, fm, fn, ps, hld, hLn, hK9, hg9, hq9⟩ := endQ (k06.trans (k7.trans k710)) (Nat.le_refl _) l10 hg (owa6.keep (k7.trans k710)) hdiv2
        have f1 := R1.bx
        have f2 := R2.bx
        have c3 : ¬ ((d + 1 : Nat) : Int) ≤ ((l + 1 : Nat) : Int) := by omega
        have c4 : ¬ ((l + 1 : Nat) : Int) = 0 := by omega
        have y1 : IntKind.i64.wrap (((d + 1 : Nat) : Int) - 1) = (d : Int) := by rw [IntWalk.i64_in _ (by omega)]; omega
        have y2 : IntKind.i64.wrap (((l + 1 : Nat) : Int) - 1) = (l : Int) := by rw [IntWalk.i64_in _ (by omega)]; omega
        clear owa owa6 ow3 ow4 ow5 ow56 ow6 R1 R2 i1 i2 i3 i4 j1 j2 j3 j4 c1 c2 g1 h1 hd hl q1 q2 q16 q26 qq5 qq6 o5 o6 kk5 kk6 t7 t8 t9 t10 hdiv hdiv2 hday eD eF eE b1 b2 b3 b4 b5 hb z3 z4 z5 z6 za sa2
        refine call_of Tryd.func48 rfl (Nat.le_of_ble_eq_true rfl) (hS.no rfl _ _) ?_
        rw [Tryd.ntmps48, Tryd.results48]
        repeat' (first | (with_reducible refine sxGuardB_tsp (fun h => ?_) (fun h => ?_)) | (with_reducible refine sxGuardB_fsp (fun h => ?_) (fun h => ?_)) | (with_reducible refine sxIfB_sp (fun h => ?_) (fun h => ?_)) | simp only [↓sxC_skip, ↓sxC_draw, ↓sxC_region, ↓sxC_seq, ↓bxC_cond, ↓bxC_loop, ↓sxC_block, ↓sxC_exit, ↓sxC_goto, ↓sxC_ret, ↓sxOps_nil, ↓sxOps_cons, ↓sxDraw_nil, ↓bxDraw_cons, ↓sxDL_move, ↓sxDL_assign, ↓sxDL_pick, ↓sxDL_alloc, ↓sxDL_box, ↓sxDL_build, ↓sxDL_buildSlice, ↓sxDL_insert, ↓sxDL_load, ↓sxDL_nilCheck, ↓sxDL_binOp, ↓sxDL_unOp, ↓sxDL_convert, ↓sxDL_makeInterface, ↓sxDL_makeFunc, ↓sxDL_makeMap, ↓sxDL_makeSlice, ↓sxDL_slice, ↓sxDL_fieldAddr, ↓sxDL_field, ↓sxDL_indexAddr, ↓sxDL_index, ↓sxDL_typeAssert, ↓sxDL_extract, ↓sxDL_call, ↓sxDL_lookup, ↓sxDL_mapUpdate, ↓sxDL_range, ↓sxDL_next, ↓sxDL_entry, ↓sxDL_mapEntry, ↓sxDL_entryStore, ↓sxD_same, ↓sxStep_none, ↓bxStep_some, ↓bxOp_move, ↓bxOp_assign, ↓bxOp_pick, ↓bxOp_alloc, ↓bxOp_box, ↓bxOp_build, ↓bxOp_buildSlice, ↓bxOp_load, ↓bxOp_store, ↓bxOp_nilCheck, ↓bxOp_bin, ↓bxOp_un, ↓bxOp_makeI, ↓bxOp_makeFunc, ↓bxOp_makeSlice, ↓bxOp_slice, ↓bxOp_fieldAddr, ↓bxOp_field, ↓bxOp_indexAddr, ↓bxOp_index, ↓bxOp_assert, ↓bxOp_extract, ↓bxOp_value, ↓bxOp_len, ↓bxOp_cap, ↓bxOp_append, ↓bxOp_copy, ↓bxOp_clear, ↓bxOp_max, ↓bxOp_min, ↓bxOp_convert, ↓sxPut_none, ↓bxPut, ↓seqQ_normal, ↓seqQ_exit, ↓seqQ_ret, ↓seqQ_goto, ↓blockQ_normal, ↓blockQ_ret, ↓blockQ_goto, ↓blockQ_exit, ↓loopQ_normal, ↓loopQ_exit, ↓loopQ_ret, ↓loopQ_goto, ↓resQ_normal, ↓resQ_ret, ↓sxRes_nil, ↓sxRes_tmp, ↓bxRes_cell, ↓upd_apply, ↓ev_tmp, ↓ev_const, ↓ev_global, ↓ev_func, ↓dstAt, ↓gval_some, sxOptB_some, sxOptB_ite, mm_max, mm_min, binP_shl, binP_shr, binP_int, intBin, una_not_dec, una_nt, una_nf, una_neg, aPick_true, aPick_false, sxCallVB_fn, sxCallVB_yield, sxGuardB_u, sxGuardB_tt, sxGuardB_tf, sxGuardB_ft, sxGuardB_ff, sxIfB_t, sxIfB_f, packRes_one, packRes_two, List.map_cons, List.map_nil, List.nil_append, List.cons_append, List.append_nil, ↓reduceIte, Nat.reduceEqDiff, Nat.reduceLT, dec_T, dec_F, false_imp, true_and, and_true, true_implies, implies_true, false_and, and_false, true_or, or_true, false_or, or_false, and_self, or_self, read_relow, size_relow, low_relow, relow_relow, aLoad_relow, Nat.add_zero, Nat.mul_one, one1, Option.bind_some, ne_eq, Int.natCast_nonneg, Int.toNat_natCast, not_true_eq_false, not_false_eq_true, Option.map_some, Option.map_none, *, argF, List.getD_cons_zero, List.getD_cons_succ, alQ, Nat.zero_add] | (with_reducible refine sxDL_barE (by assumption) (by decide +kernel) ?_) | (with_reducible refine sxDL_bar (by decide +kernel) ?_) | (with_reducible refine sxD_bar (by decide +kernel) ?_))
end Go.Proofs.YtnbhjbelgmkpeaaDoor
