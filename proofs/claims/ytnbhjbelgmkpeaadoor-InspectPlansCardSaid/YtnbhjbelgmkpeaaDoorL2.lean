/- The law InspectMore comes to true on the canonical machine, for all arguments; the closed example is taken as known. -/
import Derived.Test.YtnbhjbelgmkpeaaDoorL1
import Derived.Test.YtnbhjbelgmkpeaaDoorR1
set_option linter.unusedVariables false
set_option linter.unusedSimpArgs false
set_option linter.unusedSectionVars false

namespace Go.Proofs.YtnbhjbelgmkpeaaDoor
open Go Go.AM
set_option maxRecDepth 10000
set_option linter.unusedSimpArgs false

theorem sgn3_le {x y : Int} (h : x ≤ y) : ¬ 0 < sgn3 x y := by unfold sgn3; split <;> (try split) <;> omega
theorem sgn3_le' {x y : Int} (h : x ≤ y) : sgn3 x y ≤ 0 := by unfold sgn3; split <;> (try split) <;> omega
theorem sgn3_ge {x y : Int} (h : y ≤ x) : ¬ sgn3 x y < 0 := by unfold sgn3; split <;> (try split) <;> omega
/-- A ratio laid into a new row. -/
theorem putR {H0 H : Heap} (hk : Keep H0 H) (x : Int × Int) : ∃ H1 H2, H.newExact [.int .i64 0, .int .i64 0] 24 = H1 ∧ aStore Tryd.prog H1 24 (.pointer (some ⟨H.size, 0, none⟩)) (.agg ⟨[.int .i64 x.1, .int .i64 x.2]⟩) = some H2 ∧ Keep H0 H2 ∧ Keep H H2 ∧ H.size < H2.size ∧
    H2.read H.size 0 2 = some [.int .i64 x.1, .int .i64 x.2] ∧ H2.read H.size 0 1 = some [.int .i64 x.1] ∧ H2.read H.size 1 1 = some [.int .i64 x.2] := by
  obtain ⟨H1, e1, k1, z1, ow1, -, -, -⟩ := box2 H 0 0 24
  obtain ⟨H2, p2, k2, z2, ow2, -⟩ := stH infR.1 k1 (Nat.le_refl _) ow1 (v := .agg ⟨[.int .i64 x.1, .int .i64 x.2]⟩) (new := [.int .i64 x.1, .int .i64 x.2]) rfl infR.2 rfl rfl
  obtain ⟨r1, r2, r3⟩ := own2 ow2
  exact ⟨H1, H2, e1, p2, hk.trans k2, k2, by omega, r1, r2, r3⟩
/-- Two ratios laid into new rows. -/
theorem putR2 {H0 H : Heap} (hk : Keep H0 H) (x y : Int × Int) : ∃ H1 H2 H3 H4, H.newExact [.int .i64 0, .int .i64 0] 24 = H1 ∧ H1.newExact [.int .i64 0, .int .i64 0] 24 = H2 ∧ aStore Tryd.prog H2 24 (.pointer (some ⟨H.size, 0, none⟩)) (.agg ⟨[.int .i64 x.1, .int .i64 x.2]⟩) = some H3 ∧
    aStore Tryd.prog H3 24 (.pointer (some ⟨H1.size, 0, none⟩)) (.agg ⟨[.int .i64 y.1, .int .i64 y.2]⟩) = some H4 ∧ Keep H0 H4 ∧ Keep H H4 ∧ H.size < H1.size ∧ H1.size < H4.size ∧
    H4.read H.size 0 2 = some [.int .i64 x.1, .int .i64 x.2] ∧ H4.read H.size 0 1 = some [.int .i64 x.1] ∧ H4.read H.size 1 1 = some [.int .i64 x.2] ∧
    H4.read H1.size 0 2 = some [.int .i64 y.1, .int .i64 y.2] ∧ H4.read H1.size 0 1 = some [.int .i64 y.1] ∧ H4.read H1.size 1 1 = some [.int .i64 y.2] := by
  obtain ⟨H1, e1, k1, z1, ow1, -, -, -⟩ := box2 H 0 0 24
  obtain ⟨H2, e2, k2, z2, ow2, -, -, -⟩ := box2 H1 0 0 24
  obtain ⟨H3, p3, k3, z3, ow3, o3⟩ := stH infR.1 (k1.trans k2) (Nat.le_refl _) (ow1.keep k2) (v := .agg ⟨[.int .i64 x.1, .int .i64 x.2]⟩) (new := [.int .i64 x.1, .int .i64 x.2]) rfl infR.2 rfl rfl
  obtain ⟨H4, p4, k4, z4, ow4, o4⟩ := stH infR.1 k3 k1.size (o3 _ _ _ (by omega) ow2) (v := .agg ⟨[.int .i64 y.1, .int .i64 y.2]⟩) (new := [.int .i64 y.1, .int .i64 y.2]) rfl infR.2 rfl rfl
  obtain ⟨r1, r2, r3⟩ := own2 (o4 _ _ _ (by omega) ow3)
  obtain ⟨r4, r5, r6⟩ := own2 ow4
  exact ⟨H1, H2, H3, H4, e1, e2, p3, p4, hk.trans k4, k4, z1, by omega, r1, r2, r3, r4, r5, r6⟩
/-- A fraction laid into a new row. -/
theorem putQ {H0 H : Heap} (hk : Keep H0 H) {v : Value} {n d : Int} (hq : QV H v n d) : ∃ H1 H2, H.newExact [.bool false, .slice none 0 0, .bool false, .slice none 0 0] 52 = H1 ∧ aStore Tryd.prog H1 52 (.pointer (some ⟨H.size, 0, none⟩)) v = some H2 ∧ Keep H0 H2 ∧ Keep H H2 ∧ H.size < H2.size ∧ Own H2 H.size 52 v.cells.toList ∧ QV H2 v n d := by
  obtain ⟨H1, e1, k1, z1, ow1⟩ := allocQ H
  obtain ⟨H2, p2, z2, ow2, qq2, o2, kk2⟩ := storeQ ow1 QShape.empty (hq.keep k1)
  exact ⟨H1, H2, e1, p2, hk.trans (kk2 H k1 (Nat.le_refl _)), kk2 H k1 (Nat.le_refl _), by omega, ow2, qq2 _ _ _ (hq.keep k1)⟩

variable {S : AM.Sys} (hS : Only S 10)
include hS

/-- THE LAW, on the canonical machine. -/
theorem more_runs (n m : Int) (d l : Nat) (H : Heap) (hg : Grp H) (hL : H.low ≤ H.size) (hd : d ≤ 13) (hl : l ≤ 13) (wd : n.tmod 14 = d) (wl : m.tmod 14 = l)
    (hO : ∀ H', Keep H H' → S.O 10 [] H') : ∃ H', Runs Tryd.prog S (.fn 7) [.int .u8 n, .int .u8 m] H (.bool true) H' := by
  suffices h : WCall Tryd.prog S (.fn 7) [.int .u8 n, .int .u8 m] H (fun v H' => v = .bool true) by
    obtain ⟨_, H', hr, rfl⟩ := h; exact ⟨H', hr⟩
  obtain ⟨F1, F2, F3⟩ := more_facts hd hl
  obtain ⟨i1, i2, i3, i4, -⟩ := isPart_iff (dayC_facts (d := d) (l := l) (by omega) (by omega)).1
  obtain ⟨j1, j2, j3, j4, -⟩ := isPart_iff (dayC_facts (d := d) (l := l + 1) (by omega) (by omega)).1
  obtain ⟨t1, t2, t3, t4, -⟩ := isPart_iff (dayC_facts (d := d + 1) (l := l) (by omega) (by omega)).1
  obtain ⟨a1, a2, a3, a4, -⟩ := isPart_iff (dayC_facts (d := d + 1) (l := l) (by omega) (by omega)).2.2.1
  obtain ⟨b1, b2, b3, b4, -⟩ := isPart_iff (dayC_facts (d := d + 1) (l := l + 1) (by omega) (by omega)).2.2.1
  obtain ⟨H1, k1, R1⟩ := pDresher_good hS d l H hL (by omega) (by omega)
  obtain ⟨H2, H3, e2, p3, k03, k13, s3, x1, x2, x3⟩ := putR k1 (gainC d l)
  obtain ⟨H4, k4, R4⟩ := pDresher_good hS d (l + 1) H3 (k03.low hL) (by omega) (by omega)
  obtain ⟨H5, H6, e5, p6, k06, k46, s6, y1, y2, y3⟩ := putR (k03.trans k4) (gainC d (l + 1))
  obtain ⟨H7, k7, R7⟩ := pDresher_good hS (d + 1) l H6 (k06.low hL) (by omega) (by omega)
  obtain ⟨H8, H9, e8, p9, k09, k79, s9, z1, z2, z3⟩ := putR (k06.trans k7) (gainC (d + 1) l)
  have k69 := k7.trans k79
  have k39 := (k4.trans k46).trans k69
  have y1' := k69.read s6 y1
  have y3' := k69.read s6 y3
  have x1' := k39.read s3 x1
  have x3' := k39.read s3 x3
  have s39 := Nat.lt_of_lt_of_le s3 k39.size
  have s69 := Nat.lt_of_lt_of_le s6 k69.size
  obtain ⟨H10, v10, k10, g10, q10, R10⟩ := FromRatio_all hS (gainC d l).1 (gainC d l).2 H9 (k09.grp hg) (k09.low hL) (by omega) (by omega) (by omega)
  obtain ⟨H11, H12, e11, p12, k012, k1012, s12, ow12, q12⟩ := putQ (k09.trans k10) q10
  have k912 := k10.trans k1012
  have l12 := k012.low hL
  have g12 := k012.grp hg
  have y1'' := k912.read s69 y1'
  have r12 := Keep.relowS H12
  obtain ⟨v13, H13', H13, k13', l13, f13, d13, q13⟩ := drawnQ l12 (FromRatio_all hS (gainC d (l + 1)).1 (gainC d (l + 1)).2 (H12.relow H12.size) (r12.grp g12) (Nat.le_refl _) (by omega) (by omega) (by omega))
  have g13 := k13'.grp g12
  have r13 := Keep.relowS H13
  have m13 := own_ldQ (ow12.keep k13') (q12.keep k13')
  obtain ⟨H14', H14, k14', l14, f14, d14⟩ := drawn l13 (Cmp_all hS v13 v10 _ _ _ _ (H13.relow H13.size) (r13.grp g13) (Nat.le_refl _) (q13.keep r13) ((q12.keep k13').keep r13) (by omega) (by omega))
  have c1 := sgn3_le F1
  have k1214 := k13'.trans k14'
  have g14 := k1214.grp g12
  have r14 := Keep.relowS H14
  have z1'' := (k912.trans k1214).read s9 z1
  obtain ⟨v15, H15', H15, k15, l15, f15, d15, q15⟩ := drawnQ l14 (FromRatio_all hS (gainC (d + 1) l).1 (gainC (d + 1) l).2 (H14.relow H14.size) (r14.grp g14) (Nat.le_refl _) (by omega) (by omega) (by omega))
  have k1215 := k1214.trans k15
  have g15 := k1215.grp g12
  have r15 := Keep.relowS H15
  have m15 := own_ldQ (ow12.keep k1215) (q12.keep k1215)
  obtain ⟨H16', H16, k16, l16, f16, d16⟩ := drawn l15 (Cmp_all hS v15 v10 _ _ _ _ (H15.relow H15.size) (r15.grp g15) (Nat.le_refl _) (q15.keep r15) ((q12.keep k1215).keep r15) (by omega) (by omega))
  have c2 := sgn3_ge F2
  have k016 := (k012.trans k1215).trans k16
  obtain ⟨H17, k17, R17⟩ := pToday_good hS (d + 1) l H16 l16 (by omega) (by omega) (by omega)
  obtain ⟨H18, H19, H20, H21, e18, e19, p20, p21, k021, k1721, s18, s21, A1, A2, A3, -, -, -⟩ := putR2 (k016.trans k17) (dayC (d + 1) l).2.1 (dayC (d + 1) l).2.2
  obtain ⟨H22, k22, R22⟩ := pToday_good hS (d + 1) (l + 1) H21 (k021.low hL) (by omega) (by omega) (by omega)
  obtain ⟨H23, H24, H25, H26, e23, e24, p25, p26, k026, k2226, s23, s26, B1, B2, B3, -, -, -⟩ := putR2 (k021.trans k22) (dayC (d + 1) (l + 1)).2.1 (dayC (d + 1) (l + 1)).2.2
  have k2126 := k22.trans k2226
  have A1' := k2126.read (Nat.lt_trans s18 s21) A1
  have A3' := k2126.read (Nat.lt_trans s18 s21) A3
  have l26 := k026.low hL
  have g26 := k026.grp hg
  have r26 := Keep.relowS H26
  obtain ⟨v27, H27', H27, k27, l27, f27, d27, q27⟩ := drawnQ l26 (FromRatio_all hS (dayC (d + 1) l).2.1.1 (dayC (d + 1) l).2.1.2 (H26.relow H26.size) (r26.grp g26) (Nat.le_refl _) (by omega) (by omega) (by omega))
  have g27 := k27.grp g26
  have r27 := Keep.relowS H27
  have B1' := k27.read (Nat.lt_trans s23 s26) B1
  obtain ⟨v28, H28', H28, k28, l28, f28, d28, q28⟩ := drawnQ l27 (FromRatio_all hS (dayC (d + 1) (l + 1)).2.1.1 (dayC (d + 1) (l + 1)).2.1.2 (H27.relow H27.size) (r27.grp g27) (Nat.le_refl _) (by omega) (by omega) (by omega))
  have g28 := k28.grp g27
  have r28 := Keep.relowS H28
  obtain ⟨H29', H29, k29, l29, f29, d29⟩ := drawn l28 (Cmp_all hS v27 v28 _ _ _ _ (H28.relow H28.size) (r28.grp g28) (Nat.le_refl _) ((q27.keep k28).keep r28) (q28.keep r28) (by omega) (by omega))
  have c3 := sgn3_le' F3
  have ha := knownAt hS hO (((((k026.trans k27).trans k28).trans k29)).trans (Keep.relowS H29))
  have w0 : ¬ ((14 : Int) = 0) := by decide
  have w1 : IntKind.i64.wrap (d : Int) = d := IntWalk.i64_in _ (by omega)
  have w2 : IntKind.i64.wrap (l : Int) = l := IntWalk.i64_in _ (by omega)
  have w3 : IntKind.i64.wrap ((d : Int) + 1) = ((d + 1 : Nat) : Int) := by rw [IntWalk.i64_in _ (by omega)]; omega
  have w4 : IntKind.i64.wrap ((l : Int) + 1) = ((l + 1 : Nat) : Int) := by rw [IntWalk.i64_in _ (by omega)]; omega
  have h1 : ¬ (gainC d l).2 < 1 := by omega
  have h2 : ¬ (gainC d (l + 1)).2 < 1 := by omega
  have h3 : ¬ (gainC (d + 1) l).2 < 1 := by omega
  have h4 : 0 < (dayC (d + 1) l).2.1.2 := by omega
  have h5 : 0 < (dayC (d + 1) (l + 1)).2.1.2 := by omega
  have f1 := R1.bx
  have f4 := R4.bx
  have f7 := R7.bx
  have f10 := R10.bx
  have f17 := R17.bx
  have f22 := R22.bx
  unfold ratioV at f1 f4 f7 f17 f22
  clear R1 R4 R7 R10 R17 R22 F1 F2 F3 i1 i2 i3 i4 j1 j2 j3 j4 t1 t2 t3 t4 a1 a2 a3 a4 b1 b2 b3 b4 hd hl ow12 q10 q12 q13 q15 q27 q28
  refine call_of Tryd.func7 rfl (Nat.le_of_ble_eq_true rfl) (hS.no rfl _ _) ?_
  rw [Tryd.ntmps7, Tryd.results7]
  repeat' (first | (with_reducible refine sxGuardB_tsp (fun h => ?_) (fun h => ?_)) | (with_reducible refine sxGuardB_fsp (fun h => ?_) (fun h => ?_)) | (with_reducible refine sxIfB_sp (fun h => ?_) (fun h => ?_)) | simp only [↓sxC_skip, ↓sxC_draw, ↓sxC_region, ↓sxC_seq, ↓bxC_cond, ↓bxC_loop, ↓sxC_block, ↓sxC_exit, ↓sxC_goto, ↓sxC_ret, ↓sxOps_nil, ↓sxOps_cons, ↓sxDraw_nil, ↓bxDraw_cons, ↓sxDL_move, ↓sxDL_assign, ↓sxDL_pick, ↓sxDL_alloc, ↓sxDL_box, ↓sxDL_build, ↓sxDL_buildSlice, ↓sxDL_insert, ↓sxDL_load, ↓sxDL_nilCheck, ↓sxDL_binOp, ↓sxDL_unOp, ↓sxDL_convert, ↓sxDL_makeInterface, ↓sxDL_makeFunc, ↓sxDL_makeMap, ↓sxDL_makeSlice, ↓sxDL_slice, ↓sxDL_fieldAddr, ↓sxDL_field, ↓sxDL_indexAddr, ↓sxDL_index, ↓sxDL_typeAssert, ↓sxDL_extract, ↓sxDL_call, ↓sxDL_lookup, ↓sxDL_mapUpdate, ↓sxDL_range, ↓sxDL_next, ↓sxDL_entry, ↓sxDL_mapEntry, ↓sxDL_entryStore, ↓sxD_same, ↓sxStep_none, ↓bxStep_some, ↓bxOp_move, ↓bxOp_assign, ↓bxOp_pick, ↓bxOp_alloc, ↓bxOp_box, ↓bxOp_build, ↓bxOp_buildSlice, ↓bxOp_load, ↓bxOp_store, ↓bxOp_nilCheck, ↓bxOp_bin, ↓bxOp_un, ↓bxOp_makeI, ↓bxOp_makeFunc, ↓bxOp_makeSlice, ↓bxOp_slice, ↓bxOp_fieldAddr, ↓bxOp_field, ↓bxOp_indexAddr, ↓bxOp_index, ↓bxOp_assert, ↓bxOp_extract, ↓bxOp_value, ↓bxOp_len, ↓bxOp_cap, ↓bxOp_append, ↓bxOp_copy, ↓bxOp_clear, ↓bxOp_max, ↓bxOp_min, ↓bxOp_convert, ↓sxPut_none, ↓bxPut, ↓seqQ_normal, ↓seqQ_exit, ↓seqQ_ret, ↓seqQ_goto, ↓blockQ_normal, ↓blockQ_ret, ↓blockQ_goto, ↓blockQ_exit, ↓loopQ_normal, ↓loopQ_exit, ↓loopQ_ret, ↓loopQ_goto, ↓resQ_normal, ↓resQ_ret, ↓sxRes_nil, ↓sxRes_tmp, ↓bxRes_cell, ↓upd_apply, ↓ev_tmp, ↓ev_const, ↓ev_global, ↓ev_func, ↓dstAt, ↓gval_some, sxOptB_some, sxOptB_ite, mm_max, mm_min, binP_shl, binP_shr, binP_int, intBin, una_not_dec, una_nt, una_nf, una_neg, aPick_true, aPick_false, sxCallVB_fn, sxCallVB_yield, sxGuardB_u, sxGuardB_tt, sxGuardB_tf, sxGuardB_ft, sxGuardB_ff, sxIfB_t, sxIfB_f, packRes_one, packRes_two, List.map_cons, List.map_nil, List.nil_append, List.cons_append, List.append_nil, ↓reduceIte, Nat.reduceEqDiff, Nat.reduceLT, dec_T, dec_F, false_imp, true_and, and_true, true_implies, implies_true, false_and, and_false, true_or, or_true, false_or, or_false, and_self, or_self, read_relow, size_relow, low_relow, relow_relow, aLoad_relow, Nat.add_zero, Nat.mul_one, one1, Option.bind_some, ne_eq, Int.natCast_nonneg, Int.toNat_natCast, not_true_eq_false, not_false_eq_true, Option.map_some, Option.map_none, *, argF, List.getD_cons_zero, List.getD_cons_succ, cvU8, ex20, ex21, ex30, ex31, ex32, alR, alQ, ldRt, ldI, faR0, faR1, bdR, cells2, Nat.zero_add] | (with_reducible refine sxDL_barE (by assumption) (by decide +kernel) ?_) | (with_reducible refine sxDL_bar (by decide +kernel) ?_) | (with_reducible refine sxD_bar (by decide +kernel) ?_))
end Go.Proofs.YtnbhjbelgmkpeaaDoor
