/- Clash of package tariff, on the canonical machine. -/
import Derived.Test.YtmllfacipbpkfaaDoorT8c
set_option linter.unusedVariables false
set_option linter.unusedSimpArgs false
set_option linter.unusedSectionVars false

namespace Go.Proofs.YtmllfacipbpkfaaDoor
open Go Go.AM
set_option maxRecDepth 10000
set_option linter.unusedSimpArgs false
variable {S : AM.Sys} (hS : Only S 8)
include hS

theorem Clash_runs (k : Int) (v : Value) (t : List Rl) (r o : Nat) (i j : Int) (H : Heap) (hL : H.low ≤ H.size) (hg : Grp H) (ht : SlR H v t r o) : Says S 13 [.int .i64 k, v, .int .i64 i, .int .i64 j] H (clashRes k t i j) := by
  refine says_of ?_
  obtain ⟨H1, hK1, hR1⟩ := check_runs hS k v t r o H ht
  have hb1 := hR1.bx
  have hg1 := hK1.grp hg
  have hL1 := hK1.low hL
  have ht1 := ht.keep hK1
  obtain ⟨a, cap, rfl⟩ := ht.v0
  have hri := fun i H => (isRule_runs hS a t.length cap i H).bx
  refine call_of Tryd.func13 rfl (Nat.le_of_ble_eq_true rfl) (hS.no rfl _ _) ?_
  rw [Tryd.ntmps13, Tryd.results13]
  clear hR1 ht
  by_cases hck : chk k t = 0
  · by_cases hij : (0 ≤ i ∧ i < t.length) ∧ 0 ≤ j ∧ j < t.length
    · obtain ⟨⟨hi0, hi1⟩, hj0, hj1⟩ := hij
      obtain ⟨hk4, hl24, hall⟩ := chk_ok hck
      have ht1l : r < H1.size := ht1.lt (by omega)
      have x1 := SlR_ix ht1 hi0 hi1
      have x2 := SlR_ix ht1 hj0 hj1
      obtain ⟨a1, c1, r1, o1, y0, y1, y2, hb, yat⟩ := SlR_rd ht1 (i := i.toNat) (by omega)
      obtain ⟨a2, c2, r2, o2, z0, z1, z2, hc, zat⟩ := SlR_rd ht1 (i := j.toNat) (by omega)
      have hx := hall _ (getD_mem (d := default) (show i.toNat < t.length by omega))
      have hy := hall _ (getD_mem (d := default) (show j.toNat < t.length by omega))
      have hcr : clashRes k t i j = if (t.getD i.toNat default).code = (t.getD j.toNat default).code then ([], 10) else
        if ∀ m, m < k.toNat → mx ((t.getD i.toNat default).bands.getD m default).lo ((t.getD j.toNat default).bands.getD m default).lo < ((t.getD i.toNat default).bands.getD m default).hi ∧
          mx ((t.getD i.toNat default).bands.getD m default).lo ((t.getD j.toNat default).bands.getD m default).lo < ((t.getD j.toNat default).bands.getD m default).hi then
        (lows (t.getD i.toNat default) (t.getD j.toNat default) k.toNat, 0) else ([], 10) := by unfold clashRes; rw [if_neg (by omega), if_neg (fun h => h ⟨⟨hi0, hi1⟩, hj0, hj1⟩)]
      rw [hcr]
      clear hcr hall ht1
      generalize t.getD i.toNat default = x at *
      generalize t.getD j.toNat default = y at *
      by_cases hcd : x.code = y.code
      · rw [if_pos hcd]
        have hcd' : (x.code = y.code) = True := eq_true hcd
        have y2' := y2
        rw [hcd] at y2'
        clear hb hc yat zat y2 hcd hcd' hx hy
        repeat' (first | (with_reducible refine sxGuardB_tsp (fun h => ?_) (fun h => ?_)) | (with_reducible refine sxGuardB_fsp (fun h => ?_) (fun h => ?_)) | (with_reducible refine sxIfB_sp (fun h => ?_) (fun h => ?_)) | simp only [↓sxC_skip, ↓sxC_draw, ↓sxC_region, ↓sxC_seq, ↓bxC_cond, ↓bxC_loop, ↓sxC_block, ↓sxC_exit, ↓sxC_goto, ↓sxC_ret, ↓sxOps_nil, ↓sxOps_cons, ↓sxDraw_nil, ↓bxDraw_cons, ↓sxD_same, ↓sxStep_none, ↓bxStep_some, ↓bxOp_move, ↓bxOp_assign, ↓bxOp_pick, ↓bxOp_alloc, ↓bxOp_box, ↓bxOp_build, ↓bxOp_buildSlice, ↓bxOp_load, ↓bxOp_store, ↓bxOp_nilCheck, ↓bxOp_bin, ↓bxOp_un, ↓bxOp_makeI, ↓bxOp_makeFunc, ↓bxOp_makeSlice, ↓bxOp_slice, ↓bxOp_fieldAddr, ↓bxOp_field, ↓bxOp_indexAddr, ↓bxOp_index, ↓bxOp_assert, ↓bxOp_extract, ↓bxOp_value, ↓bxOp_len, ↓bxOp_cap, ↓bxOp_append, ↓bxOp_copy, ↓bxOp_max, ↓bxOp_min, ↓bxOp_convert, ↓sxPut_none, ↓bxPut, ↓seqQ_normal, ↓seqQ_exit, ↓seqQ_ret, ↓seqQ_goto, ↓blockQ_normal, ↓blockQ_ret, ↓blockQ_goto, ↓blockQ_exit, ↓loopQ_normal, ↓loopQ_exit, ↓loopQ_ret, ↓loopQ_goto, ↓resQ_normal, ↓resQ_ret, ↓sxRes_nil, ↓sxRes_tmp, ↓bxRes_cell, ↓upd_apply, ↓ev_tmp, ↓ev_const, ↓ev_global, ↓ev_func, ↓dstAt, ↓gval_some, sxOptB_some, sxOptB_ite, mm_max, mm_min, bin_shl, bin_shr, bin_int, intBin, una_not_dec, una_nt, una_nf, una_neg, aPick_true, aPick_false, sxCallVB_fn, sxCallVB_yield, sxGuardB_u, sxGuardB_tt, sxGuardB_tf, sxGuardB_ft, sxGuardB_ff, sxIfB_t, sxIfB_f, packRes_one, packRes_two, List.map_cons, List.map_nil, List.nil_append, List.cons_append, List.append_nil, ↓reduceIte, Nat.reduceEqDiff, Nat.reduceLT, dec_T, dec_F, false_imp, true_and, and_true, true_implies, implies_true, false_and, and_false, true_or, or_true, false_or, or_false, and_self, or_self, read_relow, size_relow, low_relow, relow_relow, aLoad_relow, Nat.add_zero, Nat.mul_one, one1, Option.bind_some, ne_eq, Int.natCast_nonneg, Int.toNat_natCast, not_true_eq_false, not_false_eq_true, Option.map_some, Option.map_none, *, argF, List.getD_cons_zero, List.getD_cons_succ, lenR, faR1, ldI] | (with_reducible refine sxD_bar (by kernel_rfl) ?_))
        all_goals first
          | (exfalso; omega)
          | exact ⟨_, _, 0, 0, rfl, hK1, hg1, nilSl _, rfl⟩
          | exact ⟨_, _, 0, 0, rfl, nilSl _, rfl⟩
      · rw [if_neg hcd]
        obtain ⟨Z, hZl, hmk⟩ := mkI H1 (l := k) (by omega) (by omega)
        obtain ⟨H2, e2, hK2, hs2, zz, hr2⟩ := box1 H1 Z 3
        have w2 : Own H2 H1.size 3 Z := e2 ▸ Own.new H1 Z 3
        clear zz hr2
        repeat' (first | (with_reducible refine sxGuardB_tsp (fun h => ?_) (fun h => ?_)) | (with_reducible refine sxGuardB_fsp (fun h => ?_) (fun h => ?_)) | (with_reducible refine sxIfB_sp (fun h => ?_) (fun h => ?_)) | simp only [↓sxC_skip, ↓sxC_draw, ↓sxC_region, ↓sxC_seq, ↓bxC_cond, ↓bxC_loop, ↓sxC_block, ↓sxC_exit, ↓sxC_goto, ↓sxC_ret, ↓sxOps_nil, ↓sxOps_cons, ↓sxDraw_nil, ↓bxDraw_cons, ↓sxD_same, ↓sxStep_none, ↓bxStep_some, ↓bxOp_move, ↓bxOp_assign, ↓bxOp_pick, ↓bxOp_alloc, ↓bxOp_box, ↓bxOp_build, ↓bxOp_buildSlice, ↓bxOp_load, ↓bxOp_store, ↓bxOp_nilCheck, ↓bxOp_bin, ↓bxOp_un, ↓bxOp_makeI, ↓bxOp_makeFunc, ↓bxOp_makeSlice, ↓bxOp_slice, ↓bxOp_fieldAddr, ↓bxOp_field, ↓bxOp_indexAddr, ↓bxOp_index, ↓bxOp_assert, ↓bxOp_extract, ↓bxOp_value, ↓bxOp_len, ↓bxOp_cap, ↓bxOp_append, ↓bxOp_copy, ↓bxOp_max, ↓bxOp_min, ↓bxOp_convert, ↓sxPut_none, ↓bxPut, ↓seqQ_normal, ↓seqQ_exit, ↓seqQ_ret, ↓seqQ_goto, ↓blockQ_normal, ↓blockQ_ret, ↓blockQ_goto, ↓blockQ_exit, ↓loopQ_normal, ↓loopQ_exit, ↓loopQ_ret, ↓loopQ_goto, ↓resQ_normal, ↓resQ_ret, ↓sxRes_nil, ↓sxRes_tmp, ↓bxRes_cell, ↓upd_apply, ↓ev_tmp, ↓ev_const, ↓ev_global, ↓ev_func, ↓dstAt, ↓gval_some, sxOptB_some, sxOptB_ite, mm_max, mm_min, bin_shl, bin_shr, bin_int, intBin, una_not_dec, una_nt, una_nf, una_neg, aPick_true, aPick_false, sxCallVB_fn, sxCallVB_yield, sxGuardB_u, sxGuardB_tt, sxGuardB_tf, sxGuardB_ft, sxGuardB_ff, sxIfB_t, sxIfB_f, packRes_one, packRes_two, List.map_cons, List.map_nil, List.nil_append, List.cons_append, List.append_nil, ↓reduceIte, Nat.reduceEqDiff, Nat.reduceLT, dec_T, dec_F, false_imp, true_and, and_true, true_implies, implies_true, false_and, and_false, true_or, or_true, false_or, or_false, and_self, or_self, read_relow, size_relow, low_relow, relow_relow, aLoad_relow, Nat.add_zero, Nat.mul_one, one1, Option.bind_some, ne_eq, Int.natCast_nonneg, Int.toNat_natCast, not_true_eq_false, not_false_eq_true, Option.map_some, Option.map_none, *, argF, List.getD_cons_zero, List.getD_cons_succ, lenR, lenI, faR1, ldI] | (with_reducible refine sxD_bar (by kernel_rfl) ?_))
        all_goals first
          | (exfalso; omega)
          | skip
        have ht1l : r < H1.size := ht1l
        clear hb1 hri hmk
        refine sxL_of (fun m ρ H3 => ∃ (n : Nat) (Zn : List Value), m = k.toNat - n ∧ n ≤ k.toNat ∧ Keep H1 H3 ∧ Own H3 H1.size 3 Zn ∧ Zn.length = k.toNat ∧ Zn.take n = (lows x y n).map (fun z => .int .i64 z) ∧
          ρ 1 = .slice a t.length cap ∧ ρ 2 = .int .i64 i ∧ ρ 3 = .int .i64 j ∧ ρ 11 = .slice (some ⟨H1.size, 0, none⟩) k.toNat k.toNat ∧ ρ 43 = .int .i64 (k.toNat : Int) ∧ ρ 44 = .int .i64 n)
          ⟨0, Z, rfl, Nat.zero_le _, hK2, w2, by omega, rfl, rfl, rfl, rfl, rfl, rfl, rfl⟩ ?_
        rintro m ρ H3 ⟨n, Zn, rfl, hn, hK3, w3, hZn, htk, e1, e2', e3, e11, e43, e44⟩
        have hK13 := hK1.trans hK3
        have hL3 : H3.low ≤ H3.size := hK13.low hL
        have q1 := hK3.read ht1l y1
        have q2 := hK3.read ht1l z1
        by_cases hlt : n < k.toNat
        · have hlt' : (n : Int) < (k.toNat : Int) := by omega
          have hxb : n < x.bands.length := by have := hx.1; omega
          have hyb : n < y.bands.length := by have := hy.1; omega
          have hb2 := hb.keep hK3
          have hc2 := hc.keep hK3
          have p1 := SlB_ixN hb2 hxb
          have p2 := SlB_ixN hc2 hyb
          have hob1 := SlB_rd hb2 hxb
          obtain ⟨_, p3, _⟩ := hob1
          have hob2 := SlB_rd hc2 hyb
          obtain ⟨_, p5, _⟩ := hob2
          have hw : IntKind.i64.wrap ((n : Int) + 1) = ((n + 1 : Nat) : Int) := by rw [IntWalk.i64_in _ (by omega)]; omega
          have pi : aIndexAt Tryd.prog 23 (.slice (some ⟨H1.size, 0, none⟩) k.toNat k.toNat) (.int .i64 (n : Int)) = some (.pointer (some ⟨H1.size, n, none⟩)) := by rw [ixI, if_pos ⟨by omega, by omega⟩, Int.toNat_natCast, Nat.zero_add, Nat.mul_one]
          have hjl : n + 1 ≤ Zn.length := by omega
          have hob3 := stI (w3.addr (l := H3.size)) (mx (x.bands.getD n default).lo (y.bands.getD n default).lo) (o := n) hjl
          obtain ⟨H5, ps, w5, hkp⟩ := hob3
          have hK5 := hkp H1 (hK3.trans (Keep.relowS H3)) (Nat.le_refl _)
          have hK6 := Keep.lower hK3 hK5
          have w6 := w5.addr (l := Nat.min H3.low H5.low)
          have htk2 := splice_take (v := Value.int .i64 (mx (x.bands.getD n default).lo (y.bands.getD n default).lo)) (l := Zn) (off := n) (by omega)
          have hspl := splice_length (l := Zn) (off := n) (vs := [Value.int .i64 (mx (x.bands.getD n default).lo (y.bands.getD n default).lo)]) hjl
          rw [htk, ← List.map_singleton (f := fun z => Value.int .i64 z), ← List.map_append, ← lows_succ] at htk2
          have hz : (if (y.bands.getD n default).lo > (x.bands.getD n default).lo then (y.bands.getD n default).lo else (x.bands.getD n default).lo) = mx (x.bands.getD n default).lo (y.bands.getD n default).lo := rfl
          clear hb hc hb2 hc2 hx hy hkp y0 y1 y2 z0 z1 z2 yat zat hjl htk w5 w3 hck hcd e2
          repeat' (first | (with_reducible refine sxGuardB_tsp (fun h => ?_) (fun h => ?_)) | (with_reducible refine sxGuardB_fsp (fun h => ?_) (fun h => ?_)) | (with_reducible refine sxIfB_sp (fun h => ?_) (fun h => ?_)) | simp only [↓sxC_skip, ↓sxC_draw, ↓sxC_region, ↓sxC_seq, ↓bxC_cond, ↓bxC_loop, ↓sxC_block, ↓sxC_exit, ↓sxC_goto, ↓sxC_ret, ↓sxOps_nil, ↓sxOps_cons, ↓sxDraw_nil, ↓bxDraw_cons, ↓sxD_same, ↓sxStep_none, ↓bxStep_some, ↓bxOp_move, ↓bxOp_assign, ↓bxOp_pick, ↓bxOp_alloc, ↓bxOp_box, ↓bxOp_build, ↓bxOp_buildSlice, ↓bxOp_load, ↓bxOp_store, ↓bxOp_nilCheck, ↓bxOp_bin, ↓bxOp_un, ↓bxOp_makeI, ↓bxOp_makeFunc, ↓bxOp_makeSlice, ↓bxOp_slice, ↓bxOp_fieldAddr, ↓bxOp_field, ↓bxOp_indexAddr, ↓bxOp_index, ↓bxOp_assert, ↓bxOp_extract, ↓bxOp_value, ↓bxOp_len, ↓bxOp_cap, ↓bxOp_append, ↓bxOp_copy, ↓bxOp_max, ↓bxOp_min, ↓bxOp_convert, ↓sxPut_none, ↓bxPut, ↓seqQ_normal, ↓seqQ_exit, ↓seqQ_ret, ↓seqQ_goto, ↓blockQ_normal, ↓blockQ_ret, ↓blockQ_goto, ↓blockQ_exit, ↓loopQ_normal, ↓loopQ_exit, ↓loopQ_ret, ↓loopQ_goto, ↓resQ_normal, ↓resQ_ret, ↓sxRes_nil, ↓sxRes_tmp, ↓bxRes_cell, ↓upd_apply, ↓ev_tmp, ↓ev_const, ↓ev_global, ↓ev_func, ↓dstAt, ↓gval_some, sxOptB_some, sxOptB_ite, mm_max, mm_min, bin_shl, bin_shr, bin_int, intBin, una_not_dec, una_nt, una_nf, una_neg, aPick_true, aPick_false, sxCallVB_fn, sxCallVB_yield, sxGuardB_u, sxGuardB_tt, sxGuardB_tf, sxGuardB_ft, sxGuardB_ff, sxIfB_t, sxIfB_f, packRes_one, packRes_two, List.map_cons, List.map_nil, List.nil_append, List.cons_append, List.append_nil, ↓reduceIte, Nat.reduceEqDiff, Nat.reduceLT, dec_T, dec_F, false_imp, true_and, and_true, true_implies, implies_true, false_and, and_false, true_or, or_true, false_or, or_false, and_self, or_self, read_relow, size_relow, low_relow, relow_relow, aLoad_relow, Nat.add_zero, Nat.mul_one, one1, Option.bind_some, ne_eq, Int.natCast_nonneg, Int.toNat_natCast, not_true_eq_false, not_false_eq_true, Option.map_some, Option.map_none, *, lenR, faR0, faB0, faB1, ldI, ldBs, Nat.zero_add] | (with_reducible refine sxD_bar (by kernel_rfl) ?_))
          exact ⟨_, by omega, n + 1, _, rfl, by omega, w6, hspl.trans hZn, htk2, rfl⟩
        · have hlt' : ¬ (n : Int) < (k.toNat : Int) := by omega
          have hne : n = k.toNat := by omega
          have hZ : Zn = (lows x y k.toNat).map (fun z => .int .i64 z) := by rw [← hne, ← htk, List.take_of_length_le (by omega)]
          have hxl : x.bands.length = k.toNat := by have := hx.1; omega
          have hyl : y.bands.length = k.toNat := by have := hy.1; omega
          have hrng : ∀ z ∈ lows x y k.toNat, -9223372036854775808 ≤ z ∧ z ≤ 9223372036854775807 := fun z hz => by
            unfold lows at hz
            have hob4 := List.mem_map.1 hz
            obtain ⟨m, hm, rfl⟩ := hob4
            have hm := List.mem_range.1 hm
            have xo := hx.2.2.2 _ (getD_mem (d := default) (show m < x.bands.length by omega))
            have yo := hy.2.2.2 _ (getD_mem (d := default) (show m < y.bands.length by omega))
            have := xo.1; have := xo.2.1; have := xo.2.2; have := yo.1; have := yo.2.1; have := yo.2.2
            unfold mx; split <;> omega
          have sl : SlI .i64 H3 (.slice (some ⟨H1.size, 0, none⟩) k.toNat k.toNat) (lows x y k.toNat) H1.size 0 := ⟨⟨_, k.toNat, by rw [lows_len], fun _ => rfl⟩, fun i hi => by
            rw [lows_len] at hi
            have h1 := w3.read (o := 0 + i * 1) (n := 1) (by omega)
            have h2 : (Zn.drop (0 + i * 1)).take 1 = [.int .i64 ((lows x y k.toNat).getD i 0)] := by
              rw [hZ, show 0 + i * 1 = i by omega, List.drop_eq_getElem_cons (by rw [List.length_map, lows_len]; exact hi)]
              simp [List.getD_eq_getElem?_getD, List.getElem?_eq_getElem (show i < (lows x y k.toNat).length by rw [lows_len]; exact hi)]
            rw [h2] at h1
            exact ⟨_, h1, rfl, hrng _ (getD_mem (by rw [lows_len]; exact hi))⟩, fun _ => w3.lt, by rw [lows_len]; show k.toNat ≤ 9223372036854775807; omega⟩
          have hob5 := isFit_runs hS x _ _ (lows x y k.toNat) H1.size 0 H3 hL3 (ruleE.keep hK3 yat) sl (by rw [lows_len]; omega)
          obtain ⟨H6, hK6, hR6⟩ := hob5
          have hob6 := isFit_runs hS y _ _ (lows x y k.toNat) H1.size 0 H6 (hK6.low hL3) (ruleE.keep hK6 (ruleE.keep hK3 zat)) (sl.keep hK6) (by rw [lows_len]; omega)
          obtain ⟨H7, hK7, hR7⟩ := hob6
          have f6 := hR6.bx
          have f7 := hR7.bx
          have g0 := hK3.read ht1l y0
          have g1 := hK6.read (Nat.lt_of_lt_of_le ht1l hK3.size) (hK3.read ht1l z0)
          have hK16 := hK13.trans hK6
          have hK17 := hK16.trans hK7
          have hg3 := hK13.grp hg
          have hg6 := hK16.grp hg
          have hg7 := hK17.grp hg
          have sl7 := (sl.keep hK6).keep hK7
          have hfit := lows_fits hxl hyl
          clear hR6 hR7 hb hc hx hy hZ hrng sl hne htk w3 y0 y1 y2 z0 z1 z2 yat zat hck hcd e2 hxl hyl
          repeat' (first | (with_reducible refine sxGuardB_tsp (fun h => ?_) (fun h => ?_)) | (with_reducible refine sxGuardB_fsp (fun h => ?_) (fun h => ?_)) | (with_reducible refine sxIfB_sp (fun h => ?_) (fun h => ?_)) | simp only [↓sxC_skip, ↓sxC_draw, ↓sxC_region, ↓sxC_seq, ↓bxC_cond, ↓bxC_loop, ↓sxC_block, ↓sxC_exit, ↓sxC_goto, ↓sxC_ret, ↓sxOps_nil, ↓sxOps_cons, ↓sxDraw_nil, ↓bxDraw_cons, ↓sxD_same, ↓sxStep_none, ↓bxStep_some, ↓bxOp_move, ↓bxOp_assign, ↓bxOp_pick, ↓bxOp_alloc, ↓bxOp_box, ↓bxOp_build, ↓bxOp_buildSlice, ↓bxOp_load, ↓bxOp_store, ↓bxOp_nilCheck, ↓bxOp_bin, ↓bxOp_un, ↓bxOp_makeI, ↓bxOp_makeFunc, ↓bxOp_makeSlice, ↓bxOp_slice, ↓bxOp_fieldAddr, ↓bxOp_field, ↓bxOp_indexAddr, ↓bxOp_index, ↓bxOp_assert, ↓bxOp_extract, ↓bxOp_value, ↓bxOp_len, ↓bxOp_cap, ↓bxOp_append, ↓bxOp_copy, ↓bxOp_max, ↓bxOp_min, ↓bxOp_convert, ↓sxPut_none, ↓bxPut, ↓seqQ_normal, ↓seqQ_exit, ↓seqQ_ret, ↓seqQ_goto, ↓blockQ_normal, ↓blockQ_ret, ↓blockQ_goto, ↓blockQ_exit, ↓loopQ_normal, ↓loopQ_exit, ↓loopQ_ret, ↓loopQ_goto, ↓resQ_normal, ↓resQ_ret, ↓sxRes_nil, ↓sxRes_tmp, ↓bxRes_cell, ↓upd_apply, ↓ev_tmp, ↓ev_const, ↓ev_global, ↓ev_func, ↓dstAt, ↓gval_some, sxOptB_some, sxOptB_ite, mm_max, mm_min, bin_shl, bin_shr, bin_int, intBin, una_not_dec, una_nt, una_nf, una_neg, aPick_true, aPick_false, sxCallVB_fn, sxCallVB_yield, sxGuardB_u, sxGuardB_tt, sxGuardB_tf, sxGuardB_ft, sxGuardB_ff, sxIfB_t, sxIfB_f, packRes_one, packRes_two, List.map_cons, List.map_nil, List.nil_append, List.cons_append, List.append_nil, ↓reduceIte, Nat.reduceEqDiff, Nat.reduceLT, dec_T, dec_F, false_imp, true_and, and_true, true_implies, implies_true, false_and, and_false, true_or, or_true, false_or, or_false, and_self, or_self, read_relow, size_relow, low_relow, relow_relow, aLoad_relow, Nat.add_zero, Nat.mul_one, one1, Option.bind_some, ne_eq, Int.natCast_nonneg, Int.toNat_natCast, not_true_eq_false, not_false_eq_true, Option.map_some, Option.map_none, *, lenR, ldR, Nat.zero_add] | (with_reducible refine sxD_bar (by kernel_rfl) ?_))
          all_goals first
            | exact ⟨_, _, 0, 0, rfl, nilSl _, rfl⟩
            | exact ⟨_, _, H1.size, 0, rfl, sl7, rfl⟩
            | (rw [if_pos ⟨Decidable.not_not.1 ‹¬ ¬ Fits x (lows x y k.toNat)›, Decidable.not_not.1 ‹¬ ¬ Fits y (lows x y k.toNat)›⟩]; exact ⟨_, _, H1.size, 0, rfl, sl7, rfl⟩)
    · have hcr : clashRes k t i j = ([], 6) := by unfold clashRes; rw [if_neg (by omega), if_pos hij]
      rw [hcr]
      clear hcr ht1
      repeat' (first | (with_reducible refine sxGuardB_tsp (fun h => ?_) (fun h => ?_)) | (with_reducible refine sxGuardB_fsp (fun h => ?_) (fun h => ?_)) | (with_reducible refine sxIfB_sp (fun h => ?_) (fun h => ?_)) | simp only [↓sxC_skip, ↓sxC_draw, ↓sxC_region, ↓sxC_seq, ↓bxC_cond, ↓bxC_loop, ↓sxC_block, ↓sxC_exit, ↓sxC_goto, ↓sxC_ret, ↓sxOps_nil, ↓sxOps_cons, ↓sxDraw_nil, ↓bxDraw_cons, ↓sxD_same, ↓sxStep_none, ↓bxStep_some, ↓bxOp_move, ↓bxOp_assign, ↓bxOp_pick, ↓bxOp_alloc, ↓bxOp_box, ↓bxOp_build, ↓bxOp_buildSlice, ↓bxOp_load, ↓bxOp_store, ↓bxOp_nilCheck, ↓bxOp_bin, ↓bxOp_un, ↓bxOp_makeI, ↓bxOp_makeFunc, ↓bxOp_makeSlice, ↓bxOp_slice, ↓bxOp_fieldAddr, ↓bxOp_field, ↓bxOp_indexAddr, ↓bxOp_index, ↓bxOp_assert, ↓bxOp_extract, ↓bxOp_value, ↓bxOp_len, ↓bxOp_cap, ↓bxOp_append, ↓bxOp_copy, ↓bxOp_max, ↓bxOp_min, ↓bxOp_convert, ↓sxPut_none, ↓bxPut, ↓seqQ_normal, ↓seqQ_exit, ↓seqQ_ret, ↓seqQ_goto, ↓blockQ_normal, ↓blockQ_ret, ↓blockQ_goto, ↓blockQ_exit, ↓loopQ_normal, ↓loopQ_exit, ↓loopQ_ret, ↓loopQ_goto, ↓resQ_normal, ↓resQ_ret, ↓sxRes_nil, ↓sxRes_tmp, ↓bxRes_cell, ↓upd_apply, ↓ev_tmp, ↓ev_const, ↓ev_global, ↓ev_func, ↓dstAt, ↓gval_some, sxOptB_some, sxOptB_ite, mm_max, mm_min, bin_shl, bin_shr, bin_int, intBin, una_not_dec, una_nt, una_nf, una_neg, aPick_true, aPick_false, sxCallVB_fn, sxCallVB_yield, sxGuardB_u, sxGuardB_tt, sxGuardB_tf, sxGuardB_ft, sxGuardB_ff, sxIfB_t, sxIfB_f, packRes_one, packRes_two, List.map_cons, List.map_nil, List.nil_append, List.cons_append, List.append_nil, ↓reduceIte, Nat.reduceEqDiff, Nat.reduceLT, dec_T, dec_F, false_imp, true_and, and_true, true_implies, implies_true, false_and, and_false, true_or, or_true, false_or, or_false, and_self, or_self, read_relow, size_relow, low_relow, relow_relow, aLoad_relow, Nat.add_zero, Nat.mul_one, one1, Option.bind_some, ne_eq, Int.natCast_nonneg, Int.toNat_natCast, not_true_eq_false, not_false_eq_true, Option.map_some, Option.map_none, *, argF, List.getD_cons_zero, List.getD_cons_succ, lenR] | (with_reducible refine sxD_bar (by kernel_rfl) ?_))
      all_goals first
        | (exfalso; omega)
        | exact ⟨_, _, 0, 0, rfl, hK1, hg1, nilSl _, rfl⟩
        | exact ⟨_, _, 0, 0, rfl, nilSl _, rfl⟩
  · have hcr : clashRes k t i j = ([], chk k t) := by unfold clashRes; rw [if_pos hck]
    rw [hcr]
    clear hcr ht1
    repeat' (first | (with_reducible refine sxGuardB_tsp (fun h => ?_) (fun h => ?_)) | (with_reducible refine sxGuardB_fsp (fun h => ?_) (fun h => ?_)) | (with_reducible refine sxIfB_sp (fun h => ?_) (fun h => ?_)) | simp only [↓sxC_skip, ↓sxC_draw, ↓sxC_region, ↓sxC_seq, ↓bxC_cond, ↓bxC_loop, ↓sxC_block, ↓sxC_exit, ↓sxC_goto, ↓sxC_ret, ↓sxOps_nil, ↓sxOps_cons, ↓sxDraw_nil, ↓bxDraw_cons, ↓sxD_same, ↓sxStep_none, ↓bxStep_some, ↓bxOp_move, ↓bxOp_assign, ↓bxOp_pick, ↓bxOp_alloc, ↓bxOp_box, ↓bxOp_build, ↓bxOp_buildSlice, ↓bxOp_load, ↓bxOp_store, ↓bxOp_nilCheck, ↓bxOp_bin, ↓bxOp_un, ↓bxOp_makeI, ↓bxOp_makeFunc, ↓bxOp_makeSlice, ↓bxOp_slice, ↓bxOp_fieldAddr, ↓bxOp_field, ↓bxOp_indexAddr, ↓bxOp_index, ↓bxOp_assert, ↓bxOp_extract, ↓bxOp_value, ↓bxOp_len, ↓bxOp_cap, ↓bxOp_append, ↓bxOp_copy, ↓bxOp_max, ↓bxOp_min, ↓bxOp_convert, ↓sxPut_none, ↓bxPut, ↓seqQ_normal, ↓seqQ_exit, ↓seqQ_ret, ↓seqQ_goto, ↓blockQ_normal, ↓blockQ_ret, ↓blockQ_goto, ↓blockQ_exit, ↓loopQ_normal, ↓loopQ_exit, ↓loopQ_ret, ↓loopQ_goto, ↓resQ_normal, ↓resQ_ret, ↓sxRes_nil, ↓sxRes_tmp, ↓bxRes_cell, ↓upd_apply, ↓ev_tmp, ↓ev_const, ↓ev_global, ↓ev_func, ↓dstAt, ↓gval_some, sxOptB_some, sxOptB_ite, mm_max, mm_min, bin_shl, bin_shr, bin_int, intBin, una_not_dec, una_nt, una_nf, una_neg, aPick_true, aPick_false, sxCallVB_fn, sxCallVB_yield, sxGuardB_u, sxGuardB_tt, sxGuardB_tf, sxGuardB_ft, sxGuardB_ff, sxIfB_t, sxIfB_f, packRes_one, packRes_two, List.map_cons, List.map_nil, List.nil_append, List.cons_append, List.append_nil, ↓reduceIte, Nat.reduceEqDiff, Nat.reduceLT, dec_T, dec_F, false_imp, true_and, and_true, true_implies, implies_true, false_and, and_false, true_or, or_true, false_or, or_false, and_self, or_self, read_relow, size_relow, low_relow, relow_relow, aLoad_relow, Nat.add_zero, Nat.mul_one, one1, Option.bind_some, ne_eq, Int.natCast_nonneg, Int.toNat_natCast, not_true_eq_false, not_false_eq_true, Option.map_some, Option.map_none, *, argF, List.getD_cons_zero, List.getD_cons_succ, lenR] | (with_reducible refine sxD_bar (by kernel_rfl) ?_))
    all_goals first
      | exact ⟨_, _, 0, 0, rfl, hK1, hg1, nilSl _, rfl⟩
      | exact ⟨_, _, 0, 0, rfl, nilSl _, rfl⟩

end Go.Proofs.YtmllfacipbpkfaaDoor
