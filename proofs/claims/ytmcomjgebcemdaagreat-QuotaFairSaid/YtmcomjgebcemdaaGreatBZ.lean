/- The first pair that a division treats otherwise: the reference's search. -/
import Derived.Test.YtmcomjgebcemdaaGreatBY
set_option linter.unusedVariables false
set_option linter.unusedSimpArgs false
set_option linter.unusedSectionVars false

namespace Go.Proofs.YtmcomjgebcemdaaGreat
open Go Go.AM
set_option maxRecDepth 10000
set_option linter.unusedSimpArgs false

variable {S : AM.Sys} (hS : Only S 8)
include hS

theorem rFair_runs (e : Int) (v v2 : Value) (c w : List Int) (d : Int) (r o r2 o2 : Nat) (H : Heap) (hg : Grp H) (hL : H.low ≤ H.size) (hc : SlI .i64 H v c r o) (hl : SlI .i64 H v2 w r2 o2) (hP : Q.Prob e c) (hShr : Q.Shr e c w d) :
    ∃ H' v' u r' o', Res c w d u ∧ Keep H H' ∧ Grp H' ∧ SlI .i64 H' v' u r' o' ∧ Runs Tryz.prog S (.fn 11) [.int .i64 e, v, .agg ⟨[v2, .int .i64 d]⟩] H (.tuple #[v', .int .i64 0]) H' := by
  suffices h : WCall Tryz.prog S (.fn 11) [.int .i64 e, v, .agg ⟨[v2, .int .i64 d]⟩] H (fun z H' => ∃ v' u r' o', z = .tuple #[v', .int .i64 0] ∧ Res c w d u ∧ Keep H H' ∧ Grp H' ∧ SlI .i64 H' v' u r' o') by
    obtain ⟨_, H', hr, v', u, r', o', rfl, h1, h2, h3, h4⟩ := h; exact ⟨H', v', u, r', o', h1, h2, h3, h4, hr⟩
  obtain ⟨a, cap, rfl⟩ := hc.v0
  obtain ⟨a2, cap2, rfl⟩ := hl.v0
  obtain ⟨H1, e1, k1, z1, rd2, rd0, rd1⟩ := Q.boxP H (.slice a2 w.length cap2) (.int .i64 d)
  have f2 := (Q.Problem_runs hS e _ c r o H1 (k1.low hL) (hc.keep k1)).bx
  rw [decide_eq_true hP] at f2
  obtain ⟨H3, k3, R3⟩ := Q.IsShares_runs hS e _ _ c w d r o r2 o2 H1 (k1.low hL) (hc.keep k1) (hl.keep k1) hP
  have f3 := R3.bx
  rw [decide_eq_true hShr] at f3
  have k13 := k1.trans k3
  have l3 := k13.low hL
  have g3 := k13.grp hg
  have m3 := k3.read z1 rd0
  have m4 := k3.read z1 rd1
  have z3 : H.size < H3.size := Nat.lt_of_lt_of_le z1 k3.size
  have hc3 := hc.keep k13
  have hl3 := hl.keep k13
  have hnot : una UnOp.not (Value.bool true) = some (.bool false) := rfl
  have hml := hc.ml
  clear rd0 rd1 R3 hc hl
  refine call_of Tryz.func11 rfl (Nat.le_of_ble_eq_true rfl) (hS.no rfl _ _) ?_
  rw [Tryz.ntmps11, Tryz.results11]
  repeat' (first | (with_reducible refine sxGuardB_tsp (fun h => ?_) (fun h => ?_)) | (with_reducible refine sxGuardB_fsp (fun h => ?_) (fun h => ?_)) | (with_reducible refine sxIfB_sp (fun h => ?_) (fun h => ?_)) | simp only [↓sxC_skip, ↓sxC_draw, ↓sxC_region, ↓sxC_seq, ↓bxC_cond, ↓bxC_loop, ↓sxC_block, ↓sxC_exit, ↓sxC_goto, ↓sxC_ret, ↓sxOps_nil, ↓sxOps_cons, ↓sxDraw_nil, ↓bxDraw_cons, ↓sxD_same, ↓sxStep_none, ↓bxStep_some, ↓bxOp_move, ↓bxOp_assign, ↓bxOp_pick, ↓bxOp_alloc, ↓bxOp_box, ↓bxOp_build, ↓bxOp_buildSlice, ↓bxOp_load, ↓bxOp_store, ↓bxOp_nilCheck, ↓bxOp_bin, ↓bxOp_un, ↓bxOp_makeI, ↓bxOp_makeFunc, ↓bxOp_makeSlice, ↓bxOp_slice, ↓bxOp_fieldAddr, ↓bxOp_field, ↓bxOp_indexAddr, ↓bxOp_index, ↓bxOp_assert, ↓bxOp_extract, ↓bxOp_value, ↓bxOp_len, ↓bxOp_cap, ↓bxOp_append, ↓bxOp_copy, ↓bxOp_max, ↓bxOp_min, ↓bxOp_convert, ↓sxPut_none, ↓bxPut, ↓seqQ_normal, ↓seqQ_exit, ↓seqQ_ret, ↓seqQ_goto, ↓blockQ_normal, ↓blockQ_ret, ↓blockQ_goto, ↓blockQ_exit, ↓loopQ_normal, ↓loopQ_exit, ↓loopQ_ret, ↓loopQ_goto, ↓resQ_normal, ↓resQ_ret, ↓sxRes_nil, ↓sxRes_tmp, ↓bxRes_cell, ↓upd_apply, ↓ev_tmp, ↓ev_const, ↓ev_global, ↓ev_func, ↓dstAt, ↓gval_some, sxOptB_some, sxOptB_ite, mm_max, mm_min, binP_shl, binP_shr, binP_int, intBin, una_not_dec, una_nt, una_nf, una_neg, aPick_true, aPick_false, sxCallVB_fn, sxCallVB_yield, sxGuardB_u, sxGuardB_tt, sxGuardB_tf, sxGuardB_ft, sxGuardB_ff, sxIfB_t, sxIfB_f, packRes_one, packRes_two, List.map_cons, List.map_nil, List.nil_append, List.cons_append, List.append_nil, ↓reduceIte, Nat.reduceEqDiff, Nat.reduceLT, dec_T, dec_F, false_imp, true_and, and_true, true_implies, implies_true, false_and, and_false, true_or, or_true, false_or, or_false, and_self, or_self, read_relow, size_relow, low_relow, relow_relow, aLoad_relow, Nat.add_zero, Nat.mul_one, one1, Option.bind_some, ne_eq, Int.natCast_nonneg, Int.toNat_natCast, not_true_eq_false, not_false_eq_true, Option.map_some, Option.map_none, *, argF, List.getD_cons_zero, List.getD_cons_succ, lenI, ldP, hnot, Q.cells_agg, Nat.zero_add] | (with_reducible refine sxD_bar (by kernel_rfl) ?_))
  refine sxL_of (fun m ρ H4 => ∃ k : Nat, m = c.length - k ∧ k ≤ c.length ∧ Keep H3 H4 ∧ (∀ i j, i < k → i < j → j < c.length → ¬ Unf c w d i j) ∧ ρ 1 = .slice a c.length cap ∧ ρ 5 = .pointer (some ⟨H.size, 0, none⟩) ∧ ρ 8 = .int .i64 k)
    ⟨0, rfl, Nat.zero_le _, Keep.refl _, (fun i j hi => absurd hi (Nat.not_lt_zero i)), rfl, rfl, rfl⟩ ?_
  clear e1 rd2 f2 f3
  rintro m ρ H4 ⟨k, rfl, hk, k4, hall, e1, e5, e8⟩
  by_cases hlt : k < c.length
  · have hlt' : (k : Int) < (c.length : Int) := by omega
    have hw := wrap_succ hlt hml
    repeat' (first | (with_reducible refine sxGuardB_tsp (fun h => ?_) (fun h => ?_)) | (with_reducible refine sxGuardB_fsp (fun h => ?_) (fun h => ?_)) | (with_reducible refine sxIfB_sp (fun h => ?_) (fun h => ?_)) | simp only [↓sxC_skip, ↓sxC_draw, ↓sxC_region, ↓sxC_seq, ↓bxC_cond, ↓bxC_loop, ↓sxC_block, ↓sxC_exit, ↓sxC_goto, ↓sxC_ret, ↓sxOps_nil, ↓sxOps_cons, ↓sxDraw_nil, ↓bxDraw_cons, ↓sxD_same, ↓sxStep_none, ↓bxStep_some, ↓bxOp_move, ↓bxOp_assign, ↓bxOp_pick, ↓bxOp_alloc, ↓bxOp_box, ↓bxOp_build, ↓bxOp_buildSlice, ↓bxOp_load, ↓bxOp_store, ↓bxOp_nilCheck, ↓bxOp_bin, ↓bxOp_un, ↓bxOp_makeI, ↓bxOp_makeFunc, ↓bxOp_makeSlice, ↓bxOp_slice, ↓bxOp_fieldAddr, ↓bxOp_field, ↓bxOp_indexAddr, ↓bxOp_index, ↓bxOp_assert, ↓bxOp_extract, ↓bxOp_value, ↓bxOp_len, ↓bxOp_cap, ↓bxOp_append, ↓bxOp_copy, ↓bxOp_max, ↓bxOp_min, ↓bxOp_convert, ↓sxPut_none, ↓bxPut, ↓seqQ_normal, ↓seqQ_exit, ↓seqQ_ret, ↓seqQ_goto, ↓blockQ_normal, ↓blockQ_ret, ↓blockQ_goto, ↓blockQ_exit, ↓loopQ_normal, ↓loopQ_exit, ↓loopQ_ret, ↓loopQ_goto, ↓resQ_normal, ↓resQ_ret, ↓sxRes_nil, ↓sxRes_tmp, ↓bxRes_cell, ↓upd_apply, ↓ev_tmp, ↓ev_const, ↓ev_global, ↓ev_func, ↓dstAt, ↓gval_some, sxOptB_some, sxOptB_ite, mm_max, mm_min, binP_shl, binP_shr, binP_int, intBin, una_not_dec, una_nt, una_nf, una_neg, aPick_true, aPick_false, sxCallVB_fn, sxCallVB_yield, sxGuardB_u, sxGuardB_tt, sxGuardB_tf, sxGuardB_ft, sxGuardB_ff, sxIfB_t, sxIfB_f, packRes_one, packRes_two, List.map_cons, List.map_nil, List.nil_append, List.cons_append, List.append_nil, ↓reduceIte, Nat.reduceEqDiff, Nat.reduceLT, dec_T, dec_F, false_imp, true_and, and_true, true_implies, implies_true, false_and, and_false, true_or, or_true, false_or, or_false, and_self, or_self, read_relow, size_relow, low_relow, relow_relow, aLoad_relow, Nat.add_zero, Nat.mul_one, one1, Option.bind_some, ne_eq, Int.natCast_nonneg, Int.toNat_natCast, not_true_eq_false, not_false_eq_true, Option.map_some, Option.map_none, *, lenI] | (with_reducible refine sxD_bar (by kernel_rfl) ?_))
    refine sxL_of (fun m ρ H5 => ∃ l : Nat, m = c.length - l ∧ k < l ∧ l ≤ c.length ∧ Keep H3 H5 ∧ (∀ j, k < j → j < l → ¬ Unf c w d k j) ∧ ρ 1 = .slice a c.length cap ∧ ρ 5 = .pointer (some ⟨H.size, 0, none⟩) ∧ ρ 8 = .int .i64 k ∧ ρ 9 = .int .i64 l)
      ⟨k + 1, rfl, by omega, by omega, k4, (fun j h1 h2 => by omega), by first | rfl | assumption, by first | rfl | assumption, by first | rfl | assumption, by first | rfl | assumption⟩ ?_
    clear e1 e5 e8 k4
    rintro m ρ H5 ⟨l, rfl, hkl, hl, k5, hall2, e1, e5, e8, e9⟩
    have k05 := k13.trans k5
    have l5 := k5.low l3
    have g5 := k5.grp g3
    by_cases hlt2 : l < c.length
    · have hlt2' : (l : Int) < (c.length : Int) := by omega
      have hw2 := wrap_succ hlt2 hml
      have hwl := hShr.1
      obtain ⟨b1, b2, b3⟩ := shr_in hP hShr hlt
      obtain ⟨b4, b5, b6⟩ := shr_in hP hShr hlt2
      have hdd := hShr.2.1
      obtain ⟨p, Ha', Ha, q, Hb', Hb, Hc', Hc, Hd', Hd, He', He, Hf', Hf, t58, Hg', Hg, t63, Hh', Hh, t68, Hi', Hi, va, vb, Hj', Hj, Hk', Hk, Hl', Hl, Hm', Hm, Hn', Hn, s1, Ho, s2, Hp, ⟨aa1, aa2, aa3, ka⟩, ⟨ab1, ab2, ab3⟩, ⟨ac1, ac2, ac3⟩, ⟨ad1, ad2, ad3⟩, ⟨ae1, ae2, ae3, ae4, ae5⟩, ⟨af1, af2, af3, af4, af5⟩, ⟨ag1, ag2⟩, ⟨ah1, ah2, ah3, kg⟩, ⟨ai1, ai2, ai3, kh⟩, ⟨aj1, aj2, aj3⟩, ⟨ak1, ak2, ak3⟩, ⟨al1, al2, al3⟩, ⟨am1, am2, am3⟩, ⟨an1, an2, an3⟩, ⟨ao1, ao2, ao3⟩, ⟨ap1, ap2⟩, ⟨aq1, aq2⟩, ⟨ar1, ar2⟩, ⟨as1, as2⟩, ko, kp, go, gp, hs1, hs2⟩ :=
        pair_step hS (w.getD k 0) (w.getD l 0) (c.getD k 0) (c.getD l 0) d H5 g5 l5 (by omega) b2 b5 b1 b4 b3 b6
      have hik := SlI_ix hc3 hlt
      have hil := SlI_ix hc3 hlt2
      have hjk := SlI_ix hl3 (show k < w.length by omega)
      have hjl := SlI_ix hl3 (show l < w.length by omega)
      have rik := ((hc3.keep (k5.trans kg)).rdI hlt).1
      have ril := ((hc3.keep (k5.trans kh)).rdI hlt2).1
      have rjk := ((hl3.keep k5).rdI (show k < w.length by omega)).1
      have rjl := ((hl3.keep (k5.trans ka)).rdI (show l < w.length by omega)).1
      have y0 := k5.read z3 m3
      have y1 := k5.read z3 m4
      have y2 := (k5.trans ka).read z3 m3
      have y3 := (k5.trans ka).read z3 m4
      have k3o := k5.trans ko
      have k3p := k5.trans kp
      have k0o := k05.trans ko
      have hU : Unf c w d k l ↔ ¬ (twice (w.getD k 0 + w.getD l 0) (c.getD k 0 * d) (c.getD l 0 * d) = 2 * w.getD k 0) := Iff.rfl
      clear ka kg kh ko kp k05
      by_cases hu : Unf c w d k l
      · have hs1' : ¬ s1 = 0 := fun h => hU.1 hu (hs1.1 h)
        have hres : Res c w d [(k : Int), (l : Int)] := .inl ⟨k, l, hkl, hlt2, rfl, hu, hall, hall2⟩
        obtain ⟨H6, e6, k6, z6, -, -⟩ := box1 Ho [.int .i64 k, .int .i64 l] 3
        have ol : Own H6 Ho.size 3 [.int .i64 k, .int .i64 l] := e6 ▸ Own.new Ho _ _
        have hmx : Go.maxLen = 9223372036854775807 := rfl
        have sl := sl2 ol (by omega) (by omega)
        have k06 := k0o.trans k6
        have g06 := k06.grp hg
        clear hc3 hl3 hP hShr ol hall hall2 b1 b2 b3 b4 b5 b6 hmx hwl hs1 hs2 hu hU m3 m4
        generalize w.getD k 0 = wk at *
        generalize w.getD l 0 = wl at *
        generalize c.getD k 0 = ck at *
        generalize c.getD l 0 = cl at *
        repeat' (first | (with_reducible refine sxGuardB_tsp (fun h => ?_) (fun h => ?_)) | (with_reducible refine sxGuardB_fsp (fun h => ?_) (fun h => ?_)) | (with_reducible refine sxIfB_sp (fun h => ?_) (fun h => ?_)) | simp only [↓sxC_skip, ↓sxC_draw, ↓sxC_region, ↓sxC_seq, ↓bxC_cond, ↓bxC_loop, ↓sxC_block, ↓sxC_exit, ↓sxC_goto, ↓sxC_ret, ↓sxOps_nil, ↓sxOps_cons, ↓sxDraw_nil, ↓bxDraw_cons, ↓sxD_same, ↓sxStep_none, ↓bxStep_some, ↓bxOp_move, ↓bxOp_assign, ↓bxOp_pick, ↓bxOp_alloc, ↓bxOp_box, ↓bxOp_build, ↓bxOp_buildSlice, ↓bxOp_load, ↓bxOp_store, ↓bxOp_nilCheck, ↓bxOp_bin, ↓bxOp_un, ↓bxOp_makeI, ↓bxOp_makeFunc, ↓bxOp_makeSlice, ↓bxOp_slice, ↓bxOp_fieldAddr, ↓bxOp_field, ↓bxOp_indexAddr, ↓bxOp_index, ↓bxOp_assert, ↓bxOp_extract, ↓bxOp_value, ↓bxOp_len, ↓bxOp_cap, ↓bxOp_append, ↓bxOp_copy, ↓bxOp_max, ↓bxOp_min, ↓bxOp_convert, ↓sxPut_none, ↓bxPut, ↓seqQ_normal, ↓seqQ_exit, ↓seqQ_ret, ↓seqQ_goto, ↓blockQ_normal, ↓blockQ_ret, ↓blockQ_goto, ↓blockQ_exit, ↓loopQ_normal, ↓loopQ_exit, ↓loopQ_ret, ↓loopQ_goto, ↓resQ_normal, ↓resQ_ret, ↓sxRes_nil, ↓sxRes_tmp, ↓bxRes_cell, ↓upd_apply, ↓ev_tmp, ↓ev_const, ↓ev_global, ↓ev_func, ↓dstAt, ↓gval_some, sxOptB_some, sxOptB_ite, mm_max, mm_min, binP_shl, binP_shr, binP_int, intBin, una_not_dec, una_nt, una_nf, una_neg, aPick_true, aPick_false, sxCallVB_fn, sxCallVB_yield, sxGuardB_u, sxGuardB_tt, sxGuardB_tf, sxGuardB_ft, sxGuardB_ff, sxIfB_t, sxIfB_f, packRes_one, packRes_two, List.map_cons, List.map_nil, List.nil_append, List.cons_append, List.append_nil, ↓reduceIte, Nat.reduceEqDiff, Nat.reduceLT, dec_T, dec_F, false_imp, true_and, and_true, true_implies, implies_true, false_and, and_false, true_or, or_true, false_or, or_false, and_self, or_self, read_relow, size_relow, low_relow, relow_relow, aLoad_relow, Nat.add_zero, Nat.mul_one, one1, Option.bind_some, ne_eq, Int.natCast_nonneg, Int.toNat_natCast, not_true_eq_false, not_false_eq_true, Option.map_some, Option.map_none, *, lenI, ldI, ldIs, paG0, paG1, bs2, Nat.zero_add, alQ, ex20, ex21] | (with_reducible refine sxD_bar (by kernel_rfl) ?_))
        exact ⟨_, _, _, _, rfl, hres, sl⟩
      · have ht := Decidable.not_not.1 (fun h => hu (hU.2 h))
        have hs1' : s1 = 0 := hs1.2 ht
        have hs2' : s2 = 0 := hs2.2 ht
        have hall3 : ∀ j, k < j → j < l + 1 → ¬ Unf c w d k j := fun j h1 h2 => by
          rcases Nat.lt_or_ge j l with h | h
          · exact hall2 j h1 h
          · rw [show j = l by omega]; exact hu
        clear hc3 hl3 hP hShr hall hall2 b1 b2 b3 b4 b5 b6 hwl hs1 hs2 hu hU ht m3 m4
        generalize w.getD k 0 = wk at *
        generalize w.getD l 0 = wl at *
        generalize c.getD k 0 = ck at *
        generalize c.getD l 0 = cl at *
        repeat' (first | (with_reducible refine sxGuardB_tsp (fun h => ?_) (fun h => ?_)) | (with_reducible refine sxGuardB_fsp (fun h => ?_) (fun h => ?_)) | (with_reducible refine sxIfB_sp (fun h => ?_) (fun h => ?_)) | simp only [↓sxC_skip, ↓sxC_draw, ↓sxC_region, ↓sxC_seq, ↓bxC_cond, ↓bxC_loop, ↓sxC_block, ↓sxC_exit, ↓sxC_goto, ↓sxC_ret, ↓sxOps_nil, ↓sxOps_cons, ↓sxDraw_nil, ↓bxDraw_cons, ↓sxD_same, ↓sxStep_none, ↓bxStep_some, ↓bxOp_move, ↓bxOp_assign, ↓bxOp_pick, ↓bxOp_alloc, ↓bxOp_box, ↓bxOp_build, ↓bxOp_buildSlice, ↓bxOp_load, ↓bxOp_store, ↓bxOp_nilCheck, ↓bxOp_bin, ↓bxOp_un, ↓bxOp_makeI, ↓bxOp_makeFunc, ↓bxOp_makeSlice, ↓bxOp_slice, ↓bxOp_fieldAddr, ↓bxOp_field, ↓bxOp_indexAddr, ↓bxOp_index, ↓bxOp_assert, ↓bxOp_extract, ↓bxOp_value, ↓bxOp_len, ↓bxOp_cap, ↓bxOp_append, ↓bxOp_copy, ↓bxOp_max, ↓bxOp_min, ↓bxOp_convert, ↓sxPut_none, ↓bxPut, ↓seqQ_normal, ↓seqQ_exit, ↓seqQ_ret, ↓seqQ_goto, ↓blockQ_normal, ↓blockQ_ret, ↓blockQ_goto, ↓blockQ_exit, ↓loopQ_normal, ↓loopQ_exit, ↓loopQ_ret, ↓loopQ_goto, ↓resQ_normal, ↓resQ_ret, ↓sxRes_nil, ↓sxRes_tmp, ↓bxRes_cell, ↓upd_apply, ↓ev_tmp, ↓ev_const, ↓ev_global, ↓ev_func, ↓dstAt, ↓gval_some, sxOptB_some, sxOptB_ite, mm_max, mm_min, binP_shl, binP_shr, binP_int, intBin, una_not_dec, una_nt, una_nf, una_neg, aPick_true, aPick_false, sxCallVB_fn, sxCallVB_yield, sxGuardB_u, sxGuardB_tt, sxGuardB_tf, sxGuardB_ft, sxGuardB_ff, sxIfB_t, sxIfB_f, packRes_one, packRes_two, List.map_cons, List.map_nil, List.nil_append, List.cons_append, List.append_nil, ↓reduceIte, Nat.reduceEqDiff, Nat.reduceLT, dec_T, dec_F, false_imp, true_and, and_true, true_implies, implies_true, false_and, and_false, true_or, or_true, false_or, or_false, and_self, or_self, read_relow, size_relow, low_relow, relow_relow, aLoad_relow, Nat.add_zero, Nat.mul_one, one1, Option.bind_some, ne_eq, Int.natCast_nonneg, Int.toNat_natCast, not_true_eq_false, not_false_eq_true, Option.map_some, Option.map_none, *, lenI, ldI, ldIs, paG0, paG1, bs2, Nat.zero_add, alQ, ex20, ex21] | (with_reducible refine sxD_bar (by kernel_rfl) ?_))
        exact ⟨_, by omega, l + 1, rfl, by omega, by omega, hall3, rfl⟩
    · have hlt2' : ¬ (l : Int) < (c.length : Int) := by omega
      have hall3 : ∀ i j, i < k + 1 → i < j → j < c.length → ¬ Unf c w d i j := fun i j h1 h2 h3 => by
        rcases Nat.lt_or_ge i k with h | h
        · exact hall i j h h2 h3
        · obtain rfl : i = k := by omega
          exact hall2 j h2 (by omega)
      clear hc3 hl3 hP hShr hall hall2
      repeat' (first | (with_reducible refine sxGuardB_tsp (fun h => ?_) (fun h => ?_)) | (with_reducible refine sxGuardB_fsp (fun h => ?_) (fun h => ?_)) | (with_reducible refine sxIfB_sp (fun h => ?_) (fun h => ?_)) | simp only [↓sxC_skip, ↓sxC_draw, ↓sxC_region, ↓sxC_seq, ↓bxC_cond, ↓bxC_loop, ↓sxC_block, ↓sxC_exit, ↓sxC_goto, ↓sxC_ret, ↓sxOps_nil, ↓sxOps_cons, ↓sxDraw_nil, ↓bxDraw_cons, ↓sxD_same, ↓sxStep_none, ↓bxStep_some, ↓bxOp_move, ↓bxOp_assign, ↓bxOp_pick, ↓bxOp_alloc, ↓bxOp_box, ↓bxOp_build, ↓bxOp_buildSlice, ↓bxOp_load, ↓bxOp_store, ↓bxOp_nilCheck, ↓bxOp_bin, ↓bxOp_un, ↓bxOp_makeI, ↓bxOp_makeFunc, ↓bxOp_makeSlice, ↓bxOp_slice, ↓bxOp_fieldAddr, ↓bxOp_field, ↓bxOp_indexAddr, ↓bxOp_index, ↓bxOp_assert, ↓bxOp_extract, ↓bxOp_value, ↓bxOp_len, ↓bxOp_cap, ↓bxOp_append, ↓bxOp_copy, ↓bxOp_max, ↓bxOp_min, ↓bxOp_convert, ↓sxPut_none, ↓bxPut, ↓seqQ_normal, ↓seqQ_exit, ↓seqQ_ret, ↓seqQ_goto, ↓blockQ_normal, ↓blockQ_ret, ↓blockQ_goto, ↓blockQ_exit, ↓loopQ_normal, ↓loopQ_exit, ↓loopQ_ret, ↓loopQ_goto, ↓resQ_normal, ↓resQ_ret, ↓sxRes_nil, ↓sxRes_tmp, ↓bxRes_cell, ↓upd_apply, ↓ev_tmp, ↓ev_const, ↓ev_global, ↓ev_func, ↓dstAt, ↓gval_some, sxOptB_some, sxOptB_ite, mm_max, mm_min, binP_shl, binP_shr, binP_int, intBin, una_not_dec, una_nt, una_nf, una_neg, aPick_true, aPick_false, sxCallVB_fn, sxCallVB_yield, sxGuardB_u, sxGuardB_tt, sxGuardB_tf, sxGuardB_ft, sxGuardB_ff, sxIfB_t, sxIfB_f, packRes_one, packRes_two, List.map_cons, List.map_nil, List.nil_append, List.cons_append, List.append_nil, ↓reduceIte, Nat.reduceEqDiff, Nat.reduceLT, dec_T, dec_F, false_imp, true_and, and_true, true_implies, implies_true, false_and, and_false, true_or, or_true, false_or, or_false, and_self, or_self, read_relow, size_relow, low_relow, relow_relow, aLoad_relow, Nat.add_zero, Nat.mul_one, one1, Option.bind_some, ne_eq, Int.natCast_nonneg, Int.toNat_natCast, not_true_eq_false, not_false_eq_true, Option.map_some, Option.map_none, *, lenI] | (with_reducible refine sxD_bar (by kernel_rfl) ?_))
      exact ⟨_, by omega, k + 1, rfl, by omega, hall3, rfl⟩
  · have hlt' : ¬ (k : Int) < (c.length : Int) := by omega
    have hres : Res c w d [] := .inr ⟨rfl, fun i j h1 h2 => hall i j (by omega) h1 h2⟩
    have sl := SlI_nil (k := .i64) H4
    have k04 := k13.trans k4
    have g04 := k04.grp hg
    clear hc3 hl3 hP hShr hall
    repeat' (first | (with_reducible refine sxGuardB_tsp (fun h => ?_) (fun h => ?_)) | (with_reducible refine sxGuardB_fsp (fun h => ?_) (fun h => ?_)) | (with_reducible refine sxIfB_sp (fun h => ?_) (fun h => ?_)) | simp only [↓sxC_skip, ↓sxC_draw, ↓sxC_region, ↓sxC_seq, ↓bxC_cond, ↓bxC_loop, ↓sxC_block, ↓sxC_exit, ↓sxC_goto, ↓sxC_ret, ↓sxOps_nil, ↓sxOps_cons, ↓sxDraw_nil, ↓bxDraw_cons, ↓sxD_same, ↓sxStep_none, ↓bxStep_some, ↓bxOp_move, ↓bxOp_assign, ↓bxOp_pick, ↓bxOp_alloc, ↓bxOp_box, ↓bxOp_build, ↓bxOp_buildSlice, ↓bxOp_load, ↓bxOp_store, ↓bxOp_nilCheck, ↓bxOp_bin, ↓bxOp_un, ↓bxOp_makeI, ↓bxOp_makeFunc, ↓bxOp_makeSlice, ↓bxOp_slice, ↓bxOp_fieldAddr, ↓bxOp_field, ↓bxOp_indexAddr, ↓bxOp_index, ↓bxOp_assert, ↓bxOp_extract, ↓bxOp_value, ↓bxOp_len, ↓bxOp_cap, ↓bxOp_append, ↓bxOp_copy, ↓bxOp_max, ↓bxOp_min, ↓bxOp_convert, ↓sxPut_none, ↓bxPut, ↓seqQ_normal, ↓seqQ_exit, ↓seqQ_ret, ↓seqQ_goto, ↓blockQ_normal, ↓blockQ_ret, ↓blockQ_goto, ↓blockQ_exit, ↓loopQ_normal, ↓loopQ_exit, ↓loopQ_ret, ↓loopQ_goto, ↓resQ_normal, ↓resQ_ret, ↓sxRes_nil, ↓sxRes_tmp, ↓bxRes_cell, ↓upd_apply, ↓ev_tmp, ↓ev_const, ↓ev_global, ↓ev_func, ↓dstAt, ↓gval_some, sxOptB_some, sxOptB_ite, mm_max, mm_min, binP_shl, binP_shr, binP_int, intBin, una_not_dec, una_nt, una_nf, una_neg, aPick_true, aPick_false, sxCallVB_fn, sxCallVB_yield, sxGuardB_u, sxGuardB_tt, sxGuardB_tf, sxGuardB_ft, sxGuardB_ff, sxIfB_t, sxIfB_f, packRes_one, packRes_two, List.map_cons, List.map_nil, List.nil_append, List.cons_append, List.append_nil, ↓reduceIte, Nat.reduceEqDiff, Nat.reduceLT, dec_T, dec_F, false_imp, true_and, and_true, true_implies, implies_true, false_and, and_false, true_or, or_true, false_or, or_false, and_self, or_self, read_relow, size_relow, low_relow, relow_relow, aLoad_relow, Nat.add_zero, Nat.mul_one, one1, Option.bind_some, ne_eq, Int.natCast_nonneg, Int.toNat_natCast, not_true_eq_false, not_false_eq_true, Option.map_some, Option.map_none, *, lenI] | (with_reducible refine sxD_bar (by kernel_rfl) ?_))
    exact ⟨_, _, _, _, rfl, hres, sl⟩
end Go.Proofs.YtmcomjgebcemdaaGreat
