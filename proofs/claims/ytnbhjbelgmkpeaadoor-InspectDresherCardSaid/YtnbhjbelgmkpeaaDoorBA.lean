/- Whole numbers of any size, continued: the number with the other sign. -/
import Derived.Test.YtnbhjbelgmkpeaaDoorB9
set_option linter.unusedVariables false
set_option linter.unusedSimpArgs false
set_option linter.unusedSectionVars false

namespace Go.Proofs.YtnbhjbelgmkpeaaDoor
open Go Go.AM
set_option maxRecDepth 10000
set_option linter.unusedSimpArgs false

variable {S : AM.Sys} (hS : Only S 10)
include hS

theorem Neg_runs (v1 : Value) (x : Int) (l1 : Nat) (H : Heap) (hg : Grp H) (hL : H.low ≤ H.size) (h1 : BigIs H v1 x l1) (hl1 : l1 ≤ 1000) : BigOut S 88 [v1] H (0 - x) l1 := by
  suffices h : WCall Tryd.prog S (.fn 88) [v1] H (fun v H' => Keep H H' ∧ Grp H' ∧ BigIs H' v (0 - x) l1) by
    obtain ⟨v, H', hr, h1, h2, h3⟩ := h; exact ⟨H', v, h1, h2, h3, hr⟩
  obtain ⟨u1, w1, r1, o1, rfl, s1, d1, n1, e1, g1⟩ := h1
  obtain ⟨a1, c1, rfl⟩ := s1.v0
  obtain ⟨H1, b1, hK1, hs1, zz1, hr1⟩ := box1 H [.bool (decide (x < 0)), .slice a1 w1.length c1] 50
  obtain ⟨H3, b3, hK3, hs3, zz3, _⟩ := box1 H1 [.bool false, .slice none 0 0] 50
  have ow : Own H3 H1.size 50 [.bool false, .slice none 0 0] := b3 ▸ Own.new H1 _ _
  clear zz1 zz3
  have q0 := hK3.read hs1 (hr1 0 1 (show 0 + 1 ≤ 2 by omega))
  have q1 := hK3.read hs1 (hr1 1 1 (show 1 + 1 ≤ 2 by omega))
  replace q0 : H3.read H.size 0 1 = some [.bool (decide (x < 0))] := q0
  replace q1 : H3.read H.size 1 1 = some [.slice a1 w1.length c1] := q1
  have hK03 := hK1.trans hK3
  have hL3 := hK03.low hL
  have hg3 := hK03.grp hg
  have hob2 := whole_runs hS (!(decide (x < 0))) (.slice a1 w1.length c1) w1 r1 o1 H3 hg3 hL3 (s1.keep hK03) (by omega)
  obtain ⟨H6, v6, r6, o6, hK6, hg6, s6, hF6, hfr6, hR6⟩ := hob2
  have ow6 := ow.keep hK6
  obtain ⟨a6, c6, rfl⟩ := s6.v0
  have hob3 := stBig ow6 rfl (!(decide (x < 0)) && decide (0 < (trimL w1).length)) a6 (trimL w1).length c6
  obtain ⟨H8, ps, q8, hsz8, hkp⟩ := hob3
  have hK06 := hK03.trans hK6
  have hK8 := hkp H hK06 hK1.size
  have hg8 := hK8.grp hg
  have s8 := SlE.other ow6 ps hsz8 s6 (fun h0 => by
    have h5 := hfr6 h0
    have := ow.lt
    omega)
  have hbig : BigIs H8 (.agg ⟨[.bool (!(decide (x < 0)) && decide (0 < (trimL w1).length)), .slice a6 (trimL w1).length c6]⟩) (0 - x) l1 := by
    have hvt : val (trimL w1) = (0 - x).natAbs := by
      rw [trimL_val, e1]; omega
    have htd := trimL_digs d1
    have htn := trimL_norm w1
    have hsg : (!(decide (x < 0)) && decide (0 < (trimL w1).length)) = decide (0 - x < 0) := by
      have hpos := val_zero htd htn
      rw [hvt] at hpos
      by_cases hx : x < 0
      · have h0 : ¬ (0 - x < 0) := by omega
        simp only [decide_eq_true hx, decide_eq_false h0]; rfl
      · by_cases h0 : 0 - x < 0
        · have hl : 0 < (trimL w1).length := hpos.2 (by omega)
          simp only [decide_eq_false hx, decide_eq_true h0, decide_eq_true hl]; rfl
        · have hl : ¬ 0 < (trimL w1).length := fun h => by have := hpos.1 h; omega
          simp only [decide_eq_false hx, decide_eq_false h0, decide_eq_false hl]; rfl
    exact ⟨_, trimL w1, r6, o6, by rw [hsg], s8, htd, htn, hvt, by have := trimL_le w1; omega⟩
  have f6 := hR6.bx
  have hc1 : (Value.agg ⟨[.bool (decide (x < 0)), .slice a1 w1.length c1]⟩).cells.toList = [.bool (decide (x < 0)), .slice a1 w1.length c1] := rfl
  refine call_of Tryd.func88 rfl (Nat.le_of_ble_eq_true rfl) (hS.no rfl _ _) ?_
  rw [Tryd.ntmps88, Tryd.results88]
  clear hR6 s1 s6 s8 ow ow6 hkp hfr6 hr1 d1 n1 e1 g1 hsz8
  generalize decide (x < 0) = sx at *
  generalize (!sx && decide (0 < (trimL w1).length)) = sg at *
  generalize (trimL w1).length = tl at *
  have hnot : una UnOp.not (Value.bool sx) = some (.bool (!sx)) := rfl
  repeat' (first | (with_reducible refine sxGuardB_tsp (fun h => ?_) (fun h => ?_)) | (with_reducible refine sxGuardB_fsp (fun h => ?_) (fun h => ?_)) | (with_reducible refine sxIfB_sp (fun h => ?_) (fun h => ?_)) | simp only [↓sxC_skip, ↓sxC_draw, ↓sxC_region, ↓sxC_seq, ↓bxC_cond, ↓bxC_loop, ↓sxC_block, ↓sxC_exit, ↓sxC_goto, ↓sxC_ret, ↓sxOps_nil, ↓sxOps_cons, ↓sxDraw_nil, ↓bxDraw_cons, ↓sxDL_move, ↓sxDL_assign, ↓sxDL_pick, ↓sxDL_alloc, ↓sxDL_box, ↓sxDL_build, ↓sxDL_buildSlice, ↓sxDL_insert, ↓sxDL_load, ↓sxDL_nilCheck, ↓sxDL_binOp, ↓sxDL_unOp, ↓sxDL_convert, ↓sxDL_makeInterface, ↓sxDL_makeFunc, ↓sxDL_makeMap, ↓sxDL_makeSlice, ↓sxDL_slice, ↓sxDL_fieldAddr, ↓sxDL_field, ↓sxDL_indexAddr, ↓sxDL_index, ↓sxDL_typeAssert, ↓sxDL_extract, ↓sxDL_call, ↓sxDL_lookup, ↓sxDL_mapUpdate, ↓sxDL_range, ↓sxDL_next, ↓sxDL_entry, ↓sxDL_mapEntry, ↓sxDL_entryStore, ↓sxD_same, ↓sxStep_none, ↓bxStep_some, ↓bxOp_move, ↓bxOp_assign, ↓bxOp_pick, ↓bxOp_alloc, ↓bxOp_box, ↓bxOp_build, ↓bxOp_buildSlice, ↓bxOp_load, ↓bxOp_store, ↓bxOp_nilCheck, ↓bxOp_bin, ↓bxOp_un, ↓bxOp_makeI, ↓bxOp_makeFunc, ↓bxOp_makeSlice, ↓bxOp_slice, ↓bxOp_fieldAddr, ↓bxOp_field, ↓bxOp_indexAddr, ↓bxOp_index, ↓bxOp_assert, ↓bxOp_extract, ↓bxOp_value, ↓bxOp_len, ↓bxOp_cap, ↓bxOp_append, ↓bxOp_copy, ↓bxOp_max, ↓bxOp_min, ↓bxOp_convert, ↓sxPut_none, ↓bxPut, ↓seqQ_normal, ↓seqQ_exit, ↓seqQ_ret, ↓seqQ_goto, ↓blockQ_normal, ↓blockQ_ret, ↓blockQ_goto, ↓blockQ_exit, ↓loopQ_normal, ↓loopQ_exit, ↓loopQ_ret, ↓loopQ_goto, ↓resQ_normal, ↓resQ_ret, ↓sxRes_nil, ↓sxRes_tmp, ↓bxRes_cell, ↓upd_apply, ↓ev_tmp, ↓ev_const, ↓ev_global, ↓ev_func, ↓dstAt, ↓gval_some, sxOptB_some, sxOptB_ite, mm_max, mm_min, binP_shl, binP_shr, binP_int, intBin, una_not_dec, una_nt, una_nf, una_neg, aPick_true, aPick_false, sxCallVB_fn, sxCallVB_yield, sxGuardB_u, sxGuardB_tt, sxGuardB_tf, sxGuardB_ft, sxGuardB_ff, sxIfB_t, sxIfB_f, packRes_one, packRes_two, List.map_cons, List.map_nil, List.nil_append, List.cons_append, List.append_nil, ↓reduceIte, Nat.reduceEqDiff, Nat.reduceLT, dec_T, dec_F, false_imp, true_and, and_true, true_implies, implies_true, false_and, and_false, true_or, or_true, false_or, or_false, and_self, or_self, read_relow, size_relow, low_relow, relow_relow, aLoad_relow, Nat.add_zero, Nat.mul_one, one1, Option.bind_some, ne_eq, Int.natCast_nonneg, Int.toNat_natCast, not_true_eq_false, not_false_eq_true, Option.map_some, Option.map_none, *, argF, List.getD_cons_zero, List.getD_cons_succ, lenI, alBig, ldBig, faG0, faG1, ldB4, ldIs, neqB, hnot, hc1, Nat.zero_add] | (with_reducible refine sxDL_bar (by decide +kernel) ?_) | (with_reducible refine sxD_bar (by decide +kernel) ?_))
end Go.Proofs.YtnbhjbelgmkpeaaDoor
