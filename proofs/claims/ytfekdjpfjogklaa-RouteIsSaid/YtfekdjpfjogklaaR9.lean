/- The reference's Joins and Is. -/
import Derived.Test.YtfekdjpfjogklaaR3
import Derived.Test.YtfekdjpfjogklaaR8
set_option linter.unusedVariables false
set_option linter.unusedSimpArgs false
set_option linter.unusedSectionVars false

namespace Go.Proofs.Ytfekdjpfjogklaa
set_option linter.unusedSectionVars false
open Go Go.AM
set_option maxRecDepth 10000
set_option linter.unusedSimpArgs false
set_option linter.unusedVariables false

def RsJ (ls : List Lg) (ch fr to at' : Int) (js : List Int) (b : Bool) : Prop :=
  (js.length = 0 → b = decide (fr = to)) ∧
  (js.length ≠ 0 → (b = true ↔ AllOk ls ch js js.length ∧ ((ls.getD (js.getD 0 0).toNat default).f = fr ∧ at' ≤ (ls.getD (js.getD 0 0).toNat default).d) ∧
    (ls.getD (js.getD (js.length - 1) 0).toNat default).t = to))
def PostR (H : Heap) (J : Bool → Prop) (u : Value) (H' : Heap) : Prop := ∃ b, u = .tuple ⟨[.bool b, .int .i64 0]⟩ ∧ Keep H H' ∧ J b
theorem PostR.no {H H' : Heap} {ls : List Lg} {ch fr to at' : Int} {js : List Int} {k : Nat} (hk : k < js.length) (h : ¬ OkAt ls ch js k) (hK : Keep H H') : PostR H (RsJ ls ch fr to at' js) (.tuple ⟨[.bool false, .int .i64 0]⟩) H' :=
  ⟨false, rfl, hK, fun h0 => absurd h0 (by omega), fun _ => ⟨fun hh => (by cases hh), fun hh => absurd (hh.1 k hk) h⟩⟩

variable {S : AM.Sys} (hS : Only S 11)
include hS

theorem joins_runs (x y : Lg) (ch : Int) (hf : Fit ch x) (H : Heap) : ∃ H', Keep H H' ∧ Runs Try.prog S (.fn 42) [.agg ⟨lc x⟩, .agg ⟨lc y⟩, .int .i64 ch] H (.bool (joinB ch x y)) H' := by
  suffices h : WCall Try.prog S (.fn 42) [.agg ⟨lc x⟩, .agg ⟨lc y⟩, .int .i64 ch] H (fun u H' => u = .bool (joinB ch x y) ∧ Keep H H') by
    obtain ⟨_, H', hr, rfl, hk⟩ := h; exact ⟨H', hk, hr⟩
  obtain ⟨H1, e1, hK1, g5, g0, g1, g2, g3, g4⟩ := boxG H x
  obtain ⟨H2, e2, hK2, p5, p0, p1, p2, p3, p4⟩ := boxG H1 y
  have hK := hK1.trans hK2
  have hz : H.size < H1.size := by rw [← e1, size_new]; omega
  have q1 := hK2.read hz g1
  have q3 := hK2.read hz g3
  have q4 := hK2.read hz g4
  have hw : IntKind.i64.wrap (x.a + ch) = x.a + ch := IntWalk.i64_in _ (by have := hf.1; have := hf.2; omega)
  clear g0 g1 g2 g3 g4 g5 p5 hz hK1 hK2 hf
  have hgo : ∃ b, b = joinB ch x y := ⟨_, rfl⟩
  obtain ⟨b, hb⟩ := hgo
  rw [← hb]
  unfold joinB at hb
  refine call_of Try.func42 rfl (Nat.le_of_ble_eq_true rfl) (hS.no rfl _ _) ?_
  rw [Try.ntmps42, Try.results42]
  by_cases c2 : x.t = y.f
  · by_cases c1 : x.l = y.l
    · rw [if_pos c1] at hb
      by_cases c3 : x.a ≤ y.d
      · replace hb : b = true := by rw [hb]; exact decide_eq_true ⟨c2.symm, c3⟩
        repeat' (first | (with_reducible refine sxGuardB_tsp (fun h => ?_) (fun h => ?_)) | (with_reducible refine sxGuardB_fsp (fun h => ?_) (fun h => ?_)) | (with_reducible refine sxIfB_sp (fun h => ?_) (fun h => ?_)) | simp only [↓sxC_skip, ↓sxC_region, ↓sxC_seq, ↓bxC_cond, ↓sxC_ret, ↓sxOps_nil, ↓sxOps_cons, ↓sxStep_none, ↓bxOp_move, ↓bxOp_assign, ↓bxOp_box, ↓bxOp_load, ↓bxOp_bin, ↓bxOp_fieldAddr, ↓bxPut, ↓seqQ_normal, ↓seqQ_ret, ↓resQ_ret, ↓sxRes_nil, ↓sxRes_tmp, ↓upd_apply, ↓ev_tmp, ↓ev_const, sxOptB_some, binP_int, intBin, sxIfB_t, sxIfB_f, packRes_one, ↓reduceIte, Nat.reduceEqDiff, Nat.reduceLT, dec_T, dec_F, and_self, Nat.add_zero, one1, Option.bind_some, not_true_eq_false, *, argF, List.getD_cons_zero, List.getD_cons_succ, cells_agg, faG0, faG1, faG2, faG3, faG4, ldC, one1] | (with_reducible refine sxDL_barE (by assumption) (by decide +kernel) ?_) | (with_reducible refine sxDL_bar (by decide +kernel) ?_) | (with_reducible refine sxD_bar (by decide +kernel) ?_) | (with_reducible refine sxDL_callD ?_))
      · replace hb : b = false := by rw [hb]; exact decide_eq_false fun h => c3 h.2
        repeat' (first | (with_reducible refine sxGuardB_tsp (fun h => ?_) (fun h => ?_)) | (with_reducible refine sxGuardB_fsp (fun h => ?_) (fun h => ?_)) | (with_reducible refine sxIfB_sp (fun h => ?_) (fun h => ?_)) | simp only [↓sxC_skip, ↓sxC_region, ↓sxC_seq, ↓bxC_cond, ↓sxC_ret, ↓sxOps_nil, ↓sxOps_cons, ↓sxStep_none, ↓bxOp_move, ↓bxOp_assign, ↓bxOp_box, ↓bxOp_load, ↓bxOp_bin, ↓bxOp_fieldAddr, ↓bxPut, ↓seqQ_normal, ↓seqQ_ret, ↓resQ_ret, ↓sxRes_nil, ↓sxRes_tmp, ↓upd_apply, ↓ev_tmp, ↓ev_const, sxOptB_some, binP_int, intBin, sxIfB_t, sxIfB_f, packRes_one, ↓reduceIte, Nat.reduceEqDiff, Nat.reduceLT, dec_T, dec_F, and_self, Nat.add_zero, one1, Option.bind_some, not_true_eq_false, *, argF, List.getD_cons_zero, List.getD_cons_succ, cells_agg, faG0, faG1, faG2, faG3, faG4, ldC, one1] | (with_reducible refine sxDL_barE (by assumption) (by decide +kernel) ?_) | (with_reducible refine sxDL_bar (by decide +kernel) ?_) | (with_reducible refine sxD_bar (by decide +kernel) ?_) | (with_reducible refine sxDL_callD ?_))
    · rw [if_neg c1] at hb
      by_cases c3 : x.a + ch ≤ y.d
      · replace hb : b = true := by rw [hb]; exact decide_eq_true ⟨c2.symm, c3⟩
        repeat' (first | (with_reducible refine sxGuardB_tsp (fun h => ?_) (fun h => ?_)) | (with_reducible refine sxGuardB_fsp (fun h => ?_) (fun h => ?_)) | (with_reducible refine sxIfB_sp (fun h => ?_) (fun h => ?_)) | simp only [↓sxC_skip, ↓sxC_region, ↓sxC_seq, ↓bxC_cond, ↓sxC_ret, ↓sxOps_nil, ↓sxOps_cons, ↓sxStep_none, ↓bxOp_move, ↓bxOp_assign, ↓bxOp_box, ↓bxOp_load, ↓bxOp_bin, ↓bxOp_fieldAddr, ↓bxPut, ↓seqQ_normal, ↓seqQ_ret, ↓resQ_ret, ↓sxRes_nil, ↓sxRes_tmp, ↓upd_apply, ↓ev_tmp, ↓ev_const, sxOptB_some, binP_int, intBin, sxIfB_f, packRes_one, ↓reduceIte, Nat.reduceEqDiff, Nat.reduceLT, dec_T, dec_F, and_self, Nat.add_zero, one1, Option.bind_some, not_true_eq_false, *, argF, List.getD_cons_zero, List.getD_cons_succ, cells_agg, faG0, faG1, faG2, faG3, faG4, ldC, one1] | (with_reducible refine sxDL_barE (by assumption) (by decide +kernel) ?_) | (with_reducible refine sxDL_bar (by decide +kernel) ?_) | (with_reducible refine sxD_bar (by decide +kernel) ?_) | (with_reducible refine sxDL_callD ?_))
      · replace hb : b = false := by rw [hb]; exact decide_eq_false fun h => c3 h.2
        repeat' (first | (with_reducible refine sxGuardB_tsp (fun h => ?_) (fun h => ?_)) | (with_reducible refine sxGuardB_fsp (fun h => ?_) (fun h => ?_)) | (with_reducible refine sxIfB_sp (fun h => ?_) (fun h => ?_)) | simp only [↓sxC_skip, ↓sxC_region, ↓sxC_seq, ↓bxC_cond, ↓sxC_ret, ↓sxOps_nil, ↓sxOps_cons, ↓sxStep_none, ↓bxOp_move, ↓bxOp_assign, ↓bxOp_box, ↓bxOp_load, ↓bxOp_bin, ↓bxOp_fieldAddr, ↓bxPut, ↓seqQ_normal, ↓seqQ_ret, ↓resQ_ret, ↓sxRes_nil, ↓sxRes_tmp, ↓upd_apply, ↓ev_tmp, ↓ev_const, sxOptB_some, binP_int, intBin, sxIfB_f, packRes_one, ↓reduceIte, Nat.reduceEqDiff, Nat.reduceLT, dec_F, and_self, Nat.add_zero, one1, Option.bind_some, not_true_eq_false, *, argF, List.getD_cons_zero, List.getD_cons_succ, cells_agg, faG0, faG1, faG2, faG3, faG4, ldC, one1] | (with_reducible refine sxDL_barE (by assumption) (by decide +kernel) ?_) | (with_reducible refine sxDL_bar (by decide +kernel) ?_) | (with_reducible refine sxD_bar (by decide +kernel) ?_) | (with_reducible refine sxDL_callD ?_))
  · replace hb : b = false := by rw [hb]; exact decide_eq_false fun h => c2 h.1.symm
    repeat' (first | (with_reducible refine sxGuardB_tsp (fun h => ?_) (fun h => ?_)) | (with_reducible refine sxGuardB_fsp (fun h => ?_) (fun h => ?_)) | (with_reducible refine sxIfB_sp (fun h => ?_) (fun h => ?_)) | simp only [↓sxC_skip, ↓sxC_region, ↓sxC_seq, ↓bxC_cond, ↓sxC_ret, ↓sxOps_nil, ↓sxOps_cons, ↓sxStep_none, ↓bxOp_move, ↓bxOp_assign, ↓bxOp_box, ↓bxOp_load, ↓bxOp_bin, ↓bxOp_fieldAddr, ↓bxPut, ↓seqQ_normal, ↓seqQ_ret, ↓resQ_ret, ↓sxRes_nil, ↓sxRes_tmp, ↓upd_apply, ↓ev_tmp, ↓ev_const, sxOptB_some, binP_int, intBin, sxIfB_t, packRes_one, ↓reduceIte, Nat.reduceEqDiff, Nat.reduceLT, dec_T, and_self, Nat.add_zero, one1, Option.bind_some, not_false_eq_true, *, argF, List.getD_cons_zero, List.getD_cons_succ, cells_agg, faG0, faG1, ldC, one1] | (with_reducible refine sxDL_barE (by assumption) (by decide +kernel) ?_) | (with_reducible refine sxDL_bar (by decide +kernel) ?_) | (with_reducible refine sxD_bar (by decide +kernel) ?_) | (with_reducible refine sxDL_callD ?_))
end Go.Proofs.Ytfekdjpfjogklaa
