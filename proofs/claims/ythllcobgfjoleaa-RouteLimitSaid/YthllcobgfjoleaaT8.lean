/- Are points the same; the law RouteLooks on the canonical machine. -/
import Derived.Test.YthllcobgfjoleaaT7
set_option linter.unusedVariables false
set_option linter.unusedSimpArgs false
set_option linter.unusedSectionVars false

namespace Go.Proofs.Ythllcobgfjoleaa
set_option linter.unusedSectionVars false
open Go Go.AM
set_option maxRecDepth 10000
set_option linter.unusedSimpArgs false
set_option linter.unusedVariables false

theorem neS (a b c d : Int) : binP Try.prog .neq 40 (.agg ⟨[.int .i64 a, .int .i64 b]⟩) (.agg ⟨[.int .i64 c, .int .i64 d]⟩) = some (.bool (decide (¬ [a, b] = [c, d]))) := by
  have h := (binP_eqlS (P := Try.prog) (t := 40) (ty := 3) (k := .i64) Try.underlying40 (by kernel_rfl) (by kernel_rfl) Try.underlying3 (by kernel_rfl) [a, b] [c, d] rfl rfl (fun i hi => by
    match i, hi with
    | 0, _ => exact ⟨rfl, rfl, show ("Dep" : String) ≠ "_" by decide⟩
    | 1, _ => exact ⟨rfl, rfl, show ("Arr" : String) ≠ "_" by decide⟩)).2
  exact h
theorem eqN (a b : Int) : binP Try.prog .eql 26 (.int .i64 a) (.int .i64 b) = some (.bool (decide (a = b))) := by kernel_rfl

variable {S : AM.Sys} (hS : Only S 11)
include hS

theorem stopsEq_runs (w : List Pt) (v v2 : Value) (r o r2 o2 : Nat) (H : Heap) (hL : H.low ≤ H.size) (h1 : SlP H v w r o) (h2 : SlP H v2 w r2 o2) : Runs Try.prog S (.fn 22) [v, v2] H (.bool true) H := by
  suffices h : WCall Try.prog S (.fn 22) [v, v2] H (fun u H' => u = .bool true ∧ H' = H) by
    obtain ⟨_, _, hr, rfl, rfl⟩ := h; exact hr
  obtain ⟨a, c, rfl⟩ := h1.v0
  obtain ⟨a2, c2, rfl⟩ := h2.v0
  have d0 : decide (¬ ((w.length : Nat) : Int) = ((w.length : Nat) : Int)) = false := decide_eq_false fun h => h rfl
  refine call_of Try.func22 rfl (Nat.le_of_ble_eq_true rfl) (hS.no rfl _ _) ?_
  rw [Try.ntmps22, Try.results22]
  repeat' (first | (with_reducible refine sxGuardB_tsp (fun h => ?_) (fun h => ?_)) | (with_reducible refine sxGuardB_fsp (fun h => ?_) (fun h => ?_)) | (with_reducible refine sxIfB_sp (fun h => ?_) (fun h => ?_)) | simp only [↓sxC_skip, ↓sxC_region, ↓sxC_seq, ↓bxC_cond, ↓bxC_loop, ↓sxC_block, ↓sxC_ret, ↓sxOps_nil, ↓sxOps_cons, ↓sxStep_none, ↓bxOp_move, ↓bxOp_assign, ↓bxOp_bin, ↓bxOp_len, ↓bxPut, ↓seqQ_normal, ↓seqQ_ret, ↓resQ_ret, ↓sxRes_nil, ↓sxRes_tmp, ↓upd_apply, ↓ev_tmp, ↓ev_const, sxOptB_some, binP_int, intBin, sxIfB_f, packRes_one, ↓reduceIte, Nat.reduceEqDiff, Nat.reduceLT, dec_F, not_true_eq_false, *, argF, List.getD_cons_zero, List.getD_cons_succ, lenS] | (with_reducible refine sxDL_barE (by assumption) (by decide +kernel) ?_) | (with_reducible refine sxDL_bar (by decide +kernel) ?_) | (with_reducible refine sxD_bar (by decide +kernel) ?_) | (with_reducible refine sxDL_callD ?_))
  refine sxL_of (fun m ρ H1 => ∃ k : Nat, m = w.length - k ∧ k ≤ w.length ∧ H1 = H ∧ ρ 0 = .slice a w.length c ∧ ρ 1 = .slice a2 w.length c2 ∧ ρ 5 = .int .i64 (k : Int))
    ⟨0, rfl, Nat.zero_le _, rfl, rfl, rfl, rfl⟩ ?_
  rintro m ρ H1 ⟨k, rfl, hk, rfl, e0, e1, e5⟩
  by_cases hlt : k < w.length
  · have hlt' : (k : Int) < (w.length : Int) := by omega
    have hw := wrap_succ hlt h1.ml
    have hob := SlP_at h1 hlt
    obtain ⟨q, hix, hrd, _⟩ := hob
    have hob2 := SlP_at h2 hlt
    obtain ⟨q2, hix2, hrd2, _⟩ := hob2
    have hgx : ∃ x, x = w.getD k default := ⟨_, rfl⟩
    obtain ⟨x, hx⟩ := hgx
    rw [← hx] at hrd hrd2
    unfold pc at hrd hrd2
    have hne : binP Try.prog .neq 40 (.agg ⟨[.int .i64 x.1, .int .i64 x.2]⟩) (.agg ⟨[.int .i64 x.1, .int .i64 x.2]⟩) = some (.bool false) := by rw [neS, decide_eq_false fun h => h rfl]
    clear h1 h2 hx d0
    repeat' (first | (with_reducible refine sxGuardB_tsp (fun h => ?_) (fun h => ?_)) | (with_reducible refine sxGuardB_fsp (fun h => ?_) (fun h => ?_)) | (with_reducible refine sxIfB_sp (fun h => ?_) (fun h => ?_)) | simp only [↓sxC_skip, ↓sxC_draw, ↓sxC_region, ↓sxC_seq, ↓bxC_cond, ↓sxC_block, ↓sxC_exit, ↓sxC_ret, ↓sxOps_nil, ↓sxOps_cons, ↓sxDraw_nil, ↓bxDraw_cons, ↓sxDL_move, ↓sxDL_load, ↓sxDL_binOp, ↓sxDL_indexAddr, ↓sxD_same, ↓sxStep_none, ↓bxOp_move, ↓bxOp_assign, ↓bxOp_load, ↓bxOp_bin, ↓bxOp_indexAddr, ↓bxOp_len, ↓bxPut, ↓seqQ_normal, ↓seqQ_exit, ↓seqQ_ret, ↓blockQ_normal, ↓blockQ_ret, ↓blockQ_exit, ↓loopQ_normal, ↓loopQ_exit, ↓loopQ_ret, ↓resQ_ret, ↓sxRes_nil, ↓sxRes_tmp, ↓upd_apply, ↓ev_tmp, ↓ev_const, sxOptB_some, binP_int, intBin, sxIfB_t, sxIfB_f, packRes_one, ↓reduceIte, Nat.reduceEqDiff, Nat.reduceLT, dec_T, true_and, aLoad_relow, Option.map_some, *, lenS, ldS] | (with_reducible refine sxDL_barE (by assumption) (by decide +kernel) ?_) | (with_reducible refine sxDL_bar (by decide +kernel) ?_) | (with_reducible refine sxD_bar (by decide +kernel) ?_) | (with_reducible refine sxDL_callD ?_))
    exact ⟨w.length - (k + 1), by omega, k + 1, rfl, by omega, rfl⟩
  · have hke : k = w.length := by omega
    subst hke
    have hlt' : ¬ (((w.length : Nat) : Int) < ((w.length : Nat) : Int)) := by omega
    clear h1 h2 d0
    repeat' (first | (with_reducible refine sxGuardB_tsp (fun h => ?_) (fun h => ?_)) | (with_reducible refine sxGuardB_fsp (fun h => ?_) (fun h => ?_)) | (with_reducible refine sxIfB_sp (fun h => ?_) (fun h => ?_)) | simp only [↓sxC_skip, ↓sxC_draw, ↓sxC_region, ↓sxC_seq, ↓bxC_cond, ↓sxC_block, ↓sxC_exit, ↓sxC_ret, ↓sxOps_nil, ↓sxOps_cons, ↓sxDraw_nil, ↓bxDraw_cons, ↓sxDL_move, ↓sxDL_load, ↓sxDL_binOp, ↓sxDL_indexAddr, ↓sxStep_none, ↓bxOp_move, ↓bxOp_assign, ↓bxOp_load, ↓bxOp_bin, ↓bxOp_indexAddr, ↓bxOp_len, ↓bxPut, ↓seqQ_normal, ↓seqQ_exit, ↓seqQ_ret, ↓blockQ_normal, ↓blockQ_ret, ↓blockQ_exit, ↓loopQ_normal, ↓loopQ_exit, ↓loopQ_ret, ↓resQ_ret, ↓sxRes_nil, ↓sxRes_tmp, ↓upd_apply, ↓ev_tmp, ↓ev_const, sxOptB_some, binP_int, intBin, sxIfB_f, packRes_one, ↓reduceIte, Nat.reduceEqDiff, Nat.reduceLT, dec_F, and_self, *, lenS] | (with_reducible refine sxDL_barE (by assumption) (by decide +kernel) ?_) | (with_reducible refine sxDL_bar (by decide +kernel) ?_) | (with_reducible refine sxD_bar (by decide +kernel) ?_) | (with_reducible refine sxDL_callD ?_))

set_option maxHeartbeats 4000000 in
/-- THE LAW, on the canonical machine. -/
theorem lawLooks_runs (A B : List Pt) (v v2 : Value) (r o r2 o2 : Nat) (at' wait : Int) (H : Heap) (hL : H.low ≤ H.size) (hg : Grp H) (hA : SlP H v A r o) (hB : SlP H v2 B r2 o2)
    (hO : ∀ H', S.O 11 [] H') : ∃ H', Runs Try.prog S (.fn 7) [v, v2, .int .i64 at', .int .i64 wait] H (.bool true) H' := by
  suffices h : WCall Try.prog S (.fn 7) [v, v2, .int .i64 at', .int .i64 wait] H (fun v H' => v = .bool true) by
    obtain ⟨_, H', hr, rfl⟩ := h; exact ⟨H', hr⟩
  have hk1 : ∀ (H' : Heap) (K : Value → Heap → Prop) (b : Blk K), sxCallB Try.prog S (.fn 11) [] H' K b = K (.bool true) H' := fun H' K b => known_bx (hO H')
  clear hO
  have hlv := hA.v0
  obtain ⟨a, c, rfl⟩ := hlv
  have hlv := hB.v0
  obtain ⟨a2, c2, rfl⟩ := hlv
  by_cases c1 : 200 < (A.length : Int)
  · clear hA hB
    refine call_of Try.func7 rfl (Nat.le_of_ble_eq_true rfl) (hS.no rfl _ _) ?_
    rw [Try.ntmps7, Try.results7]
    repeat' (first | (with_reducible refine sxGuardB_tsp (fun h => ?_) (fun h => ?_)) | (with_reducible refine sxGuardB_fsp (fun h => ?_) (fun h => ?_)) | (with_reducible refine sxIfB_sp (fun h => ?_) (fun h => ?_)) | simp only [↓sxC_skip, ↓sxC_region, ↓sxC_seq, ↓bxC_cond, ↓sxC_ret, ↓sxOps_nil, ↓sxOps_cons, ↓sxStep_none, ↓bxStep_some, ↓bxOp_move, ↓bxOp_assign, ↓bxOp_pick, ↓bxOp_bin, ↓bxOp_extract, ↓bxOp_value, ↓bxOp_len, ↓bxPut, ↓seqQ_normal, ↓seqQ_ret, ↓resQ_ret, ↓sxRes_nil, ↓sxRes_tmp, ↓upd_apply, ↓ev_tmp, ↓ev_const, ↓ev_func, ↓dstAt, ↓gval_some, sxOptB_some, binP_int, intBin, aPick_true, sxCallVB_fn, sxGuardB_ft, sxIfB_t, packRes_one, List.map_nil, List.nil_append, List.append_nil, ↓reduceIte, Nat.reduceEqDiff, Nat.reduceLT, dec_T, *, argF, List.getD_cons_zero, lenS] | (with_reducible refine sxDL_barE (by assumption) (by decide +kernel) ?_) | (with_reducible refine sxDL_bar (by decide +kernel) ?_) | (with_reducible refine sxD_bar (by decide +kernel) ?_) | (with_reducible refine sxDL_callD ?_))
  by_cases c2' : 200 < (B.length : Int)
  · clear hA hB
    refine call_of Try.func7 rfl (Nat.le_of_ble_eq_true rfl) (hS.no rfl _ _) ?_
    rw [Try.ntmps7, Try.results7]
    repeat' (first | (with_reducible refine sxGuardB_tsp (fun h => ?_) (fun h => ?_)) | (with_reducible refine sxGuardB_fsp (fun h => ?_) (fun h => ?_)) | (with_reducible refine sxIfB_sp (fun h => ?_) (fun h => ?_)) | simp only [↓sxC_skip, ↓sxC_region, ↓sxC_seq, ↓bxC_cond, ↓sxC_ret, ↓sxOps_nil, ↓sxOps_cons, ↓sxStep_none, ↓bxStep_some, ↓bxOp_move, ↓bxOp_assign, ↓bxOp_pick, ↓bxOp_bin, ↓bxOp_extract, ↓bxOp_value, ↓bxOp_len, ↓bxPut, ↓seqQ_normal, ↓seqQ_ret, ↓resQ_ret, ↓sxRes_nil, ↓sxRes_tmp, ↓upd_apply, ↓ev_tmp, ↓ev_const, ↓ev_func, ↓dstAt, ↓gval_some, sxOptB_some, binP_int, intBin, aPick_false, sxCallVB_fn, sxGuardB_ff, sxIfB_t, packRes_one, List.map_nil, List.nil_append, List.append_nil, ↓reduceIte, Nat.reduceEqDiff, Nat.reduceLT, dec_T, dec_F, *, argF, List.getD_cons_zero, List.getD_cons_succ, lenS] | (with_reducible refine sxDL_barE (by assumption) (by decide +kernel) ?_) | (with_reducible refine sxDL_bar (by decide +kernel) ?_) | (with_reducible refine sxD_bar (by decide +kernel) ?_) | (with_reducible refine sxDL_callD ?_))
  obtain ⟨x1, e1, H1, hK1, hq1, hR1⟩ := Look_runs hS A _ r o at' H hL hA
  obtain ⟨x2, e2, H2, hK2, hq2, hR2⟩ := rLook_runs hS A _ r o at' H1 (hK1.low hL) (hA.keep hK1)
  obtain ⟨rfl, rfl⟩ := hq1.eq hq2
  have hK02 := hK1.trans hK2
  obtain ⟨u3, H3, hR3, x3, e3, R3, rfl, hin3, hb3, hg3⟩ := Then_runs hS A B _ _ r o r2 o2 wait H2 (hK02.low hL) (hK02.grp hg) (hA.keep hK02) (hB.keep hK02)
  have hK23 := hin3.2.2.2.1
  have hK03 := hK02.trans hK23
  obtain ⟨u4, H4, hR4, x4, e4, R4, rfl, hin4, hb4, hg4⟩ := rThen_runs hS A B _ _ r o r2 o2 wait H3 (hK03.low hL) (hK03.grp hg) (hA.keep hK03) (hB.keep hK03)
  have hK34 := hin4.2.2.2.1
  have hK04 := hK03.trans hK34
  have hee : e3 = e4 ∧ R3 = R4 := by
    by_cases hgd : GoodT A B wait
    · obtain ⟨h1, h2⟩ := hg3 hgd
      obtain ⟨h3, h4⟩ := hg4 hgd
      exact ⟨by omega, h2.eq h4⟩
    · obtain ⟨h1, h2⟩ := hb3 hgd
      obtain ⟨h3, h4⟩ := hb4 hgd
      exact ⟨by omega, by rw [h2, h4]⟩
  obtain ⟨rfl, rfl⟩ := hee
  obtain ⟨r3, s3, _⟩ := hin3.sl
  obtain ⟨r4, s4, _⟩ := hin4.sl
  have f5 := (stopsEq_runs hS R3 _ _ r3 0 r4 0 H4 (hK04.low hL) (s3.keep hK34) s4).bx
  have f1 := hR1.bx
  have f2 := hR2.bx
  have f3 := hR3.bx
  have f4 := hR4.bx
  have d1 : decide (¬ x1 = x1) = false := decide_eq_false fun h => h rfl
  have d2 : decide (¬ e1 = e1) = false := decide_eq_false fun h => h rfl
  have d3 : decide (e3 = e3) = true := decide_eq_true rfl
  have ex0 : ∀ x y : Value, aExtract (.tuple ⟨[x, y]⟩) 0 = some x := fun x y => by kernel_rfl
  have ex1 : ∀ x y : Value, aExtract (.tuple ⟨[x, y]⟩) 1 = some y := fun x y => by kernel_rfl
  have eB : ∀ a : Bool, binP Try.prog .eql 4 (.bool a) (.bool a) = some (.bool true) := fun a => (binP_eql Try.underlying4 a a).trans (by rw [beq_self_eq_true])
  clear hR1 hR2 hR3 hR4 hq1 hq2 hK1 hK2 hK02 hK23 hK03 hK34 hK04 hin3 hin4 hb3 hb4 hg3 hg4 s3 s4 hA hB
  refine call_of Try.func7 rfl (Nat.le_of_ble_eq_true rfl) (hS.no rfl _ _) ?_
  rw [Try.ntmps7, Try.results7]
  repeat' (first | (with_reducible refine sxGuardB_tsp (fun h => ?_) (fun h => ?_)) | (with_reducible refine sxGuardB_fsp (fun h => ?_) (fun h => ?_)) | (with_reducible refine sxIfB_sp (fun h => ?_) (fun h => ?_)) | simp only [↓sxC_skip, ↓sxC_region, ↓sxC_seq, ↓bxC_cond, ↓sxC_ret, ↓sxOps_nil, ↓sxOps_cons, ↓sxStep_none, ↓bxStep_some, ↓bxOp_move, ↓bxOp_assign, ↓bxOp_pick, ↓bxOp_bin, ↓bxOp_extract, ↓bxOp_value, ↓bxOp_len, ↓bxPut, ↓seqQ_normal, ↓seqQ_ret, ↓resQ_ret, ↓sxRes_nil, ↓sxRes_tmp, ↓upd_apply, ↓ev_tmp, ↓ev_const, ↓ev_func, ↓dstAt, ↓gval_some, sxOptB_some, binP_int, intBin, aPick_true, aPick_false, sxCallVB_fn, sxGuardB_tt, sxGuardB_ff, sxIfB_f, packRes_one, List.map_cons, List.map_nil, List.nil_append, List.append_nil, ↓reduceIte, Nat.reduceEqDiff, Nat.reduceLT, dec_T, dec_F, not_true_eq_false, *, argF, List.getD_cons_zero, List.getD_cons_succ, lenS] | (with_reducible refine sxDL_barE (by assumption) (by decide +kernel) ?_) | (with_reducible refine sxDL_bar (by decide +kernel) ?_) | (with_reducible refine sxD_bar (by decide +kernel) ?_) | (with_reducible refine sxDL_callD ?_))
end Go.Proofs.Ythllcobgfjoleaa
