/- The law RouteIs on the canonical machine. -/
import Derived.Test.YtfekdjpfjogklaaRA
set_option linter.unusedVariables false
set_option linter.unusedSimpArgs false
set_option linter.unusedSectionVars false

namespace Go.Proofs.Ytfekdjpfjogklaa
set_option linter.unusedSectionVars false
open Go Go.AM
set_option maxRecDepth 10000
set_option linter.unusedSimpArgs false
set_option linter.unusedVariables false

theorem same_b {n : Int} {ls : List Lg} {ch fr to at' : Int} {js : List Int} {b1 b2 : Bool} (hl : ∀ x ∈ ls, LegOk n x) (ha : at' ≤ 10000) (h1 : IsJ ls ch fr to at' 10000 js b1) (h2 : RsJ ls ch fr to at' js b2) : b1 = b2 := by
  by_cases h0 : js.length = 0
  · rw [h1.1 h0, h2.1 h0]
    by_cases c : fr = to
    · rw [decide_eq_true ⟨c, ha⟩, decide_eq_true c]
    · rw [decide_eq_false (fun h => c h.1), decide_eq_false c]
  · have k1 := h1.2 h0
    have k2 := h2.2 h0
    have : b1 = true ↔ b2 = true := by
      rw [k1, k2]
      constructor
      · intro h
        exact ⟨h.1, h.2.1, h.2.2.1⟩
      · intro h
        refine ⟨h.1, h.2.1, h.2.2, ?_⟩
        have hr := (h.1 (js.length - 1) (by omega)).1
        have hx : LegOk n (ls.getD (js.getD (js.length - 1) 0).toNat default) := hl _ (getD_mem (by omega))
        exact hx.2.2.2.2.2.1
    exact Bool.eq_iff_iff.2 this
theorem eqB (a : Bool) : binP Try.prog .eql 4 (.bool a) (.bool a) = some (.bool true) := (binP_eql Try.underlying4 a a).trans (by rw [beq_self_eq_true])
theorem ex0 (a b : Value) : aExtract (.tuple ⟨[a, b]⟩) 0 = some a := by kernel_rfl
theorem ex1 (a b : Value) : aExtract (.tuple ⟨[a, b]⟩) 1 = some b := by kernel_rfl

variable {S : AM.Sys} (hS : Only S 11)
include hS

theorem few_runs (a : Option Addr) (n c : Nat) (H : Heap) : Runs Try.prog S (.fn 10) [.slice a n c] H (.bool (decide ((n : Int) ≤ 80))) H := by
  suffices h : WCall Try.prog S (.fn 10) [.slice a n c] H (fun v H' => v = .bool (decide ((n : Int) ≤ 80)) ∧ H' = H) by
    obtain ⟨_, _, hr, rfl, rfl⟩ := h; exact hr
  refine call_of Try.func10 rfl (Nat.le_of_ble_eq_true rfl) (hS.no rfl _ _) ?_
  rw [Try.ntmps10, Try.results10]
  repeat' (first | (with_reducible refine sxGuardB_tsp (fun h => ?_) (fun h => ?_)) | (with_reducible refine sxGuardB_fsp (fun h => ?_) (fun h => ?_)) | (with_reducible refine sxIfB_sp (fun h => ?_) (fun h => ?_)) | simp only [↓sxC_region, ↓sxC_seq, ↓sxC_ret, ↓sxOps_nil, ↓sxOps_cons, ↓sxStep_none, ↓bxOp_move, ↓bxOp_assign, ↓bxOp_bin, ↓bxOp_len, ↓bxPut, ↓seqQ_normal, ↓resQ_ret, ↓sxRes_nil, ↓sxRes_tmp, ↓upd_apply, ↓ev_tmp, ↓ev_const, sxOptB_some, binP_int, intBin, packRes_one, ↓reduceIte, Nat.reduceEqDiff, Nat.reduceLT, and_self, *, argF, List.getD_cons_zero, lenG] | (with_reducible refine sxDL_barE (by assumption) (by decide +kernel) ?_) | (with_reducible refine sxDL_bar (by decide +kernel) ?_) | (with_reducible refine sxD_bar (by decide +kernel) ?_) | (with_reducible refine sxDL_callD ?_))

/-- THE LAW, on the canonical machine. -/
theorem lawIs_runs (n : Int) (ls : List Lg) (lv : Value) (r o : Nat) (ch fr to at' : Int) (js : List Int) (jv : Value) (r2 o2 : Nat) (H : Heap) (hL : H.low ≤ H.size) (hg : Grp H) (hl : SlG H lv ls r o) (hj : SlI .i64 H jv js r2 o2) (hat : R64 at')
    (hO : ∀ H', S.O 11 [] H') : ∃ H', Runs Try.prog S (.fn 5) [.int .i64 n, lv, .int .i64 ch, .int .i64 fr, .int .i64 to, .int .i64 at', jv] H (.bool true) H' := by
  suffices h : WCall Try.prog S (.fn 5) [.int .i64 n, lv, .int .i64 ch, .int .i64 fr, .int .i64 to, .int .i64 at', jv] H (fun v H' => v = .bool true) by
    obtain ⟨_, H', hr, rfl⟩ := h; exact ⟨H', hr⟩
  have hk1 : ∀ (H' : Heap) (K : Value → Heap → Prop) (b : Blk K), sxCallB Try.prog S (.fn 11) [] H' K b = K (.bool true) H' := fun H' K b => known_bx (hO H')
  have hlv := hl.v0
  obtain ⟨a, c, rfl⟩ := hlv
  have hjv := hj.v0
  obtain ⟨a2, c2, rfl⟩ := hjv
  have f0 := (few_runs hS a ls.length c H).bx
  clear hO
  by_cases h80 : (ls.length : Int) ≤ 80
  case neg =>
    rw [decide_eq_false h80] at f0
    clear hl hj h80
    refine call_of Try.func5 rfl (Nat.le_of_ble_eq_true rfl) (hS.no rfl _ _) ?_
    rw [Try.ntmps5, Try.results5]
    repeat' (first | (with_reducible refine sxGuardB_tsp (fun h => ?_) (fun h => ?_)) | (with_reducible refine sxGuardB_fsp (fun h => ?_) (fun h => ?_)) | (with_reducible refine sxIfB_sp (fun h => ?_) (fun h => ?_)) | simp only [↓sxC_skip, ↓sxC_region, ↓sxC_seq, ↓bxC_cond, ↓sxC_ret, ↓sxOps_nil, ↓sxOps_cons, ↓sxStep_none, ↓bxStep_some, ↓bxOp_move, ↓bxOp_assign, ↓bxOp_pick, ↓bxOp_bin, ↓bxOp_un, ↓bxOp_extract, ↓bxOp_value, ↓bxOp_len, ↓bxPut, ↓seqQ_normal, ↓seqQ_ret, ↓resQ_ret, ↓sxRes_nil, ↓sxRes_tmp, ↓upd_apply, ↓ev_tmp, ↓ev_const, ↓ev_func, ↓dstAt, ↓gval_some, sxOptB_some, una_nf, aPick_true, sxCallVB_fn, sxGuardB_ft, sxIfB_t, packRes_one, List.map_cons, List.map_nil, List.nil_append, List.append_nil, ↓reduceIte, Nat.reduceEqDiff, Nat.reduceLT, *, argF, List.getD_cons_zero, List.getD_cons_succ] | (with_reducible refine sxDL_barE (by assumption) (by decide +kernel) ?_) | (with_reducible refine sxDL_bar (by decide +kernel) ?_) | (with_reducible refine sxD_bar (by decide +kernel) ?_) | (with_reducible refine sxDL_callD ?_))
  rw [decide_eq_true h80] at f0
  by_cases h100 : 100 < (js.length : Int)
  · clear hl hj h80
    refine call_of Try.func5 rfl (Nat.le_of_ble_eq_true rfl) (hS.no rfl _ _) ?_
    rw [Try.ntmps5, Try.results5]
    repeat' (first | (with_reducible refine sxGuardB_tsp (fun h => ?_) (fun h => ?_)) | (with_reducible refine sxGuardB_fsp (fun h => ?_) (fun h => ?_)) | (with_reducible refine sxIfB_sp (fun h => ?_) (fun h => ?_)) | simp only [↓sxC_skip, ↓sxC_region, ↓sxC_seq, ↓bxC_cond, ↓sxC_ret, ↓sxOps_nil, ↓sxOps_cons, ↓sxStep_none, ↓bxStep_some, ↓bxOp_move, ↓bxOp_assign, ↓bxOp_pick, ↓bxOp_bin, ↓bxOp_un, ↓bxOp_extract, ↓bxOp_value, ↓bxOp_len, ↓bxPut, ↓seqQ_normal, ↓seqQ_ret, ↓resQ_ret, ↓sxRes_nil, ↓sxRes_tmp, ↓upd_apply, ↓ev_tmp, ↓ev_const, ↓ev_func, ↓dstAt, ↓gval_some, sxOptB_some, binP_int, intBin, una_nt, aPick_false, sxCallVB_fn, sxGuardB_ff, sxIfB_t, packRes_one, List.map_cons, List.map_nil, List.nil_append, List.append_nil, ↓reduceIte, Nat.reduceEqDiff, Nat.reduceLT, dec_T, *, argF, List.getD_cons_zero, List.getD_cons_succ, lenIs] | (with_reducible refine sxDL_barE (by assumption) (by decide +kernel) ?_) | (with_reducible refine sxDL_bar (by decide +kernel) ?_) | (with_reducible refine sxD_bar (by decide +kernel) ?_) | (with_reducible refine sxDL_callD ?_))
  have h1 := Is_runs hS n ls _ r o ch fr to at' js _ r2 o2 H hL hg hl hj hat (by omega)
  obtain ⟨u1, H1, hR1, b1, hu1, hK1, hn1, hz1⟩ := h1
  have h2 := rIs_runs hS n ls _ r o ch fr to at' js _ r2 o2 H1 (hK1.low hL) (hl.keep hK1) (hj.keep hK1) hat (by omega)
  obtain ⟨u2, H2, hR2, b2, hu2, hK2, hn2, hz2⟩ := h2
  have hbb : b1 = b2 := by
    by_cases he : errC n ls ch fr to [at'] = 0
    · have hq := errC_zero he
      exact same_b hq.2.1 (hq.2.2.2 at' (List.mem_singleton.2 rfl)).2 (hz1 he) (hz2 he)
    · rw [hn1 he, hn2 he]
  subst hbb
  subst hu1
  subst hu2
  have f1 := hR1.bx
  have f2 := hR2.bx
  have hge : ∃ e, e = errC n ls ch fr to [at'] := ⟨_, rfl⟩
  obtain ⟨e, he⟩ := hge
  rw [← he] at f1 f2
  have de : decide (e = e) = true := decide_eq_true rfl
  clear hR1 hR2 hn1 hn2 hz1 hz2 hl hj he h80
  refine call_of Try.func5 rfl (Nat.le_of_ble_eq_true rfl) (hS.no rfl _ _) ?_
  rw [Try.ntmps5, Try.results5]
  repeat' (first | (with_reducible refine sxGuardB_tsp (fun h => ?_) (fun h => ?_)) | (with_reducible refine sxGuardB_fsp (fun h => ?_) (fun h => ?_)) | (with_reducible refine sxIfB_sp (fun h => ?_) (fun h => ?_)) | simp only [↓sxC_skip, ↓sxC_region, ↓sxC_seq, ↓bxC_cond, ↓sxC_ret, ↓sxOps_nil, ↓sxOps_cons, ↓sxStep_none, ↓bxStep_some, ↓bxOp_move, ↓bxOp_assign, ↓bxOp_pick, ↓bxOp_bin, ↓bxOp_un, ↓bxOp_extract, ↓bxOp_value, ↓bxOp_len, ↓bxPut, ↓seqQ_normal, ↓seqQ_ret, ↓resQ_ret, ↓sxRes_nil, ↓sxRes_tmp, ↓upd_apply, ↓ev_tmp, ↓ev_const, ↓ev_func, ↓dstAt, ↓gval_some, sxOptB_some, binP_int, intBin, una_nt, aPick_true, aPick_false, sxCallVB_fn, sxGuardB_tt, sxGuardB_ff, sxIfB_f, packRes_one, List.map_cons, List.map_nil, List.nil_append, List.append_nil, ↓reduceIte, Nat.reduceEqDiff, Nat.reduceLT, dec_T, dec_F, *, argF, List.getD_cons_zero, List.getD_cons_succ, lenIs, ex0, ex1, eqB] | (with_reducible refine sxDL_barE (by assumption) (by decide +kernel) ?_) | (with_reducible refine sxDL_bar (by decide +kernel) ?_) | (with_reducible refine sxD_bar (by decide +kernel) ?_) | (with_reducible refine sxDL_callD ?_))
end Go.Proofs.Ytfekdjpfjogklaa
