/- The timetable's own functions. -/
import Derived.Test.YtfekdjpfjogklaaR2
import Derived.Test.YtfekdjpfjogklaaSEI
set_option linter.unusedVariables false
set_option linter.unusedSimpArgs false
set_option linter.unusedSectionVars false

namespace Go.Proofs.Ytfekdjpfjogklaa
set_option linter.unusedSectionVars false
open Go Go.AM
set_option maxRecDepth 10000
set_option linter.unusedSimpArgs false
set_option linter.unusedVariables false

/-- A timetable as a value. -/
def tv (a : Option Addr) (n c : Nat) (ch : Int) (v : Value) : Value := .agg ⟨[.slice a n c, .int .i64 ch, v]⟩
def wv (fr to at' by' : Int) : Value := .agg ⟨[.int .i64 fr, .int .i64 to, .int .i64 at', .int .i64 by']⟩
theorem boxT (H : Heap) (a : Option Addr) (n c : Nat) (ch : Int) (v : Value) : ∃ H1, H.newExact [.slice a n c, .int .i64 ch, v] 64 = H1 ∧ Keep H H1 ∧ H1.read H.size 0 3 = some [.slice a n c, .int .i64 ch, v] ∧ H1.read H.size 0 1 = some [.slice a n c] ∧ H1.read H.size 1 1 = some [.int .i64 ch] ∧ H1.read H.size 2 1 = some [v] := by
  obtain ⟨H1, e1, hK1, hz1, hr1, hrs⟩ := boxS H [.slice a n c, .int .i64 ch, v] 64
  exact ⟨H1, e1, hK1, hr1, hrs 0 1 (by simp), hrs 1 1 (by simp), hrs 2 1 (by simp)⟩
theorem boxW (H : Heap) (fr to at' by' : Int) : ∃ H1, H.newExact [.int .i64 fr, .int .i64 to, .int .i64 at', .int .i64 by'] 72 = H1 ∧ Keep H H1 ∧ H1.read H.size 0 4 = some [.int .i64 fr, .int .i64 to, .int .i64 at', .int .i64 by'] ∧ H1.read H.size 0 1 = some [.int .i64 fr] ∧ H1.read H.size 1 1 = some [.int .i64 to] ∧ H1.read H.size 2 1 = some [.int .i64 at'] ∧ H1.read H.size 3 1 = some [.int .i64 by'] := by
  obtain ⟨H1, e1, hK1, hz1, hr1, hrs⟩ := boxS H [.int .i64 fr, .int .i64 to, .int .i64 at', .int .i64 by'] 72
  exact ⟨H1, e1, hK1, hr1, hrs 0 1 (by simp), hrs 1 1 (by simp), hrs 2 1 (by simp), hrs 3 1 (by simp)⟩

variable {S : AM.Sys} (hS : Only S 11)
include hS

theorem isNaN_runs (x : Int) (H : Heap) : Runs Try.prog S (.fn 79) [.int .i64 x] H (.bool false) H := by
  suffices h : WCall Try.prog S (.fn 79) [.int .i64 x] H (fun v H' => v = .bool false ∧ H' = H) by
    obtain ⟨_, _, hr, rfl, rfl⟩ := h; exact hr
  have d : decide (¬ x = x) = false := decide_eq_false fun h => h rfl
  refine call_of Try.func79 rfl (Nat.le_of_ble_eq_true rfl) (hS.no rfl _ _) ?_
  rw [Try.ntmps79, Try.results79]
  repeat' (first | (with_reducible refine sxGuardB_tsp (fun h => ?_) (fun h => ?_)) | (with_reducible refine sxGuardB_fsp (fun h => ?_) (fun h => ?_)) | (with_reducible refine sxIfB_sp (fun h => ?_) (fun h => ?_)) | simp only [↓sxC_region, ↓sxC_seq, ↓sxC_ret, ↓sxOps_nil, ↓sxOps_cons, ↓sxStep_none, ↓bxOp_move, ↓bxOp_assign, ↓bxOp_bin, ↓bxPut, ↓seqQ_normal, ↓resQ_ret, ↓sxRes_nil, ↓sxRes_tmp, ↓upd_apply, ↓ev_tmp, ↓ev_const, sxOptB_some, binP_int, intBin, packRes_one, ↓reduceIte, Nat.reduceEqDiff, Nat.reduceLT, dec_F, and_self, not_true_eq_false, *, argF, List.getD_cons_zero] | (with_reducible refine sxDL_barE (by assumption) (by decide +kernel) ?_) | (with_reducible refine sxDL_bar (by decide +kernel) ?_) | (with_reducible refine sxD_bar (by decide +kernel) ?_) | (with_reducible refine sxDL_callD ?_))
theorem cmpC_runs (x y : Int) (H : Heap) : ∃ z, (z < 0 ↔ x < y) ∧ Runs Try.prog S (.fn 60) [.int .i64 x, .int .i64 y] H (.int .i64 z) H := by
  suffices h : WCall Try.prog S (.fn 60) [.int .i64 x, .int .i64 y] H (fun v H' => ∃ z, (z < 0 ↔ x < y) ∧ v = .int .i64 z ∧ H' = H) by
    obtain ⟨_, _, hr, z, h, rfl, rfl⟩ := h; exact ⟨z, h, hr⟩
  have f1 := (isNaN_runs hS x H).bx
  have f2 := (isNaN_runs hS y H).bx
  refine call_of Try.func60 rfl (Nat.le_of_ble_eq_true rfl) (hS.no rfl _ _) ?_
  rw [Try.ntmps60, Try.results60]
  by_cases h1 : x < y
  · repeat' (first | (with_reducible refine sxGuardB_tsp (fun h => ?_) (fun h => ?_)) | (with_reducible refine sxGuardB_fsp (fun h => ?_) (fun h => ?_)) | (with_reducible refine sxIfB_sp (fun h => ?_) (fun h => ?_)) | simp only [↓sxC_skip, ↓sxC_region, ↓sxC_seq, ↓bxC_cond, ↓sxC_ret, ↓sxOps_nil, ↓sxOps_cons, ↓sxStep_none, ↓bxOp_move, ↓bxOp_assign, ↓bxOp_bin, ↓bxOp_value, ↓bxPut, ↓seqQ_normal, ↓seqQ_ret, ↓resQ_ret, ↓sxRes_nil, ↓sxRes_tmp, ↓upd_apply, ↓ev_tmp, ↓ev_const, ↓ev_func, sxOptB_some, binP_int, intBin, sxCallVB_fn, sxIfB_t, sxIfB_f, packRes_one, List.map_cons, List.map_nil, List.nil_append, List.append_nil, ↓reduceIte, Nat.reduceEqDiff, Nat.reduceLT, dec_T, and_true, *, argF, List.getD_cons_zero, List.getD_cons_succ] | (with_reducible refine sxDL_barE (by assumption) (by decide +kernel) ?_) | (with_reducible refine sxDL_bar (by decide +kernel) ?_) | (with_reducible refine sxD_bar (by decide +kernel) ?_) | (with_reducible refine sxDL_callD ?_))
    exact ⟨-1, (by first | omega | (constructor <;> intro hh <;> first | trivial | (revert hh; decide) | (exact absurd hh (by decide)))), rfl⟩
  · by_cases h2 : y < x
    · repeat' (first | (with_reducible refine sxGuardB_tsp (fun h => ?_) (fun h => ?_)) | (with_reducible refine sxGuardB_fsp (fun h => ?_) (fun h => ?_)) | (with_reducible refine sxIfB_sp (fun h => ?_) (fun h => ?_)) | simp only [↓sxC_skip, ↓sxC_region, ↓sxC_seq, ↓bxC_cond, ↓sxC_ret, ↓sxOps_nil, ↓sxOps_cons, ↓sxStep_none, ↓bxOp_move, ↓bxOp_assign, ↓bxOp_bin, ↓bxOp_value, ↓bxPut, ↓seqQ_normal, ↓seqQ_ret, ↓resQ_ret, ↓sxRes_nil, ↓sxRes_tmp, ↓upd_apply, ↓ev_tmp, ↓ev_const, ↓ev_func, sxOptB_some, binP_int, intBin, sxCallVB_fn, sxIfB_t, sxIfB_f, packRes_one, List.map_cons, List.map_nil, List.nil_append, List.append_nil, ↓reduceIte, Nat.reduceEqDiff, Nat.reduceLT, dec_T, dec_F, and_true, *, argF, List.getD_cons_zero, List.getD_cons_succ] | (with_reducible refine sxDL_barE (by assumption) (by decide +kernel) ?_) | (with_reducible refine sxDL_bar (by decide +kernel) ?_) | (with_reducible refine sxD_bar (by decide +kernel) ?_) | (with_reducible refine sxDL_callD ?_))
      exact ⟨1, (by first | omega | (constructor <;> intro hh <;> first | trivial | (revert hh; decide) | (exact absurd hh (by decide)))), rfl⟩
    · repeat' (first | (with_reducible refine sxGuardB_tsp (fun h => ?_) (fun h => ?_)) | (with_reducible refine sxGuardB_fsp (fun h => ?_) (fun h => ?_)) | (with_reducible refine sxIfB_sp (fun h => ?_) (fun h => ?_)) | simp only [↓sxC_skip, ↓sxC_region, ↓sxC_seq, ↓bxC_cond, ↓sxC_ret, ↓sxOps_nil, ↓sxOps_cons, ↓sxStep_none, ↓bxOp_move, ↓bxOp_assign, ↓bxOp_bin, ↓bxOp_value, ↓bxPut, ↓seqQ_normal, ↓seqQ_ret, ↓resQ_ret, ↓sxRes_nil, ↓sxRes_tmp, ↓upd_apply, ↓ev_tmp, ↓ev_const, ↓ev_func, sxOptB_some, binP_int, intBin, sxCallVB_fn, sxIfB_f, packRes_one, List.map_cons, List.map_nil, List.nil_append, List.append_nil, ↓reduceIte, Nat.reduceEqDiff, Nat.reduceLT, dec_F, and_true, *, argF, List.getD_cons_zero, List.getD_cons_succ] | (with_reducible refine sxDL_barE (by assumption) (by decide +kernel) ?_) | (with_reducible refine sxDL_bar (by decide +kernel) ?_) | (with_reducible refine sxD_bar (by decide +kernel) ?_) | (with_reducible refine sxDL_callD ?_))
      exact ⟨0, (by first | omega | (constructor <;> intro hh <;> first | trivial | (revert hh; decide) | (exact absurd hh (by decide)))), rfl⟩

theorem cmpDep_runs (ls : List Lg) (a : Option Addr) (c r o : Nat) (ch : Int) (v : Value) (H : Heap) (hL : H.low ≤ H.size) (hl : SlG H (.slice a ls.length c) ls r o) (i j : Nat) (hi : i < ls.length) (hj : j < ls.length) :
    ∃ z H', Keep H H' ∧ (z < 0 ↔ (ls.getD i default).d < (ls.getD j default).d) ∧ Runs Try.prog S (.fn 57) [tv a ls.length c ch v, .int .i64 (i : Int), .int .i64 (j : Int)] H (.int .i64 z) H' := by
  suffices h : WCall Try.prog S (.fn 57) [tv a ls.length c ch v, .int .i64 (i : Int), .int .i64 (j : Int)] H (fun u H' => ∃ z, Keep H H' ∧ (z < 0 ↔ (ls.getD i default).d < (ls.getD j default).d) ∧ u = .int .i64 z) by
    obtain ⟨_, H', hr, z, hk, h, rfl⟩ := h; exact ⟨z, H', hk, h, hr⟩
  obtain ⟨H1, e1, hK1, r3, r0, r1, r2⟩ := boxT H a ls.length c ch v
  obtain ⟨q, hix, _, _, _, g2, _⟩ := SlG_at (hl.keep hK1) hi
  obtain ⟨q', hix', _, _, _, g2', _⟩ := SlG_at (hl.keep hK1) hj
  have hL1 := hK1.low hL
  obtain ⟨z, hz, hR⟩ := cmpC_runs hS (ls.getD i default).d (ls.getD j default).d (H1.relow H1.size)
  have f1 := hR.bx
  clear hR hl
  refine call_of Try.func57 rfl (Nat.le_of_ble_eq_true rfl) (hS.no rfl _ _) ?_
  rw [Try.ntmps57, Try.results57]
  repeat' (first | (with_reducible refine sxGuardB_tsp (fun h => ?_) (fun h => ?_)) | (with_reducible refine sxGuardB_fsp (fun h => ?_) (fun h => ?_)) | (with_reducible refine sxIfB_sp (fun h => ?_) (fun h => ?_)) | simp only [↓sxC_draw, ↓sxC_region, ↓sxC_seq, ↓sxC_ret, ↓sxOps_nil, ↓sxOps_cons, ↓sxDraw_nil, ↓bxDraw_cons, ↓sxDL_move, ↓sxDL_assign, ↓sxDL_load, ↓sxDL_fieldAddr, ↓sxDL_indexAddr, ↓sxD_same, ↓sxStep_none, ↓bxOp_move, ↓bxOp_assign, ↓bxOp_box, ↓bxOp_load, ↓bxOp_fieldAddr, ↓bxOp_indexAddr, ↓bxOp_value, ↓bxPut, ↓seqQ_normal, ↓resQ_ret, ↓sxRes_nil, ↓sxRes_tmp, ↓upd_apply, ↓ev_tmp, ↓ev_const, ↓ev_func, sxOptB_some, sxCallVB_fn, packRes_one, List.map_cons, List.map_nil, List.nil_append, List.append_nil, ↓reduceIte, Nat.reduceEqDiff, Nat.reduceLT, true_and, aLoad_relow, Nat.add_zero, one1, Option.bind_some, *, argF, List.getD_cons_zero, List.getD_cons_succ, cells_agg, tv, faT0, faG2, ldLs, ldC, one1] | (with_reducible refine sxDL_barE (by assumption) (by decide +kernel) ?_) | (with_reducible refine sxDL_bar (by decide +kernel) ?_) | (with_reducible refine sxD_bar (by decide +kernel) ?_) | (with_reducible refine sxDL_callD ?_))
  exact ⟨z, hz, rfl⟩
end Go.Proofs.Ytfekdjpfjogklaa
