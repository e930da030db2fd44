/- The reference's Is. -/
import Derived.Test.YtfekdjpfjogklaaR9
set_option linter.unusedVariables false
set_option linter.unusedSimpArgs false
set_option linter.unusedSectionVars false

namespace Go.Proofs.Ytfekdjpfjogklaa
set_option linter.unusedSectionVars false
open Go Go.AM
set_option maxRecDepth 10000
set_option linter.unusedSimpArgs false
set_option linter.unusedVariables false

variable {S : AM.Sys} (hS : Only S 11)
include hS

set_option maxHeartbeats 4000000 in
theorem rIs_runs (n : Int) (ls : List Lg) (lv : Value) (r o : Nat) (ch fr to at' : Int) (js : List Int) (jv : Value) (r2 o2 : Nat) (H : Heap) (hL : H.low ≤ H.size) (hl : SlG H lv ls r o) (hj : SlI .i64 H jv js r2 o2) (hat : R64 at') (hmj : js.length ≤ 100000) :
    ∃ u H', Runs Try.prog S (.fn 19) [.int .i64 n, lv, .int .i64 ch, .int .i64 fr, .int .i64 to, .int .i64 at', jv] H u H' ∧ PostQ H (errC n ls ch fr to [at']) (RsJ ls ch fr to at' js) u H' := by
  suffices h : WCall Try.prog S (.fn 19) [.int .i64 n, lv, .int .i64 ch, .int .i64 fr, .int .i64 to, .int .i64 at', jv] H (fun u H' => PostQ H (errC n ls ch fr to [at']) (RsJ ls ch fr to at' js) u H') by
    obtain ⟨u, H', hr, h⟩ := h; exact ⟨u, H', hr, h⟩
  obtain ⟨a, c, rfl⟩ := hl.v0
  obtain ⟨a2, c2, rfl⟩ := hj.v0
  have k1 := Keep.newExact H [.int .i64 at'] 3
  have s1 := one_sl H at' hat
  have b1 := bsI H at'
  obtain ⟨H1, hH1⟩ : ∃ H1, H1 = H.newExact [.int .i64 at'] 3 := ⟨_, rfl⟩
  rw [← hH1] at k1 s1 b1
  obtain ⟨H2, k2, hR⟩ := good_runs hS n ls (.slice a ls.length c) r o ch fr to [at'] _ H.size 0 H1 (hl.keep k1) s1
  have f1 := hR.bx
  rw [show [at'].length = 1 from rfl] at f1
  have hK2 := k1.trans k2
  obtain ⟨e, he⟩ : ∃ e, e = errC n ls ch fr to [at'] := ⟨_, rfl⟩
  rw [← he] at f1 ⊢
  clear hH1 hR s1
  refine call_of Try.func19 rfl (Nat.le_of_ble_eq_true rfl) (hS.no rfl _ _) ?_
  rw [Try.ntmps19, Try.results19]
  by_cases h0 : e = 0
  case neg =>
    have hp : PostQ H e (RsJ ls ch fr to at' js) (.tuple ⟨[.bool false, .int .i64 e]⟩) H2 := ⟨false, rfl, hK2, fun _ => rfl, fun h => absurd h h0⟩
    clear hK2 k1 k2 hl hj he
    repeat' (first | (with_reducible refine sxGuardB_tsp (fun h => ?_) (fun h => ?_)) | (with_reducible refine sxGuardB_fsp (fun h => ?_) (fun h => ?_)) | (with_reducible refine sxIfB_sp (fun h => ?_) (fun h => ?_)) | simp only [↓sxC_skip, ↓sxC_region, ↓sxC_seq, ↓bxC_cond, ↓bxC_loop, ↓sxC_block, ↓sxC_ret, ↓sxOps_nil, ↓sxOps_cons, ↓sxStep_none, ↓bxStep_some, ↓bxOp_move, ↓bxOp_assign, ↓bxOp_pick, ↓bxOp_buildSlice, ↓bxOp_load, ↓bxOp_bin, ↓bxOp_fieldAddr, ↓bxOp_indexAddr, ↓bxOp_value, ↓bxOp_len, ↓bxPut, ↓seqQ_normal, ↓seqQ_ret, ↓resQ_ret, ↓sxRes_nil, ↓sxRes_tmp, ↓upd_apply, ↓ev_tmp, ↓ev_const, ↓ev_func, ↓dstAt, ↓gval_some, sxOptB_some, binP_int, intBin, sxCallVB_fn, sxIfB_t, packRes_two, List.map_cons, List.map_nil, List.nil_append, List.append_nil, ↓reduceIte, Nat.reduceEqDiff, Nat.reduceLT, dec_T, not_false_eq_true, *, argF, List.getD_cons_zero, List.getD_cons_succ, packRes_two] | (with_reducible refine sxDL_barE (by assumption) (by decide +kernel) ?_) | (with_reducible refine sxDL_bar (by decide +kernel) ?_) | (with_reducible refine sxD_bar (by decide +kernel) ?_) | (with_reducible refine sxDL_callD ?_))
  subst h0
  have hq := errC_zero he.symm
  obtain ⟨q1, q2, q3, q4⟩ := hq
  have hfit : ∀ i, i < ls.length → Fit ch (ls.getD i default) := fun i hi => by
    have h : LegOk n (ls.getD i default) := q2 _ (getD_mem hi)
    have h4 := h.2.2.2.1
    have h5 := h.2.2.2.2.1
    have h6 := h.2.2.2.2.2.1
    exact ⟨by omega, by omega⟩
  have hpost : ∀ b H8, RsJ ls ch fr to at' js b → Keep H2 H8 → PostQ H 0 (RsJ ls ch fr to at' js) (.tuple ⟨[.bool b, .int .i64 0]⟩) H8 := fun b H8 hb h8 => ⟨b, rfl, hK2.trans h8, fun h => absurd rfl h, fun _ => hb⟩
  have hlA := hl.keep hK2
  have hjA := hj.keep hK2
  have hL2 := hK2.low hL
  clear q2 q3 q4 he hl hj hL k1 k2 hK2
  by_cases hz : js.length = 0
  · have hz' : ((js.length : Nat) : Int) = 0 := by omega
    by_cases c1 : fr = to
    · have hp := hpost true H2 ⟨fun _ => (decide_eq_true c1).symm, fun h => absurd hz h⟩ (Keep.refl _)
      have d1 : decide (fr = to) = true := decide_eq_true c1
      clear hpost c1 hlA hjA hfit hz
      repeat' (first | (with_reducible refine sxGuardB_tsp (fun h => ?_) (fun h => ?_)) | (with_reducible refine sxGuardB_fsp (fun h => ?_) (fun h => ?_)) | (with_reducible refine sxIfB_sp (fun h => ?_) (fun h => ?_)) | simp only [↓sxC_skip, ↓sxC_region, ↓sxC_seq, ↓bxC_cond, ↓bxC_loop, ↓sxC_block, ↓sxC_ret, ↓sxOps_nil, ↓sxOps_cons, ↓sxStep_none, ↓bxStep_some, ↓bxOp_move, ↓bxOp_assign, ↓bxOp_pick, ↓bxOp_buildSlice, ↓bxOp_load, ↓bxOp_bin, ↓bxOp_fieldAddr, ↓bxOp_indexAddr, ↓bxOp_value, ↓bxOp_len, ↓bxPut, ↓seqQ_normal, ↓seqQ_ret, ↓resQ_ret, ↓sxRes_nil, ↓sxRes_tmp, ↓upd_apply, ↓ev_tmp, ↓ev_const, ↓ev_func, ↓dstAt, ↓gval_some, sxOptB_some, binP_int, intBin, sxCallVB_fn, sxIfB_t, sxIfB_f, packRes_two, List.map_cons, List.map_nil, List.nil_append, List.append_nil, ↓reduceIte, Nat.reduceEqDiff, Nat.reduceLT, dec_T, dec_F, not_true_eq_false, *, argF, List.getD_cons_zero, List.getD_cons_succ, lenIs, packRes_two] | (with_reducible refine sxDL_barE (by assumption) (by decide +kernel) ?_) | (with_reducible refine sxDL_bar (by decide +kernel) ?_) | (with_reducible refine sxD_bar (by decide +kernel) ?_) | (with_reducible refine sxDL_callD ?_))
    · have hp := hpost false H2 ⟨fun _ => (decide_eq_false c1).symm, fun h => absurd hz h⟩ (Keep.refl _)
      have d1 : decide (fr = to) = false := decide_eq_false c1
      clear hpost c1 hlA hjA hfit hz
      repeat' (first | (with_reducible refine sxGuardB_tsp (fun h => ?_) (fun h => ?_)) | (with_reducible refine sxGuardB_fsp (fun h => ?_) (fun h => ?_)) | (with_reducible refine sxIfB_sp (fun h => ?_) (fun h => ?_)) | simp only [↓sxC_skip, ↓sxC_region, ↓sxC_seq, ↓bxC_cond, ↓bxC_loop, ↓sxC_block, ↓sxC_ret, ↓sxOps_nil, ↓sxOps_cons, ↓sxStep_none, ↓bxStep_some, ↓bxOp_move, ↓bxOp_assign, ↓bxOp_pick, ↓bxOp_buildSlice, ↓bxOp_load, ↓bxOp_bin, ↓bxOp_fieldAddr, ↓bxOp_indexAddr, ↓bxOp_value, ↓bxOp_len, ↓bxPut, ↓seqQ_normal, ↓seqQ_ret, ↓resQ_ret, ↓sxRes_nil, ↓sxRes_tmp, ↓upd_apply, ↓ev_tmp, ↓ev_const, ↓ev_func, ↓dstAt, ↓gval_some, sxOptB_some, binP_int, intBin, sxCallVB_fn, sxIfB_t, sxIfB_f, packRes_two, List.map_cons, List.map_nil, List.nil_append, List.append_nil, ↓reduceIte, Nat.reduceEqDiff, Nat.reduceLT, dec_T, dec_F, not_true_eq_false, *, argF, List.getD_cons_zero, List.getD_cons_succ, lenIs, packRes_two] | (with_reducible refine sxDL_barE (by assumption) (by decide +kernel) ?_) | (with_reducible refine sxDL_bar (by decide +kernel) ?_) | (with_reducible refine sxD_bar (by decide +kernel) ?_) | (with_reducible refine sxDL_callD ?_))
  have hz' : ¬ ((js.length : Nat) : Int) = 0 := by omega
  repeat' (first | (with_reducible refine sxGuardB_tsp (fun h => ?_) (fun h => ?_)) | (with_reducible refine sxGuardB_fsp (fun h => ?_) (fun h => ?_)) | (with_reducible refine sxIfB_sp (fun h => ?_) (fun h => ?_)) | simp only [↓sxC_skip, ↓sxC_region, ↓sxC_seq, ↓bxC_cond, ↓bxC_loop, ↓sxC_block, ↓sxC_ret, ↓sxOps_nil, ↓sxOps_cons, ↓sxStep_none, ↓bxStep_some, ↓bxOp_move, ↓bxOp_assign, ↓bxOp_pick, ↓bxOp_buildSlice, ↓bxOp_load, ↓bxOp_bin, ↓bxOp_fieldAddr, ↓bxOp_indexAddr, ↓bxOp_value, ↓bxOp_len, ↓bxPut, ↓seqQ_normal, ↓seqQ_ret, ↓resQ_ret, ↓sxRes_nil, ↓sxRes_tmp, ↓upd_apply, ↓ev_tmp, ↓ev_const, ↓ev_func, ↓dstAt, ↓gval_some, sxOptB_some, binP_int, intBin, sxCallVB_fn, sxIfB_f, packRes_two, List.map_cons, List.map_nil, List.nil_append, List.append_nil, ↓reduceIte, Nat.reduceEqDiff, Nat.reduceLT, dec_F, not_true_eq_false, *, argF, List.getD_cons_zero, List.getD_cons_succ, lenIs, packRes_two] | (with_reducible refine sxDL_barE (by assumption) (by decide +kernel) ?_) | (with_reducible refine sxDL_bar (by decide +kernel) ?_) | (with_reducible refine sxD_bar (by decide +kernel) ?_) | (with_reducible refine sxDL_callD ?_))
  refine sxL_of (fun m ρ H5 => ∃ k : Nat, m = js.length - k ∧ k ≤ js.length ∧ Keep H2 H5 ∧ AllOk ls ch js k ∧
      ρ 1 = .slice a ls.length c ∧ ρ 2 = .int .i64 ch ∧ ρ 3 = .int .i64 fr ∧ ρ 4 = .int .i64 to ∧ ρ 5 = .int .i64 at' ∧ ρ 6 = .slice a2 js.length c2 ∧ ρ 17 = .int .i64 (k : Int))
    ⟨0, rfl, Nat.zero_le _, Keep.refl _, fun j hj => absurd hj (Nat.not_lt_zero j), rfl, rfl, rfl, rfl, rfl, rfl, rfl⟩ ?_
  clear f1
  rintro m ρ H5 ⟨k, rfl, hk, hK5, hall, e1, e2, e3, e4, e5, e6, e17⟩
  have hL5 := hK5.low hL2
  by_cases hlt : k < js.length
  · have hlt' : (k : Int) < (js.length : Int) := by omega
    have hw := wrap_succ hlt (Nat.le_trans hmj (by decide))
    have hob := SlI_at (hjA.keep hK5) hlt
    obtain ⟨hix, hrd⟩ := hob
    by_cases c0 : js.getD k 0 < 0
    · have hno : ¬ OkAt ls ch js k := fun h => by have := h.1.1; omega
      have hp := hpost false H5 ⟨fun h0 => absurd h0 hz, fun _ => ⟨fun hh => (by cases hh), fun hh => absurd (hh.1 k hlt) hno⟩⟩ hK5
      clear hall hno hlA hjA hfit hK5 hpost
      repeat' (first | (with_reducible refine sxGuardB_tsp (fun h => ?_) (fun h => ?_)) | (with_reducible refine sxGuardB_fsp (fun h => ?_) (fun h => ?_)) | (with_reducible refine sxIfB_sp (fun h => ?_) (fun h => ?_)) | simp only [↓sxC_skip, ↓sxC_draw, ↓sxC_region, ↓sxC_seq, ↓bxC_cond, ↓sxC_block, ↓sxC_exit, ↓sxC_ret, ↓sxOps_nil, ↓sxOps_cons, ↓sxDraw_nil, ↓bxDraw_cons, ↓sxDL_move, ↓sxDL_pick, ↓sxDL_load, ↓sxDL_binOp, ↓sxDL_unOp, ↓sxDL_indexAddr, ↓sxD_same, ↓sxStep_none, ↓bxStep_some, ↓bxOp_move, ↓bxOp_assign, ↓bxOp_pick, ↓bxOp_load, ↓bxOp_bin, ↓bxOp_un, ↓bxOp_indexAddr, ↓bxOp_value, ↓bxOp_len, ↓bxPut, ↓seqQ_normal, ↓seqQ_exit, ↓seqQ_ret, ↓blockQ_normal, ↓blockQ_ret, ↓blockQ_exit, ↓loopQ_normal, ↓loopQ_exit, ↓loopQ_ret, ↓resQ_ret, ↓sxRes_nil, ↓sxRes_tmp, ↓upd_apply, ↓ev_tmp, ↓ev_const, ↓ev_func, ↓dstAt, ↓gval_some, sxOptB_some, binP_int, intBin, aPick_true, sxCallVB_fn, sxGuardB_u, sxGuardB_ft, sxIfB_t, packRes_two, List.nil_append, ↓reduceIte, Nat.reduceEqDiff, Nat.reduceLT, dec_T, aLoad_relow, one1, Option.bind_some, *, lenIs, ldC, one1, packRes_two] | (with_reducible refine sxDL_barE (by assumption) (by decide +kernel) ?_) | (with_reducible refine sxDL_bar (by decide +kernel) ?_) | (with_reducible refine sxD_bar (by decide +kernel) ?_) | (with_reducible refine sxDL_callD ?_))
    have hgj := Int.eq_ofNat_of_zero_le (show 0 ≤ js.getD k 0 by omega)
    obtain ⟨j, hj'⟩ := hgj
    rw [hj'] at hrd c0
    by_cases c1 : (ls.length : Int) ≤ (j : Int)
    · have hno : ¬ OkAt ls ch js k := fun h => by have := h.1.2; omega
      have hp := hpost false H5 ⟨fun h0 => absurd h0 hz, fun _ => ⟨fun hh => (by cases hh), fun hh => absurd (hh.1 k hlt) hno⟩⟩ hK5
      clear hall hno hlA hjA hfit hK5 hpost hj'
      repeat' (first | (with_reducible refine sxGuardB_tsp (fun h => ?_) (fun h => ?_)) | (with_reducible refine sxGuardB_fsp (fun h => ?_) (fun h => ?_)) | (with_reducible refine sxIfB_sp (fun h => ?_) (fun h => ?_)) | simp only [↓sxC_skip, ↓sxC_draw, ↓sxC_region, ↓sxC_seq, ↓bxC_cond, ↓sxC_block, ↓sxC_exit, ↓sxC_ret, ↓sxOps_nil, ↓sxOps_cons, ↓sxDraw_nil, ↓bxDraw_cons, ↓sxDL_move, ↓sxDL_pick, ↓sxDL_load, ↓sxDL_binOp, ↓sxDL_unOp, ↓sxDL_indexAddr, ↓sxD_same, ↓sxStep_none, ↓bxStep_some, ↓bxOp_move, ↓bxOp_assign, ↓bxOp_pick, ↓bxOp_load, ↓bxOp_bin, ↓bxOp_un, ↓bxOp_indexAddr, ↓bxOp_value, ↓bxOp_len, ↓bxPut, ↓seqQ_normal, ↓seqQ_exit, ↓seqQ_ret, ↓blockQ_normal, ↓blockQ_ret, ↓blockQ_exit, ↓loopQ_normal, ↓loopQ_exit, ↓loopQ_ret, ↓resQ_ret, ↓sxRes_nil, ↓sxRes_tmp, ↓upd_apply, ↓ev_tmp, ↓ev_const, ↓ev_func, ↓dstAt, ↓gval_some, sxOptB_some, binP_int, intBin, aPick_true, aPick_false, sxCallVB_fn, sxGuardB_u, sxGuardB_ft, sxGuardB_ff, sxIfB_t, packRes_two, List.nil_append, ↓reduceIte, Nat.reduceEqDiff, Nat.reduceLT, dec_T, dec_F, aLoad_relow, one1, Option.bind_some, *, lenIs, lenG, ldC, one1, packRes_two] | (with_reducible refine sxDL_barE (by assumption) (by decide +kernel) ?_) | (with_reducible refine sxDL_bar (by decide +kernel) ?_) | (with_reducible refine sxD_bar (by decide +kernel) ?_) | (with_reducible refine sxDL_callD ?_))
    by_cases c2 : 0 < k
    · have c2' : (0 : Int) < (k : Int) := by omega
      have hpv := (hall (k - 1) (by omega)).1
      have hgi := Int.eq_ofNat_of_zero_le hpv.1
      obtain ⟨i, hi⟩ := hgi
      have hw1 : IntKind.i64.wrap ((k : Int) - 1) = ((k - 1 : Nat) : Int) := by rw [IntWalk.i64_in _ (by omega)]; omega
      have hob1 := SlI_at (hjA.keep hK5) (show k - 1 < js.length by omega)
      obtain ⟨hixp, hrdp⟩ := hob1
      have hil : i < ls.length := by omega
      have hjl : j < ls.length := by omega
      have hobA := SlG_at (hlA.keep hK5) hil
      obtain ⟨qa, hixA, hrdA, _⟩ := hobA
      have hobB := SlG_at (hlA.keep hK5) hjl
      obtain ⟨qb, hixB, hrdB, _⟩ := hobB
      have hfo := drawn hL5 (joins_runs hS (ls.getD i default) (ls.getD j default) ch (hfit i hil) (H5.relow H5.size))
      obtain ⟨H6, H7, hK7, hL7, f2, fd⟩ := hfo
      have hK57 := hK5.trans hK7
      rw [hi] at hrdp
      by_cases c3 : joinB ch (ls.getD i default) (ls.getD j default) = true
      · rw [c3] at f2
        have hall' := hall.succ ⟨⟨by omega, by omega⟩, fun _ => by rw [hi, hj', Int.toNat_natCast, Int.toNat_natCast]; exact c3⟩
        clear hall c3 hlA hjA hfit hK7 hpv hi hj' hpost
        repeat' (first | (with_reducible refine sxGuardB_tsp (fun h => ?_) (fun h => ?_)) | (with_reducible refine sxGuardB_fsp (fun h => ?_) (fun h => ?_)) | (with_reducible refine sxIfB_sp (fun h => ?_) (fun h => ?_)) | simp only [↓sxC_skip, ↓sxC_draw, ↓sxC_region, ↓sxC_seq, ↓bxC_cond, ↓sxC_block, ↓sxC_exit, ↓sxC_ret, ↓sxOps_nil, ↓sxOps_cons, ↓sxDraw_nil, ↓bxDraw_cons, ↓sxDL_move, ↓sxDL_pick, ↓sxDL_load, ↓sxDL_binOp, ↓sxDL_unOp, ↓sxDL_indexAddr, ↓sxD_same, ↓sxStep_none, ↓bxStep_some, ↓bxOp_move, ↓bxOp_assign, ↓bxOp_pick, ↓bxOp_load, ↓bxOp_bin, ↓bxOp_un, ↓bxOp_indexAddr, ↓bxOp_value, ↓bxOp_len, ↓bxPut, ↓seqQ_normal, ↓seqQ_exit, ↓seqQ_ret, ↓blockQ_normal, ↓blockQ_ret, ↓blockQ_exit, ↓loopQ_normal, ↓loopQ_exit, ↓loopQ_ret, ↓resQ_ret, ↓sxRes_nil, ↓sxRes_tmp, ↓upd_apply, ↓ev_tmp, ↓ev_const, ↓ev_func, ↓dstAt, ↓gval_some, sxOptB_some, binP_int, intBin, una_nt, aPick_true, aPick_false, sxCallVB_fn, sxGuardB_tt, sxGuardB_ff, sxIfB_t, sxIfB_f, packRes_two, List.map_cons, List.map_nil, List.nil_append, List.append_nil, ↓reduceIte, Nat.reduceEqDiff, Nat.reduceLT, dec_T, dec_F, true_and, aLoad_relow, one1, Option.bind_some, Option.map_some, *, lenIs, lenG, ldC, ldG, one1, packRes_two] | (with_reducible refine sxDL_barE (by assumption) (by decide +kernel) ?_) | (with_reducible refine sxDL_bar (by decide +kernel) ?_) | (with_reducible refine sxD_bar (by decide +kernel) ?_) | (with_reducible refine sxDL_callD ?_))
        exact ⟨js.length - (k + 1), by omega, k + 1, rfl, by omega, hall', rfl⟩
      · have hno : ¬ OkAt ls ch js k := fun h => by
          have h2 := h.2 c2
          rw [hi, hj', Int.toNat_natCast, Int.toNat_natCast] at h2
          exact c3 h2
        have c3' : joinB ch (ls.getD i default) (ls.getD j default) = false := by simpa using c3
        rw [c3'] at f2
        have hp := hpost false H7 ⟨fun h0 => absurd h0 hz, fun _ => ⟨fun hh => (by cases hh), fun hh => absurd (hh.1 k hlt) hno⟩⟩ hK57
        clear hall hno c3 hlA hjA hfit hK7 hK5 hK57 hpv hi hj' hpost
        repeat' (first | (with_reducible refine sxGuardB_tsp (fun h => ?_) (fun h => ?_)) | (with_reducible refine sxGuardB_fsp (fun h => ?_) (fun h => ?_)) | (with_reducible refine sxIfB_sp (fun h => ?_) (fun h => ?_)) | simp only [↓sxC_skip, ↓sxC_draw, ↓sxC_region, ↓sxC_seq, ↓bxC_cond, ↓sxC_block, ↓sxC_exit, ↓sxC_ret, ↓sxOps_nil, ↓sxOps_cons, ↓sxDraw_nil, ↓bxDraw_cons, ↓sxDL_move, ↓sxDL_pick, ↓sxDL_load, ↓sxDL_binOp, ↓sxDL_unOp, ↓sxDL_indexAddr, ↓sxD_same, ↓sxStep_none, ↓bxStep_some, ↓bxOp_move, ↓bxOp_assign, ↓bxOp_pick, ↓bxOp_load, ↓bxOp_bin, ↓bxOp_un, ↓bxOp_indexAddr, ↓bxOp_value, ↓bxOp_len, ↓bxPut, ↓seqQ_normal, ↓seqQ_exit, ↓seqQ_ret, ↓blockQ_normal, ↓blockQ_ret, ↓blockQ_exit, ↓loopQ_normal, ↓loopQ_exit, ↓loopQ_ret, ↓resQ_ret, ↓sxRes_nil, ↓sxRes_tmp, ↓upd_apply, ↓ev_tmp, ↓ev_const, ↓ev_func, ↓dstAt, ↓gval_some, sxOptB_some, binP_int, intBin, una_nf, aPick_true, aPick_false, sxCallVB_fn, sxGuardB_tt, sxGuardB_ff, sxIfB_t, packRes_two, List.map_cons, List.map_nil, List.nil_append, List.append_nil, ↓reduceIte, Nat.reduceEqDiff, Nat.reduceLT, dec_T, dec_F, aLoad_relow, one1, Option.bind_some, Option.map_some, *, lenIs, lenG, ldC, ldG, one1, packRes_two] | (with_reducible refine sxDL_barE (by assumption) (by decide +kernel) ?_) | (with_reducible refine sxDL_bar (by decide +kernel) ?_) | (with_reducible refine sxD_bar (by decide +kernel) ?_) | (with_reducible refine sxDL_callD ?_))
    · have c2' : ¬ (0 : Int) < (k : Int) := by omega
      have hall' := hall.succ ⟨⟨by omega, by omega⟩, fun h => absurd h c2⟩
      clear hall hlA hjA hfit hpost hj'
      repeat' (first | (with_reducible refine sxGuardB_tsp (fun h => ?_) (fun h => ?_)) | (with_reducible refine sxGuardB_fsp (fun h => ?_) (fun h => ?_)) | (with_reducible refine sxIfB_sp (fun h => ?_) (fun h => ?_)) | simp only [↓sxC_skip, ↓sxC_draw, ↓sxC_region, ↓sxC_seq, ↓bxC_cond, ↓sxC_block, ↓sxC_exit, ↓sxC_ret, ↓sxOps_nil, ↓sxOps_cons, ↓sxDraw_nil, ↓bxDraw_cons, ↓sxDL_move, ↓sxDL_pick, ↓sxDL_load, ↓sxDL_binOp, ↓sxDL_unOp, ↓sxDL_indexAddr, ↓sxD_same, ↓sxStep_none, ↓bxStep_some, ↓bxOp_move, ↓bxOp_assign, ↓bxOp_pick, ↓bxOp_load, ↓bxOp_bin, ↓bxOp_un, ↓bxOp_indexAddr, ↓bxOp_value, ↓bxOp_len, ↓bxPut, ↓seqQ_normal, ↓seqQ_exit, ↓seqQ_ret, ↓blockQ_normal, ↓blockQ_ret, ↓blockQ_exit, ↓loopQ_normal, ↓loopQ_exit, ↓loopQ_ret, ↓resQ_ret, ↓sxRes_nil, ↓sxRes_tmp, ↓upd_apply, ↓ev_tmp, ↓ev_const, ↓ev_func, ↓dstAt, ↓gval_some, sxOptB_some, binP_int, intBin, aPick_false, sxCallVB_fn, sxGuardB_tf, sxGuardB_ff, sxIfB_t, sxIfB_f, packRes_two, List.nil_append, ↓reduceIte, Nat.reduceEqDiff, Nat.reduceLT, dec_T, dec_F, true_and, aLoad_relow, one1, Option.bind_some, *, lenIs, lenG, ldC, one1, packRes_two] | (with_reducible refine sxDL_barE (by assumption) (by decide +kernel) ?_) | (with_reducible refine sxDL_bar (by decide +kernel) ?_) | (with_reducible refine sxD_bar (by decide +kernel) ?_) | (with_reducible refine sxDL_callD ?_))
      exact ⟨js.length - (k + 1), by omega, k + 1, rfl, by omega, hall', rfl⟩
  · have hke : k = js.length := by omega
    subst hke
    have hlt' : ¬ (((js.length : Nat) : Int) < ((js.length : Nat) : Int)) := by omega
    have hgi := Int.eq_ofNat_of_zero_le (hall 0 (by omega)).1.1
    obtain ⟨i, hi⟩ := hgi
    have hgj := Int.eq_ofNat_of_zero_le (hall (js.length - 1) (by omega)).1.1
    obtain ⟨j, hj'⟩ := hgj
    have hil : i < ls.length := by have := (hall 0 (by omega)).1; omega
    have hjl : j < ls.length := by have := (hall (js.length - 1) (by omega)).1; omega
    have hob0 := SlI_at (hjA.keep hK5) (show 0 < js.length by omega)
    obtain ⟨hix0, hrd0⟩ := hob0
    have hix0 : aIndexAt Try.prog 25 (.slice a2 js.length c2) (.int .i64 0) = some (.pointer (some ⟨r2, o2 + 0, none⟩)) := hix0
    rw [Nat.add_zero] at hix0 hrd0
    have hobA := SlG_at (hlA.keep hK5) hil
    obtain ⟨qa, hixA, _, ra0, _, ra2, _⟩ := hobA
    have hobB := SlG_at (hlA.keep hK5) hjl
    obtain ⟨qb, hixB, _, _, rb1, _⟩ := hobB
    have hob1 := SlI_at (hjA.keep hK5) (show js.length - 1 < js.length by omega)
    obtain ⟨hix1, hrd1⟩ := hob1
    have hw1 : IntKind.i64.wrap ((js.length : Int) - 1) = ((js.length - 1 : Nat) : Int) := by rw [IntWalk.i64_in _ (by omega)]; omega
    have hpo : ∀ b, (b = true ↔ ((ls.getD i default).f = fr ∧ at' ≤ (ls.getD i default).d) ∧ (ls.getD j default).t = to) → PostQ H 0 (RsJ ls ch fr to at' js) (.tuple ⟨[.bool b, .int .i64 0]⟩) H5 := fun b hb => by
      refine hpost b H5 ⟨fun h => absurd h hz, fun _ => ?_⟩ hK5
      rw [hi, hj', Int.toNat_natCast, Int.toNat_natCast, hb]
      exact ⟨fun h => ⟨hall, h⟩, fun h => h.2⟩
    rw [hi] at hrd0
    rw [hj'] at hrd1
    have hgx : ∃ x, x = ls.getD i default := ⟨_, rfl⟩
    obtain ⟨x, hx⟩ := hgx
    have hgy : ∃ y, y = ls.getD j default := ⟨_, rfl⟩
    obtain ⟨y, hy⟩ := hgy
    rw [← hx] at ra0 ra2
    rw [← hy] at rb1
    rw [← hx, ← hy] at hpo
    by_cases c1 : x.f = fr
    · have d1 : decide (x.f = fr) = true := decide_eq_true c1
      by_cases c2 : at' ≤ x.d
      · by_cases c3 : y.t = to
        · have d3 : decide (y.t = to) = true := decide_eq_true c3
          have hp := hpo true ⟨fun _ => ⟨⟨c1, c2⟩, c3⟩, fun _ => rfl⟩
          clear hall hlA hjA hfit hK5 hpost hpo c1 c3 hi hj' hx hy
          repeat' (first | (with_reducible refine sxGuardB_tsp (fun h => ?_) (fun h => ?_)) | (with_reducible refine sxGuardB_fsp (fun h => ?_) (fun h => ?_)) | (with_reducible refine sxIfB_sp (fun h => ?_) (fun h => ?_)) | simp only [↓sxC_skip, ↓sxC_draw, ↓sxC_region, ↓sxC_seq, ↓bxC_cond, ↓sxC_block, ↓sxC_exit, ↓sxC_ret, ↓sxOps_nil, ↓sxOps_cons, ↓sxDraw_nil, ↓bxDraw_cons, ↓sxDL_move, ↓sxDL_pick, ↓sxDL_load, ↓sxDL_binOp, ↓sxDL_unOp, ↓sxDL_indexAddr, ↓sxStep_none, ↓bxStep_some, ↓bxOp_move, ↓bxOp_assign, ↓bxOp_pick, ↓bxOp_load, ↓bxOp_bin, ↓bxOp_un, ↓bxOp_indexAddr, ↓bxOp_value, ↓bxOp_len, ↓bxPut, ↓seqQ_normal, ↓seqQ_exit, ↓seqQ_ret, ↓blockQ_normal, ↓blockQ_ret, ↓blockQ_exit, ↓loopQ_normal, ↓loopQ_exit, ↓loopQ_ret, ↓resQ_ret, ↓sxRes_nil, ↓sxRes_tmp, ↓upd_apply, ↓ev_tmp, ↓ev_const, ↓ev_func, ↓dstAt, ↓gval_some, sxOptB_some, binP_int, intBin, aPick_true, sxCallVB_fn, sxGuardB_tt, sxIfB_f, packRes_two, List.nil_append, ↓reduceIte, Nat.reduceEqDiff, Nat.reduceLT, dec_T, dec_F, Nat.add_zero, one1, Option.bind_some, *, lenIs, faG0, faG1, faG2, ldC, one1, packRes_two] | (with_reducible refine sxDL_barE (by assumption) (by decide +kernel) ?_) | (with_reducible refine sxDL_bar (by decide +kernel) ?_) | (with_reducible refine sxD_bar (by decide +kernel) ?_) | (with_reducible refine sxDL_callD ?_))
        · have d3 : decide (y.t = to) = false := decide_eq_false c3
          have hp := hpo false ⟨fun h => (by cases h), fun h => absurd h.2 c3⟩
          clear hall hlA hjA hfit hK5 hpost hpo c1 c3 hi hj' hx hy
          repeat' (first | (with_reducible refine sxGuardB_tsp (fun h => ?_) (fun h => ?_)) | (with_reducible refine sxGuardB_fsp (fun h => ?_) (fun h => ?_)) | (with_reducible refine sxIfB_sp (fun h => ?_) (fun h => ?_)) | simp only [↓sxC_skip, ↓sxC_draw, ↓sxC_region, ↓sxC_seq, ↓bxC_cond, ↓sxC_block, ↓sxC_exit, ↓sxC_ret, ↓sxOps_nil, ↓sxOps_cons, ↓sxDraw_nil, ↓bxDraw_cons, ↓sxDL_move, ↓sxDL_pick, ↓sxDL_load, ↓sxDL_binOp, ↓sxDL_unOp, ↓sxDL_indexAddr, ↓sxStep_none, ↓bxStep_some, ↓bxOp_move, ↓bxOp_assign, ↓bxOp_pick, ↓bxOp_load, ↓bxOp_bin, ↓bxOp_un, ↓bxOp_indexAddr, ↓bxOp_value, ↓bxOp_len, ↓bxPut, ↓seqQ_normal, ↓seqQ_exit, ↓seqQ_ret, ↓blockQ_normal, ↓blockQ_ret, ↓blockQ_exit, ↓loopQ_normal, ↓loopQ_exit, ↓loopQ_ret, ↓resQ_ret, ↓sxRes_nil, ↓sxRes_tmp, ↓upd_apply, ↓ev_tmp, ↓ev_const, ↓ev_func, ↓dstAt, ↓gval_some, sxOptB_some, binP_int, intBin, aPick_true, sxCallVB_fn, sxGuardB_tt, sxIfB_f, packRes_two, List.nil_append, ↓reduceIte, Nat.reduceEqDiff, Nat.reduceLT, dec_T, dec_F, Nat.add_zero, one1, Option.bind_some, *, lenIs, faG0, faG1, faG2, ldC, one1, packRes_two] | (with_reducible refine sxDL_barE (by assumption) (by decide +kernel) ?_) | (with_reducible refine sxDL_bar (by decide +kernel) ?_) | (with_reducible refine sxD_bar (by decide +kernel) ?_) | (with_reducible refine sxDL_callD ?_))
      · have hp := hpo false ⟨fun h => (by cases h), fun h => absurd h.1.2 c2⟩
        clear hall hlA hjA hfit hK5 hpost hpo c1 hi hj' hx hy
        repeat' (first | (with_reducible refine sxGuardB_tsp (fun h => ?_) (fun h => ?_)) | (with_reducible refine sxGuardB_fsp (fun h => ?_) (fun h => ?_)) | (with_reducible refine sxIfB_sp (fun h => ?_) (fun h => ?_)) | simp only [↓sxC_skip, ↓sxC_draw, ↓sxC_region, ↓sxC_seq, ↓bxC_cond, ↓sxC_block, ↓sxC_exit, ↓sxC_ret, ↓sxOps_nil, ↓sxOps_cons, ↓sxDraw_nil, ↓bxDraw_cons, ↓sxDL_move, ↓sxDL_pick, ↓sxDL_load, ↓sxDL_binOp, ↓sxDL_unOp, ↓sxDL_indexAddr, ↓sxStep_none, ↓bxStep_some, ↓bxOp_move, ↓bxOp_assign, ↓bxOp_pick, ↓bxOp_load, ↓bxOp_bin, ↓bxOp_un, ↓bxOp_indexAddr, ↓bxOp_value, ↓bxOp_len, ↓bxPut, ↓seqQ_normal, ↓seqQ_exit, ↓seqQ_ret, ↓blockQ_normal, ↓blockQ_ret, ↓blockQ_exit, ↓loopQ_normal, ↓loopQ_exit, ↓loopQ_ret, ↓resQ_ret, ↓sxRes_nil, ↓sxRes_tmp, ↓upd_apply, ↓ev_tmp, ↓ev_const, ↓ev_func, ↓dstAt, ↓gval_some, sxOptB_some, binP_int, intBin, aPick_true, aPick_false, sxCallVB_fn, sxGuardB_tt, sxGuardB_tf, sxIfB_f, packRes_two, List.nil_append, ↓reduceIte, Nat.reduceEqDiff, Nat.reduceLT, dec_F, Nat.add_zero, one1, Option.bind_some, *, lenIs, faG0, faG2, ldC, one1, packRes_two] | (with_reducible refine sxDL_barE (by assumption) (by decide +kernel) ?_) | (with_reducible refine sxDL_bar (by decide +kernel) ?_) | (with_reducible refine sxD_bar (by decide +kernel) ?_) | (with_reducible refine sxDL_callD ?_))
    · have d1 : decide (x.f = fr) = false := decide_eq_false c1
      have hp := hpo false ⟨fun h => (by cases h), fun h => absurd h.1.1 c1⟩
      clear hall hlA hjA hfit hK5 hpost hpo c1 hi hj' hx hy
      repeat' (first | (with_reducible refine sxGuardB_tsp (fun h => ?_) (fun h => ?_)) | (with_reducible refine sxGuardB_fsp (fun h => ?_) (fun h => ?_)) | (with_reducible refine sxIfB_sp (fun h => ?_) (fun h => ?_)) | simp only [↓sxC_skip, ↓sxC_draw, ↓sxC_region, ↓sxC_seq, ↓bxC_cond, ↓sxC_block, ↓sxC_exit, ↓sxC_ret, ↓sxOps_nil, ↓sxOps_cons, ↓sxDraw_nil, ↓bxDraw_cons, ↓sxDL_move, ↓sxDL_pick, ↓sxDL_load, ↓sxDL_binOp, ↓sxDL_unOp, ↓sxDL_indexAddr, ↓sxStep_none, ↓bxStep_some, ↓bxOp_move, ↓bxOp_assign, ↓bxOp_pick, ↓bxOp_load, ↓bxOp_bin, ↓bxOp_un, ↓bxOp_indexAddr, ↓bxOp_value, ↓bxOp_len, ↓bxPut, ↓seqQ_normal, ↓seqQ_exit, ↓seqQ_ret, ↓blockQ_normal, ↓blockQ_ret, ↓blockQ_exit, ↓loopQ_normal, ↓loopQ_exit, ↓loopQ_ret, ↓resQ_ret, ↓sxRes_nil, ↓sxRes_tmp, ↓upd_apply, ↓ev_tmp, ↓ev_const, ↓ev_func, ↓dstAt, ↓gval_some, sxOptB_some, binP_int, intBin, aPick_false, sxCallVB_fn, sxGuardB_tf, sxIfB_f, packRes_two, List.nil_append, ↓reduceIte, Nat.reduceEqDiff, Nat.reduceLT, dec_F, Nat.add_zero, one1, Option.bind_some, *, lenIs, faG0, ldC, one1, packRes_two] | (with_reducible refine sxDL_barE (by assumption) (by decide +kernel) ?_) | (with_reducible refine sxDL_bar (by decide +kernel) ?_) | (with_reducible refine sxD_bar (by decide +kernel) ?_) | (with_reducible refine sxDL_callD ?_))
end Go.Proofs.Ytfekdjpfjogklaa
