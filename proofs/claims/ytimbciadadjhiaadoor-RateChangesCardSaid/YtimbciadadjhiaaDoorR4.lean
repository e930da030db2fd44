/- Change of the program and Change of the reference come to one and the same pair, for all arguments. -/
import Derived.Test.YtimbciadadjhiaaDoorR3
set_option linter.unusedVariables false
set_option linter.unusedSimpArgs false
set_option linter.unusedSectionVars false
namespace Go.Proofs.YtimbciadadjhiaaDoor
open Go Go.AM
set_option maxRecDepth 10000
set_option linter.unusedSimpArgs false
set_option linter.unusedVariables false

/-- One offer after the other, as both do it. -/
def stepA (l : List Off) (i a : Int) : Int := IntKind.i64.wrap ((IntKind.i64.wrap (a * (l.getD i.toNat default).n)).tdiv (l.getD i.toNat default).d)
def chgL (l : List Off) : List Int → Int → Int × Int
  | [], a => (a, 0)
  | i :: ws, a => if 1099511627776 < stepA l i a then (0, 4) else chgL l ws (stepA l i a)
def chg (n : Int) (l : List Off) (w : List Int) (a : Int) : Int × Int :=
  if chk n l ≠ 0 then (0, chk n l) else if 20 < w.length ∨ ¬ IsWalk l w ∨ a < 0 ∨ 1099511627776 < a then (0, 2) else chgL l w a

theorem chgL_step {l : List Off} {w : List Int} {k : Nat} (h : k < w.length) (a : Int) :
    chgL l (w.drop k) a = if 1099511627776 < stepA l (w.getD k 0) a then (0, 4) else chgL l (w.drop (k + 1)) (stepA l (w.getD k 0) a) := by
  rw [List.drop_eq_getElem_cons h, List.getD_eq_getElem?_getD, List.getElem?_eq_getElem h]
  rfl
def pair (p : Int × Int) : Value := .tuple ⟨[.int .i64 p.1, .int .i64 p.2]⟩
theorem pair_of {a b : Int} {p : Int × Int} (h : p = (a, b)) : Value.tuple ⟨[.int .i64 a, .int .i64 b]⟩ = pair p := by rw [h]; rfl

theorem chk_all {n : Int} {l : List Off} (h : chk n l = 0) : ∀ x ∈ l, IsOff n x := by
  unfold chk at h
  split at h
  · omega
  · split at h
    · omega
    · split at h
      · assumption
      · omega

variable {S : AM.Sys} (hS : Only S 5)
include hS

set_option maxHeartbeats 1000000 in
theorem change_runs (n : Int) (l : List Off) (w : List Int) (am : Int) (vl vw : Value) (r o r' o' : Nat) (H : Heap) (hl : SlO H vl l r o) (hw : SlI H vw w r' o') (hlow : H.low ≤ H.size)
    (hlen : l.length ≤ 4611686018427387904) (hlen' : w.length ≤ 4611686018427387904) :
    ∃ H', Keep H H' ∧ Runs Tryd.prog S (.fn 6) [.int .i64 n, vl, vw, .int .i64 am] H (pair (chg n l w am)) H' := by
  obtain ⟨Hc, hKc, hRc⟩ := check_runs hS n vl l r o H hl hlen
  suffices h : WCall Tryd.prog S (.fn 6) [.int .i64 n, vl, vw, .int .i64 am] H (fun v H' => v = pair (chg n l w am) ∧ H' = Hc) by
    obtain ⟨_, H', hr, rfl, rfl⟩ := h; exact ⟨_, hKc, hr⟩
  have hlc := hl.keep hKc
  have hwc := hw.keep hKc
  have hlowc := hKc.low hlow
  have hWk := isWalk_runs hS l w vl vw r o r' o' Hc hlc hwc hlowc hlen hlen'
  obtain ⟨a, cap, rfl⟩ := hl.isv
  obtain ⟨a', cap', rfl⟩ := hw.isv
  refine call_of Tryd.func6 rfl (Nat.le_of_ble_eq_true rfl) (hS.no rfl _ _) ?_
  rw [Tryd.ntmps6, Tryd.results6]
  have hb := hRc.bx
  have hb2 := hWk.bx
  clear hRc hWk hl hw hKc
  repeat' (first | (with_reducible refine sxGuardB_tsp (fun h => ?_) (fun h => ?_)) | (with_reducible refine sxGuardB_fsp (fun h => ?_) (fun h => ?_)) | (with_reducible refine sxIfB_sp (fun h => ?_) (fun h => ?_)) | simp only [↓sxC_skip, ↓sxC_draw, ↓sxC_region, ↓sxC_seq, ↓bxC_cond, ↓bxC_loop, ↓sxC_block, ↓sxC_exit, ↓sxC_goto, ↓sxC_ret, ↓sxOps_nil, ↓sxOps_cons, ↓sxDraw_nil, ↓bxDraw_cons, ↓sxD_same, ↓sxStep_none, ↓bxStep_some, ↓bxOp_move, ↓bxOp_assign, ↓bxOp_pick, ↓bxOp_alloc, ↓bxOp_box, ↓bxOp_build, ↓bxOp_buildSlice, ↓bxOp_load, ↓bxOp_store, ↓bxOp_nilCheck, ↓bxOp_bin, ↓bxOp_un, ↓bxOp_makeI, ↓bxOp_makeFunc, ↓bxOp_makeSlice, ↓bxOp_slice, ↓bxOp_fieldAddr, ↓bxOp_field, ↓bxOp_indexAddr, ↓bxOp_index, ↓bxOp_assert, ↓bxOp_extract, ↓bxOp_value, ↓bxOp_len, ↓bxOp_cap, ↓bxOp_append, ↓bxOp_copy, ↓sxPut_none, ↓bxPut, ↓seqQ_normal, ↓seqQ_exit, ↓seqQ_ret, ↓seqQ_goto, ↓blockQ_normal, ↓blockQ_ret, ↓blockQ_goto, ↓blockQ_exit, ↓loopQ_normal, ↓loopQ_exit, ↓loopQ_ret, ↓loopQ_goto, ↓resQ_normal, ↓resQ_ret, ↓sxRes_nil, ↓sxRes_tmp, ↓bxRes_cell, ↓upd_apply, ↓ev_tmp, ↓ev_const, ↓ev_global, ↓ev_func, ↓dstAt, ↓gval_some, sxOptB_some, sxOptB_ite, bin_int, intBin, una_not_dec, una_nt, una_nf, una_neg, aPick_true, aPick_false, sxCallVB_fn, sxCallVB_yield, sxGuardB_u, sxGuardB_tt, sxGuardB_tf, sxGuardB_ft, sxGuardB_ff, sxIfB_t, sxIfB_f, packRes_one, packRes_two, List.map_cons, List.map_nil, List.nil_append, List.cons_append, List.append_nil, ↓reduceIte, Nat.reduceEqDiff, Nat.reduceLT, dec_T, dec_F, false_imp, true_and, and_true, true_implies, implies_true, false_and, and_false, true_or, or_true, false_or, or_false, and_self, or_self, read_relow, size_relow, low_relow, relow_relow, aLoad_relow, Nat.add_zero, Nat.mul_one, one1, Option.bind_some, ne_eq, Int.natCast_nonneg, Int.toNat_natCast, not_true_eq_false, not_false_eq_true, Option.map_some, Option.map_none, *, argF, List.getD_cons_zero, List.getD_cons_succ, len22, len23])
  all_goals first
    | (exact pair_of (by rw [chg, if_pos ‹¬ chk n l = 0›]))
    | (refine pair_of ?_
       rw [chg, if_neg ‹¬ ¬ chk n l = 0›, if_pos]
       first
         | exact .inl (by omega)
         | exact .inr (.inl ‹¬ IsWalk l w›)
         | exact .inr (.inr (.inl (by omega)))
         | exact .inr (.inr (.inr (by omega))))
    | skip
  have hall := chk_all (Decidable.not_not.1 ‹¬ ¬ chk n l = 0›)
  have hwalk : IsWalk l w := Decidable.not_not.1 ‹¬ ¬ IsWalk l w›
  have hend : chg n l w am = chgL l w am := by
    rw [chg, if_neg ‹¬ ¬ chk n l = 0›, if_neg]
    rintro (h1 | h1 | h1 | h1)
    · omega
    · exact h1 hwalk
    · omega
    · omega
  rw [hend]
  clear hend hb hb2
  refine sxL_of (fun m ρ H1 => ∃ k : Nat, ∃ c : Int, m = w.length - k ∧ k ≤ w.length ∧ H1 = Hc ∧ chgL l w am = chgL l (w.drop k) c ∧ ρ 1 = .slice a l.length cap ∧ ρ 3 = .int .i64 c ∧ ρ 36 = .slice a' w.length cap' ∧ ρ 37 = .int .i64 w.length ∧ ρ 38 = .int .i64 k) ⟨0, am, rfl, Nat.zero_le _, rfl, rfl, rfl, rfl, rfl, rfl, rfl⟩ ?_
  rintro m ρ H1 ⟨k, c, rfl, hk, rfl, hc, e1, e3, e36, e37, e38⟩
  have hwi : ∀ i : Int, 0 ≤ i → i < (w.length : Int) → aIndexAt Tryd.prog 23 (.slice a' w.length cap') (.int .i64 i) = some (.pointer (some ⟨r', o' + i.toNat, none⟩)) := fun i h0 h1 => by
    have := hwc.ix .i64 i h0 h1; rwa [Nat.mul_one] at this
  have hli : ∀ i : Int, 0 ≤ i → i < (l.length : Int) → aIndexAt Tryd.prog 22 (.slice a l.length cap) (.int .i64 i) = some (.pointer (some ⟨r, o + i.toNat * 4, none⟩)) := fun i h0 h1 => hlc.ix .i64 i h0 h1
  by_cases hkw : k < w.length
  · have hkw' : ((k : Nat) : Int) < (w.length : Int) := by omega
    have hwk : H1.read r' (o' + k) 1 = some [.int .i64 (w.getD k 0)] := by
      have := SlI.at hwc (i := (k : Int)) (by omega) hkw'; rwa [Int.toNat_natCast] at this
    have hs : IntKind.i64.wrap ((k : Int) + 1) = ((k + 1 : Nat) : Int) := wrap_succ (n := w.length) hkw hlen'
    obtain ⟨hx0, hx1⟩ := (hwalk k hkw).1
    have hf := SlO.fld hlc hx0 hx1
    have hn := hf.2.2.1
    have hd := hf.2.2.2.1
    have hz : (l.getD (w.getD k 0).toNat default).d ≠ 0 := by
      have := hall _ (getD_mem (show (w.getD k 0).toNat < l.length by omega))
      unfold IsOff at this; omega
    have hst := chgL_step (l := l) hkw c
    unfold stepA at hst
    rw [hst] at hc
    generalize hx : w.getD k 0 = x at *
    clear hlc hwc hall hwalk hf hst
    repeat' (first | (with_reducible refine sxGuardB_tsp (fun h => ?_) (fun h => ?_)) | (with_reducible refine sxGuardB_fsp (fun h => ?_) (fun h => ?_)) | (with_reducible refine sxIfB_sp (fun h => ?_) (fun h => ?_)) | simp only [↓sxC_skip, ↓sxC_draw, ↓sxC_region, ↓sxC_seq, ↓bxC_cond, ↓bxC_loop, ↓sxC_block, ↓sxC_exit, ↓sxC_goto, ↓sxC_ret, ↓sxOps_nil, ↓sxOps_cons, ↓sxDraw_nil, ↓bxDraw_cons, ↓sxD_same, ↓sxStep_none, ↓bxStep_some, ↓bxOp_move, ↓bxOp_assign, ↓bxOp_pick, ↓bxOp_alloc, ↓bxOp_box, ↓bxOp_build, ↓bxOp_buildSlice, ↓bxOp_load, ↓bxOp_store, ↓bxOp_nilCheck, ↓bxOp_bin, ↓bxOp_un, ↓bxOp_makeI, ↓bxOp_makeFunc, ↓bxOp_makeSlice, ↓bxOp_slice, ↓bxOp_fieldAddr, ↓bxOp_field, ↓bxOp_indexAddr, ↓bxOp_index, ↓bxOp_assert, ↓bxOp_extract, ↓bxOp_value, ↓bxOp_len, ↓bxOp_cap, ↓bxOp_append, ↓bxOp_copy, ↓sxPut_none, ↓bxPut, ↓seqQ_normal, ↓seqQ_exit, ↓seqQ_ret, ↓seqQ_goto, ↓blockQ_normal, ↓blockQ_ret, ↓blockQ_goto, ↓blockQ_exit, ↓loopQ_normal, ↓loopQ_exit, ↓loopQ_ret, ↓loopQ_goto, ↓resQ_normal, ↓resQ_ret, ↓sxRes_nil, ↓sxRes_tmp, ↓bxRes_cell, ↓upd_apply, ↓ev_tmp, ↓ev_const, ↓ev_global, ↓ev_func, ↓dstAt, ↓gval_some, sxOptB_some, sxOptB_ite, bin_int, intBin, una_not_dec, una_nt, una_nf, una_neg, aPick_true, aPick_false, sxCallVB_fn, sxCallVB_yield, sxGuardB_u, sxGuardB_tt, sxGuardB_tf, sxGuardB_ft, sxGuardB_ff, sxIfB_t, sxIfB_f, packRes_one, packRes_two, List.map_cons, List.map_nil, List.nil_append, List.cons_append, List.append_nil, ↓reduceIte, Nat.reduceEqDiff, Nat.reduceLT, dec_T, dec_F, false_imp, true_and, and_true, true_implies, implies_true, false_and, and_false, true_or, or_true, false_or, or_false, and_self, or_self, read_relow, size_relow, low_relow, relow_relow, aLoad_relow, Nat.add_zero, Nat.mul_one, one1, Option.bind_some, ne_eq, Int.natCast_nonneg, Int.toNat_natCast, not_true_eq_false, not_false_eq_true, Option.map_some, Option.map_none, *, len22, len23, ld3, fa39_2, fa39_3])
    · exact pair_of rfl
    · exact ⟨_, by omega, k + 1, _, rfl, by omega, rfl, rfl, rfl⟩
  · have hke : k = w.length := by omega
    subst hke
    have hnlt : ¬ ((w.length : Nat) : Int) < (w.length : Int) := by omega
    clear hlc hwc hall hwalk
    repeat' (first | (with_reducible refine sxGuardB_tsp (fun h => ?_) (fun h => ?_)) | (with_reducible refine sxGuardB_fsp (fun h => ?_) (fun h => ?_)) | (with_reducible refine sxIfB_sp (fun h => ?_) (fun h => ?_)) | simp only [↓sxC_skip, ↓sxC_draw, ↓sxC_region, ↓sxC_seq, ↓bxC_cond, ↓bxC_loop, ↓sxC_block, ↓sxC_exit, ↓sxC_goto, ↓sxC_ret, ↓sxOps_nil, ↓sxOps_cons, ↓sxDraw_nil, ↓bxDraw_cons, ↓sxD_same, ↓sxStep_none, ↓bxStep_some, ↓bxOp_move, ↓bxOp_assign, ↓bxOp_pick, ↓bxOp_alloc, ↓bxOp_box, ↓bxOp_build, ↓bxOp_buildSlice, ↓bxOp_load, ↓bxOp_store, ↓bxOp_nilCheck, ↓bxOp_bin, ↓bxOp_un, ↓bxOp_makeI, ↓bxOp_makeFunc, ↓bxOp_makeSlice, ↓bxOp_slice, ↓bxOp_fieldAddr, ↓bxOp_field, ↓bxOp_indexAddr, ↓bxOp_index, ↓bxOp_assert, ↓bxOp_extract, ↓bxOp_value, ↓bxOp_len, ↓bxOp_cap, ↓bxOp_append, ↓bxOp_copy, ↓sxPut_none, ↓bxPut, ↓seqQ_normal, ↓seqQ_exit, ↓seqQ_ret, ↓seqQ_goto, ↓blockQ_normal, ↓blockQ_ret, ↓blockQ_goto, ↓blockQ_exit, ↓loopQ_normal, ↓loopQ_exit, ↓loopQ_ret, ↓loopQ_goto, ↓resQ_normal, ↓resQ_ret, ↓sxRes_nil, ↓sxRes_tmp, ↓bxRes_cell, ↓upd_apply, ↓ev_tmp, ↓ev_const, ↓ev_global, ↓ev_func, ↓dstAt, ↓gval_some, sxOptB_some, sxOptB_ite, bin_int, intBin, una_not_dec, una_nt, una_nf, una_neg, aPick_true, aPick_false, sxCallVB_fn, sxCallVB_yield, sxGuardB_u, sxGuardB_tt, sxGuardB_tf, sxGuardB_ft, sxGuardB_ff, sxIfB_t, sxIfB_f, packRes_one, packRes_two, List.map_cons, List.map_nil, List.nil_append, List.cons_append, List.append_nil, ↓reduceIte, Nat.reduceEqDiff, Nat.reduceLT, dec_T, dec_F, false_imp, true_and, and_true, true_implies, implies_true, false_and, and_false, true_or, or_true, false_or, or_false, and_self, or_self, read_relow, size_relow, low_relow, relow_relow, aLoad_relow, Nat.add_zero, Nat.mul_one, one1, Option.bind_some, ne_eq, Int.natCast_nonneg, Int.toNat_natCast, not_true_eq_false, not_false_eq_true, Option.map_some, Option.map_none, *, len22, len23, ld3])
    exact pair_of (by rw [List.drop_length]; rfl)
set_option maxHeartbeats 1000000 in
theorem refChange_runs (n : Int) (l : List Off) (w : List Int) (am : Int) (vl vw : Value) (r o r' o' : Nat) (H : Heap) (hl : SlO H vl l r o) (hw : SlI H vw w r' o') (hlow : H.low ≤ H.size)
    (hlen : l.length ≤ 4611686018427387904) (hlen' : w.length ≤ 4611686018427387904) :
    ∃ H', Keep H H' ∧ Runs Tryd.prog S (.fn 7) [.int .i64 n, vl, vw, .int .i64 am] H (pair (chg n l w am)) H' := by
  obtain ⟨Hc, hKc, hRc⟩ := good_runs hS n vl l r o H hl hlen
  suffices h : WCall Tryd.prog S (.fn 7) [.int .i64 n, vl, vw, .int .i64 am] H (fun v H' => v = pair (chg n l w am) ∧ H' = Hc) by
    obtain ⟨_, H', hr, rfl, rfl⟩ := h; exact ⟨_, hKc, hr⟩
  have hlc := hl.keep hKc
  have hwc := hw.keep hKc
  have hlowc := hKc.low hlow
  have hWk := walk_runs hS l w vl vw r o r' o' Hc hlc hwc hlowc hlen hlen'
  obtain ⟨a, cap, rfl⟩ := hl.isv
  obtain ⟨a', cap', rfl⟩ := hw.isv
  refine call_of Tryd.func7 rfl (Nat.le_of_ble_eq_true rfl) (hS.no rfl _ _) ?_
  rw [Tryd.ntmps7, Tryd.results7]
  have hb := hRc.bx
  have hb2 := hWk.bx
  clear hRc hWk hl hw hKc
  repeat' (first | (with_reducible refine sxGuardB_tsp (fun h => ?_) (fun h => ?_)) | (with_reducible refine sxGuardB_fsp (fun h => ?_) (fun h => ?_)) | (with_reducible refine sxIfB_sp (fun h => ?_) (fun h => ?_)) | simp only [↓sxC_skip, ↓sxC_draw, ↓sxC_region, ↓sxC_seq, ↓bxC_cond, ↓bxC_loop, ↓sxC_block, ↓sxC_exit, ↓sxC_goto, ↓sxC_ret, ↓sxOps_nil, ↓sxOps_cons, ↓sxDraw_nil, ↓bxDraw_cons, ↓sxD_same, ↓sxStep_none, ↓bxStep_some, ↓bxOp_move, ↓bxOp_assign, ↓bxOp_pick, ↓bxOp_alloc, ↓bxOp_box, ↓bxOp_build, ↓bxOp_buildSlice, ↓bxOp_load, ↓bxOp_store, ↓bxOp_nilCheck, ↓bxOp_bin, ↓bxOp_un, ↓bxOp_makeI, ↓bxOp_makeFunc, ↓bxOp_makeSlice, ↓bxOp_slice, ↓bxOp_fieldAddr, ↓bxOp_field, ↓bxOp_indexAddr, ↓bxOp_index, ↓bxOp_assert, ↓bxOp_extract, ↓bxOp_value, ↓bxOp_len, ↓bxOp_cap, ↓bxOp_append, ↓bxOp_copy, ↓sxPut_none, ↓bxPut, ↓seqQ_normal, ↓seqQ_exit, ↓seqQ_ret, ↓seqQ_goto, ↓blockQ_normal, ↓blockQ_ret, ↓blockQ_goto, ↓blockQ_exit, ↓loopQ_normal, ↓loopQ_exit, ↓loopQ_ret, ↓loopQ_goto, ↓resQ_normal, ↓resQ_ret, ↓sxRes_nil, ↓sxRes_tmp, ↓bxRes_cell, ↓upd_apply, ↓ev_tmp, ↓ev_const, ↓ev_global, ↓ev_func, ↓dstAt, ↓gval_some, sxOptB_some, sxOptB_ite, bin_int, intBin, una_not_dec, una_nt, una_nf, una_neg, aPick_true, aPick_false, sxCallVB_fn, sxCallVB_yield, sxGuardB_u, sxGuardB_tt, sxGuardB_tf, sxGuardB_ft, sxGuardB_ff, sxIfB_t, sxIfB_f, packRes_one, packRes_two, List.map_cons, List.map_nil, List.nil_append, List.cons_append, List.append_nil, ↓reduceIte, Nat.reduceEqDiff, Nat.reduceLT, dec_T, dec_F, false_imp, true_and, and_true, true_implies, implies_true, false_and, and_false, true_or, or_true, false_or, or_false, and_self, or_self, read_relow, size_relow, low_relow, relow_relow, aLoad_relow, Nat.add_zero, Nat.mul_one, one1, Option.bind_some, ne_eq, Int.natCast_nonneg, Int.toNat_natCast, not_true_eq_false, not_false_eq_true, Option.map_some, Option.map_none, *, argF, List.getD_cons_zero, List.getD_cons_succ, len22, len23])
  all_goals first
    | (exact pair_of (by rw [chg, if_pos ‹¬ chk n l = 0›]))
    | (refine pair_of ?_
       rw [chg, if_neg ‹¬ ¬ chk n l = 0›, if_pos]
       first
         | exact .inl (by omega)
         | exact .inr (.inl ‹¬ IsWalk l w›)
         | exact .inr (.inr (.inl (by omega)))
         | exact .inr (.inr (.inr (by omega))))
    | skip
  have hall := chk_all (Decidable.not_not.1 ‹¬ ¬ chk n l = 0›)
  have hwalk : IsWalk l w := Decidable.not_not.1 ‹¬ ¬ IsWalk l w›
  have hend : chg n l w am = chgL l w am := by
    rw [chg, if_neg ‹¬ ¬ chk n l = 0›, if_neg]
    rintro (h1 | h1 | h1 | h1)
    · omega
    · exact h1 hwalk
    · omega
    · omega
  rw [hend]
  clear hend hb hb2
  refine sxL_of (fun m ρ H1 => ∃ k : Nat, ∃ c : Int, m = w.length - k ∧ k ≤ w.length ∧ H1 = Hc ∧ chgL l w am = chgL l (w.drop k) c ∧ ρ 1 = .slice a l.length cap ∧ ρ 2 = .slice a' w.length cap' ∧ ρ 3 = .int .i64 c ∧ ρ 11 = .int .i64 k) ⟨0, am, rfl, Nat.zero_le _, rfl, rfl, rfl, rfl, rfl, rfl⟩ ?_
  rintro m ρ H1 ⟨k, c, rfl, hk, rfl, hc, e1, e2, e3, e11⟩
  have hwi : ∀ i : Int, 0 ≤ i → i < (w.length : Int) → aIndexAt Tryd.prog 23 (.slice a' w.length cap') (.int .i64 i) = some (.pointer (some ⟨r', o' + i.toNat, none⟩)) := fun i h0 h1 => by
    have := hwc.ix .i64 i h0 h1; rwa [Nat.mul_one] at this
  have hli : ∀ i : Int, 0 ≤ i → i < (l.length : Int) → aIndexAt Tryd.prog 22 (.slice a l.length cap) (.int .i64 i) = some (.pointer (some ⟨r, o + i.toNat * 4, none⟩)) := fun i h0 h1 => hlc.ix .i64 i h0 h1
  by_cases hkw : k < w.length
  · have hkw' : ((k : Nat) : Int) < (w.length : Int) := by omega
    have hwk : H1.read r' (o' + k) 1 = some [.int .i64 (w.getD k 0)] := by
      have := SlI.at hwc (i := (k : Int)) (by omega) hkw'; rwa [Int.toNat_natCast] at this
    have hs : IntKind.i64.wrap ((k : Int) + 1) = ((k + 1 : Nat) : Int) := wrap_succ (n := w.length) hkw hlen'
    obtain ⟨hx0, hx1⟩ := (hwalk k hkw).1
    have hf := SlO.fld hlc hx0 hx1
    have hn := hf.2.2.1
    have hd := hf.2.2.2.1
    have hz : (l.getD (w.getD k 0).toNat default).d ≠ 0 := by
      have := hall _ (getD_mem (show (w.getD k 0).toNat < l.length by omega))
      unfold IsOff at this; omega
    have hst := chgL_step (l := l) hkw c
    unfold stepA at hst
    rw [hst] at hc
    generalize hx : w.getD k 0 = x at *
    clear hlc hwc hall hwalk hf hst
    repeat' (first | (with_reducible refine sxGuardB_tsp (fun h => ?_) (fun h => ?_)) | (with_reducible refine sxGuardB_fsp (fun h => ?_) (fun h => ?_)) | (with_reducible refine sxIfB_sp (fun h => ?_) (fun h => ?_)) | simp only [↓sxC_skip, ↓sxC_draw, ↓sxC_region, ↓sxC_seq, ↓bxC_cond, ↓bxC_loop, ↓sxC_block, ↓sxC_exit, ↓sxC_goto, ↓sxC_ret, ↓sxOps_nil, ↓sxOps_cons, ↓sxDraw_nil, ↓bxDraw_cons, ↓sxD_same, ↓sxStep_none, ↓bxStep_some, ↓bxOp_move, ↓bxOp_assign, ↓bxOp_pick, ↓bxOp_alloc, ↓bxOp_box, ↓bxOp_build, ↓bxOp_buildSlice, ↓bxOp_load, ↓bxOp_store, ↓bxOp_nilCheck, ↓bxOp_bin, ↓bxOp_un, ↓bxOp_makeI, ↓bxOp_makeFunc, ↓bxOp_makeSlice, ↓bxOp_slice, ↓bxOp_fieldAddr, ↓bxOp_field, ↓bxOp_indexAddr, ↓bxOp_index, ↓bxOp_assert, ↓bxOp_extract, ↓bxOp_value, ↓bxOp_len, ↓bxOp_cap, ↓bxOp_append, ↓bxOp_copy, ↓sxPut_none, ↓bxPut, ↓seqQ_normal, ↓seqQ_exit, ↓seqQ_ret, ↓seqQ_goto, ↓blockQ_normal, ↓blockQ_ret, ↓blockQ_goto, ↓blockQ_exit, ↓loopQ_normal, ↓loopQ_exit, ↓loopQ_ret, ↓loopQ_goto, ↓resQ_normal, ↓resQ_ret, ↓sxRes_nil, ↓sxRes_tmp, ↓bxRes_cell, ↓upd_apply, ↓ev_tmp, ↓ev_const, ↓ev_global, ↓ev_func, ↓dstAt, ↓gval_some, sxOptB_some, sxOptB_ite, bin_int, intBin, una_not_dec, una_nt, una_nf, una_neg, aPick_true, aPick_false, sxCallVB_fn, sxCallVB_yield, sxGuardB_u, sxGuardB_tt, sxGuardB_tf, sxGuardB_ft, sxGuardB_ff, sxIfB_t, sxIfB_f, packRes_one, packRes_two, List.map_cons, List.map_nil, List.nil_append, List.cons_append, List.append_nil, ↓reduceIte, Nat.reduceEqDiff, Nat.reduceLT, dec_T, dec_F, false_imp, true_and, and_true, true_implies, implies_true, false_and, and_false, true_or, or_true, false_or, or_false, and_self, or_self, read_relow, size_relow, low_relow, relow_relow, aLoad_relow, Nat.add_zero, Nat.mul_one, one1, Option.bind_some, ne_eq, Int.natCast_nonneg, Int.toNat_natCast, not_true_eq_false, not_false_eq_true, Option.map_some, Option.map_none, *, len22, len23, ld3, fa39_2, fa39_3])
    · exact pair_of rfl
    · exact ⟨_, by omega, k + 1, _, rfl, by omega, rfl, rfl, rfl⟩
  · have hke : k = w.length := by omega
    subst hke
    have hnlt : ¬ ((w.length : Nat) : Int) < (w.length : Int) := by omega
    clear hlc hwc hall hwalk
    repeat' (first | (with_reducible refine sxGuardB_tsp (fun h => ?_) (fun h => ?_)) | (with_reducible refine sxGuardB_fsp (fun h => ?_) (fun h => ?_)) | (with_reducible refine sxIfB_sp (fun h => ?_) (fun h => ?_)) | simp only [↓sxC_skip, ↓sxC_draw, ↓sxC_region, ↓sxC_seq, ↓bxC_cond, ↓bxC_loop, ↓sxC_block, ↓sxC_exit, ↓sxC_goto, ↓sxC_ret, ↓sxOps_nil, ↓sxOps_cons, ↓sxDraw_nil, ↓bxDraw_cons, ↓sxD_same, ↓sxStep_none, ↓bxStep_some, ↓bxOp_move, ↓bxOp_assign, ↓bxOp_pick, ↓bxOp_alloc, ↓bxOp_box, ↓bxOp_build, ↓bxOp_buildSlice, ↓bxOp_load, ↓bxOp_store, ↓bxOp_nilCheck, ↓bxOp_bin, ↓bxOp_un, ↓bxOp_makeI, ↓bxOp_makeFunc, ↓bxOp_makeSlice, ↓bxOp_slice, ↓bxOp_fieldAddr, ↓bxOp_field, ↓bxOp_indexAddr, ↓bxOp_index, ↓bxOp_assert, ↓bxOp_extract, ↓bxOp_value, ↓bxOp_len, ↓bxOp_cap, ↓bxOp_append, ↓bxOp_copy, ↓sxPut_none, ↓bxPut, ↓seqQ_normal, ↓seqQ_exit, ↓seqQ_ret, ↓seqQ_goto, ↓blockQ_normal, ↓blockQ_ret, ↓blockQ_goto, ↓blockQ_exit, ↓loopQ_normal, ↓loopQ_exit, ↓loopQ_ret, ↓loopQ_goto, ↓resQ_normal, ↓resQ_ret, ↓sxRes_nil, ↓sxRes_tmp, ↓bxRes_cell, ↓upd_apply, ↓ev_tmp, ↓ev_const, ↓ev_global, ↓ev_func, ↓dstAt, ↓gval_some, sxOptB_some, sxOptB_ite, bin_int, intBin, una_not_dec, una_nt, una_nf, una_neg, aPick_true, aPick_false, sxCallVB_fn, sxCallVB_yield, sxGuardB_u, sxGuardB_tt, sxGuardB_tf, sxGuardB_ft, sxGuardB_ff, sxIfB_t, sxIfB_f, packRes_one, packRes_two, List.map_cons, List.map_nil, List.nil_append, List.cons_append, List.append_nil, ↓reduceIte, Nat.reduceEqDiff, Nat.reduceLT, dec_T, dec_F, false_imp, true_and, and_true, true_implies, implies_true, false_and, and_false, true_or, or_true, false_or, or_false, and_self, or_self, read_relow, size_relow, low_relow, relow_relow, aLoad_relow, Nat.add_zero, Nat.mul_one, one1, Option.bind_some, ne_eq, Int.natCast_nonneg, Int.toNat_natCast, not_true_eq_false, not_false_eq_true, Option.map_some, Option.map_none, *, len22, len23, ld3])
    exact pair_of (by rw [List.drop_length]; rfl)
end Go.Proofs.YtimbciadadjhiaaDoor
