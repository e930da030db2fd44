/- The law QuotaContests comes to true on the canonical machine, for all arguments; the closed example is taken as known. -/
import Derived.Test.YtmcomjgebcemdaaGreatBT
set_option linter.unusedVariables false
set_option linter.unusedSimpArgs false
set_option linter.unusedSectionVars false

namespace Go.Proofs.YtmcomjgebcemdaaGreat
open Go Go.AM
set_option maxRecDepth 10000
set_option linter.unusedSimpArgs false

theorem gcd_half (F G : Int) (hF : 0 ≤ F) (hG : 0 ≤ G) (hFG : (F + G) % 2 = 0) : (2 / Q.gcdAll 2 [F, G] = halfD F ∧ [F, G].map (fun x => x / Q.gcdAll 2 [F, G]) = halfN F G) := by
  have h1 : Q.gcdAll 2 [F, G] = ((Nat.gcd (Nat.gcd 2 F.toNat) G.toNat : Nat) : Int) := rfl
  have h2 : ∀ n : Nat, Nat.gcd 2 n = if n % 2 = 0 then 2 else 1 := fun n => by
    rw [Nat.gcd_rec]
    rcases (show n % 2 = 0 ∨ n % 2 = 1 by omega) with h | h
    · rw [h, if_pos rfl]; rfl
    · rw [h, if_neg (by omega)]; rfl
  unfold halfD halfN
  by_cases h3 : F % 2 = 0
  · rw [if_pos h3, if_pos h3, h1, h2, if_pos (by omega), h2, if_pos (by omega)]
    exact ⟨rfl, rfl⟩
  · rw [if_neg h3, if_neg h3, h1, h2, if_neg (by omega), Nat.gcd_one_left]
    simp

variable {S : AM.Sys} (hS : Only S 8)
include hS

theorem Contest_bad (e a b : Int) (H : Heap) (hg : Grp H) (hL : H.low ≤ H.size) (ha : -9223372036854775808 ≤ a ∧ a ≤ 9223372036854775807) (hb : -9223372036854775808 ≤ b ∧ b ≤ 9223372036854775807) (hP : ¬ Q.Prob e [a, b]) :
    ∃ H', Keep H H' ∧ Runs Tryz.prog S (.fn 5) [.int .i64 e, .int .i64 a, .int .i64 b] H (.tuple #[.agg ⟨[.slice none 0 0, .int .i64 0]⟩, .int .i64 2]) H' := by
  suffices h : WCall Tryz.prog S (.fn 5) [.int .i64 e, .int .i64 a, .int .i64 b] H (fun u H' => u = .tuple #[.agg ⟨[.slice none 0 0, .int .i64 0]⟩, .int .i64 2] ∧ Keep H H') by
    obtain ⟨_, H', hr, rfl, h1⟩ := h; exact ⟨H', h1, hr⟩
  obtain ⟨Ha, e1, k1, s1, -, -⟩ := box1 H [.slice none 0 0, .int .i64 0] 24
  have ow : Own Ha H.size 24 [.slice none 0 0, .int .i64 0] := e1 ▸ Own.new H _ _
  obtain ⟨Hb, e2, k2, s2, -, -⟩ := box1 Ha [.int .i64 a, .int .i64 b] 3
  have ol : Own Hb Ha.size 3 [.int .i64 a, .int .i64 b] := e2 ▸ Own.new Ha _ _
  obtain ⟨Hc, k3, R3⟩ := Q.isProblem_runs hS e _ [a, b] Ha.size 0 Hb (sl2 ol ha hb)
  have hpb := R3.bx
  rw [decide_eq_false hP] at hpb
  obtain ⟨Hd, ps, ow', z, rr, kk⟩ := stP (ow.keep (k2.trans k3)) rfl none 0 0 0
  have k := kk H (k1.trans (k2.trans k3)) (Nat.le_refl _)
  obtain ⟨o1, o2, o3⟩ := ownP ow'
  have hnot : una UnOp.not (Value.bool false) = some (.bool true) := rfl
  clear z rr kk hP R3
  refine call_of Tryz.func5 rfl (Nat.le_of_ble_eq_true rfl) (hS.no rfl _ _) ?_
  rw [Tryz.ntmps5, Tryz.results5]
  repeat' (first | (with_reducible refine sxGuardB_tsp (fun h => ?_) (fun h => ?_)) | (with_reducible refine sxGuardB_fsp (fun h => ?_) (fun h => ?_)) | (with_reducible refine sxIfB_sp (fun h => ?_) (fun h => ?_)) | simp only [↓sxC_skip, ↓sxC_draw, ↓sxC_region, ↓sxC_seq, ↓bxC_cond, ↓bxC_loop, ↓sxC_block, ↓sxC_exit, ↓sxC_goto, ↓sxC_ret, ↓sxOps_nil, ↓sxOps_cons, ↓sxDraw_nil, ↓bxDraw_cons, ↓sxD_same, ↓sxStep_none, ↓bxStep_some, ↓bxOp_move, ↓bxOp_assign, ↓bxOp_pick, ↓bxOp_alloc, ↓bxOp_box, ↓bxOp_build, ↓bxOp_buildSlice, ↓bxOp_load, ↓bxOp_store, ↓bxOp_nilCheck, ↓bxOp_bin, ↓bxOp_un, ↓bxOp_makeI, ↓bxOp_makeFunc, ↓bxOp_makeSlice, ↓bxOp_slice, ↓bxOp_fieldAddr, ↓bxOp_field, ↓bxOp_indexAddr, ↓bxOp_index, ↓bxOp_assert, ↓bxOp_extract, ↓bxOp_value, ↓bxOp_len, ↓bxOp_cap, ↓bxOp_append, ↓bxOp_copy, ↓bxOp_max, ↓bxOp_min, ↓bxOp_convert, ↓sxPut_none, ↓bxPut, ↓seqQ_normal, ↓seqQ_exit, ↓seqQ_ret, ↓seqQ_goto, ↓blockQ_normal, ↓blockQ_ret, ↓blockQ_goto, ↓blockQ_exit, ↓loopQ_normal, ↓loopQ_exit, ↓loopQ_ret, ↓loopQ_goto, ↓resQ_normal, ↓resQ_ret, ↓sxRes_nil, ↓sxRes_tmp, ↓bxRes_cell, ↓upd_apply, ↓ev_tmp, ↓ev_const, ↓ev_global, ↓ev_func, ↓dstAt, ↓gval_some, sxOptB_some, sxOptB_ite, mm_max, mm_min, binP_shl, binP_shr, binP_int, intBin, una_not_dec, una_nt, una_nf, una_neg, aPick_true, aPick_false, sxCallVB_fn, sxCallVB_yield, sxGuardB_u, sxGuardB_tt, sxGuardB_tf, sxGuardB_ft, sxGuardB_ff, sxIfB_t, sxIfB_f, packRes_one, packRes_two, List.map_cons, List.map_nil, List.nil_append, List.cons_append, List.append_nil, ↓reduceIte, Nat.reduceEqDiff, Nat.reduceLT, dec_T, dec_F, false_imp, true_and, and_true, true_implies, implies_true, false_and, and_false, true_or, or_true, false_or, or_false, and_self, or_self, read_relow, size_relow, low_relow, relow_relow, aLoad_relow, Nat.add_zero, Nat.mul_one, one1, Option.bind_some, ne_eq, Int.natCast_nonneg, Int.toNat_natCast, not_true_eq_false, not_false_eq_true, Option.map_some, Option.map_none, *, argF, List.getD_cons_zero, List.getD_cons_succ, alP, bs2, bdP0, ldP, hnot, Nat.zero_add] | (with_reducible refine sxD_bar (by kernel_rfl) ?_))

theorem Contest_good (e a b : Int) (H : Heap) (hg : Grp H) (hL : H.low ≤ H.size) (hP : Q.Prob e [a, b]) :
    ∃ H' v r o, Keep H H' ∧ Grp H' ∧ SlI .i64 H' v (halfN (twice e a b) (2 * e - twice e a b)) r o ∧ H.size ≤ r ∧ Runs Tryz.prog S (.fn 5) [.int .i64 e, .int .i64 a, .int .i64 b] H (.tuple #[.agg ⟨[v, .int .i64 (halfD (twice e a b))]⟩, .int .i64 0]) H' := by
  suffices h : WCall Tryz.prog S (.fn 5) [.int .i64 e, .int .i64 a, .int .i64 b] H (fun u H' => ∃ v r o, u = .tuple #[.agg ⟨[v, .int .i64 (halfD (twice e a b))]⟩, .int .i64 0] ∧ Keep H H' ∧ Grp H' ∧ SlI .i64 H' v (halfN (twice e a b) (2 * e - twice e a b)) r o ∧ H.size ≤ r) by
    obtain ⟨_, H', hr, v, r, o, rfl, h1, h2, h3, h4⟩ := h; exact ⟨H', v, r, o, h1, h2, h3, h4, hr⟩
  have hpe := hP.1
  have hpa : 0 ≤ a ∧ a ≤ 100000 := hP.2.2.1 a (by simp)
  have hpb : 0 ≤ b ∧ b ≤ 100000 := hP.2.2.1 b (by simp)
  have hps : e ≤ a + b := by have := hP.2.2.2; simp at this; omega
  obtain ⟨Ha, e1, k1, s1, -, -⟩ := box1 H [.slice none 0 0, .int .i64 0] 24
  have ow : Own Ha H.size 24 [.slice none 0 0, .int .i64 0] := e1 ▸ Own.new H _ _
  obtain ⟨Hb, e2, k2, s2, -, -⟩ := box1 Ha [.int .i64 a, .int .i64 b] 3
  have ol : Own Hb Ha.size 3 [.int .i64 a, .int .i64 b] := e2 ▸ Own.new Ha _ _
  obtain ⟨Hc, k3, R3⟩ := Q.isProblem_runs hS e _ [a, b] Ha.size 0 Hb (sl2 ol (by omega) (by omega))
  have hprob := R3.bx
  rw [decide_eq_true hP] at hprob
  have k13 := (k1.trans k2).trans k3
  have f1 := (twice_runs hS e a b Hc (by omega) (by omega) (by omega)).bx
  have hF : 0 ≤ twice e a b ∧ twice e a b ≤ 2 * e := by unfold twice; omega
  generalize twice e a b = F at *
  have w1 : IntKind.i64.wrap (2 * e) = 2 * e := IntWalk.i64_in _ (by omega)
  have w2 : IntKind.i64.wrap (2 * e - F) = 2 * e - F := IntWalk.i64_in _ (by omega)
  obtain ⟨Hd, e4, k4, s4, -, -⟩ := box1 Hc [.int .i64 F, .int .i64 (2 * e - F)] 3
  have od : Own Hd Hc.size 3 [.int .i64 F, .int .i64 (2 * e - F)] := e4 ▸ Own.new Hc _ _
  obtain ⟨He, v, r, o, k5, g5, sl5, fr5, R5⟩ := qlow_runs hS _ [F, 2 * e - F] 2 Hc.size 0 Hd ((k13.trans k4).grp hg) ((k13.trans k4).low hL) (sl2 od (by omega) (by omega))
    (fun x hx => by
      rcases List.mem_cons.1 hx with rfl | hx
      · omega
      · rcases List.mem_cons.1 hx with rfl | hx
        · omega
        · cases hx) (by show 2 ≤ 1000; omega) (by omega)
  obtain ⟨hq1, hq2⟩ := gcd_half F (2 * e - F) hF.1 (by omega) (by omega)
  rw [hq2] at sl5
  rw [hq1] at R5
  have f5 := R5.bx
  have hl5 : (halfN F (2 * e - F)).length = 2 := by unfold halfN; split <;> rfl
  obtain ⟨a5, cp5, hv5⟩ := sl5.v0
  rw [hl5] at hv5
  subst hv5
  have ka5 := ((k2.trans k3).trans k4).trans k5
  obtain ⟨Hf, ps, ow', z, rr, kk⟩ := stP (ow.keep ka5) rfl a5 2 cp5 (halfD F)
  have k6 := kk H (k1.trans ka5) (Nat.le_refl _)
  have g6 := k6.grp hg
  have hz1 := ((k2.trans k3).trans k4).size
  have sl6 := SlE.other (ow.keep ka5) ps z sl5 (fun _ => by omega)
  obtain ⟨o1, o2, o3⟩ := ownP ow'
  have fr6 : H.size ≤ r := by omega
  have hnot : una UnOp.not (Value.bool true) = some (.bool false) := rfl
  refine call_of Tryz.func5 rfl (Nat.le_of_ble_eq_true rfl) (hS.no rfl _ _) ?_
  rw [Tryz.ntmps5, Tryz.results5]
  clear z rr kk hP hpe hpa hpb hps hq1 hq2 R3 R5 sl5 hl5 hF hz1 ow ol od
  repeat' (first | (with_reducible refine sxGuardB_tsp (fun h => ?_) (fun h => ?_)) | (with_reducible refine sxGuardB_fsp (fun h => ?_) (fun h => ?_)) | (with_reducible refine sxIfB_sp (fun h => ?_) (fun h => ?_)) | simp only [↓sxC_skip, ↓sxC_draw, ↓sxC_region, ↓sxC_seq, ↓bxC_cond, ↓bxC_loop, ↓sxC_block, ↓sxC_exit, ↓sxC_goto, ↓sxC_ret, ↓sxOps_nil, ↓sxOps_cons, ↓sxDraw_nil, ↓bxDraw_cons, ↓sxD_same, ↓sxStep_none, ↓bxStep_some, ↓bxOp_move, ↓bxOp_assign, ↓bxOp_pick, ↓bxOp_alloc, ↓bxOp_box, ↓bxOp_build, ↓bxOp_buildSlice, ↓bxOp_load, ↓bxOp_store, ↓bxOp_nilCheck, ↓bxOp_bin, ↓bxOp_un, ↓bxOp_makeI, ↓bxOp_makeFunc, ↓bxOp_makeSlice, ↓bxOp_slice, ↓bxOp_fieldAddr, ↓bxOp_field, ↓bxOp_indexAddr, ↓bxOp_index, ↓bxOp_assert, ↓bxOp_extract, ↓bxOp_value, ↓bxOp_len, ↓bxOp_cap, ↓bxOp_append, ↓bxOp_copy, ↓bxOp_max, ↓bxOp_min, ↓bxOp_convert, ↓sxPut_none, ↓bxPut, ↓seqQ_normal, ↓seqQ_exit, ↓seqQ_ret, ↓seqQ_goto, ↓blockQ_normal, ↓blockQ_ret, ↓blockQ_goto, ↓blockQ_exit, ↓loopQ_normal, ↓loopQ_exit, ↓loopQ_ret, ↓loopQ_goto, ↓resQ_normal, ↓resQ_ret, ↓sxRes_nil, ↓sxRes_tmp, ↓bxRes_cell, ↓upd_apply, ↓ev_tmp, ↓ev_const, ↓ev_global, ↓ev_func, ↓dstAt, ↓gval_some, sxOptB_some, sxOptB_ite, mm_max, mm_min, binP_shl, binP_shr, binP_int, intBin, una_not_dec, una_nt, una_nf, una_neg, aPick_true, aPick_false, sxCallVB_fn, sxCallVB_yield, sxGuardB_u, sxGuardB_tt, sxGuardB_tf, sxGuardB_ft, sxGuardB_ff, sxIfB_t, sxIfB_f, packRes_one, packRes_two, List.map_cons, List.map_nil, List.nil_append, List.cons_append, List.append_nil, ↓reduceIte, Nat.reduceEqDiff, Nat.reduceLT, dec_T, dec_F, false_imp, true_and, and_true, true_implies, implies_true, false_and, and_false, true_or, or_true, false_or, or_false, and_self, or_self, read_relow, size_relow, low_relow, relow_relow, aLoad_relow, Nat.add_zero, Nat.mul_one, one1, Option.bind_some, ne_eq, Int.natCast_nonneg, Int.toNat_natCast, not_true_eq_false, not_false_eq_true, Option.map_some, Option.map_none, *, argF, List.getD_cons_zero, List.getD_cons_succ, alP, bs2, bdP2, ldP, hnot, Nat.zero_add] | (with_reducible refine sxD_bar (by kernel_rfl) ?_))
  exact ⟨_, _, _, rfl, sl6, fr6⟩

theorem same_runs (v1 v2 : Value) (w : List Int) (r1 o1 r2 o2 : Nat) (H : Heap) (hL : H.low ≤ H.size) (h1 : SlI .i64 H v1 w r1 o1) (h2 : SlI .i64 H v2 w r2 o2) : Runs Tryz.prog S (.fn 12) [v1, v2] H (.bool true) H := by
  suffices h : WCall Tryz.prog S (.fn 12) [v1, v2] H (fun v H' => v = .bool true ∧ H' = H) by
    obtain ⟨_, _, hr, rfl, rfl⟩ := h; exact hr
  obtain ⟨a1, c1, rfl⟩ := h1.v0
  obtain ⟨a2, c2, rfl⟩ := h2.v0
  refine call_of Tryz.func12 rfl (Nat.le_of_ble_eq_true rfl) (hS.no rfl _ _) ?_
  rw [Tryz.ntmps12, Tryz.results12]
  repeat' (first | (with_reducible refine sxGuardB_tsp (fun h => ?_) (fun h => ?_)) | (with_reducible refine sxGuardB_fsp (fun h => ?_) (fun h => ?_)) | (with_reducible refine sxIfB_sp (fun h => ?_) (fun h => ?_)) | simp only [↓sxC_skip, ↓sxC_draw, ↓sxC_region, ↓sxC_seq, ↓bxC_cond, ↓bxC_loop, ↓sxC_block, ↓sxC_exit, ↓sxC_goto, ↓sxC_ret, ↓sxOps_nil, ↓sxOps_cons, ↓sxDraw_nil, ↓bxDraw_cons, ↓sxD_same, ↓sxStep_none, ↓bxStep_some, ↓bxOp_move, ↓bxOp_assign, ↓bxOp_pick, ↓bxOp_alloc, ↓bxOp_box, ↓bxOp_build, ↓bxOp_buildSlice, ↓bxOp_load, ↓bxOp_store, ↓bxOp_nilCheck, ↓bxOp_bin, ↓bxOp_un, ↓bxOp_makeI, ↓bxOp_makeFunc, ↓bxOp_makeSlice, ↓bxOp_slice, ↓bxOp_fieldAddr, ↓bxOp_field, ↓bxOp_indexAddr, ↓bxOp_index, ↓bxOp_assert, ↓bxOp_extract, ↓bxOp_value, ↓bxOp_len, ↓bxOp_cap, ↓bxOp_append, ↓bxOp_copy, ↓bxOp_max, ↓bxOp_min, ↓bxOp_convert, ↓sxPut_none, ↓bxPut, ↓seqQ_normal, ↓seqQ_exit, ↓seqQ_ret, ↓seqQ_goto, ↓blockQ_normal, ↓blockQ_ret, ↓blockQ_goto, ↓blockQ_exit, ↓loopQ_normal, ↓loopQ_exit, ↓loopQ_ret, ↓loopQ_goto, ↓resQ_normal, ↓resQ_ret, ↓sxRes_nil, ↓sxRes_tmp, ↓bxRes_cell, ↓upd_apply, ↓ev_tmp, ↓ev_const, ↓ev_global, ↓ev_func, ↓dstAt, ↓gval_some, sxOptB_some, sxOptB_ite, mm_max, mm_min, binP_shl, binP_shr, binP_int, intBin, una_not_dec, una_nt, una_nf, una_neg, aPick_true, aPick_false, sxCallVB_fn, sxCallVB_yield, sxGuardB_u, sxGuardB_tt, sxGuardB_tf, sxGuardB_ft, sxGuardB_ff, sxIfB_t, sxIfB_f, packRes_one, packRes_two, List.map_cons, List.map_nil, List.nil_append, List.cons_append, List.append_nil, ↓reduceIte, Nat.reduceEqDiff, Nat.reduceLT, dec_T, dec_F, false_imp, true_and, and_true, true_implies, implies_true, false_and, and_false, true_or, or_true, false_or, or_false, and_self, or_self, read_relow, size_relow, low_relow, relow_relow, aLoad_relow, Nat.add_zero, Nat.mul_one, one1, Option.bind_some, ne_eq, Int.natCast_nonneg, Int.toNat_natCast, not_true_eq_false, not_false_eq_true, Option.map_some, Option.map_none, *, argF, List.getD_cons_zero, List.getD_cons_succ, lenI] | (with_reducible refine sxD_bar (by kernel_rfl) ?_))
  refine sxL_of (fun m ρ H1 => ∃ k : Nat, m = w.length - k ∧ k ≤ w.length ∧ H1 = H ∧ ρ 0 = .slice a1 w.length c1 ∧ ρ 1 = .slice a2 w.length c2 ∧ ρ 5 = .int .i64 k)
    ⟨0, rfl, Nat.zero_le _, rfl, rfl, rfl, rfl⟩ ?_
  rintro m ρ H1 ⟨k, rfl, hk, rfl, e0, e1, e5⟩
  by_cases hlt : k < w.length
  · have hlt' : (k : Int) < (w.length : Int) := by omega
    have hw := wrap_succ hlt h1.ml
    have p1 := SlI_ix h1 hlt
    have p2 := SlI_ix h2 hlt
    have q1 := (h1.rdI hlt).1
    have q2 := (h2.rdI hlt).1
    generalize w.getD k 0 = x at *
    clear h1 h2
    repeat' (first | (with_reducible refine sxGuardB_tsp (fun h => ?_) (fun h => ?_)) | (with_reducible refine sxGuardB_fsp (fun h => ?_) (fun h => ?_)) | (with_reducible refine sxIfB_sp (fun h => ?_) (fun h => ?_)) | simp only [↓sxC_skip, ↓sxC_draw, ↓sxC_region, ↓sxC_seq, ↓bxC_cond, ↓bxC_loop, ↓sxC_block, ↓sxC_exit, ↓sxC_goto, ↓sxC_ret, ↓sxOps_nil, ↓sxOps_cons, ↓sxDraw_nil, ↓bxDraw_cons, ↓sxD_same, ↓sxStep_none, ↓bxStep_some, ↓bxOp_move, ↓bxOp_assign, ↓bxOp_pick, ↓bxOp_alloc, ↓bxOp_box, ↓bxOp_build, ↓bxOp_buildSlice, ↓bxOp_load, ↓bxOp_store, ↓bxOp_nilCheck, ↓bxOp_bin, ↓bxOp_un, ↓bxOp_makeI, ↓bxOp_makeFunc, ↓bxOp_makeSlice, ↓bxOp_slice, ↓bxOp_fieldAddr, ↓bxOp_field, ↓bxOp_indexAddr, ↓bxOp_index, ↓bxOp_assert, ↓bxOp_extract, ↓bxOp_value, ↓bxOp_len, ↓bxOp_cap, ↓bxOp_append, ↓bxOp_copy, ↓bxOp_max, ↓bxOp_min, ↓bxOp_convert, ↓sxPut_none, ↓bxPut, ↓seqQ_normal, ↓seqQ_exit, ↓seqQ_ret, ↓seqQ_goto, ↓blockQ_normal, ↓blockQ_ret, ↓blockQ_goto, ↓blockQ_exit, ↓loopQ_normal, ↓loopQ_exit, ↓loopQ_ret, ↓loopQ_goto, ↓resQ_normal, ↓resQ_ret, ↓sxRes_nil, ↓sxRes_tmp, ↓bxRes_cell, ↓upd_apply, ↓ev_tmp, ↓ev_const, ↓ev_global, ↓ev_func, ↓dstAt, ↓gval_some, sxOptB_some, sxOptB_ite, mm_max, mm_min, binP_shl, binP_shr, binP_int, intBin, una_not_dec, una_nt, una_nf, una_neg, aPick_true, aPick_false, sxCallVB_fn, sxCallVB_yield, sxGuardB_u, sxGuardB_tt, sxGuardB_tf, sxGuardB_ft, sxGuardB_ff, sxIfB_t, sxIfB_f, packRes_one, packRes_two, List.map_cons, List.map_nil, List.nil_append, List.cons_append, List.append_nil, ↓reduceIte, Nat.reduceEqDiff, Nat.reduceLT, dec_T, dec_F, false_imp, true_and, and_true, true_implies, implies_true, false_and, and_false, true_or, or_true, false_or, or_false, and_self, or_self, read_relow, size_relow, low_relow, relow_relow, aLoad_relow, Nat.add_zero, Nat.mul_one, one1, Option.bind_some, ne_eq, Int.natCast_nonneg, Int.toNat_natCast, not_true_eq_false, not_false_eq_true, Option.map_some, Option.map_none, *, lenI, ldI] | (with_reducible refine sxD_bar (by kernel_rfl) ?_))
    exact ⟨_, by omega, k + 1, rfl, by omega, rfl⟩
  · have hlt' : ¬ (k : Int) < (w.length : Int) := by omega
    clear h1 h2
    repeat' (first | (with_reducible refine sxGuardB_tsp (fun h => ?_) (fun h => ?_)) | (with_reducible refine sxGuardB_fsp (fun h => ?_) (fun h => ?_)) | (with_reducible refine sxIfB_sp (fun h => ?_) (fun h => ?_)) | simp only [↓sxC_skip, ↓sxC_draw, ↓sxC_region, ↓sxC_seq, ↓bxC_cond, ↓bxC_loop, ↓sxC_block, ↓sxC_exit, ↓sxC_goto, ↓sxC_ret, ↓sxOps_nil, ↓sxOps_cons, ↓sxDraw_nil, ↓bxDraw_cons, ↓sxD_same, ↓sxStep_none, ↓bxStep_some, ↓bxOp_move, ↓bxOp_assign, ↓bxOp_pick, ↓bxOp_alloc, ↓bxOp_box, ↓bxOp_build, ↓bxOp_buildSlice, ↓bxOp_load, ↓bxOp_store, ↓bxOp_nilCheck, ↓bxOp_bin, ↓bxOp_un, ↓bxOp_makeI, ↓bxOp_makeFunc, ↓bxOp_makeSlice, ↓bxOp_slice, ↓bxOp_fieldAddr, ↓bxOp_field, ↓bxOp_indexAddr, ↓bxOp_index, ↓bxOp_assert, ↓bxOp_extract, ↓bxOp_value, ↓bxOp_len, ↓bxOp_cap, ↓bxOp_append, ↓bxOp_copy, ↓bxOp_max, ↓bxOp_min, ↓bxOp_convert, ↓sxPut_none, ↓bxPut, ↓seqQ_normal, ↓seqQ_exit, ↓seqQ_ret, ↓seqQ_goto, ↓blockQ_normal, ↓blockQ_ret, ↓blockQ_goto, ↓blockQ_exit, ↓loopQ_normal, ↓loopQ_exit, ↓loopQ_ret, ↓loopQ_goto, ↓resQ_normal, ↓resQ_ret, ↓sxRes_nil, ↓sxRes_tmp, ↓bxRes_cell, ↓upd_apply, ↓ev_tmp, ↓ev_const, ↓ev_global, ↓ev_func, ↓dstAt, ↓gval_some, sxOptB_some, sxOptB_ite, mm_max, mm_min, binP_shl, binP_shr, binP_int, intBin, una_not_dec, una_nt, una_nf, una_neg, aPick_true, aPick_false, sxCallVB_fn, sxCallVB_yield, sxGuardB_u, sxGuardB_tt, sxGuardB_tf, sxGuardB_ft, sxGuardB_ff, sxIfB_t, sxIfB_f, packRes_one, packRes_two, List.map_cons, List.map_nil, List.nil_append, List.cons_append, List.append_nil, ↓reduceIte, Nat.reduceEqDiff, Nat.reduceLT, dec_T, dec_F, false_imp, true_and, and_true, true_implies, implies_true, false_and, and_false, true_or, or_true, false_or, or_false, and_self, or_self, read_relow, size_relow, low_relow, relow_relow, aLoad_relow, Nat.add_zero, Nat.mul_one, one1, Option.bind_some, ne_eq, Int.natCast_nonneg, Int.toNat_natCast, not_true_eq_false, not_false_eq_true, Option.map_some, Option.map_none, *, lenI] | (with_reducible refine sxD_bar (by kernel_rfl) ?_))

theorem cparts_runs (v1 v2 : Value) (w : List Int) (d : Int) (r1 o1 r2 o2 : Nat) (H : Heap) (hL : H.low ≤ H.size) (h1 : SlI .i64 H v1 w r1 o1) (h2 : SlI .i64 H v2 w r2 o2) : ∃ H', Keep H H' ∧ Runs Tryz.prog S (.fn 7) [.agg ⟨[v1, .int .i64 d]⟩, .agg ⟨[v2, .int .i64 d]⟩] H (.bool true) H' := by
  suffices h : WCall Tryz.prog S (.fn 7) [.agg ⟨[v1, .int .i64 d]⟩, .agg ⟨[v2, .int .i64 d]⟩] H (fun v H' => v = .bool true ∧ Keep H H') by
    obtain ⟨_, H', hr, rfl, hk⟩ := h; exact ⟨H', hk, hr⟩
  obtain ⟨a1, c1, rfl⟩ := h1.v0
  obtain ⟨a2, c2, rfl⟩ := h2.v0
  obtain ⟨H1, e1, k1, s1, rd2, rd0, rd1⟩ := Q.boxP H (.slice a1 w.length c1) (.int .i64 d)
  obtain ⟨H2, e2, k2, s2, re2, re0, re1⟩ := Q.boxP H1 (.slice a2 w.length c2) (.int .i64 d)
  have k12 := k1.trans k2
  have m0 := k2.read s1 rd0
  have m1 := k2.read s1 rd1
  have hL2 := k12.low hL
  have fs := (same_runs hS _ _ w r1 o1 r2 o2 (H2.relow H2.size) (Nat.le_refl _) ((h1.keep k12).keep (Keep.relowS _)) ((h2.keep k12).keep (Keep.relowS _))).bx
  have fs2 := (same_runs hS _ _ w r1 o1 r2 o2 H2 hL2 (h1.keep k12) (h2.keep k12)).bx
  clear h1 h2 rd2 re2
  refine call_of Tryz.func7 rfl (Nat.le_of_ble_eq_true rfl) (hS.no rfl _ _) ?_
  rw [Tryz.ntmps7, Tryz.results7]
  repeat' (first | (with_reducible refine sxGuardB_tsp (fun h => ?_) (fun h => ?_)) | (with_reducible refine sxGuardB_fsp (fun h => ?_) (fun h => ?_)) | (with_reducible refine sxIfB_sp (fun h => ?_) (fun h => ?_)) | simp only [↓sxC_skip, ↓sxC_draw, ↓sxC_region, ↓sxC_seq, ↓bxC_cond, ↓bxC_loop, ↓sxC_block, ↓sxC_exit, ↓sxC_goto, ↓sxC_ret, ↓sxOps_nil, ↓sxOps_cons, ↓sxDraw_nil, ↓bxDraw_cons, ↓sxD_same, ↓sxStep_none, ↓bxStep_some, ↓bxOp_move, ↓bxOp_assign, ↓bxOp_pick, ↓bxOp_alloc, ↓bxOp_box, ↓bxOp_build, ↓bxOp_buildSlice, ↓bxOp_load, ↓bxOp_store, ↓bxOp_nilCheck, ↓bxOp_bin, ↓bxOp_un, ↓bxOp_makeI, ↓bxOp_makeFunc, ↓bxOp_makeSlice, ↓bxOp_slice, ↓bxOp_fieldAddr, ↓bxOp_field, ↓bxOp_indexAddr, ↓bxOp_index, ↓bxOp_assert, ↓bxOp_extract, ↓bxOp_value, ↓bxOp_len, ↓bxOp_cap, ↓bxOp_append, ↓bxOp_copy, ↓bxOp_max, ↓bxOp_min, ↓bxOp_convert, ↓sxPut_none, ↓bxPut, ↓seqQ_normal, ↓seqQ_exit, ↓seqQ_ret, ↓seqQ_goto, ↓blockQ_normal, ↓blockQ_ret, ↓blockQ_goto, ↓blockQ_exit, ↓loopQ_normal, ↓loopQ_exit, ↓loopQ_ret, ↓loopQ_goto, ↓resQ_normal, ↓resQ_ret, ↓sxRes_nil, ↓sxRes_tmp, ↓bxRes_cell, ↓upd_apply, ↓ev_tmp, ↓ev_const, ↓ev_global, ↓ev_func, ↓dstAt, ↓gval_some, sxOptB_some, sxOptB_ite, mm_max, mm_min, binP_shl, binP_shr, binP_int, intBin, una_not_dec, una_nt, una_nf, una_neg, aPick_true, aPick_false, sxCallVB_fn, sxCallVB_yield, sxGuardB_u, sxGuardB_tt, sxGuardB_tf, sxGuardB_ft, sxGuardB_ff, sxIfB_t, sxIfB_f, packRes_one, packRes_two, List.map_cons, List.map_nil, List.nil_append, List.cons_append, List.append_nil, ↓reduceIte, Nat.reduceEqDiff, Nat.reduceLT, dec_T, dec_F, false_imp, true_and, and_true, true_implies, implies_true, false_and, and_false, true_or, or_true, false_or, or_false, and_self, or_self, read_relow, size_relow, low_relow, relow_relow, aLoad_relow, Nat.add_zero, Nat.mul_one, one1, Option.bind_some, ne_eq, Int.natCast_nonneg, Int.toNat_natCast, not_true_eq_false, not_false_eq_true, Option.map_some, Option.map_none, *, argF, List.getD_cons_zero, List.getD_cons_succ, lenI, ldI, ldIs, paG0, paG1, Q.cells_agg, Nat.zero_add] | (with_reducible refine sxD_bar (by kernel_rfl) ?_))
end Go.Proofs.YtmcomjgebcemdaaGreat
