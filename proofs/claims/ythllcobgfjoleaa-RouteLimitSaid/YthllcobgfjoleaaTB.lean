/- The law RouteLimit on the canonical machine. -/
import Derived.Test.YthllcobgfjoleaaT8
set_option linter.unusedVariables false
set_option linter.unusedSimpArgs false
set_option linter.unusedSectionVars false

namespace Go.Proofs.Ythllcobgfjoleaa
set_option linter.unusedSectionVars false
open Go Go.AM
set_option maxRecDepth 10000
set_option linter.unusedSimpArgs false
set_option linter.unusedVariables false

def gp (n : Nat) : List Pt := (List.range n).map fun i : Nat => (2 * (i : Int), 2 * (i : Int) + 1)
def ge (n : Nat) : List Pt := (List.range n).map fun i : Nat => (2 * (i : Int), 2 * (i : Int) + 3)
theorem gp_len (n : Nat) : (gp n).length = n := by simp [gp]
theorem ge_len (n : Nat) : (ge n).length = n := by simp [ge]
theorem gp_at {n j : Nat} (h : j < n) : (gp n).getD j default = (2 * (j : Int), 2 * (j : Int) + 1) := by simp [gp, List.getD_eq_getElem?_getD, h]
theorem ge_at {n j : Nat} (h : j < n) : (ge n).getD j default = (2 * (j : Int), 2 * (j : Int) + 3) := by simp [ge, List.getD_eq_getElem?_getD, h]
theorem gp_succ (k : Nat) : gp k ++ [(2 * (k : Int), 2 * (k : Int) + 1)] = gp (k + 1) := by simp [gp, List.range_succ]
theorem gp_ok : ProfOk (gp 1000) := ⟨by rw [gp_len]; exact Nat.le_refl _, fun k hk => by
  rw [gp_len] at hk
  unfold ProfAt
  rw [gp_at hk]
  refine ⟨⟨by show (0 : Int) ≤ 2 * k; omega, by show 2 * (k : Int) < 2 * k + 1; omega, by show 2 * (k : Int) + 1 ≤ 20000; omega⟩, fun h0 => ?_⟩
  rw [gp_at (by omega)]
  exact ⟨by show 2 * ((k - 1 : Nat) : Int) < 2 * k; omega, by show 2 * ((k - 1 : Nat) : Int) + 1 < 2 * k + 1; omega⟩⟩
theorem gp_no : ¬ ProfOk (gp 1001) := fun h => by have := h.1; rw [gp_len] at this; omega
theorem gp_first {n : Nat} {z : Int} {i : Nat} (hi : i ≤ n) (h1 : 2 * (i : Int) < z + 2) (h2 : i < n → z ≤ 2 * i) : FirstP (gp n) z i := ⟨by rw [gp_len]; exact hi, fun j hj => by rw [gp_at (by omega)]; show 2 * (j : Int) < z; omega, fun h => by
  rw [gp_len] at h
  rw [gp_at h]
  exact h2 h⟩
theorem pairwise_map_range {n : Nat} (f : Nat → Pt) (h : ∀ i j, i < j → j < n → (f i).1 < (f j).1 ∧ (f i).2 < (f j).2) : AscP ((List.range n).map f) := by
  induction n with
  | zero => exact AscP.nil
  | succ n ih =>
    rw [List.range_succ, List.map_append]
    refine List.pairwise_append.2 ⟨ih fun i j h1 h2 => h i j h1 (by omega), List.pairwise_singleton _ _, fun a ha b hb => ?_⟩
    obtain ⟨i, hi, rfl⟩ := List.mem_map.1 ha
    rw [List.mem_range] at hi
    rw [List.map_singleton, List.mem_singleton] at hb
    subst hb
    exact h i n hi (Nat.lt_succ_self n)
theorem ge_best : BestOf (ThenP (gp 1000) (gp 1000) 1) (ge 999) where
  mem := fun p hp => by
    obtain ⟨k, hk, rfl⟩ := List.mem_map.1 hp
    rw [List.mem_range] at hk
    refine ⟨k, by rw [gp_len]; omega, by rw [gp_at (by omega)], k + 1, ?_, by rw [gp_len]; omega, by rw [gp_at (by omega)]; show 2 * (k : Int) + 3 = 2 * ((k + 1 : Nat) : Int) + 1; omega⟩
    rw [gp_at (by omega)]
    exact gp_first (by omega) (by show 2 * ((k + 1 : Nat) : Int) < 2 * k + 1 + 1 + 2; omega) fun _ => by show 2 * (k : Int) + 1 + 1 ≤ 2 * ((k + 1 : Nat) : Int); omega
  asc := pairwise_map_range _ fun i j h1 h2 => ⟨by show 2 * (i : Int) < 2 * j; omega, by show 2 * (i : Int) + 3 < 2 * j + 3; omega⟩
  dom := fun d a ⟨k, h1, h2, i, h3, h4, h5⟩ => by
    rw [gp_len] at h1 h4
    rw [gp_at h1] at h2 h3
    rw [gp_at h4] at h5
    have h6 : FirstP (gp 1000) (2 * (k : Int) + 1 + 1) (k + 1) := gp_first (by omega) (by omega) fun _ => by omega
    obtain rfl := h3.eq h6
    refine ⟨(2 * (k : Int), 2 * (k : Int) + 3), List.mem_map.2 ⟨k, List.mem_range.2 (by omega), rfl⟩, ?_, ?_⟩
    · rw [h2]; exact Int.le_refl _
    · rw [h5]; show 2 * (k : Int) + 3 ≤ 2 * ((k + 1 : Nat) : Int) + 1; omega
theorem cvU16 (z : Int) : aConv Try.prog 51 3 (.int .u16 z) = some (.int .i64 (IntKind.i64.wrap z)) := by kernel_rfl
theorem eqS (a b : Int) : binP Try.prog .eql 40 (.agg ⟨[.int .i64 a, .int .i64 b]⟩) (.agg ⟨[.int .i64 a, .int .i64 b]⟩) = some (.bool true) := by
  have h := (binP_eqlS (P := Try.prog) (t := 40) (ty := 3) (k := .i64) Try.underlying40 (by kernel_rfl) (by kernel_rfl) Try.underlying3 (by kernel_rfl) [a, b] [a, b] rfl rfl (fun i hi => by
    match i, hi with
    | 0, _ => exact ⟨rfl, rfl, show ("Dep" : String) ≠ "_" by decide⟩
    | 1, _ => exact ⟨rfl, rfl, show ("Arr" : String) ≠ "_" by decide⟩)).1
  rw [decide_eq_true rfl] at h
  exact h

variable {S : AM.Sys} (hS : Only S 11)
include hS

set_option maxHeartbeats 4000000 in
/-- THE LAW, on the canonical machine. -/
theorem lawLimit_runs (more : Bool) (z : Int) (hz : 0 ≤ z ∧ z ≤ 65535) (H : Heap) (hL : H.low ≤ H.size) (hg : Grp H)
    (hO : ∀ H', S.O 11 [] H') : ∃ H', Runs Try.prog S (.fn 9) [.bool more, .int .u16 z] H (.bool true) H' := by
  suffices h : WCall Try.prog S (.fn 9) [.bool more, .int .u16 z] H (fun v H' => v = .bool true) by
    obtain ⟨_, H', hr, rfl⟩ := h; exact ⟨H', hr⟩
  have hk1 : ∀ (H' : Heap) (K : Value → Heap → Prop) (b : Blk K), sxCallB Try.prog S (.fn 11) [] H' K b = K (.bool true) H' := fun H' K b => known_bx (hO H')
  clear hO
  have ht0 : 0 ≤ Int.tmod z 1999 := Int.tmod_nonneg _ hz.1
  have ht1 : Int.tmod z 1999 < 1999 := Int.tmod_lt_of_pos _ (by decide)
  have hgt : ∃ t, t = Int.tmod z 1999 := ⟨_, rfl⟩
  obtain ⟨t, htt⟩ := hgt
  rw [← htt] at ht0 ht1
  replace htt := htt.symm
  have hwz : IntKind.i64.wrap z = z := IntWalk.i64_in _ (by omega)
  have hw1 : IntKind.i64.wrap (1000 + 1) = 1001 := by decide
  have hnz : ¬ (1999 : Int) = 0 := by decide
  have hnz2 : ¬ (2 : Int) = 0 := by decide
  have ex0 : ∀ x y : Value, aExtract (.tuple ⟨[x, y]⟩) 0 = some x := fun x y => by kernel_rfl
  have ex1 : ∀ x y : Value, aExtract (.tuple ⟨[x, y]⟩) 1 = some y := fun x y => by kernel_rfl
  refine call_of Try.func9 rfl (Nat.le_of_ble_eq_true rfl) (hS.no rfl _ _) ?_
  rw [Try.ntmps9, Try.results9]
  cases more with
  | true =>
    repeat' (first | (with_reducible refine sxGuardB_tsp (fun h => ?_) (fun h => ?_)) | (with_reducible refine sxGuardB_fsp (fun h => ?_) (fun h => ?_)) | (with_reducible refine sxIfB_sp (fun h => ?_) (fun h => ?_)) | simp only [↓sxC_skip, ↓sxC_region, ↓sxC_seq, ↓bxC_cond, ↓bxC_loop, ↓sxC_block, ↓sxC_ret, ↓sxOps_nil, ↓sxOps_cons, ↓sxStep_none, ↓bxStep_some, ↓bxOp_move, ↓bxOp_assign, ↓bxOp_pick, ↓bxOp_build, ↓bxOp_load, ↓bxOp_bin, ↓bxOp_indexAddr, ↓bxOp_extract, ↓bxOp_value, ↓bxOp_len, ↓bxOp_convert, ↓bxPut, ↓seqQ_normal, ↓seqQ_ret, ↓resQ_ret, ↓sxRes_nil, ↓sxRes_tmp, ↓upd_apply, ↓ev_tmp, ↓ev_const, ↓ev_func, ↓dstAt, ↓gval_some, sxOptB_some, binP_int, intBin, sxCallVB_fn, sxIfB_t, packRes_one, List.nil_append, ↓reduceIte, Nat.reduceEqDiff, Nat.reduceLT, *, argF, List.getD_cons_zero] | (with_reducible refine sxDL_barE (by assumption) (by decide +kernel) ?_) | (with_reducible refine sxDL_bar (by decide +kernel) ?_) | (with_reducible refine sxD_bar (by decide +kernel) ?_) | (with_reducible refine sxDL_callD ?_))
    have hgn : ∃ N : Nat, N = 1001 := ⟨_, rfl⟩
    obtain ⟨N, hN⟩ := hgn
    have hN1 : N ≤ 1001 := by omega
    refine sxL_of (fun m ρ H5 => ∃ (k : Nat) (lv : Value), m = N - k ∧ k ≤ N ∧ Keep H H5 ∧ Grp H5 ∧ LstG stE 40 H.size H5 lv (gp k) ∧
      ρ 0 = .bool true ∧ ρ 1 = .int .u16 z ∧ ρ 5 = .int .i64 (N : Int) ∧ ρ 6 = lv ∧ ρ 7 = .int .i64 (k : Int))
      ⟨0, .slice none 0 0, rfl, Nat.zero_le _, Keep.refl _, hg, LstG.nil, rfl, rfl, by rw [hN]; rfl, rfl, rfl⟩ ?_
    rintro m ρ H5 ⟨k, lv, rfl, hk, hK5, hg5, hlst, e0, e1, e5, e6, e7⟩
    by_cases hlt : k < N
    · have hlt' : (k : Int) < (N : Int) := by omega
      have hw : IntKind.i64.wrap ((k : Int) + 1) = ((k + 1 : Nat) : Int) := by rw [IntWalk.i64_in _ (by omega)]; omega
      have hw2 : IntKind.i64.wrap (2 * (k : Int)) = 2 * (k : Int) := IntWalk.i64_in _ (by omega)
      have hw3 : IntKind.i64.wrap (2 * (k : Int) + 1) = 2 * (k : Int) + 1 := IntWalk.i64_in _ (by omega)
      have hpu := hlst.push (t := 40) elemOkP (stableS 0) hg5 hK5.size (x := (2 * (k : Int), 2 * (k : Int) + 1)) (stE_at ⟨by show _ ≤ 2 * (k : Int); omega, by show 2 * (k : Int) ≤ _; omega⟩ ⟨by show _ ≤ 2 * (k : Int) + 1; omega, by show 2 * (k : Int) + 1 ≤ _; omega⟩) rfl (by rw [gp_len]; omega)
      obtain ⟨v8, H8, ap8, hl8, gr8⟩ := hpu
      rw [gp_succ] at hl8
      have bs8 : aBuildSlice Try.prog H5 35 1 [(0, .agg ⟨[.int .i64 (2 * (k : Int)), .int .i64 (2 * (k : Int) + 1)]⟩)] = _ := bs1P H5 (2 * (k : Int), 2 * (k : Int) + 1)
      have bd8 := bdS (2 * (k : Int)) (2 * (k : Int) + 1)
      have hK8 := gr8.base H hg hK5 (Nat.le_refl _)
      have hg8 := gr8.grp hg5
      have hms : N - (k + 1) < N - k := by omega
      unfold pc at bs8 ap8
      clear hlst gr8 hK5 hN
      repeat' (first | (with_reducible refine sxGuardB_tsp (fun h => ?_) (fun h => ?_)) | (with_reducible refine sxGuardB_fsp (fun h => ?_) (fun h => ?_)) | (with_reducible refine sxIfB_sp (fun h => ?_) (fun h => ?_)) | simp only [↓sxC_skip, ↓sxC_region, ↓sxC_seq, ↓bxC_cond, ↓sxC_block, ↓sxC_exit, ↓sxOps_nil, ↓sxOps_cons, ↓sxStep_none, ↓bxOp_move, ↓bxOp_assign, ↓bxOp_build, ↓bxOp_buildSlice, ↓bxOp_bin, ↓bxOp_append, ↓bxPut, ↓seqQ_normal, ↓seqQ_exit, ↓blockQ_normal, ↓blockQ_exit, ↓loopQ_normal, ↓loopQ_exit, ↓upd_apply, ↓ev_tmp, ↓ev_const, sxOptB_some, binP_int, intBin, sxIfB_t, List.map_cons, List.map_nil, ↓reduceIte, Nat.reduceEqDiff, Nat.reduceLT, dec_T, true_and, *] | (with_reducible refine sxDL_barE (by assumption) (by decide +kernel) ?_) | (with_reducible refine sxDL_bar (by decide +kernel) ?_) | (with_reducible refine sxD_bar (by decide +kernel) ?_) | (with_reducible refine sxDL_callD ?_))
      exact ⟨N - (k + 1), hms, k + 1, v8, rfl, by omega, hl8, rfl, rfl⟩
    have hke : k = N := by omega
    subst hke
    have hlt' : ¬ (((k : Nat) : Int) < (k : Int)) := by omega
    have hmx : Go.maxLen = 9223372036854775807 := rfl
    have hs5 := hlst.sl (by rw [gp_len]; omega)
    obtain ⟨r5, hs5, _⟩ := hs5
    have hL5 := hK5.low hL
    have hob := Look_runs hS (gp k) lv r5 0 t H5 hL5 hs5
    obtain ⟨x1, e1', H1, hK1, hq1, hR1⟩ := hob
    have hob := Then_runs hS (gp k) (gp k) lv lv r5 0 r5 0 1 H1 (hK1.low hL5) (hK1.grp hg5) (hs5.keep hK1) (hs5.keep hK1)
    obtain ⟨u3, H3, hR3, x3, e3, R3, rfl, hin3, hb3, hg3⟩ := hob
    have hK13 := hin3.2.2.2.1
    have hK03 := hK1.trans hK13
    have f1 := hR1.bx
    have f3 := hR3.bx
    have hno : ¬ ProfOk (gp k) := by rw [hN]; exact gp_no
    have hzz := hq1.1 (fun h => hno h.1)
    obtain ⟨h1, h2⟩ := hzz
    have hzz := hb3 (fun h => hno h.1)
    obtain ⟨h3, h4⟩ := hzz
    subst h1 h2 h3 h4
    have hlr : x3 = .slice none 0 0 := by
      obtain ⟨_, _, _, _, ⟨_, h⟩ | ⟨h, _⟩⟩ := hin3
      · exact h
      · exact absurd h (Nat.lt_irrefl 0)
    subst hlr
    have c0 : ((0 : Nat) : Int) = 0 := rfl
    have d0 : decide ((0 : Int) = 0) = true := rfl
    have d2 : decide ((2 : Int) = 2) = true := rfl
    clear hlst hs5 hR1 hR3 hq1 hb3 hg3 hin3 hK1 hK13 hK03 hK5 hN hno hmx
    repeat' (first | (with_reducible refine sxGuardB_tsp (fun h => ?_) (fun h => ?_)) | (with_reducible refine sxGuardB_fsp (fun h => ?_) (fun h => ?_)) | (with_reducible refine sxIfB_sp (fun h => ?_) (fun h => ?_)) | simp only [↓sxC_skip, ↓sxC_region, ↓sxC_seq, ↓bxC_cond, ↓sxC_block, ↓sxC_exit, ↓sxOps_nil, ↓sxOps_cons, ↓sxStep_none, ↓bxOp_move, ↓bxOp_assign, ↓bxOp_build, ↓bxOp_buildSlice, ↓bxOp_bin, ↓bxOp_append, ↓bxPut, ↓seqQ_normal, ↓seqQ_exit, ↓blockQ_normal, ↓blockQ_exit, ↓loopQ_normal, ↓loopQ_exit, ↓upd_apply, ↓ev_tmp, ↓ev_const, aConvH_int, sxOptB_some, binP_int, intBin, aPick_true, sxGuardB_tt, sxIfB_t, sxIfB_f, List.map_cons, List.map_nil, List.append_nil, ↓reduceIte, Nat.reduceEqDiff, Nat.reduceLT, dec_T, dec_F, ne_eq, not_false_eq_true, *, lenS, cvU16] | (with_reducible refine sxDL_barE (by assumption) (by decide +kernel) ?_) | (with_reducible refine sxDL_bar (by decide +kernel) ?_) | (with_reducible refine sxD_bar (by decide +kernel) ?_) | (with_reducible refine sxDL_callD ?_))
  | false =>
    repeat' (first | (with_reducible refine sxGuardB_tsp (fun h => ?_) (fun h => ?_)) | (with_reducible refine sxGuardB_fsp (fun h => ?_) (fun h => ?_)) | (with_reducible refine sxIfB_sp (fun h => ?_) (fun h => ?_)) | simp only [↓sxC_skip, ↓sxC_region, ↓sxC_seq, ↓bxC_cond, ↓bxC_loop, ↓sxC_block, ↓sxC_ret, ↓sxOps_nil, ↓sxOps_cons, ↓sxStep_none, ↓bxStep_some, ↓bxOp_move, ↓bxOp_assign, ↓bxOp_pick, ↓bxOp_build, ↓bxOp_load, ↓bxOp_bin, ↓bxOp_indexAddr, ↓bxOp_extract, ↓bxOp_value, ↓bxOp_len, ↓bxOp_convert, ↓bxPut, ↓seqQ_normal, ↓seqQ_ret, ↓resQ_ret, ↓sxRes_nil, ↓sxRes_tmp, ↓upd_apply, ↓ev_tmp, ↓ev_const, ↓ev_func, ↓dstAt, ↓gval_some, sxCallVB_fn, sxIfB_f, packRes_one, List.nil_append, ↓reduceIte, Nat.reduceEqDiff, Nat.reduceLT, *, argF, List.getD_cons_zero] | (with_reducible refine sxDL_barE (by assumption) (by decide +kernel) ?_) | (with_reducible refine sxDL_bar (by decide +kernel) ?_) | (with_reducible refine sxD_bar (by decide +kernel) ?_) | (with_reducible refine sxDL_callD ?_))
    have hgn : ∃ N : Nat, N = 1000 := ⟨_, rfl⟩
    obtain ⟨N, hN⟩ := hgn
    have hN1 : N ≤ 1001 := by omega
    refine sxL_of (fun m ρ H5 => ∃ (k : Nat) (lv : Value), m = N - k ∧ k ≤ N ∧ Keep H H5 ∧ Grp H5 ∧ LstG stE 40 H.size H5 lv (gp k) ∧
      ρ 0 = .bool false ∧ ρ 1 = .int .u16 z ∧ ρ 5 = .int .i64 (N : Int) ∧ ρ 6 = lv ∧ ρ 7 = .int .i64 (k : Int))
      ⟨0, .slice none 0 0, rfl, Nat.zero_le _, Keep.refl _, hg, LstG.nil, rfl, rfl, by rw [hN]; rfl, rfl, rfl⟩ ?_
    rintro m ρ H5 ⟨k, lv, rfl, hk, hK5, hg5, hlst, e0, e1, e5, e6, e7⟩
    by_cases hlt : k < N
    · have hlt' : (k : Int) < (N : Int) := by omega
      have hw : IntKind.i64.wrap ((k : Int) + 1) = ((k + 1 : Nat) : Int) := by rw [IntWalk.i64_in _ (by omega)]; omega
      have hw2 : IntKind.i64.wrap (2 * (k : Int)) = 2 * (k : Int) := IntWalk.i64_in _ (by omega)
      have hw3 : IntKind.i64.wrap (2 * (k : Int) + 1) = 2 * (k : Int) + 1 := IntWalk.i64_in _ (by omega)
      have hpu := hlst.push (t := 40) elemOkP (stableS 0) hg5 hK5.size (x := (2 * (k : Int), 2 * (k : Int) + 1)) (stE_at ⟨by show _ ≤ 2 * (k : Int); omega, by show 2 * (k : Int) ≤ _; omega⟩ ⟨by show _ ≤ 2 * (k : Int) + 1; omega, by show 2 * (k : Int) + 1 ≤ _; omega⟩) rfl (by rw [gp_len]; omega)
      obtain ⟨v8, H8, ap8, hl8, gr8⟩ := hpu
      rw [gp_succ] at hl8
      have bs8 : aBuildSlice Try.prog H5 35 1 [(0, .agg ⟨[.int .i64 (2 * (k : Int)), .int .i64 (2 * (k : Int) + 1)]⟩)] = _ := bs1P H5 (2 * (k : Int), 2 * (k : Int) + 1)
      have bd8 := bdS (2 * (k : Int)) (2 * (k : Int) + 1)
      have hK8 := gr8.base H hg hK5 (Nat.le_refl _)
      have hg8 := gr8.grp hg5
      have hms : N - (k + 1) < N - k := by omega
      unfold pc at bs8 ap8
      clear hlst gr8 hK5 hN
      repeat' (first | (with_reducible refine sxGuardB_tsp (fun h => ?_) (fun h => ?_)) | (with_reducible refine sxGuardB_fsp (fun h => ?_) (fun h => ?_)) | (with_reducible refine sxIfB_sp (fun h => ?_) (fun h => ?_)) | simp only [↓sxC_skip, ↓sxC_region, ↓sxC_seq, ↓bxC_cond, ↓sxC_block, ↓sxC_exit, ↓sxOps_nil, ↓sxOps_cons, ↓sxStep_none, ↓bxOp_move, ↓bxOp_assign, ↓bxOp_build, ↓bxOp_buildSlice, ↓bxOp_bin, ↓bxOp_append, ↓bxPut, ↓seqQ_normal, ↓seqQ_exit, ↓blockQ_normal, ↓blockQ_exit, ↓loopQ_normal, ↓loopQ_exit, ↓upd_apply, ↓ev_tmp, ↓ev_const, sxOptB_some, binP_int, intBin, sxIfB_t, List.map_cons, List.map_nil, ↓reduceIte, Nat.reduceEqDiff, Nat.reduceLT, dec_T, true_and, *] | (with_reducible refine sxDL_barE (by assumption) (by decide +kernel) ?_) | (with_reducible refine sxDL_bar (by decide +kernel) ?_) | (with_reducible refine sxD_bar (by decide +kernel) ?_) | (with_reducible refine sxDL_callD ?_))
      exact ⟨N - (k + 1), hms, k + 1, v8, rfl, by omega, hl8, rfl, rfl⟩
    have hke : k = N := by omega
    subst hke
    have hlt' : ¬ (((k : Nat) : Int) < (k : Int)) := by omega
    have hmx : Go.maxLen = 9223372036854775807 := rfl
    have hs5 := hlst.sl (by rw [gp_len]; omega)
    obtain ⟨r5, hs5, _⟩ := hs5
    have hL5 := hK5.low hL
    have hob := Look_runs hS (gp k) lv r5 0 t H5 hL5 hs5
    obtain ⟨x1, e1', H1, hK1, hq1, hR1⟩ := hob
    have hob := Then_runs hS (gp k) (gp k) lv lv r5 0 r5 0 1 H1 (hK1.low hL5) (hK1.grp hg5) (hs5.keep hK1) (hs5.keep hK1)
    obtain ⟨u3, H3, hR3, x3, e3, R3, rfl, hin3, hb3, hg3⟩ := hob
    have hK13 := hin3.2.2.2.1
    have hK03 := hK1.trans hK13
    have f1 := hR1.bx
    have f3 := hR3.bx
    have hyes : ProfOk (gp k) := by rw [hN]; exact gp_ok
    have hzz := hq1.2 ⟨hyes, by omega, by omega⟩
    obtain ⟨i, h1, h2, _⟩ := hzz
    have hgj : ∃ j : Nat, j = (t.toNat + 1) / 2 := ⟨_, rfl⟩
    obtain ⟨j, hj⟩ := hgj
    have hfj : FirstP (gp k) t j := gp_first (by omega) (by omega) fun _ => by omega
    have hij := h1.eq hfj
    subst hij
    have hzz := h2 (by rw [gp_len]; omega)
    obtain ⟨h2, h2'⟩ := hzz
    rw [gp_at (by omega)] at h2
    have hzz := hg3 ⟨hyes, hyes, by decide, by decide⟩
    obtain ⟨h3, h4⟩ := hzz
    have hgm : ∃ M, M + 1 = k ∧ 0 < M := ⟨999, by omega, by omega⟩
    obtain ⟨M, hM, hM0⟩ := hgm
    have hgb : BestOf (ThenP (gp k) (gp k) 1) (ge M) := by
      have : M = 999 := by omega
      rw [hN, this]; exact ge_best
    have h4 := h4.eq hgb
    subst h2 h2' h3 h4
    have hob := hin3.sl
    obtain ⟨r3, s3, _⟩ := hob
    have hl3 : (ge M).toArray.toList = ge M := List.toList_toArray
    rw [hl3] at s3
    have hob := s3.v0
    obtain ⟨a3, c3, hx3⟩ := hob
    rw [hx3] at s3
    have hob := SlP_at s3 (k := 0) (by rw [ge_len]; exact hM0)
    obtain ⟨q3, hix3, hrd3, _⟩ := hob
    rw [ge_len] at hx3 hix3
    rw [ge_at hM0] at hrd3
    replace hix3 : aIndexAt Try.prog 35 (.slice a3 M c3) (.int .i64 0) = some (.pointer (some ⟨r3, q3, none⟩)) := hix3
    replace hrd3 : H3.read r3 q3 2 = some [.int .i64 0, .int .i64 3] := hrd3
    subst hx3
    have hq : Int.tdiv (t + 1) 2 = (i : Int) := by rw [Int.tdiv_eq_ediv_of_nonneg (by omega)]; omega
    have w1 : IntKind.i64.wrap (t + 1) = t + 1 := IntWalk.i64_in _ (by omega)
    have w2 : IntKind.i64.wrap (i : Int) = (i : Int) := IntWalk.i64_in _ (by omega)
    have w3 : IntKind.i64.wrap ((i : Int) * 2) = 2 * (i : Int) := by rw [IntWalk.i64_in _ (by omega)]; omega
    have w4 : IntKind.i64.wrap (2 * (i : Int) + 1) = 2 * (i : Int) + 1 := IntWalk.i64_in _ (by omega)
    have w5 : IntKind.i64.wrap ((k : Int) - 1) = (M : Int) := by rw [IntWalk.i64_in _ (by omega)]; omega
    have d0 : decide ((0 : Int) = 0) = true := rfl
    have d1 : decide (2 * (i : Int) + 1 = 2 * (i : Int) + 1) = true := decide_eq_true rfl
    have d3 : decide ((M : Int) = (M : Int)) = true := decide_eq_true rfl
    have b3 := bdS 0 3
    have e3 := eqS 0 3
    clear hlst hs5 hR1 hR3 hq1 hb3 hg3 hin3 hK1 hK13 hK03 hK5 s3 h1 hfj hj hgb hM hM0 hN hyes hl3 hmx
    repeat' (first | (with_reducible refine sxGuardB_tsp (fun h => ?_) (fun h => ?_)) | (with_reducible refine sxGuardB_fsp (fun h => ?_) (fun h => ?_)) | (with_reducible refine sxIfB_sp (fun h => ?_) (fun h => ?_)) | simp only [↓sxC_skip, ↓sxC_region, ↓sxC_seq, ↓bxC_cond, ↓sxC_block, ↓sxC_exit, ↓sxOps_nil, ↓sxOps_cons, ↓sxStep_none, ↓bxOp_move, ↓bxOp_assign, ↓bxOp_build, ↓bxOp_buildSlice, ↓bxOp_bin, ↓bxOp_append, ↓bxPut, ↓seqQ_normal, ↓seqQ_exit, ↓blockQ_normal, ↓blockQ_exit, ↓loopQ_normal, ↓loopQ_exit, ↓upd_apply, ↓ev_tmp, ↓ev_const, aConvH_int, sxOptB_some, binP_int, intBin, aPick_true, sxGuardB_tt, sxIfB_f, List.map_cons, List.map_nil, List.append_nil, ↓reduceIte, Nat.reduceEqDiff, Nat.reduceLT, dec_T, dec_F, ne_eq, not_false_eq_true, Option.map_some, *, lenS, ldS, cvU16] | (with_reducible refine sxDL_barE (by assumption) (by decide +kernel) ?_) | (with_reducible refine sxDL_bar (by decide +kernel) ?_) | (with_reducible refine sxD_bar (by decide +kernel) ?_) | (with_reducible refine sxDL_callD ?_))
end Go.Proofs.Ythllcobgfjoleaa
