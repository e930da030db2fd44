/- The best of some points. -/
import Derived.Test.YthllcobgfjoleaaT3
set_option linter.unusedVariables false
set_option linter.unusedSimpArgs false
set_option linter.unusedSectionVars false

namespace Go.Proofs.Ythllcobgfjoleaa
set_option linter.unusedSectionVars false
open Go Go.AM
set_option maxRecDepth 10000
set_option linter.unusedSimpArgs false
set_option linter.unusedVariables false

theorem bs2 (H : Heap) (x y : Int) : aBuildSlice Try.prog H 25 2 [(0, .int .i64 x), (1, .int .i64 y)] = some (.slice (some ⟨H.size, 0, none⟩) 2 2, H.newExact [.int .i64 x, .int .i64 y] 3) := by kernel_rfl
theorem bs1P (H : Heap) (x : Pt) : aBuildSlice Try.prog H 35 1 [(0, .agg ⟨[.int .i64 x.1, .int .i64 x.2]⟩)] = some (.slice (some ⟨H.size, 0, none⟩) 1 1, H.newExact (pc x) 40) := by kernel_rfl
theorem two_sl (H : Heap) (x y : Int) (hx : R64 x) (hy : R64 y) : SlI .i64 (H.newExact [.int .i64 x, .int .i64 y] 3) (.slice (some ⟨H.size, 0, none⟩) [x, y].length 2) [x, y] H.size 0 := by
  exact Own.sl (w := [x, y]) (Own.new H [.int .i64 x, .int .i64 y] 3) (fun z hz => by
    rcases List.mem_cons.1 hz with e | hz
    · rw [e]; exact hx
    · rw [List.mem_singleton.1 hz]; exact hy) (show 2 ≤ Go.maxLen by decide) 2
theorem elemOkP : ElemOk Try.prog #[35, 35] 40 stE.sz := ⟨⟨35, 35, _, Try.t40, .agg ⟨[.int .i64 0, .int .i64 0]⟩, rfl, rfl, Try.underlying35, Try.underlying35, rfl, by kernel_rfl, by kernel_rfl, by kernel_rfl, by kernel_rfl, of_decide_eq_true (by kernel_rfl)⟩, by show 0 < 2; decide⟩
/-- The order in which points are gone through: the latest leaving first, of these the earliest coming. -/
def ltS (x y : Pt) : Bool := decide (y.1 < x.1 ∨ (x.1 = y.1 ∧ x.2 < y.2))
theorem swoS : Sort.SWO ltS where
  irrefl := fun x => by simp [ltS]
  trans := fun x y z h1 h2 => by simp only [ltS, decide_eq_true_eq] at *; omega
  ntrans := fun x y z h1 h2 => by simp only [ltS, decide_eq_false_iff_not] at *; omega
theorem cmp3_r (x y : Int) : R64 (cmp3 x y) := by unfold cmp3 R64; split <;> (try split) <;> decide

variable {S : AM.Sys} (hS : Only S 11)
include hS

theorem cmpOr_runs (x y : Int) (v : Value) (r o : Nat) (H : Heap) (hl : SlI .i64 H v [x, y] r o) : Runs Try.prog S (.fn 73) [v] H (.int .i64 (if x = 0 then y else x)) H := by
  suffices h : WCall Try.prog S (.fn 73) [v] H (fun u H' => u = .int .i64 (if x = 0 then y else x) ∧ H' = H) by
    obtain ⟨_, _, hr, rfl, rfl⟩ := h; exact hr
  obtain ⟨a, c, rfl⟩ := hl.v0
  have hz : ∃ z, z = if x = 0 then y else x := ⟨_, rfl⟩
  obtain ⟨z, hz⟩ := hz
  rw [← hz]
  have hl2 : ((([x, y] : List Int).length : Nat) : Int) = 2 := rfl
  refine call_of Try.func73 rfl (Nat.le_of_ble_eq_true rfl) (hS.no rfl _ _) ?_
  rw [Try.ntmps73, Try.results73]
  repeat' (first | (with_reducible refine sxGuardB_tsp (fun h => ?_) (fun h => ?_)) | (with_reducible refine sxGuardB_fsp (fun h => ?_) (fun h => ?_)) | (with_reducible refine sxIfB_sp (fun h => ?_) (fun h => ?_)) | simp only [↓sxC_region, ↓sxC_seq, ↓bxC_loop, ↓sxC_block, ↓sxC_ret, ↓sxOps_nil, ↓sxOps_cons, ↓sxStep_none, ↓bxOp_move, ↓bxOp_assign, ↓bxOp_len, ↓bxPut, ↓seqQ_normal, ↓resQ_ret, ↓sxRes_nil, ↓sxRes_tmp, ↓upd_apply, ↓ev_tmp, ↓ev_const, sxOptB_some, packRes_one, ↓reduceIte, Nat.reduceEqDiff, Nat.reduceLT, *, argF, List.getD_cons_zero, lenIs] | (with_reducible refine sxDL_barE (by assumption) (by decide +kernel) ?_) | (with_reducible refine sxDL_bar (by decide +kernel) ?_) | (with_reducible refine sxD_bar (by decide +kernel) ?_) | (with_reducible refine sxDL_callD ?_))
  refine sxL_of (fun m ρ H1 => ∃ k : Nat, m = 2 - k ∧ k ≤ 2 ∧ H1 = H ∧ (0 < k → x = 0) ∧ (1 < k → y = 0) ∧
      ρ 3 = .int .i64 0 ∧ ρ 6 = .slice a ([x, y] : List Int).length c ∧ ρ 7 = .int .i64 2 ∧ ρ 8 = .int .i64 (k : Int))
    ⟨0, rfl, Nat.zero_le _, rfl, fun h => absurd h (Nat.lt_irrefl 0), fun h => by omega, rfl, rfl, rfl, rfl⟩ ?_
  rintro m ρ H1 ⟨k, rfl, hk, rfl, hx, hy, e3, e6, e7, e8⟩
  by_cases hlt : k < 2
  · have hlt' : (k : Int) < 2 := by omega
    have hw : IntKind.i64.wrap ((k : Int) + 1) = ((k + 1 : Nat) : Int) := by rw [IntWalk.i64_in _ (by omega)]; omega
    have hob := SlI_at hl (show k < ([x, y] : List Int).length from hlt)
    obtain ⟨hix, hrd⟩ := hob
    have hgv : ∃ q, q = ([x, y] : List Int).getD k 0 := ⟨_, rfl⟩
    obtain ⟨q, hq⟩ := hgv
    rw [← hq] at hrd
    have hqv : (k = 0 ∧ q = x) ∨ (k = 1 ∧ q = y) := by
      rcases (show k = 0 ∨ k = 1 by omega) with e | e
      · exact .inl ⟨e, by rw [hq, e]; rfl⟩
      · exact .inr ⟨e, by rw [hq, e]; rfl⟩
    clear hq
    by_cases c1 : q = 0
    · have d1 : decide (¬ q = 0) = false := decide_eq_false fun h => h c1
      have hx' : 0 < k + 1 → x = 0 := fun _ => by
        rcases hqv with ⟨h1, h2⟩ | ⟨h1, h2⟩
        · omega
        · exact hx (by omega)
      have hy' : 1 < k + 1 → y = 0 := fun h => by
        rcases hqv with ⟨h1, h2⟩ | ⟨h1, h2⟩
        · omega
        · omega
      clear hx hy hqv c1 hl hz hl2
      repeat' (first | (with_reducible refine sxGuardB_tsp (fun h => ?_) (fun h => ?_)) | (with_reducible refine sxGuardB_fsp (fun h => ?_) (fun h => ?_)) | (with_reducible refine sxIfB_sp (fun h => ?_) (fun h => ?_)) | simp only [↓sxC_skip, ↓sxC_region, ↓sxC_seq, ↓bxC_cond, ↓sxC_block, ↓sxC_exit, ↓sxC_ret, ↓sxOps_nil, ↓sxOps_cons, ↓sxStep_none, ↓bxOp_move, ↓bxOp_assign, ↓bxOp_load, ↓bxOp_bin, ↓bxOp_indexAddr, ↓bxPut, ↓seqQ_normal, ↓seqQ_exit, ↓seqQ_ret, ↓blockQ_normal, ↓blockQ_ret, ↓blockQ_exit, ↓loopQ_normal, ↓loopQ_exit, ↓loopQ_ret, ↓resQ_ret, ↓sxRes_nil, ↓sxRes_tmp, ↓upd_apply, ↓ev_tmp, ↓ev_const, sxOptB_some, binP_int, intBin, sxIfB_t, sxIfB_f, packRes_one, ↓reduceIte, Nat.reduceEqDiff, Nat.reduceLT, dec_T, true_and, one1, Option.bind_some, *, ldC, one1] | (with_reducible refine sxDL_barE (by assumption) (by decide +kernel) ?_) | (with_reducible refine sxDL_bar (by decide +kernel) ?_) | (with_reducible refine sxD_bar (by decide +kernel) ?_) | (with_reducible refine sxDL_callD ?_))
      exact ⟨2 - (k + 1), by omega, k + 1, rfl, by omega, hx', hy', rfl⟩
    · have d1 : decide (¬ q = 0) = true := decide_eq_true c1
      have hzq : z = q := by
        rcases hqv with ⟨h1, h2⟩ | ⟨h1, h2⟩
        · rw [hz, if_neg (by omega)]; exact h2.symm
        · rw [hz, if_pos (hx (by omega))]; exact h2.symm
      subst hzq
      clear hx hy hqv c1 hl hz hl2
      repeat' (first | (with_reducible refine sxGuardB_tsp (fun h => ?_) (fun h => ?_)) | (with_reducible refine sxGuardB_fsp (fun h => ?_) (fun h => ?_)) | (with_reducible refine sxIfB_sp (fun h => ?_) (fun h => ?_)) | simp only [↓sxC_skip, ↓sxC_region, ↓sxC_seq, ↓bxC_cond, ↓sxC_block, ↓sxC_exit, ↓sxC_ret, ↓sxOps_nil, ↓sxOps_cons, ↓sxStep_none, ↓bxOp_move, ↓bxOp_assign, ↓bxOp_load, ↓bxOp_bin, ↓bxOp_indexAddr, ↓bxPut, ↓seqQ_normal, ↓seqQ_exit, ↓seqQ_ret, ↓blockQ_normal, ↓blockQ_ret, ↓blockQ_exit, ↓loopQ_normal, ↓loopQ_exit, ↓loopQ_ret, ↓resQ_ret, ↓sxRes_nil, ↓sxRes_tmp, ↓upd_apply, ↓ev_tmp, ↓ev_const, sxOptB_some, binP_int, intBin, sxIfB_t, packRes_one, ↓reduceIte, Nat.reduceEqDiff, Nat.reduceLT, dec_T, and_self, one1, Option.bind_some, *, ldC, one1] | (with_reducible refine sxDL_barE (by assumption) (by decide +kernel) ?_) | (with_reducible refine sxDL_bar (by decide +kernel) ?_) | (with_reducible refine sxD_bar (by decide +kernel) ?_) | (with_reducible refine sxDL_callD ?_))
  · have hke : k = 2 := by omega
    subst hke
    have hlt' : ¬ (((2 : Nat) : Int) < 2) := by decide
    have h0 : z = 0 := by rw [hz, if_pos (hx (by omega))]; exact hy (by omega)
    subst h0
    clear hx hy hl hz hl2
    repeat' (first | (with_reducible refine sxGuardB_tsp (fun h => ?_) (fun h => ?_)) | (with_reducible refine sxGuardB_fsp (fun h => ?_) (fun h => ?_)) | (with_reducible refine sxIfB_sp (fun h => ?_) (fun h => ?_)) | simp only [↓sxC_skip, ↓sxC_region, ↓sxC_seq, ↓bxC_cond, ↓sxC_block, ↓sxC_exit, ↓sxC_ret, ↓sxOps_nil, ↓sxOps_cons, ↓sxStep_none, ↓bxOp_move, ↓bxOp_assign, ↓bxOp_load, ↓bxOp_bin, ↓bxOp_indexAddr, ↓bxPut, ↓seqQ_normal, ↓seqQ_exit, ↓seqQ_ret, ↓blockQ_normal, ↓blockQ_ret, ↓blockQ_exit, ↓loopQ_normal, ↓loopQ_exit, ↓loopQ_ret, ↓resQ_ret, ↓sxRes_nil, ↓sxRes_tmp, ↓upd_apply, ↓ev_tmp, ↓ev_const, sxOptB_some, binP_int, intBin, sxIfB_f, packRes_one, ↓reduceIte, Nat.reduceEqDiff, Nat.reduceLT, dec_F, and_self, *] | (with_reducible refine sxDL_barE (by assumption) (by decide +kernel) ?_) | (with_reducible refine sxDL_bar (by decide +kernel) ?_) | (with_reducible refine sxD_bar (by decide +kernel) ?_) | (with_reducible refine sxDL_callD ?_))

set_option maxHeartbeats 2000000 in
theorem bestC_runs (x y : Pt) (H : Heap) (hL : H.low ≤ H.size) : ∃ z H', Keep H H' ∧ (z < 0 ↔ ltS x y = true) ∧ Runs Try.prog S (.fn 72) [.agg ⟨pc x⟩, .agg ⟨pc y⟩] H (.int .i64 z) H' := by
  suffices h : WCall Try.prog S (.fn 72) [.agg ⟨pc x⟩, .agg ⟨pc y⟩] H (fun v H' => v = .int .i64 (if cmp3 y.1 x.1 = 0 then cmp3 x.2 y.2 else cmp3 y.1 x.1) ∧ Keep H H') by
    obtain ⟨_, H', hr, rfl, hk⟩ := h
    refine ⟨_, H', hk, ?_, hr⟩
    unfold ltS cmp3
    rw [decide_eq_true_iff]
    split <;> split <;> (try split) <;> (try split) <;> omega
  obtain ⟨H1, e1, hK1, g2, g0, g1⟩ := boxP H x
  obtain ⟨H2, e2, hK2, p2, p0, p1⟩ := boxP H1 y
  have hz1 : H.size < H1.size := by rw [← e1, size_new]; omega
  have q0 := hK2.read hz1 g0
  have q1 := hK2.read hz1 g1
  have hK := hK1.trans hK2
  have hL2 := hK.low hL
  have f1 := (cmpV_runs hS y.1 x.1 (H2.relow H2.size)).bx
  have f2 := (cmpV_runs hS x.2 y.2 (H2.relow H2.size)).bx
  obtain ⟨z1, hz1'⟩ : ∃ z, z = cmp3 y.1 x.1 := ⟨_, rfl⟩
  obtain ⟨z2, hz2'⟩ : ∃ z, z = cmp3 x.2 y.2 := ⟨_, rfl⟩
  have r1 : R64 z1 := by rw [hz1']; exact cmp3_r _ _
  have r2 : R64 z2 := by rw [hz2']; exact cmp3_r _ _
  rw [← hz1'] at f1
  rw [← hz2'] at f2
  rw [← hz1', ← hz2']
  have bs := bs2 (H2.relow H2.size) z1 z2
  have k3 := Keep.newExact (H2.relow H2.size) [.int .i64 z1, .int .i64 z2] 3
  have s3 := two_sl (H2.relow H2.size) z1 z2 r1 r2
  obtain ⟨H3, hH3⟩ : ∃ H3, H3 = (H2.relow H2.size).newExact [.int .i64 z1, .int .i64 z2] 3 := ⟨_, rfl⟩
  rw [← hH3] at bs k3 s3
  have k4 := Keep.draw k3
  have fd3 : ∀ (all : List Oper) (n : Nat) (k : Heap → Prop), sxD all n H2 H3 k = k (H3.relow (Nat.min H2.low H3.low)) := fun all n k => sxD_keep k3 k
  obtain ⟨H4, hH4⟩ : ∃ H4, H4 = H3.relow (Nat.min H2.low H3.low) := ⟨_, rfl⟩
  have s4 : SlI .i64 (H4.relow H4.size) (.slice (some ⟨H2.size, 0, none⟩) ([z1, z2] : List Int).length 2) [z1, z2] H2.size 0 := by rw [hH4]; exact ⟨s3.isv, fun i hi => s3.rd i hi, s3.lt, s3.ml⟩
  rw [← hH4] at k4 fd3
  have f3 : ∀ (K : Value → Heap → Prop) (b : Blk K), sxCallB Try.prog S (.fn 73) [.slice (some ⟨H2.size, 0, none⟩) 2 2] (H4.relow H4.size) K b = K (.int .i64 (if z1 = 0 then z2 else z1)) (H4.relow H4.size) := (cmpOr_runs hS z1 z2 _ _ _ _ s4).bx
  have hL4 := k4.low hL2
  have hK4 := hK.trans k4
  obtain ⟨z, hz⟩ : ∃ z, z = if z1 = 0 then z2 else z1 := ⟨_, rfl⟩
  rw [← hz] at f3
  rw [← hz]
  clear hz hH3 hH4 s3 s4 k3 k4 hz1' hz2' r1 r2 hK hK1 hK2 hz1 g0 g1 g2 p2
  refine call_of Try.func72 rfl (Nat.le_of_ble_eq_true rfl) (hS.no rfl _ _) ?_
  rw [Try.ntmps72, Try.results72]
  repeat' (first | (with_reducible refine sxGuardB_tsp (fun h => ?_) (fun h => ?_)) | (with_reducible refine sxGuardB_fsp (fun h => ?_) (fun h => ?_)) | (with_reducible refine sxIfB_sp (fun h => ?_) (fun h => ?_)) | simp only [↓sxC_draw, ↓sxC_region, ↓sxC_seq, ↓sxC_ret, ↓sxOps_nil, ↓sxOps_cons, ↓sxDraw_nil, ↓bxDraw_cons, ↓sxDL_assign, ↓sxDL_buildSlice, ↓sxDL_load, ↓sxDL_fieldAddr, ↓sxD_same, ↓sxStep_none, ↓bxOp_assign, ↓bxOp_box, ↓bxOp_buildSlice, ↓bxOp_load, ↓bxOp_fieldAddr, ↓bxOp_value, ↓bxPut, ↓seqQ_normal, ↓resQ_ret, ↓sxRes_nil, ↓sxRes_tmp, ↓upd_apply, ↓ev_tmp, ↓ev_const, ↓ev_func, sxOptB_some, sxCallVB_fn, packRes_one, List.map_cons, List.map_nil, List.nil_append, List.append_nil, ↓reduceIte, Nat.reduceEqDiff, Nat.reduceLT, true_and, size_relow, aLoad_relow, Nat.add_zero, one1, Option.bind_some, *, argF, List.getD_cons_zero, List.getD_cons_succ, cells_agg, faS0, faS1, ldC, one1] | (with_reducible refine sxDL_barE (by assumption) (by decide +kernel) ?_) | (with_reducible refine sxDL_bar (by decide +kernel) ?_) | (with_reducible refine sxD_bar (by decide +kernel) ?_) | (with_reducible refine sxDL_callD ?_))
end Go.Proofs.Ythllcobgfjoleaa
