/- What is a diagram: the checks of package tariff, on the canonical machine. -/
import Derived.Test.YtmllfacipbpkfaaDoorC1
set_option linter.unusedVariables false
set_option linter.unusedSimpArgs false
set_option linter.unusedSectionVars false

namespace Go.Proofs.YtmllfacipbpkfaaDoor
open Go Go.AM
set_option maxRecDepth 10000
set_option linter.unusedSimpArgs false

structure Nd where
  mark : Int
  cuts : List Int
  to : List Int
instance : Inhabited Nd := ⟨⟨0, [], []⟩⟩
def nodeE : Enc Nd := mapE (fun n => (n.mark, n.cuts, n.to)) (prodE (intE .i64) (prodE (sliceE (intE .i64)) (sliceE (intE .i64))))
theorem nodeE_inv {H : Heap} {n : Nd} {cs : List Value} (h : nodeE.At H n cs) : ∃ v1 r1 o1 v2 r2 o2, cs = [.int .i64 n.mark, v1, v2] ∧ SlI .i64 H v1 n.cuts r1 o1 ∧ SlI .i64 H v2 n.to r2 o2 := by
  obtain ⟨c1, c2, rfl, ⟨rfl, _⟩, c3, c4, rfl, ⟨v1, r1, o1, rfl, h1⟩, ⟨v2, r2, o2, rfl, h2⟩⟩ := h
  exact ⟨v1, r1, o1, v2, r2, o2, rfl, h1, h2⟩

/-- The number before. -/
def prev (l : List Int) (j : Nat) : Int := if j = 0 then 0 else l.getD (j - 1) 0
def Asc (l : List Int) : Prop := (∀ j, j < l.length → prev l j < l.getD j 0) ∧ prev l l.length = 1000
instance (l : List Int) : Decidable (Asc l) := by unfold Asc; infer_instance
def ToOk (d : List Nd) (n : Nd) (t : Int) : Prop := -101 ≤ t ∧ (0 ≤ t → t < d.length ∧ n.mark < (d.getD t.toNat default).mark)
instance (d : List Nd) (n : Nd) (t : Int) : Decidable (ToOk d n t) := by unfold ToOk; infer_instance
def NodeOk (k : Int) (d : List Nd) (n : Nd) : Prop := 0 ≤ n.mark ∧ n.mark < k ∧ Asc n.cuts ∧ n.to.length = n.cuts.length ∧ ∀ t ∈ n.to, ToOk d n t
instance (k : Int) (d : List Nd) (n : Nd) : Decidable (NodeOk k d n) := by unfold NodeOk; infer_instance
def Diagram (k : Int) (d : List Nd) : Prop := 0 < d.length ∧ d.length ≤ 200000 ∧ ∀ n ∈ d, NodeOk k d n
instance (k : Int) (d : List Nd) : Decidable (Diagram k d) := by unfold Diagram; infer_instance

theorem ldIs (H : Heap) (r o : Nat) : aLoad Tryd.prog H 23 (.pointer (some ⟨r, o, none⟩)) = (H.read r o 1).bind one1 := by kernel_rfl
theorem ldN (H : Heap) (r o : Nat) : aLoad Tryd.prog H 32 (.pointer (some ⟨r, o, none⟩)) = (H.read r o 3).map fun l => .agg ⟨l⟩ := by kernel_rfl
theorem faN0 (r o : Nat) : aFieldAt Tryd.prog 32 0 (.pointer (some ⟨r, o, none⟩)) = some (.pointer (some ⟨r, o + 0, none⟩)) := by kernel_rfl
theorem faN1 (r o : Nat) : aFieldAt Tryd.prog 32 1 (.pointer (some ⟨r, o, none⟩)) = some (.pointer (some ⟨r, o + 1, none⟩)) := by kernel_rfl
theorem faN2 (r o : Nat) : aFieldAt Tryd.prog 32 2 (.pointer (some ⟨r, o, none⟩)) = some (.pointer (some ⟨r, o + 2, none⟩)) := by kernel_rfl
theorem lenN (a : Option Addr) (n c : Nat) : aLen Tryd.prog #[30] (.slice a n c) = some (.int .i64 n) := by kernel_rfl
theorem ixN (r o n c : Nat) (k : IntKind) (i : Int) : aIndexAt Tryd.prog 30 (.slice (some ⟨r, o, none⟩) n c) (.int k i) = if 0 ≤ i ∧ i < (n : Int) then some (.pointer (some ⟨r, o + i.toNat * 3, none⟩)) else none := by kernel_rfl
abbrev SlN (H : Heap) (v : Value) (d : List Nd) (r o : Nat) : Prop := SlE nodeE H v d r o
/-- An element of a list of nodes. -/
theorem SlN_ix {H : Heap} {w : List Nd} {r o : Nat} {a : Option Addr} {cap : Nat} (h : SlN H (.slice a w.length cap) w r o) {i : Int} (h0 : 0 ≤ i) (h1 : i < w.length) :
    aIndexAt Tryd.prog 30 (.slice a w.length cap) (.int .i64 i) = some (.pointer (some ⟨r, o + i.toNat * 3, none⟩)) := by
  obtain ⟨a', cap', e, ha⟩ := h.isv
  cases e
  rw [ha (by omega), ixN, if_pos ⟨h0, h1⟩]
theorem SlN_rd {H : Heap} {w : List Nd} {r o : Nat} {v : Value} (h : SlN H v w r o) {i : Nat} (h1 : i < w.length) :
    ∃ v1 r1 o1 v2 r2 o2, H.read r (o + i * 3) 3 = some [.int .i64 (w.getD i default).mark, v1, v2] ∧ H.read r (o + i * 3) 1 = some [.int .i64 (w.getD i default).mark] ∧
      H.read r (o + i * 3 + 1) 1 = some [v1] ∧ H.read r (o + i * 3 + 2) 1 = some [v2] ∧ nodeE.At H (w.getD i default) [.int .i64 (w.getD i default).mark, v1, v2] ∧
      SlI .i64 H v1 (w.getD i default).cuts r1 o1 ∧ SlI .i64 H v2 (w.getD i default).to r2 o2 := by
  obtain ⟨es, h2, h3⟩ := h.rd i h1
  obtain ⟨v1, r1, o1, v2, r2, o2, rfl, h4, h5⟩ := nodeE_inv h3
  have h2 : H.read r (o + i * 3) 3 = some _ := h2
  exact ⟨v1, r1, o1, v2, r2, o2, h2, read_sub (j := 0) h2 (by omega), read_sub (j := 1) h2 (by omega), read_sub (j := 2) h2 (by omega), h3, h4, h5⟩

variable {S : AM.Sys} (hS : Only S 8)
include hS

theorem isCuts_runs (v : Value) (w : List Int) (r o : Nat) (H : Heap) (hl : SlI .i64 H v w r o) :
    Runs Tryd.prog S (.fn 69) [v] H (.bool (decide (Asc w))) H := by
  suffices h : WCall Tryd.prog S (.fn 69) [v] H (fun v H' => v = .bool (decide (Asc w)) ∧ H' = H) by
    obtain ⟨_, _, hr, rfl, rfl⟩ := h; exact hr
  obtain ⟨a, cap, rfl⟩ := hl.v0
  refine call_of Tryd.func69 rfl (Nat.le_of_ble_eq_true rfl) (hS.no rfl _ _) ?_
  rw [Tryd.ntmps69, Tryd.results69]
  repeat' (first | (with_reducible refine sxGuardB_tsp (fun h => ?_) (fun h => ?_)) | (with_reducible refine sxGuardB_fsp (fun h => ?_) (fun h => ?_)) | (with_reducible refine sxIfB_sp (fun h => ?_) (fun h => ?_)) | simp only [↓sxC_skip, ↓sxC_draw, ↓sxC_region, ↓sxC_seq, ↓bxC_cond, ↓bxC_loop, ↓sxC_block, ↓sxC_exit, ↓sxC_goto, ↓sxC_ret, ↓sxOps_nil, ↓sxOps_cons, ↓sxDraw_nil, ↓bxDraw_cons, ↓sxD_same, ↓sxStep_none, ↓bxStep_some, ↓bxOp_move, ↓bxOp_assign, ↓bxOp_pick, ↓bxOp_alloc, ↓bxOp_box, ↓bxOp_build, ↓bxOp_buildSlice, ↓bxOp_load, ↓bxOp_store, ↓bxOp_nilCheck, ↓bxOp_bin, ↓bxOp_un, ↓bxOp_makeI, ↓bxOp_makeFunc, ↓bxOp_makeSlice, ↓bxOp_slice, ↓bxOp_fieldAddr, ↓bxOp_field, ↓bxOp_indexAddr, ↓bxOp_index, ↓bxOp_assert, ↓bxOp_extract, ↓bxOp_value, ↓bxOp_len, ↓bxOp_cap, ↓bxOp_append, ↓bxOp_copy, ↓bxOp_max, ↓bxOp_min, ↓bxOp_convert, ↓sxPut_none, ↓bxPut, ↓seqQ_normal, ↓seqQ_exit, ↓seqQ_ret, ↓seqQ_goto, ↓blockQ_normal, ↓blockQ_ret, ↓blockQ_goto, ↓blockQ_exit, ↓loopQ_normal, ↓loopQ_exit, ↓loopQ_ret, ↓loopQ_goto, ↓resQ_normal, ↓resQ_ret, ↓sxRes_nil, ↓sxRes_tmp, ↓bxRes_cell, ↓upd_apply, ↓ev_tmp, ↓ev_const, ↓ev_global, ↓ev_func, ↓dstAt, ↓gval_some, sxOptB_some, sxOptB_ite, mm_max, mm_min, bin_shl, bin_shr, bin_int, intBin, una_not_dec, una_nt, una_nf, una_neg, aPick_true, aPick_false, sxCallVB_fn, sxCallVB_yield, sxGuardB_u, sxGuardB_tt, sxGuardB_tf, sxGuardB_ft, sxGuardB_ff, sxIfB_t, sxIfB_f, packRes_one, packRes_two, List.map_cons, List.map_nil, List.nil_append, List.cons_append, List.append_nil, ↓reduceIte, Nat.reduceEqDiff, Nat.reduceLT, dec_T, dec_F, false_imp, true_and, and_true, true_implies, implies_true, false_and, and_false, true_or, or_true, false_or, or_false, and_self, or_self, read_relow, size_relow, low_relow, relow_relow, aLoad_relow, Nat.add_zero, Nat.mul_one, one1, Option.bind_some, ne_eq, Int.natCast_nonneg, Int.toNat_natCast, not_true_eq_false, not_false_eq_true, Option.map_some, Option.map_none, *, argF, List.getD_cons_zero, List.getD_cons_succ, lenI])
  refine sxL_of (fun m ρ H1 => ∃ j : Nat, m = w.length - j ∧ j ≤ w.length ∧ H1 = H ∧ (∀ i, i < j → prev w i < w.getD i 0) ∧ ρ 3 = .int .i64 (prev w j) ∧ ρ 6 = .slice a w.length cap ∧ ρ 7 = .int .i64 w.length ∧ ρ 8 = .int .i64 j)
    ⟨0, rfl, Nat.zero_le _, rfl, fun j hj => absurd hj (Nat.not_lt_zero j), rfl, rfl, rfl, rfl⟩ ?_
  rintro m ρ H1 ⟨j, rfl, hj, rfl, hall, e3, e6, e7, e8⟩
  by_cases hlt : j < w.length
  · have hix := SlI_ix hl hlt
    have hrd := (hl.rdI hlt).1
    have hw := wrap_succ hlt hl.ml
    have hlt' : (j : Int) < (w.length : Int) := by omega
    clear hl
    repeat' (first | (with_reducible refine sxGuardB_tsp (fun h => ?_) (fun h => ?_)) | (with_reducible refine sxGuardB_fsp (fun h => ?_) (fun h => ?_)) | (with_reducible refine sxIfB_sp (fun h => ?_) (fun h => ?_)) | simp only [↓sxC_skip, ↓sxC_draw, ↓sxC_region, ↓sxC_seq, ↓bxC_cond, ↓bxC_loop, ↓sxC_block, ↓sxC_exit, ↓sxC_goto, ↓sxC_ret, ↓sxOps_nil, ↓sxOps_cons, ↓sxDraw_nil, ↓bxDraw_cons, ↓sxD_same, ↓sxStep_none, ↓bxStep_some, ↓bxOp_move, ↓bxOp_assign, ↓bxOp_pick, ↓bxOp_alloc, ↓bxOp_box, ↓bxOp_build, ↓bxOp_buildSlice, ↓bxOp_load, ↓bxOp_store, ↓bxOp_nilCheck, ↓bxOp_bin, ↓bxOp_un, ↓bxOp_makeI, ↓bxOp_makeFunc, ↓bxOp_makeSlice, ↓bxOp_slice, ↓bxOp_fieldAddr, ↓bxOp_field, ↓bxOp_indexAddr, ↓bxOp_index, ↓bxOp_assert, ↓bxOp_extract, ↓bxOp_value, ↓bxOp_len, ↓bxOp_cap, ↓bxOp_append, ↓bxOp_copy, ↓bxOp_max, ↓bxOp_min, ↓bxOp_convert, ↓sxPut_none, ↓bxPut, ↓seqQ_normal, ↓seqQ_exit, ↓seqQ_ret, ↓seqQ_goto, ↓blockQ_normal, ↓blockQ_ret, ↓blockQ_goto, ↓blockQ_exit, ↓loopQ_normal, ↓loopQ_exit, ↓loopQ_ret, ↓loopQ_goto, ↓resQ_normal, ↓resQ_ret, ↓sxRes_nil, ↓sxRes_tmp, ↓bxRes_cell, ↓upd_apply, ↓ev_tmp, ↓ev_const, ↓ev_global, ↓ev_func, ↓dstAt, ↓gval_some, sxOptB_some, sxOptB_ite, mm_max, mm_min, bin_shl, bin_shr, bin_int, intBin, una_not_dec, una_nt, una_nf, una_neg, aPick_true, aPick_false, sxCallVB_fn, sxCallVB_yield, sxGuardB_u, sxGuardB_tt, sxGuardB_tf, sxGuardB_ft, sxGuardB_ff, sxIfB_t, sxIfB_f, packRes_one, packRes_two, List.map_cons, List.map_nil, List.nil_append, List.cons_append, List.append_nil, ↓reduceIte, Nat.reduceEqDiff, Nat.reduceLT, dec_T, dec_F, false_imp, true_and, and_true, true_implies, implies_true, false_and, and_false, true_or, or_true, false_or, or_false, and_self, or_self, read_relow, size_relow, low_relow, relow_relow, aLoad_relow, Nat.add_zero, Nat.mul_one, one1, Option.bind_some, ne_eq, Int.natCast_nonneg, Int.toNat_natCast, not_true_eq_false, not_false_eq_true, Option.map_some, Option.map_none, *, lenI, ldI])
    all_goals first
      | exact bool_f fun (h1 : Asc _) => by have := h1.1 j hlt; omega
      | exact ⟨_, by omega, j + 1, rfl, by omega, fun i hi => by
          rcases Nat.lt_or_ge i j with h | h
          · exact hall i h
          · rw [show i = j by omega]; omega, rfl, rfl⟩
  · have hlt' : ¬ (j : Int) < (w.length : Int) := by omega
    obtain rfl : j = w.length := by omega
    clear hl
    repeat' (first | (with_reducible refine sxGuardB_tsp (fun h => ?_) (fun h => ?_)) | (with_reducible refine sxGuardB_fsp (fun h => ?_) (fun h => ?_)) | (with_reducible refine sxIfB_sp (fun h => ?_) (fun h => ?_)) | simp only [↓sxC_skip, ↓sxC_draw, ↓sxC_region, ↓sxC_seq, ↓bxC_cond, ↓bxC_loop, ↓sxC_block, ↓sxC_exit, ↓sxC_goto, ↓sxC_ret, ↓sxOps_nil, ↓sxOps_cons, ↓sxDraw_nil, ↓bxDraw_cons, ↓sxD_same, ↓sxStep_none, ↓bxStep_some, ↓bxOp_move, ↓bxOp_assign, ↓bxOp_pick, ↓bxOp_alloc, ↓bxOp_box, ↓bxOp_build, ↓bxOp_buildSlice, ↓bxOp_load, ↓bxOp_store, ↓bxOp_nilCheck, ↓bxOp_bin, ↓bxOp_un, ↓bxOp_makeI, ↓bxOp_makeFunc, ↓bxOp_makeSlice, ↓bxOp_slice, ↓bxOp_fieldAddr, ↓bxOp_field, ↓bxOp_indexAddr, ↓bxOp_index, ↓bxOp_assert, ↓bxOp_extract, ↓bxOp_value, ↓bxOp_len, ↓bxOp_cap, ↓bxOp_append, ↓bxOp_copy, ↓bxOp_max, ↓bxOp_min, ↓bxOp_convert, ↓sxPut_none, ↓bxPut, ↓seqQ_normal, ↓seqQ_exit, ↓seqQ_ret, ↓seqQ_goto, ↓blockQ_normal, ↓blockQ_ret, ↓blockQ_goto, ↓blockQ_exit, ↓loopQ_normal, ↓loopQ_exit, ↓loopQ_ret, ↓loopQ_goto, ↓resQ_normal, ↓resQ_ret, ↓sxRes_nil, ↓sxRes_tmp, ↓bxRes_cell, ↓upd_apply, ↓ev_tmp, ↓ev_const, ↓ev_global, ↓ev_func, ↓dstAt, ↓gval_some, sxOptB_some, sxOptB_ite, mm_max, mm_min, bin_shl, bin_shr, bin_int, intBin, una_not_dec, una_nt, una_nf, una_neg, aPick_true, aPick_false, sxCallVB_fn, sxCallVB_yield, sxGuardB_u, sxGuardB_tt, sxGuardB_tf, sxGuardB_ft, sxGuardB_ff, sxIfB_t, sxIfB_f, packRes_one, packRes_two, List.map_cons, List.map_nil, List.nil_append, List.cons_append, List.append_nil, ↓reduceIte, Nat.reduceEqDiff, Nat.reduceLT, dec_T, dec_F, false_imp, true_and, and_true, true_implies, implies_true, false_and, and_false, true_or, or_true, false_or, or_false, and_self, or_self, read_relow, size_relow, low_relow, relow_relow, aLoad_relow, Nat.add_zero, Nat.mul_one, one1, Option.bind_some, ne_eq, Int.natCast_nonneg, Int.toNat_natCast, not_true_eq_false, not_false_eq_true, Option.map_some, Option.map_none, *, lenI, ldI])
    exact bool_d ⟨fun h => ⟨hall, h⟩, fun h => h.2⟩

theorem atCode_runs (n : Int) (hn : 0 ≤ n ∧ n ≤ 1000) (H : Heap) : Runs Tryd.prog S (.fn 70) [.int .i64 n] H (.int .i64 (-2 - n)) H := by
  suffices h : WCall Tryd.prog S (.fn 70) [.int .i64 n] H (fun v H' => v = .int .i64 (-2 - n) ∧ H' = H) by
    obtain ⟨_, _, hr, rfl, rfl⟩ := h; exact hr
  refine call_of Tryd.func70 rfl (Nat.le_of_ble_eq_true rfl) (hS.no rfl _ _) ?_
  rw [Tryd.ntmps70, Tryd.results70]
  have hw : IntKind.i64.wrap (-2 - n) = -2 - n := IntWalk.i64_in _ (by omega)
  repeat' (first | (with_reducible refine sxGuardB_tsp (fun h => ?_) (fun h => ?_)) | (with_reducible refine sxGuardB_fsp (fun h => ?_) (fun h => ?_)) | (with_reducible refine sxIfB_sp (fun h => ?_) (fun h => ?_)) | simp only [↓sxC_skip, ↓sxC_draw, ↓sxC_region, ↓sxC_seq, ↓bxC_cond, ↓bxC_loop, ↓sxC_block, ↓sxC_exit, ↓sxC_goto, ↓sxC_ret, ↓sxOps_nil, ↓sxOps_cons, ↓sxDraw_nil, ↓bxDraw_cons, ↓sxD_same, ↓sxStep_none, ↓bxStep_some, ↓bxOp_move, ↓bxOp_assign, ↓bxOp_pick, ↓bxOp_alloc, ↓bxOp_box, ↓bxOp_build, ↓bxOp_buildSlice, ↓bxOp_load, ↓bxOp_store, ↓bxOp_nilCheck, ↓bxOp_bin, ↓bxOp_un, ↓bxOp_makeI, ↓bxOp_makeFunc, ↓bxOp_makeSlice, ↓bxOp_slice, ↓bxOp_fieldAddr, ↓bxOp_field, ↓bxOp_indexAddr, ↓bxOp_index, ↓bxOp_assert, ↓bxOp_extract, ↓bxOp_value, ↓bxOp_len, ↓bxOp_cap, ↓bxOp_append, ↓bxOp_copy, ↓bxOp_max, ↓bxOp_min, ↓bxOp_convert, ↓sxPut_none, ↓bxPut, ↓seqQ_normal, ↓seqQ_exit, ↓seqQ_ret, ↓seqQ_goto, ↓blockQ_normal, ↓blockQ_ret, ↓blockQ_goto, ↓blockQ_exit, ↓loopQ_normal, ↓loopQ_exit, ↓loopQ_ret, ↓loopQ_goto, ↓resQ_normal, ↓resQ_ret, ↓sxRes_nil, ↓sxRes_tmp, ↓bxRes_cell, ↓upd_apply, ↓ev_tmp, ↓ev_const, ↓ev_global, ↓ev_func, ↓dstAt, ↓gval_some, sxOptB_some, sxOptB_ite, mm_max, mm_min, bin_shl, bin_shr, bin_int, intBin, una_not_dec, una_nt, una_nf, una_neg, aPick_true, aPick_false, sxCallVB_fn, sxCallVB_yield, sxGuardB_u, sxGuardB_tt, sxGuardB_tf, sxGuardB_ft, sxGuardB_ff, sxIfB_t, sxIfB_f, packRes_one, packRes_two, List.map_cons, List.map_nil, List.nil_append, List.cons_append, List.append_nil, ↓reduceIte, Nat.reduceEqDiff, Nat.reduceLT, dec_T, dec_F, false_imp, true_and, and_true, true_implies, implies_true, false_and, and_false, true_or, or_true, false_or, or_false, and_self, or_self, read_relow, size_relow, low_relow, relow_relow, aLoad_relow, Nat.add_zero, Nat.mul_one, one1, Option.bind_some, ne_eq, Int.natCast_nonneg, Int.toNat_natCast, not_true_eq_false, not_false_eq_true, Option.map_some, Option.map_none, *, argF, List.getD_cons_zero, List.getD_cons_succ])
theorem codeAt_runs (n : Int) (hn : -1000 ≤ n ∧ n ≤ 1000) (H : Heap) : Runs Tryd.prog S (.fn 32) [.int .i64 n] H (.int .i64 (-2 - n)) H := by
  suffices h : WCall Tryd.prog S (.fn 32) [.int .i64 n] H (fun v H' => v = .int .i64 (-2 - n) ∧ H' = H) by
    obtain ⟨_, _, hr, rfl, rfl⟩ := h; exact hr
  refine call_of Tryd.func32 rfl (Nat.le_of_ble_eq_true rfl) (hS.no rfl _ _) ?_
  rw [Tryd.ntmps32, Tryd.results32]
  have hw : IntKind.i64.wrap (-2 - n) = -2 - n := IntWalk.i64_in _ (by omega)
  repeat' (first | (with_reducible refine sxGuardB_tsp (fun h => ?_) (fun h => ?_)) | (with_reducible refine sxGuardB_fsp (fun h => ?_) (fun h => ?_)) | (with_reducible refine sxIfB_sp (fun h => ?_) (fun h => ?_)) | simp only [↓sxC_skip, ↓sxC_draw, ↓sxC_region, ↓sxC_seq, ↓bxC_cond, ↓bxC_loop, ↓sxC_block, ↓sxC_exit, ↓sxC_goto, ↓sxC_ret, ↓sxOps_nil, ↓sxOps_cons, ↓sxDraw_nil, ↓bxDraw_cons, ↓sxD_same, ↓sxStep_none, ↓bxStep_some, ↓bxOp_move, ↓bxOp_assign, ↓bxOp_pick, ↓bxOp_alloc, ↓bxOp_box, ↓bxOp_build, ↓bxOp_buildSlice, ↓bxOp_load, ↓bxOp_store, ↓bxOp_nilCheck, ↓bxOp_bin, ↓bxOp_un, ↓bxOp_makeI, ↓bxOp_makeFunc, ↓bxOp_makeSlice, ↓bxOp_slice, ↓bxOp_fieldAddr, ↓bxOp_field, ↓bxOp_indexAddr, ↓bxOp_index, ↓bxOp_assert, ↓bxOp_extract, ↓bxOp_value, ↓bxOp_len, ↓bxOp_cap, ↓bxOp_append, ↓bxOp_copy, ↓bxOp_max, ↓bxOp_min, ↓bxOp_convert, ↓sxPut_none, ↓bxPut, ↓seqQ_normal, ↓seqQ_exit, ↓seqQ_ret, ↓seqQ_goto, ↓blockQ_normal, ↓blockQ_ret, ↓blockQ_goto, ↓blockQ_exit, ↓loopQ_normal, ↓loopQ_exit, ↓loopQ_ret, ↓loopQ_goto, ↓resQ_normal, ↓resQ_ret, ↓sxRes_nil, ↓sxRes_tmp, ↓bxRes_cell, ↓upd_apply, ↓ev_tmp, ↓ev_const, ↓ev_global, ↓ev_func, ↓dstAt, ↓gval_some, sxOptB_some, sxOptB_ite, mm_max, mm_min, bin_shl, bin_shr, bin_int, intBin, una_not_dec, una_nt, una_nf, una_neg, aPick_true, aPick_false, sxCallVB_fn, sxCallVB_yield, sxGuardB_u, sxGuardB_tt, sxGuardB_tf, sxGuardB_ft, sxGuardB_ff, sxIfB_t, sxIfB_f, packRes_one, packRes_two, List.map_cons, List.map_nil, List.nil_append, List.cons_append, List.append_nil, ↓reduceIte, Nat.reduceEqDiff, Nat.reduceLT, dec_T, dec_F, false_imp, true_and, and_true, true_implies, implies_true, false_and, and_false, true_or, or_true, false_or, or_false, and_self, or_self, read_relow, size_relow, low_relow, relow_relow, aLoad_relow, Nat.add_zero, Nat.mul_one, one1, Option.bind_some, ne_eq, Int.natCast_nonneg, Int.toNat_natCast, not_true_eq_false, not_false_eq_true, Option.map_some, Option.map_none, *, argF, List.getD_cons_zero, List.getD_cons_succ])

theorem isNode_runs (k : Int) (v : Value) (d : List Nd) (r o : Nat) (n : Nd) (cs : List Value) (H : Heap) (hL : H.low ≤ H.size) (hd : SlE nodeE H v d r o) (hn : nodeE.At H n cs) :
    ∃ H', Keep H H' ∧ Runs Tryd.prog S (.fn 51) [.int .i64 k, v, .agg ⟨cs⟩] H (.bool (decide (NodeOk k d n))) H' := by
  suffices h : WCall Tryd.prog S (.fn 51) [.int .i64 k, v, .agg ⟨cs⟩] H (fun v H' => v = .bool (decide (NodeOk k d n)) ∧ Keep H H') by
    obtain ⟨_, H', hr, rfl, hk⟩ := h; exact ⟨H', hk, hr⟩
  refine call_of Tryd.func51 rfl (Nat.le_of_ble_eq_true rfl) (hS.no rfl _ _) ?_
  rw [Tryd.ntmps51, Tryd.results51]
  obtain ⟨a, cap, rfl⟩ := hd.v0
  obtain ⟨v1, r1, o1, v2, r2, o2, rfl, h1, h2⟩ := nodeE_inv hn
  obtain ⟨a1, cap1, rfl⟩ := h1.v0
  obtain ⟨a2, cap2, rfl⟩ := h2.v0
  have hc : (Value.agg ⟨[.int .i64 n.mark, .slice a1 n.cuts.length cap1, .slice a2 n.to.length cap2]⟩).cells.toList = [.int .i64 n.mark, .slice a1 n.cuts.length cap1, .slice a2 n.to.length cap2] := rfl
  have hK1 := Keep.newExact H [.int .i64 n.mark, .slice a1 n.cuts.length cap1, .slice a2 n.to.length cap2] 32
  have hs1 : H.size < (H.newExact [.int .i64 n.mark, .slice a1 n.cuts.length cap1, .slice a2 n.to.length cap2] 32).size := by rw [size_new]; omega
  have q0 : (H.newExact [.int .i64 n.mark, .slice a1 n.cuts.length cap1, .slice a2 n.to.length cap2] 32).read H.size 0 1 = some [.int .i64 n.mark] := by rw [read_new]; rfl
  have q1 : (H.newExact [.int .i64 n.mark, .slice a1 n.cuts.length cap1, .slice a2 n.to.length cap2] 32).read H.size 1 1 = some [.slice a1 n.cuts.length cap1] := by rw [read_new]; rfl
  have q2 : (H.newExact [.int .i64 n.mark, .slice a1 n.cuts.length cap1, .slice a2 n.to.length cap2] 32).read H.size 2 1 = some [.slice a2 n.to.length cap2] := by rw [read_new]; rfl
  generalize hH : H.newExact [.int .i64 n.mark, .slice a1 n.cuts.length cap1, .slice a2 n.to.length cap2] 32 = H1 at *
  have hcut := (isCuts_runs hS _ n.cuts r1 o1 H1 (h1.keep hK1)).bx
  have hat := (atCode_runs hS 99 (by omega) H1).bx
  have hi : ((n.to.length : Int) = (n.cuts.length : Int)) ↔ n.to.length = n.cuts.length := by omega
  repeat' (first | (with_reducible refine sxGuardB_tsp (fun h => ?_) (fun h => ?_)) | (with_reducible refine sxGuardB_fsp (fun h => ?_) (fun h => ?_)) | (with_reducible refine sxIfB_sp (fun h => ?_) (fun h => ?_)) | simp only [↓sxC_skip, ↓sxC_draw, ↓sxC_region, ↓sxC_seq, ↓bxC_cond, ↓bxC_loop, ↓sxC_block, ↓sxC_exit, ↓sxC_goto, ↓sxC_ret, ↓sxOps_nil, ↓sxOps_cons, ↓sxDraw_nil, ↓bxDraw_cons, ↓sxD_same, ↓sxStep_none, ↓bxStep_some, ↓bxOp_move, ↓bxOp_assign, ↓bxOp_pick, ↓bxOp_alloc, ↓bxOp_box, ↓bxOp_build, ↓bxOp_buildSlice, ↓bxOp_load, ↓bxOp_store, ↓bxOp_nilCheck, ↓bxOp_bin, ↓bxOp_un, ↓bxOp_makeI, ↓bxOp_makeFunc, ↓bxOp_makeSlice, ↓bxOp_slice, ↓bxOp_fieldAddr, ↓bxOp_field, ↓bxOp_indexAddr, ↓bxOp_index, ↓bxOp_assert, ↓bxOp_extract, ↓bxOp_value, ↓bxOp_len, ↓bxOp_cap, ↓bxOp_append, ↓bxOp_copy, ↓bxOp_max, ↓bxOp_min, ↓bxOp_convert, ↓sxPut_none, ↓bxPut, ↓seqQ_normal, ↓seqQ_exit, ↓seqQ_ret, ↓seqQ_goto, ↓blockQ_normal, ↓blockQ_ret, ↓blockQ_goto, ↓blockQ_exit, ↓loopQ_normal, ↓loopQ_exit, ↓loopQ_ret, ↓loopQ_goto, ↓resQ_normal, ↓resQ_ret, ↓sxRes_nil, ↓sxRes_tmp, ↓bxRes_cell, ↓upd_apply, ↓ev_tmp, ↓ev_const, ↓ev_global, ↓ev_func, ↓dstAt, ↓gval_some, sxOptB_some, sxOptB_ite, mm_max, mm_min, bin_shl, bin_shr, bin_int, intBin, una_not_dec, una_nt, una_nf, una_neg, aPick_true, aPick_false, sxCallVB_fn, sxCallVB_yield, sxGuardB_u, sxGuardB_tt, sxGuardB_tf, sxGuardB_ft, sxGuardB_ff, sxIfB_t, sxIfB_f, packRes_one, packRes_two, List.map_cons, List.map_nil, List.nil_append, List.cons_append, List.append_nil, ↓reduceIte, Nat.reduceEqDiff, Nat.reduceLT, dec_T, dec_F, false_imp, true_and, and_true, true_implies, implies_true, false_and, and_false, true_or, or_true, false_or, or_false, and_self, or_self, read_relow, size_relow, low_relow, relow_relow, aLoad_relow, Nat.add_zero, Nat.mul_one, one1, Option.bind_some, ne_eq, Int.natCast_nonneg, Int.toNat_natCast, not_true_eq_false, not_false_eq_true, Option.map_some, Option.map_none, *, argF, List.getD_cons_zero, List.getD_cons_succ, lenI, hc, faN0, faN1, faN2, ldI, ldIs, Nat.zero_add])
  all_goals first
    | exact bool_f fun (hc : NodeOk k d n) => by have := hc.1; have := hc.2.1; omega
    | exact bool_f fun (hc : NodeOk k d n) => absurd hc.2.2.1 ‹_›
    | exact bool_f fun (hc : NodeOk k d n) => absurd hc.2.2.2.1 ‹_›
    | skip
  have hm : 0 ≤ n.mark ∧ n.mark < k := by omega
  have hasc : Asc n.cuts := Decidable.not_not.1 ‹¬ ¬ Asc n.cuts›
  have hll : n.to.length ≤ n.cuts.length ∧ n.cuts.length ≤ n.to.length := by
    have := Decidable.not_not.1 ‹¬ ¬ n.to.length = n.cuts.length›
    omega
  have hL1 : H1.low ≤ H1.size := hK1.low hL
  have h2' := h2.keep hK1
  have hd' := hd.keep hK1
  have hat := fun H => (atCode_runs hS 99 (by omega) H).bx
  rename_i u1 u2 u3 u4
  clear hcut hi u1 u2 u3 u4
  refine sxL_of (fun m ρ H2 => ∃ j : Nat, m = n.to.length - j ∧ j ≤ n.to.length ∧ H2 = H1 ∧ (∀ i, i < j → ToOk d n (n.to.getD i 0)) ∧ ρ 1 = .slice a d.length cap ∧ ρ 5 = .pointer (some ⟨H.size, 0, none⟩) ∧
    ρ 34 = .slice a2 n.to.length cap2 ∧ ρ 35 = .int .i64 n.to.length ∧ ρ 36 = .int .i64 j)
    ⟨0, rfl, Nat.zero_le _, rfl, fun j hj => absurd hj (Nat.not_lt_zero j), rfl, rfl, rfl, rfl, rfl⟩ ?_
  rintro m ρ H2 ⟨j, rfl, hj, rfl, hall, e1, e5, e34, e35, e36⟩
  by_cases hlt : j < n.to.length
  · have hix := SlI_ix h2' hlt
    have hrd := (h2'.rdI hlt).1
    have hw := wrap_succ hlt h2'.ml
    have hlt' : (j : Int) < (n.to.length : Int) := by omega
    have hmem : n.to.getD j 0 ∈ n.to := getD_mem hlt
    have hdone : ¬ ToOk d n (n.to.getD j 0) → Value.bool false = .bool (decide (NodeOk k d n)) := fun h => bool_f fun hc => h (hc.2.2.2.2 _ hmem)
    have hgo : ToOk d n (n.to.getD j 0) → ∀ i, i < j + 1 → ToOk d n (n.to.getD i 0) := fun h i hi => by
      rcases Nat.lt_or_ge i j with h1 | h1
      · exact hall i h1
      · rw [show i = j by omega]; exact h
    generalize n.to.getD j 0 = t at *
    by_cases ht : 0 ≤ t ∧ t < d.length
    · have hix2 := SlN_ix hd' ht.1 ht.2
      obtain ⟨_, _, _, _, _, _, _, hrd2, _⟩ := SlN_rd hd' (i := t.toNat) (by omega)
      clear hd hd' h1 h2 h2' hn
      repeat' (first | (with_reducible refine sxGuardB_tsp (fun h => ?_) (fun h => ?_)) | (with_reducible refine sxGuardB_fsp (fun h => ?_) (fun h => ?_)) | (with_reducible refine sxIfB_sp (fun h => ?_) (fun h => ?_)) | simp only [↓sxC_skip, ↓sxC_draw, ↓sxC_region, ↓sxC_seq, ↓bxC_cond, ↓bxC_loop, ↓sxC_block, ↓sxC_exit, ↓sxC_goto, ↓sxC_ret, ↓sxOps_nil, ↓sxOps_cons, ↓sxDraw_nil, ↓bxDraw_cons, ↓sxD_same, ↓sxStep_none, ↓bxStep_some, ↓bxOp_move, ↓bxOp_assign, ↓bxOp_pick, ↓bxOp_alloc, ↓bxOp_box, ↓bxOp_build, ↓bxOp_buildSlice, ↓bxOp_load, ↓bxOp_store, ↓bxOp_nilCheck, ↓bxOp_bin, ↓bxOp_un, ↓bxOp_makeI, ↓bxOp_makeFunc, ↓bxOp_makeSlice, ↓bxOp_slice, ↓bxOp_fieldAddr, ↓bxOp_field, ↓bxOp_indexAddr, ↓bxOp_index, ↓bxOp_assert, ↓bxOp_extract, ↓bxOp_value, ↓bxOp_len, ↓bxOp_cap, ↓bxOp_append, ↓bxOp_copy, ↓bxOp_max, ↓bxOp_min, ↓bxOp_convert, ↓sxPut_none, ↓bxPut, ↓seqQ_normal, ↓seqQ_exit, ↓seqQ_ret, ↓seqQ_goto, ↓blockQ_normal, ↓blockQ_ret, ↓blockQ_goto, ↓blockQ_exit, ↓loopQ_normal, ↓loopQ_exit, ↓loopQ_ret, ↓loopQ_goto, ↓resQ_normal, ↓resQ_ret, ↓sxRes_nil, ↓sxRes_tmp, ↓bxRes_cell, ↓upd_apply, ↓ev_tmp, ↓ev_const, ↓ev_global, ↓ev_func, ↓dstAt, ↓gval_some, sxOptB_some, sxOptB_ite, mm_max, mm_min, bin_shl, bin_shr, bin_int, intBin, una_not_dec, una_nt, una_nf, una_neg, aPick_true, aPick_false, sxCallVB_fn, sxCallVB_yield, sxGuardB_u, sxGuardB_tt, sxGuardB_tf, sxGuardB_ft, sxGuardB_ff, sxIfB_t, sxIfB_f, packRes_one, packRes_two, List.map_cons, List.map_nil, List.nil_append, List.cons_append, List.append_nil, ↓reduceIte, Nat.reduceEqDiff, Nat.reduceLT, dec_T, dec_F, false_imp, true_and, and_true, true_implies, implies_true, false_and, and_false, true_or, or_true, false_or, or_false, and_self, or_self, read_relow, size_relow, low_relow, relow_relow, aLoad_relow, Nat.add_zero, Nat.mul_one, one1, Option.bind_some, ne_eq, Int.natCast_nonneg, Int.toNat_natCast, not_true_eq_false, not_false_eq_true, Option.map_some, Option.map_none, *, lenI, ldI, lenN, faN0, Nat.zero_add])
      all_goals first
        | exact hdone fun hc => by have := hc.1; have := hc.2 ht.1; omega
        | exact ⟨_, by omega, j + 1, rfl, by omega, hgo ⟨by omega, fun _ => by omega⟩, rfl⟩
    · clear hd hd' h1 h2 h2' hn
      repeat' (first | (with_reducible refine sxGuardB_tsp (fun h => ?_) (fun h => ?_)) | (with_reducible refine sxGuardB_fsp (fun h => ?_) (fun h => ?_)) | (with_reducible refine sxIfB_sp (fun h => ?_) (fun h => ?_)) | simp only [↓sxC_skip, ↓sxC_draw, ↓sxC_region, ↓sxC_seq, ↓bxC_cond, ↓bxC_loop, ↓sxC_block, ↓sxC_exit, ↓sxC_goto, ↓sxC_ret, ↓sxOps_nil, ↓sxOps_cons, ↓sxDraw_nil, ↓bxDraw_cons, ↓sxD_same, ↓sxStep_none, ↓bxStep_some, ↓bxOp_move, ↓bxOp_assign, ↓bxOp_pick, ↓bxOp_alloc, ↓bxOp_box, ↓bxOp_build, ↓bxOp_buildSlice, ↓bxOp_load, ↓bxOp_store, ↓bxOp_nilCheck, ↓bxOp_bin, ↓bxOp_un, ↓bxOp_makeI, ↓bxOp_makeFunc, ↓bxOp_makeSlice, ↓bxOp_slice, ↓bxOp_fieldAddr, ↓bxOp_field, ↓bxOp_indexAddr, ↓bxOp_index, ↓bxOp_assert, ↓bxOp_extract, ↓bxOp_value, ↓bxOp_len, ↓bxOp_cap, ↓bxOp_append, ↓bxOp_copy, ↓bxOp_max, ↓bxOp_min, ↓bxOp_convert, ↓sxPut_none, ↓bxPut, ↓seqQ_normal, ↓seqQ_exit, ↓seqQ_ret, ↓seqQ_goto, ↓blockQ_normal, ↓blockQ_ret, ↓blockQ_goto, ↓blockQ_exit, ↓loopQ_normal, ↓loopQ_exit, ↓loopQ_ret, ↓loopQ_goto, ↓resQ_normal, ↓resQ_ret, ↓sxRes_nil, ↓sxRes_tmp, ↓bxRes_cell, ↓upd_apply, ↓ev_tmp, ↓ev_const, ↓ev_global, ↓ev_func, ↓dstAt, ↓gval_some, sxOptB_some, sxOptB_ite, mm_max, mm_min, bin_shl, bin_shr, bin_int, intBin, una_not_dec, una_nt, una_nf, una_neg, aPick_true, aPick_false, sxCallVB_fn, sxCallVB_yield, sxGuardB_u, sxGuardB_tt, sxGuardB_tf, sxGuardB_ft, sxGuardB_ff, sxIfB_t, sxIfB_f, packRes_one, packRes_two, List.map_cons, List.map_nil, List.nil_append, List.cons_append, List.append_nil, ↓reduceIte, Nat.reduceEqDiff, Nat.reduceLT, dec_T, dec_F, false_imp, true_and, and_true, true_implies, implies_true, false_and, and_false, true_or, or_true, false_or, or_false, and_self, or_self, read_relow, size_relow, low_relow, relow_relow, aLoad_relow, Nat.add_zero, Nat.mul_one, one1, Option.bind_some, ne_eq, Int.natCast_nonneg, Int.toNat_natCast, not_true_eq_false, not_false_eq_true, Option.map_some, Option.map_none, *, lenI, ldI, lenN, faN0, Nat.zero_add])
      all_goals first
        | (exfalso; omega)
        | exact hdone fun hc => by have := hc.1; have := hc.2; omega
        | exact ⟨_, by omega, j + 1, rfl, by omega, hgo ⟨by omega, fun _ => by omega⟩, rfl⟩
  · have hlt' : ¬ (j : Int) < (n.to.length : Int) := by omega
    obtain rfl : j = n.to.length := by omega
    clear hd hd' h1 h2 h2' hn
    repeat' (first | (with_reducible refine sxGuardB_tsp (fun h => ?_) (fun h => ?_)) | (with_reducible refine sxGuardB_fsp (fun h => ?_) (fun h => ?_)) | (with_reducible refine sxIfB_sp (fun h => ?_) (fun h => ?_)) | simp only [↓sxC_skip, ↓sxC_draw, ↓sxC_region, ↓sxC_seq, ↓bxC_cond, ↓bxC_loop, ↓sxC_block, ↓sxC_exit, ↓sxC_goto, ↓sxC_ret, ↓sxOps_nil, ↓sxOps_cons, ↓sxDraw_nil, ↓bxDraw_cons, ↓sxD_same, ↓sxStep_none, ↓bxStep_some, ↓bxOp_move, ↓bxOp_assign, ↓bxOp_pick, ↓bxOp_alloc, ↓bxOp_box, ↓bxOp_build, ↓bxOp_buildSlice, ↓bxOp_load, ↓bxOp_store, ↓bxOp_nilCheck, ↓bxOp_bin, ↓bxOp_un, ↓bxOp_makeI, ↓bxOp_makeFunc, ↓bxOp_makeSlice, ↓bxOp_slice, ↓bxOp_fieldAddr, ↓bxOp_field, ↓bxOp_indexAddr, ↓bxOp_index, ↓bxOp_assert, ↓bxOp_extract, ↓bxOp_value, ↓bxOp_len, ↓bxOp_cap, ↓bxOp_append, ↓bxOp_copy, ↓bxOp_max, ↓bxOp_min, ↓bxOp_convert, ↓sxPut_none, ↓bxPut, ↓seqQ_normal, ↓seqQ_exit, ↓seqQ_ret, ↓seqQ_goto, ↓blockQ_normal, ↓blockQ_ret, ↓blockQ_goto, ↓blockQ_exit, ↓loopQ_normal, ↓loopQ_exit, ↓loopQ_ret, ↓loopQ_goto, ↓resQ_normal, ↓resQ_ret, ↓sxRes_nil, ↓sxRes_tmp, ↓bxRes_cell, ↓upd_apply, ↓ev_tmp, ↓ev_const, ↓ev_global, ↓ev_func, ↓dstAt, ↓gval_some, sxOptB_some, sxOptB_ite, mm_max, mm_min, bin_shl, bin_shr, bin_int, intBin, una_not_dec, una_nt, una_nf, una_neg, aPick_true, aPick_false, sxCallVB_fn, sxCallVB_yield, sxGuardB_u, sxGuardB_tt, sxGuardB_tf, sxGuardB_ft, sxGuardB_ff, sxIfB_t, sxIfB_f, packRes_one, packRes_two, List.map_cons, List.map_nil, List.nil_append, List.cons_append, List.append_nil, ↓reduceIte, Nat.reduceEqDiff, Nat.reduceLT, dec_T, dec_F, false_imp, true_and, and_true, true_implies, implies_true, false_and, and_false, true_or, or_true, false_or, or_false, and_self, or_self, read_relow, size_relow, low_relow, relow_relow, aLoad_relow, Nat.add_zero, Nat.mul_one, one1, Option.bind_some, ne_eq, Int.natCast_nonneg, Int.toNat_natCast, not_true_eq_false, not_false_eq_true, Option.map_some, Option.map_none, *, lenI, ldI])
    exact bool_t (show NodeOk k d n from ⟨hm.1, hm.2, hasc, by omega, all_of hall⟩)

end Go.Proofs.YtmllfacipbpkfaaDoor
