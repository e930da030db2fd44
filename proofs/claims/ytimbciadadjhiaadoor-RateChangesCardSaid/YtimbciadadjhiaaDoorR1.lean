/- The functions of package rate that check offers, on the canonical machine: what each comes to, for all arguments. -/
import Derived.Test.YtimbciadadjhiaaDoorProg
import Derived.KernelRfl
import Derived.Test.YtimbciadadjhiaaDoorSx7
set_option linter.unusedVariables false
set_option linter.unusedSimpArgs false
set_option linter.unusedSectionVars false
namespace Go.Proofs.YtimbciadadjhiaaDoor
open Go Go.AM
set_option maxRecDepth 10000
set_option linter.unusedSimpArgs false

/-! The words of the program. -/
theorem ld3 (H : Heap) (r o : Nat) : aLoad Tryd.prog H 3 (.pointer (some ⟨r, o, none⟩)) = (H.read r o 1).bind one1 := by kernel_rfl
theorem ld39 (H : Heap) (r o : Nat) : aLoad Tryd.prog H 39 (.pointer (some ⟨r, o, none⟩)) = (H.read r o 4).map fun l => .agg ⟨l⟩ := by kernel_rfl
theorem fa39_0 (r o : Nat) : aFieldAt Tryd.prog 39 0 (.pointer (some ⟨r, o, none⟩)) = some (.pointer (some ⟨r, o + 0, none⟩)) := by kernel_rfl
theorem fa39_1 (r o : Nat) : aFieldAt Tryd.prog 39 1 (.pointer (some ⟨r, o, none⟩)) = some (.pointer (some ⟨r, o + 1, none⟩)) := by kernel_rfl
theorem fa39_2 (r o : Nat) : aFieldAt Tryd.prog 39 2 (.pointer (some ⟨r, o, none⟩)) = some (.pointer (some ⟨r, o + 2, none⟩)) := by kernel_rfl
theorem fa39_3 (r o : Nat) : aFieldAt Tryd.prog 39 3 (.pointer (some ⟨r, o, none⟩)) = some (.pointer (some ⟨r, o + 3, none⟩)) := by kernel_rfl
theorem len22 (a : Option Addr) (n c : Nat) : aLen Tryd.prog #[22] (.slice a n c) = some (.int .i64 n) := by kernel_rfl
theorem len23 (a : Option Addr) (n c : Nat) : aLen Tryd.prog #[23] (.slice a n c) = some (.int .i64 n) := by kernel_rfl

theorem getD_mem {α : Type} [Inhabited α] {l : List α} {k : Nat} (h : k < l.length) : l.getD k default ∈ l := by
  rw [List.getD_eq_getElem?_getD, List.getElem?_eq_getElem h]; exact List.getElem_mem h
theorem all_of {α : Type} [Inhabited α] {l : List α} {p : α → Prop} (h : ∀ j, j < l.length → p (l.getD j default)) : ∀ x ∈ l, p x := fun x hx => by
  obtain ⟨j, hj, rfl⟩ := List.getElem_of_mem hx
  have := h j hj
  rwa [List.getD_eq_getElem?_getD, List.getElem?_eq_getElem hj] at this
theorem bool_f {p : Prop} [Decidable p] (h : ¬ p) : Value.bool false = .bool (decide p) := by rw [decide_eq_false h]
theorem bool_t {p : Prop} [Decidable p] (h : p) : Value.bool true = .bool (decide p) := by rw [decide_eq_true h]
theorem bool_d {p q : Prop} [Decidable p] [Decidable q] (h : q ↔ p) : Value.bool (decide q) = .bool (decide p) := by rw [decide_eq_decide.2 h]

structure Off where
  f : Int
  t : Int
  n : Int
  d : Int
instance : Inhabited Off := ⟨⟨0, 0, 0, 0⟩⟩

def IsOff (n : Int) (o : Off) : Prop := (0 ≤ o.f ∧ o.f < n) ∧ (0 ≤ o.t ∧ o.t < n) ∧ o.f ≠ o.t ∧ 1 ≤ o.n ∧ o.n ≤ 50 ∧ 1 ≤ o.d ∧ o.d ≤ 50
instance (n : Int) (o : Off) : Decidable (IsOff n o) := by unfold IsOff; infer_instance
def Off.cells (o : Off) : List Value := [.int .i64 o.f, .int .i64 o.t, .int .i64 o.n, .int .i64 o.d]

/-- The offers of a list. -/
def offs (l : List Off) (j : Nat) : Value := (l.getD (j / 4) default).cells.getD (j % 4) undef
abbrev SlO (H : Heap) (v : Value) (l : List Off) (r o : Nat) : Prop := Sl Tryd.prog 22 4 H v l.length r o (offs l)
def ints (w : List Int) (j : Nat) : Value := .int .i64 (w.getD j 0)
abbrev SlI (H : Heap) (v : Value) (w : List Int) (r o : Nat) : Prop := Sl Tryd.prog 23 1 H v w.length r o (ints w)

theorem SlO.fld {H : Heap} {v : Value} {l : List Off} {r o : Nat} (h : SlO H v l r o) {i : Int} (h0 : 0 ≤ i) (h1 : i < (l.length : Int)) :
    H.read r (o + i.toNat * 4) 1 = some [.int .i64 (l.getD i.toNat default).f] ∧ H.read r (o + i.toNat * 4 + 1) 1 = some [.int .i64 (l.getD i.toNat default).t] ∧
    H.read r (o + i.toNat * 4 + 2) 1 = some [.int .i64 (l.getD i.toNat default).n] ∧ H.read r (o + i.toNat * 4 + 3) 1 = some [.int .i64 (l.getD i.toNat default).d] ∧
    H.read r (o + i.toNat * 4) 4 = some (l.getD i.toNat default).cells := by
  have key : ∀ k, k < 4 → H.read r (o + i.toNat * 4 + k) 1 = some [(l.getD i.toNat default).cells.getD k undef] := fun k hk => by
    have := h.rd (i.toNat * 4 + k) (by omega)
    rw [← Nat.add_assoc] at this
    rw [this]
    unfold offs
    rw [show (i.toNat * 4 + k) / 4 = i.toNat by omega, show (i.toNat * 4 + k) % 4 = k by omega]
  refine ⟨key 0 (by omega), key 1 (by omega), key 2 (by omega), key 3 (by omega), ?_⟩
  exact read_some (n := 4) (c := fun k => (l.getD i.toNat default).cells.getD k undef) (by omega) key

theorem SlI.at {H : Heap} {v : Value} {w : List Int} {r o : Nat} (h : SlI H v w r o) {i : Int} (h0 : 0 ≤ i) (h1 : i < (w.length : Int)) :
    H.read r (o + i.toNat) 1 = some [.int .i64 (w.getD i.toNat 0)] := h.rd i.toNat (by omega)

variable {S : AM.Sys} (hS : Only S 5)
include hS

theorem isCurrency (n c : Int) (H : Heap) : Runs Tryd.prog S (.fn 22) [.int .i64 n, .int .i64 c] H (.bool (decide (0 ≤ c ∧ c < n))) H := by
  suffices h : WCall Tryd.prog S (.fn 22) [.int .i64 n, .int .i64 c] H (fun v H' => v = .bool (decide (0 ≤ c ∧ c < n)) ∧ H' = H) by
    obtain ⟨_, _, hr, rfl, rfl⟩ := h; exact hr
  refine call_of Tryd.func22 rfl (Nat.le_of_ble_eq_true rfl) (hS.no rfl _ _) ?_
  rw [Tryd.ntmps22, Tryd.results22]
  repeat' (first | (with_reducible refine sxGuardB_tsp (fun h => ?_) (fun h => ?_)) | (with_reducible refine sxGuardB_fsp (fun h => ?_) (fun h => ?_)) | (with_reducible refine sxIfB_sp (fun h => ?_) (fun h => ?_)) | simp only [↓sxC_skip, ↓sxC_draw, ↓sxC_region, ↓sxC_seq, ↓bxC_cond, ↓bxC_loop, ↓sxC_block, ↓sxC_exit, ↓sxC_goto, ↓sxC_ret, ↓sxOps_nil, ↓sxOps_cons, ↓sxDraw_nil, ↓bxDraw_cons, ↓sxD_same, ↓sxStep_none, ↓bxStep_some, ↓bxOp_move, ↓bxOp_assign, ↓bxOp_pick, ↓bxOp_alloc, ↓bxOp_box, ↓bxOp_build, ↓bxOp_buildSlice, ↓bxOp_load, ↓bxOp_store, ↓bxOp_nilCheck, ↓bxOp_bin, ↓bxOp_un, ↓bxOp_makeI, ↓bxOp_makeFunc, ↓bxOp_makeSlice, ↓bxOp_slice, ↓bxOp_fieldAddr, ↓bxOp_field, ↓bxOp_indexAddr, ↓bxOp_index, ↓bxOp_assert, ↓bxOp_extract, ↓bxOp_value, ↓bxOp_len, ↓bxOp_cap, ↓bxOp_append, ↓bxOp_copy, ↓sxPut_none, ↓bxPut, ↓seqQ_normal, ↓seqQ_exit, ↓seqQ_ret, ↓seqQ_goto, ↓blockQ_normal, ↓blockQ_ret, ↓blockQ_goto, ↓blockQ_exit, ↓loopQ_normal, ↓loopQ_exit, ↓loopQ_ret, ↓loopQ_goto, ↓resQ_normal, ↓resQ_ret, ↓sxRes_nil, ↓sxRes_tmp, ↓bxRes_cell, ↓upd_apply, ↓ev_tmp, ↓ev_const, ↓ev_global, ↓ev_func, ↓dstAt, ↓gval_some, sxOptB_some, sxOptB_ite, bin_int, intBin, una_not_dec, una_nt, una_nf, una_neg, aPick_true, aPick_false, sxCallVB_fn, sxCallVB_yield, sxGuardB_u, sxGuardB_tt, sxGuardB_tf, sxGuardB_ft, sxGuardB_ff, sxIfB_t, sxIfB_f, packRes_one, packRes_two, List.map_cons, List.map_nil, List.nil_append, List.cons_append, List.append_nil, ↓reduceIte, Nat.reduceEqDiff, Nat.reduceLT, dec_T, dec_F, false_imp, true_and, and_true, true_implies, implies_true, false_and, and_false, true_or, or_true, false_or, or_false, and_self, or_self, read_relow, size_relow, low_relow, relow_relow, aLoad_relow, Nat.add_zero, Nat.mul_one, one1, Option.bind_some, ne_eq, Int.natCast_nonneg, Int.toNat_natCast, not_true_eq_false, not_false_eq_true, Option.map_some, Option.map_none, *, argF, List.getD_cons_zero, List.getD_cons_succ])

theorem isOffer (n : Int) (o : Off) (H : Heap) : Runs Tryd.prog S (.fn 29) [.int .i64 n, .agg ⟨o.cells⟩] H (.bool (decide (IsOff n o))) (H.newExact o.cells 39) := by
  suffices h : WCall Tryd.prog S (.fn 29) [.int .i64 n, .agg ⟨o.cells⟩] H (fun v H' => v = .bool (decide (IsOff n o)) ∧ H' = H.newExact o.cells 39) by
    obtain ⟨_, _, hr, rfl, rfl⟩ := h; exact hr
  refine call_of Tryd.func29 rfl (Nat.le_of_ble_eq_true rfl) (hS.no rfl _ _) ?_
  rw [Tryd.ntmps29, Tryd.results29]
  have hc : (Value.agg ⟨o.cells⟩).cells.toList = o.cells := rfl
  have h0 : (H.newExact o.cells 39).read H.size 0 1 = some [.int .i64 o.f] := by rw [read_new]; rfl
  have h1 : (H.newExact o.cells 39).read H.size 1 1 = some [.int .i64 o.t] := by rw [read_new]; rfl
  have h2 : (H.newExact o.cells 39).read H.size 2 1 = some [.int .i64 o.n] := by rw [read_new]; rfl
  have h3 : (H.newExact o.cells 39).read H.size 3 1 = some [.int .i64 o.d] := by rw [read_new]; rfl
  have hcur := fun c => (isCurrency hS n c (H.newExact o.cells 39)).bx
  repeat' (first | (with_reducible refine sxGuardB_tsp (fun h => ?_) (fun h => ?_)) | (with_reducible refine sxGuardB_fsp (fun h => ?_) (fun h => ?_)) | (with_reducible refine sxIfB_sp (fun h => ?_) (fun h => ?_)) | simp only [↓sxC_skip, ↓sxC_draw, ↓sxC_region, ↓sxC_seq, ↓bxC_cond, ↓bxC_loop, ↓sxC_block, ↓sxC_exit, ↓sxC_goto, ↓sxC_ret, ↓sxOps_nil, ↓sxOps_cons, ↓sxDraw_nil, ↓bxDraw_cons, ↓sxD_same, ↓sxStep_none, ↓bxStep_some, ↓bxOp_move, ↓bxOp_assign, ↓bxOp_pick, ↓bxOp_alloc, ↓bxOp_box, ↓bxOp_build, ↓bxOp_buildSlice, ↓bxOp_load, ↓bxOp_store, ↓bxOp_nilCheck, ↓bxOp_bin, ↓bxOp_un, ↓bxOp_makeI, ↓bxOp_makeFunc, ↓bxOp_makeSlice, ↓bxOp_slice, ↓bxOp_fieldAddr, ↓bxOp_field, ↓bxOp_indexAddr, ↓bxOp_index, ↓bxOp_assert, ↓bxOp_extract, ↓bxOp_value, ↓bxOp_len, ↓bxOp_cap, ↓bxOp_append, ↓bxOp_copy, ↓sxPut_none, ↓bxPut, ↓seqQ_normal, ↓seqQ_exit, ↓seqQ_ret, ↓seqQ_goto, ↓blockQ_normal, ↓blockQ_ret, ↓blockQ_goto, ↓blockQ_exit, ↓loopQ_normal, ↓loopQ_exit, ↓loopQ_ret, ↓loopQ_goto, ↓resQ_normal, ↓resQ_ret, ↓sxRes_nil, ↓sxRes_tmp, ↓bxRes_cell, ↓upd_apply, ↓ev_tmp, ↓ev_const, ↓ev_global, ↓ev_func, ↓dstAt, ↓gval_some, sxOptB_some, sxOptB_ite, bin_int, intBin, una_not_dec, una_nt, una_nf, una_neg, aPick_true, aPick_false, sxCallVB_fn, sxCallVB_yield, sxGuardB_u, sxGuardB_tt, sxGuardB_tf, sxGuardB_ft, sxGuardB_ff, sxIfB_t, sxIfB_f, packRes_one, packRes_two, List.map_cons, List.map_nil, List.nil_append, List.cons_append, List.append_nil, ↓reduceIte, Nat.reduceEqDiff, Nat.reduceLT, dec_T, dec_F, false_imp, true_and, and_true, true_implies, implies_true, false_and, and_false, true_or, or_true, false_or, or_false, and_self, or_self, read_relow, size_relow, low_relow, relow_relow, aLoad_relow, Nat.add_zero, Nat.mul_one, one1, Option.bind_some, ne_eq, Int.natCast_nonneg, Int.toNat_natCast, not_true_eq_false, not_false_eq_true, Option.map_some, Option.map_none, *, argF, List.getD_cons_zero, List.getD_cons_succ, hc, fa39_0, fa39_1, fa39_2, fa39_3, ld3, h0, h1, h2, h3, hcur, Nat.zero_add])
  all_goals first
    | exact bool_f (by unfold IsOff; omega)
    | exact bool_t (by unfold IsOff; omega)
    | exact bool_d (by unfold IsOff; omega)

/-! The check of offers, as the program does it. -/
theorem checkOne (n : Int) (o : Off) (rn : Nat) (H : Heap) (hr : rn < H.size) (hn : H.read rn 0 1 = some [.int .i64 n]) :
    ∃ H', Keep H H' ∧ Runs Tryd.prog S (.fn 28) [.agg ⟨o.cells⟩, .pointer (some ⟨rn, 0, none⟩)] H (.bool (decide (¬ IsOff n o))) H' := by
  suffices h : WCall Tryd.prog S (.fn 28) [.agg ⟨o.cells⟩, .pointer (some ⟨rn, 0, none⟩)] H (fun v H' => v = .bool (decide (¬ IsOff n o)) ∧ Keep H H') by
    obtain ⟨_, H', hr, rfl, hk⟩ := h; exact ⟨H', hk, hr⟩
  refine call_of Tryd.func28 rfl (Nat.le_of_ble_eq_true rfl) (hS.no rfl _ _) ?_
  rw [Tryd.ntmps28, Tryd.results28]
  have hc : (Value.agg ⟨o.cells⟩).cells.toList = o.cells := rfl
  have h0 : (H.newExact o.cells 39).read rn 0 1 = some [.int .i64 n] := (Keep.newExact H o.cells 39).read hr hn
  have h1 : (H.newExact o.cells 39).read H.size 0 4 = some o.cells := by rw [read_new]; rfl
  have hof := (isOffer hS n o (H.newExact o.cells 39)).bx
  repeat' (first | (with_reducible refine sxGuardB_tsp (fun h => ?_) (fun h => ?_)) | (with_reducible refine sxGuardB_fsp (fun h => ?_) (fun h => ?_)) | (with_reducible refine sxIfB_sp (fun h => ?_) (fun h => ?_)) | simp only [↓sxC_skip, ↓sxC_draw, ↓sxC_region, ↓sxC_seq, ↓bxC_cond, ↓bxC_loop, ↓sxC_block, ↓sxC_exit, ↓sxC_goto, ↓sxC_ret, ↓sxOps_nil, ↓sxOps_cons, ↓sxDraw_nil, ↓bxDraw_cons, ↓sxD_same, ↓sxStep_none, ↓bxStep_some, ↓bxOp_move, ↓bxOp_assign, ↓bxOp_pick, ↓bxOp_alloc, ↓bxOp_box, ↓bxOp_build, ↓bxOp_buildSlice, ↓bxOp_load, ↓bxOp_store, ↓bxOp_nilCheck, ↓bxOp_bin, ↓bxOp_un, ↓bxOp_makeI, ↓bxOp_makeFunc, ↓bxOp_makeSlice, ↓bxOp_slice, ↓bxOp_fieldAddr, ↓bxOp_field, ↓bxOp_indexAddr, ↓bxOp_index, ↓bxOp_assert, ↓bxOp_extract, ↓bxOp_value, ↓bxOp_len, ↓bxOp_cap, ↓bxOp_append, ↓bxOp_copy, ↓sxPut_none, ↓bxPut, ↓seqQ_normal, ↓seqQ_exit, ↓seqQ_ret, ↓seqQ_goto, ↓blockQ_normal, ↓blockQ_ret, ↓blockQ_goto, ↓blockQ_exit, ↓loopQ_normal, ↓loopQ_exit, ↓loopQ_ret, ↓loopQ_goto, ↓resQ_normal, ↓resQ_ret, ↓sxRes_nil, ↓sxRes_tmp, ↓bxRes_cell, ↓upd_apply, ↓ev_tmp, ↓ev_const, ↓ev_global, ↓ev_func, ↓dstAt, ↓gval_some, sxOptB_some, sxOptB_ite, bin_int, intBin, una_not_dec, una_nt, una_nf, una_neg, aPick_true, aPick_false, sxCallVB_fn, sxCallVB_yield, sxGuardB_u, sxGuardB_tt, sxGuardB_tf, sxGuardB_ft, sxGuardB_ff, sxIfB_t, sxIfB_f, packRes_one, packRes_two, List.map_cons, List.map_nil, List.nil_append, List.cons_append, List.append_nil, ↓reduceIte, Nat.reduceEqDiff, Nat.reduceLT, dec_T, dec_F, false_imp, true_and, and_true, true_implies, implies_true, false_and, and_false, true_or, or_true, false_or, or_false, and_self, or_self, read_relow, size_relow, low_relow, relow_relow, aLoad_relow, Nat.add_zero, Nat.mul_one, one1, Option.bind_some, ne_eq, Int.natCast_nonneg, Int.toNat_natCast, not_true_eq_false, not_false_eq_true, Option.map_some, Option.map_none, *, argF, List.getD_cons_zero, List.getD_cons_succ, ld3, ld39])
  exact (Keep.newExact _ _ _).trans (Keep.newExact _ _ _)

omit hS in
/-- A count up within bounds. -/
theorem wrap_succ {k n : Nat} (hk : k < n) (hn : n ≤ 4611686018427387904) : IntKind.i64.wrap ((k : Int) + 1) = ((k + 1 : Nat) : Int) := by
  rw [IntWalk.i64_in _ (by omega)]; simp

theorem indexFunc (n : Int) (v : Value) (l : List Off) (r o : Nat) (rn : Nat) (H : Heap) (hl : SlO H v l r o) (hlen : l.length ≤ 4611686018427387904) (hr : rn < H.size) (hn : H.read rn 0 1 = some [.int .i64 n]) :
    ∃ H' k, Keep H H' ∧ Runs Tryd.prog S (.fn 39) [v, .func (.func 28) #[] #[.pointer (some ⟨rn, 0, none⟩)]] H (.int .i64 k) H' ∧ (0 ≤ k ↔ ¬ ∀ x ∈ l, IsOff n x) := by
  suffices h : WCall Tryd.prog S (.fn 39) [v, .func (.func 28) #[] #[.pointer (some ⟨rn, 0, none⟩)]] H (fun v H' => ∃ k, v = .int .i64 k ∧ Keep H H' ∧ (0 ≤ k ↔ ¬ ∀ x ∈ l, IsOff n x)) by
    obtain ⟨_, H', hr, k, rfl, hk, hi⟩ := h; exact ⟨H', k, hk, hr, hi⟩
  obtain ⟨a, cap, rfl⟩ := hl.isv
  refine call_of Tryd.func39 rfl (Nat.le_of_ble_eq_true rfl) (hS.no rfl _ _) ?_
  rw [Tryd.ntmps39, Tryd.results39]
  repeat' (first | (with_reducible refine sxGuardB_tsp (fun h => ?_) (fun h => ?_)) | (with_reducible refine sxGuardB_fsp (fun h => ?_) (fun h => ?_)) | (with_reducible refine sxIfB_sp (fun h => ?_) (fun h => ?_)) | simp only [↓sxC_skip, ↓sxC_draw, ↓sxC_region, ↓sxC_seq, ↓bxC_cond, ↓bxC_loop, ↓sxC_block, ↓sxC_exit, ↓sxC_goto, ↓sxC_ret, ↓sxOps_nil, ↓sxOps_cons, ↓sxDraw_nil, ↓bxDraw_cons, ↓sxD_same, ↓sxStep_none, ↓bxStep_some, ↓bxOp_move, ↓bxOp_assign, ↓bxOp_pick, ↓bxOp_alloc, ↓bxOp_box, ↓bxOp_build, ↓bxOp_buildSlice, ↓bxOp_load, ↓bxOp_store, ↓bxOp_nilCheck, ↓bxOp_bin, ↓bxOp_un, ↓bxOp_makeI, ↓bxOp_makeFunc, ↓bxOp_makeSlice, ↓bxOp_slice, ↓bxOp_fieldAddr, ↓bxOp_field, ↓bxOp_indexAddr, ↓bxOp_index, ↓bxOp_assert, ↓bxOp_extract, ↓bxOp_value, ↓bxOp_len, ↓bxOp_cap, ↓bxOp_append, ↓bxOp_copy, ↓sxPut_none, ↓bxPut, ↓seqQ_normal, ↓seqQ_exit, ↓seqQ_ret, ↓seqQ_goto, ↓blockQ_normal, ↓blockQ_ret, ↓blockQ_goto, ↓blockQ_exit, ↓loopQ_normal, ↓loopQ_exit, ↓loopQ_ret, ↓loopQ_goto, ↓resQ_normal, ↓resQ_ret, ↓sxRes_nil, ↓sxRes_tmp, ↓bxRes_cell, ↓upd_apply, ↓ev_tmp, ↓ev_const, ↓ev_global, ↓ev_func, ↓dstAt, ↓gval_some, sxOptB_some, sxOptB_ite, bin_int, intBin, una_not_dec, una_nt, una_nf, una_neg, aPick_true, aPick_false, sxCallVB_fn, sxCallVB_yield, sxGuardB_u, sxGuardB_tt, sxGuardB_tf, sxGuardB_ft, sxGuardB_ff, sxIfB_t, sxIfB_f, packRes_one, packRes_two, List.map_cons, List.map_nil, List.nil_append, List.cons_append, List.append_nil, ↓reduceIte, Nat.reduceEqDiff, Nat.reduceLT, dec_T, dec_F, false_imp, true_and, and_true, true_implies, implies_true, false_and, and_false, true_or, or_true, false_or, or_false, and_self, or_self, read_relow, size_relow, low_relow, relow_relow, aLoad_relow, Nat.add_zero, Nat.mul_one, one1, Option.bind_some, ne_eq, Int.natCast_nonneg, Int.toNat_natCast, not_true_eq_false, not_false_eq_true, Option.map_some, Option.map_none, *, argF, List.getD_cons_zero, List.getD_cons_succ, len22])
  refine sxL_of (fun m ρ H1 => ∃ k : Nat, m = l.length - k ∧ k ≤ l.length ∧ Keep H H1 ∧ (∀ j, j < k → IsOff n (l.getD j default)) ∧ ρ 0 = .slice a l.length cap ∧
    ρ 1 = .func (.func 28) #[] #[.pointer (some ⟨rn, 0, none⟩)] ∧ ρ 7 = .int .i64 l.length ∧ ρ 8 = .int .i64 k) ⟨0, rfl, Nat.zero_le _, Keep.refl _, fun j hj => absurd hj (Nat.not_lt_zero j), rfl, rfl, rfl, rfl⟩ ?_
  rintro m ρ H1 ⟨k, rfl, hk, hK, hall, e0, e1, e7, e8⟩
  have hl1 := hl.keep hK
  have hix : ((k : Nat) : Int) < (l.length : Int) → aIndexAt Tryd.prog 22 (.slice a l.length cap) (.int .i64 (k : Int)) = some (.pointer (some ⟨r, o + k * 4, none⟩)) := fun h => by
    have := hl1.ix .i64 (k : Int) (by omega) h; rwa [Int.toNat_natCast] at this
  have hrd : ((k : Nat) : Int) < (l.length : Int) → H1.read r (o + k * 4) 4 = some (l.getD k default).cells := fun h => by
    have := (SlO.fld hl1 (i := (k : Int)) (by omega) h).2.2.2.2; rwa [Int.toNat_natCast] at this
  have hw : ((k : Nat) : Int) < (l.length : Int) → IntKind.i64.wrap ((k : Int) + 1) = ((k + 1 : Nat) : Int) := fun h => wrap_succ (n := l.length) (by omega) hlen
  obtain ⟨H2, hK2, hr2⟩ := checkOne hS n (l.getD k default) rn H1 (Nat.lt_of_lt_of_le hr hK.size) (hK.read hr hn)
  have hb := hr2.bx
  clear hl1 hr2
  repeat' (first | (with_reducible refine sxGuardB_tsp (fun h => ?_) (fun h => ?_)) | (with_reducible refine sxGuardB_fsp (fun h => ?_) (fun h => ?_)) | (with_reducible refine sxIfB_sp (fun h => ?_) (fun h => ?_)) | simp only [↓sxC_skip, ↓sxC_draw, ↓sxC_region, ↓sxC_seq, ↓bxC_cond, ↓bxC_loop, ↓sxC_block, ↓sxC_exit, ↓sxC_goto, ↓sxC_ret, ↓sxOps_nil, ↓sxOps_cons, ↓sxDraw_nil, ↓bxDraw_cons, ↓sxD_same, ↓sxStep_none, ↓bxStep_some, ↓bxOp_move, ↓bxOp_assign, ↓bxOp_pick, ↓bxOp_alloc, ↓bxOp_box, ↓bxOp_build, ↓bxOp_buildSlice, ↓bxOp_load, ↓bxOp_store, ↓bxOp_nilCheck, ↓bxOp_bin, ↓bxOp_un, ↓bxOp_makeI, ↓bxOp_makeFunc, ↓bxOp_makeSlice, ↓bxOp_slice, ↓bxOp_fieldAddr, ↓bxOp_field, ↓bxOp_indexAddr, ↓bxOp_index, ↓bxOp_assert, ↓bxOp_extract, ↓bxOp_value, ↓bxOp_len, ↓bxOp_cap, ↓bxOp_append, ↓bxOp_copy, ↓sxPut_none, ↓bxPut, ↓seqQ_normal, ↓seqQ_exit, ↓seqQ_ret, ↓seqQ_goto, ↓blockQ_normal, ↓blockQ_ret, ↓blockQ_goto, ↓blockQ_exit, ↓loopQ_normal, ↓loopQ_exit, ↓loopQ_ret, ↓loopQ_goto, ↓resQ_normal, ↓resQ_ret, ↓sxRes_nil, ↓sxRes_tmp, ↓bxRes_cell, ↓upd_apply, ↓ev_tmp, ↓ev_const, ↓ev_global, ↓ev_func, ↓dstAt, ↓gval_some, sxOptB_some, sxOptB_ite, bin_int, intBin, una_not_dec, una_nt, una_nf, una_neg, aPick_true, aPick_false, sxCallVB_fn, sxCallVB_yield, sxGuardB_u, sxGuardB_tt, sxGuardB_tf, sxGuardB_ft, sxGuardB_ff, sxIfB_t, sxIfB_f, packRes_one, packRes_two, List.map_cons, List.map_nil, List.nil_append, List.cons_append, List.append_nil, ↓reduceIte, Nat.reduceEqDiff, Nat.reduceLT, dec_T, dec_F, false_imp, true_and, and_true, true_implies, implies_true, false_and, and_false, true_or, or_true, false_or, or_false, and_self, or_self, read_relow, size_relow, low_relow, relow_relow, aLoad_relow, Nat.add_zero, Nat.mul_one, one1, Option.bind_some, ne_eq, Int.natCast_nonneg, Int.toNat_natCast, not_true_eq_false, not_false_eq_true, Option.map_some, Option.map_none, *, len22, ld39])
  · have hlt : k < l.length := by omega
    exact ⟨k, rfl, hK.trans hK2, fun _ hA => absurd (hA _ (getD_mem hlt)) ‹¬ IsOff n (l.getD k default)›, fun _ => by omega⟩
  · have hlt : k < l.length := by omega
    exact ⟨_, by omega, k + 1, rfl, by omega, hK.trans hK2, fun j hj => by
      rcases Nat.lt_or_ge j k with h | h
      · exact hall j h
      · rw [show j = k by omega]; exact Decidable.not_not.1 ‹¬ ¬ IsOff n (l.getD k default)›, rfl⟩
  · have hke : k = l.length := by omega
    subst hke
    exact ⟨-1, rfl, fun h0 => by omega, fun hn => absurd (all_of hall) hn⟩

theorem containsFunc (n : Int) (v : Value) (l : List Off) (r o : Nat) (rn : Nat) (H : Heap) (hl : SlO H v l r o) (hlen : l.length ≤ 4611686018427387904) (hr : rn < H.size) (hn : H.read rn 0 1 = some [.int .i64 n]) :
    ∃ H', Keep H H' ∧ Runs Tryd.prog S (.fn 27) [v, .func (.func 28) #[] #[.pointer (some ⟨rn, 0, none⟩)]] H (.bool (decide (¬ ∀ x ∈ l, IsOff n x))) H' := by
  obtain ⟨H', k, hK, hR, hk⟩ := indexFunc hS n v l r o rn H hl hlen hr hn
  refine ⟨H', hK, ?_⟩
  suffices h : WCall Tryd.prog S (.fn 27) [v, .func (.func 28) #[] #[.pointer (some ⟨rn, 0, none⟩)]] H (fun v' H1 => v' = .bool (decide (¬ ∀ x ∈ l, IsOff n x)) ∧ H1 = H') by
    obtain ⟨_, _, hr, rfl, rfl⟩ := h; exact hr
  refine call_of Tryd.func27 rfl (Nat.le_of_ble_eq_true rfl) (hS.no rfl _ _) ?_
  rw [Tryd.ntmps27, Tryd.results27]
  have hb := hR.bx
  clear hR
  repeat' (first | (with_reducible refine sxGuardB_tsp (fun h => ?_) (fun h => ?_)) | (with_reducible refine sxGuardB_fsp (fun h => ?_) (fun h => ?_)) | (with_reducible refine sxIfB_sp (fun h => ?_) (fun h => ?_)) | simp only [↓sxC_skip, ↓sxC_draw, ↓sxC_region, ↓sxC_seq, ↓bxC_cond, ↓bxC_loop, ↓sxC_block, ↓sxC_exit, ↓sxC_goto, ↓sxC_ret, ↓sxOps_nil, ↓sxOps_cons, ↓sxDraw_nil, ↓bxDraw_cons, ↓sxD_same, ↓sxStep_none, ↓bxStep_some, ↓bxOp_move, ↓bxOp_assign, ↓bxOp_pick, ↓bxOp_alloc, ↓bxOp_box, ↓bxOp_build, ↓bxOp_buildSlice, ↓bxOp_load, ↓bxOp_store, ↓bxOp_nilCheck, ↓bxOp_bin, ↓bxOp_un, ↓bxOp_makeI, ↓bxOp_makeFunc, ↓bxOp_makeSlice, ↓bxOp_slice, ↓bxOp_fieldAddr, ↓bxOp_field, ↓bxOp_indexAddr, ↓bxOp_index, ↓bxOp_assert, ↓bxOp_extract, ↓bxOp_value, ↓bxOp_len, ↓bxOp_cap, ↓bxOp_append, ↓bxOp_copy, ↓sxPut_none, ↓bxPut, ↓seqQ_normal, ↓seqQ_exit, ↓seqQ_ret, ↓seqQ_goto, ↓blockQ_normal, ↓blockQ_ret, ↓blockQ_goto, ↓blockQ_exit, ↓loopQ_normal, ↓loopQ_exit, ↓loopQ_ret, ↓loopQ_goto, ↓resQ_normal, ↓resQ_ret, ↓sxRes_nil, ↓sxRes_tmp, ↓bxRes_cell, ↓upd_apply, ↓ev_tmp, ↓ev_const, ↓ev_global, ↓ev_func, ↓dstAt, ↓gval_some, sxOptB_some, sxOptB_ite, bin_int, intBin, una_not_dec, una_nt, una_nf, una_neg, aPick_true, aPick_false, sxCallVB_fn, sxCallVB_yield, sxGuardB_u, sxGuardB_tt, sxGuardB_tf, sxGuardB_ft, sxGuardB_ff, sxIfB_t, sxIfB_f, packRes_one, packRes_two, List.map_cons, List.map_nil, List.nil_append, List.cons_append, List.append_nil, ↓reduceIte, Nat.reduceEqDiff, Nat.reduceLT, dec_T, dec_F, false_imp, true_and, and_true, true_implies, implies_true, false_and, and_false, true_or, or_true, false_or, or_false, and_self, or_self, read_relow, size_relow, low_relow, relow_relow, aLoad_relow, Nat.add_zero, Nat.mul_one, one1, Option.bind_some, ne_eq, Int.natCast_nonneg, Int.toNat_natCast, not_true_eq_false, not_false_eq_true, Option.map_some, Option.map_none, *, argF, List.getD_cons_zero, List.getD_cons_succ])

/-- What 'check' and 'Good' say. -/
def chk (n : Int) (l : List Off) : Int := if n < 2 ∨ 6 < n then 2 else if 40 < l.length then 3 else if ∀ x ∈ l, IsOff n x then 0 else 2

theorem check_runs (n : Int) (v : Value) (l : List Off) (r o : Nat) (H : Heap) (hl : SlO H v l r o) (hlen : l.length ≤ 4611686018427387904) :
    ∃ H', Keep H H' ∧ Runs Tryd.prog S (.fn 13) [.int .i64 n, v] H (.int .i64 (chk n l)) H' := by
  suffices h : WCall Tryd.prog S (.fn 13) [.int .i64 n, v] H (fun v H' => v = .int .i64 (chk n l) ∧ Keep H H') by
    obtain ⟨_, H', hr, rfl, hk⟩ := h; exact ⟨H', hk, hr⟩
  obtain ⟨a, cap, rfl⟩ := hl.isv
  refine call_of Tryd.func13 rfl (Nat.le_of_ble_eq_true rfl) (hS.no rfl _ _) ?_
  rw [Tryd.ntmps13, Tryd.results13]
  have hc : (Value.int .i64 n).cells.toList = [.int .i64 n] := rfl
  have h0 : (H.newExact [.int .i64 n] 3).read H.size 0 1 = some [.int .i64 n] := by rw [read_new]; rfl
  obtain ⟨H2, hK2, hR2⟩ := containsFunc hS n _ l r o H.size (H.newExact [.int .i64 n] 3) (hl.keep (Keep.newExact _ _ _)) hlen (by rw [size_new]; omega) h0
  have hb := hR2.bx
  have hy : notYield (.func 28) = true := rfl
  clear hR2
  repeat' (first | (with_reducible refine sxGuardB_tsp (fun h => ?_) (fun h => ?_)) | (with_reducible refine sxGuardB_fsp (fun h => ?_) (fun h => ?_)) | (with_reducible refine sxIfB_sp (fun h => ?_) (fun h => ?_)) | simp only [↓sxC_skip, ↓sxC_draw, ↓sxC_region, ↓sxC_seq, ↓bxC_cond, ↓bxC_loop, ↓sxC_block, ↓sxC_exit, ↓sxC_goto, ↓sxC_ret, ↓sxOps_nil, ↓sxOps_cons, ↓sxDraw_nil, ↓bxDraw_cons, ↓sxD_same, ↓sxStep_none, ↓bxStep_some, ↓bxOp_move, ↓bxOp_assign, ↓bxOp_pick, ↓bxOp_alloc, ↓bxOp_box, ↓bxOp_build, ↓bxOp_buildSlice, ↓bxOp_load, ↓bxOp_store, ↓bxOp_nilCheck, ↓bxOp_bin, ↓bxOp_un, ↓bxOp_makeI, ↓bxOp_makeFunc, ↓bxOp_makeSlice, ↓bxOp_slice, ↓bxOp_fieldAddr, ↓bxOp_field, ↓bxOp_indexAddr, ↓bxOp_index, ↓bxOp_assert, ↓bxOp_extract, ↓bxOp_value, ↓bxOp_len, ↓bxOp_cap, ↓bxOp_append, ↓bxOp_copy, ↓sxPut_none, ↓bxPut, ↓seqQ_normal, ↓seqQ_exit, ↓seqQ_ret, ↓seqQ_goto, ↓blockQ_normal, ↓blockQ_ret, ↓blockQ_goto, ↓blockQ_exit, ↓loopQ_normal, ↓loopQ_exit, ↓loopQ_ret, ↓loopQ_goto, ↓resQ_normal, ↓resQ_ret, ↓sxRes_nil, ↓sxRes_tmp, ↓bxRes_cell, ↓upd_apply, ↓ev_tmp, ↓ev_const, ↓ev_global, ↓ev_func, ↓dstAt, ↓gval_some, sxOptB_some, sxOptB_ite, bin_int, intBin, una_not_dec, una_nt, una_nf, una_neg, aPick_true, aPick_false, sxCallVB_fn, sxCallVB_yield, sxGuardB_u, sxGuardB_tt, sxGuardB_tf, sxGuardB_ft, sxGuardB_ff, sxIfB_t, sxIfB_f, packRes_one, packRes_two, List.map_cons, List.map_nil, List.nil_append, List.cons_append, List.append_nil, ↓reduceIte, Nat.reduceEqDiff, Nat.reduceLT, dec_T, dec_F, false_imp, true_and, and_true, true_implies, implies_true, false_and, and_false, true_or, or_true, false_or, or_false, and_self, or_self, read_relow, size_relow, low_relow, relow_relow, aLoad_relow, Nat.add_zero, Nat.mul_one, one1, Option.bind_some, ne_eq, Int.natCast_nonneg, Int.toNat_natCast, not_true_eq_false, not_false_eq_true, Option.map_some, Option.map_none, *, argF, List.getD_cons_zero, List.getD_cons_succ, len22, ld3])
  all_goals refine ⟨congrArg (Value.int .i64) ?_, by first | exact Keep.newExact _ _ _ | exact (Keep.newExact _ _ _).trans hK2⟩
  all_goals first
    | (rw [chk, if_pos (by omega)]; done)
    | (rw [chk, if_neg (by omega), if_pos (by omega)]; done)
    | (rw [chk, if_neg (by omega), if_neg (by omega), if_neg ‹_›]; done)
    | (rw [chk, if_neg (by omega), if_neg (by omega), if_pos (Decidable.not_not.1 ‹_›)]; done)

end Go.Proofs.YtimbciadadjhiaaDoor
