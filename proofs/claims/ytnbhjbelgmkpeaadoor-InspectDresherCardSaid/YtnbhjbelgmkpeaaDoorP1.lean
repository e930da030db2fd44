/- Whole numbers and ratios of inspect, on the canonical machine. -/
import Derived.Test.YtnbhjbelgmkpeaaDoorD1
import Derived.Test.YtnbhjbelgmkpeaaDoorBG
set_option linter.unusedVariables false
set_option linter.unusedSimpArgs false
set_option linter.unusedSectionVars false

namespace Go.Proofs.YtnbhjbelgmkpeaaDoor
open Go Go.AM
set_option maxRecDepth 10000
set_option linter.unusedSimpArgs false

theorem faR0 (r o : Nat) : aFieldAt Tryd.prog 24 0 (.pointer (some ⟨r, o, none⟩)) = some (.pointer (some ⟨r, o + 0, none⟩)) := by kernel_rfl
theorem faR1 (r o : Nat) : aFieldAt Tryd.prog 24 1 (.pointer (some ⟨r, o, none⟩)) = some (.pointer (some ⟨r, o + 1, none⟩)) := by kernel_rfl
theorem ldRt (H : Heap) (r o : Nat) : aLoad Tryd.prog H 24 (.pointer (some ⟨r, o, none⟩)) = (H.read r o 2).map fun l => .agg ⟨l⟩ := by kernel_rfl
theorem alR (H : Heap) : aAlloc Tryd.prog H 24 = some (.pointer (some ⟨H.size, 0, none⟩), H.newExact [.int .i64 0, .int .i64 0] 24) := by kernel_rfl
theorem bdR (a b : Int) : aBuild Tryd.prog 24 [(0, .int .i64 a), (1, .int .i64 b)] = some (.agg ⟨[.int .i64 a, .int .i64 b]⟩) := by kernel_rfl
theorem bdR0 : aBuild Tryd.prog 24 [] = some (.agg ⟨[.int .i64 0, .int .i64 0]⟩) := by kernel_rfl
/-- Two numbers in a row of their own. -/
theorem box2 (H : Heap) (a b : Int) (t : TypeId) : ∃ H1, H.newExact [.int .i64 a, .int .i64 b] t = H1 ∧ Keep H H1 ∧ H.size < H1.size ∧ Own H1 H.size t [.int .i64 a, .int .i64 b] ∧ H1.read H.size 0 2 = some [.int .i64 a, .int .i64 b] ∧ H1.read H.size 0 1 = some [.int .i64 a] ∧ H1.read H.size 1 1 = some [.int .i64 b] := by
  obtain ⟨H1, e1, hK1, hz1, _, hr1⟩ := box1 H [.int .i64 a, .int .i64 b] t
  exact ⟨H1, e1, hK1, hz1, e1 ▸ Own.new H _ _, hr1 0 2 (by show 0 + 2 ≤ 2; omega), hr1 0 1 (by show 0 + 1 ≤ 2; omega), hr1 1 1 (by show 1 + 1 ≤ 2; omega)⟩
/-- Two numbers are laid into a row of one's own. -/
theorem st2 (t : TypeId) (inf : TypeInfo) (hi : Tryd.prog.info? t = some inf) (hs : inf.size = 2) {H : Heap} {r : Nat} {x y : Value} (h : Own H r t [x, y]) (a b : Int) :
    ∃ H2, aStore Tryd.prog H t (.pointer (some ⟨r, 0, none⟩)) (.agg ⟨[.int .i64 a, .int .i64 b]⟩) = some H2 ∧ Own H2 r t [.int .i64 a, .int .i64 b] ∧ H2.size = H.size ∧ (∀ r' e' c', r' ≠ r → Own H r' e' c' → Own H2 r' e' c') ∧ (∀ H0, Keep H0 H → H0.size ≤ r → Keep H0 H2) := by
  have hob := h.store (P := Tryd.prog) (t := t) (i := inf) hi (v := .agg ⟨[.int .i64 a, .int .i64 b]⟩) (new := [.int .i64 a, .int .i64 b]) rfl (hs.trans rfl) rfl (o := 0) (show 0 + 2 ≤ 2 by omega)
  obtain ⟨H2, h1, h2, h3, h4, h5⟩ := hob
  exact ⟨H2, h1, h2, h3, h4, h5⟩
theorem splice_whole {l new : List Value} (h : l.length = new.length) : splice l 0 new = new := by
  unfold splice
  rw [List.take_zero, List.nil_append, Nat.zero_add, List.drop_of_length_le (by omega), List.append_nil]
/-- A value is laid over a row of one's own, in a region that draws. -/
theorem stG {t : TypeId} {inf : TypeInfo} (hi : Tryd.prog.info? t = some inf) {H0 H : Heap} {r : Nat} {cells : List Value} (hk : Keep H0 H) (hr : H0.size ≤ r) (hL : H.low ≤ H.size) (ow : Own H r t cells) {v : Value} {new : List Value} (hv : v.cells.toList = new) (hs : inf.size = new.length) (hp : ones new = true) (hl : cells.length = new.length) :
    ∃ Ha Hb, aStore Tryd.prog (H.relow H.size) t (.pointer (some ⟨r, 0, none⟩)) v = some Ha ∧ Ha.relow (Nat.min H.low Ha.low) = Hb ∧ Keep H0 Hb ∧ Hb.size = H.size ∧ Hb.low ≤ Hb.size ∧ Own Ha r t new ∧ Own Hb r t new ∧ (∀ r' e' c', r' ≠ r → Own H r' e' c' → Own Hb r' e' c') := by
  obtain ⟨Ha, h1, h2, h3, h4, h5⟩ := (ow.addr (l := H.size)).store (t := t) hi (v := v) (new := new) hv hs hp (o := 0) (by omega)
  rw [splice_whole hl] at h2
  refine ⟨Ha, _, h1, rfl, Keep.lower hk (h5 H0 (hk.trans (Keep.relowS _)) hr), h3, ?_, h2, h2.addr, fun r' e' c' hne ho => (h4 r' e' c' hne ho.addr).addr⟩
  show Nat.min H.low Ha.low ≤ Ha.size
  rw [h3]
  exact Nat.le_trans (Nat.min_le_left _ _) hL
/-- A value is laid over a row of one's own. -/
theorem stH {t : TypeId} {inf : TypeInfo} (hi : Tryd.prog.info? t = some inf) {H0 H : Heap} {r : Nat} {cells : List Value} (hk : Keep H0 H) (hr : H0.size ≤ r) (ow : Own H r t cells) {v : Value} {new : List Value} (hv : v.cells.toList = new) (hs : inf.size = new.length) (hp : ones new = true) (hl : cells.length = new.length) :
    ∃ Ha, aStore Tryd.prog H t (.pointer (some ⟨r, 0, none⟩)) v = some Ha ∧ Keep H0 Ha ∧ Ha.size = H.size ∧ Own Ha r t new ∧ (∀ r' e' c', r' ≠ r → Own H r' e' c' → Own Ha r' e' c') := by
  obtain ⟨Ha, h1, h2, h3, h4, h5⟩ := ow.store (t := t) hi (v := v) (new := new) hv hs hp (o := 0) (by omega)
  rw [splice_whole hl] at h2
  exact ⟨Ha, h1, h5 H0 hk hr, h3, h2, h4⟩
theorem own2 {H : Heap} {r : Nat} {t : TypeId} {x y : Value} (h : Own H r t [x, y]) : H.read r 0 2 = some [x, y] ∧ H.read r 0 1 = some [x] ∧ H.read r 1 1 = some [y] :=
  ⟨h.read (o := 0) (n := 2) (Nat.le_refl 2), h.read (o := 0) (n := 1) (show 0 + 1 ≤ 2 by omega), h.read (o := 1) (n := 1) (show 1 + 1 ≤ 2 by omega)⟩
theorem infR : Tryd.prog.info? 24 = some Tryd.t24 ∧ Tryd.t24.size = 2 := ⟨by kernel_rfl, by kernel_rfl⟩
theorem cells2 (l : List Value) : (Value.agg ⟨l⟩).cells.toList = l := rfl

variable {S : AM.Sys} (hS : Only S 10)
include hS

theorem gdv_runs (x y : Int) (H : Heap) (hx : -4611686018427387904 ≤ x ∧ x ≤ 4611686018427387904) (hy : -4611686018427387904 ≤ y ∧ y ≤ 4611686018427387904) : ∃ H', Keep H H' ∧ Runs Tryd.prog S (.fn 65) [.int .i64 x, .int .i64 y] H (.int .i64 (Nat.gcd x.natAbs y.natAbs : Nat)) H' := by
  suffices h : WCall Tryd.prog S (.fn 65) [.int .i64 x, .int .i64 y] H (fun v H' => v = .int .i64 (Nat.gcd x.natAbs y.natAbs : Nat) ∧ Keep H H') by
    obtain ⟨_, H', hr, rfl, hk⟩ := h; exact ⟨H', hk, hr⟩
  refine call_of Tryd.func65 rfl (Nat.le_of_ble_eq_true rfl) (hS.no rfl _ _) ?_
  rw [Tryd.ntmps65, Tryd.results65]
  repeat' (first | (with_reducible refine sxGuardB_tsp (fun h => ?_) (fun h => ?_)) | (with_reducible refine sxGuardB_fsp (fun h => ?_) (fun h => ?_)) | (with_reducible refine sxIfB_sp (fun h => ?_) (fun h => ?_)) | simp only [↓sxC_skip, ↓sxC_draw, ↓sxC_region, ↓sxC_seq, ↓bxC_cond, ↓bxC_loop, ↓sxC_block, ↓sxC_exit, ↓sxC_goto, ↓sxC_ret, ↓sxOps_nil, ↓sxOps_cons, ↓sxDraw_nil, ↓bxDraw_cons, ↓sxDL_move, ↓sxDL_assign, ↓sxDL_pick, ↓sxDL_alloc, ↓sxDL_box, ↓sxDL_build, ↓sxDL_buildSlice, ↓sxDL_insert, ↓sxDL_load, ↓sxDL_nilCheck, ↓sxDL_binOp, ↓sxDL_unOp, ↓sxDL_convert, ↓sxDL_makeInterface, ↓sxDL_makeFunc, ↓sxDL_makeMap, ↓sxDL_makeSlice, ↓sxDL_slice, ↓sxDL_fieldAddr, ↓sxDL_field, ↓sxDL_indexAddr, ↓sxDL_index, ↓sxDL_typeAssert, ↓sxDL_extract, ↓sxDL_call, ↓sxDL_lookup, ↓sxDL_mapUpdate, ↓sxDL_range, ↓sxDL_next, ↓sxDL_entry, ↓sxDL_mapEntry, ↓sxDL_entryStore, ↓sxD_same, ↓sxStep_none, ↓bxStep_some, ↓bxOp_move, ↓bxOp_assign, ↓bxOp_pick, ↓bxOp_alloc, ↓bxOp_box, ↓bxOp_build, ↓bxOp_buildSlice, ↓bxOp_load, ↓bxOp_store, ↓bxOp_nilCheck, ↓bxOp_bin, ↓bxOp_un, ↓bxOp_makeI, ↓bxOp_makeFunc, ↓bxOp_makeSlice, ↓bxOp_slice, ↓bxOp_fieldAddr, ↓bxOp_field, ↓bxOp_indexAddr, ↓bxOp_index, ↓bxOp_assert, ↓bxOp_extract, ↓bxOp_value, ↓bxOp_len, ↓bxOp_cap, ↓bxOp_append, ↓bxOp_copy, ↓bxOp_max, ↓bxOp_min, ↓bxOp_convert, ↓sxPut_none, ↓bxPut, ↓seqQ_normal, ↓seqQ_exit, ↓seqQ_ret, ↓seqQ_goto, ↓blockQ_normal, ↓blockQ_ret, ↓blockQ_goto, ↓blockQ_exit, ↓loopQ_normal, ↓loopQ_exit, ↓loopQ_ret, ↓loopQ_goto, ↓resQ_normal, ↓resQ_ret, ↓sxRes_nil, ↓sxRes_tmp, ↓bxRes_cell, ↓upd_apply, ↓ev_tmp, ↓ev_const, ↓ev_global, ↓ev_func, ↓dstAt, ↓gval_some, sxOptB_some, sxOptB_ite, mm_max, mm_min, binP_shl, binP_shr, binP_int, intBin, una_not_dec, una_nt, una_nf, una_neg, aPick_true, aPick_false, sxCallVB_fn, sxCallVB_yield, sxGuardB_u, sxGuardB_tt, sxGuardB_tf, sxGuardB_ft, sxGuardB_ff, sxIfB_t, sxIfB_f, packRes_one, packRes_two, List.map_cons, List.map_nil, List.nil_append, List.cons_append, List.append_nil, ↓reduceIte, Nat.reduceEqDiff, Nat.reduceLT, dec_T, dec_F, false_imp, true_and, and_true, true_implies, implies_true, false_and, and_false, true_or, or_true, false_or, or_false, and_self, or_self, read_relow, size_relow, low_relow, relow_relow, aLoad_relow, Nat.add_zero, Nat.mul_one, one1, Option.bind_some, ne_eq, Int.natCast_nonneg, Int.toNat_natCast, not_true_eq_false, not_false_eq_true, Option.map_some, Option.map_none, *, argF, List.getD_cons_zero, List.getD_cons_succ, lenI] | (with_reducible refine sxDL_bar (by decide +kernel) ?_) | (with_reducible refine sxD_bar (by decide +kernel) ?_))
  refine sxL_of (fun m ρ H2 => ∃ a b : Int, m = b.natAbs ∧ (-4611686018427387904 ≤ a ∧ a ≤ 4611686018427387904) ∧ (-4611686018427387904 ≤ b ∧ b ≤ 4611686018427387904) ∧ Nat.gcd a.natAbs b.natAbs = Nat.gcd x.natAbs y.natAbs ∧ Keep H H2 ∧ ρ 0 = .int .i64 a ∧ ρ 1 = .int .i64 b)
    ⟨x, y, rfl, hx, hy, rfl, Keep.refl H, rfl, rfl⟩ ?_
  rintro m ρ H2 ⟨a, b, rfl, ha, hb, hG, hK, e0, e1⟩
  generalize Nat.gcd x.natAbs y.natAbs = G at *
  by_cases hb0 : b = 0
  · subst hb0
    have hG2 : (G : Int) = max a (0 - a) := by rw [← hG, show (0 : Int).natAbs = 0 from rfl, Nat.gcd_zero_right]; omega
    have f1 : IntKind.i64.wrap (0 - a) = 0 - a := IntWalk.i64_in _ (by omega)
    clear hG
    repeat' (first | (with_reducible refine sxGuardB_tsp (fun h => ?_) (fun h => ?_)) | (with_reducible refine sxGuardB_fsp (fun h => ?_) (fun h => ?_)) | (with_reducible refine sxIfB_sp (fun h => ?_) (fun h => ?_)) | simp only [↓sxC_skip, ↓sxC_draw, ↓sxC_region, ↓sxC_seq, ↓bxC_cond, ↓bxC_loop, ↓sxC_block, ↓sxC_exit, ↓sxC_goto, ↓sxC_ret, ↓sxOps_nil, ↓sxOps_cons, ↓sxDraw_nil, ↓bxDraw_cons, ↓sxDL_move, ↓sxDL_assign, ↓sxDL_pick, ↓sxDL_alloc, ↓sxDL_box, ↓sxDL_build, ↓sxDL_buildSlice, ↓sxDL_insert, ↓sxDL_load, ↓sxDL_nilCheck, ↓sxDL_binOp, ↓sxDL_unOp, ↓sxDL_convert, ↓sxDL_makeInterface, ↓sxDL_makeFunc, ↓sxDL_makeMap, ↓sxDL_makeSlice, ↓sxDL_slice, ↓sxDL_fieldAddr, ↓sxDL_field, ↓sxDL_indexAddr, ↓sxDL_index, ↓sxDL_typeAssert, ↓sxDL_extract, ↓sxDL_call, ↓sxDL_lookup, ↓sxDL_mapUpdate, ↓sxDL_range, ↓sxDL_next, ↓sxDL_entry, ↓sxDL_mapEntry, ↓sxDL_entryStore, ↓sxD_same, ↓sxStep_none, ↓bxStep_some, ↓bxOp_move, ↓bxOp_assign, ↓bxOp_pick, ↓bxOp_alloc, ↓bxOp_box, ↓bxOp_build, ↓bxOp_buildSlice, ↓bxOp_load, ↓bxOp_store, ↓bxOp_nilCheck, ↓bxOp_bin, ↓bxOp_un, ↓bxOp_makeI, ↓bxOp_makeFunc, ↓bxOp_makeSlice, ↓bxOp_slice, ↓bxOp_fieldAddr, ↓bxOp_field, ↓bxOp_indexAddr, ↓bxOp_index, ↓bxOp_assert, ↓bxOp_extract, ↓bxOp_value, ↓bxOp_len, ↓bxOp_cap, ↓bxOp_append, ↓bxOp_copy, ↓bxOp_max, ↓bxOp_min, ↓bxOp_convert, ↓sxPut_none, ↓bxPut, ↓seqQ_normal, ↓seqQ_exit, ↓seqQ_ret, ↓seqQ_goto, ↓blockQ_normal, ↓blockQ_ret, ↓blockQ_goto, ↓blockQ_exit, ↓loopQ_normal, ↓loopQ_exit, ↓loopQ_ret, ↓loopQ_goto, ↓resQ_normal, ↓resQ_ret, ↓sxRes_nil, ↓sxRes_tmp, ↓bxRes_cell, ↓upd_apply, ↓ev_tmp, ↓ev_const, ↓ev_global, ↓ev_func, ↓dstAt, ↓gval_some, sxOptB_some, sxOptB_ite, mm_max, mm_min, binP_shl, binP_shr, binP_int, intBin, una_not_dec, una_nt, una_nf, una_neg, aPick_true, aPick_false, sxCallVB_fn, sxCallVB_yield, sxGuardB_u, sxGuardB_tt, sxGuardB_tf, sxGuardB_ft, sxGuardB_ff, sxIfB_t, sxIfB_f, packRes_one, packRes_two, List.map_cons, List.map_nil, List.nil_append, List.cons_append, List.append_nil, ↓reduceIte, Nat.reduceEqDiff, Nat.reduceLT, dec_T, dec_F, false_imp, true_and, and_true, true_implies, implies_true, false_and, and_false, true_or, or_true, false_or, or_false, and_self, or_self, read_relow, size_relow, low_relow, relow_relow, aLoad_relow, Nat.add_zero, Nat.mul_one, one1, Option.bind_some, ne_eq, Int.natCast_nonneg, Int.toNat_natCast, not_true_eq_false, not_false_eq_true, Option.map_some, Option.map_none, *, lenI] | (with_reducible refine sxDL_bar (by decide +kernel) ?_) | (with_reducible refine sxD_bar (by decide +kernel) ?_))
    refine congrArg _ ?_
    split <;> omega
  · have h1 : (a.tmod b).natAbs = a.natAbs % b.natAbs := Int.natAbs_tmod a b
    have h2 : a.natAbs % b.natAbs < b.natAbs := Nat.mod_lt _ (by omega)
    have f1 : IntKind.i64.wrap (a.tmod b) = a.tmod b := IntWalk.i64_in _ (by omega)
    have hg2 : Nat.gcd b.natAbs (a.tmod b).natAbs = G := by
      rw [← hG, h1, Nat.gcd_comm b.natAbs (a.natAbs % b.natAbs), ← Nat.gcd_rec, Nat.gcd_comm]
    repeat' (first | (with_reducible refine sxGuardB_tsp (fun h => ?_) (fun h => ?_)) | (with_reducible refine sxGuardB_fsp (fun h => ?_) (fun h => ?_)) | (with_reducible refine sxIfB_sp (fun h => ?_) (fun h => ?_)) | simp only [↓sxC_skip, ↓sxC_draw, ↓sxC_region, ↓sxC_seq, ↓bxC_cond, ↓bxC_loop, ↓sxC_block, ↓sxC_exit, ↓sxC_goto, ↓sxC_ret, ↓sxOps_nil, ↓sxOps_cons, ↓sxDraw_nil, ↓bxDraw_cons, ↓sxDL_move, ↓sxDL_assign, ↓sxDL_pick, ↓sxDL_alloc, ↓sxDL_box, ↓sxDL_build, ↓sxDL_buildSlice, ↓sxDL_insert, ↓sxDL_load, ↓sxDL_nilCheck, ↓sxDL_binOp, ↓sxDL_unOp, ↓sxDL_convert, ↓sxDL_makeInterface, ↓sxDL_makeFunc, ↓sxDL_makeMap, ↓sxDL_makeSlice, ↓sxDL_slice, ↓sxDL_fieldAddr, ↓sxDL_field, ↓sxDL_indexAddr, ↓sxDL_index, ↓sxDL_typeAssert, ↓sxDL_extract, ↓sxDL_call, ↓sxDL_lookup, ↓sxDL_mapUpdate, ↓sxDL_range, ↓sxDL_next, ↓sxDL_entry, ↓sxDL_mapEntry, ↓sxDL_entryStore, ↓sxD_same, ↓sxStep_none, ↓bxStep_some, ↓bxOp_move, ↓bxOp_assign, ↓bxOp_pick, ↓bxOp_alloc, ↓bxOp_box, ↓bxOp_build, ↓bxOp_buildSlice, ↓bxOp_load, ↓bxOp_store, ↓bxOp_nilCheck, ↓bxOp_bin, ↓bxOp_un, ↓bxOp_makeI, ↓bxOp_makeFunc, ↓bxOp_makeSlice, ↓bxOp_slice, ↓bxOp_fieldAddr, ↓bxOp_field, ↓bxOp_indexAddr, ↓bxOp_index, ↓bxOp_assert, ↓bxOp_extract, ↓bxOp_value, ↓bxOp_len, ↓bxOp_cap, ↓bxOp_append, ↓bxOp_copy, ↓bxOp_max, ↓bxOp_min, ↓bxOp_convert, ↓sxPut_none, ↓bxPut, ↓seqQ_normal, ↓seqQ_exit, ↓seqQ_ret, ↓seqQ_goto, ↓blockQ_normal, ↓blockQ_ret, ↓blockQ_goto, ↓blockQ_exit, ↓loopQ_normal, ↓loopQ_exit, ↓loopQ_ret, ↓loopQ_goto, ↓resQ_normal, ↓resQ_ret, ↓sxRes_nil, ↓sxRes_tmp, ↓bxRes_cell, ↓upd_apply, ↓ev_tmp, ↓ev_const, ↓ev_global, ↓ev_func, ↓dstAt, ↓gval_some, sxOptB_some, sxOptB_ite, mm_max, mm_min, binP_shl, binP_shr, binP_int, intBin, una_not_dec, una_nt, una_nf, una_neg, aPick_true, aPick_false, sxCallVB_fn, sxCallVB_yield, sxGuardB_u, sxGuardB_tt, sxGuardB_tf, sxGuardB_ft, sxGuardB_ff, sxIfB_t, sxIfB_f, packRes_one, packRes_two, List.map_cons, List.map_nil, List.nil_append, List.cons_append, List.append_nil, ↓reduceIte, Nat.reduceEqDiff, Nat.reduceLT, dec_T, dec_F, false_imp, true_and, and_true, true_implies, implies_true, false_and, and_false, true_or, or_true, false_or, or_false, and_self, or_self, read_relow, size_relow, low_relow, relow_relow, aLoad_relow, Nat.add_zero, Nat.mul_one, one1, Option.bind_some, ne_eq, Int.natCast_nonneg, Int.toNat_natCast, not_true_eq_false, not_false_eq_true, Option.map_some, Option.map_none, *, lenI] | (with_reducible refine sxDL_bar (by decide +kernel) ?_) | (with_reducible refine sxD_bar (by decide +kernel) ?_))
    refine ⟨_, ?_, b, a.tmod b, rfl, hb, by omega, hg2, ?_, rfl, ?_⟩
    · omega
    · have z1 : min H.low H.size ≤ H2.size := Nat.le_trans (Nat.min_le_right _ _) hK.size
      exact { size := hK.size, low := fun _ => Nat.min_le_right _ _, lo := by repeat' (first | exact hK.lo | exact z1 | refine Nat.le_min.2 ⟨?_, ?_⟩), row := hK.row, grp := hK.grp }
    · rfl

theorem pratio_runs (n d : Int) (H : Heap) (hL : H.low ≤ H.size) (hn : -4611686018427387904 ≤ n ∧ n ≤ 4611686018427387904) (hd : 0 < d) (hd2 : d ≤ 4611686018427387904) : ∃ H', Keep H H' ∧ Runs Tryd.prog S (.fn 81) [.int .i64 n, .int .i64 d] H (.agg ⟨[.int .i64 (rat n d).1, .int .i64 (rat n d).2]⟩) H' := by
  suffices h : WCall Tryd.prog S (.fn 81) [.int .i64 n, .int .i64 d] H (fun v H' => v = .agg ⟨[.int .i64 (rat n d).1, .int .i64 (rat n d).2]⟩ ∧ Keep H H') by
    obtain ⟨_, H', hr, rfl, hk⟩ := h; exact ⟨H', hk, hr⟩
  obtain ⟨Ha, e1, ka, za, owa, -, -, -⟩ := box2 H 0 0 24
  obtain ⟨H1, k1, R1⟩ := gdv_runs hS d n Ha (by omega) hn
  have f1 := R1.bx
  obtain ⟨H2', H2, p2, q2', k2, z2, l2, ow2', ow2, -⟩ := stG infR.1 (ka.trans k1) (Nat.le_refl _) ((ka.trans k1).low hL) (owa.keep k1) (v := .agg ⟨[.int .i64 (rat n d).1, .int .i64 (rat n d).2]⟩) rfl infR.2 rfl rfl
  obtain ⟨m2, -, -⟩ := own2 ow2
  have l1 := (ka.trans k1).low hL
  have hgp : 0 < Nat.gcd d.natAbs n.natAbs := Nat.gcd_pos_of_pos_left _ (by omega)
  have hdx : ((Nat.gcd d.natAbs n.natAbs : Nat) : Int) ∣ n := Int.ofNat_dvd_left.2 (Nat.gcd_dvd_right _ _)
  have hdy : ((Nat.gcd d.natAbs n.natAbs : Nat) : Int) ∣ d := Int.ofNat_dvd_left.2 (Nat.gcd_dvd_left _ _)
  have t1 : n.tdiv ((Nat.gcd d.natAbs n.natAbs : Nat) : Int) = (rat n d).1 := Int.tdiv_eq_ediv_of_dvd hdx
  have t2 : d.tdiv ((Nat.gcd d.natAbs n.natAbs : Nat) : Int) = (rat n d).2 := Int.tdiv_eq_ediv_of_dvd hdy
  obtain ⟨q1, -, -, q2, q3, -⟩ := rat_facts (n := n) hd
  have w1 : IntKind.i64.wrap (rat n d).1 = (rat n d).1 := IntWalk.i64_in _ (by omega)
  have w2 : IntKind.i64.wrap (rat n d).2 = (rat n d).2 := IntWalk.i64_in _ (by omega)
  have hg0 : ¬ ((Nat.gcd d.natAbs n.natAbs : Nat) : Int) = 0 := by omega
  clear R1 hdx hdy q1 q2 q3 owa ow2 ow2'
  generalize ((Nat.gcd d.natAbs n.natAbs : Nat) : Int) = G at *
  generalize rat n d = x at *
  refine call_of Tryd.func81 rfl (Nat.le_of_ble_eq_true rfl) (hS.no rfl _ _) ?_
  rw [Tryd.ntmps81, Tryd.results81]
  repeat' (first | (with_reducible refine sxGuardB_tsp (fun h => ?_) (fun h => ?_)) | (with_reducible refine sxGuardB_fsp (fun h => ?_) (fun h => ?_)) | (with_reducible refine sxIfB_sp (fun h => ?_) (fun h => ?_)) | simp only [↓sxC_skip, ↓sxC_draw, ↓sxC_region, ↓sxC_seq, ↓bxC_cond, ↓bxC_loop, ↓sxC_block, ↓sxC_exit, ↓sxC_goto, ↓sxC_ret, ↓sxOps_nil, ↓sxOps_cons, ↓sxDraw_nil, ↓bxDraw_cons, ↓sxDL_move, ↓sxDL_assign, ↓sxDL_pick, ↓sxDL_alloc, ↓sxDL_box, ↓sxDL_build, ↓sxDL_buildSlice, ↓sxDL_insert, ↓sxDL_load, ↓sxDL_nilCheck, ↓sxDL_binOp, ↓sxDL_unOp, ↓sxDL_convert, ↓sxDL_makeInterface, ↓sxDL_makeFunc, ↓sxDL_makeMap, ↓sxDL_makeSlice, ↓sxDL_slice, ↓sxDL_fieldAddr, ↓sxDL_field, ↓sxDL_indexAddr, ↓sxDL_index, ↓sxDL_typeAssert, ↓sxDL_extract, ↓sxDL_call, ↓sxDL_lookup, ↓sxDL_mapUpdate, ↓sxDL_range, ↓sxDL_next, ↓sxDL_entry, ↓sxDL_mapEntry, ↓sxDL_entryStore, ↓sxD_same, ↓sxStep_none, ↓bxStep_some, ↓bxOp_move, ↓bxOp_assign, ↓bxOp_pick, ↓bxOp_alloc, ↓bxOp_box, ↓bxOp_build, ↓bxOp_buildSlice, ↓bxOp_load, ↓bxOp_store, ↓bxOp_nilCheck, ↓bxOp_bin, ↓bxOp_un, ↓bxOp_makeI, ↓bxOp_makeFunc, ↓bxOp_makeSlice, ↓bxOp_slice, ↓bxOp_fieldAddr, ↓bxOp_field, ↓bxOp_indexAddr, ↓bxOp_index, ↓bxOp_assert, ↓bxOp_extract, ↓bxOp_value, ↓bxOp_len, ↓bxOp_cap, ↓bxOp_append, ↓bxOp_copy, ↓bxOp_max, ↓bxOp_min, ↓bxOp_convert, ↓sxPut_none, ↓bxPut, ↓seqQ_normal, ↓seqQ_exit, ↓seqQ_ret, ↓seqQ_goto, ↓blockQ_normal, ↓blockQ_ret, ↓blockQ_goto, ↓blockQ_exit, ↓loopQ_normal, ↓loopQ_exit, ↓loopQ_ret, ↓loopQ_goto, ↓resQ_normal, ↓resQ_ret, ↓sxRes_nil, ↓sxRes_tmp, ↓bxRes_cell, ↓upd_apply, ↓ev_tmp, ↓ev_const, ↓ev_global, ↓ev_func, ↓dstAt, ↓gval_some, sxOptB_some, sxOptB_ite, mm_max, mm_min, binP_shl, binP_shr, binP_int, intBin, una_not_dec, una_nt, una_nf, una_neg, aPick_true, aPick_false, sxCallVB_fn, sxCallVB_yield, sxGuardB_u, sxGuardB_tt, sxGuardB_tf, sxGuardB_ft, sxGuardB_ff, sxIfB_t, sxIfB_f, packRes_one, packRes_two, List.map_cons, List.map_nil, List.nil_append, List.cons_append, List.append_nil, ↓reduceIte, Nat.reduceEqDiff, Nat.reduceLT, dec_T, dec_F, false_imp, true_and, and_true, true_implies, implies_true, false_and, and_false, true_or, or_true, false_or, or_false, and_self, or_self, read_relow, size_relow, low_relow, relow_relow, aLoad_relow, Nat.add_zero, Nat.mul_one, one1, Option.bind_some, ne_eq, Int.natCast_nonneg, Int.toNat_natCast, not_true_eq_false, not_false_eq_true, Option.map_some, Option.map_none, *, argF, List.getD_cons_zero, List.getD_cons_succ, bdR, alR, faR0, faR1, ldRt, cells2] | (with_reducible refine sxDL_bar (by decide +kernel) ?_) | (with_reducible refine sxD_bar (by decide +kernel) ?_))
end Go.Proofs.YtnbhjbelgmkpeaaDoor
