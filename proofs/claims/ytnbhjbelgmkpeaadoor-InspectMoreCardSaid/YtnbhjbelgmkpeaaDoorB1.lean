/- Whole numbers of any size, as the reference keeps them: digits without the highest ones that are 0, and digits compared, on the canonical machine. -/
import Derived.Test.YtnbhjbelgmkpeaaDoorProg
import Derived.KernelRfl
import Derived.Test.YtnbhjbelgmkpeaaDoorGk
set_option linter.unusedVariables false
set_option linter.unusedSimpArgs false
set_option linter.unusedSectionVars false

namespace Go.Proofs.YtnbhjbelgmkpeaaDoor
open Go Go.AM
set_option maxRecDepth 10000
set_option linter.unusedSimpArgs false

/-! The words of the program. -/
theorem ldI (H : Heap) (r o : Nat) : aLoad Tryd.prog H 3 (.pointer (some ⟨r, o, none⟩)) = (H.read r o 1).bind one1 := by kernel_rfl
theorem ldIs (H : Heap) (r o : Nat) : aLoad Tryd.prog H 25 (.pointer (some ⟨r, o, none⟩)) = (H.read r o 1).bind one1 := by kernel_rfl
theorem lenI (a : Option Addr) (n c : Nat) : aLen Tryd.prog #[25] (.slice a n c) = some (.int .i64 n) := by kernel_rfl
theorem ixI (r o n c : Nat) (k : IntKind) (i : Int) : aIndexAt Tryd.prog 25 (.slice (some ⟨r, o, none⟩) n c) (.int k i) = if 0 ≤ i ∧ i < (n : Int) then some (.pointer (some ⟨r, o + i.toNat * 1, none⟩)) else none := by kernel_rfl
theorem SlI_ix {H : Heap} {w : List Int} {r o : Nat} {a : Option Addr} {cap : Nat} (h : SlI .i64 H (.slice a w.length cap) w r o) {k : Nat} (h1 : k < w.length) :
    aIndexAt Tryd.prog 25 (.slice a w.length cap) (.int .i64 (k : Int)) = some (.pointer (some ⟨r, o + k, none⟩)) := by
  obtain ⟨a', cap', e, ha⟩ := h.isv
  cases e
  rw [ha (by omega), ixI, if_pos ⟨by omega, by omega⟩, Int.toNat_natCast, Nat.mul_one]
theorem bsI (H : Heap) (z : Int) : aBuildSlice Tryd.prog H 25 1 [(0, .int .i64 z)] = some (.slice (some ⟨H.size, 0, none⟩) 1 1, H.newExact [.int .i64 z] 3) := by kernel_rfl
theorem okI : ElemOk Tryd.prog #[25, 25] 3 1 := ⟨⟨25, 25, _, Tryd.t3, .int .i64 0, rfl, rfl, Tryd.underlying25, Tryd.underlying25, rfl, by kernel_rfl, by kernel_rfl, by kernel_rfl, by kernel_rfl, of_decide_eq_true (by kernel_rfl)⟩, by omega⟩
theorem infoI : ∃ i z, Tryd.prog.info? 3 = some i ∧ i.size = 1 ∧ i.zero = some z ∧ plain z = true ∧ z.cells.toList.length = 1 ∧ i.bytes ≤ 65536 := ⟨Tryd.t3, .int .i64 0, by kernel_rfl, by kernel_rfl, by kernel_rfl, by kernel_rfl, by kernel_rfl, of_decide_eq_true (by kernel_rfl)⟩
theorem nilSl (H : Heap) : SlI .i64 H (.slice none 0 0) [] 0 0 := ⟨⟨none, 0, rfl, fun h => absurd h (Nat.lt_irrefl 0)⟩, fun i hi => absurd hi (Nat.not_lt_zero i), fun h => absurd h (Nat.lt_irrefl 0), Nat.zero_le _⟩

/-- A call that returns a list of numbers in new memory. -/
def Out (S : AM.Sys) (f : FuncId) (args : List Value) (H : Heap) (w : List Int) : Prop := ∃ H' v' r' o', Keep H H' ∧ Grp H' ∧ SlI .i64 H' v' w r' o' ∧ Fine v' ∧ (0 < w.length → H.size ≤ r') ∧ Runs Tryd.prog S (.fn f) args H v' H'
theorem out_of {S : AM.Sys} {f : FuncId} {args : List Value} {H : Heap} {w : List Int} (h : WCall Tryd.prog S (.fn f) args H (fun v H' => ∃ r' o', Keep H H' ∧ Grp H' ∧ SlI .i64 H' v w r' o' ∧ Fine v ∧ (0 < w.length → H.size ≤ r'))) : Out S f args H w := by
  obtain ⟨v', H', hr, r', o', h1, h2, h3, h4, h5⟩ := h
  exact ⟨H', v', r', o', h1, h2, h3, h4, h5, hr⟩

variable {S : AM.Sys} (hS : Only S 10)
include hS

theorem trim_runs (v : Value) (d : List Int) (r o : Nat) (H : Heap) (hg : Grp H) (hL : H.low ≤ H.size) (hd : SlI .i64 H v d r o) (hs : d.length ≤ 100000) : Out S 113 [v] H (trimL d) := by
  refine out_of ?_
  obtain ⟨a, cap, rfl⟩ := hd.v0
  have hml := hd.ml
  have hmx : Go.maxLen = 9223372036854775807 := rfl
  refine call_of Tryd.func113 rfl (Nat.le_of_ble_eq_true rfl) (hS.no rfl _ _) ?_
  rw [Tryd.ntmps113, Tryd.results113]
  repeat' (first | (with_reducible refine sxGuardB_tsp (fun h => ?_) (fun h => ?_)) | (with_reducible refine sxGuardB_fsp (fun h => ?_) (fun h => ?_)) | (with_reducible refine sxIfB_sp (fun h => ?_) (fun h => ?_)) | simp only [↓sxC_skip, ↓sxC_draw, ↓sxC_region, ↓sxC_seq, ↓bxC_cond, ↓bxC_loop, ↓sxC_block, ↓sxC_exit, ↓sxC_goto, ↓sxC_ret, ↓sxOps_nil, ↓sxOps_cons, ↓sxDraw_nil, ↓bxDraw_cons, ↓sxDL_move, ↓sxDL_assign, ↓sxDL_pick, ↓sxDL_alloc, ↓sxDL_box, ↓sxDL_build, ↓sxDL_buildSlice, ↓sxDL_insert, ↓sxDL_load, ↓sxDL_nilCheck, ↓sxDL_binOp, ↓sxDL_unOp, ↓sxDL_convert, ↓sxDL_makeInterface, ↓sxDL_makeFunc, ↓sxDL_makeMap, ↓sxDL_makeSlice, ↓sxDL_slice, ↓sxDL_fieldAddr, ↓sxDL_field, ↓sxDL_indexAddr, ↓sxDL_index, ↓sxDL_typeAssert, ↓sxDL_extract, ↓sxDL_call, ↓sxDL_lookup, ↓sxDL_mapUpdate, ↓sxDL_range, ↓sxDL_next, ↓sxDL_entry, ↓sxDL_mapEntry, ↓sxDL_entryStore, ↓sxD_same, ↓sxStep_none, ↓bxStep_some, ↓bxOp_move, ↓bxOp_assign, ↓bxOp_pick, ↓bxOp_alloc, ↓bxOp_box, ↓bxOp_build, ↓bxOp_buildSlice, ↓bxOp_load, ↓bxOp_store, ↓bxOp_nilCheck, ↓bxOp_bin, ↓bxOp_un, ↓bxOp_makeI, ↓bxOp_makeFunc, ↓bxOp_makeSlice, ↓bxOp_slice, ↓bxOp_fieldAddr, ↓bxOp_field, ↓bxOp_indexAddr, ↓bxOp_index, ↓bxOp_assert, ↓bxOp_extract, ↓bxOp_value, ↓bxOp_len, ↓bxOp_cap, ↓bxOp_append, ↓bxOp_copy, ↓bxOp_clear, ↓bxOp_max, ↓bxOp_min, ↓bxOp_convert, ↓sxPut_none, ↓bxPut, ↓seqQ_normal, ↓seqQ_exit, ↓seqQ_ret, ↓seqQ_goto, ↓blockQ_normal, ↓blockQ_ret, ↓blockQ_goto, ↓blockQ_exit, ↓loopQ_normal, ↓loopQ_exit, ↓loopQ_ret, ↓loopQ_goto, ↓resQ_normal, ↓resQ_ret, ↓sxRes_nil, ↓sxRes_tmp, ↓bxRes_cell, ↓upd_apply, ↓ev_tmp, ↓ev_const, ↓ev_global, ↓ev_func, ↓dstAt, ↓gval_some, sxOptB_some, sxOptB_ite, mm_max, mm_min, binP_shl, binP_shr, binP_int, intBin, una_not_dec, una_nt, una_nf, una_neg, aPick_true, aPick_false, sxCallVB_fn, sxCallVB_yield, sxGuardB_u, sxGuardB_tt, sxGuardB_tf, sxGuardB_ft, sxGuardB_ff, sxIfB_t, sxIfB_f, packRes_one, packRes_two, List.map_cons, List.map_nil, List.nil_append, List.cons_append, List.append_nil, ↓reduceIte, Nat.reduceEqDiff, Nat.reduceLT, dec_T, dec_F, false_imp, true_and, and_true, true_implies, implies_true, false_and, and_false, true_or, or_true, false_or, or_false, and_self, or_self, read_relow, size_relow, low_relow, relow_relow, aLoad_relow, Nat.add_zero, Nat.mul_one, one1, Option.bind_some, ne_eq, Int.natCast_nonneg, Int.toNat_natCast, not_true_eq_false, not_false_eq_true, Option.map_some, Option.map_none, *, argF, List.getD_cons_zero, List.getD_cons_succ, lenI] | (with_reducible refine sxDL_barE (by assumption) (by decide +kernel) ?_) | (with_reducible refine sxDL_bar (by decide +kernel) ?_) | (with_reducible refine sxD_bar (by decide +kernel) ?_))
  refine sxL_of (fun m ρ H1 => m ≤ d.length ∧ trimN d m = trimN d d.length ∧ H1 = H ∧ ρ 0 = .slice a d.length cap ∧ ρ 3 = .int .i64 (m : Int)) ⟨Nat.le_refl _, rfl, rfl, rfl, rfl⟩ ?_
  rintro m ρ H1 ⟨hm, htr, rfl, e0, e3⟩
  cases m with
  | zero =>
    have ht0 : trimN d d.length = 0 := htr.symm
    have h00 : ¬ (0 : Int) < ((0 : Nat) : Int) := by omega
    have hT : trimL d = d.take 0 := by unfold trimL; rw [ht0]
    rw [hT]
    clear htr hT ht0
    repeat' (first | (with_reducible refine sxGuardB_tsp (fun h => ?_) (fun h => ?_)) | (with_reducible refine sxGuardB_fsp (fun h => ?_) (fun h => ?_)) | (with_reducible refine sxIfB_sp (fun h => ?_) (fun h => ?_)) | simp only [↓sxC_skip, ↓sxC_draw, ↓sxC_region, ↓sxC_seq, ↓bxC_cond, ↓bxC_loop, ↓sxC_block, ↓sxC_exit, ↓sxC_goto, ↓sxC_ret, ↓sxOps_nil, ↓sxOps_cons, ↓sxDraw_nil, ↓bxDraw_cons, ↓sxDL_move, ↓sxDL_assign, ↓sxDL_pick, ↓sxDL_alloc, ↓sxDL_box, ↓sxDL_build, ↓sxDL_buildSlice, ↓sxDL_insert, ↓sxDL_load, ↓sxDL_nilCheck, ↓sxDL_binOp, ↓sxDL_unOp, ↓sxDL_convert, ↓sxDL_makeInterface, ↓sxDL_makeFunc, ↓sxDL_makeMap, ↓sxDL_makeSlice, ↓sxDL_slice, ↓sxDL_fieldAddr, ↓sxDL_field, ↓sxDL_indexAddr, ↓sxDL_index, ↓sxDL_typeAssert, ↓sxDL_extract, ↓sxDL_call, ↓sxDL_lookup, ↓sxDL_mapUpdate, ↓sxDL_range, ↓sxDL_next, ↓sxDL_entry, ↓sxDL_mapEntry, ↓sxDL_entryStore, ↓sxD_same, ↓sxStep_none, ↓bxStep_some, ↓bxOp_move, ↓bxOp_assign, ↓bxOp_pick, ↓bxOp_alloc, ↓bxOp_box, ↓bxOp_build, ↓bxOp_buildSlice, ↓bxOp_load, ↓bxOp_store, ↓bxOp_nilCheck, ↓bxOp_bin, ↓bxOp_un, ↓bxOp_makeI, ↓bxOp_makeFunc, ↓bxOp_makeSlice, ↓bxOp_slice, ↓bxOp_fieldAddr, ↓bxOp_field, ↓bxOp_indexAddr, ↓bxOp_index, ↓bxOp_assert, ↓bxOp_extract, ↓bxOp_value, ↓bxOp_len, ↓bxOp_cap, ↓bxOp_append, ↓bxOp_copy, ↓bxOp_clear, ↓bxOp_max, ↓bxOp_min, ↓bxOp_convert, ↓sxPut_none, ↓bxPut, ↓seqQ_normal, ↓seqQ_exit, ↓seqQ_ret, ↓seqQ_goto, ↓blockQ_normal, ↓blockQ_ret, ↓blockQ_goto, ↓blockQ_exit, ↓loopQ_normal, ↓loopQ_exit, ↓loopQ_ret, ↓loopQ_goto, ↓resQ_normal, ↓resQ_ret, ↓sxRes_nil, ↓sxRes_tmp, ↓bxRes_cell, ↓upd_apply, ↓ev_tmp, ↓ev_const, ↓ev_global, ↓ev_func, ↓dstAt, ↓gval_some, sxOptB_some, sxOptB_ite, mm_max, mm_min, binP_shl, binP_shr, binP_int, intBin, una_not_dec, una_nt, una_nf, una_neg, aPick_true, aPick_false, sxCallVB_fn, sxCallVB_yield, sxGuardB_u, sxGuardB_tt, sxGuardB_tf, sxGuardB_ft, sxGuardB_ff, sxIfB_t, sxIfB_f, packRes_one, packRes_two, List.map_cons, List.map_nil, List.nil_append, List.cons_append, List.append_nil, ↓reduceIte, Nat.reduceEqDiff, Nat.reduceLT, dec_T, dec_F, false_imp, true_and, and_true, true_implies, implies_true, false_and, and_false, true_or, or_true, false_or, or_false, and_self, or_self, read_relow, size_relow, low_relow, relow_relow, aLoad_relow, Nat.add_zero, Nat.mul_one, one1, Option.bind_some, ne_eq, Int.natCast_nonneg, Int.toNat_natCast, not_true_eq_false, not_false_eq_true, Option.map_some, Option.map_none, *, lenI] | (with_reducible refine sxDL_barE (by assumption) (by decide +kernel) ?_) | (with_reducible refine sxDL_bar (by decide +kernel) ?_) | (with_reducible refine sxD_bar (by decide +kernel) ?_))
    refine sxL_of (fun q ρ H2 => ∃ (i : Nat) (v' : Value), q = 0 - i ∧ i ≤ 0 ∧ Lst 3 .i64 H1 H2 v' (d.take i) ∧ ρ 0 = .slice a d.length cap ∧ ρ 3 = .int .i64 ((0 : Nat) : Int) ∧ ρ 4 = v' ∧ ρ 5 = .int .i64 i)
      ⟨0, _, rfl, Nat.zero_le _, Lst.nil (Keep.refl H1) hg, by assumption, by assumption, rfl, rfl⟩ ?_
    clear e0 e3
    rintro q ρ H2 ⟨i, v', rfl, hi, L, e0, e3, e4, e5⟩
    by_cases hlt : i < 0
    · have hlt' : (i : Int) < ((0 : Nat) : Int) := by omega
      have hid : i < d.length := by omega
      have p1 := SlI_ix hd hid
      have p2 := ((hd.keep L.keep).rdI hid).1
      have hw := wrap_succ hid hml
      have hob1 := L.push okI hg (by rw [List.length_take]; omega) (d.getD i 0)
      obtain ⟨v3, H3, p3, L3⟩ := hob1
      have b1 := bsI H2 (d.getD i 0)
      have hts : d.take i ++ [d.getD i 0] = d.take (i + 1) := by rw [List.take_add_one, List.getElem?_eq_getElem hid, List.getD_eq_getElem?_getD, List.getElem?_eq_getElem hid]; rfl
      rw [hts] at L3
      clear hd hts
      repeat' (first | (with_reducible refine sxGuardB_tsp (fun h => ?_) (fun h => ?_)) | (with_reducible refine sxGuardB_fsp (fun h => ?_) (fun h => ?_)) | (with_reducible refine sxIfB_sp (fun h => ?_) (fun h => ?_)) | simp only [↓sxC_skip, ↓sxC_draw, ↓sxC_region, ↓sxC_seq, ↓bxC_cond, ↓bxC_loop, ↓sxC_block, ↓sxC_exit, ↓sxC_goto, ↓sxC_ret, ↓sxOps_nil, ↓sxOps_cons, ↓sxDraw_nil, ↓bxDraw_cons, ↓sxDL_move, ↓sxDL_assign, ↓sxDL_pick, ↓sxDL_alloc, ↓sxDL_box, ↓sxDL_build, ↓sxDL_buildSlice, ↓sxDL_insert, ↓sxDL_load, ↓sxDL_nilCheck, ↓sxDL_binOp, ↓sxDL_unOp, ↓sxDL_convert, ↓sxDL_makeInterface, ↓sxDL_makeFunc, ↓sxDL_makeMap, ↓sxDL_makeSlice, ↓sxDL_slice, ↓sxDL_fieldAddr, ↓sxDL_field, ↓sxDL_indexAddr, ↓sxDL_index, ↓sxDL_typeAssert, ↓sxDL_extract, ↓sxDL_call, ↓sxDL_lookup, ↓sxDL_mapUpdate, ↓sxDL_range, ↓sxDL_next, ↓sxDL_entry, ↓sxDL_mapEntry, ↓sxDL_entryStore, ↓sxD_same, ↓sxStep_none, ↓bxStep_some, ↓bxOp_move, ↓bxOp_assign, ↓bxOp_pick, ↓bxOp_alloc, ↓bxOp_box, ↓bxOp_build, ↓bxOp_buildSlice, ↓bxOp_load, ↓bxOp_store, ↓bxOp_nilCheck, ↓bxOp_bin, ↓bxOp_un, ↓bxOp_makeI, ↓bxOp_makeFunc, ↓bxOp_makeSlice, ↓bxOp_slice, ↓bxOp_fieldAddr, ↓bxOp_field, ↓bxOp_indexAddr, ↓bxOp_index, ↓bxOp_assert, ↓bxOp_extract, ↓bxOp_value, ↓bxOp_len, ↓bxOp_cap, ↓bxOp_append, ↓bxOp_copy, ↓bxOp_clear, ↓bxOp_max, ↓bxOp_min, ↓bxOp_convert, ↓sxPut_none, ↓bxPut, ↓seqQ_normal, ↓seqQ_exit, ↓seqQ_ret, ↓seqQ_goto, ↓blockQ_normal, ↓blockQ_ret, ↓blockQ_goto, ↓blockQ_exit, ↓loopQ_normal, ↓loopQ_exit, ↓loopQ_ret, ↓loopQ_goto, ↓resQ_normal, ↓resQ_ret, ↓sxRes_nil, ↓sxRes_tmp, ↓bxRes_cell, ↓upd_apply, ↓ev_tmp, ↓ev_const, ↓ev_global, ↓ev_func, ↓dstAt, ↓gval_some, sxOptB_some, sxOptB_ite, mm_max, mm_min, binP_shl, binP_shr, binP_int, intBin, una_not_dec, una_nt, una_nf, una_neg, aPick_true, aPick_false, sxCallVB_fn, sxCallVB_yield, sxGuardB_u, sxGuardB_tt, sxGuardB_tf, sxGuardB_ft, sxGuardB_ff, sxIfB_t, sxIfB_f, packRes_one, packRes_two, List.map_cons, List.map_nil, List.nil_append, List.cons_append, List.append_nil, ↓reduceIte, Nat.reduceEqDiff, Nat.reduceLT, dec_T, dec_F, false_imp, true_and, and_true, true_implies, implies_true, false_and, and_false, true_or, or_true, false_or, or_false, and_self, or_self, read_relow, size_relow, low_relow, relow_relow, aLoad_relow, Nat.add_zero, Nat.mul_one, one1, Option.bind_some, ne_eq, Int.natCast_nonneg, Int.toNat_natCast, not_true_eq_false, not_false_eq_true, Option.map_some, Option.map_none, *, lenI, ldI] | (with_reducible refine sxDL_barE (by assumption) (by decide +kernel) ?_) | (with_reducible refine sxDL_bar (by decide +kernel) ?_) | (with_reducible refine sxD_bar (by decide +kernel) ?_))
      exact ⟨_, by omega, i + 1, _, rfl, by omega, L3, rfl, rfl⟩
    · have hlt' : ¬ (i : Int) < ((0 : Nat) : Int) := by omega
      have hie : i = 0 := by omega
      have hob2 := L.slF (fun z hz => by
        obtain ⟨j, hj, rfl⟩ := List.getElem_of_mem (List.mem_of_mem_take hz)
        have := (hd.rdI hj).2
        rwa [List.getD_eq_getElem?_getD, List.getElem?_eq_getElem hj] at this) (by rw [List.length_take]; omega)
      rw [hie] at hob2
      obtain ⟨rr, sl, hfr⟩ := hob2
      have hgL := L.grp
      have hF := L.fine
      have hKL := L.keep
      clear hd hie
      repeat' (first | (with_reducible refine sxGuardB_tsp (fun h => ?_) (fun h => ?_)) | (with_reducible refine sxGuardB_fsp (fun h => ?_) (fun h => ?_)) | (with_reducible refine sxIfB_sp (fun h => ?_) (fun h => ?_)) | simp only [↓sxC_skip, ↓sxC_draw, ↓sxC_region, ↓sxC_seq, ↓bxC_cond, ↓bxC_loop, ↓sxC_block, ↓sxC_exit, ↓sxC_goto, ↓sxC_ret, ↓sxOps_nil, ↓sxOps_cons, ↓sxDraw_nil, ↓bxDraw_cons, ↓sxDL_move, ↓sxDL_assign, ↓sxDL_pick, ↓sxDL_alloc, ↓sxDL_box, ↓sxDL_build, ↓sxDL_buildSlice, ↓sxDL_insert, ↓sxDL_load, ↓sxDL_nilCheck, ↓sxDL_binOp, ↓sxDL_unOp, ↓sxDL_convert, ↓sxDL_makeInterface, ↓sxDL_makeFunc, ↓sxDL_makeMap, ↓sxDL_makeSlice, ↓sxDL_slice, ↓sxDL_fieldAddr, ↓sxDL_field, ↓sxDL_indexAddr, ↓sxDL_index, ↓sxDL_typeAssert, ↓sxDL_extract, ↓sxDL_call, ↓sxDL_lookup, ↓sxDL_mapUpdate, ↓sxDL_range, ↓sxDL_next, ↓sxDL_entry, ↓sxDL_mapEntry, ↓sxDL_entryStore, ↓sxD_same, ↓sxStep_none, ↓bxStep_some, ↓bxOp_move, ↓bxOp_assign, ↓bxOp_pick, ↓bxOp_alloc, ↓bxOp_box, ↓bxOp_build, ↓bxOp_buildSlice, ↓bxOp_load, ↓bxOp_store, ↓bxOp_nilCheck, ↓bxOp_bin, ↓bxOp_un, ↓bxOp_makeI, ↓bxOp_makeFunc, ↓bxOp_makeSlice, ↓bxOp_slice, ↓bxOp_fieldAddr, ↓bxOp_field, ↓bxOp_indexAddr, ↓bxOp_index, ↓bxOp_assert, ↓bxOp_extract, ↓bxOp_value, ↓bxOp_len, ↓bxOp_cap, ↓bxOp_append, ↓bxOp_copy, ↓bxOp_clear, ↓bxOp_max, ↓bxOp_min, ↓bxOp_convert, ↓sxPut_none, ↓bxPut, ↓seqQ_normal, ↓seqQ_exit, ↓seqQ_ret, ↓seqQ_goto, ↓blockQ_normal, ↓blockQ_ret, ↓blockQ_goto, ↓blockQ_exit, ↓loopQ_normal, ↓loopQ_exit, ↓loopQ_ret, ↓loopQ_goto, ↓resQ_normal, ↓resQ_ret, ↓sxRes_nil, ↓sxRes_tmp, ↓bxRes_cell, ↓upd_apply, ↓ev_tmp, ↓ev_const, ↓ev_global, ↓ev_func, ↓dstAt, ↓gval_some, sxOptB_some, sxOptB_ite, mm_max, mm_min, binP_shl, binP_shr, binP_int, intBin, una_not_dec, una_nt, una_nf, una_neg, aPick_true, aPick_false, sxCallVB_fn, sxCallVB_yield, sxGuardB_u, sxGuardB_tt, sxGuardB_tf, sxGuardB_ft, sxGuardB_ff, sxIfB_t, sxIfB_f, packRes_one, packRes_two, List.map_cons, List.map_nil, List.nil_append, List.cons_append, List.append_nil, ↓reduceIte, Nat.reduceEqDiff, Nat.reduceLT, dec_T, dec_F, false_imp, true_and, and_true, true_implies, implies_true, false_and, and_false, true_or, or_true, false_or, or_false, and_self, or_self, read_relow, size_relow, low_relow, relow_relow, aLoad_relow, Nat.add_zero, Nat.mul_one, one1, Option.bind_some, ne_eq, Int.natCast_nonneg, Int.toNat_natCast, not_true_eq_false, not_false_eq_true, Option.map_some, Option.map_none, *, lenI] | (with_reducible refine sxDL_barE (by assumption) (by decide +kernel) ?_) | (with_reducible refine sxDL_bar (by decide +kernel) ?_) | (with_reducible refine sxD_bar (by decide +kernel) ?_))
      exact ⟨rr, 0, sl, hfr⟩
  | succ m =>
    have hlt : m < d.length := by omega
    have p1 := SlI_ix hd hlt
    have p2 := (hd.rdI hlt).1
    have hp : (0 : Int) < ((m + 1 : Nat) : Int) := by omega
    have hw : IntKind.i64.wrap (((m + 1 : Nat) : Int) - 1) = (m : Int) := by rw [IntWalk.i64_in _ (by omega)]; omega
    by_cases hz : d.getD m 0 = 0
    · have htr2 : trimN d m = trimN d d.length := by rw [← htr]; conv => rhs; unfold trimN; rw [if_pos hz]
      clear hd htr
      repeat' (first | (with_reducible refine sxGuardB_tsp (fun h => ?_) (fun h => ?_)) | (with_reducible refine sxGuardB_fsp (fun h => ?_) (fun h => ?_)) | (with_reducible refine sxIfB_sp (fun h => ?_) (fun h => ?_)) | simp only [↓sxC_skip, ↓sxC_draw, ↓sxC_region, ↓sxC_seq, ↓bxC_cond, ↓bxC_loop, ↓sxC_block, ↓sxC_exit, ↓sxC_goto, ↓sxC_ret, ↓sxOps_nil, ↓sxOps_cons, ↓sxDraw_nil, ↓bxDraw_cons, ↓sxDL_move, ↓sxDL_assign, ↓sxDL_pick, ↓sxDL_alloc, ↓sxDL_box, ↓sxDL_build, ↓sxDL_buildSlice, ↓sxDL_insert, ↓sxDL_load, ↓sxDL_nilCheck, ↓sxDL_binOp, ↓sxDL_unOp, ↓sxDL_convert, ↓sxDL_makeInterface, ↓sxDL_makeFunc, ↓sxDL_makeMap, ↓sxDL_makeSlice, ↓sxDL_slice, ↓sxDL_fieldAddr, ↓sxDL_field, ↓sxDL_indexAddr, ↓sxDL_index, ↓sxDL_typeAssert, ↓sxDL_extract, ↓sxDL_call, ↓sxDL_lookup, ↓sxDL_mapUpdate, ↓sxDL_range, ↓sxDL_next, ↓sxDL_entry, ↓sxDL_mapEntry, ↓sxDL_entryStore, ↓sxD_same, ↓sxStep_none, ↓bxStep_some, ↓bxOp_move, ↓bxOp_assign, ↓bxOp_pick, ↓bxOp_alloc, ↓bxOp_box, ↓bxOp_build, ↓bxOp_buildSlice, ↓bxOp_load, ↓bxOp_store, ↓bxOp_nilCheck, ↓bxOp_bin, ↓bxOp_un, ↓bxOp_makeI, ↓bxOp_makeFunc, ↓bxOp_makeSlice, ↓bxOp_slice, ↓bxOp_fieldAddr, ↓bxOp_field, ↓bxOp_indexAddr, ↓bxOp_index, ↓bxOp_assert, ↓bxOp_extract, ↓bxOp_value, ↓bxOp_len, ↓bxOp_cap, ↓bxOp_append, ↓bxOp_copy, ↓bxOp_clear, ↓bxOp_max, ↓bxOp_min, ↓bxOp_convert, ↓sxPut_none, ↓bxPut, ↓seqQ_normal, ↓seqQ_exit, ↓seqQ_ret, ↓seqQ_goto, ↓blockQ_normal, ↓blockQ_ret, ↓blockQ_goto, ↓blockQ_exit, ↓loopQ_normal, ↓loopQ_exit, ↓loopQ_ret, ↓loopQ_goto, ↓resQ_normal, ↓resQ_ret, ↓sxRes_nil, ↓sxRes_tmp, ↓bxRes_cell, ↓upd_apply, ↓ev_tmp, ↓ev_const, ↓ev_global, ↓ev_func, ↓dstAt, ↓gval_some, sxOptB_some, sxOptB_ite, mm_max, mm_min, binP_shl, binP_shr, binP_int, intBin, una_not_dec, una_nt, una_nf, una_neg, aPick_true, aPick_false, sxCallVB_fn, sxCallVB_yield, sxGuardB_u, sxGuardB_tt, sxGuardB_tf, sxGuardB_ft, sxGuardB_ff, sxIfB_t, sxIfB_f, packRes_one, packRes_two, List.map_cons, List.map_nil, List.nil_append, List.cons_append, List.append_nil, ↓reduceIte, Nat.reduceEqDiff, Nat.reduceLT, dec_T, dec_F, false_imp, true_and, and_true, true_implies, implies_true, false_and, and_false, true_or, or_true, false_or, or_false, and_self, or_self, read_relow, size_relow, low_relow, relow_relow, aLoad_relow, Nat.add_zero, Nat.mul_one, one1, Option.bind_some, ne_eq, Int.natCast_nonneg, Int.toNat_natCast, not_true_eq_false, not_false_eq_true, Option.map_some, Option.map_none, *, lenI, ldI] | (with_reducible refine sxDL_barE (by assumption) (by decide +kernel) ?_) | (with_reducible refine sxDL_bar (by decide +kernel) ?_) | (with_reducible refine sxD_bar (by decide +kernel) ?_))
      exact ⟨m, by omega, by omega, htr2, rfl⟩
    · have htr2 : trimN d d.length = m + 1 := by rw [← htr]; conv => lhs; unfold trimN; rw [if_neg hz]
      have hT : trimL d = d.take (m + 1) := by unfold trimL; rw [htr2]
      rw [hT]
      clear htr hT htr2
      repeat' (first | (with_reducible refine sxGuardB_tsp (fun h => ?_) (fun h => ?_)) | (with_reducible refine sxGuardB_fsp (fun h => ?_) (fun h => ?_)) | (with_reducible refine sxIfB_sp (fun h => ?_) (fun h => ?_)) | simp only [↓sxC_skip, ↓sxC_draw, ↓sxC_region, ↓sxC_seq, ↓bxC_cond, ↓bxC_loop, ↓sxC_block, ↓sxC_exit, ↓sxC_goto, ↓sxC_ret, ↓sxOps_nil, ↓sxOps_cons, ↓sxDraw_nil, ↓bxDraw_cons, ↓sxDL_move, ↓sxDL_assign, ↓sxDL_pick, ↓sxDL_alloc, ↓sxDL_box, ↓sxDL_build, ↓sxDL_buildSlice, ↓sxDL_insert, ↓sxDL_load, ↓sxDL_nilCheck, ↓sxDL_binOp, ↓sxDL_unOp, ↓sxDL_convert, ↓sxDL_makeInterface, ↓sxDL_makeFunc, ↓sxDL_makeMap, ↓sxDL_makeSlice, ↓sxDL_slice, ↓sxDL_fieldAddr, ↓sxDL_field, ↓sxDL_indexAddr, ↓sxDL_index, ↓sxDL_typeAssert, ↓sxDL_extract, ↓sxDL_call, ↓sxDL_lookup, ↓sxDL_mapUpdate, ↓sxDL_range, ↓sxDL_next, ↓sxDL_entry, ↓sxDL_mapEntry, ↓sxDL_entryStore, ↓sxD_same, ↓sxStep_none, ↓bxStep_some, ↓bxOp_move, ↓bxOp_assign, ↓bxOp_pick, ↓bxOp_alloc, ↓bxOp_box, ↓bxOp_build, ↓bxOp_buildSlice, ↓bxOp_load, ↓bxOp_store, ↓bxOp_nilCheck, ↓bxOp_bin, ↓bxOp_un, ↓bxOp_makeI, ↓bxOp_makeFunc, ↓bxOp_makeSlice, ↓bxOp_slice, ↓bxOp_fieldAddr, ↓bxOp_field, ↓bxOp_indexAddr, ↓bxOp_index, ↓bxOp_assert, ↓bxOp_extract, ↓bxOp_value, ↓bxOp_len, ↓bxOp_cap, ↓bxOp_append, ↓bxOp_copy, ↓bxOp_clear, ↓bxOp_max, ↓bxOp_min, ↓bxOp_convert, ↓sxPut_none, ↓bxPut, ↓seqQ_normal, ↓seqQ_exit, ↓seqQ_ret, ↓seqQ_goto, ↓blockQ_normal, ↓blockQ_ret, ↓blockQ_goto, ↓blockQ_exit, ↓loopQ_normal, ↓loopQ_exit, ↓loopQ_ret, ↓loopQ_goto, ↓resQ_normal, ↓resQ_ret, ↓sxRes_nil, ↓sxRes_tmp, ↓bxRes_cell, ↓upd_apply, ↓ev_tmp, ↓ev_const, ↓ev_global, ↓ev_func, ↓dstAt, ↓gval_some, sxOptB_some, sxOptB_ite, mm_max, mm_min, binP_shl, binP_shr, binP_int, intBin, una_not_dec, una_nt, una_nf, una_neg, aPick_true, aPick_false, sxCallVB_fn, sxCallVB_yield, sxGuardB_u, sxGuardB_tt, sxGuardB_tf, sxGuardB_ft, sxGuardB_ff, sxIfB_t, sxIfB_f, packRes_one, packRes_two, List.map_cons, List.map_nil, List.nil_append, List.cons_append, List.append_nil, ↓reduceIte, Nat.reduceEqDiff, Nat.reduceLT, dec_T, dec_F, false_imp, true_and, and_true, true_implies, implies_true, false_and, and_false, true_or, or_true, false_or, or_false, and_self, or_self, read_relow, size_relow, low_relow, relow_relow, aLoad_relow, Nat.add_zero, Nat.mul_one, one1, Option.bind_some, ne_eq, Int.natCast_nonneg, Int.toNat_natCast, not_true_eq_false, not_false_eq_true, Option.map_some, Option.map_none, *, lenI, ldI] | (with_reducible refine sxDL_barE (by assumption) (by decide +kernel) ?_) | (with_reducible refine sxDL_bar (by decide +kernel) ?_) | (with_reducible refine sxD_bar (by decide +kernel) ?_))
      refine sxL_of (fun q ρ H2 => ∃ (i : Nat) (v' : Value), q = (m + 1) - i ∧ i ≤ (m + 1) ∧ Lst 3 .i64 H1 H2 v' (d.take i) ∧ ρ 0 = .slice a d.length cap ∧ ρ 3 = .int .i64 (((m + 1) : Nat) : Int) ∧ ρ 4 = v' ∧ ρ 5 = .int .i64 i)
        ⟨0, _, rfl, Nat.zero_le _, Lst.nil (Keep.refl H1) hg, by assumption, by assumption, rfl, rfl⟩ ?_
      clear e0 e3
      rintro q ρ H2 ⟨i, v', rfl, hi, L, e0, e3, e4, e5⟩
      by_cases hlt : i < (m + 1)
      · have hlt' : (i : Int) < (((m + 1) : Nat) : Int) := by omega
        have hid : i < d.length := by omega
        have p1 := SlI_ix hd hid
        have p2 := ((hd.keep L.keep).rdI hid).1
        have hw := wrap_succ hid hml
        have hob1 := L.push okI hg (by rw [List.length_take]; omega) (d.getD i 0)
        obtain ⟨v3, H3, p3, L3⟩ := hob1
        have b1 := bsI H2 (d.getD i 0)
        have hts : d.take i ++ [d.getD i 0] = d.take (i + 1) := by rw [List.take_add_one, List.getElem?_eq_getElem hid, List.getD_eq_getElem?_getD, List.getElem?_eq_getElem hid]; rfl
        rw [hts] at L3
        clear hd hts
        repeat' (first | (with_reducible refine sxGuardB_tsp (fun h => ?_) (fun h => ?_)) | (with_reducible refine sxGuardB_fsp (fun h => ?_) (fun h => ?_)) | (with_reducible refine sxIfB_sp (fun h => ?_) (fun h => ?_)) | simp only [↓sxC_skip, ↓sxC_draw, ↓sxC_region, ↓sxC_seq, ↓bxC_cond, ↓bxC_loop, ↓sxC_block, ↓sxC_exit, ↓sxC_goto, ↓sxC_ret, ↓sxOps_nil, ↓sxOps_cons, ↓sxDraw_nil, ↓bxDraw_cons, ↓sxDL_move, ↓sxDL_assign, ↓sxDL_pick, ↓sxDL_alloc, ↓sxDL_box, ↓sxDL_build, ↓sxDL_buildSlice, ↓sxDL_insert, ↓sxDL_load, ↓sxDL_nilCheck, ↓sxDL_binOp, ↓sxDL_unOp, ↓sxDL_convert, ↓sxDL_makeInterface, ↓sxDL_makeFunc, ↓sxDL_makeMap, ↓sxDL_makeSlice, ↓sxDL_slice, ↓sxDL_fieldAddr, ↓sxDL_field, ↓sxDL_indexAddr, ↓sxDL_index, ↓sxDL_typeAssert, ↓sxDL_extract, ↓sxDL_call, ↓sxDL_lookup, ↓sxDL_mapUpdate, ↓sxDL_range, ↓sxDL_next, ↓sxDL_entry, ↓sxDL_mapEntry, ↓sxDL_entryStore, ↓sxD_same, ↓sxStep_none, ↓bxStep_some, ↓bxOp_move, ↓bxOp_assign, ↓bxOp_pick, ↓bxOp_alloc, ↓bxOp_box, ↓bxOp_build, ↓bxOp_buildSlice, ↓bxOp_load, ↓bxOp_store, ↓bxOp_nilCheck, ↓bxOp_bin, ↓bxOp_un, ↓bxOp_makeI, ↓bxOp_makeFunc, ↓bxOp_makeSlice, ↓bxOp_slice, ↓bxOp_fieldAddr, ↓bxOp_field, ↓bxOp_indexAddr, ↓bxOp_index, ↓bxOp_assert, ↓bxOp_extract, ↓bxOp_value, ↓bxOp_len, ↓bxOp_cap, ↓bxOp_append, ↓bxOp_copy, ↓bxOp_clear, ↓bxOp_max, ↓bxOp_min, ↓bxOp_convert, ↓sxPut_none, ↓bxPut, ↓seqQ_normal, ↓seqQ_exit, ↓seqQ_ret, ↓seqQ_goto, ↓blockQ_normal, ↓blockQ_ret, ↓blockQ_goto, ↓blockQ_exit, ↓loopQ_normal, ↓loopQ_exit, ↓loopQ_ret, ↓loopQ_goto, ↓resQ_normal, ↓resQ_ret, ↓sxRes_nil, ↓sxRes_tmp, ↓bxRes_cell, ↓upd_apply, ↓ev_tmp, ↓ev_const, ↓ev_global, ↓ev_func, ↓dstAt, ↓gval_some, sxOptB_some, sxOptB_ite, mm_max, mm_min, binP_shl, binP_shr, binP_int, intBin, una_not_dec, una_nt, una_nf, una_neg, aPick_true, aPick_false, sxCallVB_fn, sxCallVB_yield, sxGuardB_u, sxGuardB_tt, sxGuardB_tf, sxGuardB_ft, sxGuardB_ff, sxIfB_t, sxIfB_f, packRes_one, packRes_two, List.map_cons, List.map_nil, List.nil_append, List.cons_append, List.append_nil, ↓reduceIte, Nat.reduceEqDiff, Nat.reduceLT, dec_T, dec_F, false_imp, true_and, and_true, true_implies, implies_true, false_and, and_false, true_or, or_true, false_or, or_false, and_self, or_self, read_relow, size_relow, low_relow, relow_relow, aLoad_relow, Nat.add_zero, Nat.mul_one, one1, Option.bind_some, ne_eq, Int.natCast_nonneg, Int.toNat_natCast, not_true_eq_false, not_false_eq_true, Option.map_some, Option.map_none, *, lenI, ldI] | (with_reducible refine sxDL_barE (by assumption) (by decide +kernel) ?_) | (with_reducible refine sxDL_bar (by decide +kernel) ?_) | (with_reducible refine sxD_bar (by decide +kernel) ?_))
        exact ⟨_, by omega, i + 1, _, rfl, by omega, L3, rfl, rfl⟩
      · have hlt' : ¬ (i : Int) < (((m + 1) : Nat) : Int) := by omega
        have hie : i = (m + 1) := by omega
        have hob2 := L.slF (fun z hz => by
          obtain ⟨j, hj, rfl⟩ := List.getElem_of_mem (List.mem_of_mem_take hz)
          have := (hd.rdI hj).2
          rwa [List.getD_eq_getElem?_getD, List.getElem?_eq_getElem hj] at this) (by rw [List.length_take]; omega)
        rw [hie] at hob2
        obtain ⟨rr, sl, hfr⟩ := hob2
        have hgL := L.grp
        have hF := L.fine
        have hKL := L.keep
        clear hd hie
        repeat' (first | (with_reducible refine sxGuardB_tsp (fun h => ?_) (fun h => ?_)) | (with_reducible refine sxGuardB_fsp (fun h => ?_) (fun h => ?_)) | (with_reducible refine sxIfB_sp (fun h => ?_) (fun h => ?_)) | simp only [↓sxC_skip, ↓sxC_draw, ↓sxC_region, ↓sxC_seq, ↓bxC_cond, ↓bxC_loop, ↓sxC_block, ↓sxC_exit, ↓sxC_goto, ↓sxC_ret, ↓sxOps_nil, ↓sxOps_cons, ↓sxDraw_nil, ↓bxDraw_cons, ↓sxDL_move, ↓sxDL_assign, ↓sxDL_pick, ↓sxDL_alloc, ↓sxDL_box, ↓sxDL_build, ↓sxDL_buildSlice, ↓sxDL_insert, ↓sxDL_load, ↓sxDL_nilCheck, ↓sxDL_binOp, ↓sxDL_unOp, ↓sxDL_convert, ↓sxDL_makeInterface, ↓sxDL_makeFunc, ↓sxDL_makeMap, ↓sxDL_makeSlice, ↓sxDL_slice, ↓sxDL_fieldAddr, ↓sxDL_field, ↓sxDL_indexAddr, ↓sxDL_index, ↓sxDL_typeAssert, ↓sxDL_extract, ↓sxDL_call, ↓sxDL_lookup, ↓sxDL_mapUpdate, ↓sxDL_range, ↓sxDL_next, ↓sxDL_entry, ↓sxDL_mapEntry, ↓sxDL_entryStore, ↓sxD_same, ↓sxStep_none, ↓bxStep_some, ↓bxOp_move, ↓bxOp_assign, ↓bxOp_pick, ↓bxOp_alloc, ↓bxOp_box, ↓bxOp_build, ↓bxOp_buildSlice, ↓bxOp_load, ↓bxOp_store, ↓bxOp_nilCheck, ↓bxOp_bin, ↓bxOp_un, ↓bxOp_makeI, ↓bxOp_makeFunc, ↓bxOp_makeSlice, ↓bxOp_slice, ↓bxOp_fieldAddr, ↓bxOp_field, ↓bxOp_indexAddr, ↓bxOp_index, ↓bxOp_assert, ↓bxOp_extract, ↓bxOp_value, ↓bxOp_len, ↓bxOp_cap, ↓bxOp_append, ↓bxOp_copy, ↓bxOp_clear, ↓bxOp_max, ↓bxOp_min, ↓bxOp_convert, ↓sxPut_none, ↓bxPut, ↓seqQ_normal, ↓seqQ_exit, ↓seqQ_ret, ↓seqQ_goto, ↓blockQ_normal, ↓blockQ_ret, ↓blockQ_goto, ↓blockQ_exit, ↓loopQ_normal, ↓loopQ_exit, ↓loopQ_ret, ↓loopQ_goto, ↓resQ_normal, ↓resQ_ret, ↓sxRes_nil, ↓sxRes_tmp, ↓bxRes_cell, ↓upd_apply, ↓ev_tmp, ↓ev_const, ↓ev_global, ↓ev_func, ↓dstAt, ↓gval_some, sxOptB_some, sxOptB_ite, mm_max, mm_min, binP_shl, binP_shr, binP_int, intBin, una_not_dec, una_nt, una_nf, una_neg, aPick_true, aPick_false, sxCallVB_fn, sxCallVB_yield, sxGuardB_u, sxGuardB_tt, sxGuardB_tf, sxGuardB_ft, sxGuardB_ff, sxIfB_t, sxIfB_f, packRes_one, packRes_two, List.map_cons, List.map_nil, List.nil_append, List.cons_append, List.append_nil, ↓reduceIte, Nat.reduceEqDiff, Nat.reduceLT, dec_T, dec_F, false_imp, true_and, and_true, true_implies, implies_true, false_and, and_false, true_or, or_true, false_or, or_false, and_self, or_self, read_relow, size_relow, low_relow, relow_relow, aLoad_relow, Nat.add_zero, Nat.mul_one, one1, Option.bind_some, ne_eq, Int.natCast_nonneg, Int.toNat_natCast, not_true_eq_false, not_false_eq_true, Option.map_some, Option.map_none, *, lenI] | (with_reducible refine sxDL_barE (by assumption) (by decide +kernel) ?_) | (with_reducible refine sxDL_bar (by decide +kernel) ?_) | (with_reducible refine sxD_bar (by decide +kernel) ?_))
        exact ⟨rr, 0, sl, hfr⟩

theorem cmpD_runs (v1 v2 : Value) (a b : List Int) (r1 o1 r2 o2 : Nat) (H : Heap) (hL : H.low ≤ H.size) (h1 : SlI .i64 H v1 a r1 o1) (h2 : SlI .i64 H v2 b r2 o2) : Runs Tryd.prog S (.fn 85) [v1, v2] H (.int .i64 (cmpL a b)) H := by
  suffices h : WCall Tryd.prog S (.fn 85) [v1, v2] H (fun v H' => v = .int .i64 (cmpL a b) ∧ H' = H) by
    obtain ⟨_, _, hr, rfl, rfl⟩ := h; exact hr
  obtain ⟨a1, c1, rfl⟩ := h1.v0
  obtain ⟨a2, c2, rfl⟩ := h2.v0
  have hml := h1.ml
  have hmx : Go.maxLen = 9223372036854775807 := rfl
  have hw0 : IntKind.i64.wrap ((a.length : Int) - 1) = (a.length : Int) - 1 := IntWalk.i64_in _ (by omega)
  refine call_of Tryd.func85 rfl (Nat.le_of_ble_eq_true rfl) (hS.no rfl _ _) ?_
  rw [Tryd.ntmps85, Tryd.results85]
  repeat' (first | (with_reducible refine sxGuardB_tsp (fun h => ?_) (fun h => ?_)) | (with_reducible refine sxGuardB_fsp (fun h => ?_) (fun h => ?_)) | (with_reducible refine sxIfB_sp (fun h => ?_) (fun h => ?_)) | simp only [↓sxC_skip, ↓sxC_draw, ↓sxC_region, ↓sxC_seq, ↓bxC_cond, ↓bxC_loop, ↓sxC_block, ↓sxC_exit, ↓sxC_goto, ↓sxC_ret, ↓sxOps_nil, ↓sxOps_cons, ↓sxDraw_nil, ↓bxDraw_cons, ↓sxDL_move, ↓sxDL_assign, ↓sxDL_pick, ↓sxDL_alloc, ↓sxDL_box, ↓sxDL_build, ↓sxDL_buildSlice, ↓sxDL_insert, ↓sxDL_load, ↓sxDL_nilCheck, ↓sxDL_binOp, ↓sxDL_unOp, ↓sxDL_convert, ↓sxDL_makeInterface, ↓sxDL_makeFunc, ↓sxDL_makeMap, ↓sxDL_makeSlice, ↓sxDL_slice, ↓sxDL_fieldAddr, ↓sxDL_field, ↓sxDL_indexAddr, ↓sxDL_index, ↓sxDL_typeAssert, ↓sxDL_extract, ↓sxDL_call, ↓sxDL_lookup, ↓sxDL_mapUpdate, ↓sxDL_range, ↓sxDL_next, ↓sxDL_entry, ↓sxDL_mapEntry, ↓sxDL_entryStore, ↓sxD_same, ↓sxStep_none, ↓bxStep_some, ↓bxOp_move, ↓bxOp_assign, ↓bxOp_pick, ↓bxOp_alloc, ↓bxOp_box, ↓bxOp_build, ↓bxOp_buildSlice, ↓bxOp_load, ↓bxOp_store, ↓bxOp_nilCheck, ↓bxOp_bin, ↓bxOp_un, ↓bxOp_makeI, ↓bxOp_makeFunc, ↓bxOp_makeSlice, ↓bxOp_slice, ↓bxOp_fieldAddr, ↓bxOp_field, ↓bxOp_indexAddr, ↓bxOp_index, ↓bxOp_assert, ↓bxOp_extract, ↓bxOp_value, ↓bxOp_len, ↓bxOp_cap, ↓bxOp_append, ↓bxOp_copy, ↓bxOp_clear, ↓bxOp_max, ↓bxOp_min, ↓bxOp_convert, ↓sxPut_none, ↓bxPut, ↓seqQ_normal, ↓seqQ_exit, ↓seqQ_ret, ↓seqQ_goto, ↓blockQ_normal, ↓blockQ_ret, ↓blockQ_goto, ↓blockQ_exit, ↓loopQ_normal, ↓loopQ_exit, ↓loopQ_ret, ↓loopQ_goto, ↓resQ_normal, ↓resQ_ret, ↓sxRes_nil, ↓sxRes_tmp, ↓bxRes_cell, ↓upd_apply, ↓ev_tmp, ↓ev_const, ↓ev_global, ↓ev_func, ↓dstAt, ↓gval_some, sxOptB_some, sxOptB_ite, mm_max, mm_min, binP_shl, binP_shr, binP_int, intBin, una_not_dec, una_nt, una_nf, una_neg, aPick_true, aPick_false, sxCallVB_fn, sxCallVB_yield, sxGuardB_u, sxGuardB_tt, sxGuardB_tf, sxGuardB_ft, sxGuardB_ff, sxIfB_t, sxIfB_f, packRes_one, packRes_two, List.map_cons, List.map_nil, List.nil_append, List.cons_append, List.append_nil, ↓reduceIte, Nat.reduceEqDiff, Nat.reduceLT, dec_T, dec_F, false_imp, true_and, and_true, true_implies, implies_true, false_and, and_false, true_or, or_true, false_or, or_false, and_self, or_self, read_relow, size_relow, low_relow, relow_relow, aLoad_relow, Nat.add_zero, Nat.mul_one, one1, Option.bind_some, ne_eq, Int.natCast_nonneg, Int.toNat_natCast, not_true_eq_false, not_false_eq_true, Option.map_some, Option.map_none, *, argF, List.getD_cons_zero, List.getD_cons_succ, lenI] | (with_reducible refine sxDL_barE (by assumption) (by decide +kernel) ?_) | (with_reducible refine sxDL_bar (by decide +kernel) ?_) | (with_reducible refine sxD_bar (by decide +kernel) ?_))
  all_goals first
    | exact congrArg (Value.int .i64) (by unfold cmpL; rw [if_pos (by omega)])
    | exact congrArg (Value.int .i64) (by unfold cmpL; rw [if_neg (by omega), if_pos (by omega)])
    | exact ⟨congrArg (Value.int .i64) (by unfold cmpL; rw [if_pos (by omega)]), rfl⟩
    | exact ⟨congrArg (Value.int .i64) (by unfold cmpL; rw [if_neg (by omega), if_pos (by omega)]), rfl⟩
    | skip
  have hll : a.length ≤ b.length ∧ b.length ≤ a.length := by omega
  have hc : cmpL a b = cmpN a b a.length := by unfold cmpL; rw [if_neg (by omega), if_neg (by omega)]
  rw [hc]
  refine sxL_of (fun m ρ H1 => m ≤ a.length ∧ cmpN a b a.length = cmpN a b m ∧ H1 = H ∧ ρ 0 = .slice a1 a.length c1 ∧ ρ 1 = .slice a2 b.length c2 ∧ ρ 5 = .int .i64 ((m : Int) - 1)) (n := a.length) ⟨Nat.le_refl _, rfl, rfl, rfl, rfl, rfl⟩ ?_
  rintro m ρ H1 ⟨hm, hcm, rfl, e0, e1, e5⟩
  rw [hcm]
  cases m with
  | zero =>
    have h0 : ¬ (0 : Int) ≤ ((0 : Nat) : Int) - 1 := by omega
    clear h1 h2 hcm hc hw0
    repeat' (first | (with_reducible refine sxGuardB_tsp (fun h => ?_) (fun h => ?_)) | (with_reducible refine sxGuardB_fsp (fun h => ?_) (fun h => ?_)) | (with_reducible refine sxIfB_sp (fun h => ?_) (fun h => ?_)) | simp only [↓sxC_skip, ↓sxC_draw, ↓sxC_region, ↓sxC_seq, ↓bxC_cond, ↓bxC_loop, ↓sxC_block, ↓sxC_exit, ↓sxC_goto, ↓sxC_ret, ↓sxOps_nil, ↓sxOps_cons, ↓sxDraw_nil, ↓bxDraw_cons, ↓sxDL_move, ↓sxDL_assign, ↓sxDL_pick, ↓sxDL_alloc, ↓sxDL_box, ↓sxDL_build, ↓sxDL_buildSlice, ↓sxDL_insert, ↓sxDL_load, ↓sxDL_nilCheck, ↓sxDL_binOp, ↓sxDL_unOp, ↓sxDL_convert, ↓sxDL_makeInterface, ↓sxDL_makeFunc, ↓sxDL_makeMap, ↓sxDL_makeSlice, ↓sxDL_slice, ↓sxDL_fieldAddr, ↓sxDL_field, ↓sxDL_indexAddr, ↓sxDL_index, ↓sxDL_typeAssert, ↓sxDL_extract, ↓sxDL_call, ↓sxDL_lookup, ↓sxDL_mapUpdate, ↓sxDL_range, ↓sxDL_next, ↓sxDL_entry, ↓sxDL_mapEntry, ↓sxDL_entryStore, ↓sxD_same, ↓sxStep_none, ↓bxStep_some, ↓bxOp_move, ↓bxOp_assign, ↓bxOp_pick, ↓bxOp_alloc, ↓bxOp_box, ↓bxOp_build, ↓bxOp_buildSlice, ↓bxOp_load, ↓bxOp_store, ↓bxOp_nilCheck, ↓bxOp_bin, ↓bxOp_un, ↓bxOp_makeI, ↓bxOp_makeFunc, ↓bxOp_makeSlice, ↓bxOp_slice, ↓bxOp_fieldAddr, ↓bxOp_field, ↓bxOp_indexAddr, ↓bxOp_index, ↓bxOp_assert, ↓bxOp_extract, ↓bxOp_value, ↓bxOp_len, ↓bxOp_cap, ↓bxOp_append, ↓bxOp_copy, ↓bxOp_clear, ↓bxOp_max, ↓bxOp_min, ↓bxOp_convert, ↓sxPut_none, ↓bxPut, ↓seqQ_normal, ↓seqQ_exit, ↓seqQ_ret, ↓seqQ_goto, ↓blockQ_normal, ↓blockQ_ret, ↓blockQ_goto, ↓blockQ_exit, ↓loopQ_normal, ↓loopQ_exit, ↓loopQ_ret, ↓loopQ_goto, ↓resQ_normal, ↓resQ_ret, ↓sxRes_nil, ↓sxRes_tmp, ↓bxRes_cell, ↓upd_apply, ↓ev_tmp, ↓ev_const, ↓ev_global, ↓ev_func, ↓dstAt, ↓gval_some, sxOptB_some, sxOptB_ite, mm_max, mm_min, binP_shl, binP_shr, binP_int, intBin, una_not_dec, una_nt, una_nf, una_neg, aPick_true, aPick_false, sxCallVB_fn, sxCallVB_yield, sxGuardB_u, sxGuardB_tt, sxGuardB_tf, sxGuardB_ft, sxGuardB_ff, sxIfB_t, sxIfB_f, packRes_one, packRes_two, List.map_cons, List.map_nil, List.nil_append, List.cons_append, List.append_nil, ↓reduceIte, Nat.reduceEqDiff, Nat.reduceLT, dec_T, dec_F, false_imp, true_and, and_true, true_implies, implies_true, false_and, and_false, true_or, or_true, false_or, or_false, and_self, or_self, read_relow, size_relow, low_relow, relow_relow, aLoad_relow, Nat.add_zero, Nat.mul_one, one1, Option.bind_some, ne_eq, Int.natCast_nonneg, Int.toNat_natCast, not_true_eq_false, not_false_eq_true, Option.map_some, Option.map_none, *, lenI] | (with_reducible refine sxDL_barE (by assumption) (by decide +kernel) ?_) | (with_reducible refine sxDL_bar (by decide +kernel) ?_) | (with_reducible refine sxD_bar (by decide +kernel) ?_))
    rfl
  | succ m =>
    have hla : m < a.length := by omega
    have hlb : m < b.length := by omega
    have p1 := SlI_ix h1 hla
    have p2 := SlI_ix h2 hlb
    have q1 := (h1.rdI hla).1
    have q2 := (h2.rdI hlb).1
    have hidx : ((m + 1 : Nat) : Int) - 1 = (m : Int) := by omega
    rw [hidx] at e5
    have hge : (0 : Int) ≤ (m : Int) := by omega
    have hw : IntKind.i64.wrap ((m : Int) - 1) = (m : Int) - 1 := IntWalk.i64_in _ (by omega)
    have hs : cmpN a b (m + 1) = if a.getD m 0 < b.getD m 0 then -1 else if b.getD m 0 < a.getD m 0 then 1 else cmpN a b m := rfl
    have hcm2 : ¬ a.getD m 0 < b.getD m 0 → ¬ b.getD m 0 < a.getD m 0 → cmpN a b a.length = cmpN a b m := fun x y => by rw [hcm, hs, if_neg x, if_neg y]
    rw [hs]
    clear h1 h2 hcm hc hw0 hs hidx
    repeat' (first | (with_reducible refine sxGuardB_tsp (fun h => ?_) (fun h => ?_)) | (with_reducible refine sxGuardB_fsp (fun h => ?_) (fun h => ?_)) | (with_reducible refine sxIfB_sp (fun h => ?_) (fun h => ?_)) | simp only [↓sxC_skip, ↓sxC_draw, ↓sxC_region, ↓sxC_seq, ↓bxC_cond, ↓bxC_loop, ↓sxC_block, ↓sxC_exit, ↓sxC_goto, ↓sxC_ret, ↓sxOps_nil, ↓sxOps_cons, ↓sxDraw_nil, ↓bxDraw_cons, ↓sxDL_move, ↓sxDL_assign, ↓sxDL_pick, ↓sxDL_alloc, ↓sxDL_box, ↓sxDL_build, ↓sxDL_buildSlice, ↓sxDL_insert, ↓sxDL_load, ↓sxDL_nilCheck, ↓sxDL_binOp, ↓sxDL_unOp, ↓sxDL_convert, ↓sxDL_makeInterface, ↓sxDL_makeFunc, ↓sxDL_makeMap, ↓sxDL_makeSlice, ↓sxDL_slice, ↓sxDL_fieldAddr, ↓sxDL_field, ↓sxDL_indexAddr, ↓sxDL_index, ↓sxDL_typeAssert, ↓sxDL_extract, ↓sxDL_call, ↓sxDL_lookup, ↓sxDL_mapUpdate, ↓sxDL_range, ↓sxDL_next, ↓sxDL_entry, ↓sxDL_mapEntry, ↓sxDL_entryStore, ↓sxD_same, ↓sxStep_none, ↓bxStep_some, ↓bxOp_move, ↓bxOp_assign, ↓bxOp_pick, ↓bxOp_alloc, ↓bxOp_box, ↓bxOp_build, ↓bxOp_buildSlice, ↓bxOp_load, ↓bxOp_store, ↓bxOp_nilCheck, ↓bxOp_bin, ↓bxOp_un, ↓bxOp_makeI, ↓bxOp_makeFunc, ↓bxOp_makeSlice, ↓bxOp_slice, ↓bxOp_fieldAddr, ↓bxOp_field, ↓bxOp_indexAddr, ↓bxOp_index, ↓bxOp_assert, ↓bxOp_extract, ↓bxOp_value, ↓bxOp_len, ↓bxOp_cap, ↓bxOp_append, ↓bxOp_copy, ↓bxOp_clear, ↓bxOp_max, ↓bxOp_min, ↓bxOp_convert, ↓sxPut_none, ↓bxPut, ↓seqQ_normal, ↓seqQ_exit, ↓seqQ_ret, ↓seqQ_goto, ↓blockQ_normal, ↓blockQ_ret, ↓blockQ_goto, ↓blockQ_exit, ↓loopQ_normal, ↓loopQ_exit, ↓loopQ_ret, ↓loopQ_goto, ↓resQ_normal, ↓resQ_ret, ↓sxRes_nil, ↓sxRes_tmp, ↓bxRes_cell, ↓upd_apply, ↓ev_tmp, ↓ev_const, ↓ev_global, ↓ev_func, ↓dstAt, ↓gval_some, sxOptB_some, sxOptB_ite, mm_max, mm_min, binP_shl, binP_shr, binP_int, intBin, una_not_dec, una_nt, una_nf, una_neg, aPick_true, aPick_false, sxCallVB_fn, sxCallVB_yield, sxGuardB_u, sxGuardB_tt, sxGuardB_tf, sxGuardB_ft, sxGuardB_ff, sxIfB_t, sxIfB_f, packRes_one, packRes_two, List.map_cons, List.map_nil, List.nil_append, List.cons_append, List.append_nil, ↓reduceIte, Nat.reduceEqDiff, Nat.reduceLT, dec_T, dec_F, false_imp, true_and, and_true, true_implies, implies_true, false_and, and_false, true_or, or_true, false_or, or_false, and_self, or_self, read_relow, size_relow, low_relow, relow_relow, aLoad_relow, Nat.add_zero, Nat.mul_one, one1, Option.bind_some, ne_eq, Int.natCast_nonneg, Int.toNat_natCast, not_true_eq_false, not_false_eq_true, Option.map_some, Option.map_none, *, lenI, ldI] | (with_reducible refine sxDL_barE (by assumption) (by decide +kernel) ?_) | (with_reducible refine sxDL_bar (by decide +kernel) ?_) | (with_reducible refine sxD_bar (by decide +kernel) ?_))
    all_goals first
      | exact congrArg (Value.int .i64) (by rw [if_pos (by assumption)])
      | exact congrArg (Value.int .i64) (by rw [if_neg (by assumption), if_pos (by assumption)])
      | exact ⟨m, by omega, by omega, hcm2 (by assumption) (by assumption), rfl⟩
      | exact ⟨m, by omega, by omega, rfl, rfl⟩
      | trace_state
end Go.Proofs.YtnbhjbelgmkpeaaDoor

namespace Go.Proofs.YtnbhjbelgmkpeaaDoor
open Go Go.AM
set_option maxRecDepth 10000
set_option linter.unusedSimpArgs false

/-- What 'make' makes, of numbers. -/
theorem mkI (H : Heap) {l : Int} (h0 : 0 ≤ l) (h1 : l ≤ 268435456) : aMakeSlice Tryd.prog H 25 (.int .i64 l) (.int .i64 l) = some (.slice (some ⟨H.size, 0, none⟩) l.toNat l.toNat, H.newExact ((List.replicate l.toNat (0 : Int)).map fun z => .int .i64 z) 3) := by
  have h2 := makeSlice_eq (P := Tryd.prog) (t := 25) (e := 3) (inf := Tryd.t3) (z := .int .i64 0) Tryd.underlying25 (by kernel_rfl) (by kernel_rfl) rfl (by kernel_rfl) (of_decide_eq_true (by kernel_rfl)) H .i64 .i64 h0 h1
  rw [h2]
  have h3 : Tryd.t3.size = 1 := by kernel_rfl
  rw [h3, Nat.mul_one, List.map_replicate]
  rfl
/-- A store of a number. -/
theorem stI {H : Heap} {r : Nat} {w : List Int} (h : Own H r 3 (w.map fun z => .int .i64 z)) (z : Int) {o : Nat} (ho : o < w.length) :
    ∃ H2, aStore Tryd.prog H 3 (.pointer (some ⟨r, o, none⟩)) (.int .i64 z) = some H2 ∧ Own H2 r 3 ((w.set o z).map fun z => .int .i64 z) ∧ (∀ H0, Keep H0 H → H0.size ≤ r → Keep H0 H2) ∧ H2.size = H.size := by
  obtain ⟨i, _, hi, hs, _⟩ := infoI
  obtain ⟨H2, h1, h2, h4, _, h3⟩ := h.store (t := 3) hi (v := .int .i64 z) (new := [.int .i64 z]) rfl (hs.trans rfl) rfl (o := o) (by rw [List.length_map]; exact ho)
  rw [splice_map ho] at h2
  exact ⟨H2, h1, h2, h3, h4⟩

theorem mul_step {P x ab c s V W : Int} (hs : s = x + ab + c) (hi : V + P * c = W) : (V + P * (s % 10000 - x)) + P * 10000 * (s / 10000) = W + P * ab := by
  have h1 : 10000 * (s / 10000) + s % 10000 = s := Int.mul_ediv_add_emod s 10000
  have h2 : P * (s % 10000 - x) + P * 10000 * (s / 10000) = P * ab + P * c := by
    rw [Int.mul_assoc, ← Int.mul_add, ← Int.mul_add]
    congr 1
    omega
  omega
theorem prod_bound {x y : Int} (hx : 0 ≤ x ∧ x ≤ 9999) (hy : 0 ≤ y ∧ y ≤ 9999) : 0 ≤ x * y ∧ x * y ≤ 99980001 :=
  ⟨Int.mul_nonneg hx.1 hy.1, Int.le_trans (Int.mul_le_mul hx.2 hy.2 hy.1 (by omega)) (by decide)⟩
theorem val_replicate (n : Nat) : val (List.replicate n 0) = 0 := by
  induction n with
  | zero => rfl
  | succ n ih => rw [List.replicate_succ]; simp [val, ih]

variable {S : AM.Sys} (hS : Only S 10)
include hS

theorem mulD_runs (v1 v2 : Value) (a b : List Int) (r1 o1 r2 o2 : Nat) (H : Heap) (hg : Grp H) (hL : H.low ≤ H.size) (h1 : SlI .i64 H v1 a r1 o1) (h2 : SlI .i64 H v2 b r2 o2) (ha : Digs a) (hb : Digs b) (hsa : a.length ≤ 1000) (hsb : b.length ≤ 1000) :
    ∃ w, Dg w (val a * val b).toNat ∧ w.length ≤ a.length + b.length ∧ Out S 87 [v1, v2] H w := by
  suffices h : WCall Tryd.prog S (.fn 87) [v1, v2] H (fun v H' => ∃ w r' o', Dg w (val a * val b).toNat ∧ w.length ≤ a.length + b.length ∧ Keep H H' ∧ Grp H' ∧ SlI .i64 H' v w r' o' ∧ Fine v ∧ (0 < w.length → H.size ≤ r')) by
    obtain ⟨v', H', hr, w, r', o', h1, h2, h3, h4, h5, h6, h7⟩ := h; exact ⟨w, h1, h2, H', v', r', o', h3, h4, h5, h6, h7, hr⟩
  obtain ⟨a1, c1, rfl⟩ := h1.v0
  obtain ⟨a2, c2, rfl⟩ := h2.v0
  have hmk := mkI H (l := (a.length : Int) + (b.length : Int)) (by omega) (by omega)
  have hto : ((a.length : Int) + (b.length : Int)).toNat = a.length + b.length := by omega
  rw [hto] at hmk
  obtain ⟨H1, e1, hK1, hs1, zz, _⟩ := box1 H ((List.replicate (a.length + b.length) (0 : Int)).map fun z => .int .i64 z) 3
  have w1 : Own H1 H.size 3 ((List.replicate (a.length + b.length) (0 : Int)).map fun z => .int .i64 z) := e1 ▸ Own.new H _ _
  have hw0 : IntKind.i64.wrap ((a.length : Int) + (b.length : Int)) = (a.length : Int) + (b.length : Int) := IntWalk.i64_in _ (by omega)
  clear zz
  refine call_of Tryd.func87 rfl (Nat.le_of_ble_eq_true rfl) (hS.no rfl _ _) ?_
  rw [Tryd.ntmps87, Tryd.results87]
  repeat' (first | (with_reducible refine sxGuardB_tsp (fun h => ?_) (fun h => ?_)) | (with_reducible refine sxGuardB_fsp (fun h => ?_) (fun h => ?_)) | (with_reducible refine sxIfB_sp (fun h => ?_) (fun h => ?_)) | simp only [↓sxC_skip, ↓sxC_draw, ↓sxC_region, ↓sxC_seq, ↓bxC_cond, ↓bxC_loop, ↓sxC_block, ↓sxC_exit, ↓sxC_goto, ↓sxC_ret, ↓sxOps_nil, ↓sxOps_cons, ↓sxDraw_nil, ↓bxDraw_cons, ↓sxDL_move, ↓sxDL_assign, ↓sxDL_pick, ↓sxDL_alloc, ↓sxDL_box, ↓sxDL_build, ↓sxDL_buildSlice, ↓sxDL_insert, ↓sxDL_load, ↓sxDL_nilCheck, ↓sxDL_binOp, ↓sxDL_unOp, ↓sxDL_convert, ↓sxDL_makeInterface, ↓sxDL_makeFunc, ↓sxDL_makeMap, ↓sxDL_makeSlice, ↓sxDL_slice, ↓sxDL_fieldAddr, ↓sxDL_field, ↓sxDL_indexAddr, ↓sxDL_index, ↓sxDL_typeAssert, ↓sxDL_extract, ↓sxDL_call, ↓sxDL_lookup, ↓sxDL_mapUpdate, ↓sxDL_range, ↓sxDL_next, ↓sxDL_entry, ↓sxDL_mapEntry, ↓sxDL_entryStore, ↓sxD_same, ↓sxStep_none, ↓bxStep_some, ↓bxOp_move, ↓bxOp_assign, ↓bxOp_pick, ↓bxOp_alloc, ↓bxOp_box, ↓bxOp_build, ↓bxOp_buildSlice, ↓bxOp_load, ↓bxOp_store, ↓bxOp_nilCheck, ↓bxOp_bin, ↓bxOp_un, ↓bxOp_makeI, ↓bxOp_makeFunc, ↓bxOp_makeSlice, ↓bxOp_slice, ↓bxOp_fieldAddr, ↓bxOp_field, ↓bxOp_indexAddr, ↓bxOp_index, ↓bxOp_assert, ↓bxOp_extract, ↓bxOp_value, ↓bxOp_len, ↓bxOp_cap, ↓bxOp_append, ↓bxOp_copy, ↓bxOp_clear, ↓bxOp_max, ↓bxOp_min, ↓bxOp_convert, ↓sxPut_none, ↓bxPut, ↓seqQ_normal, ↓seqQ_exit, ↓seqQ_ret, ↓seqQ_goto, ↓blockQ_normal, ↓blockQ_ret, ↓blockQ_goto, ↓blockQ_exit, ↓loopQ_normal, ↓loopQ_exit, ↓loopQ_ret, ↓loopQ_goto, ↓resQ_normal, ↓resQ_ret, ↓sxRes_nil, ↓sxRes_tmp, ↓bxRes_cell, ↓upd_apply, ↓ev_tmp, ↓ev_const, ↓ev_global, ↓ev_func, ↓dstAt, ↓gval_some, sxOptB_some, sxOptB_ite, mm_max, mm_min, binP_shl, binP_shr, binP_int, intBin, una_not_dec, una_nt, una_nf, una_neg, aPick_true, aPick_false, sxCallVB_fn, sxCallVB_yield, sxGuardB_u, sxGuardB_tt, sxGuardB_tf, sxGuardB_ft, sxGuardB_ff, sxIfB_t, sxIfB_f, packRes_one, packRes_two, List.map_cons, List.map_nil, List.nil_append, List.cons_append, List.append_nil, ↓reduceIte, Nat.reduceEqDiff, Nat.reduceLT, dec_T, dec_F, false_imp, true_and, and_true, true_implies, implies_true, false_and, and_false, true_or, or_true, false_or, or_false, and_self, or_self, read_relow, size_relow, low_relow, relow_relow, aLoad_relow, Nat.add_zero, Nat.mul_one, one1, Option.bind_some, ne_eq, Int.natCast_nonneg, Int.toNat_natCast, not_true_eq_false, not_false_eq_true, Option.map_some, Option.map_none, *, argF, List.getD_cons_zero, List.getD_cons_succ, lenI] | (with_reducible refine sxDL_barE (by assumption) (by decide +kernel) ?_) | (with_reducible refine sxDL_bar (by decide +kernel) ?_) | (with_reducible refine sxD_bar (by decide +kernel) ?_))
  refine sxL_of (fun m ρ H2 => ∃ (i : Nat) (out : List Int), m = a.length - i ∧ i ≤ a.length ∧ out.length = a.length + b.length ∧ Digs out ∧ val out = val (a.take i) * val b ∧ (∀ j, i + b.length ≤ j → out.getD j 0 = 0) ∧ Keep H H2 ∧ Own H2 H.size 3 (out.map fun z => .int .i64 z) ∧
    ρ 0 = .slice a1 a.length c1 ∧ ρ 1 = .slice a2 b.length c2 ∧ ρ 5 = .slice (some ⟨H.size, 0, none⟩) (a.length + b.length) (a.length + b.length) ∧ ρ 6 = .int .i64 i)
    ⟨0, List.replicate (a.length + b.length) 0, rfl, Nat.zero_le _, by simp, (fun x hx => by rw [List.eq_of_mem_replicate hx]; omega), (by rw [val_replicate]; simp [val]), (fun j _ => by rw [List.getD_eq_getElem?_getD, List.getElem?_replicate]; split <;> rfl), hK1, w1, rfl, rfl, rfl, rfl⟩ ?_
  clear w1 hmk hw0 hs1 e1
  rintro m ρ H2 ⟨i, out, rfl, hi, hol, hod, hov, hoz, hK2, w2, e0, e1, e5, e6⟩
  by_cases hlt : i < a.length
  · have hlt' : (i : Int) < (a.length : Int) := by omega
    have hwi := wrap_succ hlt h1.ml
    have p0 := SlI_ix h1 hlt
    have hai := ha.getD i
    repeat' (first | (with_reducible refine sxGuardB_tsp (fun h => ?_) (fun h => ?_)) | (with_reducible refine sxGuardB_fsp (fun h => ?_) (fun h => ?_)) | (with_reducible refine sxIfB_sp (fun h => ?_) (fun h => ?_)) | simp only [↓sxC_skip, ↓sxC_draw, ↓sxC_region, ↓sxC_seq, ↓bxC_cond, ↓bxC_loop, ↓sxC_block, ↓sxC_exit, ↓sxC_goto, ↓sxC_ret, ↓sxOps_nil, ↓sxOps_cons, ↓sxDraw_nil, ↓bxDraw_cons, ↓sxDL_move, ↓sxDL_assign, ↓sxDL_pick, ↓sxDL_alloc, ↓sxDL_box, ↓sxDL_build, ↓sxDL_buildSlice, ↓sxDL_insert, ↓sxDL_load, ↓sxDL_nilCheck, ↓sxDL_binOp, ↓sxDL_unOp, ↓sxDL_convert, ↓sxDL_makeInterface, ↓sxDL_makeFunc, ↓sxDL_makeMap, ↓sxDL_makeSlice, ↓sxDL_slice, ↓sxDL_fieldAddr, ↓sxDL_field, ↓sxDL_indexAddr, ↓sxDL_index, ↓sxDL_typeAssert, ↓sxDL_extract, ↓sxDL_call, ↓sxDL_lookup, ↓sxDL_mapUpdate, ↓sxDL_range, ↓sxDL_next, ↓sxDL_entry, ↓sxDL_mapEntry, ↓sxDL_entryStore, ↓sxD_same, ↓sxStep_none, ↓bxStep_some, ↓bxOp_move, ↓bxOp_assign, ↓bxOp_pick, ↓bxOp_alloc, ↓bxOp_box, ↓bxOp_build, ↓bxOp_buildSlice, ↓bxOp_load, ↓bxOp_store, ↓bxOp_nilCheck, ↓bxOp_bin, ↓bxOp_un, ↓bxOp_makeI, ↓bxOp_makeFunc, ↓bxOp_makeSlice, ↓bxOp_slice, ↓bxOp_fieldAddr, ↓bxOp_field, ↓bxOp_indexAddr, ↓bxOp_index, ↓bxOp_assert, ↓bxOp_extract, ↓bxOp_value, ↓bxOp_len, ↓bxOp_cap, ↓bxOp_append, ↓bxOp_copy, ↓bxOp_clear, ↓bxOp_max, ↓bxOp_min, ↓bxOp_convert, ↓sxPut_none, ↓bxPut, ↓seqQ_normal, ↓seqQ_exit, ↓seqQ_ret, ↓seqQ_goto, ↓blockQ_normal, ↓blockQ_ret, ↓blockQ_goto, ↓blockQ_exit, ↓loopQ_normal, ↓loopQ_exit, ↓loopQ_ret, ↓loopQ_goto, ↓resQ_normal, ↓resQ_ret, ↓sxRes_nil, ↓sxRes_tmp, ↓bxRes_cell, ↓upd_apply, ↓ev_tmp, ↓ev_const, ↓ev_global, ↓ev_func, ↓dstAt, ↓gval_some, sxOptB_some, sxOptB_ite, mm_max, mm_min, binP_shl, binP_shr, binP_int, intBin, una_not_dec, una_nt, una_nf, una_neg, aPick_true, aPick_false, sxCallVB_fn, sxCallVB_yield, sxGuardB_u, sxGuardB_tt, sxGuardB_tf, sxGuardB_ft, sxGuardB_ff, sxIfB_t, sxIfB_f, packRes_one, packRes_two, List.map_cons, List.map_nil, List.nil_append, List.cons_append, List.append_nil, ↓reduceIte, Nat.reduceEqDiff, Nat.reduceLT, dec_T, dec_F, false_imp, true_and, and_true, true_implies, implies_true, false_and, and_false, true_or, or_true, false_or, or_false, and_self, or_self, read_relow, size_relow, low_relow, relow_relow, aLoad_relow, Nat.add_zero, Nat.mul_one, one1, Option.bind_some, ne_eq, Int.natCast_nonneg, Int.toNat_natCast, not_true_eq_false, not_false_eq_true, Option.map_some, Option.map_none, *, lenI] | (with_reducible refine sxDL_barE (by assumption) (by decide +kernel) ?_) | (with_reducible refine sxDL_bar (by decide +kernel) ?_) | (with_reducible refine sxD_bar (by decide +kernel) ?_))
    refine sxL_of (fun m ρ H3 => ∃ (k : Nat) (o3 : List Int) (c : Int), m = b.length - k ∧ k ≤ b.length ∧ o3.length = a.length + b.length ∧ Digs o3 ∧ (0 ≤ c ∧ c ≤ 9999) ∧ val o3 + 10000 ^ (i + k) * c = val (a.take i) * val b + 10000 ^ i * (a.getD i 0 * val (b.take k)) ∧
      (∀ j, i + b.length ≤ j → o3.getD j 0 = 0) ∧ Keep H H3 ∧ Own H3 H.size 3 (o3.map fun z => .int .i64 z) ∧
      ρ 0 = .slice a1 a.length c1 ∧ ρ 1 = .slice a2 b.length c2 ∧ ρ 5 = .slice (some ⟨H.size, 0, none⟩) (a.length + b.length) (a.length + b.length) ∧ ρ 6 = .int .i64 i ∧ ρ 7 = .int .i64 c ∧ ρ 8 = .int .i64 k)
      ⟨0, out, 0, rfl, Nat.zero_le _, hol, hod, by omega, (by simp [val, hov]), hoz, hK2, w2, by assumption, by assumption, by assumption, by assumption, rfl, rfl⟩ ?_
    clear e0 e1 e5 e6 w2 hod hov hoz hol hK2
    rintro m ρ H3 ⟨k, o3, c, rfl, hk, hol, hod, hc, hov, hoz, hK3, w3, e0, e1, e5, e6, e7, e8⟩
    have hL3 : H3.low ≤ H3.size := hK3.low hL
    by_cases hlt2 : k < b.length
    · have hlt2' : (k : Int) < (b.length : Int) := by omega
      have hwk := wrap_succ hlt2 h2.ml
      have q0 := ((h1.keep hK3).rdI hlt).1
      have p1 := SlI_ix h2 hlt2
      have q1 := ((h2.keep hK3).rdI hlt2).1
      have hbk := hb.getD k
      have hx := hod.getD (i + k)
      have hik : i + k < o3.length := by omega
      have hwik : IntKind.i64.wrap ((i : Int) + (k : Int)) = ((i + k : Nat) : Int) := by rw [IntWalk.i64_in _ (by omega)]; omega
      have p2 : aIndexAt Tryd.prog 25 (.slice (some ⟨H.size, 0, none⟩) (a.length + b.length) (a.length + b.length)) (.int .i64 ((i + k : Nat) : Int)) = some (.pointer (some ⟨H.size, i + k, none⟩)) := by rw [ixI, if_pos ⟨by omega, by omega⟩, Int.toNat_natCast, Nat.zero_add, Nat.mul_one]
      have q2 := w3.read (o := i + k) (n := 1) (by rw [List.length_map]; omega)
      rw [map_at hik] at q2
      have hpb := prod_bound hai hbk
      have hob := hoz
      have hsp := val_split (l := b) (n := k) (by omega)
      have hst := val_set (l := o3) (j := i + k) ((o3.getD (i + k) 0 + a.getD i 0 * b.getD k 0 + c) % 10000) hik
      have hms := mul_step (s := o3.getD (i + k) 0 + a.getD i 0 * b.getD k 0 + c) rfl hov
      have hnew : val (o3.set (i + k) ((o3.getD (i + k) 0 + a.getD i 0 * b.getD k 0 + c) % 10000)) + 10000 ^ (i + (k + 1)) * ((o3.getD (i + k) 0 + a.getD i 0 * b.getD k 0 + c) / 10000) = val (a.take i) * val b + 10000 ^ i * (a.getD i 0 * val (b.take (k + 1))) := by
        rw [hst, ← Nat.add_assoc, Int.pow_succ, hms, hsp, Int.mul_add, Int.mul_add, Int.pow_add]
        rw [show (10000 : Int) ^ i * 10000 ^ k * (a.getD i 0 * b.getD k 0) = 10000 ^ i * (a.getD i 0 * (10000 ^ k * b.getD k 0)) by
          rw [Int.mul_assoc]; congr 1
          rw [← Int.mul_assoc, Int.mul_comm ((10000 : Int) ^ k) (a.getD i 0), Int.mul_assoc]]
        omega
      have hz2 : ∀ j, i + b.length ≤ j → (o3.set (i + k) ((o3.getD (i + k) 0 + a.getD i 0 * b.getD k 0 + c) % 10000)).getD j 0 = 0 := fun j hj => by rw [set_getD hik, if_neg (by omega)]; exact hoz j hj
      have hd2 : Digs (o3.set (i + k) ((o3.getD (i + k) 0 + a.getD i 0 * b.getD k 0 + c) % 10000)) := hod.set (by omega)
      have hl2 : (o3.set (i + k) ((o3.getD (i + k) 0 + a.getD i 0 * b.getD k 0 + c) % 10000)).length = a.length + b.length := by rw [List.length_set]; exact hol
      have hob1 := stI w3 ((o3.getD (i + k) 0 + a.getD i 0 * b.getD k 0 + c) % 10000) hik
      obtain ⟨H4, ps, w4, hkp, _⟩ := hob1
      have hK4 := hkp H hK3 (Nat.le_refl _)
      clear hov hoz hob hsp hst hms hod hol w3 hkp h1 h2 ha hb hik
      generalize o3.getD (i + k) 0 = x at *
      generalize b.getD k 0 = bk at *
      generalize a.getD i 0 = ai at *
      have f1 : IntKind.i64.wrap (ai * bk) = ai * bk := IntWalk.i64_in _ (by omega)
      have f2 : IntKind.i64.wrap (x + ai * bk) = x + ai * bk := IntWalk.i64_in _ (by omega)
      have f3 : IntKind.i64.wrap (x + ai * bk + c) = x + ai * bk + c := IntWalk.i64_in _ (by omega)
      have f4 : (x + ai * bk + c).tmod 10000 = (x + ai * bk + c) % 10000 := Int.tmod_eq_emod_of_nonneg (by omega)
      have f5 : (x + ai * bk + c).tdiv 10000 = (x + ai * bk + c) / 10000 := Int.tdiv_eq_ediv_of_nonneg (by omega)
      have f6 : IntKind.i64.wrap ((x + ai * bk + c) / 10000) = (x + ai * bk + c) / 10000 := IntWalk.i64_in _ (by omega)
      have f7 : ¬ (10000 : Int) = 0 := by omega
      repeat' (first | (with_reducible refine sxGuardB_tsp (fun h => ?_) (fun h => ?_)) | (with_reducible refine sxGuardB_fsp (fun h => ?_) (fun h => ?_)) | (with_reducible refine sxIfB_sp (fun h => ?_) (fun h => ?_)) | simp only [↓sxC_skip, ↓sxC_draw, ↓sxC_region, ↓sxC_seq, ↓bxC_cond, ↓bxC_loop, ↓sxC_block, ↓sxC_exit, ↓sxC_goto, ↓sxC_ret, ↓sxOps_nil, ↓sxOps_cons, ↓sxDraw_nil, ↓bxDraw_cons, ↓sxDL_move, ↓sxDL_assign, ↓sxDL_pick, ↓sxDL_alloc, ↓sxDL_box, ↓sxDL_build, ↓sxDL_buildSlice, ↓sxDL_insert, ↓sxDL_load, ↓sxDL_nilCheck, ↓sxDL_binOp, ↓sxDL_unOp, ↓sxDL_convert, ↓sxDL_makeInterface, ↓sxDL_makeFunc, ↓sxDL_makeMap, ↓sxDL_makeSlice, ↓sxDL_slice, ↓sxDL_fieldAddr, ↓sxDL_field, ↓sxDL_indexAddr, ↓sxDL_index, ↓sxDL_typeAssert, ↓sxDL_extract, ↓sxDL_call, ↓sxDL_lookup, ↓sxDL_mapUpdate, ↓sxDL_range, ↓sxDL_next, ↓sxDL_entry, ↓sxDL_mapEntry, ↓sxDL_entryStore, ↓sxD_same, ↓sxStep_none, ↓bxStep_some, ↓bxOp_move, ↓bxOp_assign, ↓bxOp_pick, ↓bxOp_alloc, ↓bxOp_box, ↓bxOp_build, ↓bxOp_buildSlice, ↓bxOp_load, ↓bxOp_store, ↓bxOp_nilCheck, ↓bxOp_bin, ↓bxOp_un, ↓bxOp_makeI, ↓bxOp_makeFunc, ↓bxOp_makeSlice, ↓bxOp_slice, ↓bxOp_fieldAddr, ↓bxOp_field, ↓bxOp_indexAddr, ↓bxOp_index, ↓bxOp_assert, ↓bxOp_extract, ↓bxOp_value, ↓bxOp_len, ↓bxOp_cap, ↓bxOp_append, ↓bxOp_copy, ↓bxOp_clear, ↓bxOp_max, ↓bxOp_min, ↓bxOp_convert, ↓sxPut_none, ↓bxPut, ↓seqQ_normal, ↓seqQ_exit, ↓seqQ_ret, ↓seqQ_goto, ↓blockQ_normal, ↓blockQ_ret, ↓blockQ_goto, ↓blockQ_exit, ↓loopQ_normal, ↓loopQ_exit, ↓loopQ_ret, ↓loopQ_goto, ↓resQ_normal, ↓resQ_ret, ↓sxRes_nil, ↓sxRes_tmp, ↓bxRes_cell, ↓upd_apply, ↓ev_tmp, ↓ev_const, ↓ev_global, ↓ev_func, ↓dstAt, ↓gval_some, sxOptB_some, sxOptB_ite, mm_max, mm_min, binP_shl, binP_shr, binP_int, intBin, una_not_dec, una_nt, una_nf, una_neg, aPick_true, aPick_false, sxCallVB_fn, sxCallVB_yield, sxGuardB_u, sxGuardB_tt, sxGuardB_tf, sxGuardB_ft, sxGuardB_ff, sxIfB_t, sxIfB_f, packRes_one, packRes_two, List.map_cons, List.map_nil, List.nil_append, List.cons_append, List.append_nil, ↓reduceIte, Nat.reduceEqDiff, Nat.reduceLT, dec_T, dec_F, false_imp, true_and, and_true, true_implies, implies_true, false_and, and_false, true_or, or_true, false_or, or_false, and_self, or_self, read_relow, size_relow, low_relow, relow_relow, aLoad_relow, Nat.add_zero, Nat.mul_one, one1, Option.bind_some, ne_eq, Int.natCast_nonneg, Int.toNat_natCast, not_true_eq_false, not_false_eq_true, Option.map_some, Option.map_none, *, lenI, ldI] | (with_reducible refine sxDL_barE (by assumption) (by decide +kernel) ?_) | (with_reducible refine sxDL_bar (by decide +kernel) ?_) | (with_reducible refine sxD_bar (by decide +kernel) ?_))
      exact ⟨_, by omega, k + 1, _, _, rfl, by omega, hl2, hd2, by omega, hnew, hz2, w4, rfl, rfl⟩
    · have hlt2' : ¬ (k : Int) < (b.length : Int) := by omega
      have hke : k = b.length := by omega
      have hil : i + b.length < o3.length := by omega
      have hwil : IntKind.i64.wrap ((i : Int) + (b.length : Int)) = ((i + b.length : Nat) : Int) := by rw [IntWalk.i64_in _ (by omega)]; omega
      have p2 : aIndexAt Tryd.prog 25 (.slice (some ⟨H.size, 0, none⟩) (a.length + b.length) (a.length + b.length)) (.int .i64 ((i + b.length : Nat) : Int)) = some (.pointer (some ⟨H.size, i + b.length, none⟩)) := by rw [ixI, if_pos ⟨by omega, by omega⟩, Int.toNat_natCast, Nat.zero_add, Nat.mul_one]
      have hob1 := stI w3 c hil
      obtain ⟨H4, ps, w4, hkp, _⟩ := hob1
      have hK4 := hkp H hK3 (Nat.le_refl _)
      have hst := val_set (l := o3) (j := i + b.length) c hil
      have hsp := val_split (l := a) (n := i) hlt
      have hnew : val (o3.set (i + b.length) c) = val (a.take (i + 1)) * val b := by
        rw [hke, List.take_length] at hov
        rw [hst, hoz _ (Nat.le_refl _), Int.sub_zero, hov, hsp, Int.add_mul, Int.mul_assoc]
      have hz2 : ∀ j, i + 1 + b.length ≤ j → (o3.set (i + b.length) c).getD j 0 = 0 := fun j hj => by rw [set_getD hil, if_neg (by omega)]; exact hoz j (by omega)
      have hd2 : Digs (o3.set (i + b.length) c) := hod.set hc
      have hl2 : (o3.set (i + b.length) c).length = a.length + b.length := by rw [List.length_set]; exact hol
      clear hov hoz hst hsp hod hol w3 hkp h1 h2 ha hb hke
      repeat' (first | (with_reducible refine sxGuardB_tsp (fun h => ?_) (fun h => ?_)) | (with_reducible refine sxGuardB_fsp (fun h => ?_) (fun h => ?_)) | (with_reducible refine sxIfB_sp (fun h => ?_) (fun h => ?_)) | simp only [↓sxC_skip, ↓sxC_draw, ↓sxC_region, ↓sxC_seq, ↓bxC_cond, ↓bxC_loop, ↓sxC_block, ↓sxC_exit, ↓sxC_goto, ↓sxC_ret, ↓sxOps_nil, ↓sxOps_cons, ↓sxDraw_nil, ↓bxDraw_cons, ↓sxDL_move, ↓sxDL_assign, ↓sxDL_pick, ↓sxDL_alloc, ↓sxDL_box, ↓sxDL_build, ↓sxDL_buildSlice, ↓sxDL_insert, ↓sxDL_load, ↓sxDL_nilCheck, ↓sxDL_binOp, ↓sxDL_unOp, ↓sxDL_convert, ↓sxDL_makeInterface, ↓sxDL_makeFunc, ↓sxDL_makeMap, ↓sxDL_makeSlice, ↓sxDL_slice, ↓sxDL_fieldAddr, ↓sxDL_field, ↓sxDL_indexAddr, ↓sxDL_index, ↓sxDL_typeAssert, ↓sxDL_extract, ↓sxDL_call, ↓sxDL_lookup, ↓sxDL_mapUpdate, ↓sxDL_range, ↓sxDL_next, ↓sxDL_entry, ↓sxDL_mapEntry, ↓sxDL_entryStore, ↓sxD_same, ↓sxStep_none, ↓bxStep_some, ↓bxOp_move, ↓bxOp_assign, ↓bxOp_pick, ↓bxOp_alloc, ↓bxOp_box, ↓bxOp_build, ↓bxOp_buildSlice, ↓bxOp_load, ↓bxOp_store, ↓bxOp_nilCheck, ↓bxOp_bin, ↓bxOp_un, ↓bxOp_makeI, ↓bxOp_makeFunc, ↓bxOp_makeSlice, ↓bxOp_slice, ↓bxOp_fieldAddr, ↓bxOp_field, ↓bxOp_indexAddr, ↓bxOp_index, ↓bxOp_assert, ↓bxOp_extract, ↓bxOp_value, ↓bxOp_len, ↓bxOp_cap, ↓bxOp_append, ↓bxOp_copy, ↓bxOp_clear, ↓bxOp_max, ↓bxOp_min, ↓bxOp_convert, ↓sxPut_none, ↓bxPut, ↓seqQ_normal, ↓seqQ_exit, ↓seqQ_ret, ↓seqQ_goto, ↓blockQ_normal, ↓blockQ_ret, ↓blockQ_goto, ↓blockQ_exit, ↓loopQ_normal, ↓loopQ_exit, ↓loopQ_ret, ↓loopQ_goto, ↓resQ_normal, ↓resQ_ret, ↓sxRes_nil, ↓sxRes_tmp, ↓bxRes_cell, ↓upd_apply, ↓ev_tmp, ↓ev_const, ↓ev_global, ↓ev_func, ↓dstAt, ↓gval_some, sxOptB_some, sxOptB_ite, mm_max, mm_min, binP_shl, binP_shr, binP_int, intBin, una_not_dec, una_nt, una_nf, una_neg, aPick_true, aPick_false, sxCallVB_fn, sxCallVB_yield, sxGuardB_u, sxGuardB_tt, sxGuardB_tf, sxGuardB_ft, sxGuardB_ff, sxIfB_t, sxIfB_f, packRes_one, packRes_two, List.map_cons, List.map_nil, List.nil_append, List.cons_append, List.append_nil, ↓reduceIte, Nat.reduceEqDiff, Nat.reduceLT, dec_T, dec_F, false_imp, true_and, and_true, true_implies, implies_true, false_and, and_false, true_or, or_true, false_or, or_false, and_self, or_self, read_relow, size_relow, low_relow, relow_relow, aLoad_relow, Nat.add_zero, Nat.mul_one, one1, Option.bind_some, ne_eq, Int.natCast_nonneg, Int.toNat_natCast, not_true_eq_false, not_false_eq_true, Option.map_some, Option.map_none, *, lenI, ldI] | (with_reducible refine sxDL_barE (by assumption) (by decide +kernel) ?_) | (with_reducible refine sxDL_bar (by decide +kernel) ?_) | (with_reducible refine sxD_bar (by decide +kernel) ?_))
      exact ⟨_, by omega, i + 1, _, rfl, by omega, hl2, hd2, hnew, hz2, w4, rfl⟩
  · have hlt' : ¬ (i : Int) < (a.length : Int) := by omega
    have hie : i = a.length := by omega
    have hmx : Go.maxLen = 9223372036854775807 := rfl
    have sl := w2.sl (k := .i64) (fun z hz => by have := hod z hz; show -9223372036854775808 ≤ z ∧ z ≤ 9223372036854775807; omega) (by omega) (a.length + b.length)
    rw [hol] at sl
    have hob1 := trim_runs hS _ out H.size 0 H2 (hK2.grp hg) (hK2.low hL) sl (by omega)
    obtain ⟨H3, v3, r3, o3, hK3, hg3, s3, hF3, hfr, hR3⟩ := hob1
    have f3 := hR3.bx
    have hdg := trimL_dg hod
    rw [hov, hie, List.take_length] at hdg
    have hle : (trimL out).length ≤ a.length + b.length := by rw [← hol]; exact trimL_le _
    have hKK := hK2.trans hK3
    have hsz2 := hK2.size
    clear hR3 h1 h2 ha hb w2 hod hov hoz hol hie hmx sl
    repeat' (first | (with_reducible refine sxGuardB_tsp (fun h => ?_) (fun h => ?_)) | (with_reducible refine sxGuardB_fsp (fun h => ?_) (fun h => ?_)) | (with_reducible refine sxIfB_sp (fun h => ?_) (fun h => ?_)) | simp only [↓sxC_skip, ↓sxC_draw, ↓sxC_region, ↓sxC_seq, ↓bxC_cond, ↓bxC_loop, ↓sxC_block, ↓sxC_exit, ↓sxC_goto, ↓sxC_ret, ↓sxOps_nil, ↓sxOps_cons, ↓sxDraw_nil, ↓bxDraw_cons, ↓sxDL_move, ↓sxDL_assign, ↓sxDL_pick, ↓sxDL_alloc, ↓sxDL_box, ↓sxDL_build, ↓sxDL_buildSlice, ↓sxDL_insert, ↓sxDL_load, ↓sxDL_nilCheck, ↓sxDL_binOp, ↓sxDL_unOp, ↓sxDL_convert, ↓sxDL_makeInterface, ↓sxDL_makeFunc, ↓sxDL_makeMap, ↓sxDL_makeSlice, ↓sxDL_slice, ↓sxDL_fieldAddr, ↓sxDL_field, ↓sxDL_indexAddr, ↓sxDL_index, ↓sxDL_typeAssert, ↓sxDL_extract, ↓sxDL_call, ↓sxDL_lookup, ↓sxDL_mapUpdate, ↓sxDL_range, ↓sxDL_next, ↓sxDL_entry, ↓sxDL_mapEntry, ↓sxDL_entryStore, ↓sxD_same, ↓sxStep_none, ↓bxStep_some, ↓bxOp_move, ↓bxOp_assign, ↓bxOp_pick, ↓bxOp_alloc, ↓bxOp_box, ↓bxOp_build, ↓bxOp_buildSlice, ↓bxOp_load, ↓bxOp_store, ↓bxOp_nilCheck, ↓bxOp_bin, ↓bxOp_un, ↓bxOp_makeI, ↓bxOp_makeFunc, ↓bxOp_makeSlice, ↓bxOp_slice, ↓bxOp_fieldAddr, ↓bxOp_field, ↓bxOp_indexAddr, ↓bxOp_index, ↓bxOp_assert, ↓bxOp_extract, ↓bxOp_value, ↓bxOp_len, ↓bxOp_cap, ↓bxOp_append, ↓bxOp_copy, ↓bxOp_clear, ↓bxOp_max, ↓bxOp_min, ↓bxOp_convert, ↓sxPut_none, ↓bxPut, ↓seqQ_normal, ↓seqQ_exit, ↓seqQ_ret, ↓seqQ_goto, ↓blockQ_normal, ↓blockQ_ret, ↓blockQ_goto, ↓blockQ_exit, ↓loopQ_normal, ↓loopQ_exit, ↓loopQ_ret, ↓loopQ_goto, ↓resQ_normal, ↓resQ_ret, ↓sxRes_nil, ↓sxRes_tmp, ↓bxRes_cell, ↓upd_apply, ↓ev_tmp, ↓ev_const, ↓ev_global, ↓ev_func, ↓dstAt, ↓gval_some, sxOptB_some, sxOptB_ite, mm_max, mm_min, binP_shl, binP_shr, binP_int, intBin, una_not_dec, una_nt, una_nf, una_neg, aPick_true, aPick_false, sxCallVB_fn, sxCallVB_yield, sxGuardB_u, sxGuardB_tt, sxGuardB_tf, sxGuardB_ft, sxGuardB_ff, sxIfB_t, sxIfB_f, packRes_one, packRes_two, List.map_cons, List.map_nil, List.nil_append, List.cons_append, List.append_nil, ↓reduceIte, Nat.reduceEqDiff, Nat.reduceLT, dec_T, dec_F, false_imp, true_and, and_true, true_implies, implies_true, false_and, and_false, true_or, or_true, false_or, or_false, and_self, or_self, read_relow, size_relow, low_relow, relow_relow, aLoad_relow, Nat.add_zero, Nat.mul_one, one1, Option.bind_some, ne_eq, Int.natCast_nonneg, Int.toNat_natCast, not_true_eq_false, not_false_eq_true, Option.map_some, Option.map_none, *, lenI] | (with_reducible refine sxDL_barE (by assumption) (by decide +kernel) ?_) | (with_reducible refine sxDL_bar (by decide +kernel) ?_) | (with_reducible refine sxD_bar (by decide +kernel) ?_))
    exact ⟨_, r3, o3, hdg, hle, s3, fun h => by have := hfr h; have := hsz2; omega⟩
end Go.Proofs.YtnbhjbelgmkpeaaDoor

namespace Go.Proofs.YtnbhjbelgmkpeaaDoor
open Go Go.AM
set_option maxRecDepth 10000
set_option linter.unusedSimpArgs false

variable {S : AM.Sys} (hS : Only S 10)
include hS

theorem subD_runs (v1 v2 : Value) (a b : List Int) (r1 o1 r2 o2 : Nat) (H : Heap) (hg : Grp H) (hL : H.low ≤ H.size) (h1 : SlI .i64 H v1 a r1 o1) (h2 : SlI .i64 H v2 b r2 o2) (ha : Digs a) (hb : Digs b) (hsa : a.length ≤ 3000) (hle : b.length ≤ a.length) (hv : val b ≤ val a) :
    ∃ w, Dg w (val a - val b).toNat ∧ w.length ≤ a.length ∧ Out S 92 [v1, v2] H w := by
  suffices h : WCall Tryd.prog S (.fn 92) [v1, v2] H (fun v H' => ∃ w r' o', Dg w (val a - val b).toNat ∧ w.length ≤ a.length ∧ Keep H H' ∧ Grp H' ∧ SlI .i64 H' v w r' o' ∧ Fine v ∧ (0 < w.length → H.size ≤ r')) by
    obtain ⟨v', H', hr, w, r', o', h1, h2, h3, h4, h5, h6, h7⟩ := h; exact ⟨w, h1, h2, H', v', r', o', h3, h4, h5, h6, h7, hr⟩
  obtain ⟨a1, c1, rfl⟩ := h1.v0
  obtain ⟨a2, c2, rfl⟩ := h2.v0
  refine call_of Tryd.func92 rfl (Nat.le_of_ble_eq_true rfl) (hS.no rfl _ _) ?_
  rw [Tryd.ntmps92, Tryd.results92]
  repeat' (first | (with_reducible refine sxGuardB_tsp (fun h => ?_) (fun h => ?_)) | (with_reducible refine sxGuardB_fsp (fun h => ?_) (fun h => ?_)) | (with_reducible refine sxIfB_sp (fun h => ?_) (fun h => ?_)) | simp only [↓sxC_skip, ↓sxC_draw, ↓sxC_region, ↓sxC_seq, ↓bxC_cond, ↓bxC_loop, ↓sxC_block, ↓sxC_exit, ↓sxC_goto, ↓sxC_ret, ↓sxOps_nil, ↓sxOps_cons, ↓sxDraw_nil, ↓bxDraw_cons, ↓sxDL_move, ↓sxDL_assign, ↓sxDL_pick, ↓sxDL_alloc, ↓sxDL_box, ↓sxDL_build, ↓sxDL_buildSlice, ↓sxDL_insert, ↓sxDL_load, ↓sxDL_nilCheck, ↓sxDL_binOp, ↓sxDL_unOp, ↓sxDL_convert, ↓sxDL_makeInterface, ↓sxDL_makeFunc, ↓sxDL_makeMap, ↓sxDL_makeSlice, ↓sxDL_slice, ↓sxDL_fieldAddr, ↓sxDL_field, ↓sxDL_indexAddr, ↓sxDL_index, ↓sxDL_typeAssert, ↓sxDL_extract, ↓sxDL_call, ↓sxDL_lookup, ↓sxDL_mapUpdate, ↓sxDL_range, ↓sxDL_next, ↓sxDL_entry, ↓sxDL_mapEntry, ↓sxDL_entryStore, ↓sxD_same, ↓sxStep_none, ↓bxStep_some, ↓bxOp_move, ↓bxOp_assign, ↓bxOp_pick, ↓bxOp_alloc, ↓bxOp_box, ↓bxOp_build, ↓bxOp_buildSlice, ↓bxOp_load, ↓bxOp_store, ↓bxOp_nilCheck, ↓bxOp_bin, ↓bxOp_un, ↓bxOp_makeI, ↓bxOp_makeFunc, ↓bxOp_makeSlice, ↓bxOp_slice, ↓bxOp_fieldAddr, ↓bxOp_field, ↓bxOp_indexAddr, ↓bxOp_index, ↓bxOp_assert, ↓bxOp_extract, ↓bxOp_value, ↓bxOp_len, ↓bxOp_cap, ↓bxOp_append, ↓bxOp_copy, ↓bxOp_clear, ↓bxOp_max, ↓bxOp_min, ↓bxOp_convert, ↓sxPut_none, ↓bxPut, ↓seqQ_normal, ↓seqQ_exit, ↓seqQ_ret, ↓seqQ_goto, ↓blockQ_normal, ↓blockQ_ret, ↓blockQ_goto, ↓blockQ_exit, ↓loopQ_normal, ↓loopQ_exit, ↓loopQ_ret, ↓loopQ_goto, ↓resQ_normal, ↓resQ_ret, ↓sxRes_nil, ↓sxRes_tmp, ↓bxRes_cell, ↓upd_apply, ↓ev_tmp, ↓ev_const, ↓ev_global, ↓ev_func, ↓dstAt, ↓gval_some, sxOptB_some, sxOptB_ite, mm_max, mm_min, binP_shl, binP_shr, binP_int, intBin, una_not_dec, una_nt, una_nf, una_neg, aPick_true, aPick_false, sxCallVB_fn, sxCallVB_yield, sxGuardB_u, sxGuardB_tt, sxGuardB_tf, sxGuardB_ft, sxGuardB_ff, sxIfB_t, sxIfB_f, packRes_one, packRes_two, List.map_cons, List.map_nil, List.nil_append, List.cons_append, List.append_nil, ↓reduceIte, Nat.reduceEqDiff, Nat.reduceLT, dec_T, dec_F, false_imp, true_and, and_true, true_implies, implies_true, false_and, and_false, true_or, or_true, false_or, or_false, and_self, or_self, read_relow, size_relow, low_relow, relow_relow, aLoad_relow, Nat.add_zero, Nat.mul_one, one1, Option.bind_some, ne_eq, Int.natCast_nonneg, Int.toNat_natCast, not_true_eq_false, not_false_eq_true, Option.map_some, Option.map_none, *, argF, List.getD_cons_zero, List.getD_cons_succ, lenI] | (with_reducible refine sxDL_barE (by assumption) (by decide +kernel) ?_) | (with_reducible refine sxDL_bar (by decide +kernel) ?_) | (with_reducible refine sxD_bar (by decide +kernel) ?_))
  refine sxL_of (fun m ρ H2 => ∃ (i : Nat) (out : List Int) (v' : Value) (c : Int), m = a.length - i ∧ i ≤ a.length ∧ out.length = i ∧ Digs out ∧ (c = 0 ∨ c = 1) ∧ val out - 10000 ^ i * c = val (a.take i) - val (b.take i) ∧ Lst 3 .i64 H H2 v' out ∧
    ρ 0 = .slice a1 a.length c1 ∧ ρ 1 = .slice a2 b.length c2 ∧ ρ 5 = v' ∧ ρ 6 = .int .i64 c ∧ ρ 7 = .int .i64 i)
    ⟨0, [], _, 0, rfl, Nat.zero_le _, rfl, (fun x hx => absurd hx (List.not_mem_nil)), .inl rfl, (by simp [val]), Lst.nil (Keep.refl H) hg, rfl, rfl, rfl, rfl, rfl⟩ ?_
  rintro m ρ H2 ⟨i, out, v', c, rfl, hi, hol, hod, hc, hov, L, e0, e1, e5, e6, e7⟩
  have hL2 : H2.low ≤ H2.size := L.keep.low hL
  by_cases hlt : i < a.length
  · have hlt' : (i : Int) < (a.length : Int) := by omega
    have hwi := wrap_succ hlt h1.ml
    have p0 := SlI_ix h1 hlt
    have q0 := ((h1.keep L.keep).rdI hlt).1
    have hai := ha.getD i
    have hsa' := val_split (l := a) (n := i) hlt
    by_cases hlb : i < b.length
    · have hlb' : (i : Int) < (b.length : Int) := by omega
      have p1 := SlI_ix h2 hlb
      have q1 := ((h2.keep L.keep).rdI hlb).1
      have hbi := hb.getD i
      have hsb' := val_split (l := b) (n := i) hlb
      have fin : ∀ z c' : Int, (0 ≤ z ∧ z ≤ 9999) → z - 10000 * c' = a.getD i 0 - c - b.getD i 0 → (Digs (out ++ [z]) ∧ val (out ++ [z]) - 10000 ^ (i + 1) * c' = val (a.take (i + 1)) - val (b.take (i + 1))) := fun z c' hz he => by
        refine ⟨hod.append (Digs.one hz), ?_⟩
        rw [val_append, hol, hsa', hsb', Int.pow_succ, Int.mul_assoc]
        simp only [val, Int.mul_zero, Int.add_zero]
        have h3 : (10000 : Int) ^ i * z - 10000 ^ i * (10000 * c') = 10000 ^ i * a.getD i 0 - 10000 ^ i * c - 10000 ^ i * b.getD i 0 := by rw [← Int.mul_sub, he, Int.mul_sub, Int.mul_sub]
        omega
      have hob1 := L.push okI hg (by omega) (a.getD i 0 - c - b.getD i 0)
      obtain ⟨v3, H3, p3, L3⟩ := hob1
      have hob2 := L.push okI hg (by omega) (a.getD i 0 - c - b.getD i 0 + 10000)
      obtain ⟨v4, H4, p4, L4⟩ := hob2
      have b3 := bsI H2 (a.getD i 0 - c - b.getD i 0)
      have b4 := bsI H2 (a.getD i 0 - c - b.getD i 0 + 10000)
      clear h1 h2 hsa' hsb' ha hb hov
      generalize a.getD i 0 = x at *
      generalize b.getD i 0 = y at *
      have f1 : IntKind.i64.wrap (x - c) = x - c := IntWalk.i64_in _ (by omega)
      have f2 : IntKind.i64.wrap (x - c - y) = x - c - y := IntWalk.i64_in _ (by omega)
      have f3 : IntKind.i64.wrap (x - c - y + 10000) = x - c - y + 10000 := IntWalk.i64_in _ (by omega)
      repeat' (first | (with_reducible refine sxGuardB_tsp (fun h => ?_) (fun h => ?_)) | (with_reducible refine sxGuardB_fsp (fun h => ?_) (fun h => ?_)) | (with_reducible refine sxIfB_sp (fun h => ?_) (fun h => ?_)) | simp only [↓sxC_skip, ↓sxC_draw, ↓sxC_region, ↓sxC_seq, ↓bxC_cond, ↓bxC_loop, ↓sxC_block, ↓sxC_exit, ↓sxC_goto, ↓sxC_ret, ↓sxOps_nil, ↓sxOps_cons, ↓sxDraw_nil, ↓bxDraw_cons, ↓sxDL_move, ↓sxDL_assign, ↓sxDL_pick, ↓sxDL_alloc, ↓sxDL_box, ↓sxDL_build, ↓sxDL_buildSlice, ↓sxDL_insert, ↓sxDL_load, ↓sxDL_nilCheck, ↓sxDL_binOp, ↓sxDL_unOp, ↓sxDL_convert, ↓sxDL_makeInterface, ↓sxDL_makeFunc, ↓sxDL_makeMap, ↓sxDL_makeSlice, ↓sxDL_slice, ↓sxDL_fieldAddr, ↓sxDL_field, ↓sxDL_indexAddr, ↓sxDL_index, ↓sxDL_typeAssert, ↓sxDL_extract, ↓sxDL_call, ↓sxDL_lookup, ↓sxDL_mapUpdate, ↓sxDL_range, ↓sxDL_next, ↓sxDL_entry, ↓sxDL_mapEntry, ↓sxDL_entryStore, ↓sxD_same, ↓sxStep_none, ↓bxStep_some, ↓bxOp_move, ↓bxOp_assign, ↓bxOp_pick, ↓bxOp_alloc, ↓bxOp_box, ↓bxOp_build, ↓bxOp_buildSlice, ↓bxOp_load, ↓bxOp_store, ↓bxOp_nilCheck, ↓bxOp_bin, ↓bxOp_un, ↓bxOp_makeI, ↓bxOp_makeFunc, ↓bxOp_makeSlice, ↓bxOp_slice, ↓bxOp_fieldAddr, ↓bxOp_field, ↓bxOp_indexAddr, ↓bxOp_index, ↓bxOp_assert, ↓bxOp_extract, ↓bxOp_value, ↓bxOp_len, ↓bxOp_cap, ↓bxOp_append, ↓bxOp_copy, ↓bxOp_clear, ↓bxOp_max, ↓bxOp_min, ↓bxOp_convert, ↓sxPut_none, ↓bxPut, ↓seqQ_normal, ↓seqQ_exit, ↓seqQ_ret, ↓seqQ_goto, ↓blockQ_normal, ↓blockQ_ret, ↓blockQ_goto, ↓blockQ_exit, ↓loopQ_normal, ↓loopQ_exit, ↓loopQ_ret, ↓loopQ_goto, ↓resQ_normal, ↓resQ_ret, ↓sxRes_nil, ↓sxRes_tmp, ↓bxRes_cell, ↓upd_apply, ↓ev_tmp, ↓ev_const, ↓ev_global, ↓ev_func, ↓dstAt, ↓gval_some, sxOptB_some, sxOptB_ite, mm_max, mm_min, binP_shl, binP_shr, binP_int, intBin, una_not_dec, una_nt, una_nf, una_neg, aPick_true, aPick_false, sxCallVB_fn, sxCallVB_yield, sxGuardB_u, sxGuardB_tt, sxGuardB_tf, sxGuardB_ft, sxGuardB_ff, sxIfB_t, sxIfB_f, packRes_one, packRes_two, List.map_cons, List.map_nil, List.nil_append, List.cons_append, List.append_nil, ↓reduceIte, Nat.reduceEqDiff, Nat.reduceLT, dec_T, dec_F, false_imp, true_and, and_true, true_implies, implies_true, false_and, and_false, true_or, or_true, false_or, or_false, and_self, or_self, read_relow, size_relow, low_relow, relow_relow, aLoad_relow, Nat.add_zero, Nat.mul_one, one1, Option.bind_some, ne_eq, Int.natCast_nonneg, Int.toNat_natCast, not_true_eq_false, not_false_eq_true, Option.map_some, Option.map_none, *, lenI, ldI] | (with_reducible refine sxDL_barE (by assumption) (by decide +kernel) ?_) | (with_reducible refine sxDL_bar (by decide +kernel) ?_) | (with_reducible refine sxD_bar (by decide +kernel) ?_))
      · have hf := fin (x - c - y + 10000) 1 (by omega) (by omega)
        exact ⟨_, by omega, i + 1, _, _, 1, rfl, by omega, by simp [hol], hf.1, .inr rfl, hf.2, L4, rfl, rfl, rfl⟩
      · have hf := fin (x - c - y) 0 (by omega) (by omega)
        exact ⟨_, by omega, i + 1, _, _, 0, rfl, by omega, by simp [hol], hf.1, .inl rfl, hf.2, L3, rfl, rfl, rfl⟩
    · have hlb' : ¬ (i : Int) < (b.length : Int) := by omega
      have hbt : b.take (i + 1) = b.take i := by rw [List.take_of_length_le (by omega), List.take_of_length_le (by omega)]
      have fin : ∀ z c' : Int, (0 ≤ z ∧ z ≤ 9999) → z - 10000 * c' = a.getD i 0 - c → (Digs (out ++ [z]) ∧ val (out ++ [z]) - 10000 ^ (i + 1) * c' = val (a.take (i + 1)) - val (b.take (i + 1))) := fun z c' hz he => by
        refine ⟨hod.append (Digs.one hz), ?_⟩
        rw [val_append, hol, hsa', hbt, Int.pow_succ, Int.mul_assoc]
        simp only [val, Int.mul_zero, Int.add_zero]
        have h3 : (10000 : Int) ^ i * z - 10000 ^ i * (10000 * c') = 10000 ^ i * a.getD i 0 - 10000 ^ i * c := by rw [← Int.mul_sub, he, Int.mul_sub]
        omega
      have hob1 := L.push okI hg (by omega) (a.getD i 0 - c)
      obtain ⟨v3, H3, p3, L3⟩ := hob1
      have hob2 := L.push okI hg (by omega) (a.getD i 0 - c + 10000)
      obtain ⟨v4, H4, p4, L4⟩ := hob2
      have b3 := bsI H2 (a.getD i 0 - c)
      have b4 := bsI H2 (a.getD i 0 - c + 10000)
      clear h1 h2 hsa' ha hb hov hbt
      generalize a.getD i 0 = x at *
      have f1 : IntKind.i64.wrap (x - c) = x - c := IntWalk.i64_in _ (by omega)
      have f3 : IntKind.i64.wrap (x - c + 10000) = x - c + 10000 := IntWalk.i64_in _ (by omega)
      repeat' (first | (with_reducible refine sxGuardB_tsp (fun h => ?_) (fun h => ?_)) | (with_reducible refine sxGuardB_fsp (fun h => ?_) (fun h => ?_)) | (with_reducible refine sxIfB_sp (fun h => ?_) (fun h => ?_)) | simp only [↓sxC_skip, ↓sxC_draw, ↓sxC_region, ↓sxC_seq, ↓bxC_cond, ↓bxC_loop, ↓sxC_block, ↓sxC_exit, ↓sxC_goto, ↓sxC_ret, ↓sxOps_nil, ↓sxOps_cons, ↓sxDraw_nil, ↓bxDraw_cons, ↓sxDL_move, ↓sxDL_assign, ↓sxDL_pick, ↓sxDL_alloc, ↓sxDL_box, ↓sxDL_build, ↓sxDL_buildSlice, ↓sxDL_insert, ↓sxDL_load, ↓sxDL_nilCheck, ↓sxDL_binOp, ↓sxDL_unOp, ↓sxDL_convert, ↓sxDL_makeInterface, ↓sxDL_makeFunc, ↓sxDL_makeMap, ↓sxDL_makeSlice, ↓sxDL_slice, ↓sxDL_fieldAddr, ↓sxDL_field, ↓sxDL_indexAddr, ↓sxDL_index, ↓sxDL_typeAssert, ↓sxDL_extract, ↓sxDL_call, ↓sxDL_lookup, ↓sxDL_mapUpdate, ↓sxDL_range, ↓sxDL_next, ↓sxDL_entry, ↓sxDL_mapEntry, ↓sxDL_entryStore, ↓sxD_same, ↓sxStep_none, ↓bxStep_some, ↓bxOp_move, ↓bxOp_assign, ↓bxOp_pick, ↓bxOp_alloc, ↓bxOp_box, ↓bxOp_build, ↓bxOp_buildSlice, ↓bxOp_load, ↓bxOp_store, ↓bxOp_nilCheck, ↓bxOp_bin, ↓bxOp_un, ↓bxOp_makeI, ↓bxOp_makeFunc, ↓bxOp_makeSlice, ↓bxOp_slice, ↓bxOp_fieldAddr, ↓bxOp_field, ↓bxOp_indexAddr, ↓bxOp_index, ↓bxOp_assert, ↓bxOp_extract, ↓bxOp_value, ↓bxOp_len, ↓bxOp_cap, ↓bxOp_append, ↓bxOp_copy, ↓bxOp_clear, ↓bxOp_max, ↓bxOp_min, ↓bxOp_convert, ↓sxPut_none, ↓bxPut, ↓seqQ_normal, ↓seqQ_exit, ↓seqQ_ret, ↓seqQ_goto, ↓blockQ_normal, ↓blockQ_ret, ↓blockQ_goto, ↓blockQ_exit, ↓loopQ_normal, ↓loopQ_exit, ↓loopQ_ret, ↓loopQ_goto, ↓resQ_normal, ↓resQ_ret, ↓sxRes_nil, ↓sxRes_tmp, ↓bxRes_cell, ↓upd_apply, ↓ev_tmp, ↓ev_const, ↓ev_global, ↓ev_func, ↓dstAt, ↓gval_some, sxOptB_some, sxOptB_ite, mm_max, mm_min, binP_shl, binP_shr, binP_int, intBin, una_not_dec, una_nt, una_nf, una_neg, aPick_true, aPick_false, sxCallVB_fn, sxCallVB_yield, sxGuardB_u, sxGuardB_tt, sxGuardB_tf, sxGuardB_ft, sxGuardB_ff, sxIfB_t, sxIfB_f, packRes_one, packRes_two, List.map_cons, List.map_nil, List.nil_append, List.cons_append, List.append_nil, ↓reduceIte, Nat.reduceEqDiff, Nat.reduceLT, dec_T, dec_F, false_imp, true_and, and_true, true_implies, implies_true, false_and, and_false, true_or, or_true, false_or, or_false, and_self, or_self, read_relow, size_relow, low_relow, relow_relow, aLoad_relow, Nat.add_zero, Nat.mul_one, one1, Option.bind_some, ne_eq, Int.natCast_nonneg, Int.toNat_natCast, not_true_eq_false, not_false_eq_true, Option.map_some, Option.map_none, *, lenI, ldI] | (with_reducible refine sxDL_barE (by assumption) (by decide +kernel) ?_) | (with_reducible refine sxDL_bar (by decide +kernel) ?_) | (with_reducible refine sxD_bar (by decide +kernel) ?_))
      · have hf := fin (x - c + 10000) 1 (by omega) (by omega)
        exact ⟨_, by omega, i + 1, _, _, 1, rfl, by omega, by simp [hol], hf.1, .inr rfl, hf.2, L4, rfl, rfl, rfl⟩
      · have hf := fin (x - c) 0 (by omega) (by omega)
        exact ⟨_, by omega, i + 1, _, _, 0, rfl, by omega, by simp [hol], hf.1, .inl rfl, hf.2, L3, rfl, rfl, rfl⟩
  · have hlt' : ¬ (i : Int) < (a.length : Int) := by omega
    have hie : i = a.length := by omega
    have hob1 := L.sl (fun z hz => by have := hod z hz; show -9223372036854775808 ≤ z ∧ z ≤ 9223372036854775807; omega) (by show out.length ≤ 9223372036854775807; omega)
    obtain ⟨rr, sl⟩ := hob1
    have hov2 : val out = val a - val b := by
      rw [hie, List.take_length, List.take_of_length_le hle] at hov
      have h3 := hod.lt
      rw [hol, hie] at h3
      rcases hc with rfl | rfl
      · omega
      · omega
    have hob2 := trim_runs hS _ out rr 0 H2 L.grp hL2 sl (by omega)
    obtain ⟨H3, v3, r3, o3, hK3, hg3, s3, hF3, hfr, hR3⟩ := hob2
    have f3 := hR3.bx
    have hdg := trimL_dg hod
    rw [hov2] at hdg
    have hle2 : (trimL out).length ≤ a.length := by have := trimL_le out; omega
    have hKK := L.keep.trans hK3
    have hsz2 := L.keep.size
    clear hR3 h1 h2 ha hb hod hov hov2 hol hie sl L hc
    repeat' (first | (with_reducible refine sxGuardB_tsp (fun h => ?_) (fun h => ?_)) | (with_reducible refine sxGuardB_fsp (fun h => ?_) (fun h => ?_)) | (with_reducible refine sxIfB_sp (fun h => ?_) (fun h => ?_)) | simp only [↓sxC_skip, ↓sxC_draw, ↓sxC_region, ↓sxC_seq, ↓bxC_cond, ↓bxC_loop, ↓sxC_block, ↓sxC_exit, ↓sxC_goto, ↓sxC_ret, ↓sxOps_nil, ↓sxOps_cons, ↓sxDraw_nil, ↓bxDraw_cons, ↓sxDL_move, ↓sxDL_assign, ↓sxDL_pick, ↓sxDL_alloc, ↓sxDL_box, ↓sxDL_build, ↓sxDL_buildSlice, ↓sxDL_insert, ↓sxDL_load, ↓sxDL_nilCheck, ↓sxDL_binOp, ↓sxDL_unOp, ↓sxDL_convert, ↓sxDL_makeInterface, ↓sxDL_makeFunc, ↓sxDL_makeMap, ↓sxDL_makeSlice, ↓sxDL_slice, ↓sxDL_fieldAddr, ↓sxDL_field, ↓sxDL_indexAddr, ↓sxDL_index, ↓sxDL_typeAssert, ↓sxDL_extract, ↓sxDL_call, ↓sxDL_lookup, ↓sxDL_mapUpdate, ↓sxDL_range, ↓sxDL_next, ↓sxDL_entry, ↓sxDL_mapEntry, ↓sxDL_entryStore, ↓sxD_same, ↓sxStep_none, ↓bxStep_some, ↓bxOp_move, ↓bxOp_assign, ↓bxOp_pick, ↓bxOp_alloc, ↓bxOp_box, ↓bxOp_build, ↓bxOp_buildSlice, ↓bxOp_load, ↓bxOp_store, ↓bxOp_nilCheck, ↓bxOp_bin, ↓bxOp_un, ↓bxOp_makeI, ↓bxOp_makeFunc, ↓bxOp_makeSlice, ↓bxOp_slice, ↓bxOp_fieldAddr, ↓bxOp_field, ↓bxOp_indexAddr, ↓bxOp_index, ↓bxOp_assert, ↓bxOp_extract, ↓bxOp_value, ↓bxOp_len, ↓bxOp_cap, ↓bxOp_append, ↓bxOp_copy, ↓bxOp_clear, ↓bxOp_max, ↓bxOp_min, ↓bxOp_convert, ↓sxPut_none, ↓bxPut, ↓seqQ_normal, ↓seqQ_exit, ↓seqQ_ret, ↓seqQ_goto, ↓blockQ_normal, ↓blockQ_ret, ↓blockQ_goto, ↓blockQ_exit, ↓loopQ_normal, ↓loopQ_exit, ↓loopQ_ret, ↓loopQ_goto, ↓resQ_normal, ↓resQ_ret, ↓sxRes_nil, ↓sxRes_tmp, ↓bxRes_cell, ↓upd_apply, ↓ev_tmp, ↓ev_const, ↓ev_global, ↓ev_func, ↓dstAt, ↓gval_some, sxOptB_some, sxOptB_ite, mm_max, mm_min, binP_shl, binP_shr, binP_int, intBin, una_not_dec, una_nt, una_nf, una_neg, aPick_true, aPick_false, sxCallVB_fn, sxCallVB_yield, sxGuardB_u, sxGuardB_tt, sxGuardB_tf, sxGuardB_ft, sxGuardB_ff, sxIfB_t, sxIfB_f, packRes_one, packRes_two, List.map_cons, List.map_nil, List.nil_append, List.cons_append, List.append_nil, ↓reduceIte, Nat.reduceEqDiff, Nat.reduceLT, dec_T, dec_F, false_imp, true_and, and_true, true_implies, implies_true, false_and, and_false, true_or, or_true, false_or, or_false, and_self, or_self, read_relow, size_relow, low_relow, relow_relow, aLoad_relow, Nat.add_zero, Nat.mul_one, one1, Option.bind_some, ne_eq, Int.natCast_nonneg, Int.toNat_natCast, not_true_eq_false, not_false_eq_true, Option.map_some, Option.map_none, *, lenI] | (with_reducible refine sxDL_barE (by assumption) (by decide +kernel) ?_) | (with_reducible refine sxDL_bar (by decide +kernel) ?_) | (with_reducible refine sxD_bar (by decide +kernel) ?_))
    exact ⟨_, r3, o3, hdg, hle2, s3, fun h => by have := hfr h; have := hsz2; omega⟩
end Go.Proofs.YtnbhjbelgmkpeaaDoor

namespace Go.Proofs.YtnbhjbelgmkpeaaDoor
open Go Go.AM
set_option maxRecDepth 10000
set_option linter.unusedSimpArgs false
variable {S : AM.Sys} (hS : Only S 10)
include hS

/-- A digit, trimmed, times a number. -/
theorem digit_facts (v2 : Value) (b : List Int) (r2 o2 : Nat) (H : Heap) (hg : Grp H) (hL : H.low ≤ H.size) (h2 : SlI .i64 H v2 b r2 o2) (hb : Digs b) (hsb : b.length ≤ 999) (z : Int) (hz : 0 ≤ z ∧ z ≤ 9999) :
    ∃ v3 H3 v4 H4 w r4 o4, Runs Tryd.prog S (.fn 113) [.slice (some ⟨H.size, 0, none⟩) 1 1] (H.newExact [.int .i64 z] 3) v3 H3 ∧ Runs Tryd.prog S (.fn 87) [v2, v3] H3 v4 H4 ∧ Keep H H4 ∧ Grp H4 ∧ SlI .i64 H4 v4 w r4 o4 ∧ Fine v4 ∧
      Digs w ∧ Norm w ∧ val w = val b * z ∧ w.length ≤ b.length + 1 := by
  have hk := Keep.newExact H [.int .i64 z] 3
  have ho := Own.new H ([z].map fun z => Value.int .i64 z) 3
  have hmx : Go.maxLen = 9223372036854775807 := rfl
  have sl := ho.sl (k := .i64) (w := [z]) (fun y hy => by rw [List.mem_singleton.1 hy]; show -9223372036854775808 ≤ z ∧ z ≤ 9223372036854775807; omega) (by simp; omega) 1
  have hob := trim_runs hS _ [z] H.size 0 _ (hk.grp hg) (hk.low hL) sl (by simp)
  obtain ⟨H3, v3, r3, o3, hK3, hg3, s3, hF3, hfr3, hR3⟩ := hob
  have hd : Digs [z] := Digs.one hz
  have hkk := hk.trans hK3
  have hob2 := mulD_runs hS v2 v3 b (trimL [z]) r2 o2 r3 o3 H3 hg3 (hkk.low hL) (h2.keep hkk) s3 hb (trimL_digs hd) (by omega) (by have := trimL_le [z]; simp at this; omega)
  obtain ⟨w, hdg, hle, H4, v4, r4, o4, hK4, hg4, s4, hF4, hfr4, hR4⟩ := hob2
  have hv : val b * val (trimL [z]) = val b * z := by rw [trimL_val]; simp [val]
  refine ⟨v3, H3, v4, H4, w, r4, o4, hR3, hR4, hkk.trans hK4, hg4, s4, hF4, hdg.1, hdg.2.1, ?_, by have := trimL_le [z]; simp at this; omega⟩
  rw [hdg.2.2, hv, Int.toNat_of_nonneg (Int.mul_nonneg hb.nonneg hz.1)]

set_option maxHeartbeats 1000000 in
theorem divD_runs (v1 v2 : Value) (a b : List Int) (r1 o1 r2 o2 : Nat) (H : Heap) (hg : Grp H) (hL : H.low ≤ H.size) (h1 : SlI .i64 H v1 a r1 o1) (h2 : SlI .i64 H v2 b r2 o2) (ha : Digs a) (hb : Digs b) (hbn : Norm b) (hb0 : 0 < b.length) (hsa : a.length ≤ 400) (hsb : b.length ≤ 400) :
    ∃ H' vq vr q rem rq oq rr or', Keep H H' ∧ Grp H' ∧ SlI .i64 H' vq q rq oq ∧ SlI .i64 H' vr rem rr or' ∧ Fine vr ∧ Digs q ∧ Norm q ∧ q.length ≤ a.length ∧ Digs rem ∧ Norm rem ∧ val a = val q * val b + val rem ∧ val rem < val b ∧ rem.length ≤ b.length ∧
      Runs Tryd.prog S (.fn 114) [v1, v2] H (.tuple #[vq, vr]) H' := by
  suffices h : WCall Tryd.prog S (.fn 114) [v1, v2] H (fun v H' => ∃ vq vr q rem rq oq rr or', v = .tuple #[vq, vr] ∧ Keep H H' ∧ Grp H' ∧ SlI .i64 H' vq q rq oq ∧ SlI .i64 H' vr rem rr or' ∧ Fine vr ∧ Digs q ∧ Norm q ∧ q.length ≤ a.length ∧ Digs rem ∧ Norm rem ∧ val a = val q * val b + val rem ∧ val rem < val b ∧ rem.length ≤ b.length) by
    obtain ⟨_, H', hr, vq, vr, q, rem, rq, oq, rr, or', rfl, h1, h2, h3, h4, h5, h6, h7, h8, h9, h10, h11, h12, h13⟩ := h
    exact ⟨H', vq, vr, q, rem, rq, oq, rr, or', h1, h2, h3, h4, h5, h6, h7, h8, h9, h10, h11, h12, h13, hr⟩
  obtain ⟨a1, c1, rfl⟩ := h1.v0
  obtain ⟨a2, c2, rfl⟩ := h2.v0
  have hmk := mkI H (l := (a.length : Int)) (by omega) (by omega)
  rw [Int.toNat_natCast] at hmk
  obtain ⟨H1, e1, hK1, hs1, zz, _⟩ := box1 H ((List.replicate a.length (0 : Int)).map fun z => .int .i64 z) 3
  have w1 : Own H1 H.size 3 ((List.replicate a.length (0 : Int)).map fun z => .int .i64 z) := e1 ▸ Own.new H _ _
  have hnz : ¬ (b.length : Int) = 0 := by omega
  have hwa : IntKind.i64.wrap ((a.length : Int) - 1) = (a.length : Int) - 1 := IntWalk.i64_in _ (by omega)
  have hB := norm_pos hb hbn hb0
  have hmx : Go.maxLen = 9223372036854775807 := rfl
  clear zz
  refine call_of Tryd.func114 rfl (Nat.le_of_ble_eq_true rfl) (hS.no rfl _ _) ?_
  rw [Tryd.ntmps114, Tryd.results114]
  repeat' (first | (with_reducible refine sxGuardB_tsp (fun h => ?_) (fun h => ?_)) | (with_reducible refine sxGuardB_fsp (fun h => ?_) (fun h => ?_)) | (with_reducible refine sxIfB_sp (fun h => ?_) (fun h => ?_)) | simp only [↓sxC_skip, ↓sxC_draw, ↓sxC_region, ↓sxC_seq, ↓bxC_cond, ↓bxC_loop, ↓sxC_block, ↓sxC_exit, ↓sxC_goto, ↓sxC_ret, ↓sxOps_nil, ↓sxOps_cons, ↓sxDraw_nil, ↓bxDraw_cons, ↓sxDL_move, ↓sxDL_assign, ↓sxDL_pick, ↓sxDL_alloc, ↓sxDL_box, ↓sxDL_build, ↓sxDL_buildSlice, ↓sxDL_insert, ↓sxDL_load, ↓sxDL_nilCheck, ↓sxDL_binOp, ↓sxDL_unOp, ↓sxDL_convert, ↓sxDL_makeInterface, ↓sxDL_makeFunc, ↓sxDL_makeMap, ↓sxDL_makeSlice, ↓sxDL_slice, ↓sxDL_fieldAddr, ↓sxDL_field, ↓sxDL_indexAddr, ↓sxDL_index, ↓sxDL_typeAssert, ↓sxDL_extract, ↓sxDL_call, ↓sxDL_lookup, ↓sxDL_mapUpdate, ↓sxDL_range, ↓sxDL_next, ↓sxDL_entry, ↓sxDL_mapEntry, ↓sxDL_entryStore, ↓sxD_same, ↓sxStep_none, ↓bxStep_some, ↓bxOp_move, ↓bxOp_assign, ↓bxOp_pick, ↓bxOp_alloc, ↓bxOp_box, ↓bxOp_build, ↓bxOp_buildSlice, ↓bxOp_load, ↓bxOp_store, ↓bxOp_nilCheck, ↓bxOp_bin, ↓bxOp_un, ↓bxOp_makeI, ↓bxOp_makeFunc, ↓bxOp_makeSlice, ↓bxOp_slice, ↓bxOp_fieldAddr, ↓bxOp_field, ↓bxOp_indexAddr, ↓bxOp_index, ↓bxOp_assert, ↓bxOp_extract, ↓bxOp_value, ↓bxOp_len, ↓bxOp_cap, ↓bxOp_append, ↓bxOp_copy, ↓bxOp_clear, ↓bxOp_max, ↓bxOp_min, ↓bxOp_convert, ↓sxPut_none, ↓bxPut, ↓seqQ_normal, ↓seqQ_exit, ↓seqQ_ret, ↓seqQ_goto, ↓blockQ_normal, ↓blockQ_ret, ↓blockQ_goto, ↓blockQ_exit, ↓loopQ_normal, ↓loopQ_exit, ↓loopQ_ret, ↓loopQ_goto, ↓resQ_normal, ↓resQ_ret, ↓sxRes_nil, ↓sxRes_tmp, ↓bxRes_cell, ↓upd_apply, ↓ev_tmp, ↓ev_const, ↓ev_global, ↓ev_func, ↓dstAt, ↓gval_some, sxOptB_some, sxOptB_ite, mm_max, mm_min, binP_shl, binP_shr, binP_int, intBin, una_not_dec, una_nt, una_nf, una_neg, aPick_true, aPick_false, sxCallVB_fn, sxCallVB_yield, sxGuardB_u, sxGuardB_tt, sxGuardB_tf, sxGuardB_ft, sxGuardB_ff, sxIfB_t, sxIfB_f, packRes_one, packRes_two, List.map_cons, List.map_nil, List.nil_append, List.cons_append, List.append_nil, ↓reduceIte, Nat.reduceEqDiff, Nat.reduceLT, dec_T, dec_F, false_imp, true_and, and_true, true_implies, implies_true, false_and, and_false, true_or, or_true, false_or, or_false, and_self, or_self, read_relow, size_relow, low_relow, relow_relow, aLoad_relow, Nat.add_zero, Nat.mul_one, one1, Option.bind_some, ne_eq, Int.natCast_nonneg, Int.toNat_natCast, not_true_eq_false, not_false_eq_true, Option.map_some, Option.map_none, *, argF, List.getD_cons_zero, List.getD_cons_succ, lenI] | (with_reducible refine sxDL_barE (by assumption) (by decide +kernel) ?_) | (with_reducible refine sxDL_bar (by decide +kernel) ?_) | (with_reducible refine sxD_bar (by decide +kernel) ?_))
  refine sxL_of (fun m ρ H2 => ∃ (Q R : List Int) (v' : Value) (rr oo : Nat), m ≤ a.length ∧ Q.length = a.length ∧ Digs Q ∧ Digs R ∧ Norm R ∧ val R < val b ∧ val (a.drop m) = val (Q.drop m) * val b + val R ∧ Keep H H2 ∧ Grp H2 ∧ SlI .i64 H2 v' R rr oo ∧ Fine v' ∧ Own H2 H.size 3 (Q.map fun z => .int .i64 z) ∧
    ρ 0 = .slice a1 a.length c1 ∧ ρ 1 = .slice a2 b.length c2 ∧ ρ 6 = .slice (some ⟨H.size, 0, none⟩) a.length a.length ∧ ρ 7 = v' ∧ ρ 8 = .int .i64 ((m : Int) - 1))
    (n := a.length) ⟨List.replicate a.length 0, [], _, 0, 0, Nat.le_refl _, by simp, (fun x hx => by rw [List.eq_of_mem_replicate hx]; omega), (fun x hx => absurd hx (List.not_mem_nil)), .inl rfl, (by simpa [val] using hB), (by simp [val]), hK1, hK1.grp hg, nilSl _, fine_nil, w1, rfl, rfl, rfl, rfl, rfl⟩ ?_
  clear w1 hmk hwa hs1 e1 hnz
  rintro m ρ H2 ⟨Q, R, v', rr, oo, hm, hQl, hQd, hRd, hRn, hRb, hval, hK2, hg2, sR, hF, w2, e0, e1, e6, e7, e8⟩
  have hRl := len_le hRd hRn hb (Int.le_of_lt hRb)
  have hL2 := hK2.low hL
  cases m with
  | zero =>
    have h00 : ¬ (0 : Int) ≤ ((0 : Nat) : Int) - 1 := by omega
    have slq := w2.sl (k := .i64) (fun z hz => by have := hQd z hz; show -9223372036854775808 ≤ z ∧ z ≤ 9223372036854775807; omega) (by omega) a.length
    rw [hQl] at slq
    have hob := trim_runs hS _ Q H.size 0 H2 hg2 hL2 slq (by omega)
    obtain ⟨H3, v3, r3, o3, hK3, hg3, s3, hF3, hfr3, hR3⟩ := hob
    have f3 := hR3.bx
    have hKK := hK2.trans hK3
    have sR3 := sR.keep hK3
    have hq1 := trimL_digs hQd
    have hq2 := trimL_norm Q
    have hq3 : (trimL Q).length ≤ a.length := by rw [← hQl]; exact trimL_le Q
    have hq4 : val a ≤ val (trimL Q) * val b + val R ∧ val (trimL Q) * val b + val R ≤ val a := by
      have hv0 : val a = val (trimL Q) * val b + val R := by rw [trimL_val]; simpa using hval
      omega
    clear hR3 h1 h2 w2 slq hval hQl hQd hmx
    repeat' (first | (with_reducible refine sxGuardB_tsp (fun h => ?_) (fun h => ?_)) | (with_reducible refine sxGuardB_fsp (fun h => ?_) (fun h => ?_)) | (with_reducible refine sxIfB_sp (fun h => ?_) (fun h => ?_)) | simp only [↓sxC_skip, ↓sxC_draw, ↓sxC_region, ↓sxC_seq, ↓bxC_cond, ↓bxC_loop, ↓sxC_block, ↓sxC_exit, ↓sxC_goto, ↓sxC_ret, ↓sxOps_nil, ↓sxOps_cons, ↓sxDraw_nil, ↓bxDraw_cons, ↓sxDL_move, ↓sxDL_assign, ↓sxDL_pick, ↓sxDL_alloc, ↓sxDL_box, ↓sxDL_build, ↓sxDL_buildSlice, ↓sxDL_insert, ↓sxDL_load, ↓sxDL_nilCheck, ↓sxDL_binOp, ↓sxDL_unOp, ↓sxDL_convert, ↓sxDL_makeInterface, ↓sxDL_makeFunc, ↓sxDL_makeMap, ↓sxDL_makeSlice, ↓sxDL_slice, ↓sxDL_fieldAddr, ↓sxDL_field, ↓sxDL_indexAddr, ↓sxDL_index, ↓sxDL_typeAssert, ↓sxDL_extract, ↓sxDL_call, ↓sxDL_lookup, ↓sxDL_mapUpdate, ↓sxDL_range, ↓sxDL_next, ↓sxDL_entry, ↓sxDL_mapEntry, ↓sxDL_entryStore, ↓sxD_same, ↓sxStep_none, ↓bxStep_some, ↓bxOp_move, ↓bxOp_assign, ↓bxOp_pick, ↓bxOp_alloc, ↓bxOp_box, ↓bxOp_build, ↓bxOp_buildSlice, ↓bxOp_load, ↓bxOp_store, ↓bxOp_nilCheck, ↓bxOp_bin, ↓bxOp_un, ↓bxOp_makeI, ↓bxOp_makeFunc, ↓bxOp_makeSlice, ↓bxOp_slice, ↓bxOp_fieldAddr, ↓bxOp_field, ↓bxOp_indexAddr, ↓bxOp_index, ↓bxOp_assert, ↓bxOp_extract, ↓bxOp_value, ↓bxOp_len, ↓bxOp_cap, ↓bxOp_append, ↓bxOp_copy, ↓bxOp_clear, ↓bxOp_max, ↓bxOp_min, ↓bxOp_convert, ↓sxPut_none, ↓bxPut, ↓seqQ_normal, ↓seqQ_exit, ↓seqQ_ret, ↓seqQ_goto, ↓blockQ_normal, ↓blockQ_ret, ↓blockQ_goto, ↓blockQ_exit, ↓loopQ_normal, ↓loopQ_exit, ↓loopQ_ret, ↓loopQ_goto, ↓resQ_normal, ↓resQ_ret, ↓sxRes_nil, ↓sxRes_tmp, ↓bxRes_cell, ↓upd_apply, ↓ev_tmp, ↓ev_const, ↓ev_global, ↓ev_func, ↓dstAt, ↓gval_some, sxOptB_some, sxOptB_ite, mm_max, mm_min, binP_shl, binP_shr, binP_int, intBin, una_not_dec, una_nt, una_nf, una_neg, aPick_true, aPick_false, sxCallVB_fn, sxCallVB_yield, sxGuardB_u, sxGuardB_tt, sxGuardB_tf, sxGuardB_ft, sxGuardB_ff, sxIfB_t, sxIfB_f, packRes_one, packRes_two, List.map_cons, List.map_nil, List.nil_append, List.cons_append, List.append_nil, ↓reduceIte, Nat.reduceEqDiff, Nat.reduceLT, dec_T, dec_F, false_imp, true_and, and_true, true_implies, implies_true, false_and, and_false, true_or, or_true, false_or, or_false, and_self, or_self, read_relow, size_relow, low_relow, relow_relow, aLoad_relow, Nat.add_zero, Nat.mul_one, one1, Option.bind_some, ne_eq, Int.natCast_nonneg, Int.toNat_natCast, not_true_eq_false, not_false_eq_true, Option.map_some, Option.map_none, *, lenI] | (with_reducible refine sxDL_barE (by assumption) (by decide +kernel) ?_) | (with_reducible refine sxDL_bar (by decide +kernel) ?_) | (with_reducible refine sxD_bar (by decide +kernel) ?_))
    exact ⟨_, _, trimL Q, R, r3, o3, rr, oo, rfl, s3, sR3, hF, hq1, hq2, hq3, hRd, hRn, by omega, hRb, hRl⟩
  | succ i =>
    have hlt : i < a.length := by omega
    have hidx : ((i + 1 : Nat) : Int) - 1 = (i : Int) := by omega
    rw [hidx] at e8
    have hge : (0 : Int) ≤ (i : Int) := by omega
    have hwi : IntKind.i64.wrap ((i : Int) - 1) = (i : Int) - 1 := IntWalk.i64_in _ (by omega)
    have p0 := SlI_ix h1 hlt
    have q0 := ((h1.keep hK2).rdI hlt).1
    have hx := ha.getD i
    have b0 := bsI H2 (a.getD i 0)
    have hk := Keep.newExact H2 [.int .i64 (a.getD i 0)] 3
    have ho := Own.new H2 ([a.getD i 0].map fun z => Value.int .i64 z) 3
    have hob := append_own okI (hk.grp hg2) ho (by simp) (sR.keep hk) hF (fun z hz => by rw [List.mem_singleton.1 hz]; show -9223372036854775808 ≤ a.getD i 0 ∧ a.getD i 0 ≤ 9223372036854775807; omega) (by simp; omega)
    obtain ⟨v3, H3, r3, p3, hK3, hg3, s3⟩ := hob
    have p3 : aAppend Tryd.prog (H2.newExact [.int .i64 (a.getD i 0)] 3) #[25, 25] (.slice (some ⟨H2.size, 0, none⟩) 1 1) v' = some (v3, H3) := p3
    have hK23 := hk.trans hK3
    have hd3 : Digs ([a.getD i 0] ++ R) := (Digs.one hx).append hRd
    have hob2 := trim_runs hS _ _ r3 0 H3 hg3 (hK23.low hL2) s3 (by simp; omega)
    obtain ⟨H4, v4, r4, o4, hK4, hg4, s4, hF4, hfr4, hR4⟩ := hob2
    have f4 := hR4.bx
    have hK24 := hK23.trans hK4
    have hT : val (trimL ([a.getD i 0] ++ R)) ≤ a.getD i 0 + 10000 * val R ∧ a.getD i 0 + 10000 * val R ≤ val (trimL ([a.getD i 0] ++ R)) := by rw [trimL_val]; simp [val]
    have hTd := trimL_digs hd3
    have hTn := trimL_norm ([a.getD i 0] ++ R)
    have hTl : (trimL ([a.getD i 0] ++ R)).length ≤ b.length + 1 := by have := trimL_le ([a.getD i 0] ++ R); rw [List.length_append, List.length_singleton] at this; omega
    have w4 := w2.keep hK24
    have hKH4 := hK2.trans hK24
    have hadr := drop_cons hlt
    generalize hTT : trimL ([a.getD i 0] ++ R) = T at *
    clear hR4 s3 hd3 ho hk hTT
    repeat' (first | (with_reducible refine sxGuardB_tsp (fun h => ?_) (fun h => ?_)) | (with_reducible refine sxGuardB_fsp (fun h => ?_) (fun h => ?_)) | (with_reducible refine sxIfB_sp (fun h => ?_) (fun h => ?_)) | simp only [↓sxC_skip, ↓sxC_draw, ↓sxC_region, ↓sxC_seq, ↓bxC_cond, ↓bxC_loop, ↓sxC_block, ↓sxC_exit, ↓sxC_goto, ↓sxC_ret, ↓sxOps_nil, ↓sxOps_cons, ↓sxDraw_nil, ↓bxDraw_cons, ↓sxDL_move, ↓sxDL_assign, ↓sxDL_pick, ↓sxDL_alloc, ↓sxDL_box, ↓sxDL_build, ↓sxDL_buildSlice, ↓sxDL_insert, ↓sxDL_load, ↓sxDL_nilCheck, ↓sxDL_binOp, ↓sxDL_unOp, ↓sxDL_convert, ↓sxDL_makeInterface, ↓sxDL_makeFunc, ↓sxDL_makeMap, ↓sxDL_makeSlice, ↓sxDL_slice, ↓sxDL_fieldAddr, ↓sxDL_field, ↓sxDL_indexAddr, ↓sxDL_index, ↓sxDL_typeAssert, ↓sxDL_extract, ↓sxDL_call, ↓sxDL_lookup, ↓sxDL_mapUpdate, ↓sxDL_range, ↓sxDL_next, ↓sxDL_entry, ↓sxDL_mapEntry, ↓sxDL_entryStore, ↓sxD_same, ↓sxStep_none, ↓bxStep_some, ↓bxOp_move, ↓bxOp_assign, ↓bxOp_pick, ↓bxOp_alloc, ↓bxOp_box, ↓bxOp_build, ↓bxOp_buildSlice, ↓bxOp_load, ↓bxOp_store, ↓bxOp_nilCheck, ↓bxOp_bin, ↓bxOp_un, ↓bxOp_makeI, ↓bxOp_makeFunc, ↓bxOp_makeSlice, ↓bxOp_slice, ↓bxOp_fieldAddr, ↓bxOp_field, ↓bxOp_indexAddr, ↓bxOp_index, ↓bxOp_assert, ↓bxOp_extract, ↓bxOp_value, ↓bxOp_len, ↓bxOp_cap, ↓bxOp_append, ↓bxOp_copy, ↓bxOp_clear, ↓bxOp_max, ↓bxOp_min, ↓bxOp_convert, ↓sxPut_none, ↓bxPut, ↓seqQ_normal, ↓seqQ_exit, ↓seqQ_ret, ↓seqQ_goto, ↓blockQ_normal, ↓blockQ_ret, ↓blockQ_goto, ↓blockQ_exit, ↓loopQ_normal, ↓loopQ_exit, ↓loopQ_ret, ↓loopQ_goto, ↓resQ_normal, ↓resQ_ret, ↓sxRes_nil, ↓sxRes_tmp, ↓bxRes_cell, ↓upd_apply, ↓ev_tmp, ↓ev_const, ↓ev_global, ↓ev_func, ↓dstAt, ↓gval_some, sxOptB_some, sxOptB_ite, mm_max, mm_min, binP_shl, binP_shr, binP_int, intBin, una_not_dec, una_nt, una_nf, una_neg, aPick_true, aPick_false, sxCallVB_fn, sxCallVB_yield, sxGuardB_u, sxGuardB_tt, sxGuardB_tf, sxGuardB_ft, sxGuardB_ff, sxIfB_t, sxIfB_f, packRes_one, packRes_two, List.map_cons, List.map_nil, List.nil_append, List.cons_append, List.append_nil, ↓reduceIte, Nat.reduceEqDiff, Nat.reduceLT, dec_T, dec_F, false_imp, true_and, and_true, true_implies, implies_true, false_and, and_false, true_or, or_true, false_or, or_false, and_self, or_self, read_relow, size_relow, low_relow, relow_relow, aLoad_relow, Nat.add_zero, Nat.mul_one, one1, Option.bind_some, ne_eq, Int.natCast_nonneg, Int.toNat_natCast, not_true_eq_false, not_false_eq_true, Option.map_some, Option.map_none, *, lenI, ldI] | (with_reducible refine sxDL_barE (by assumption) (by decide +kernel) ?_) | (with_reducible refine sxDL_bar (by decide +kernel) ?_) | (with_reducible refine sxD_bar (by decide +kernel) ?_))
    have hT2 : val T < val b * (9999 + 1) := by omega
    have hL4 := hKH4.low hL
    refine sxL_of (fun m ρ H5 => ∃ lo hi : Int, m = (hi - lo).toNat ∧ (0 ≤ lo ∧ lo ≤ hi ∧ hi ≤ 9999) ∧ val b * lo ≤ val T ∧ val T < val b * (hi + 1) ∧ Keep H4 H5 ∧ Grp H5 ∧
      ρ 0 = .slice a1 a.length c1 ∧ ρ 1 = .slice a2 b.length c2 ∧ ρ 6 = .slice (some ⟨H.size, 0, none⟩) a.length a.length ∧ ρ 7 = v4 ∧ ρ 8 = .int .i64 (i : Int) ∧ ρ 10 = .int .i64 lo ∧ ρ 11 = .int .i64 hi)
      ⟨0, 9999, rfl, by omega, (by rw [Int.mul_zero]; exact hTd.nonneg), hT2, Keep.refl _, hg4, by assumption, by assumption, by assumption, rfl, by assumption, rfl, rfl⟩ ?_
    clear e0 e1 e6 e7 e8 b0 p3 f4 p0 q0
    rintro m ρ H5 ⟨lo, hi, rfl, hlh, hlo, hhi, hK5, hg5, e0, e1, e6, e7, e8, e10, e11⟩
    have hK25 := hKH4.trans hK5
    have hL5 := hK25.low hL
    have s5 := s4.keep hK5
    have w5 := w4.keep hK5
    by_cases hlt2 : lo < hi
    · have hmid : lo < (lo + hi + 1) / 2 ∧ (lo + hi + 1) / 2 ≤ hi := by omega
      have f1 : IntKind.i64.wrap (lo + hi) = lo + hi := IntWalk.i64_in _ (by omega)
      have f2 : IntKind.i64.wrap (lo + hi + 1) = lo + hi + 1 := IntWalk.i64_in _ (by omega)
      have f3 : (lo + hi + 1).tdiv 2 = (lo + hi + 1) / 2 := Int.tdiv_eq_ediv_of_nonneg (by omega)
      have f0 : ¬ (2 : Int) = 0 := by omega
      generalize (lo + hi + 1) / 2 = mid at hmid f3
      have f5 : IntKind.i64.wrap mid = mid := IntWalk.i64_in _ (by omega)
      have f6 : IntKind.i64.wrap (mid - 1) = mid - 1 := IntWalk.i64_in _ (by omega)
      have hob3 := digit_facts hS _ b r2 o2 H5 hg5 hL5 (h2.keep hK25) hb (by omega) mid (by omega)
      obtain ⟨v6, H6, v7, H7, w, r7, o7, hR6, hR7, hK7, hg7, s7, hF7, hwd, hwn, hwv, hwl⟩ := hob3
      have hR8 := cmpD_runs hS v7 v4 w T r7 o7 r4 o4 H7 (hK7.low hL5) s7 (s5.keep hK7)
      have hcv := cmpL_val hwd hwn hTd hTn
      rw [hwv] at hcv
      have g1 := hR6.bx
      have g2 := hR7.bx
      have g3 := hR8.bx
      have b5 := bsI H5 mid
      have hK57 := hK5.trans hK7
      have hle : cmpL w T ≤ 0 → val b * mid ≤ val T := fun h => by
        rw [hcv] at h
        by_cases c1 : val b * mid < val T
        · omega
        · by_cases c2 : val T < val b * mid
          · rw [if_neg c1, if_pos c2] at h; omega
          · omega
      have hgt : ¬ cmpL w T ≤ 0 → val T < val b * (mid - 1 + 1) := fun h => by
        rw [show mid - 1 + 1 = mid by omega]
        rw [hcv] at h
        by_cases c1 : val b * mid < val T
        · rw [if_pos c1] at h; omega
        · by_cases c2 : val T < val b * mid
          · exact c2
          · rw [if_neg c1, if_neg c2] at h; omega
      clear hR6 hR7 hR8 hcv s7 s5 w5 s4 w4 h1 h2 sR w2 hwd hwn hwv
      generalize cmpL w T = cm at *
      repeat' (first | (with_reducible refine sxGuardB_tsp (fun h => ?_) (fun h => ?_)) | (with_reducible refine sxGuardB_fsp (fun h => ?_) (fun h => ?_)) | (with_reducible refine sxIfB_sp (fun h => ?_) (fun h => ?_)) | simp only [↓sxC_skip, ↓sxC_draw, ↓sxC_region, ↓sxC_seq, ↓bxC_cond, ↓bxC_loop, ↓sxC_block, ↓sxC_exit, ↓sxC_goto, ↓sxC_ret, ↓sxOps_nil, ↓sxOps_cons, ↓sxDraw_nil, ↓bxDraw_cons, ↓sxDL_move, ↓sxDL_assign, ↓sxDL_pick, ↓sxDL_alloc, ↓sxDL_box, ↓sxDL_build, ↓sxDL_buildSlice, ↓sxDL_insert, ↓sxDL_load, ↓sxDL_nilCheck, ↓sxDL_binOp, ↓sxDL_unOp, ↓sxDL_convert, ↓sxDL_makeInterface, ↓sxDL_makeFunc, ↓sxDL_makeMap, ↓sxDL_makeSlice, ↓sxDL_slice, ↓sxDL_fieldAddr, ↓sxDL_field, ↓sxDL_indexAddr, ↓sxDL_index, ↓sxDL_typeAssert, ↓sxDL_extract, ↓sxDL_call, ↓sxDL_lookup, ↓sxDL_mapUpdate, ↓sxDL_range, ↓sxDL_next, ↓sxDL_entry, ↓sxDL_mapEntry, ↓sxDL_entryStore, ↓sxD_same, ↓sxStep_none, ↓bxStep_some, ↓bxOp_move, ↓bxOp_assign, ↓bxOp_pick, ↓bxOp_alloc, ↓bxOp_box, ↓bxOp_build, ↓bxOp_buildSlice, ↓bxOp_load, ↓bxOp_store, ↓bxOp_nilCheck, ↓bxOp_bin, ↓bxOp_un, ↓bxOp_makeI, ↓bxOp_makeFunc, ↓bxOp_makeSlice, ↓bxOp_slice, ↓bxOp_fieldAddr, ↓bxOp_field, ↓bxOp_indexAddr, ↓bxOp_index, ↓bxOp_assert, ↓bxOp_extract, ↓bxOp_value, ↓bxOp_len, ↓bxOp_cap, ↓bxOp_append, ↓bxOp_copy, ↓bxOp_clear, ↓bxOp_max, ↓bxOp_min, ↓bxOp_convert, ↓sxPut_none, ↓bxPut, ↓seqQ_normal, ↓seqQ_exit, ↓seqQ_ret, ↓seqQ_goto, ↓blockQ_normal, ↓blockQ_ret, ↓blockQ_goto, ↓blockQ_exit, ↓loopQ_normal, ↓loopQ_exit, ↓loopQ_ret, ↓loopQ_goto, ↓resQ_normal, ↓resQ_ret, ↓sxRes_nil, ↓sxRes_tmp, ↓bxRes_cell, ↓upd_apply, ↓ev_tmp, ↓ev_const, ↓ev_global, ↓ev_func, ↓dstAt, ↓gval_some, sxOptB_some, sxOptB_ite, mm_max, mm_min, binP_shl, binP_shr, binP_int, intBin, una_not_dec, una_nt, una_nf, una_neg, aPick_true, aPick_false, sxCallVB_fn, sxCallVB_yield, sxGuardB_u, sxGuardB_tt, sxGuardB_tf, sxGuardB_ft, sxGuardB_ff, sxIfB_t, sxIfB_f, packRes_one, packRes_two, List.map_cons, List.map_nil, List.nil_append, List.cons_append, List.append_nil, ↓reduceIte, Nat.reduceEqDiff, Nat.reduceLT, dec_T, dec_F, false_imp, true_and, and_true, true_implies, implies_true, false_and, and_false, true_or, or_true, false_or, or_false, and_self, or_self, read_relow, size_relow, low_relow, relow_relow, aLoad_relow, Nat.add_zero, Nat.mul_one, one1, Option.bind_some, ne_eq, Int.natCast_nonneg, Int.toNat_natCast, not_true_eq_false, not_false_eq_true, Option.map_some, Option.map_none, *, lenI, ldI] | (with_reducible refine sxDL_barE (by assumption) (by decide +kernel) ?_) | (with_reducible refine sxDL_bar (by decide +kernel) ?_) | (with_reducible refine sxD_bar (by decide +kernel) ?_))
      · exact ⟨(hi - mid).toNat, by omega, mid, hi, rfl, by omega, hle (by assumption), hhi, rfl, rfl⟩
      · exact ⟨(mid - 1 - lo).toNat, by omega, lo, mid - 1, rfl, by omega, hlo, hgt (by assumption), rfl, rfl⟩
    · have hlhe : hi = lo := by omega
      have hhi2 : val T < val b * (lo + 1) := by rw [← hlhe]; exact hhi
      have p5 : aIndexAt Tryd.prog 25 (.slice (some ⟨H.size, 0, none⟩) a.length a.length) (.int .i64 (i : Int)) = some (.pointer (some ⟨H.size, i, none⟩)) := by rw [ixI, if_pos ⟨by omega, by omega⟩, Int.toNat_natCast, Nat.zero_add, Nat.mul_one]
      have hsz3 : H.size < H3.size := Nat.lt_of_lt_of_le w2.lt hK23.size
      have hob4 := stI w5 lo (o := i) (by omega)
      obtain ⟨H6, ps, w6, hkp, hsz6⟩ := hob4
      have hK6 := hkp H hK25 (Nat.le_refl _)
      have hL6 := hK6.low hL
      have hg6 := hK6.grp hg
      have s6 := SlE.other w5 ps hsz6 s5 (fun h0 => by have := hfr4 h0; omega)
      have hob5 := digit_facts hS _ b r2 o2 H6 hg6 hL6 (h2.keep hK6) hb (by omega) lo (by omega)
      obtain ⟨v7, H7, v8, H8, w, r8, o8, hR7, hR8, hK8, hg8, s8, hF8, hwd, hwn, hwv, hwl⟩ := hob5
      have hwT : val w ≤ val T := by rw [hwv]; exact hlo
      have hob6 := subD_runs hS v4 v8 T w r4 o4 r8 o8 H8 hg8 (hK8.low hL6) (s6.keep hK8) s8 hTd hwd (by omega) (len_le hwd hwn hTd hwT) hwT
      obtain ⟨y, hdy, hyl, H9, v9, r9, o9, hK9, hg9, s9, hF9, hfr9, hR9⟩ := hob6
      have hK69 := hK8.trans hK9
      have hK09 := hK6.trans hK69
      have w9 := w6.keep hK69
      have b6 := bsI H6 lo
      have g1 := hR7.bx
      have g2 := hR8.bx
      have g3 := hR9.bx
      have hyv : val y = val T - val b * lo := by
        rw [hdy.2.2, hwv, Int.toNat_of_nonneg (by omega)]
      have hyb : val y < val b := by
        rw [hyv]
        rw [Int.mul_add, Int.mul_one] at hhi2
        omega
      have hyd := hdy.1
      have hyn := hdy.2.1
      have hQ2l : (Q.set i lo).length = a.length := by rw [List.length_set]; exact hQl
      have hQ2d : Digs (Q.set i lo) := hQd.set (by omega)
      have hfin : val (a.drop i) = val ((Q.set i lo).drop i) * val b + val y := by
        rw [hadr, set_drop (by omega), hyv]
        simp only [val]
        rw [show val T = a.getD i 0 + 10000 * val R by omega]
        exact div_step hval
      clear hR7 hR8 hR9 s6 s8 s5 w5 w6 s4 w4 h1 h2 sR w2 hwd hwn hwv hval hdy hyv hQl hQd hlhe hkp hhi hhi2 hlo hwT hyl hwl hfr4 hfr9 hsz6 hadr
      repeat' (first | (with_reducible refine sxGuardB_tsp (fun h => ?_) (fun h => ?_)) | (with_reducible refine sxGuardB_fsp (fun h => ?_) (fun h => ?_)) | (with_reducible refine sxIfB_sp (fun h => ?_) (fun h => ?_)) | simp only [↓sxC_skip, ↓sxC_draw, ↓sxC_region, ↓sxC_seq, ↓bxC_cond, ↓bxC_loop, ↓sxC_block, ↓sxC_exit, ↓sxC_goto, ↓sxC_ret, ↓sxOps_nil, ↓sxOps_cons, ↓sxDraw_nil, ↓bxDraw_cons, ↓sxDL_move, ↓sxDL_assign, ↓sxDL_pick, ↓sxDL_alloc, ↓sxDL_box, ↓sxDL_build, ↓sxDL_buildSlice, ↓sxDL_insert, ↓sxDL_load, ↓sxDL_nilCheck, ↓sxDL_binOp, ↓sxDL_unOp, ↓sxDL_convert, ↓sxDL_makeInterface, ↓sxDL_makeFunc, ↓sxDL_makeMap, ↓sxDL_makeSlice, ↓sxDL_slice, ↓sxDL_fieldAddr, ↓sxDL_field, ↓sxDL_indexAddr, ↓sxDL_index, ↓sxDL_typeAssert, ↓sxDL_extract, ↓sxDL_call, ↓sxDL_lookup, ↓sxDL_mapUpdate, ↓sxDL_range, ↓sxDL_next, ↓sxDL_entry, ↓sxDL_mapEntry, ↓sxDL_entryStore, ↓sxD_same, ↓sxStep_none, ↓bxStep_some, ↓bxOp_move, ↓bxOp_assign, ↓bxOp_pick, ↓bxOp_alloc, ↓bxOp_box, ↓bxOp_build, ↓bxOp_buildSlice, ↓bxOp_load, ↓bxOp_store, ↓bxOp_nilCheck, ↓bxOp_bin, ↓bxOp_un, ↓bxOp_makeI, ↓bxOp_makeFunc, ↓bxOp_makeSlice, ↓bxOp_slice, ↓bxOp_fieldAddr, ↓bxOp_field, ↓bxOp_indexAddr, ↓bxOp_index, ↓bxOp_assert, ↓bxOp_extract, ↓bxOp_value, ↓bxOp_len, ↓bxOp_cap, ↓bxOp_append, ↓bxOp_copy, ↓bxOp_clear, ↓bxOp_max, ↓bxOp_min, ↓bxOp_convert, ↓sxPut_none, ↓bxPut, ↓seqQ_normal, ↓seqQ_exit, ↓seqQ_ret, ↓seqQ_goto, ↓blockQ_normal, ↓blockQ_ret, ↓blockQ_goto, ↓blockQ_exit, ↓loopQ_normal, ↓loopQ_exit, ↓loopQ_ret, ↓loopQ_goto, ↓resQ_normal, ↓resQ_ret, ↓sxRes_nil, ↓sxRes_tmp, ↓bxRes_cell, ↓upd_apply, ↓ev_tmp, ↓ev_const, ↓ev_global, ↓ev_func, ↓dstAt, ↓gval_some, sxOptB_some, sxOptB_ite, mm_max, mm_min, binP_shl, binP_shr, binP_int, intBin, una_not_dec, una_nt, una_nf, una_neg, aPick_true, aPick_false, sxCallVB_fn, sxCallVB_yield, sxGuardB_u, sxGuardB_tt, sxGuardB_tf, sxGuardB_ft, sxGuardB_ff, sxIfB_t, sxIfB_f, packRes_one, packRes_two, List.map_cons, List.map_nil, List.nil_append, List.cons_append, List.append_nil, ↓reduceIte, Nat.reduceEqDiff, Nat.reduceLT, dec_T, dec_F, false_imp, true_and, and_true, true_implies, implies_true, false_and, and_false, true_or, or_true, false_or, or_false, and_self, or_self, read_relow, size_relow, low_relow, relow_relow, aLoad_relow, Nat.add_zero, Nat.mul_one, one1, Option.bind_some, ne_eq, Int.natCast_nonneg, Int.toNat_natCast, not_true_eq_false, not_false_eq_true, Option.map_some, Option.map_none, *, lenI, ldI] | (with_reducible refine sxDL_barE (by assumption) (by decide +kernel) ?_) | (with_reducible refine sxDL_bar (by decide +kernel) ?_) | (with_reducible refine sxD_bar (by decide +kernel) ?_))
      exact ⟨i, by omega, Q.set i lo, y, _, r9, o9, by omega, hQ2l, hQ2d, hyd, hyn, hyb, hfin, s9, hF9, w9, rfl, rfl⟩

end Go.Proofs.YtnbhjbelgmkpeaaDoor
