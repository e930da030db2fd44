/- Whole numbers of any size, continued: the number of an int. -/
import Derived.Test.YtnbhjbelgmkpeaaDoorB5
import Derived.Test.YtnbhjbelgmkpeaaDoorB6
set_option linter.unusedVariables false
set_option linter.unusedSimpArgs false
set_option linter.unusedSectionVars false

namespace Go.Proofs.YtnbhjbelgmkpeaaDoor
open Go Go.AM
set_option maxRecDepth 10000
set_option linter.unusedSimpArgs false

/-- A number of any size, as the machine keeps it: its sign and its digits. -/
def BigIs (H : Heap) (v : Value) (z : Int) (lo : Nat) : Prop :=
  ∃ v' w r o, v = .agg ⟨[.bool (decide (z < 0)), v']⟩ ∧ SlI .i64 H v' w r o ∧ Digs w ∧ Norm w ∧ val w = z.natAbs ∧ w.length ≤ lo
def BigOut (S : AM.Sys) (f : FuncId) (args : List Value) (H : Heap) (z : Int) (lo : Nat) : Prop := ∃ H' v, Keep H H' ∧ Grp H' ∧ BigIs H' v z lo ∧ Runs Tryd.prog S (.fn f) args H v H'
theorem ldBig (H : Heap) (r o : Nat) : aLoad Tryd.prog H 50 (.pointer (some ⟨r, o, none⟩)) = (H.read r o 2).map fun l => .agg ⟨l⟩ := by kernel_rfl
theorem alBig (H : Heap) : aAlloc Tryd.prog H 50 = some (.pointer (some ⟨H.size, 0, none⟩), H.newExact [.bool false, .slice none 0 0] 50) := by kernel_rfl
theorem stBig {H : Heap} {r : Nat} {cells : List Value} (h : Own H r 50 cells) (hl : cells.length = 2) (s : Bool) (a : Option Addr) (n c : Nat) :
    ∃ H2, aStore Tryd.prog H 50 (.pointer (some ⟨r, 0, none⟩)) (.agg ⟨[.bool s, .slice a n c]⟩) = some H2 ∧ H2.read r 0 2 = some [.bool s, .slice a n c] ∧ H2.size = H.size ∧ (∀ H0, Keep H0 H → H0.size ≤ r → Keep H0 H2) := by
  have hob := h.store (P := Tryd.prog) (t := 50) (i := Tryd.t50) (by kernel_rfl) (v := .agg ⟨[.bool s, .slice a n c]⟩) (new := [.bool s, .slice a n c]) rfl (by kernel_rfl) rfl (o := 0) (show 0 + 2 ≤ cells.length by omega)
  obtain ⟨H2, h1, h2, h3, _, h5⟩ := hob
  refine ⟨H2, h1, ?_, h3, h5⟩
  have h6 := h2.read (o := 0) (n := 2) (by rw [splice_length (show 0 + 2 ≤ cells.length by omega)]; omega)
  rw [h6]
  exact congrArg some (splice_at (l := cells) (off := 0) (vs := [.bool s, .slice a n c]) (show 0 + 2 ≤ cells.length by omega))
theorem val_zero {w : List Int} (hd : Digs w) (hn : Norm w) : 0 < w.length ↔ 0 < val w := by
  constructor
  · exact norm_pos hd hn
  · intro h
    rcases Nat.eq_zero_or_pos w.length with h0 | h0
    · rw [List.length_eq_zero_iff.1 h0] at h; simp [val] at h
    · exact h0

variable {S : AM.Sys} (hS : Only S 10)
include hS

theorem Of_runs (n : Int) (H : Heap) (hg : Grp H) (hL : H.low ≤ H.size) (hn : -9223372036854775808 ≤ n ∧ n ≤ 9223372036854775807) : BigOut S 55 [.int .i64 n] H n 5 := by
  suffices h : WCall Tryd.prog S (.fn 55) [.int .i64 n] H (fun v H' => Keep H H' ∧ Grp H' ∧ BigIs H' v n 5) by
    obtain ⟨v, H', hr, h1, h2, h3⟩ := h; exact ⟨H', v, h1, h2, h3, hr⟩
  obtain ⟨H1, e1, hK1, hs1, zz, _⟩ := box1 H [.bool false, .slice none 0 0] 50
  have w1 : Own H1 H.size 50 [.bool false, .slice none 0 0] := e1 ▸ Own.new H _ _
  have hg1 := hK1.grp hg
  clear zz hs1
  refine call_of Tryd.func55 rfl (Nat.le_of_ble_eq_true rfl) (hS.no rfl _ _) ?_
  rw [Tryd.ntmps55, Tryd.results55]
  repeat' (first | (with_reducible refine sxGuardB_tsp (fun h => ?_) (fun h => ?_)) | (with_reducible refine sxGuardB_fsp (fun h => ?_) (fun h => ?_)) | (with_reducible refine sxIfB_sp (fun h => ?_) (fun h => ?_)) | simp only [↓sxC_skip, ↓sxC_draw, ↓sxC_region, ↓sxC_seq, ↓bxC_cond, ↓bxC_loop, ↓sxC_block, ↓sxC_exit, ↓sxC_goto, ↓sxC_ret, ↓sxOps_nil, ↓sxOps_cons, ↓sxDraw_nil, ↓bxDraw_cons, ↓sxDL_move, ↓sxDL_assign, ↓sxDL_pick, ↓sxDL_alloc, ↓sxDL_box, ↓sxDL_build, ↓sxDL_buildSlice, ↓sxDL_insert, ↓sxDL_load, ↓sxDL_nilCheck, ↓sxDL_binOp, ↓sxDL_unOp, ↓sxDL_convert, ↓sxDL_makeInterface, ↓sxDL_makeFunc, ↓sxDL_makeMap, ↓sxDL_makeSlice, ↓sxDL_slice, ↓sxDL_fieldAddr, ↓sxDL_field, ↓sxDL_indexAddr, ↓sxDL_index, ↓sxDL_typeAssert, ↓sxDL_extract, ↓sxDL_call, ↓sxDL_lookup, ↓sxDL_mapUpdate, ↓sxDL_range, ↓sxDL_next, ↓sxDL_entry, ↓sxDL_mapEntry, ↓sxDL_entryStore, ↓sxD_same, ↓sxStep_none, ↓bxStep_some, ↓bxOp_move, ↓bxOp_assign, ↓bxOp_pick, ↓bxOp_alloc, ↓bxOp_box, ↓bxOp_build, ↓bxOp_buildSlice, ↓bxOp_load, ↓bxOp_store, ↓bxOp_nilCheck, ↓bxOp_bin, ↓bxOp_un, ↓bxOp_makeI, ↓bxOp_makeFunc, ↓bxOp_makeSlice, ↓bxOp_slice, ↓bxOp_fieldAddr, ↓bxOp_field, ↓bxOp_indexAddr, ↓bxOp_index, ↓bxOp_assert, ↓bxOp_extract, ↓bxOp_value, ↓bxOp_len, ↓bxOp_cap, ↓bxOp_append, ↓bxOp_copy, ↓bxOp_max, ↓bxOp_min, ↓bxOp_convert, ↓sxPut_none, ↓bxPut, ↓seqQ_normal, ↓seqQ_exit, ↓seqQ_ret, ↓seqQ_goto, ↓blockQ_normal, ↓blockQ_ret, ↓blockQ_goto, ↓blockQ_exit, ↓loopQ_normal, ↓loopQ_exit, ↓loopQ_ret, ↓loopQ_goto, ↓resQ_normal, ↓resQ_ret, ↓sxRes_nil, ↓sxRes_tmp, ↓bxRes_cell, ↓upd_apply, ↓ev_tmp, ↓ev_const, ↓ev_global, ↓ev_func, ↓dstAt, ↓gval_some, sxOptB_some, sxOptB_ite, mm_max, mm_min, binP_shl, binP_shr, binP_int, intBin, una_not_dec, una_nt, una_nf, una_neg, aPick_true, aPick_false, sxCallVB_fn, sxCallVB_yield, sxGuardB_u, sxGuardB_tt, sxGuardB_tf, sxGuardB_ft, sxGuardB_ff, sxIfB_t, sxIfB_f, packRes_one, packRes_two, List.map_cons, List.map_nil, List.nil_append, List.cons_append, List.append_nil, ↓reduceIte, Nat.reduceEqDiff, Nat.reduceLT, dec_T, dec_F, false_imp, true_and, and_true, true_implies, implies_true, false_and, and_false, true_or, or_true, false_or, or_false, and_self, or_self, read_relow, size_relow, low_relow, relow_relow, aLoad_relow, Nat.add_zero, Nat.mul_one, one1, Option.bind_some, ne_eq, Int.natCast_nonneg, Int.toNat_natCast, not_true_eq_false, not_false_eq_true, Option.map_some, Option.map_none, *, argF, List.getD_cons_zero, List.getD_cons_succ, lenI, alBig] | (with_reducible refine sxDL_bar (by decide +kernel) ?_) | (with_reducible refine sxD_bar (by decide +kernel) ?_))
  refine sxL_of (fun m ρ H2 => ∃ (z : Int) (out : List Int) (v' : Value), m = z.natAbs ∧ (-9223372036854775808 ≤ z ∧ z ≤ 9223372036854775807) ∧ Digs out ∧ val out + 10000 ^ out.length * z.natAbs = n.natAbs ∧ out.length ≤ 5 ∧ Lst 3 .i64 H1 H2 v' out ∧
    ρ 0 = .int .i64 z ∧ ρ 2 = .pointer (some ⟨H.size, 0, none⟩) ∧ ρ 3 = v' ∧ ρ 4 = .bool (decide (n < 0)))
    ⟨n, [], _, rfl, hn, (fun x hx => absurd hx (List.not_mem_nil)), (by simp [val]), by simp, Lst.nil (Keep.refl H1) hg1, rfl, rfl, rfl, rfl⟩ ?_
  clear e1
  rintro m ρ H2 ⟨z, out, v', rfl, hz, hd, hv, hl, L, e0, e2, e3, e4⟩
  by_cases hz0 : z = 0
  · subst hz0
    have hv2 : val out = n.natAbs := by simpa using hv
    have hob := L.sl (fun x hx => by have := hd x hx; show -9223372036854775808 ≤ x ∧ x ≤ 9223372036854775807; omega) (by show out.length ≤ 9223372036854775807; omega)
    obtain ⟨rr, sl⟩ := hob
    have hob2 := whole_runs hS (decide (n < 0)) v' out rr 0 H2 L.grp ((hK1.trans L.keep).low hL) sl (by omega)
    obtain ⟨H3, v3, r3, o3, hK3, hg3, s3, hF3, hfr3, hR3⟩ := hob2
    have f3 := hR3.bx
    have hob3 := s3.v0
    obtain ⟨a3, c3, rfl⟩ := hob3
    have hK13 := L.keep.trans hK3
    have w3 := w1.keep hK13
    have hob4 := stBig w3 rfl (decide (n < 0) && decide (0 < (trimL out).length)) a3 (trimL out).length c3
    obtain ⟨H4, ps, q4, hsz4, hkp⟩ := hob4
    have hK4 := hkp H (hK1.trans hK13) (Nat.le_refl _)
    have hfr : H.size < H2.size := Nat.lt_of_lt_of_le w1.lt L.keep.size
    have s4 := SlE.other w3 ps hsz4 s3 (fun h0 => by have := hfr3 h0; omega)
    have hg4 := hK4.grp hg
    have hbig : BigIs H4 (.agg ⟨[.bool (decide (n < 0) && decide (0 < (trimL out).length)), .slice a3 (trimL out).length c3]⟩) n 5 := by
      have hvt : val (trimL out) = n.natAbs := by rw [trimL_val]; exact hv2
      have hsg : (decide (n < 0) && decide (0 < (trimL out).length)) = decide (n < 0) := by
        by_cases hneg : n < 0
        · have : 0 < (trimL out).length := (val_zero (trimL_digs hd) (trimL_norm out)).2 (by rw [hvt]; omega)
          simp [hneg, this]
        · simp [hneg]
      exact ⟨_, trimL out, r3, o3, by rw [hsg], s4, trimL_digs hd, trimL_norm out, hvt, Nat.le_trans (trimL_le out) hl⟩
    clear hR3 s3 s4 sl L w1 w3 hd hv hv2 hkp hfr3 hl
    generalize (decide (n < 0) && decide (0 < (trimL out).length)) = sg at *
    generalize (trimL out).length = tl at *
    repeat' (first | (with_reducible refine sxGuardB_tsp (fun h => ?_) (fun h => ?_)) | (with_reducible refine sxGuardB_fsp (fun h => ?_) (fun h => ?_)) | (with_reducible refine sxIfB_sp (fun h => ?_) (fun h => ?_)) | simp only [↓sxC_skip, ↓sxC_draw, ↓sxC_region, ↓sxC_seq, ↓bxC_cond, ↓bxC_loop, ↓sxC_block, ↓sxC_exit, ↓sxC_goto, ↓sxC_ret, ↓sxOps_nil, ↓sxOps_cons, ↓sxDraw_nil, ↓bxDraw_cons, ↓sxDL_move, ↓sxDL_assign, ↓sxDL_pick, ↓sxDL_alloc, ↓sxDL_box, ↓sxDL_build, ↓sxDL_buildSlice, ↓sxDL_insert, ↓sxDL_load, ↓sxDL_nilCheck, ↓sxDL_binOp, ↓sxDL_unOp, ↓sxDL_convert, ↓sxDL_makeInterface, ↓sxDL_makeFunc, ↓sxDL_makeMap, ↓sxDL_makeSlice, ↓sxDL_slice, ↓sxDL_fieldAddr, ↓sxDL_field, ↓sxDL_indexAddr, ↓sxDL_index, ↓sxDL_typeAssert, ↓sxDL_extract, ↓sxDL_call, ↓sxDL_lookup, ↓sxDL_mapUpdate, ↓sxDL_range, ↓sxDL_next, ↓sxDL_entry, ↓sxDL_mapEntry, ↓sxDL_entryStore, ↓sxD_same, ↓sxStep_none, ↓bxStep_some, ↓bxOp_move, ↓bxOp_assign, ↓bxOp_pick, ↓bxOp_alloc, ↓bxOp_box, ↓bxOp_build, ↓bxOp_buildSlice, ↓bxOp_load, ↓bxOp_store, ↓bxOp_nilCheck, ↓bxOp_bin, ↓bxOp_un, ↓bxOp_makeI, ↓bxOp_makeFunc, ↓bxOp_makeSlice, ↓bxOp_slice, ↓bxOp_fieldAddr, ↓bxOp_field, ↓bxOp_indexAddr, ↓bxOp_index, ↓bxOp_assert, ↓bxOp_extract, ↓bxOp_value, ↓bxOp_len, ↓bxOp_cap, ↓bxOp_append, ↓bxOp_copy, ↓bxOp_max, ↓bxOp_min, ↓bxOp_convert, ↓sxPut_none, ↓bxPut, ↓seqQ_normal, ↓seqQ_exit, ↓seqQ_ret, ↓seqQ_goto, ↓blockQ_normal, ↓blockQ_ret, ↓blockQ_goto, ↓blockQ_exit, ↓loopQ_normal, ↓loopQ_exit, ↓loopQ_ret, ↓loopQ_goto, ↓resQ_normal, ↓resQ_ret, ↓sxRes_nil, ↓sxRes_tmp, ↓bxRes_cell, ↓upd_apply, ↓ev_tmp, ↓ev_const, ↓ev_global, ↓ev_func, ↓dstAt, ↓gval_some, sxOptB_some, sxOptB_ite, mm_max, mm_min, binP_shl, binP_shr, binP_int, intBin, una_not_dec, una_nt, una_nf, una_neg, aPick_true, aPick_false, sxCallVB_fn, sxCallVB_yield, sxGuardB_u, sxGuardB_tt, sxGuardB_tf, sxGuardB_ft, sxGuardB_ff, sxIfB_t, sxIfB_f, packRes_one, packRes_two, List.map_cons, List.map_nil, List.nil_append, List.cons_append, List.append_nil, ↓reduceIte, Nat.reduceEqDiff, Nat.reduceLT, dec_T, dec_F, false_imp, true_and, and_true, true_implies, implies_true, false_and, and_false, true_or, or_true, false_or, or_false, and_self, or_self, read_relow, size_relow, low_relow, relow_relow, aLoad_relow, Nat.add_zero, Nat.mul_one, one1, Option.bind_some, ne_eq, Int.natCast_nonneg, Int.toNat_natCast, not_true_eq_false, not_false_eq_true, Option.map_some, Option.map_none, *, lenI, ldBig] | (with_reducible refine sxDL_bar (by decide +kernel) ?_) | (with_reducible refine sxD_bar (by decide +kernel) ?_))
  · have hna : (z.tmod 10000).natAbs = z.natAbs % 10000 := by rw [Int.natAbs_tmod]; rfl
    have hnd : (z.tdiv 10000).natAbs = z.natAbs / 10000 := by rw [Int.natAbs_tdiv]; rfl
    have hb : ¬ (10000 : Int) = 0 := by omega
    have f1 : IntKind.i64.wrap (z.tdiv 10000) = z.tdiv 10000 := IntWalk.i64_in _ (by omega)
    have hl4 : out.length ≤ 4 := by
      rcases Nat.lt_or_ge 4 out.length with h5 | h5
      · exfalso
        have h6 := pow_mono (show 5 ≤ out.length by omega)
        have h7 : (10000 : Int) ^ out.length * 1 ≤ 10000 ^ out.length * z.natAbs := Int.mul_le_mul_of_nonneg_left (by omega) (Int.le_of_lt (pow_pos' _))
        rw [Int.mul_one] at h7
        have h8 := hd.nonneg
        have h9 : (10000 : Int) ^ 5 = 100000000000000000000 := by decide
        omega
      · exact h5
    have hfin : ∀ q : Int, q = ((z.tmod 10000).natAbs : Int) → Digs (out ++ [q]) ∧ val (out ++ [q]) + 10000 ^ (out ++ [q]).length * ((z.tdiv 10000).natAbs : Int) = n.natAbs := fun q hq => by
      have h1 : (q : Int) + 10000 * ((z.tdiv 10000).natAbs : Int) = z.natAbs := by rw [hq, hna, hnd]; omega
      refine ⟨hd.append (Digs.one (by omega)), ?_⟩
      rw [val_append, List.length_append, List.length_singleton, Int.pow_succ, Int.mul_assoc]
      simp only [val, Int.mul_zero, Int.add_zero]
      rw [← hv, ← h1, Int.mul_add]
      omega
    have hob1 := L.push okI hg1 (by omega) (z.tmod 10000)
    obtain ⟨v3, H3, p3, L3⟩ := hob1
    have hob2 := L.push okI hg1 (by omega) (0 - z.tmod 10000)
    obtain ⟨v4, H4, p4, L4⟩ := hob2
    have b3 := bsI H2 (z.tmod 10000)
    have b4 := bsI H2 (0 - z.tmod 10000)
    have f2 : IntKind.i64.wrap (0 - z.tmod 10000) = 0 - z.tmod 10000 := IntWalk.i64_in _ (by omega)
    have hlt : z.natAbs / 10000 < z.natAbs := by omega
    have hdz : -9223372036854775808 ≤ z.tdiv 10000 ∧ z.tdiv 10000 ≤ 9223372036854775807 := by omega
    clear L hv w1
    repeat' (first | (with_reducible refine sxGuardB_tsp (fun h => ?_) (fun h => ?_)) | (with_reducible refine sxGuardB_fsp (fun h => ?_) (fun h => ?_)) | (with_reducible refine sxIfB_sp (fun h => ?_) (fun h => ?_)) | simp only [↓sxC_skip, ↓sxC_draw, ↓sxC_region, ↓sxC_seq, ↓bxC_cond, ↓bxC_loop, ↓sxC_block, ↓sxC_exit, ↓sxC_goto, ↓sxC_ret, ↓sxOps_nil, ↓sxOps_cons, ↓sxDraw_nil, ↓bxDraw_cons, ↓sxDL_move, ↓sxDL_assign, ↓sxDL_pick, ↓sxDL_alloc, ↓sxDL_box, ↓sxDL_build, ↓sxDL_buildSlice, ↓sxDL_insert, ↓sxDL_load, ↓sxDL_nilCheck, ↓sxDL_binOp, ↓sxDL_unOp, ↓sxDL_convert, ↓sxDL_makeInterface, ↓sxDL_makeFunc, ↓sxDL_makeMap, ↓sxDL_makeSlice, ↓sxDL_slice, ↓sxDL_fieldAddr, ↓sxDL_field, ↓sxDL_indexAddr, ↓sxDL_index, ↓sxDL_typeAssert, ↓sxDL_extract, ↓sxDL_call, ↓sxDL_lookup, ↓sxDL_mapUpdate, ↓sxDL_range, ↓sxDL_next, ↓sxDL_entry, ↓sxDL_mapEntry, ↓sxDL_entryStore, ↓sxD_same, ↓sxStep_none, ↓bxStep_some, ↓bxOp_move, ↓bxOp_assign, ↓bxOp_pick, ↓bxOp_alloc, ↓bxOp_box, ↓bxOp_build, ↓bxOp_buildSlice, ↓bxOp_load, ↓bxOp_store, ↓bxOp_nilCheck, ↓bxOp_bin, ↓bxOp_un, ↓bxOp_makeI, ↓bxOp_makeFunc, ↓bxOp_makeSlice, ↓bxOp_slice, ↓bxOp_fieldAddr, ↓bxOp_field, ↓bxOp_indexAddr, ↓bxOp_index, ↓bxOp_assert, ↓bxOp_extract, ↓bxOp_value, ↓bxOp_len, ↓bxOp_cap, ↓bxOp_append, ↓bxOp_copy, ↓bxOp_max, ↓bxOp_min, ↓bxOp_convert, ↓sxPut_none, ↓bxPut, ↓seqQ_normal, ↓seqQ_exit, ↓seqQ_ret, ↓seqQ_goto, ↓blockQ_normal, ↓blockQ_ret, ↓blockQ_goto, ↓blockQ_exit, ↓loopQ_normal, ↓loopQ_exit, ↓loopQ_ret, ↓loopQ_goto, ↓resQ_normal, ↓resQ_ret, ↓sxRes_nil, ↓sxRes_tmp, ↓bxRes_cell, ↓upd_apply, ↓ev_tmp, ↓ev_const, ↓ev_global, ↓ev_func, ↓dstAt, ↓gval_some, sxOptB_some, sxOptB_ite, mm_max, mm_min, binP_shl, binP_shr, binP_int, intBin, una_not_dec, una_nt, una_nf, una_neg, aPick_true, aPick_false, sxCallVB_fn, sxCallVB_yield, sxGuardB_u, sxGuardB_tt, sxGuardB_tf, sxGuardB_ft, sxGuardB_ff, sxIfB_t, sxIfB_f, packRes_one, packRes_two, List.map_cons, List.map_nil, List.nil_append, List.cons_append, List.append_nil, ↓reduceIte, Nat.reduceEqDiff, Nat.reduceLT, dec_T, dec_F, false_imp, true_and, and_true, true_implies, implies_true, false_and, and_false, true_or, or_true, false_or, or_false, and_self, or_self, read_relow, size_relow, low_relow, relow_relow, aLoad_relow, Nat.add_zero, Nat.mul_one, one1, Option.bind_some, ne_eq, Int.natCast_nonneg, Int.toNat_natCast, not_true_eq_false, not_false_eq_true, Option.map_some, Option.map_none, *, lenI, ldI] | (with_reducible refine sxDL_bar (by decide +kernel) ?_) | (with_reducible refine sxD_bar (by decide +kernel) ?_))
    · have hf := hfin (0 - z.tmod 10000) (by omega)
      exact ⟨_, by omega, z.tdiv 10000, _, _, rfl, by omega, hf.1, hf.2, by simp; omega, L4, rfl, rfl⟩
    · have hf := hfin (z.tmod 10000) (by omega)
      exact ⟨_, by omega, z.tdiv 10000, _, _, rfl, by omega, hf.1, hf.2, by simp; omega, L3, rfl, rfl⟩
end Go.Proofs.YtnbhjbelgmkpeaaDoor
