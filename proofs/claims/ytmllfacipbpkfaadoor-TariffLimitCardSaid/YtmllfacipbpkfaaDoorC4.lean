/- IsDiagram of the reference, on the canonical machine. -/
import Derived.Test.YtmllfacipbpkfaaDoorC3
set_option linter.unusedVariables false
set_option linter.unusedSimpArgs false
set_option linter.unusedSectionVars false

namespace Go.Proofs.YtmllfacipbpkfaaDoor
open Go Go.AM
set_option maxRecDepth 10000
set_option linter.unusedSimpArgs false

theorem alN (H : Heap) : aAlloc Tryd.prog H 32 = some (.pointer (some ⟨H.size, 0, none⟩), H.newExact [.int .i64 0, .slice none 0 0, .slice none 0 0] 32) := by kernel_rfl
theorem infoN : ∃ i, Tryd.prog.info? 32 = some i ∧ i.size = 3 := ⟨Tryd.t32, by kernel_rfl, by kernel_rfl⟩
theorem stN (H : Heap) (m : Int) (a1 a2 : Option Addr) (n1 c1 n2 c2 : Nat) : ∃ H2, aStore Tryd.prog (H.newExact [.int .i64 0, .slice none 0 0, .slice none 0 0] 32) 32 (.pointer (some ⟨H.size, 0, none⟩)) (.agg ⟨[.int .i64 m, .slice a1 n1 c1, .slice a2 n2 c2]⟩) = some H2 ∧ Keep H H2 ∧
    H2.size = H.size + 1 ∧ H2.read H.size 0 1 = some [.int .i64 m] ∧ H2.read H.size 1 1 = some [.slice a1 n1 c1] ∧ H2.read H.size 2 1 = some [.slice a2 n2 c2] := by
  obtain ⟨i, hi, hs⟩ := infoN
  obtain ⟨H2, h1, h2, h4, h3⟩ := store_new (P := Tryd.prog) (t := 32) (e := 32) hi H (l := [.int .i64 0, .slice none 0 0, .slice none 0 0]) (cells := [.int .i64 m, .slice a1 n1 c1, .slice a2 n2 c2]) rfl (hs.trans rfl) rfl
  exact ⟨H2, h1, h2, h4, h3 0 1 (show 0 + 1 ≤ 3 by omega), h3 1 1 (show 1 + 1 ≤ 3 by omega), h3 2 1 (show 2 + 1 ≤ 3 by omega)⟩

variable {S : AM.Sys} (hS : Only S 8)
include hS

set_option maxHeartbeats 400000 in
theorem IsDiagram_runs (k : Int) (v : Value) (d : List Nd) (r o : Nat) (H : Heap) (hL : H.low ≤ H.size) (hd : SlN H v d r o) :
    ∃ H', Keep H H' ∧ Runs Tryd.prog S (.fn 33) [.int .i64 k, v] H (.bool (decide (Diagram k d))) H' := by
  suffices h : WCall Tryd.prog S (.fn 33) [.int .i64 k, v] H (fun v H' => v = .bool (decide (Diagram k d)) ∧ Keep H H') by
    obtain ⟨_, H', hr, rfl, hk⟩ := h; exact ⟨H', hk, hr⟩
  obtain ⟨a, cap, rfl⟩ := hd.v0
  refine call_of Tryd.func33 rfl (Nat.le_of_ble_eq_true rfl) (hS.no rfl _ _) ?_
  rw [Tryd.ntmps33, Tryd.results33]
  repeat' (first | (with_reducible refine sxGuardB_tsp (fun h => ?_) (fun h => ?_)) | (with_reducible refine sxGuardB_fsp (fun h => ?_) (fun h => ?_)) | (with_reducible refine sxIfB_sp (fun h => ?_) (fun h => ?_)) | simp only [↓sxC_skip, ↓sxC_draw, ↓sxC_region, ↓sxC_seq, ↓bxC_cond, ↓bxC_loop, ↓sxC_block, ↓sxC_exit, ↓sxC_goto, ↓sxC_ret, ↓sxOps_nil, ↓sxOps_cons, ↓sxDraw_nil, ↓bxDraw_cons, ↓sxD_same, ↓sxStep_none, ↓bxStep_some, ↓bxOp_move, ↓bxOp_assign, ↓bxOp_pick, ↓bxOp_alloc, ↓bxOp_box, ↓bxOp_build, ↓bxOp_buildSlice, ↓bxOp_load, ↓bxOp_store, ↓bxOp_nilCheck, ↓bxOp_bin, ↓bxOp_un, ↓bxOp_makeI, ↓bxOp_makeFunc, ↓bxOp_makeSlice, ↓bxOp_slice, ↓bxOp_fieldAddr, ↓bxOp_field, ↓bxOp_indexAddr, ↓bxOp_index, ↓bxOp_assert, ↓bxOp_extract, ↓bxOp_value, ↓bxOp_len, ↓bxOp_cap, ↓bxOp_append, ↓bxOp_copy, ↓bxOp_max, ↓bxOp_min, ↓bxOp_convert, ↓sxPut_none, ↓bxPut, ↓seqQ_normal, ↓seqQ_exit, ↓seqQ_ret, ↓seqQ_goto, ↓blockQ_normal, ↓blockQ_ret, ↓blockQ_goto, ↓blockQ_exit, ↓loopQ_normal, ↓loopQ_exit, ↓loopQ_ret, ↓loopQ_goto, ↓resQ_normal, ↓resQ_ret, ↓sxRes_nil, ↓sxRes_tmp, ↓bxRes_cell, ↓upd_apply, ↓ev_tmp, ↓ev_const, ↓ev_global, ↓ev_func, ↓dstAt, ↓gval_some, sxOptB_some, sxOptB_ite, mm_max, mm_min, bin_shl, bin_shr, bin_int, intBin, una_not_dec, una_nt, una_nf, una_neg, aPick_true, aPick_false, sxCallVB_fn, sxCallVB_yield, sxGuardB_u, sxGuardB_tt, sxGuardB_tf, sxGuardB_ft, sxGuardB_ff, sxIfB_t, sxIfB_f, packRes_one, packRes_two, List.map_cons, List.map_nil, List.nil_append, List.cons_append, List.append_nil, ↓reduceIte, Nat.reduceEqDiff, Nat.reduceLT, dec_T, dec_F, false_imp, true_and, and_true, true_implies, implies_true, false_and, and_false, true_or, or_true, false_or, or_false, and_self, or_self, read_relow, size_relow, low_relow, relow_relow, aLoad_relow, Nat.add_zero, Nat.mul_one, one1, Option.bind_some, ne_eq, Int.natCast_nonneg, Int.toNat_natCast, not_true_eq_false, not_false_eq_true, Option.map_some, Option.map_none, *, argF, List.getD_cons_zero, List.getD_cons_succ, lenN])
  all_goals first
    | exact ⟨bool_f fun (hc : Diagram k d) => by have := hc.1; have := hc.2.1; omega, Keep.refl _⟩
    | skip
  have hb : 1 ≤ d.length ∧ d.length ≤ 200000 := by omega
  refine sxL_of (fun m ρ H1 => ∃ j : Nat, m = d.length - j ∧ j ≤ d.length ∧ Keep H H1 ∧ (∀ i, i < j → NodeOk k d (d.getD i default)) ∧ ρ 0 = .int .i64 k ∧ ρ 1 = .slice a d.length cap ∧ ρ 5 = .int .i64 j)
    ⟨0, rfl, Nat.zero_le _, Keep.refl _, fun j hj => absurd hj (Nat.not_lt_zero j), rfl, rfl, rfl⟩ ?_
  rintro m ρ H1 ⟨j, rfl, hj, hK, hall, e0, e1, e5⟩
  by_cases hlt : j < d.length
  · have hd1 := hd.keep hK
    have hix := SlN_ix hd1 (i := (j : Int)) (by omega) (by omega)
    rw [Int.toNat_natCast] at hix
    obtain ⟨v1, r1, o1, v2, r2, o2, hrd, _, _, _, _, h1, h2⟩ := SlN_rd hd1 hlt
    have hmem : d.getD j default ∈ d := getD_mem hlt
    have hno : ¬ NodeOk k d (d.getD j default) → Value.bool false = .bool (decide (Diagram k d)) := fun h => bool_f fun hc => h (hc.2.2 _ hmem)
    have hgo : NodeOk k d (d.getD j default) → ∀ i, i < j + 1 → NodeOk k d (d.getD i default) := fun h i hi => by
      rcases Nat.lt_or_ge i j with h1 | h1
      · exact hall i h1
      · rw [show i = j by omega]; exact h
    generalize d.getD j default = n at *
    obtain ⟨a1, cap1, rfl⟩ := h1.v0
    obtain ⟨a2, cap2, rfl⟩ := h2.v0
    obtain ⟨H2, hst, hK2, hsz2, q0, q1, q2⟩ := stN H1 n.mark a1 a2 n.cuts.length cap1 n.to.length cap2
    have h1 := h1.keep hK2
    have h2 := h2.keep hK2
    have hd2 := hd1.keep hK2
    have hKK := hK.trans hK2
    have hL2 : H2.low ≤ H2.size := hKK.low hL
    have hw := wrap_succ hlt hd.ml
    have hlt' : (j : Int) < (d.length : Int) := by omega
    have hi : ((n.to.length : Int) = (n.cuts.length : Int)) ↔ n.to.length = n.cuts.length := by omega
    by_cases hc0 : 0 < n.cuts.length
    · have hc0' : ¬ (n.cuts.length : Int) < 1 := by omega
      have x0 : aIndexAt Tryd.prog 23 (.slice a1 n.cuts.length cap1) (.int .i64 0) = some (.pointer (some ⟨r1, o1 + 0, none⟩)) := SlI_ix h1 (k := 0) hc0
      have x1 := (h1.rdI hc0).1
      simp only [Nat.add_zero] at x0 x1
      have x2 := SlI_ix h1 (k := n.cuts.length - 1) (by omega)
      have x3 := (h1.rdI (i := n.cuts.length - 1) (by omega)).1
      have hml := h1.ml
      have hmx : Go.maxLen = 9223372036854775807 := rfl
      have x4 : IntKind.i64.wrap ((n.cuts.length : Int) - 1) = ((n.cuts.length - 1 : Nat) : Int) := by rw [IntWalk.i64_in _ (by omega)]; omega
      clear hd hd1 hml hmx hK hK2 hsz2 hL
      repeat' (first | (with_reducible refine sxGuardB_tsp (fun h => ?_) (fun h => ?_)) | (with_reducible refine sxGuardB_fsp (fun h => ?_) (fun h => ?_)) | (with_reducible refine sxIfB_sp (fun h => ?_) (fun h => ?_)) | simp only [↓sxC_skip, ↓sxC_draw, ↓sxC_region, ↓sxC_seq, ↓bxC_cond, ↓bxC_loop, ↓sxC_block, ↓sxC_exit, ↓sxC_goto, ↓sxC_ret, ↓sxOps_nil, ↓sxOps_cons, ↓sxDraw_nil, ↓bxDraw_cons, ↓sxD_same, ↓sxStep_none, ↓bxStep_some, ↓bxOp_move, ↓bxOp_assign, ↓bxOp_pick, ↓bxOp_alloc, ↓bxOp_box, ↓bxOp_build, ↓bxOp_buildSlice, ↓bxOp_load, ↓bxOp_store, ↓bxOp_nilCheck, ↓bxOp_bin, ↓bxOp_un, ↓bxOp_makeI, ↓bxOp_makeFunc, ↓bxOp_makeSlice, ↓bxOp_slice, ↓bxOp_fieldAddr, ↓bxOp_field, ↓bxOp_indexAddr, ↓bxOp_index, ↓bxOp_assert, ↓bxOp_extract, ↓bxOp_value, ↓bxOp_len, ↓bxOp_cap, ↓bxOp_append, ↓bxOp_copy, ↓bxOp_max, ↓bxOp_min, ↓bxOp_convert, ↓sxPut_none, ↓bxPut, ↓seqQ_normal, ↓seqQ_exit, ↓seqQ_ret, ↓seqQ_goto, ↓blockQ_normal, ↓blockQ_ret, ↓blockQ_goto, ↓blockQ_exit, ↓loopQ_normal, ↓loopQ_exit, ↓loopQ_ret, ↓loopQ_goto, ↓resQ_normal, ↓resQ_ret, ↓sxRes_nil, ↓sxRes_tmp, ↓bxRes_cell, ↓upd_apply, ↓ev_tmp, ↓ev_const, ↓ev_global, ↓ev_func, ↓dstAt, ↓gval_some, sxOptB_some, sxOptB_ite, mm_max, mm_min, bin_shl, bin_shr, bin_int, intBin, una_not_dec, una_nt, una_nf, una_neg, aPick_true, aPick_false, sxCallVB_fn, sxCallVB_yield, sxGuardB_u, sxGuardB_tt, sxGuardB_tf, sxGuardB_ft, sxGuardB_ff, sxIfB_t, sxIfB_f, packRes_one, packRes_two, List.map_cons, List.map_nil, List.nil_append, List.cons_append, List.append_nil, ↓reduceIte, Nat.reduceEqDiff, Nat.reduceLT, dec_T, dec_F, false_imp, true_and, and_true, true_implies, implies_true, false_and, and_false, true_or, or_true, false_or, or_false, and_self, or_self, read_relow, size_relow, low_relow, relow_relow, aLoad_relow, Nat.add_zero, Nat.mul_one, one1, Option.bind_some, ne_eq, Int.natCast_nonneg, Int.toNat_natCast, not_true_eq_false, not_false_eq_true, Option.map_some, Option.map_none, *, lenN, ldN, lenI, alN, hst, faN0, faN1, faN2, ldI, ldIs, Nat.zero_add])
      all_goals first
        | exact ⟨hno fun hc => by have := hc.1; have := hc.2.1; omega, hKK⟩
        | exact hno fun hc => by have := hc.1; have := hc.2.1; omega
        | exact hno fun hc => absurd hc.2.2.2.1 ‹_›
        | exact hno fun hc => by have := hc.2.2.1.1 0 hc0; rw [show prev n.cuts 0 = 0 from rfl] at this; omega
        | exact hno fun hc => by have := hc.2.2.1.2; unfold prev at this; rw [if_neg (by omega)] at this; omega
        | skip
      have hm : 0 ≤ n.mark ∧ n.mark < k := by omega
      have hll : n.to.length ≤ n.cuts.length ∧ n.cuts.length ≤ n.to.length := by
        have := Decidable.not_not.1 ‹¬ ¬ n.to.length = n.cuts.length›
        omega
      have h00 : 1 ≤ n.cuts.getD 0 0 := by omega
      have h99 : prev n.cuts n.cuts.length = 1000 := by unfold prev; rw [if_neg (by omega)]; omega
      rename_i u1 u2 u3 u4 u5
      clear hi u1 u2 u3 u4 u5 x0 x1 x2 x3 x4 hc0'
      refine sxL_of (fun m ρ H3 => ∃ i : Nat, m = n.cuts.length - i ∧ i ≤ n.cuts.length ∧ H3 = H2 ∧ (∀ i', i' < i → prev n.cuts i' < n.cuts.getD i' 0 ∧ ToOk d n (n.to.getD i' 0)) ∧ ρ 0 = .int .i64 k ∧ ρ 1 = .slice a d.length cap ∧
        ρ 5 = .int .i64 j ∧ ρ 6 = .pointer (some ⟨H1.size, 0, none⟩) ∧ ρ 7 = .int .i64 i)
        ⟨0, rfl, Nat.zero_le _, rfl, fun j hj => absurd hj (Nat.not_lt_zero j), by assumption, by assumption, by assumption, rfl, rfl⟩ ?_
      clear e0 e1 e5
      rintro m ρ H3 ⟨i, rfl, hi, rfl, hall2, e0, e1, e5, e6, e7⟩
      by_cases hlt2 : i < n.cuts.length
      · have hlt2' : (i : Int) < (n.cuts.length : Int) := by omega
        have hw2 := wrap_succ hlt2 h1.ml
        have x0 := SlI_ix h1 hlt2
        have x1 := (h1.rdI hlt2).1
        have x2 := SlI_ix h2 (k := i) (by omega)
        have x3 := (h2.rdI (i := i) (by omega)).1
        have hbad : ¬ (prev n.cuts i < n.cuts.getD i 0 ∧ ToOk d n (n.to.getD i 0)) → Value.bool false = .bool (decide (Diagram k d)) := fun h => hno fun hc => h ⟨hc.2.2.1.1 i hlt2, hc.2.2.2.2 _ (getD_mem (by omega))⟩
        have hgo2 : (prev n.cuts i < n.cuts.getD i 0 ∧ ToOk d n (n.to.getD i 0)) → ∀ i', i' < i + 1 → prev n.cuts i' < n.cuts.getD i' 0 ∧ ToOk d n (n.to.getD i' 0) := fun h i' hi' => by
          rcases Nat.lt_or_ge i' i with h1 | h1
          · exact hall2 i' h1
          · rw [show i' = i by omega]; exact h
        by_cases hi0 : 0 < i
        · have y0 : 0 < (i : Int) := by omega
          have hml := h1.ml
          have hmx : Go.maxLen = 9223372036854775807 := rfl
          have y1 : IntKind.i64.wrap ((i : Int) - 1) = ((i - 1 : Nat) : Int) := by rw [IntWalk.i64_in _ (by omega)]; omega
          have y2 := SlI_ix h1 (k := i - 1) (by omega)
          have y3 := (h1.rdI (i := i - 1) (by omega)).1
          have hp : prev n.cuts i = n.cuts.getD (i - 1) 0 := by unfold prev; rw [if_neg (by omega)]
          rw [hp] at hbad hgo2
          by_cases ht : 0 ≤ n.to.getD i 0 ∧ n.to.getD i 0 < d.length
          · have hix2 := SlN_ix hd2 ht.1 ht.2
            obtain ⟨_, _, _, _, _, _, _, hrd2, _⟩ := SlN_rd hd2 (i := (n.to.getD i 0).toNat) (by omega)
            generalize n.to.getD i 0 = t at *
            clear hd2 h1 h2 hst hp hml hmx
            repeat' (first | (with_reducible refine sxGuardB_tsp (fun h => ?_) (fun h => ?_)) | (with_reducible refine sxGuardB_fsp (fun h => ?_) (fun h => ?_)) | (with_reducible refine sxIfB_sp (fun h => ?_) (fun h => ?_)) | simp only [↓sxC_skip, ↓sxC_draw, ↓sxC_region, ↓sxC_seq, ↓bxC_cond, ↓bxC_loop, ↓sxC_block, ↓sxC_exit, ↓sxC_goto, ↓sxC_ret, ↓sxOps_nil, ↓sxOps_cons, ↓sxDraw_nil, ↓bxDraw_cons, ↓sxD_same, ↓sxStep_none, ↓bxStep_some, ↓bxOp_move, ↓bxOp_assign, ↓bxOp_pick, ↓bxOp_alloc, ↓bxOp_box, ↓bxOp_build, ↓bxOp_buildSlice, ↓bxOp_load, ↓bxOp_store, ↓bxOp_nilCheck, ↓bxOp_bin, ↓bxOp_un, ↓bxOp_makeI, ↓bxOp_makeFunc, ↓bxOp_makeSlice, ↓bxOp_slice, ↓bxOp_fieldAddr, ↓bxOp_field, ↓bxOp_indexAddr, ↓bxOp_index, ↓bxOp_assert, ↓bxOp_extract, ↓bxOp_value, ↓bxOp_len, ↓bxOp_cap, ↓bxOp_append, ↓bxOp_copy, ↓bxOp_max, ↓bxOp_min, ↓bxOp_convert, ↓sxPut_none, ↓bxPut, ↓seqQ_normal, ↓seqQ_exit, ↓seqQ_ret, ↓seqQ_goto, ↓blockQ_normal, ↓blockQ_ret, ↓blockQ_goto, ↓blockQ_exit, ↓loopQ_normal, ↓loopQ_exit, ↓loopQ_ret, ↓loopQ_goto, ↓resQ_normal, ↓resQ_ret, ↓sxRes_nil, ↓sxRes_tmp, ↓bxRes_cell, ↓upd_apply, ↓ev_tmp, ↓ev_const, ↓ev_global, ↓ev_func, ↓dstAt, ↓gval_some, sxOptB_some, sxOptB_ite, mm_max, mm_min, bin_shl, bin_shr, bin_int, intBin, una_not_dec, una_nt, una_nf, una_neg, aPick_true, aPick_false, sxCallVB_fn, sxCallVB_yield, sxGuardB_u, sxGuardB_tt, sxGuardB_tf, sxGuardB_ft, sxGuardB_ff, sxIfB_t, sxIfB_f, packRes_one, packRes_two, List.map_cons, List.map_nil, List.nil_append, List.cons_append, List.append_nil, ↓reduceIte, Nat.reduceEqDiff, Nat.reduceLT, dec_T, dec_F, false_imp, true_and, and_true, true_implies, implies_true, false_and, and_false, true_or, or_true, false_or, or_false, and_self, or_self, read_relow, size_relow, low_relow, relow_relow, aLoad_relow, Nat.add_zero, Nat.mul_one, one1, Option.bind_some, ne_eq, Int.natCast_nonneg, Int.toNat_natCast, not_true_eq_false, not_false_eq_true, Option.map_some, Option.map_none, *, lenN, lenI, faN0, faN1, faN2, ldI, ldIs, Nat.zero_add])
            all_goals first
              | (exfalso; omega)
              | exact hbad fun hc => by have := hc.1; have := hc.2.1; have := hc.2.2; omega
              | exact ⟨_, by omega, i + 1, rfl, by omega, hgo2 ⟨by omega, by omega, fun _ => by omega⟩, rfl⟩
              | trace_state
          · generalize n.to.getD i 0 = t at *
            clear hd2 h1 h2 hst hp hml hmx
            repeat' (first | (with_reducible refine sxGuardB_tsp (fun h => ?_) (fun h => ?_)) | (with_reducible refine sxGuardB_fsp (fun h => ?_) (fun h => ?_)) | (with_reducible refine sxIfB_sp (fun h => ?_) (fun h => ?_)) | simp only [↓sxC_skip, ↓sxC_draw, ↓sxC_region, ↓sxC_seq, ↓bxC_cond, ↓bxC_loop, ↓sxC_block, ↓sxC_exit, ↓sxC_goto, ↓sxC_ret, ↓sxOps_nil, ↓sxOps_cons, ↓sxDraw_nil, ↓bxDraw_cons, ↓sxD_same, ↓sxStep_none, ↓bxStep_some, ↓bxOp_move, ↓bxOp_assign, ↓bxOp_pick, ↓bxOp_alloc, ↓bxOp_box, ↓bxOp_build, ↓bxOp_buildSlice, ↓bxOp_load, ↓bxOp_store, ↓bxOp_nilCheck, ↓bxOp_bin, ↓bxOp_un, ↓bxOp_makeI, ↓bxOp_makeFunc, ↓bxOp_makeSlice, ↓bxOp_slice, ↓bxOp_fieldAddr, ↓bxOp_field, ↓bxOp_indexAddr, ↓bxOp_index, ↓bxOp_assert, ↓bxOp_extract, ↓bxOp_value, ↓bxOp_len, ↓bxOp_cap, ↓bxOp_append, ↓bxOp_copy, ↓bxOp_max, ↓bxOp_min, ↓bxOp_convert, ↓sxPut_none, ↓bxPut, ↓seqQ_normal, ↓seqQ_exit, ↓seqQ_ret, ↓seqQ_goto, ↓blockQ_normal, ↓blockQ_ret, ↓blockQ_goto, ↓blockQ_exit, ↓loopQ_normal, ↓loopQ_exit, ↓loopQ_ret, ↓loopQ_goto, ↓resQ_normal, ↓resQ_ret, ↓sxRes_nil, ↓sxRes_tmp, ↓bxRes_cell, ↓upd_apply, ↓ev_tmp, ↓ev_const, ↓ev_global, ↓ev_func, ↓dstAt, ↓gval_some, sxOptB_some, sxOptB_ite, mm_max, mm_min, bin_shl, bin_shr, bin_int, intBin, una_not_dec, una_nt, una_nf, una_neg, aPick_true, aPick_false, sxCallVB_fn, sxCallVB_yield, sxGuardB_u, sxGuardB_tt, sxGuardB_tf, sxGuardB_ft, sxGuardB_ff, sxIfB_t, sxIfB_f, packRes_one, packRes_two, List.map_cons, List.map_nil, List.nil_append, List.cons_append, List.append_nil, ↓reduceIte, Nat.reduceEqDiff, Nat.reduceLT, dec_T, dec_F, false_imp, true_and, and_true, true_implies, implies_true, false_and, and_false, true_or, or_true, false_or, or_false, and_self, or_self, read_relow, size_relow, low_relow, relow_relow, aLoad_relow, Nat.add_zero, Nat.mul_one, one1, Option.bind_some, ne_eq, Int.natCast_nonneg, Int.toNat_natCast, not_true_eq_false, not_false_eq_true, Option.map_some, Option.map_none, *, lenN, lenI, faN0, faN1, faN2, ldI, ldIs, Nat.zero_add])
            all_goals first
              | (exfalso; omega)
              | exact hbad fun hc => by have := hc.1; have := hc.2.1; have := hc.2.2; omega
              | exact ⟨_, by omega, i + 1, rfl, by omega, hgo2 ⟨by omega, by omega, fun _ => by omega⟩, rfl⟩
              | trace_state
        · obtain rfl : i = 0 := by omega
          have y0 : ¬ (0 : Int) < ((0 : Nat) : Int) := by omega
          have hp : prev n.cuts 0 = 0 := rfl
          rw [hp] at hbad hgo2
          simp only [Nat.add_zero] at x0 x1 x2 x3
          by_cases ht : 0 ≤ n.to.getD 0 0 ∧ n.to.getD 0 0 < d.length
          · have hix2 := SlN_ix hd2 ht.1 ht.2
            obtain ⟨_, _, _, _, _, _, _, hrd2, _⟩ := SlN_rd hd2 (i := (n.to.getD 0 0).toNat) (by omega)
            generalize n.to.getD 0 0 = t at *
            clear hd2 h1 h2 hst hp
            repeat' (first | (with_reducible refine sxGuardB_tsp (fun h => ?_) (fun h => ?_)) | (with_reducible refine sxGuardB_fsp (fun h => ?_) (fun h => ?_)) | (with_reducible refine sxIfB_sp (fun h => ?_) (fun h => ?_)) | simp only [↓sxC_skip, ↓sxC_draw, ↓sxC_region, ↓sxC_seq, ↓bxC_cond, ↓bxC_loop, ↓sxC_block, ↓sxC_exit, ↓sxC_goto, ↓sxC_ret, ↓sxOps_nil, ↓sxOps_cons, ↓sxDraw_nil, ↓bxDraw_cons, ↓sxD_same, ↓sxStep_none, ↓bxStep_some, ↓bxOp_move, ↓bxOp_assign, ↓bxOp_pick, ↓bxOp_alloc, ↓bxOp_box, ↓bxOp_build, ↓bxOp_buildSlice, ↓bxOp_load, ↓bxOp_store, ↓bxOp_nilCheck, ↓bxOp_bin, ↓bxOp_un, ↓bxOp_makeI, ↓bxOp_makeFunc, ↓bxOp_makeSlice, ↓bxOp_slice, ↓bxOp_fieldAddr, ↓bxOp_field, ↓bxOp_indexAddr, ↓bxOp_index, ↓bxOp_assert, ↓bxOp_extract, ↓bxOp_value, ↓bxOp_len, ↓bxOp_cap, ↓bxOp_append, ↓bxOp_copy, ↓bxOp_max, ↓bxOp_min, ↓bxOp_convert, ↓sxPut_none, ↓bxPut, ↓seqQ_normal, ↓seqQ_exit, ↓seqQ_ret, ↓seqQ_goto, ↓blockQ_normal, ↓blockQ_ret, ↓blockQ_goto, ↓blockQ_exit, ↓loopQ_normal, ↓loopQ_exit, ↓loopQ_ret, ↓loopQ_goto, ↓resQ_normal, ↓resQ_ret, ↓sxRes_nil, ↓sxRes_tmp, ↓bxRes_cell, ↓upd_apply, ↓ev_tmp, ↓ev_const, ↓ev_global, ↓ev_func, ↓dstAt, ↓gval_some, sxOptB_some, sxOptB_ite, mm_max, mm_min, bin_shl, bin_shr, bin_int, intBin, una_not_dec, una_nt, una_nf, una_neg, aPick_true, aPick_false, sxCallVB_fn, sxCallVB_yield, sxGuardB_u, sxGuardB_tt, sxGuardB_tf, sxGuardB_ft, sxGuardB_ff, sxIfB_t, sxIfB_f, packRes_one, packRes_two, List.map_cons, List.map_nil, List.nil_append, List.cons_append, List.append_nil, ↓reduceIte, Nat.reduceEqDiff, Nat.reduceLT, dec_T, dec_F, false_imp, true_and, and_true, true_implies, implies_true, false_and, and_false, true_or, or_true, false_or, or_false, and_self, or_self, read_relow, size_relow, low_relow, relow_relow, aLoad_relow, Nat.add_zero, Nat.mul_one, one1, Option.bind_some, ne_eq, Int.natCast_nonneg, Int.toNat_natCast, not_true_eq_false, not_false_eq_true, Option.map_some, Option.map_none, *, lenN, lenI, faN0, faN1, faN2, ldI, ldIs, Nat.zero_add])
            all_goals first
              | (exfalso; omega)
              | exact hbad fun hc => by have := hc.1; have := hc.2.1; have := hc.2.2; omega
              | exact ⟨_, by omega, 0 + 1, rfl, by omega, hgo2 ⟨by omega, by omega, fun _ => by omega⟩, rfl⟩
              | trace_state
          · generalize n.to.getD 0 0 = t at *
            clear hd2 h1 h2 hst hp
            repeat' (first | (with_reducible refine sxGuardB_tsp (fun h => ?_) (fun h => ?_)) | (with_reducible refine sxGuardB_fsp (fun h => ?_) (fun h => ?_)) | (with_reducible refine sxIfB_sp (fun h => ?_) (fun h => ?_)) | simp only [↓sxC_skip, ↓sxC_draw, ↓sxC_region, ↓sxC_seq, ↓bxC_cond, ↓bxC_loop, ↓sxC_block, ↓sxC_exit, ↓sxC_goto, ↓sxC_ret, ↓sxOps_nil, ↓sxOps_cons, ↓sxDraw_nil, ↓bxDraw_cons, ↓sxD_same, ↓sxStep_none, ↓bxStep_some, ↓bxOp_move, ↓bxOp_assign, ↓bxOp_pick, ↓bxOp_alloc, ↓bxOp_box, ↓bxOp_build, ↓bxOp_buildSlice, ↓bxOp_load, ↓bxOp_store, ↓bxOp_nilCheck, ↓bxOp_bin, ↓bxOp_un, ↓bxOp_makeI, ↓bxOp_makeFunc, ↓bxOp_makeSlice, ↓bxOp_slice, ↓bxOp_fieldAddr, ↓bxOp_field, ↓bxOp_indexAddr, ↓bxOp_index, ↓bxOp_assert, ↓bxOp_extract, ↓bxOp_value, ↓bxOp_len, ↓bxOp_cap, ↓bxOp_append, ↓bxOp_copy, ↓bxOp_max, ↓bxOp_min, ↓bxOp_convert, ↓sxPut_none, ↓bxPut, ↓seqQ_normal, ↓seqQ_exit, ↓seqQ_ret, ↓seqQ_goto, ↓blockQ_normal, ↓blockQ_ret, ↓blockQ_goto, ↓blockQ_exit, ↓loopQ_normal, ↓loopQ_exit, ↓loopQ_ret, ↓loopQ_goto, ↓resQ_normal, ↓resQ_ret, ↓sxRes_nil, ↓sxRes_tmp, ↓bxRes_cell, ↓upd_apply, ↓ev_tmp, ↓ev_const, ↓ev_global, ↓ev_func, ↓dstAt, ↓gval_some, sxOptB_some, sxOptB_ite, mm_max, mm_min, bin_shl, bin_shr, bin_int, intBin, una_not_dec, una_nt, una_nf, una_neg, aPick_true, aPick_false, sxCallVB_fn, sxCallVB_yield, sxGuardB_u, sxGuardB_tt, sxGuardB_tf, sxGuardB_ft, sxGuardB_ff, sxIfB_t, sxIfB_f, packRes_one, packRes_two, List.map_cons, List.map_nil, List.nil_append, List.cons_append, List.append_nil, ↓reduceIte, Nat.reduceEqDiff, Nat.reduceLT, dec_T, dec_F, false_imp, true_and, and_true, true_implies, implies_true, false_and, and_false, true_or, or_true, false_or, or_false, and_self, or_self, read_relow, size_relow, low_relow, relow_relow, aLoad_relow, Nat.add_zero, Nat.mul_one, one1, Option.bind_some, ne_eq, Int.natCast_nonneg, Int.toNat_natCast, not_true_eq_false, not_false_eq_true, Option.map_some, Option.map_none, *, lenN, lenI, faN0, faN1, faN2, ldI, ldIs, Nat.zero_add])
            all_goals first
              | (exfalso; omega)
              | exact hbad fun hc => by have := hc.1; have := hc.2.1; have := hc.2.2; omega
              | exact ⟨_, by omega, 0 + 1, rfl, by omega, hgo2 ⟨by omega, by omega, fun _ => by omega⟩, rfl⟩
              | trace_state
      · have hlt2' : ¬ (i : Int) < (n.cuts.length : Int) := by omega
        obtain rfl : i = n.cuts.length := by omega
        have hok : NodeOk k d n := ⟨hm.1, hm.2, ⟨fun j hj => (hall2 j hj).1, h99⟩, by omega, all_of fun j hj => (hall2 j (by omega)).2⟩
        clear hd2 h1 h2 hst
        repeat' (first | (with_reducible refine sxGuardB_tsp (fun h => ?_) (fun h => ?_)) | (with_reducible refine sxGuardB_fsp (fun h => ?_) (fun h => ?_)) | (with_reducible refine sxIfB_sp (fun h => ?_) (fun h => ?_)) | simp only [↓sxC_skip, ↓sxC_draw, ↓sxC_region, ↓sxC_seq, ↓bxC_cond, ↓bxC_loop, ↓sxC_block, ↓sxC_exit, ↓sxC_goto, ↓sxC_ret, ↓sxOps_nil, ↓sxOps_cons, ↓sxDraw_nil, ↓bxDraw_cons, ↓sxD_same, ↓sxStep_none, ↓bxStep_some, ↓bxOp_move, ↓bxOp_assign, ↓bxOp_pick, ↓bxOp_alloc, ↓bxOp_box, ↓bxOp_build, ↓bxOp_buildSlice, ↓bxOp_load, ↓bxOp_store, ↓bxOp_nilCheck, ↓bxOp_bin, ↓bxOp_un, ↓bxOp_makeI, ↓bxOp_makeFunc, ↓bxOp_makeSlice, ↓bxOp_slice, ↓bxOp_fieldAddr, ↓bxOp_field, ↓bxOp_indexAddr, ↓bxOp_index, ↓bxOp_assert, ↓bxOp_extract, ↓bxOp_value, ↓bxOp_len, ↓bxOp_cap, ↓bxOp_append, ↓bxOp_copy, ↓bxOp_max, ↓bxOp_min, ↓bxOp_convert, ↓sxPut_none, ↓bxPut, ↓seqQ_normal, ↓seqQ_exit, ↓seqQ_ret, ↓seqQ_goto, ↓blockQ_normal, ↓blockQ_ret, ↓blockQ_goto, ↓blockQ_exit, ↓loopQ_normal, ↓loopQ_exit, ↓loopQ_ret, ↓loopQ_goto, ↓resQ_normal, ↓resQ_ret, ↓sxRes_nil, ↓sxRes_tmp, ↓bxRes_cell, ↓upd_apply, ↓ev_tmp, ↓ev_const, ↓ev_global, ↓ev_func, ↓dstAt, ↓gval_some, sxOptB_some, sxOptB_ite, mm_max, mm_min, bin_shl, bin_shr, bin_int, intBin, una_not_dec, una_nt, una_nf, una_neg, aPick_true, aPick_false, sxCallVB_fn, sxCallVB_yield, sxGuardB_u, sxGuardB_tt, sxGuardB_tf, sxGuardB_ft, sxGuardB_ff, sxIfB_t, sxIfB_f, packRes_one, packRes_two, List.map_cons, List.map_nil, List.nil_append, List.cons_append, List.append_nil, ↓reduceIte, Nat.reduceEqDiff, Nat.reduceLT, dec_T, dec_F, false_imp, true_and, and_true, true_implies, implies_true, false_and, and_false, true_or, or_true, false_or, or_false, and_self, or_self, read_relow, size_relow, low_relow, relow_relow, aLoad_relow, Nat.add_zero, Nat.mul_one, one1, Option.bind_some, ne_eq, Int.natCast_nonneg, Int.toNat_natCast, not_true_eq_false, not_false_eq_true, Option.map_some, Option.map_none, *, lenN, lenI, faN0, faN1, faN2, ldI, ldIs, Nat.zero_add])
        exact ⟨_, by omega, j + 1, rfl, by omega, hgo hok, rfl⟩
    · have hc0' : (n.cuts.length : Int) < 1 := by omega
      clear hd hd1 hK hK2 hsz2 hL
      repeat' (first | (with_reducible refine sxGuardB_tsp (fun h => ?_) (fun h => ?_)) | (with_reducible refine sxGuardB_fsp (fun h => ?_) (fun h => ?_)) | (with_reducible refine sxIfB_sp (fun h => ?_) (fun h => ?_)) | simp only [↓sxC_skip, ↓sxC_draw, ↓sxC_region, ↓sxC_seq, ↓bxC_cond, ↓bxC_loop, ↓sxC_block, ↓sxC_exit, ↓sxC_goto, ↓sxC_ret, ↓sxOps_nil, ↓sxOps_cons, ↓sxDraw_nil, ↓bxDraw_cons, ↓sxD_same, ↓sxStep_none, ↓bxStep_some, ↓bxOp_move, ↓bxOp_assign, ↓bxOp_pick, ↓bxOp_alloc, ↓bxOp_box, ↓bxOp_build, ↓bxOp_buildSlice, ↓bxOp_load, ↓bxOp_store, ↓bxOp_nilCheck, ↓bxOp_bin, ↓bxOp_un, ↓bxOp_makeI, ↓bxOp_makeFunc, ↓bxOp_makeSlice, ↓bxOp_slice, ↓bxOp_fieldAddr, ↓bxOp_field, ↓bxOp_indexAddr, ↓bxOp_index, ↓bxOp_assert, ↓bxOp_extract, ↓bxOp_value, ↓bxOp_len, ↓bxOp_cap, ↓bxOp_append, ↓bxOp_copy, ↓bxOp_max, ↓bxOp_min, ↓bxOp_convert, ↓sxPut_none, ↓bxPut, ↓seqQ_normal, ↓seqQ_exit, ↓seqQ_ret, ↓seqQ_goto, ↓blockQ_normal, ↓blockQ_ret, ↓blockQ_goto, ↓blockQ_exit, ↓loopQ_normal, ↓loopQ_exit, ↓loopQ_ret, ↓loopQ_goto, ↓resQ_normal, ↓resQ_ret, ↓sxRes_nil, ↓sxRes_tmp, ↓bxRes_cell, ↓upd_apply, ↓ev_tmp, ↓ev_const, ↓ev_global, ↓ev_func, ↓dstAt, ↓gval_some, sxOptB_some, sxOptB_ite, mm_max, mm_min, bin_shl, bin_shr, bin_int, intBin, una_not_dec, una_nt, una_nf, una_neg, aPick_true, aPick_false, sxCallVB_fn, sxCallVB_yield, sxGuardB_u, sxGuardB_tt, sxGuardB_tf, sxGuardB_ft, sxGuardB_ff, sxIfB_t, sxIfB_f, packRes_one, packRes_two, List.map_cons, List.map_nil, List.nil_append, List.cons_append, List.append_nil, ↓reduceIte, Nat.reduceEqDiff, Nat.reduceLT, dec_T, dec_F, false_imp, true_and, and_true, true_implies, implies_true, false_and, and_false, true_or, or_true, false_or, or_false, and_self, or_self, read_relow, size_relow, low_relow, relow_relow, aLoad_relow, Nat.add_zero, Nat.mul_one, one1, Option.bind_some, ne_eq, Int.natCast_nonneg, Int.toNat_natCast, not_true_eq_false, not_false_eq_true, Option.map_some, Option.map_none, *, lenN, ldN, lenI, alN, hst, faN0, faN1, faN2, ldI, ldIs, Nat.zero_add])
      all_goals
        refine hno fun hc => ?_
        have := hc.2.2.1.2
        rw [show n.cuts.length = 0 by omega] at this
        unfold prev at this; simp at this
  · have hlt' : ¬ (j : Int) < (d.length : Int) := by omega
    obtain rfl : j = d.length := by omega
    clear hd
    repeat' (first | (with_reducible refine sxGuardB_tsp (fun h => ?_) (fun h => ?_)) | (with_reducible refine sxGuardB_fsp (fun h => ?_) (fun h => ?_)) | (with_reducible refine sxIfB_sp (fun h => ?_) (fun h => ?_)) | simp only [↓sxC_skip, ↓sxC_draw, ↓sxC_region, ↓sxC_seq, ↓bxC_cond, ↓bxC_loop, ↓sxC_block, ↓sxC_exit, ↓sxC_goto, ↓sxC_ret, ↓sxOps_nil, ↓sxOps_cons, ↓sxDraw_nil, ↓bxDraw_cons, ↓sxD_same, ↓sxStep_none, ↓bxStep_some, ↓bxOp_move, ↓bxOp_assign, ↓bxOp_pick, ↓bxOp_alloc, ↓bxOp_box, ↓bxOp_build, ↓bxOp_buildSlice, ↓bxOp_load, ↓bxOp_store, ↓bxOp_nilCheck, ↓bxOp_bin, ↓bxOp_un, ↓bxOp_makeI, ↓bxOp_makeFunc, ↓bxOp_makeSlice, ↓bxOp_slice, ↓bxOp_fieldAddr, ↓bxOp_field, ↓bxOp_indexAddr, ↓bxOp_index, ↓bxOp_assert, ↓bxOp_extract, ↓bxOp_value, ↓bxOp_len, ↓bxOp_cap, ↓bxOp_append, ↓bxOp_copy, ↓bxOp_max, ↓bxOp_min, ↓bxOp_convert, ↓sxPut_none, ↓bxPut, ↓seqQ_normal, ↓seqQ_exit, ↓seqQ_ret, ↓seqQ_goto, ↓blockQ_normal, ↓blockQ_ret, ↓blockQ_goto, ↓blockQ_exit, ↓loopQ_normal, ↓loopQ_exit, ↓loopQ_ret, ↓loopQ_goto, ↓resQ_normal, ↓resQ_ret, ↓sxRes_nil, ↓sxRes_tmp, ↓bxRes_cell, ↓upd_apply, ↓ev_tmp, ↓ev_const, ↓ev_global, ↓ev_func, ↓dstAt, ↓gval_some, sxOptB_some, sxOptB_ite, mm_max, mm_min, bin_shl, bin_shr, bin_int, intBin, una_not_dec, una_nt, una_nf, una_neg, aPick_true, aPick_false, sxCallVB_fn, sxCallVB_yield, sxGuardB_u, sxGuardB_tt, sxGuardB_tf, sxGuardB_ft, sxGuardB_ff, sxIfB_t, sxIfB_f, packRes_one, packRes_two, List.map_cons, List.map_nil, List.nil_append, List.cons_append, List.append_nil, ↓reduceIte, Nat.reduceEqDiff, Nat.reduceLT, dec_T, dec_F, false_imp, true_and, and_true, true_implies, implies_true, false_and, and_false, true_or, or_true, false_or, or_false, and_self, or_self, read_relow, size_relow, low_relow, relow_relow, aLoad_relow, Nat.add_zero, Nat.mul_one, one1, Option.bind_some, ne_eq, Int.natCast_nonneg, Int.toNat_natCast, not_true_eq_false, not_false_eq_true, Option.map_some, Option.map_none, *, lenN])
    exact bool_t (show Diagram k d from ⟨by omega, by omega, all_of hall⟩)
end Go.Proofs.YtmllfacipbpkfaaDoor
