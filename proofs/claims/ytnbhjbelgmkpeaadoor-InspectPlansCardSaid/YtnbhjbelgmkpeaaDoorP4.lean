/- The plan of package inspect, on the canonical machine. -/
import Derived.Test.YtnbhjbelgmkpeaaDoorL2
set_option linter.unusedVariables false
set_option linter.unusedSimpArgs false
set_option linter.unusedSectionVars false

namespace Go.Proofs.YtnbhjbelgmkpeaaDoor
open Go Go.AM
set_option maxRecDepth 10000
set_option linter.unusedSimpArgs false

/-! Lists of ratios, made by append. -/
def flat (w : List (Int × Int)) : List Value := w.flatMap fun x => [.int .i64 x.1, .int .i64 x.2]
theorem flat_len (w : List (Int × Int)) : (flat w).length = w.length * 2 := by
  unfold flat
  induction w with
  | nil => rfl
  | cons x l ih => rw [List.flatMap_cons, List.length_append, ih, List.length_cons]; simp; omega
theorem flat_at {w : List (Int × Int)} : ∀ {i : Nat}, i < w.length → ((flat w).drop (i * 2)).take 2 = [.int .i64 (w.getD i default).1, .int .i64 (w.getD i default).2] := by
  unfold flat
  induction w with
  | nil => intro i hi; exact absurd hi (Nat.not_lt_zero i)
  | cons x l ih =>
    intro i hi
    cases i with
    | zero => rfl
    | succ i =>
      have h := ih (i := i) (by simp only [List.length_cons] at hi; omega)
      rw [List.flatMap_cons, show (i + 1) * 2 = 2 + i * 2 by omega, ← List.drop_drop]
      exact h
theorem flat_snoc (w : List (Int × Int)) (x : Int × Int) : flat (w ++ [x]) = flat w ++ [.int .i64 x.1, .int .i64 x.2] := by
  unfold flat
  rw [List.flatMap_append]; rfl
theorem infoR2 : ElemOk Tryd.prog #[43, 43] 24 2 := ⟨⟨43, 43, _, Tryd.t24, .agg ⟨[.int .i64 0, .int .i64 0]⟩, rfl, rfl, Tryd.underlying43, Tryd.underlying43, rfl, by kernel_rfl, by kernel_rfl, by kernel_rfl, by kernel_rfl, of_decide_eq_true (by kernel_rfl)⟩, by omega⟩
/-- A list of ratios that append has made. -/
def LstR (H0 H : Heap) (v : Value) (w : List (Int × Int)) : Prop :=
  Keep H0 H ∧ Grp H ∧ ((w = [] ∧ v = .slice none 0 0) ∨ ∃ b r, H0.size ≤ b ∧ App H b r 24 2 (flat w) ∧ v = .slice (some ⟨r, 0, none⟩) w.length w.length ∧ 0 < w.length)
theorem LstR.nil {H0 H : Heap} (hk : Keep H0 H) (hg : Grp H) : LstR H0 H (.slice none 0 0) [] := ⟨hk, hg, .inl ⟨rfl, rfl⟩⟩
theorem LstR.on {H0 H H' : Heap} {v : Value} {w : List (Int × Int)} (h : LstR H0 H v w) (hk : Keep H H') : LstR H0 H' v w := by
  obtain ⟨k, g, h⟩ := h
  refine ⟨k.trans hk, hk.grp g, h.imp id ?_⟩
  rintro ⟨b, r, hb, ha, hv⟩
  exact ⟨b, r, hb, ha.keep hk, hv⟩
theorem bsR (H : Heap) (a b : Int) : aBuildSlice Tryd.prog H 43 1 [(0, .agg ⟨[.int .i64 a, .int .i64 b]⟩)] = some (.slice (some ⟨H.size, 0, none⟩) 1 1, H.newExact [.int .i64 a, .int .i64 b] 24) := by kernel_rfl
/-- One more. -/
theorem LstR.push {H0 H : Heap} {v : Value} {w : List (Int × Int)} (g0 : Grp H0) (h : LstR H0 H v w) (hw : w.length < 268435456) (x : Int × Int) :
    ∃ v2 H2, aAppend Tryd.prog (H.newExact [.int .i64 x.1, .int .i64 x.2] 24) #[43, 43] v (.slice (some ⟨H.size, 0, none⟩) 1 1) = some (v2, H2) ∧ LstR H0 H2 v2 (w ++ [x]) ∧ (∀ r e c, Own H r e c → Own H2 r e c) := by
  obtain ⟨hk, hg, h⟩ := h
  have hkn := Keep.newExact H [.int .i64 x.1, .int .i64 x.2] 24
  have ho := Own.new H [.int .i64 x.1, .int .i64 x.2] 24
  have hr := ho.read (o := 0) (n := 1 * 2) (show 0 + 1 * 2 ≤ 2 by omega)
  rcases h with ⟨rfl, rfl⟩ | ⟨b, r, hb, ha, rfl, hpos⟩
  · obtain ⟨H2, h1, h2, h3⟩ := append_nil infoR2 (hkn.grp hg) hr Nat.one_pos (show 1 ≤ 268435456 by omega)
    exact ⟨_, H2, h1, ⟨(hk.trans hkn).trans h3, h3.grp (hkn.grp hg), .inr ⟨_, _, (hk.trans hkn).size, by simpa [flat] using h2, rfl, by simp⟩⟩, fun r e c hO => (hO.keep hkn).keep h3⟩
  · obtain ⟨H2, h1, h2, h3, h4, h5, h6, -⟩ := append_more infoR2 (hkn.grp hg) (ha.keep hkn) (flat_len w) hr Nat.one_pos rfl (show w.length + 1 ≤ 268435456 by omega)
    refine ⟨_, H2, h1, ⟨h4 H0 g0 (hk.trans hkn) hb, h5, .inr ⟨b, _, hb, ?_, by rw [List.length_append]; rfl, by simp⟩⟩, fun r e c hO => h6 _ _ _ (hO.keep hkn)⟩
    rw [flat_snoc]
    exact h2
theorem LstR.other {H0 H H2 : Heap} {v : Value} {w : List (Int × Int)} (h : LstR H0 H v w) (g0 : Grp H0) {r : Nat} {e' t : TypeId} {cells : List Value} (ho : Own H r e' cells) {o : Nat} {u : Value} (hs : aStore Tryd.prog H t (.pointer (some ⟨r, o, none⟩)) u = some H2) (hk : Keep H0 H2) : LstR H0 H2 v w := by
  obtain ⟨h1, h2, h3⟩ := h
  refine ⟨hk, hk.grp g0, ?_⟩
  rcases h3 with h3 | ⟨b, r1, hb, ha, hv, hp⟩
  · exact .inl h3
  · exact .inr ⟨b, r1, hb, App.other ho hs ha, hv, hp⟩

theorem planFrom_len (l : Nat) : ∀ m st, (planFrom l m st).length = m
  | 0, _ => rfl
  | m + 1, st => by rw [planFrom, List.length_cons, planFrom_len l m]
theorem planC_len (d l : Nat) : (planC d l).length = d := planFrom_len l d _
/-- Ratios as they lie in a list. -/
def ratE : Enc (Int × Int) where
  sz := 2
  At := fun _ x cs => cs = [.int .i64 x.1, .int .i64 x.2]
  len := fun h => by rw [h]; rfl
  keep := fun _ h => h
theorem LstR.sl {H0 H : Heap} {v : Value} {w : List (Int × Int)} (h : LstR H0 H v w) (hw : w.length ≤ 1000) : ∃ r, SlE ratE H v w r 0 := by
  have hmx : Go.maxLen = 9223372036854775807 := rfl
  obtain ⟨hk, hg, ⟨rfl, rfl⟩ | ⟨b, r, hb, ha, rfl, hpos⟩⟩ := h
  · exact ⟨0, ⟨none, 0, rfl, fun h => absurd h (Nat.lt_irrefl 0)⟩, fun i hi => absurd hi (Nat.not_lt_zero i), fun h => absurd h (Nat.lt_irrefl 0), by rw [hmx]; exact Nat.le_trans hw (by omega)⟩
  · refine ⟨r, ⟨_, _, rfl, fun _ => rfl⟩, fun i hi => ⟨_, ?_, rfl⟩, fun _ => ha.lt, by omega⟩
    have h1 := ha.read (o := i * 2) (n := 2) (by rw [flat_len]; omega)
    rw [flat_at hi] at h1
    rw [show 0 + i * ratE.sz = i * 2 by show 0 + i * 2 = i * 2; omega]
    exact h1
theorem lenRs (a : Option Addr) (n c : Nat) : aLen Tryd.prog #[43] (.slice a n c) = some (.int .i64 n) := by kernel_rfl
theorem ixRs (r o n c : Nat) (k : IntKind) (i : Int) : aIndexAt Tryd.prog 43 (.slice (some ⟨r, o, none⟩) n c) (.int k i) = if 0 ≤ i ∧ i < (n : Int) then some (.pointer (some ⟨r, o + i.toNat * 2, none⟩)) else none := by kernel_rfl
/-- An element of a list of ratios: where it is, and what is read there. -/
theorem SlR_at {H : Heap} {w : List (Int × Int)} {r : Nat} {a : Option Addr} {cap : Nat} (h : SlE ratE H (.slice a w.length cap) w r 0) {k : Nat} (h1 : k < w.length) :
    aIndexAt Tryd.prog 43 (.slice a w.length cap) (.int .i64 (k : Int)) = some (.pointer (some ⟨r, k * 2, none⟩)) ∧ H.read r (k * 2) 2 = some [.int .i64 (w.getD k default).1, .int .i64 (w.getD k default).2] ∧
      H.read r (k * 2) 1 = some [.int .i64 (w.getD k default).1] ∧ H.read r (k * 2 + 1) 1 = some [.int .i64 (w.getD k default).2] := by
  obtain ⟨a', cap', e, ha⟩ := h.isv
  cases e
  obtain ⟨es, h2, h3⟩ := h.rd k h1
  have h3 : es = [.int .i64 (w.getD k default).1, .int .i64 (w.getD k default).2] := h3
  subst h3
  rw [show 0 + k * ratE.sz = k * 2 by show 0 + k * 2 = k * 2; omega] at h2
  have h2 : H.read r (k * 2) 2 = some [.int .i64 (w.getD k default).1, .int .i64 (w.getD k default).2] := h2
  refine ⟨by rw [ha (by omega), ixRs, if_pos ⟨by omega, by omega⟩, Int.toNat_natCast, Nat.zero_add], h2, read_sub (j := 0) (k := 1) h2 (by omega), read_sub (j := 1) (k := 1) h2 (by omega)⟩

variable {S : AM.Sys} (hS : Only S 10)
include hS

theorem plan_runs (d l : Nat) (H : Heap) (hd : d ≤ 14) (hl : l ≤ 14) (hg : Grp H) (hL : H.low ≤ H.size) : ∃ H' v, LstR H H' v (planC d l) ∧ Runs Tryd.prog S (.fn 51) [.int .i64 d, .int .i64 l] H v H' := by
  suffices h : WCall Tryd.prog S (.fn 51) [.int .i64 d, .int .i64 l] H (fun v H' => LstR H H' v (planC d l)) by
    obtain ⟨v, H', hr, hk⟩ := h; exact ⟨H', v, hk, hr⟩
  obtain ⟨H1, k1, R1⟩ := pratio_runs hS 1 1 H hL (by omega) (by omega) (by omega)
  rw [rat11] at R1
  have f1 := R1.bx
  obtain ⟨H2, e2, k2, z2, ow2, -, -, -⟩ := box2 H1 0 0 24
  obtain ⟨H3, p3, k3, z3, ow3, -⟩ := stH infR.1 (k1.trans k2) k1.size ow2 (v := .agg ⟨[.int .i64 1, .int .i64 1]⟩) (new := [.int .i64 1, .int .i64 1]) rfl infR.2 rfl rfl
  have hok0 := all15_at planOk_all hd hl
  have hlen : (planC d l).length ≤ 14 := by rw [planC_len]; exact hd
  clear ow2 z3
  refine call_of Tryd.func51 rfl (Nat.le_of_ble_eq_true rfl) (hS.no rfl _ _) ?_
  rw [Tryd.ntmps51, Tryd.results51]
  repeat' (first | (with_reducible refine sxGuardB_tsp (fun h => ?_) (fun h => ?_)) | (with_reducible refine sxGuardB_fsp (fun h => ?_) (fun h => ?_)) | (with_reducible refine sxIfB_sp (fun h => ?_) (fun h => ?_)) | simp only [↓sxC_skip, ↓sxC_draw, ↓sxC_region, ↓sxC_seq, ↓bxC_cond, ↓bxC_loop, ↓sxC_block, ↓sxC_exit, ↓sxC_goto, ↓sxC_ret, ↓sxOps_nil, ↓sxOps_cons, ↓sxDraw_nil, ↓bxDraw_cons, ↓sxDL_move, ↓sxDL_assign, ↓sxDL_pick, ↓sxDL_alloc, ↓sxDL_box, ↓sxDL_build, ↓sxDL_buildSlice, ↓sxDL_insert, ↓sxDL_load, ↓sxDL_nilCheck, ↓sxDL_binOp, ↓sxDL_unOp, ↓sxDL_convert, ↓sxDL_makeInterface, ↓sxDL_makeFunc, ↓sxDL_makeMap, ↓sxDL_makeSlice, ↓sxDL_slice, ↓sxDL_fieldAddr, ↓sxDL_field, ↓sxDL_indexAddr, ↓sxDL_index, ↓sxDL_typeAssert, ↓sxDL_extract, ↓sxDL_call, ↓sxDL_lookup, ↓sxDL_mapUpdate, ↓sxDL_range, ↓sxDL_next, ↓sxDL_entry, ↓sxDL_mapEntry, ↓sxDL_entryStore, ↓sxD_same, ↓sxStep_none, ↓bxStep_some, ↓bxOp_move, ↓bxOp_assign, ↓bxOp_pick, ↓bxOp_alloc, ↓bxOp_box, ↓bxOp_build, ↓bxOp_buildSlice, ↓bxOp_load, ↓bxOp_store, ↓bxOp_nilCheck, ↓bxOp_bin, ↓bxOp_un, ↓bxOp_makeI, ↓bxOp_makeFunc, ↓bxOp_makeSlice, ↓bxOp_slice, ↓bxOp_fieldAddr, ↓bxOp_field, ↓bxOp_indexAddr, ↓bxOp_index, ↓bxOp_assert, ↓bxOp_extract, ↓bxOp_value, ↓bxOp_len, ↓bxOp_cap, ↓bxOp_append, ↓bxOp_copy, ↓bxOp_clear, ↓bxOp_max, ↓bxOp_min, ↓bxOp_convert, ↓sxPut_none, ↓bxPut, ↓seqQ_normal, ↓seqQ_exit, ↓seqQ_ret, ↓seqQ_goto, ↓blockQ_normal, ↓blockQ_ret, ↓blockQ_goto, ↓blockQ_exit, ↓loopQ_normal, ↓loopQ_exit, ↓loopQ_ret, ↓loopQ_goto, ↓resQ_normal, ↓resQ_ret, ↓sxRes_nil, ↓sxRes_tmp, ↓bxRes_cell, ↓upd_apply, ↓ev_tmp, ↓ev_const, ↓ev_global, ↓ev_func, ↓dstAt, ↓gval_some, sxOptB_some, sxOptB_ite, mm_max, mm_min, binP_shl, binP_shr, binP_int, intBin, una_not_dec, una_nt, una_nf, una_neg, aPick_true, aPick_false, sxCallVB_fn, sxCallVB_yield, sxGuardB_u, sxGuardB_tt, sxGuardB_tf, sxGuardB_ft, sxGuardB_ff, sxIfB_t, sxIfB_f, packRes_one, packRes_two, List.map_cons, List.map_nil, List.nil_append, List.cons_append, List.append_nil, ↓reduceIte, Nat.reduceEqDiff, Nat.reduceLT, dec_T, dec_F, false_imp, true_and, and_true, true_implies, implies_true, false_and, and_false, true_or, or_true, false_or, or_false, and_self, or_self, read_relow, size_relow, low_relow, relow_relow, aLoad_relow, Nat.add_zero, Nat.mul_one, one1, Option.bind_some, ne_eq, Int.natCast_nonneg, Int.toNat_natCast, not_true_eq_false, not_false_eq_true, Option.map_some, Option.map_none, *, argF, List.getD_cons_zero, List.getD_cons_succ, alR, cells2, Nat.zero_add] | (with_reducible refine sxDL_barE (by assumption) (by decide +kernel) ?_) | (with_reducible refine sxDL_bar (by decide +kernel) ?_) | (with_reducible refine sxD_bar (by decide +kernel) ?_))
  refine sxL_of (fun m ρ H4 => ∃ (st : Int × Int) (v : Value) (w : List (Int × Int)), m ≤ d ∧ planOk l m st = true ∧ w ++ planFrom l m st = planC d l ∧ LstR H H4 v w ∧ Own H4 H1.size 24 [.int .i64 st.1, .int .i64 st.2] ∧ H1.size < H4.size ∧
      ρ 1 = .int .i64 l ∧ ρ 5 = v ∧ ρ 6 = .pointer (some ⟨H1.size, 0, none⟩) ∧ ρ 7 = .int .i64 m) (n := d)
    ⟨(1, 1), _, [], Nat.le_refl _, hok0, rfl, LstR.nil k3 (k3.grp hg), ow3, by have := ow3.lt; omega, rfl, rfl, rfl, rfl⟩ ?_
  rintro m ρ H4 ⟨st, v, w, hm, hok, hw, ls, ow4, sz4, e1, e5, e6, e7⟩
  cases m with
  | zero =>
    have hc : ¬ (0 : Int) < ((0 : Nat) : Int) := by omega
    have hw' : w = planC d l := by rw [← hw]; exact (List.append_nil w).symm
    rw [hw'] at ls
    clear hw hw' hok hok0 hlen ow4 ow3 f1 R1 p3 e2
    repeat' (first | (with_reducible refine sxGuardB_tsp (fun h => ?_) (fun h => ?_)) | (with_reducible refine sxGuardB_fsp (fun h => ?_) (fun h => ?_)) | (with_reducible refine sxIfB_sp (fun h => ?_) (fun h => ?_)) | simp only [↓sxC_skip, ↓sxC_draw, ↓sxC_region, ↓sxC_seq, ↓bxC_cond, ↓bxC_loop, ↓sxC_block, ↓sxC_exit, ↓sxC_goto, ↓sxC_ret, ↓sxOps_nil, ↓sxOps_cons, ↓sxDraw_nil, ↓bxDraw_cons, ↓sxDL_move, ↓sxDL_assign, ↓sxDL_pick, ↓sxDL_alloc, ↓sxDL_box, ↓sxDL_build, ↓sxDL_buildSlice, ↓sxDL_insert, ↓sxDL_load, ↓sxDL_nilCheck, ↓sxDL_binOp, ↓sxDL_unOp, ↓sxDL_convert, ↓sxDL_makeInterface, ↓sxDL_makeFunc, ↓sxDL_makeMap, ↓sxDL_makeSlice, ↓sxDL_slice, ↓sxDL_fieldAddr, ↓sxDL_field, ↓sxDL_indexAddr, ↓sxDL_index, ↓sxDL_typeAssert, ↓sxDL_extract, ↓sxDL_call, ↓sxDL_lookup, ↓sxDL_mapUpdate, ↓sxDL_range, ↓sxDL_next, ↓sxDL_entry, ↓sxDL_mapEntry, ↓sxDL_entryStore, ↓sxD_same, ↓sxStep_none, ↓bxStep_some, ↓bxOp_move, ↓bxOp_assign, ↓bxOp_pick, ↓bxOp_alloc, ↓bxOp_box, ↓bxOp_build, ↓bxOp_buildSlice, ↓bxOp_load, ↓bxOp_store, ↓bxOp_nilCheck, ↓bxOp_bin, ↓bxOp_un, ↓bxOp_makeI, ↓bxOp_makeFunc, ↓bxOp_makeSlice, ↓bxOp_slice, ↓bxOp_fieldAddr, ↓bxOp_field, ↓bxOp_indexAddr, ↓bxOp_index, ↓bxOp_assert, ↓bxOp_extract, ↓bxOp_value, ↓bxOp_len, ↓bxOp_cap, ↓bxOp_append, ↓bxOp_copy, ↓bxOp_clear, ↓bxOp_max, ↓bxOp_min, ↓bxOp_convert, ↓sxPut_none, ↓bxPut, ↓seqQ_normal, ↓seqQ_exit, ↓seqQ_ret, ↓seqQ_goto, ↓blockQ_normal, ↓blockQ_ret, ↓blockQ_goto, ↓blockQ_exit, ↓loopQ_normal, ↓loopQ_exit, ↓loopQ_ret, ↓loopQ_goto, ↓resQ_normal, ↓resQ_ret, ↓sxRes_nil, ↓sxRes_tmp, ↓bxRes_cell, ↓upd_apply, ↓ev_tmp, ↓ev_const, ↓ev_global, ↓ev_func, ↓dstAt, ↓gval_some, sxOptB_some, sxOptB_ite, mm_max, mm_min, binP_shl, binP_shr, binP_int, intBin, una_not_dec, una_nt, una_nf, una_neg, aPick_true, aPick_false, sxCallVB_fn, sxCallVB_yield, sxGuardB_u, sxGuardB_tt, sxGuardB_tf, sxGuardB_ft, sxGuardB_ff, sxIfB_t, sxIfB_f, packRes_one, packRes_two, List.map_cons, List.map_nil, List.nil_append, List.cons_append, List.append_nil, ↓reduceIte, Nat.reduceEqDiff, Nat.reduceLT, dec_T, dec_F, false_imp, true_and, and_true, true_implies, implies_true, false_and, and_false, true_or, or_true, false_or, or_false, and_self, or_self, read_relow, size_relow, low_relow, relow_relow, aLoad_relow, Nat.add_zero, Nat.mul_one, one1, Option.bind_some, ne_eq, Int.natCast_nonneg, Int.toNat_natCast, not_true_eq_false, not_false_eq_true, Option.map_some, Option.map_none, *] | (with_reducible refine sxDL_barE (by assumption) (by decide +kernel) ?_) | (with_reducible refine sxDL_bar (by decide +kernel) ?_) | (with_reducible refine sxD_bar (by decide +kernel) ?_))
  | succ m =>
    have hc : (0 : Int) < ((m + 1 : Nat) : Int) := by omega
    obtain ⟨-, -, -, hgo, -⟩ := dayC_facts (d := m + 1) (l := l) (by omega) hl
    obtain ⟨i1, i2, i3, i4, -⟩ := isPart_iff hgo
    have hok' := hok
    unfold planOk at hok'
    simp only [Bool.and_eq_true, decide_eq_true_eq] at hok'
    obtain ⟨⟨⟨o1, o2, o3, o4⟩, o5⟩, o6⟩ := hok'
    have hwn : planFrom l (m + 1) st = rat (st.1 * (dayC (m + 1) l).2.2.1) (st.2 * (dayC (m + 1) l).2.2.2) :: planFrom l m (rat (st.1 * ((dayC (m + 1) l).2.2.2 - (dayC (m + 1) l).2.2.1)) (st.2 * (dayC (m + 1) l).2.2.2)) := rfl
    have k04 := ls.1
    have l4 := k04.low hL
    obtain ⟨H5, k5, R5⟩ := firstOf_runs hS (m + 1) l H4 (by omega) hl l4
    have f5 := R5.bx
    unfold dayV at f5
    have hlw : w.length < 268435456 := by
      have := congrArg List.length hw
      rw [List.length_append] at this
      omega
    generalize (dayC (m + 1) l).2.2 = go at *
    obtain ⟨H6, e6', k6, z6, ow6, -, -, -⟩ := box2 H5 0 0 24
    obtain ⟨H7, p7, k47, z7, ow7, o7⟩ := stH infR.1 (k5.trans k6) k5.size ow6 (v := .agg ⟨[.int .i64 go.1, .int .i64 go.2]⟩) (new := [.int .i64 go.1, .int .i64 go.2]) rfl infR.2 rfl rfl
    have ow47 := ow4.keep k47
    obtain ⟨-, a1, a2⟩ := own2 ow47
    obtain ⟨-, b1, b2⟩ := own2 ow7
    have hP2 : 1 ≤ st.2 * go.2 := Int.mul_pos (by omega) (by omega)
    have hP1 : 0 ≤ st.1 * go.1 ∧ st.1 * go.1 ≤ st.2 * go.2 := ⟨Int.mul_nonneg o1 i1, Int.mul_le_mul o2 i2 i1 (by omega)⟩
    have hP3 : 0 ≤ st.1 * (go.2 - go.1) ∧ st.1 * (go.2 - go.1) ≤ st.2 * go.2 := ⟨Int.mul_nonneg o1 (by omega), Int.mul_le_mul o2 (by omega) (by omega) (by omega)⟩
    have w1 : IntKind.i64.wrap (st.1 * go.1) = st.1 * go.1 := IntWalk.i64_in _ (by omega)
    have w2 : IntKind.i64.wrap (st.2 * go.2) = st.2 * go.2 := IntWalk.i64_in _ (by omega)
    have w3 : IntKind.i64.wrap (go.2 - go.1) = go.2 - go.1 := IntWalk.i64_in _ (by omega)
    have w4 : IntKind.i64.wrap (st.1 * (go.2 - go.1)) = st.1 * (go.2 - go.1) := IntWalk.i64_in _ (by omega)
    have w5 : IntKind.i64.wrap (((m + 1 : Nat) : Int) - 1) = (m : Int) := by rw [IntWalk.i64_in _ (by omega)]; omega
    obtain ⟨H8, k8, R8⟩ := pratio_runs hS (st.1 * go.1) (st.2 * go.2) H7 (k47.low l4) (by omega) (by omega) (by omega)
    have f8 := R8.bx
    have k48 := k47.trans k8
    obtain ⟨v2, H9, p9, ls9, o9⟩ := LstR.push hg (ls.on k48) hlw (rat (st.1 * go.1) (st.2 * go.2))
    have ow49 := o9 _ _ _ (ow47.keep k8)
    have ow79 := o9 _ _ _ (ow7.keep k8)
    obtain ⟨-, a3, a4⟩ := own2 ow49
    obtain ⟨-, b3, b4⟩ := own2 ow79
    obtain ⟨H10, k10, R10⟩ := pratio_runs hS (st.1 * (go.2 - go.1)) (st.2 * go.2) H9 (ls9.1.low hL) (by omega) (by omega) (by omega)
    have f10 := R10.bx
    obtain ⟨H11, p11, k11, z11, ow11, o11⟩ := stH infR.1 (ls9.1.trans k10) k1.size (ow49.keep k10) (v := .agg ⟨[.int .i64 (rat (st.1 * (go.2 - go.1)) (st.2 * go.2)).1, .int .i64 (rat (st.1 * (go.2 - go.1)) (st.2 * go.2)).2]⟩) (new := [.int .i64 (rat (st.1 * (go.2 - go.1)) (st.2 * go.2)).1, .int .i64 (rat (st.1 * (go.2 - go.1)) (st.2 * go.2)).2]) rfl infR.2 rfl rfl
    have ls11 := (ls9.on k10).other hg (ow49.keep k10) p11 k11
    have sz11 : H1.size < H11.size := ow11.lt
    have hw2 : (w ++ [rat (st.1 * go.1) (st.2 * go.2)]) ++ planFrom l m (rat (st.1 * (go.2 - go.1)) (st.2 * go.2)) = planC d l := by rw [← hw, hwn, List.append_assoc]; rfl
    clear R5 R8 R10 ow4 ow6 ow7 ow47 ow49 ow79 ls ls9 o7 o9 z6 z7 z11 hok hok0 hlen hlw hw hwn i1 i2 i3 i4 o1 o2 o3 o4 o5 hP1 hP2 hP3 f1 e2 p3 ow3 hgo
    generalize rat (st.1 * go.1) (st.2 * go.2) = x at *
    generalize rat (st.1 * (go.2 - go.1)) (st.2 * go.2) = st' at *
    repeat' (first | (with_reducible refine sxGuardB_tsp (fun h => ?_) (fun h => ?_)) | (with_reducible refine sxGuardB_fsp (fun h => ?_) (fun h => ?_)) | (with_reducible refine sxIfB_sp (fun h => ?_) (fun h => ?_)) | simp only [↓sxC_skip, ↓sxC_draw, ↓sxC_region, ↓sxC_seq, ↓bxC_cond, ↓bxC_loop, ↓sxC_block, ↓sxC_exit, ↓sxC_goto, ↓sxC_ret, ↓sxOps_nil, ↓sxOps_cons, ↓sxDraw_nil, ↓bxDraw_cons, ↓sxDL_move, ↓sxDL_assign, ↓sxDL_pick, ↓sxDL_alloc, ↓sxDL_box, ↓sxDL_build, ↓sxDL_buildSlice, ↓sxDL_insert, ↓sxDL_load, ↓sxDL_nilCheck, ↓sxDL_binOp, ↓sxDL_unOp, ↓sxDL_convert, ↓sxDL_makeInterface, ↓sxDL_makeFunc, ↓sxDL_makeMap, ↓sxDL_makeSlice, ↓sxDL_slice, ↓sxDL_fieldAddr, ↓sxDL_field, ↓sxDL_indexAddr, ↓sxDL_index, ↓sxDL_typeAssert, ↓sxDL_extract, ↓sxDL_call, ↓sxDL_lookup, ↓sxDL_mapUpdate, ↓sxDL_range, ↓sxDL_next, ↓sxDL_entry, ↓sxDL_mapEntry, ↓sxDL_entryStore, ↓sxD_same, ↓sxStep_none, ↓bxStep_some, ↓bxOp_move, ↓bxOp_assign, ↓bxOp_pick, ↓bxOp_alloc, ↓bxOp_box, ↓bxOp_build, ↓bxOp_buildSlice, ↓bxOp_load, ↓bxOp_store, ↓bxOp_nilCheck, ↓bxOp_bin, ↓bxOp_un, ↓bxOp_makeI, ↓bxOp_makeFunc, ↓bxOp_makeSlice, ↓bxOp_slice, ↓bxOp_fieldAddr, ↓bxOp_field, ↓bxOp_indexAddr, ↓bxOp_index, ↓bxOp_assert, ↓bxOp_extract, ↓bxOp_value, ↓bxOp_len, ↓bxOp_cap, ↓bxOp_append, ↓bxOp_copy, ↓bxOp_clear, ↓bxOp_max, ↓bxOp_min, ↓bxOp_convert, ↓sxPut_none, ↓bxPut, ↓seqQ_normal, ↓seqQ_exit, ↓seqQ_ret, ↓seqQ_goto, ↓blockQ_normal, ↓blockQ_ret, ↓blockQ_goto, ↓blockQ_exit, ↓loopQ_normal, ↓loopQ_exit, ↓loopQ_ret, ↓loopQ_goto, ↓resQ_normal, ↓resQ_ret, ↓sxRes_nil, ↓sxRes_tmp, ↓bxRes_cell, ↓upd_apply, ↓ev_tmp, ↓ev_const, ↓ev_global, ↓ev_func, ↓dstAt, ↓gval_some, sxOptB_some, sxOptB_ite, mm_max, mm_min, binP_shl, binP_shr, binP_int, intBin, una_not_dec, una_nt, una_nf, una_neg, aPick_true, aPick_false, sxCallVB_fn, sxCallVB_yield, sxGuardB_u, sxGuardB_tt, sxGuardB_tf, sxGuardB_ft, sxGuardB_ff, sxIfB_t, sxIfB_f, packRes_one, packRes_two, List.map_cons, List.map_nil, List.nil_append, List.cons_append, List.append_nil, ↓reduceIte, Nat.reduceEqDiff, Nat.reduceLT, dec_T, dec_F, false_imp, true_and, and_true, true_implies, implies_true, false_and, and_false, true_or, or_true, false_or, or_false, and_self, or_self, read_relow, size_relow, low_relow, relow_relow, aLoad_relow, Nat.add_zero, Nat.mul_one, one1, Option.bind_some, ne_eq, Int.natCast_nonneg, Int.toNat_natCast, not_true_eq_false, not_false_eq_true, Option.map_some, Option.map_none, *, alR, faR0, faR1, ldI, afDay2, bsR, cells2, Nat.zero_add] | (with_reducible refine sxDL_barE (by assumption) (by decide +kernel) ?_) | (with_reducible refine sxDL_bar (by decide +kernel) ?_) | (with_reducible refine sxD_bar (by decide +kernel) ?_))
    exact ⟨m, by omega, st', v2, _, by omega, o6, hw2, ls11, ow11, rfl, rfl⟩

theorem pPlan_bad (d l : Int) (H : Heap) (hb : ¬ errT d l = 0) : Runs Tryd.prog S (.fn 20) [.int .i64 d, .int .i64 l] H (.tuple #[.slice none 0 0, .int .i64 (errT d l)]) H := by
  suffices h : WCall Tryd.prog S (.fn 20) [.int .i64 d, .int .i64 l] H (fun v H' => v = .tuple #[.slice none 0 0, .int .i64 (errT d l)] ∧ H' = H) by
    obtain ⟨_, _, hr, rfl, rfl⟩ := h; exact hr
  have f1 := (checkToday_runs hS d l H).bx
  generalize errT d l = e at *
  refine call_of Tryd.func20 rfl (Nat.le_of_ble_eq_true rfl) (hS.no rfl _ _) ?_
  rw [Tryd.ntmps20, Tryd.results20]
  repeat' (first | (with_reducible refine sxGuardB_tsp (fun h => ?_) (fun h => ?_)) | (with_reducible refine sxGuardB_fsp (fun h => ?_) (fun h => ?_)) | (with_reducible refine sxIfB_sp (fun h => ?_) (fun h => ?_)) | simp only [↓sxC_skip, ↓sxC_draw, ↓sxC_region, ↓sxC_seq, ↓bxC_cond, ↓bxC_loop, ↓sxC_block, ↓sxC_exit, ↓sxC_goto, ↓sxC_ret, ↓sxOps_nil, ↓sxOps_cons, ↓sxDraw_nil, ↓bxDraw_cons, ↓sxDL_move, ↓sxDL_assign, ↓sxDL_pick, ↓sxDL_alloc, ↓sxDL_box, ↓sxDL_build, ↓sxDL_buildSlice, ↓sxDL_insert, ↓sxDL_load, ↓sxDL_nilCheck, ↓sxDL_binOp, ↓sxDL_unOp, ↓sxDL_convert, ↓sxDL_makeInterface, ↓sxDL_makeFunc, ↓sxDL_makeMap, ↓sxDL_makeSlice, ↓sxDL_slice, ↓sxDL_fieldAddr, ↓sxDL_field, ↓sxDL_indexAddr, ↓sxDL_index, ↓sxDL_typeAssert, ↓sxDL_extract, ↓sxDL_call, ↓sxDL_lookup, ↓sxDL_mapUpdate, ↓sxDL_range, ↓sxDL_next, ↓sxDL_entry, ↓sxDL_mapEntry, ↓sxDL_entryStore, ↓sxD_same, ↓sxStep_none, ↓bxStep_some, ↓bxOp_move, ↓bxOp_assign, ↓bxOp_pick, ↓bxOp_alloc, ↓bxOp_box, ↓bxOp_build, ↓bxOp_buildSlice, ↓bxOp_load, ↓bxOp_store, ↓bxOp_nilCheck, ↓bxOp_bin, ↓bxOp_un, ↓bxOp_makeI, ↓bxOp_makeFunc, ↓bxOp_makeSlice, ↓bxOp_slice, ↓bxOp_fieldAddr, ↓bxOp_field, ↓bxOp_indexAddr, ↓bxOp_index, ↓bxOp_assert, ↓bxOp_extract, ↓bxOp_value, ↓bxOp_len, ↓bxOp_cap, ↓bxOp_append, ↓bxOp_copy, ↓bxOp_clear, ↓bxOp_max, ↓bxOp_min, ↓bxOp_convert, ↓sxPut_none, ↓bxPut, ↓seqQ_normal, ↓seqQ_exit, ↓seqQ_ret, ↓seqQ_goto, ↓blockQ_normal, ↓blockQ_ret, ↓blockQ_goto, ↓blockQ_exit, ↓loopQ_normal, ↓loopQ_exit, ↓loopQ_ret, ↓loopQ_goto, ↓resQ_normal, ↓resQ_ret, ↓sxRes_nil, ↓sxRes_tmp, ↓bxRes_cell, ↓upd_apply, ↓ev_tmp, ↓ev_const, ↓ev_global, ↓ev_func, ↓dstAt, ↓gval_some, sxOptB_some, sxOptB_ite, mm_max, mm_min, binP_shl, binP_shr, binP_int, intBin, una_not_dec, una_nt, una_nf, una_neg, aPick_true, aPick_false, sxCallVB_fn, sxCallVB_yield, sxGuardB_u, sxGuardB_tt, sxGuardB_tf, sxGuardB_ft, sxGuardB_ff, sxIfB_t, sxIfB_f, packRes_one, packRes_two, List.map_cons, List.map_nil, List.nil_append, List.cons_append, List.append_nil, ↓reduceIte, Nat.reduceEqDiff, Nat.reduceLT, dec_T, dec_F, false_imp, true_and, and_true, true_implies, implies_true, false_and, and_false, true_or, or_true, false_or, or_false, and_self, or_self, read_relow, size_relow, low_relow, relow_relow, aLoad_relow, Nat.add_zero, Nat.mul_one, one1, Option.bind_some, ne_eq, Int.natCast_nonneg, Int.toNat_natCast, not_true_eq_false, not_false_eq_true, Option.map_some, Option.map_none, *, argF, List.getD_cons_zero, List.getD_cons_succ] | (with_reducible refine sxDL_barE (by assumption) (by decide +kernel) ?_) | (with_reducible refine sxDL_bar (by decide +kernel) ?_) | (with_reducible refine sxD_bar (by decide +kernel) ?_))
theorem pPlan_good (d l : Nat) (H : Heap) (hd : d ≤ 14) (hl : l ≤ 14) (h0 : 0 < d) (hg : Grp H) (hL : H.low ≤ H.size) : ∃ H' v, LstR H H' v (planC d l) ∧ Runs Tryd.prog S (.fn 20) [.int .i64 d, .int .i64 l] H (.tuple #[v, .int .i64 0]) H' := by
  suffices h : WCall Tryd.prog S (.fn 20) [.int .i64 d, .int .i64 l] H (fun x H' => ∃ v, x = .tuple #[v, .int .i64 0] ∧ LstR H H' v (planC d l)) by
    obtain ⟨_, H', hr, v, rfl, hk⟩ := h; exact ⟨H', v, hk, hr⟩
  have f1 := (checkToday_runs hS d l H).bx
  have hin : inDays d l := by unfold inDays; omega
  have he : errT d l = 0 := by unfold errT; rw [if_pos hin, if_neg (by omega)]
  rw [he] at f1
  obtain ⟨H1, v1, ls1, R1⟩ := plan_runs hS d l H hd hl hg hL
  have f2 := R1.bx
  clear R1 hin he
  refine call_of Tryd.func20 rfl (Nat.le_of_ble_eq_true rfl) (hS.no rfl _ _) ?_
  rw [Tryd.ntmps20, Tryd.results20]
  repeat' (first | (with_reducible refine sxGuardB_tsp (fun h => ?_) (fun h => ?_)) | (with_reducible refine sxGuardB_fsp (fun h => ?_) (fun h => ?_)) | (with_reducible refine sxIfB_sp (fun h => ?_) (fun h => ?_)) | simp only [↓sxC_skip, ↓sxC_draw, ↓sxC_region, ↓sxC_seq, ↓bxC_cond, ↓bxC_loop, ↓sxC_block, ↓sxC_exit, ↓sxC_goto, ↓sxC_ret, ↓sxOps_nil, ↓sxOps_cons, ↓sxDraw_nil, ↓bxDraw_cons, ↓sxDL_move, ↓sxDL_assign, ↓sxDL_pick, ↓sxDL_alloc, ↓sxDL_box, ↓sxDL_build, ↓sxDL_buildSlice, ↓sxDL_insert, ↓sxDL_load, ↓sxDL_nilCheck, ↓sxDL_binOp, ↓sxDL_unOp, ↓sxDL_convert, ↓sxDL_makeInterface, ↓sxDL_makeFunc, ↓sxDL_makeMap, ↓sxDL_makeSlice, ↓sxDL_slice, ↓sxDL_fieldAddr, ↓sxDL_field, ↓sxDL_indexAddr, ↓sxDL_index, ↓sxDL_typeAssert, ↓sxDL_extract, ↓sxDL_call, ↓sxDL_lookup, ↓sxDL_mapUpdate, ↓sxDL_range, ↓sxDL_next, ↓sxDL_entry, ↓sxDL_mapEntry, ↓sxDL_entryStore, ↓sxD_same, ↓sxStep_none, ↓bxStep_some, ↓bxOp_move, ↓bxOp_assign, ↓bxOp_pick, ↓bxOp_alloc, ↓bxOp_box, ↓bxOp_build, ↓bxOp_buildSlice, ↓bxOp_load, ↓bxOp_store, ↓bxOp_nilCheck, ↓bxOp_bin, ↓bxOp_un, ↓bxOp_makeI, ↓bxOp_makeFunc, ↓bxOp_makeSlice, ↓bxOp_slice, ↓bxOp_fieldAddr, ↓bxOp_field, ↓bxOp_indexAddr, ↓bxOp_index, ↓bxOp_assert, ↓bxOp_extract, ↓bxOp_value, ↓bxOp_len, ↓bxOp_cap, ↓bxOp_append, ↓bxOp_copy, ↓bxOp_clear, ↓bxOp_max, ↓bxOp_min, ↓bxOp_convert, ↓sxPut_none, ↓bxPut, ↓seqQ_normal, ↓seqQ_exit, ↓seqQ_ret, ↓seqQ_goto, ↓blockQ_normal, ↓blockQ_ret, ↓blockQ_goto, ↓blockQ_exit, ↓loopQ_normal, ↓loopQ_exit, ↓loopQ_ret, ↓loopQ_goto, ↓resQ_normal, ↓resQ_ret, ↓sxRes_nil, ↓sxRes_tmp, ↓bxRes_cell, ↓upd_apply, ↓ev_tmp, ↓ev_const, ↓ev_global, ↓ev_func, ↓dstAt, ↓gval_some, sxOptB_some, sxOptB_ite, mm_max, mm_min, binP_shl, binP_shr, binP_int, intBin, una_not_dec, una_nt, una_nf, una_neg, aPick_true, aPick_false, sxCallVB_fn, sxCallVB_yield, sxGuardB_u, sxGuardB_tt, sxGuardB_tf, sxGuardB_ft, sxGuardB_ff, sxIfB_t, sxIfB_f, packRes_one, packRes_two, List.map_cons, List.map_nil, List.nil_append, List.cons_append, List.append_nil, ↓reduceIte, Nat.reduceEqDiff, Nat.reduceLT, dec_T, dec_F, false_imp, true_and, and_true, true_implies, implies_true, false_and, and_false, true_or, or_true, false_or, or_false, and_self, or_self, read_relow, size_relow, low_relow, relow_relow, aLoad_relow, Nat.add_zero, Nat.mul_one, one1, Option.bind_some, ne_eq, Int.natCast_nonneg, Int.toNat_natCast, not_true_eq_false, not_false_eq_true, Option.map_some, Option.map_none, *, argF, List.getD_cons_zero, List.getD_cons_succ] | (with_reducible refine sxDL_barE (by assumption) (by decide +kernel) ?_) | (with_reducible refine sxDL_bar (by decide +kernel) ?_) | (with_reducible refine sxD_bar (by decide +kernel) ?_))
  exact ⟨_, rfl, ls1⟩
end Go.Proofs.YtnbhjbelgmkpeaaDoor
