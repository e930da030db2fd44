/- Follow of package tariff and of the reference, on the canonical machine: both come to the same. -/
import Derived.Test.YtmllfacipbpkfaaDoorC5
set_option linter.unusedVariables false
set_option linter.unusedSimpArgs false
set_option linter.unusedSectionVars false

namespace Go.Proofs.YtmllfacipbpkfaaDoor
open Go Go.AM
set_option maxRecDepth 10000
set_option linter.unusedSimpArgs false

/-- The first cut that is greater. -/
def ix (v : Int) : List Int → Nat
  | [] => 0
  | c :: l => if v < c then 0 else ix v l + 1
theorem ix_eq (v : Int) : ∀ (w : List Int) (i : Nat), i ≤ w.length → (∀ j, j < i → w.getD j 0 ≤ v) → (i < w.length → v < w.getD i 0) → ix v w = i
  | [], i, h, _, _ => by simp at h; subst h; rfl
  | c :: l, 0, _, _, h => by
    have := h (by simp)
    simp at this
    unfold ix; rw [if_pos this]
  | c :: l, i + 1, h, h1, h2 => by
    have hc := h1 0 (by omega)
    simp at hc
    unfold ix
    rw [if_neg (by omega), ix_eq v l i (by simp at h; omega) (fun j hj => by simpa using h1 (j + 1) (by omega)) (fun hi => by simpa using h2 (by simp; omega))]
theorem ix_spec (v : Int) : ∀ (w : List Int), ix v w ≤ w.length ∧ (∀ j, j < ix v w → w.getD j 0 ≤ v) ∧ (ix v w < w.length → v < w.getD (ix v w) 0)
  | [] => ⟨Nat.le_refl _, fun j hj => absurd hj (Nat.not_lt_zero j), fun h => absurd h (Nat.lt_irrefl _)⟩
  | c :: l => by
    obtain ⟨h1, h2, h3⟩ := ix_spec v l
    unfold ix
    split
    · rename_i hc
      exact ⟨Nat.zero_le _, fun j hj => absurd hj (Nat.not_lt_zero j), fun _ => by simpa using hc⟩
    · rename_i hc
      refine ⟨by simp; exact h1, fun j hj => ?_, fun h => by simpa using h3 (by simpa using h)⟩
      cases j with
      | zero => simp; omega
      | succ j => simpa using h2 j (by omega)
def nxt (d : List Nd) (x : List Int) (t : Int) : Int := (d.getD t.toNat default).to.getD (ix (x.getD (d.getD t.toNat default).mark.toNat 0) (d.getD t.toNat default).cuts) 0
def fol (d : List Nd) (x : List Int) : Nat → Int → Int
  | 0, t => t
  | f + 1, t => if t < 0 then t else fol d x f (nxt d x t)
theorem fol_neg (d : List Nd) (x : List Int) (f : Nat) {t : Int} (h : t < 0) : fol d x f t = t := by
  cases f with
  | zero => rfl
  | succ f => unfold fol; rw [if_pos h]
theorem asc_last {w : List Int} (h : Asc w) : 0 < w.length ∧ w.getD (w.length - 1) 0 = 1000 := by
  have := h.2
  unfold prev at this
  split at this
  · omega
  · exact ⟨by omega, this⟩
theorem asc_le {w : List Int} (h : Asc w) : ∀ i j, i < j → j < w.length → w.getD i 0 < w.getD j 0 := by
  intro i j hij
  induction j with
  | zero => omega
  | succ j ih =>
    intro hj
    have h1 := h.1 (j + 1) hj
    unfold prev at h1
    rw [if_neg (by omega), show j + 1 - 1 = j by omega] at h1
    rcases Nat.lt_or_ge i j with h2 | h2
    · have := ih h2 (by omega); omega
    · rw [show i = j by omega]; exact h1
/-- One step through a diagram. -/
theorem step_ok {k : Int} {d : List Nd} {x : List Int} (hx : IsThing k x) (hd : Diagram k d) {t : Int} (h0 : 0 ≤ t) (h1 : t < d.length) :
    NodeOk k d (d.getD t.toNat default) ∧ ix (x.getD (d.getD t.toNat default).mark.toNat 0) (d.getD t.toNat default).cuts < (d.getD t.toNat default).cuts.length ∧ ToOk d (d.getD t.toNat default) (nxt d x t) := by
  have hn : NodeOk k d (d.getD t.toNat default) := hd.2.2 _ (getD_mem (by omega))
  refine ⟨hn, ?_⟩
  have hv : x.getD (d.getD t.toNat default).mark.toNat 0 ≤ 999 := (hx.2 _ (getD_mem (by have := hn.1; have := hn.2.1; have := hx.1; omega))).2
  have hl := asc_last hn.2.2.1
  have key : ∀ (w : List Int) (v : Int), v ≤ 999 → 0 < w.length → w.getD (w.length - 1) 0 = 1000 → ix v w < w.length := by
    intro w v hv
    induction w with
    | nil => intro h; simp at h
    | cons c l ih =>
      intro _ h
      unfold ix
      split
      · simp
      · rename_i hc
        rcases Nat.eq_zero_or_pos l.length with h2 | h2
        · obtain rfl := List.length_eq_zero_iff.1 h2
          simp at h; omega
        · have := ih h2 (by
            rw [List.length_cons, show l.length + 1 - 1 = (l.length - 1) + 1 by omega, List.getD_cons_succ] at h
            exact h)
          simp; omega
  have hi := key _ _ hv hl.1 hl.2
  exact ⟨hi, hn.2.2.2.2 _ (getD_mem (by rw [hn.2.2.2.1]; exact hi))⟩

theorem ex0 (a b : Value) : aExtract (.tuple #[a, b]) 0 = some a := rfl
theorem ex1 (a b : Value) : aExtract (.tuple #[a, b]) 1 = some b := rfl
def folRes (k : Int) (d : List Nd) (x : List Int) : Int × Int :=
  if 1 ≤ k ∧ k ≤ 4 ∧ IsThing k x ∧ Diagram k d then (if fol d x 5 0 = -1 then (0, 6) else (-2 - fol d x 5 0, 0)) else (0, 2)

theorem tup_no {k : Int} {d : List Nd} {x : List Int} (h : ¬ (1 ≤ k ∧ k ≤ 4 ∧ IsThing k x ∧ Diagram k d)) : Value.tuple ⟨[.int .i64 0, .int .i64 2]⟩ = Value.tuple #[.int .i64 (folRes k d x).1, .int .i64 (folRes k d x).2] := by
  unfold folRes; rw [if_neg h]

variable {S : AM.Sys} (hS : Only S 8)
include hS

theorem Follow_runs (k : Int) (v : Value) (d : List Nd) (r o : Nat) (v2 : Value) (x : List Int) (r2 o2 : Nat) (H : Heap) (hL : H.low ≤ H.size) (hd : SlN H v d r o) (hx : SlI .i64 H v2 x r2 o2) :
    ∃ H', Keep H H' ∧ Runs Tryd.prog S (.fn 11) [.int .i64 k, v, v2] H (.tuple #[.int .i64 (folRes k d x).1, .int .i64 (folRes k d x).2]) H' := by
  suffices h : WCall Tryd.prog S (.fn 11) [.int .i64 k, v, v2] H (fun v H' => v = .tuple #[.int .i64 (folRes k d x).1, .int .i64 (folRes k d x).2] ∧ Keep H H') by
    obtain ⟨_, H', hr, rfl, hk⟩ := h; exact ⟨H', hk, hr⟩
  obtain ⟨H2, hK2, hR2⟩ := isThing_runs hS k v2 x r2 o2 H hx
  obtain ⟨H3, hK3, hR3⟩ := isDiagram_runs hS k v d r o H2 (hK2.low hL) (hd.keep hK2)
  have hc := (isCount_runs hS k H).bx
  have hb2 := hR2.bx
  have hb3 := hR3.bx
  obtain ⟨a, cap, rfl⟩ := hd.v0
  obtain ⟨a2, cap2, rfl⟩ := hx.v0
  have hKK := hK2.trans hK3
  refine call_of Tryd.func11 rfl (Nat.le_of_ble_eq_true rfl) (hS.no rfl _ _) ?_
  rw [Tryd.ntmps11, Tryd.results11]
  clear hR2 hR3
  repeat' (first | (with_reducible refine sxGuardB_tsp (fun h => ?_) (fun h => ?_)) | (with_reducible refine sxGuardB_fsp (fun h => ?_) (fun h => ?_)) | (with_reducible refine sxIfB_sp (fun h => ?_) (fun h => ?_)) | simp only [↓sxC_skip, ↓sxC_draw, ↓sxC_region, ↓sxC_seq, ↓bxC_cond, ↓bxC_loop, ↓sxC_block, ↓sxC_exit, ↓sxC_goto, ↓sxC_ret, ↓sxOps_nil, ↓sxOps_cons, ↓sxDraw_nil, ↓bxDraw_cons, ↓sxD_same, ↓sxStep_none, ↓bxStep_some, ↓bxOp_move, ↓bxOp_assign, ↓bxOp_pick, ↓bxOp_alloc, ↓bxOp_box, ↓bxOp_build, ↓bxOp_buildSlice, ↓bxOp_load, ↓bxOp_store, ↓bxOp_nilCheck, ↓bxOp_bin, ↓bxOp_un, ↓bxOp_makeI, ↓bxOp_makeFunc, ↓bxOp_makeSlice, ↓bxOp_slice, ↓bxOp_fieldAddr, ↓bxOp_field, ↓bxOp_indexAddr, ↓bxOp_index, ↓bxOp_assert, ↓bxOp_extract, ↓bxOp_value, ↓bxOp_len, ↓bxOp_cap, ↓bxOp_append, ↓bxOp_copy, ↓bxOp_max, ↓bxOp_min, ↓bxOp_convert, ↓sxPut_none, ↓bxPut, ↓seqQ_normal, ↓seqQ_exit, ↓seqQ_ret, ↓seqQ_goto, ↓blockQ_normal, ↓blockQ_ret, ↓blockQ_goto, ↓blockQ_exit, ↓loopQ_normal, ↓loopQ_exit, ↓loopQ_ret, ↓loopQ_goto, ↓resQ_normal, ↓resQ_ret, ↓sxRes_nil, ↓sxRes_tmp, ↓bxRes_cell, ↓upd_apply, ↓ev_tmp, ↓ev_const, ↓ev_global, ↓ev_func, ↓dstAt, ↓gval_some, sxOptB_some, sxOptB_ite, mm_max, mm_min, bin_shl, bin_shr, bin_int, intBin, una_not_dec, una_nt, una_nf, una_neg, aPick_true, aPick_false, sxCallVB_fn, sxCallVB_yield, sxGuardB_u, sxGuardB_tt, sxGuardB_tf, sxGuardB_ft, sxGuardB_ff, sxIfB_t, sxIfB_f, packRes_one, packRes_two, List.map_cons, List.map_nil, List.nil_append, List.cons_append, List.append_nil, ↓reduceIte, Nat.reduceEqDiff, Nat.reduceLT, dec_T, dec_F, false_imp, true_and, and_true, true_implies, implies_true, false_and, and_false, true_or, or_true, false_or, or_false, and_self, or_self, read_relow, size_relow, low_relow, relow_relow, aLoad_relow, Nat.add_zero, Nat.mul_one, one1, Option.bind_some, ne_eq, Int.natCast_nonneg, Int.toNat_natCast, not_true_eq_false, not_false_eq_true, Option.map_some, Option.map_none, *, argF, List.getD_cons_zero, List.getD_cons_succ, lenN])
  all_goals first
    | exact tup_no (fun hc => absurd hc.2.2.1 ‹_›)
    | exact tup_no (fun hc => absurd hc.2.2.2 ‹_›)
    | exact tup_no (fun hc => by omega)
    | exact ⟨tup_no (fun hc => absurd hc.2.2.1 ‹_›), Keep.refl _⟩
    | exact ⟨tup_no (fun hc => by omega), Keep.refl _⟩
    | skip
  have hT : IsThing k x := Decidable.not_not.1 ‹¬ ¬ IsThing k x›
  have hD : Diagram k d := Decidable.not_not.1 ‹¬ ¬ Diagram k d›
  have hk4 : 1 ≤ k ∧ k ≤ 4 := by omega
  have hres : folRes k d x = (if fol d x 5 0 = -1 then (0, 6) else (-2 - fol d x 5 0, 0)) := by unfold folRes; rw [if_pos ⟨hk4.1, hk4.2, hT, hD⟩]
  have hL3 : H3.low ≤ H3.size := hKK.low hL
  have hd3 := hd.keep hKK
  have hx3 := hx.keep hKK
  rename_i u1 u2
  clear u1 u2 h hc hb2 hb3
  refine sxL_of (fun m ρ H4 => ∃ t : Int, fol d x m t = fol d x 5 0 ∧ (0 ≤ t → t < d.length ∧ k - (d.getD t.toNat default).mark ≤ m) ∧ -101 ≤ t ∧ Keep H3 H4 ∧ ρ 1 = .slice a d.length cap ∧ ρ 2 = .slice a2 x.length cap2 ∧ ρ 8 = .int .i64 t)
    (n := 5) ⟨0, rfl, fun _ => ⟨by have := hD.1; omega, by have := (hD.2.2 _ (getD_mem (d := default) (k := (0 : Int).toNat) (by have := hD.1; simpa using this))).1; omega⟩, by omega, Keep.refl _, rfl, rfl, rfl⟩ ?_
  rintro m ρ H4 ⟨t, hf, hin, hlow, hK, e1, e2, e8⟩
  by_cases ht : 0 ≤ t
  · obtain ⟨hlt, hm⟩ := hin ht
    have hd4 := hd3.keep hK
    have hx4 := hx3.keep hK
    obtain ⟨hn, hix, hto⟩ := step_ok hT hD ht hlt
    obtain ⟨f, rfl⟩ : ∃ f, m = f + 1 := ⟨m - 1, by have := hn.2.1; omega⟩
    have hf2 : fol d x f (nxt d x t) = fol d x 5 0 := by rw [← hf]; conv => rhs; unfold fol; rw [if_neg (by omega)]
    have p0 := SlN_ix hd4 ht hlt
    obtain ⟨v1, r3, o3, v4, r4, o4, hrd, _, _, _, _, h1, h2⟩ := SlN_rd hd4 (i := t.toNat) (by omega)
    unfold nxt at hto hf2
    generalize d.getD t.toNat default = n at *
    obtain ⟨a3, cap3, rfl⟩ := h1.v0
    obtain ⟨a4, cap4, rfl⟩ := h2.v0
    obtain ⟨H5, hst, hK5, hsz5, q0, q1, q2⟩ := stN H4 n.mark a3 a4 n.cuts.length cap3 n.to.length cap4
    have h1 := h1.keep hK5
    have h2 := h2.keep hK5
    have hx5 := hx4.keep hK5
    have hL5 : H5.low ≤ H5.size := hK5.low (hK.low hL3)
    have hK35 := hK.trans hK5
    clear hsz5
    have hmk : n.mark.toNat < x.length := by have := hn.1; have := hn.2.1; have := hT.1; omega
    have p1 := SlI_ix hx5 hmk
    have p2 := (hx5.rdI hmk).1
    have hv := hT.2 _ (getD_mem (d := 0) hmk)
    rw [Int.toNat_of_nonneg hn.1] at p1
    have p3 : IntKind.i64.wrap (x.getD n.mark.toNat 0 + 1) = x.getD n.mark.toNat 0 + 1 := IntWalk.i64_in _ (by omega)
    obtain ⟨i, bb, hR, hi1, hi2, hi3⟩ := bs_runs hS _ n.cuts r3 o3 (x.getD n.mark.toNat 0 + 1) (H5.relow H5.size) (Nat.le_refl _) (h1.keep (Keep.relowS H5)) (fun i j h h' => by have := asc_le hn.2.2.1 i j h h'; omega)
    have hie : ix (x.getD n.mark.toNat 0) n.cuts = i := ix_eq _ _ _ hi1 (fun j hj => by have := hi2 j hj; omega) (fun hj => by have := hi3 i (Nat.le_refl _) hj; omega)
    rw [hie] at hix hto hf2
    have hb := hR.bx
    have hll := hn.2.2.2.1
    have p4 := SlI_ix h2 (k := i) (by omega)
    have p5 := (h2.rdI (i := i) (by omega)).1
    have hfin : 0 ≤ n.to.getD i 0 → n.to.getD i 0 < d.length ∧ k - (d.getD (n.to.getD i 0).toNat default).mark ≤ f := fun h => by have := hto.2 h; omega
    have hlo2 := hto.1
    generalize n.to.getD i 0 = t' at *
    generalize x.getD n.mark.toNat 0 = xv at *
    clear hR hd hx hd3 hx3 hd4 hx4 h1 h2 hx5 hres hK hK5 hn hto hi2 hi3 hie hll hT hD hlow hf
    repeat' (first | (with_reducible refine sxGuardB_tsp (fun h => ?_) (fun h => ?_)) | (with_reducible refine sxGuardB_fsp (fun h => ?_) (fun h => ?_)) | (with_reducible refine sxIfB_sp (fun h => ?_) (fun h => ?_)) | simp only [↓sxC_skip, ↓sxC_draw, ↓sxC_region, ↓sxC_seq, ↓bxC_cond, ↓bxC_loop, ↓sxC_block, ↓sxC_exit, ↓sxC_goto, ↓sxC_ret, ↓sxOps_nil, ↓sxOps_cons, ↓sxDraw_nil, ↓bxDraw_cons, ↓sxD_same, ↓sxStep_none, ↓bxStep_some, ↓bxOp_move, ↓bxOp_assign, ↓bxOp_pick, ↓bxOp_alloc, ↓bxOp_box, ↓bxOp_build, ↓bxOp_buildSlice, ↓bxOp_load, ↓bxOp_store, ↓bxOp_nilCheck, ↓bxOp_bin, ↓bxOp_un, ↓bxOp_makeI, ↓bxOp_makeFunc, ↓bxOp_makeSlice, ↓bxOp_slice, ↓bxOp_fieldAddr, ↓bxOp_field, ↓bxOp_indexAddr, ↓bxOp_index, ↓bxOp_assert, ↓bxOp_extract, ↓bxOp_value, ↓bxOp_len, ↓bxOp_cap, ↓bxOp_append, ↓bxOp_copy, ↓bxOp_max, ↓bxOp_min, ↓bxOp_convert, ↓sxPut_none, ↓bxPut, ↓seqQ_normal, ↓seqQ_exit, ↓seqQ_ret, ↓seqQ_goto, ↓blockQ_normal, ↓blockQ_ret, ↓blockQ_goto, ↓blockQ_exit, ↓loopQ_normal, ↓loopQ_exit, ↓loopQ_ret, ↓loopQ_goto, ↓resQ_normal, ↓resQ_ret, ↓sxRes_nil, ↓sxRes_tmp, ↓bxRes_cell, ↓upd_apply, ↓ev_tmp, ↓ev_const, ↓ev_global, ↓ev_func, ↓dstAt, ↓gval_some, sxOptB_some, sxOptB_ite, mm_max, mm_min, bin_shl, bin_shr, bin_int, intBin, una_not_dec, una_nt, una_nf, una_neg, aPick_true, aPick_false, sxCallVB_fn, sxCallVB_yield, sxGuardB_u, sxGuardB_tt, sxGuardB_tf, sxGuardB_ft, sxGuardB_ff, sxIfB_t, sxIfB_f, packRes_one, packRes_two, List.map_cons, List.map_nil, List.nil_append, List.cons_append, List.append_nil, ↓reduceIte, Nat.reduceEqDiff, Nat.reduceLT, dec_T, dec_F, false_imp, true_and, and_true, true_implies, implies_true, false_and, and_false, true_or, or_true, false_or, or_false, and_self, or_self, read_relow, size_relow, low_relow, relow_relow, aLoad_relow, Nat.add_zero, Nat.mul_one, one1, Option.bind_some, ne_eq, Int.natCast_nonneg, Int.toNat_natCast, not_true_eq_false, not_false_eq_true, Option.map_some, Option.map_none, *, lenN, alN, hst, faN0, faN1, faN2, ldI, ldIs, ldN, Nat.zero_add, ex0, ex1])
    exact ⟨f, by omega, t', hf2, hfin, hlo2, rfl⟩
  · have hR : fol d x 5 0 = t := by rw [← hf]; exact fol_neg d x m (by omega)
    have hcd := fun H => (codeAt_runs hS t (by omega) H).bx
    rw [hR] at hres
    rw [hres]
    clear hd hx hd3 hx3 hT hD hres hf hin
    repeat' (first | (with_reducible refine sxGuardB_tsp (fun h => ?_) (fun h => ?_)) | (with_reducible refine sxGuardB_fsp (fun h => ?_) (fun h => ?_)) | (with_reducible refine sxIfB_sp (fun h => ?_) (fun h => ?_)) | simp only [↓sxC_skip, ↓sxC_draw, ↓sxC_region, ↓sxC_seq, ↓bxC_cond, ↓bxC_loop, ↓sxC_block, ↓sxC_exit, ↓sxC_goto, ↓sxC_ret, ↓sxOps_nil, ↓sxOps_cons, ↓sxDraw_nil, ↓bxDraw_cons, ↓sxD_same, ↓sxStep_none, ↓bxStep_some, ↓bxOp_move, ↓bxOp_assign, ↓bxOp_pick, ↓bxOp_alloc, ↓bxOp_box, ↓bxOp_build, ↓bxOp_buildSlice, ↓bxOp_load, ↓bxOp_store, ↓bxOp_nilCheck, ↓bxOp_bin, ↓bxOp_un, ↓bxOp_makeI, ↓bxOp_makeFunc, ↓bxOp_makeSlice, ↓bxOp_slice, ↓bxOp_fieldAddr, ↓bxOp_field, ↓bxOp_indexAddr, ↓bxOp_index, ↓bxOp_assert, ↓bxOp_extract, ↓bxOp_value, ↓bxOp_len, ↓bxOp_cap, ↓bxOp_append, ↓bxOp_copy, ↓bxOp_max, ↓bxOp_min, ↓bxOp_convert, ↓sxPut_none, ↓bxPut, ↓seqQ_normal, ↓seqQ_exit, ↓seqQ_ret, ↓seqQ_goto, ↓blockQ_normal, ↓blockQ_ret, ↓blockQ_goto, ↓blockQ_exit, ↓loopQ_normal, ↓loopQ_exit, ↓loopQ_ret, ↓loopQ_goto, ↓resQ_normal, ↓resQ_ret, ↓sxRes_nil, ↓sxRes_tmp, ↓bxRes_cell, ↓upd_apply, ↓ev_tmp, ↓ev_const, ↓ev_global, ↓ev_func, ↓dstAt, ↓gval_some, sxOptB_some, sxOptB_ite, mm_max, mm_min, bin_shl, bin_shr, bin_int, intBin, una_not_dec, una_nt, una_nf, una_neg, aPick_true, aPick_false, sxCallVB_fn, sxCallVB_yield, sxGuardB_u, sxGuardB_tt, sxGuardB_tf, sxGuardB_ft, sxGuardB_ff, sxIfB_t, sxIfB_f, packRes_one, packRes_two, List.map_cons, List.map_nil, List.nil_append, List.cons_append, List.append_nil, ↓reduceIte, Nat.reduceEqDiff, Nat.reduceLT, dec_T, dec_F, false_imp, true_and, and_true, true_implies, implies_true, false_and, and_false, true_or, or_true, false_or, or_false, and_self, or_self, read_relow, size_relow, low_relow, relow_relow, aLoad_relow, Nat.add_zero, Nat.mul_one, one1, Option.bind_some, ne_eq, Int.natCast_nonneg, Int.toNat_natCast, not_true_eq_false, not_false_eq_true, Option.map_some, Option.map_none, *, lenN])
    all_goals exact hKK.trans hK

theorem rFollow_runs (k : Int) (v : Value) (d : List Nd) (r o : Nat) (v2 : Value) (x : List Int) (r2 o2 : Nat) (H : Heap) (hL : H.low ≤ H.size) (hd : SlN H v d r o) (hx : SlI .i64 H v2 x r2 o2) :
    ∃ H', Keep H H' ∧ Runs Tryd.prog S (.fn 12) [.int .i64 k, v, v2] H (.tuple #[.int .i64 (folRes k d x).1, .int .i64 (folRes k d x).2]) H' := by
  suffices h : WCall Tryd.prog S (.fn 12) [.int .i64 k, v, v2] H (fun v H' => v = .tuple #[.int .i64 (folRes k d x).1, .int .i64 (folRes k d x).2] ∧ Keep H H') by
    obtain ⟨_, H', hr, rfl, hk⟩ := h; exact ⟨H', hk, hr⟩
  have hR2 := Thing_runs hS k v2 x r2 o2 H hx
  obtain ⟨H3, hK3, hR3⟩ := IsDiagram_runs hS k v d r o H hL hd
  have hb2 := hR2.bx
  have hb3 := hR3.bx
  obtain ⟨a, cap, rfl⟩ := hd.v0
  obtain ⟨a2, cap2, rfl⟩ := hx.v0
  refine call_of Tryd.func12 rfl (Nat.le_of_ble_eq_true rfl) (hS.no rfl _ _) ?_
  rw [Tryd.ntmps12, Tryd.results12]
  clear hR2 hR3
  repeat' (first | (with_reducible refine sxGuardB_tsp (fun h => ?_) (fun h => ?_)) | (with_reducible refine sxGuardB_fsp (fun h => ?_) (fun h => ?_)) | (with_reducible refine sxIfB_sp (fun h => ?_) (fun h => ?_)) | simp only [↓sxC_skip, ↓sxC_draw, ↓sxC_region, ↓sxC_seq, ↓bxC_cond, ↓bxC_loop, ↓sxC_block, ↓sxC_exit, ↓sxC_goto, ↓sxC_ret, ↓sxOps_nil, ↓sxOps_cons, ↓sxDraw_nil, ↓bxDraw_cons, ↓sxD_same, ↓sxStep_none, ↓bxStep_some, ↓bxOp_move, ↓bxOp_assign, ↓bxOp_pick, ↓bxOp_alloc, ↓bxOp_box, ↓bxOp_build, ↓bxOp_buildSlice, ↓bxOp_load, ↓bxOp_store, ↓bxOp_nilCheck, ↓bxOp_bin, ↓bxOp_un, ↓bxOp_makeI, ↓bxOp_makeFunc, ↓bxOp_makeSlice, ↓bxOp_slice, ↓bxOp_fieldAddr, ↓bxOp_field, ↓bxOp_indexAddr, ↓bxOp_index, ↓bxOp_assert, ↓bxOp_extract, ↓bxOp_value, ↓bxOp_len, ↓bxOp_cap, ↓bxOp_append, ↓bxOp_copy, ↓bxOp_max, ↓bxOp_min, ↓bxOp_convert, ↓sxPut_none, ↓bxPut, ↓seqQ_normal, ↓seqQ_exit, ↓seqQ_ret, ↓seqQ_goto, ↓blockQ_normal, ↓blockQ_ret, ↓blockQ_goto, ↓blockQ_exit, ↓loopQ_normal, ↓loopQ_exit, ↓loopQ_ret, ↓loopQ_goto, ↓resQ_normal, ↓resQ_ret, ↓sxRes_nil, ↓sxRes_tmp, ↓bxRes_cell, ↓upd_apply, ↓ev_tmp, ↓ev_const, ↓ev_global, ↓ev_func, ↓dstAt, ↓gval_some, sxOptB_some, sxOptB_ite, mm_max, mm_min, bin_shl, bin_shr, bin_int, intBin, una_not_dec, una_nt, una_nf, una_neg, aPick_true, aPick_false, sxCallVB_fn, sxCallVB_yield, sxGuardB_u, sxGuardB_tt, sxGuardB_tf, sxGuardB_ft, sxGuardB_ff, sxIfB_t, sxIfB_f, packRes_one, packRes_two, List.map_cons, List.map_nil, List.nil_append, List.cons_append, List.append_nil, ↓reduceIte, Nat.reduceEqDiff, Nat.reduceLT, dec_T, dec_F, false_imp, true_and, and_true, true_implies, implies_true, false_and, and_false, true_or, or_true, false_or, or_false, and_self, or_self, read_relow, size_relow, low_relow, relow_relow, aLoad_relow, Nat.add_zero, Nat.mul_one, one1, Option.bind_some, ne_eq, Int.natCast_nonneg, Int.toNat_natCast, not_true_eq_false, not_false_eq_true, Option.map_some, Option.map_none, *, argF, List.getD_cons_zero, List.getD_cons_succ, lenN])
  all_goals first
    | exact tup_no (fun hc => absurd hc.2.2.1 ‹_›)
    | exact tup_no (fun hc => absurd hc.2.2.2 ‹_›)
    | exact tup_no (fun hc => by omega)
    | exact ⟨tup_no (fun hc => absurd hc.2.2.1 ‹_›), Keep.refl _⟩
    | exact ⟨tup_no (fun hc => by omega), Keep.refl _⟩
    | skip
  have hT : IsThing k x := Decidable.not_not.1 ‹¬ ¬ IsThing k x›
  have hD : Diagram k d := Decidable.not_not.1 ‹¬ ¬ Diagram k d›
  have hk4 : 1 ≤ k ∧ k ≤ 4 := by omega
  have hres : folRes k d x = (if fol d x 5 0 = -1 then (0, 6) else (-2 - fol d x 5 0, 0)) := by unfold folRes; rw [if_pos ⟨hk4.1, hk4.2, hT, hD⟩]
  have hL3 : H3.low ≤ H3.size := hK3.low hL
  have hd3 := hd.keep hK3
  have hx3 := hx.keep hK3
  rename_i u1 u2 u3
  clear u1 u2 u3 hb2 hb3
  refine sxL_of (fun m ρ H4 => ∃ t : Int, fol d x m t = fol d x 5 0 ∧ (0 ≤ t → t < d.length ∧ k - (d.getD t.toNat default).mark ≤ m) ∧ -101 ≤ t ∧ Keep H3 H4 ∧ ρ 1 = .slice a d.length cap ∧ ρ 2 = .slice a2 x.length cap2 ∧ ρ 8 = .int .i64 t)
    (n := 5) ⟨0, rfl, fun _ => ⟨by have := hD.1; omega, by have := (hD.2.2 _ (getD_mem (d := default) (k := (0 : Int).toNat) (by have := hD.1; simpa using this))).1; omega⟩, by omega, Keep.refl _, rfl, rfl, rfl⟩ ?_
  rintro m ρ H4 ⟨t, hf, hin, hlow, hK, e1, e2, e8⟩
  by_cases ht : 0 ≤ t
  · obtain ⟨hlt, hm⟩ := hin ht
    have hd4 := hd3.keep hK
    have hx4 := hx3.keep hK
    obtain ⟨hn, hix, hto⟩ := step_ok hT hD ht hlt
    obtain ⟨f, rfl⟩ : ∃ f, m = f + 1 := ⟨m - 1, by have := hn.2.1; omega⟩
    have hf2 : fol d x f (nxt d x t) = fol d x 5 0 := by rw [← hf]; conv => rhs; unfold fol; rw [if_neg (by omega)]
    have p0 := SlN_ix hd4 ht hlt
    obtain ⟨v1, r3, o3, v4, r4, o4, hrd, _, _, _, _, h1, h2⟩ := SlN_rd hd4 (i := t.toNat) (by omega)
    unfold nxt at hto hf2
    generalize d.getD t.toNat default = n at *
    obtain ⟨a3, cap3, rfl⟩ := h1.v0
    obtain ⟨a4, cap4, rfl⟩ := h2.v0
    obtain ⟨H5, hst, hK5, hsz5, q0, q1, q2⟩ := stN H4 n.mark a3 a4 n.cuts.length cap3 n.to.length cap4
    have h1 := h1.keep hK5
    have h2 := h2.keep hK5
    have hx5 := hx4.keep hK5
    have hL5 : H5.low ≤ H5.size := hK5.low (hK.low hL3)
    have hK35 := hK.trans hK5
    clear hsz5
    have hmk : n.mark.toNat < x.length := by have := hn.1; have := hn.2.1; have := hT.1; omega
    have p1 := SlI_ix hx5 hmk
    have p2 := (hx5.rdI hmk).1
    have hv := hT.2 _ (getD_mem (d := 0) hmk)
    rw [Int.toNat_of_nonneg hn.1] at p1
    have hsp := ix_spec (x.getD n.mark.toNat 0) n.cuts
    have hll := hn.2.2.2.1
    have hlo2 := hto.1
    generalize hI : ix (x.getD n.mark.toNat 0) n.cuts = I0 at *
    have p4 := SlI_ix h2 (k := I0) (by omega)
    have p5 := (h2.rdI (i := I0) (by omega)).1
    have hfin : 0 ≤ n.to.getD I0 0 → n.to.getD I0 0 < d.length ∧ k - (d.getD (n.to.getD I0 0).toNat default).mark ≤ f := fun h => by have := hto.2 h; omega
    generalize n.to.getD I0 0 = t' at *
    clear hd hx hd3 hx3 hd4 hx4 h2 hx5 hres hK hK5 hn hto hll hT hD hlow hf hI
    repeat' (first | (with_reducible refine sxGuardB_tsp (fun h => ?_) (fun h => ?_)) | (with_reducible refine sxGuardB_fsp (fun h => ?_) (fun h => ?_)) | (with_reducible refine sxIfB_sp (fun h => ?_) (fun h => ?_)) | simp only [↓sxC_skip, ↓sxC_draw, ↓sxC_region, ↓sxC_seq, ↓bxC_cond, ↓bxC_loop, ↓sxC_block, ↓sxC_exit, ↓sxC_goto, ↓sxC_ret, ↓sxOps_nil, ↓sxOps_cons, ↓sxDraw_nil, ↓bxDraw_cons, ↓sxD_same, ↓sxStep_none, ↓bxStep_some, ↓bxOp_move, ↓bxOp_assign, ↓bxOp_pick, ↓bxOp_alloc, ↓bxOp_box, ↓bxOp_build, ↓bxOp_buildSlice, ↓bxOp_load, ↓bxOp_store, ↓bxOp_nilCheck, ↓bxOp_bin, ↓bxOp_un, ↓bxOp_makeI, ↓bxOp_makeFunc, ↓bxOp_makeSlice, ↓bxOp_slice, ↓bxOp_fieldAddr, ↓bxOp_field, ↓bxOp_indexAddr, ↓bxOp_index, ↓bxOp_assert, ↓bxOp_extract, ↓bxOp_value, ↓bxOp_len, ↓bxOp_cap, ↓bxOp_append, ↓bxOp_copy, ↓bxOp_max, ↓bxOp_min, ↓bxOp_convert, ↓sxPut_none, ↓bxPut, ↓seqQ_normal, ↓seqQ_exit, ↓seqQ_ret, ↓seqQ_goto, ↓blockQ_normal, ↓blockQ_ret, ↓blockQ_goto, ↓blockQ_exit, ↓loopQ_normal, ↓loopQ_exit, ↓loopQ_ret, ↓loopQ_goto, ↓resQ_normal, ↓resQ_ret, ↓sxRes_nil, ↓sxRes_tmp, ↓bxRes_cell, ↓upd_apply, ↓ev_tmp, ↓ev_const, ↓ev_global, ↓ev_func, ↓dstAt, ↓gval_some, sxOptB_some, sxOptB_ite, mm_max, mm_min, bin_shl, bin_shr, bin_int, intBin, una_not_dec, una_nt, una_nf, una_neg, aPick_true, aPick_false, sxCallVB_fn, sxCallVB_yield, sxGuardB_u, sxGuardB_tt, sxGuardB_tf, sxGuardB_ft, sxGuardB_ff, sxIfB_t, sxIfB_f, packRes_one, packRes_two, List.map_cons, List.map_nil, List.nil_append, List.cons_append, List.append_nil, ↓reduceIte, Nat.reduceEqDiff, Nat.reduceLT, dec_T, dec_F, false_imp, true_and, and_true, true_implies, implies_true, false_and, and_false, true_or, or_true, false_or, or_false, and_self, or_self, read_relow, size_relow, low_relow, relow_relow, aLoad_relow, Nat.add_zero, Nat.mul_one, one1, Option.bind_some, ne_eq, Int.natCast_nonneg, Int.toNat_natCast, not_true_eq_false, not_false_eq_true, Option.map_some, Option.map_none, *, lenN, alN, hst, faN0, faN1, faN2, ldI, ldIs, ldN, Nat.zero_add])
    refine sxL_of (fun m ρ H6 => ∃ i : Nat, m = n.cuts.length - i ∧ i ≤ I0 ∧ H6 = H5 ∧ ρ 1 = .slice a d.length cap ∧ ρ 2 = .slice a2 x.length cap2 ∧ ρ 9 = .pointer (some ⟨H4.size, 0, none⟩) ∧ ρ 10 = .int .i64 i)
      ⟨0, rfl, Nat.zero_le _, rfl, by assumption, by assumption, rfl, rfl⟩ ?_
    clear e1 e2 e8
    rintro m ρ H6 ⟨i, rfl, hi, rfl, e1, e2, e9, e10⟩
    have hic : i < n.cuts.length := by omega
    have p6 := SlI_ix h1 hic
    have p7 := (h1.rdI hic).1
    have p8 := wrap_succ hic h1.ml
    by_cases hlt2 : i < I0
    · have h8 := hsp.2.1 i hlt2
      clear h1 hsp
      repeat' (first | (with_reducible refine sxGuardB_tsp (fun h => ?_) (fun h => ?_)) | (with_reducible refine sxGuardB_fsp (fun h => ?_) (fun h => ?_)) | (with_reducible refine sxIfB_sp (fun h => ?_) (fun h => ?_)) | simp only [↓sxC_skip, ↓sxC_draw, ↓sxC_region, ↓sxC_seq, ↓bxC_cond, ↓bxC_loop, ↓sxC_block, ↓sxC_exit, ↓sxC_goto, ↓sxC_ret, ↓sxOps_nil, ↓sxOps_cons, ↓sxDraw_nil, ↓bxDraw_cons, ↓sxD_same, ↓sxStep_none, ↓bxStep_some, ↓bxOp_move, ↓bxOp_assign, ↓bxOp_pick, ↓bxOp_alloc, ↓bxOp_box, ↓bxOp_build, ↓bxOp_buildSlice, ↓bxOp_load, ↓bxOp_store, ↓bxOp_nilCheck, ↓bxOp_bin, ↓bxOp_un, ↓bxOp_makeI, ↓bxOp_makeFunc, ↓bxOp_makeSlice, ↓bxOp_slice, ↓bxOp_fieldAddr, ↓bxOp_field, ↓bxOp_indexAddr, ↓bxOp_index, ↓bxOp_assert, ↓bxOp_extract, ↓bxOp_value, ↓bxOp_len, ↓bxOp_cap, ↓bxOp_append, ↓bxOp_copy, ↓bxOp_max, ↓bxOp_min, ↓bxOp_convert, ↓sxPut_none, ↓bxPut, ↓seqQ_normal, ↓seqQ_exit, ↓seqQ_ret, ↓seqQ_goto, ↓blockQ_normal, ↓blockQ_ret, ↓blockQ_goto, ↓blockQ_exit, ↓loopQ_normal, ↓loopQ_exit, ↓loopQ_ret, ↓loopQ_goto, ↓resQ_normal, ↓resQ_ret, ↓sxRes_nil, ↓sxRes_tmp, ↓bxRes_cell, ↓upd_apply, ↓ev_tmp, ↓ev_const, ↓ev_global, ↓ev_func, ↓dstAt, ↓gval_some, sxOptB_some, sxOptB_ite, mm_max, mm_min, bin_shl, bin_shr, bin_int, intBin, una_not_dec, una_nt, una_nf, una_neg, aPick_true, aPick_false, sxCallVB_fn, sxCallVB_yield, sxGuardB_u, sxGuardB_tt, sxGuardB_tf, sxGuardB_ft, sxGuardB_ff, sxIfB_t, sxIfB_f, packRes_one, packRes_two, List.map_cons, List.map_nil, List.nil_append, List.cons_append, List.append_nil, ↓reduceIte, Nat.reduceEqDiff, Nat.reduceLT, dec_T, dec_F, false_imp, true_and, and_true, true_implies, implies_true, false_and, and_false, true_or, or_true, false_or, or_false, and_self, or_self, read_relow, size_relow, low_relow, relow_relow, aLoad_relow, Nat.add_zero, Nat.mul_one, one1, Option.bind_some, ne_eq, Int.natCast_nonneg, Int.toNat_natCast, not_true_eq_false, not_false_eq_true, Option.map_some, Option.map_none, *, lenN, alN, hst, faN0, faN1, faN2, ldI, ldIs, ldN, Nat.zero_add])
      exact ⟨_, by omega, i + 1, rfl, by omega, rfl⟩
    · have hi0 : i = I0 := by omega
      subst hi0
      have h8 := hsp.2.2 hic
      have h9 : ¬ n.cuts.getD i 0 ≤ x.getD n.mark.toNat 0 := by omega
      clear h1 hsp
      repeat' (first | (with_reducible refine sxGuardB_tsp (fun h => ?_) (fun h => ?_)) | (with_reducible refine sxGuardB_fsp (fun h => ?_) (fun h => ?_)) | (with_reducible refine sxIfB_sp (fun h => ?_) (fun h => ?_)) | simp only [↓sxC_skip, ↓sxC_draw, ↓sxC_region, ↓sxC_seq, ↓bxC_cond, ↓bxC_loop, ↓sxC_block, ↓sxC_exit, ↓sxC_goto, ↓sxC_ret, ↓sxOps_nil, ↓sxOps_cons, ↓sxDraw_nil, ↓bxDraw_cons, ↓sxD_same, ↓sxStep_none, ↓bxStep_some, ↓bxOp_move, ↓bxOp_assign, ↓bxOp_pick, ↓bxOp_alloc, ↓bxOp_box, ↓bxOp_build, ↓bxOp_buildSlice, ↓bxOp_load, ↓bxOp_store, ↓bxOp_nilCheck, ↓bxOp_bin, ↓bxOp_un, ↓bxOp_makeI, ↓bxOp_makeFunc, ↓bxOp_makeSlice, ↓bxOp_slice, ↓bxOp_fieldAddr, ↓bxOp_field, ↓bxOp_indexAddr, ↓bxOp_index, ↓bxOp_assert, ↓bxOp_extract, ↓bxOp_value, ↓bxOp_len, ↓bxOp_cap, ↓bxOp_append, ↓bxOp_copy, ↓bxOp_max, ↓bxOp_min, ↓bxOp_convert, ↓sxPut_none, ↓bxPut, ↓seqQ_normal, ↓seqQ_exit, ↓seqQ_ret, ↓seqQ_goto, ↓blockQ_normal, ↓blockQ_ret, ↓blockQ_goto, ↓blockQ_exit, ↓loopQ_normal, ↓loopQ_exit, ↓loopQ_ret, ↓loopQ_goto, ↓resQ_normal, ↓resQ_ret, ↓sxRes_nil, ↓sxRes_tmp, ↓bxRes_cell, ↓upd_apply, ↓ev_tmp, ↓ev_const, ↓ev_global, ↓ev_func, ↓dstAt, ↓gval_some, sxOptB_some, sxOptB_ite, mm_max, mm_min, bin_shl, bin_shr, bin_int, intBin, una_not_dec, una_nt, una_nf, una_neg, aPick_true, aPick_false, sxCallVB_fn, sxCallVB_yield, sxGuardB_u, sxGuardB_tt, sxGuardB_tf, sxGuardB_ft, sxGuardB_ff, sxIfB_t, sxIfB_f, packRes_one, packRes_two, List.map_cons, List.map_nil, List.nil_append, List.cons_append, List.append_nil, ↓reduceIte, Nat.reduceEqDiff, Nat.reduceLT, dec_T, dec_F, false_imp, true_and, and_true, true_implies, implies_true, false_and, and_false, true_or, or_true, false_or, or_false, and_self, or_self, read_relow, size_relow, low_relow, relow_relow, aLoad_relow, Nat.add_zero, Nat.mul_one, one1, Option.bind_some, ne_eq, Int.natCast_nonneg, Int.toNat_natCast, not_true_eq_false, not_false_eq_true, Option.map_some, Option.map_none, *, lenN, alN, hst, faN0, faN1, faN2, ldI, ldIs, ldN, Nat.zero_add])
      exact ⟨f, by omega, t', hf2, hfin, hlo2, rfl⟩
  · have hR : fol d x 5 0 = t := by rw [← hf]; exact fol_neg d x m (by omega)
    have hw : IntKind.i64.wrap (-2 - t) = -2 - t := IntWalk.i64_in _ (by omega)
    rw [hR] at hres
    rw [hres]
    clear hd hx hd3 hx3 hT hD hres hf hin
    repeat' (first | (with_reducible refine sxGuardB_tsp (fun h => ?_) (fun h => ?_)) | (with_reducible refine sxGuardB_fsp (fun h => ?_) (fun h => ?_)) | (with_reducible refine sxIfB_sp (fun h => ?_) (fun h => ?_)) | simp only [↓sxC_skip, ↓sxC_draw, ↓sxC_region, ↓sxC_seq, ↓bxC_cond, ↓bxC_loop, ↓sxC_block, ↓sxC_exit, ↓sxC_goto, ↓sxC_ret, ↓sxOps_nil, ↓sxOps_cons, ↓sxDraw_nil, ↓bxDraw_cons, ↓sxD_same, ↓sxStep_none, ↓bxStep_some, ↓bxOp_move, ↓bxOp_assign, ↓bxOp_pick, ↓bxOp_alloc, ↓bxOp_box, ↓bxOp_build, ↓bxOp_buildSlice, ↓bxOp_load, ↓bxOp_store, ↓bxOp_nilCheck, ↓bxOp_bin, ↓bxOp_un, ↓bxOp_makeI, ↓bxOp_makeFunc, ↓bxOp_makeSlice, ↓bxOp_slice, ↓bxOp_fieldAddr, ↓bxOp_field, ↓bxOp_indexAddr, ↓bxOp_index, ↓bxOp_assert, ↓bxOp_extract, ↓bxOp_value, ↓bxOp_len, ↓bxOp_cap, ↓bxOp_append, ↓bxOp_copy, ↓bxOp_max, ↓bxOp_min, ↓bxOp_convert, ↓sxPut_none, ↓bxPut, ↓seqQ_normal, ↓seqQ_exit, ↓seqQ_ret, ↓seqQ_goto, ↓blockQ_normal, ↓blockQ_ret, ↓blockQ_goto, ↓blockQ_exit, ↓loopQ_normal, ↓loopQ_exit, ↓loopQ_ret, ↓loopQ_goto, ↓resQ_normal, ↓resQ_ret, ↓sxRes_nil, ↓sxRes_tmp, ↓bxRes_cell, ↓upd_apply, ↓ev_tmp, ↓ev_const, ↓ev_global, ↓ev_func, ↓dstAt, ↓gval_some, sxOptB_some, sxOptB_ite, mm_max, mm_min, bin_shl, bin_shr, bin_int, intBin, una_not_dec, una_nt, una_nf, una_neg, aPick_true, aPick_false, sxCallVB_fn, sxCallVB_yield, sxGuardB_u, sxGuardB_tt, sxGuardB_tf, sxGuardB_ft, sxGuardB_ff, sxIfB_t, sxIfB_f, packRes_one, packRes_two, List.map_cons, List.map_nil, List.nil_append, List.cons_append, List.append_nil, ↓reduceIte, Nat.reduceEqDiff, Nat.reduceLT, dec_T, dec_F, false_imp, true_and, and_true, true_implies, implies_true, false_and, and_false, true_or, or_true, false_or, or_false, and_self, or_self, read_relow, size_relow, low_relow, relow_relow, aLoad_relow, Nat.add_zero, Nat.mul_one, one1, Option.bind_some, ne_eq, Int.natCast_nonneg, Int.toNat_natCast, not_true_eq_false, not_false_eq_true, Option.map_some, Option.map_none, *, lenN])
    all_goals exact hK3.trans hK
end Go.Proofs.YtmllfacipbpkfaaDoor
