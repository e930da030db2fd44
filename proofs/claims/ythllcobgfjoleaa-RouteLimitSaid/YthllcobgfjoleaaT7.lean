/- The reference's Then; are points the same? -/
import Derived.Test.YthllcobgfjoleaaT6
import Derived.Test.YthllcobgfjoleaaGj
set_option linter.unusedVariables false
set_option linter.unusedSimpArgs false
set_option linter.unusedSectionVars false

namespace Go.Proofs.Ythllcobgfjoleaa
set_option linter.unusedSectionVars false
open Go Go.AM
set_option maxRecDepth 10000
set_option linter.unusedSimpArgs false
set_option linter.unusedVariables false

/-- What is kept of the points from a number on. -/
structure KeptFrom (A B : List Pt) (wait : Int) (k : Nat) (q : List Pt) : Prop where
  asc : AscP q
  mem : ∀ x ∈ q, ThenP A B wait x.1 x.2 ∧ R2 x ∧ (k < A.length → (A.getD k default).1 ≤ x.1)
  dom : ∀ j, k ≤ j → j < A.length → ∀ i, FirstP B ((A.getD j default).2 + wait) i → i < B.length → ∃ y ∈ q, (A.getD j default).1 ≤ y.1 ∧ y.2 ≤ (B.getD i default).2
  len : q.length + k ≤ A.length
theorem KeptFrom.last (A B : List Pt) (wait : Int) : KeptFrom A B wait A.length [] := ⟨AscP.nil, (fun x hx => by cases hx), (fun j h1 h2 => by omega), by simp⟩
theorem KeptFrom.push {A B : List Pt} {wait : Int} {k : Nat} {q : List Pt} (hA : ProfOk A) (h : KeptFrom A B wait (k + 1) q) (hk : k < A.length) {i : Nat} (hf : FirstP B ((A.getD k default).2 + wait) i) (hi : i < B.length) (hr : R2 ((A.getD k default).1, (B.getD i default).2))
    (hn : ∀ y q', q = y :: q' → (B.getD i default).2 < y.2) : KeptFrom A B wait k (((A.getD k default).1, (B.getD i default).2) :: q) where
  asc := by
    refine List.pairwise_cons.2 ⟨fun x hx => ?_, h.asc⟩
    obtain ⟨_, _, h3⟩ := h.mem x hx
    cases q with
    | nil => cases hx
    | cons y q' =>
      have h1 := hn y q' rfl
      have h2 : y.1 ≤ x.1 ∧ y.2 ≤ x.2 := by
        rcases List.mem_cons.1 hx with e | hx
        · rw [e]; exact ⟨Int.le_refl _, Int.le_refl _⟩
        · have := (List.pairwise_cons.1 h.asc).1 x hx
          exact ⟨by omega, by omega⟩
      obtain ⟨⟨j, hj1, hj2, hj3⟩, _, h5⟩ := h.mem y (List.mem_cons_self ..)
      refine ⟨?_, by show _ < x.2; omega⟩
      show (A.getD k default).1 < x.1
      have hlen := h.len
      have h6 : k + 1 < A.length := by simp at hlen; omega
      have := h5 h6
      have := (hA.2.lt (show k < k + 1 by omega) h6).1
      omega
  mem := fun x hx => by
    rcases List.mem_cons.1 hx with e | hx
    · rw [e]; exact ⟨⟨k, hk, rfl, i, hf, hi, rfl⟩, hr, fun _ => Int.le_refl _⟩
    · obtain ⟨h1, h2, h3⟩ := h.mem x hx
      refine ⟨h1, h2, fun _ => ?_⟩
      have hlen := h.len
      have : 0 < q.length := List.length_pos_of_mem hx
      have h6 : k + 1 < A.length := by omega
      have := h3 h6
      have := (hA.2.lt (show k < k + 1 by omega) h6).1
      omega
  dom := fun j h1 h2 i' hf' hi' => by
    rcases Nat.lt_or_ge k j with h3 | h3
    · obtain ⟨y, hy, h4⟩ := h.dom j h3 h2 i' hf' hi'
      exact ⟨y, List.mem_cons_of_mem _ hy, h4⟩
    · obtain rfl : j = k := by omega
      obtain rfl := hf.eq hf'
      exact ⟨_, List.mem_cons_self .., Int.le_refl _, Int.le_refl _⟩
  len := by have := h.len; rw [List.length_cons]; omega
theorem KeptFrom.skip {A B : List Pt} {wait : Int} {k : Nat} {q : List Pt} (hA : ProfOk A) (h : KeptFrom A B wait (k + 1) q) (hk : k < A.length)
    (hn : ∀ i, FirstP B ((A.getD k default).2 + wait) i → i < B.length → ∃ y q', q = y :: q' ∧ y.2 ≤ (B.getD i default).2) : KeptFrom A B wait k q where
  asc := h.asc
  mem := fun x hx => by
    obtain ⟨h1, h2, h3⟩ := h.mem x hx
    refine ⟨h1, h2, fun _ => ?_⟩
    have hlen := h.len
    have : 0 < q.length := List.length_pos_of_mem hx
    have h6 : k + 1 < A.length := by omega
    have := h3 h6
    have := (hA.2.lt (show k < k + 1 by omega) h6).1
    omega
  dom := fun j h1 h2 i' hf' hi' => by
    rcases Nat.lt_or_ge k j with h3 | h3
    · exact h.dom j h3 h2 i' hf' hi'
    · obtain rfl : j = k := by omega
      obtain ⟨y, q', rfl, h4⟩ := hn i' hf' hi'
      refine ⟨y, List.mem_cons_self .., ?_, h4⟩
      have hlen := h.len
      have h6 : j + 1 < A.length := by simp at hlen; omega
      have := (h.mem y (List.mem_cons_self ..)).2.2 h6
      have := (hA.2.lt (show j < j + 1 by omega) h6).1
      omega
  len := by have := h.len; omega
theorem KeptFrom.best {A B : List Pt} {wait : Int} {q : List Pt} (h : KeptFrom A B wait 0 q) : BestOf (ThenP A B wait) q where
  mem := fun x hx => (h.mem x hx).1
  asc := h.asc
  dom := fun d a ⟨k, h1, h2, i, h3, h4, h5⟩ => by rw [h2, h5]; exact h.dom k (Nat.zero_le _) h1 i h3 h4
theorem getD_rev {q : List Pt} {k : Nat} (h : k < q.length) : q.reverse.getD k default = q.getD (q.length - 1 - k) default := by
  rw [List.getD_eq_getElem?_getD, List.getD_eq_getElem?_getD, List.getElem?_reverse h]

variable {S : AM.Sys} (hS : Only S 11)
include hS

set_option maxHeartbeats 4000000 in
theorem rThen_runs (A B : List Pt) (v v2 : Value) (r o r2 o2 : Nat) (wait : Int) (H : Heap) (hL : H.low ≤ H.size) (hg : Grp H) (hA : SlP H v A r o) (hB : SlP H v2 B r2 o2) :
    ∃ u H', Runs Try.prog S (.fn 26) [v, v2, .int .i64 wait] H u H' ∧ PostThen H A B wait u H' := by
  suffices h : WCall Try.prog S (.fn 26) [v, v2, .int .i64 wait] H (fun u H' => PostThen H A B wait u H') by
    obtain ⟨u, H', hr, h⟩ := h; exact ⟨u, H', hr, h⟩
  obtain ⟨b1, H1, hK1, hb1, hR1⟩ := rPoints_runs hS A v r o H hL hA
  obtain ⟨b2, H2, hK2, hb2, hR2⟩ := rPoints_runs hS B v2 r2 o2 H1 (hK1.low hL) (hB.keep hK1)
  obtain ⟨a, c, rfl⟩ := hA.v0
  obtain ⟨a2, c2, rfl⟩ := hB.v0
  have hK12 := hK1.trans hK2
  have f1 := hR1.bx
  have f2 := hR2.bx
  have hbad : ∀ H5, Keep H H5 → ¬ GoodT A B wait → PostThen H A B wait (.tuple ⟨[.slice none 0 0, .int .i64 2]⟩) H5 := fun H5 hk hn => ⟨_, 2, [], rfl, PtsIn.nil hk hg, fun _ => ⟨rfl, rfl⟩, fun h => absurd h hn⟩
  refine call_of Try.func26 rfl (Nat.le_of_ble_eq_true rfl) (hS.no rfl _ _) ?_
  rw [Try.ntmps26, Try.results26]
  cases b1 with
  | false =>
    have hp := hbad H1 hK1 (fun h => by have := hb1.2 h.1; cases this)
    clear hbad hA hB hR1 hR2 hb1 hb2 hK1 hK2 hK12 f2
    repeat' (first | (with_reducible refine sxGuardB_tsp (fun h => ?_) (fun h => ?_)) | (with_reducible refine sxGuardB_fsp (fun h => ?_) (fun h => ?_)) | (with_reducible refine sxIfB_sp (fun h => ?_) (fun h => ?_)) | simp only [↓sxC_skip, ↓sxC_region, ↓sxC_seq, ↓bxC_cond, ↓bxC_loop, ↓sxC_block, ↓sxC_ret, ↓sxOps_nil, ↓sxOps_cons, ↓sxStep_none, ↓bxStep_some, ↓bxOp_move, ↓bxOp_assign, ↓bxOp_pick, ↓bxOp_bin, ↓bxOp_un, ↓bxOp_value, ↓bxOp_len, ↓bxPut, ↓seqQ_normal, ↓seqQ_ret, ↓resQ_ret, ↓sxRes_nil, ↓sxRes_tmp, ↓upd_apply, ↓ev_tmp, ↓ev_const, ↓ev_func, ↓dstAt, ↓gval_some, sxOptB_some, una_nf, aPick_true, sxCallVB_fn, sxGuardB_ft, sxIfB_t, packRes_two, List.map_cons, List.map_nil, List.nil_append, List.append_nil, ↓reduceIte, Nat.reduceEqDiff, Nat.reduceLT, *, argF, List.getD_cons_zero, packRes_two] | (with_reducible refine sxDL_barE (by assumption) (by decide +kernel) ?_) | (with_reducible refine sxDL_bar (by decide +kernel) ?_) | (with_reducible refine sxD_bar (by decide +kernel) ?_) | (with_reducible refine sxDL_callD ?_))
  | true =>
  have hpA := hb1.1 rfl
  cases b2 with
  | false =>
    have hp := hbad H2 hK12 (fun h => by have := hb2.2 h.2.1; cases this)
    clear hbad hA hB hR1 hR2 hb1 hb2 hK1 hK2 hK12
    repeat' (first | (with_reducible refine sxGuardB_tsp (fun h => ?_) (fun h => ?_)) | (with_reducible refine sxGuardB_fsp (fun h => ?_) (fun h => ?_)) | (with_reducible refine sxIfB_sp (fun h => ?_) (fun h => ?_)) | simp only [↓sxC_skip, ↓sxC_region, ↓sxC_seq, ↓bxC_cond, ↓bxC_loop, ↓sxC_block, ↓sxC_ret, ↓sxOps_nil, ↓sxOps_cons, ↓sxStep_none, ↓bxStep_some, ↓bxOp_move, ↓bxOp_assign, ↓bxOp_pick, ↓bxOp_bin, ↓bxOp_un, ↓bxOp_value, ↓bxOp_len, ↓bxPut, ↓seqQ_normal, ↓seqQ_ret, ↓resQ_ret, ↓sxRes_nil, ↓sxRes_tmp, ↓upd_apply, ↓ev_tmp, ↓ev_const, ↓ev_func, ↓dstAt, ↓gval_some, sxOptB_some, una_nt, una_nf, aPick_true, aPick_false, sxCallVB_fn, sxGuardB_ft, sxGuardB_ff, sxIfB_t, packRes_two, List.map_cons, List.map_nil, List.nil_append, List.append_nil, ↓reduceIte, Nat.reduceEqDiff, Nat.reduceLT, *, argF, List.getD_cons_zero, List.getD_cons_succ, packRes_two] | (with_reducible refine sxDL_barE (by assumption) (by decide +kernel) ?_) | (with_reducible refine sxDL_bar (by decide +kernel) ?_) | (with_reducible refine sxD_bar (by decide +kernel) ?_) | (with_reducible refine sxDL_callD ?_))
  | true =>
  have hpB := hb2.1 rfl
  by_cases hz0 : wait < 0
  · have hp := hbad H2 hK12 (fun h => by have := h.2.2; omega)
    clear hbad hA hB hR1 hR2 hb1 hb2 hK1 hK2 hK12
    repeat' (first | (with_reducible refine sxGuardB_tsp (fun h => ?_) (fun h => ?_)) | (with_reducible refine sxGuardB_fsp (fun h => ?_) (fun h => ?_)) | (with_reducible refine sxIfB_sp (fun h => ?_) (fun h => ?_)) | simp only [↓sxC_skip, ↓sxC_region, ↓sxC_seq, ↓bxC_cond, ↓bxC_loop, ↓sxC_block, ↓sxC_ret, ↓sxOps_nil, ↓sxOps_cons, ↓sxStep_none, ↓bxStep_some, ↓bxOp_move, ↓bxOp_assign, ↓bxOp_pick, ↓bxOp_bin, ↓bxOp_un, ↓bxOp_value, ↓bxOp_len, ↓bxPut, ↓seqQ_normal, ↓seqQ_ret, ↓resQ_ret, ↓sxRes_nil, ↓sxRes_tmp, ↓upd_apply, ↓ev_tmp, ↓ev_const, ↓ev_func, ↓dstAt, ↓gval_some, sxOptB_some, binP_int, intBin, una_nt, aPick_true, aPick_false, sxCallVB_fn, sxGuardB_ft, sxGuardB_ff, sxIfB_t, packRes_two, List.map_cons, List.map_nil, List.nil_append, List.append_nil, ↓reduceIte, Nat.reduceEqDiff, Nat.reduceLT, dec_T, *, argF, List.getD_cons_zero, List.getD_cons_succ, packRes_two] | (with_reducible refine sxDL_barE (by assumption) (by decide +kernel) ?_) | (with_reducible refine sxDL_bar (by decide +kernel) ?_) | (with_reducible refine sxD_bar (by decide +kernel) ?_) | (with_reducible refine sxDL_callD ?_))
  by_cases hz1 : 100 < wait
  · have hp := hbad H2 hK12 (fun h => by have := h.2.2; omega)
    clear hbad hA hB hR1 hR2 hb1 hb2 hK1 hK2 hK12
    repeat' (first | (with_reducible refine sxGuardB_tsp (fun h => ?_) (fun h => ?_)) | (with_reducible refine sxGuardB_fsp (fun h => ?_) (fun h => ?_)) | (with_reducible refine sxIfB_sp (fun h => ?_) (fun h => ?_)) | simp only [↓sxC_skip, ↓sxC_region, ↓sxC_seq, ↓bxC_cond, ↓bxC_loop, ↓sxC_block, ↓sxC_ret, ↓sxOps_nil, ↓sxOps_cons, ↓sxStep_none, ↓bxStep_some, ↓bxOp_move, ↓bxOp_assign, ↓bxOp_pick, ↓bxOp_bin, ↓bxOp_un, ↓bxOp_value, ↓bxOp_len, ↓bxPut, ↓seqQ_normal, ↓seqQ_ret, ↓resQ_ret, ↓sxRes_nil, ↓sxRes_tmp, ↓upd_apply, ↓ev_tmp, ↓ev_const, ↓ev_func, ↓dstAt, ↓gval_some, sxOptB_some, binP_int, intBin, una_nt, aPick_false, sxCallVB_fn, sxGuardB_ff, sxIfB_t, packRes_two, List.map_cons, List.map_nil, List.nil_append, List.append_nil, ↓reduceIte, Nat.reduceEqDiff, Nat.reduceLT, dec_T, dec_F, *, argF, List.getD_cons_zero, List.getD_cons_succ, packRes_two] | (with_reducible refine sxDL_barE (by assumption) (by decide +kernel) ?_) | (with_reducible refine sxDL_bar (by decide +kernel) ?_) | (with_reducible refine sxD_bar (by decide +kernel) ?_) | (with_reducible refine sxDL_callD ?_))
  have hL2 := hK12.low hL
  have hg2 := hK12.grp hg
  have hmA : A.length ≤ 1000 := hpA.1
  have hmB : B.length ≤ 1000 := hpB.1
  have hwn : IntKind.i64.wrap ((A.length : Int) - 1) = (A.length : Int) - 1 := IntWalk.i64_in _ (by omega)
  clear hbad hb1 hb2 hR1 hR2
  repeat' (first | (with_reducible refine sxGuardB_tsp (fun h => ?_) (fun h => ?_)) | (with_reducible refine sxGuardB_fsp (fun h => ?_) (fun h => ?_)) | (with_reducible refine sxIfB_sp (fun h => ?_) (fun h => ?_)) | simp only [↓sxC_skip, ↓sxC_region, ↓sxC_seq, ↓bxC_cond, ↓bxC_loop, ↓sxC_block, ↓sxC_ret, ↓sxOps_nil, ↓sxOps_cons, ↓sxStep_none, ↓bxStep_some, ↓bxOp_move, ↓bxOp_assign, ↓bxOp_pick, ↓bxOp_bin, ↓bxOp_un, ↓bxOp_value, ↓bxOp_len, ↓bxPut, ↓seqQ_normal, ↓seqQ_ret, ↓resQ_ret, ↓sxRes_nil, ↓sxRes_tmp, ↓upd_apply, ↓ev_tmp, ↓ev_const, ↓ev_func, ↓dstAt, ↓gval_some, sxOptB_some, binP_int, intBin, una_nt, aPick_false, sxCallVB_fn, sxGuardB_ff, sxIfB_f, packRes_two, List.map_cons, List.map_nil, List.nil_append, List.append_nil, ↓reduceIte, Nat.reduceEqDiff, Nat.reduceLT, dec_F, *, argF, List.getD_cons_zero, List.getD_cons_succ, lenS] | (with_reducible refine sxDL_barE (by assumption) (by decide +kernel) ?_) | (with_reducible refine sxDL_bar (by decide +kernel) ?_) | (with_reducible refine sxD_bar (by decide +kernel) ?_) | (with_reducible refine sxDL_callD ?_))
  clear f1 f2
  refine sxL_cut 0 (fun ρ H5 => ∃ (lv : Value) (q : List Pt), Keep H2 H5 ∧ Grp H5 ∧ LstG stE 40 H2.size H5 lv q.reverse ∧ KeptFrom A B wait 0 q ∧ ρ 8 = lv)
    (fun m ρ H5 => ∃ (k : Nat) (lv : Value) (q : List Pt), m = k ∧ k ≤ A.length ∧ Keep H2 H5 ∧ Grp H5 ∧ LstG stE 40 H2.size H5 lv q.reverse ∧ KeptFrom A B wait k q ∧
      ρ 0 = .slice a A.length c ∧ ρ 1 = .slice a2 B.length c2 ∧ ρ 2 = .int .i64 wait ∧ ρ 8 = lv ∧ ρ 9 = .int .i64 ((k : Int) - 1))
    ⟨A.length, .slice none 0 0, [], rfl, Nat.le_refl _, Keep.refl _, hg2, LstG.nil, KeptFrom.last A B wait, rfl, rfl, rfl, rfl, rfl⟩ ?_ ?_
  · rintro k ρ H5 ⟨_, lv, q, rfl, hk, hK5, hg5, hlst, hkf, e0, e1, e2, e8, e9⟩
    have hK05 := hK12.trans hK5
    have hL5 := hK05.low hL
    cases k with
    | zero =>
      have hn : ¬ (0 : Int) ≤ ((0 : Nat) : Int) - 1 := by omega
      clear hA hB hK05
      repeat' (first | (with_reducible refine sxGuardB_tsp (fun h => ?_) (fun h => ?_)) | (with_reducible refine sxGuardB_fsp (fun h => ?_) (fun h => ?_)) | (with_reducible refine sxIfB_sp (fun h => ?_) (fun h => ?_)) | simp only [↓sxC_skip, ↓sxC_draw, ↓sxC_region, ↓sxC_seq, ↓bxC_cond, ↓sxC_block, ↓sxC_exit, ↓sxOps_nil, ↓sxOps_cons, ↓sxDraw_nil, ↓bxDraw_cons, ↓sxDL_move, ↓sxDL_assign, ↓sxDL_pick, ↓sxDL_build, ↓sxDL_buildSlice, ↓sxDL_load, ↓sxDL_binOp, ↓sxDL_fieldAddr, ↓sxDL_indexAddr, ↓sxStep_none, ↓bxStep_some, ↓bxOp_move, ↓bxOp_assign, ↓bxOp_pick, ↓bxOp_build, ↓bxOp_buildSlice, ↓bxOp_load, ↓bxOp_bin, ↓bxOp_fieldAddr, ↓bxOp_indexAddr, ↓bxOp_value, ↓bxOp_len, ↓bxOp_append, ↓bxPut, ↓seqQ_normal, ↓seqQ_exit, ↓blockQ_normal, ↓blockQ_exit, ↓loopQ_normal, ↓loopQ_exit, ↓upd_apply, ↓ev_tmp, ↓ev_const, ↓ev_func, ↓dstAt, ↓gval_some, cutQ_exit, sxOptB_some, binP_int, intBin, sxCallVB_fn, sxIfB_f, List.nil_append, ↓reduceIte, Nat.reduceEqDiff, Nat.reduceLT, dec_F, true_and, *] | (with_reducible refine sxDL_barE (by assumption) (by decide +kernel) ?_) | (with_reducible refine sxDL_bar (by decide +kernel) ?_) | (with_reducible refine sxD_bar (by decide +kernel) ?_) | (with_reducible refine sxDL_callD ?_))
      exact ⟨lv, q, hlst, hkf, rfl⟩
    | succ k =>
      have hkl : k < A.length := by omega
      have hn : (0 : Int) ≤ ((k + 1 : Nat) : Int) - 1 := by omega
      have hwk : ((k + 1 : Nat) : Int) - 1 = (k : Int) := by omega
      have hwk2 : IntKind.i64.wrap ((k : Int) - 1) = (k : Int) - 1 := IntWalk.i64_in _ (by omega)
      rw [hwk] at e9 hn
      have hob := SlP_at (hA.keep hK05) hkl
      obtain ⟨q0, hix, _, g0, g1, r1, _⟩ := hob
      have hpa := hpA.2 k hkl
      have hgx : ∃ x, x = A.getD k default := ⟨_, rfl⟩
      obtain ⟨x, hx⟩ := hgx
      have hpx : 0 ≤ x.1 ∧ x.1 < x.2 ∧ x.2 ≤ 20000 := by rw [hx]; exact hpa.1
      have hpush := fun i => @KeptFrom.push A B wait k q hpA hkf hkl i
      have hskip := KeptFrom.skip hpA hkf hkl
      rw [← hx] at g0 g1 r1 hpush hskip
      have hww : IntKind.i64.wrap (x.2 + wait) = x.2 + wait := IntWalk.i64_in _ (by omega)
      have hlo := rlook_runs hS B _ r2 o2 (x.2 + wait) H5 (hB.keep hK05)
      obtain ⟨i, hfp, hR7⟩ := hlo
      have f7 := hR7.bx
      by_cases hi : i < B.length
      · rw [if_pos hi] at f7
        have hni : (0 : Int) ≤ (i : Int) := by omega
        have hobB := SlP_at (hB.keep hK05) hi
        obtain ⟨qB, hixB, _, _, b1, _, rB⟩ := hobB
        have hpush := hpush i hfp hi
        have hgy : ∃ y, y = (B.getD i default).2 := ⟨_, rfl⟩
        obtain ⟨y, hy⟩ := hgy
        rw [← hy] at b1 rB hpush
        have hpush := hpush ⟨r1, rB⟩
        have hskip : (∃ y' q', q = y' :: q' ∧ y'.2 ≤ y) → KeptFrom A B wait k q := fun hh => hskip fun j hj hj2 => by
          obtain rfl := hfp.eq hj
          rw [← hy]; exact hh
        have hlk := hkf.len
        have hpu := hlst.pushD (t := 40) elemOkP (stableS 0) hg5 hL5 hK5.size (x := (x.1, y)) (stE_at r1 rB) rfl (by rw [List.length_reverse]; omega)
        obtain ⟨H6, H7, v8, H8, H9, bs6, fd6, hz7, hL7, ap8, rl8, hl9, hk9, hg9, hge9, hL9⟩ := hpu
        have bs6' : aBuildSlice Try.prog (H5.relow H5.size) 35 1 [(0, .agg ⟨[.int .i64 x.1, .int .i64 y]⟩)] = some (.slice (some ⟨H5.size, 0, none⟩) 1 1, H6) := by rw [← bs6]; exact bs1P (H5.relow H5.size) (x.1, y)
        have bd8 := bdS x.1 y
        have hK29 := hk9 H2 hg2 hK5 (Nat.le_refl _)
        have hq8 : q.reverse ++ [(x.1, y)] = ((x.1, y) :: q).reverse := (List.reverse_cons ..).symm
        rw [hq8] at hl9
        clear hq8 hlk bs6 hz7
        cases q with
        | nil =>
          have hkt' := hpush (fun q m' h => by cases h)
          have hlv : lv = .slice none 0 0 := by
            rcases hlst with ⟨_, h⟩ | ⟨_, _, _, _, _, _, _, _, h, _⟩
            · exact h
            · exact absurd h (Nat.lt_irrefl 0)
          subst hlv
          have c0 : ((0 : Nat) : Int) = 0 := rfl
          have d0 : decide ((0 : Int) = 0) = true := rfl
          clear hpush hskip hlst hkf hA hB hK5 hK05 hk9 hge9 hfp hR7 hx hpa hi hy
          repeat' (first | (with_reducible refine sxGuardB_tsp (fun h => ?_) (fun h => ?_)) | (with_reducible refine sxGuardB_fsp (fun h => ?_) (fun h => ?_)) | (with_reducible refine sxIfB_sp (fun h => ?_) (fun h => ?_)) | simp only [↓sxC_skip, ↓sxC_draw, ↓sxC_region, ↓sxC_seq, ↓bxC_cond, ↓sxC_block, ↓sxC_exit, ↓sxOps_nil, ↓sxOps_cons, ↓sxDraw_nil, ↓bxDraw_cons, ↓sxDL_move, ↓sxDL_assign, ↓sxDL_pick, ↓sxDL_build, ↓sxDL_buildSlice, ↓sxDL_load, ↓sxDL_binOp, ↓sxDL_fieldAddr, ↓sxDL_indexAddr, ↓sxD_same, ↓sxStep_none, ↓bxStep_some, ↓bxOp_move, ↓bxOp_assign, ↓bxOp_pick, ↓bxOp_build, ↓bxOp_buildSlice, ↓bxOp_load, ↓bxOp_bin, ↓bxOp_fieldAddr, ↓bxOp_indexAddr, ↓bxOp_value, ↓bxOp_len, ↓bxOp_append, ↓bxPut, ↓seqQ_normal, ↓seqQ_exit, ↓blockQ_normal, ↓blockQ_exit, ↓loopQ_normal, ↓loopQ_exit, ↓upd_apply, ↓ev_tmp, ↓ev_const, ↓ev_func, ↓dstAt, ↓gval_some, cutQ_exit, sxOptB_some, binP_int, intBin, aPick_true, sxCallVB_fn, sxGuardB_tt, sxGuardB_ft, sxIfB_t, List.map_cons, List.map_nil, List.nil_append, List.append_nil, ↓reduceIte, Nat.reduceEqDiff, Nat.reduceLT, dec_T, true_and, aLoad_relow, Nat.add_zero, one1, Option.bind_some, *, lenS, ldC, one1, faS0, faS1] | (with_reducible refine sxDL_barE (by assumption) (by decide +kernel) ?_) | (with_reducible refine sxDL_bar (by decide +kernel) ?_) | (with_reducible refine sxD_bar (by decide +kernel) ?_) | (with_reducible refine sxDL_callD ?_))
          exact ⟨_, Nat.lt_succ_self k, k, _, _, rfl, by omega, hl9, hkt', rfl, rfl⟩
        | cons z q =>
          have hlv : ∃ a2, lv = .slice a2 (z :: q).reverse.length (z :: q).reverse.length := hlst.isv
          obtain ⟨a3, hlv⟩ := hlv
          have hln : (z :: q).reverse.length = q.length + 1 := by simp
          have hyl : (z :: q).reverse.getD q.length default = z := by
            rw [List.reverse_cons, List.getD_eq_getElem?_getD, List.getElem?_append_right (by simp)]
            simp
          have hqn : q.length + 1 ≤ 1000 := by have := hkf.len; rw [List.length_cons] at this; omega
          have hmx : Go.maxLen = 9223372036854775807 := rfl
          have hs6 := hlst.sl (by omega)
          obtain ⟨r6, hs6, _⟩ := hs6
          rw [hlv] at hs6
          have hob2 := SlP_at hs6 (show q.length < (z :: q).reverse.length by omega)
          obtain ⟨q2, hix2, _, _, p1, _, _⟩ := hob2
          rw [hyl] at p1
          rw [hln] at hix2 hlv
          have d0 : decide (((q.length + 1 : Nat) : Int) = 0) = false := decide_eq_false (by omega)
          have hw1 : IntKind.i64.wrap (((q.length + 1 : Nat) : Int) - 1) = (q.length : Int) := by rw [IntWalk.i64_in _ (by omega)]; omega
          subst hlv
          by_cases c1 : y < z.2
          · have hkt' := hpush (fun q' m' h => by cases h; exact c1)
            clear hpush hskip hlst hkf hA hB hK5 hK05 hk9 hge9 hfp hR7 hx hpa hi hs6 hyl hln hqn hmx hy
            repeat' (first | (with_reducible refine sxGuardB_tsp (fun h => ?_) (fun h => ?_)) | (with_reducible refine sxGuardB_fsp (fun h => ?_) (fun h => ?_)) | (with_reducible refine sxIfB_sp (fun h => ?_) (fun h => ?_)) | simp only [↓sxC_skip, ↓sxC_draw, ↓sxC_region, ↓sxC_seq, ↓bxC_cond, ↓sxC_block, ↓sxC_exit, ↓sxOps_nil, ↓sxOps_cons, ↓sxDraw_nil, ↓bxDraw_cons, ↓sxDL_move, ↓sxDL_assign, ↓sxDL_pick, ↓sxDL_build, ↓sxDL_buildSlice, ↓sxDL_load, ↓sxDL_binOp, ↓sxDL_fieldAddr, ↓sxDL_indexAddr, ↓sxD_same, ↓sxStep_none, ↓bxStep_some, ↓bxOp_move, ↓bxOp_assign, ↓bxOp_pick, ↓bxOp_build, ↓bxOp_buildSlice, ↓bxOp_load, ↓bxOp_bin, ↓bxOp_fieldAddr, ↓bxOp_indexAddr, ↓bxOp_value, ↓bxOp_len, ↓bxOp_append, ↓bxPut, ↓seqQ_normal, ↓seqQ_exit, ↓blockQ_normal, ↓blockQ_exit, ↓loopQ_normal, ↓loopQ_exit, ↓upd_apply, ↓ev_tmp, ↓ev_const, ↓ev_func, ↓dstAt, ↓gval_some, cutQ_exit, sxOptB_some, binP_int, intBin, aPick_true, aPick_false, sxCallVB_fn, sxGuardB_tt, sxGuardB_ff, sxIfB_t, List.map_cons, List.map_nil, List.nil_append, List.append_nil, ↓reduceIte, Nat.reduceEqDiff, Nat.reduceLT, dec_T, true_and, aLoad_relow, Nat.add_zero, one1, Option.bind_some, *, lenS, ldC, one1, faS0, faS1] | (with_reducible refine sxDL_barE (by assumption) (by decide +kernel) ?_) | (with_reducible refine sxDL_bar (by decide +kernel) ?_) | (with_reducible refine sxD_bar (by decide +kernel) ?_) | (with_reducible refine sxDL_callD ?_))
            exact ⟨_, Nat.lt_succ_self k, k, _, _, rfl, by omega, hl9, hkt', rfl, rfl⟩
          · have hkt' := hskip ⟨z, q, rfl, by omega⟩
            clear hpush hskip hkf hA hB hK05 hk9 hge9 hfp hR7 hx hpa hi hs6 hyl hln hqn hmx hy hl9 hK29 hg9
            repeat' (first | (with_reducible refine sxGuardB_tsp (fun h => ?_) (fun h => ?_)) | (with_reducible refine sxGuardB_fsp (fun h => ?_) (fun h => ?_)) | (with_reducible refine sxIfB_sp (fun h => ?_) (fun h => ?_)) | simp only [↓sxC_skip, ↓sxC_draw, ↓sxC_region, ↓sxC_seq, ↓bxC_cond, ↓sxC_block, ↓sxC_exit, ↓sxOps_nil, ↓sxOps_cons, ↓sxDraw_nil, ↓bxDraw_cons, ↓sxDL_move, ↓sxDL_assign, ↓sxDL_pick, ↓sxDL_build, ↓sxDL_buildSlice, ↓sxDL_load, ↓sxDL_binOp, ↓sxDL_fieldAddr, ↓sxDL_indexAddr, ↓sxD_same, ↓sxStep_none, ↓bxStep_some, ↓bxOp_move, ↓bxOp_assign, ↓bxOp_pick, ↓bxOp_build, ↓bxOp_buildSlice, ↓bxOp_load, ↓bxOp_bin, ↓bxOp_fieldAddr, ↓bxOp_indexAddr, ↓bxOp_value, ↓bxOp_len, ↓bxOp_append, ↓bxPut, ↓seqQ_normal, ↓seqQ_exit, ↓blockQ_normal, ↓blockQ_exit, ↓loopQ_normal, ↓loopQ_exit, ↓upd_apply, ↓ev_tmp, ↓ev_const, ↓ev_func, ↓dstAt, ↓gval_some, cutQ_exit, sxOptB_some, binP_int, intBin, aPick_true, aPick_false, sxCallVB_fn, sxGuardB_tt, sxGuardB_ff, sxIfB_t, sxIfB_f, List.map_cons, List.map_nil, List.nil_append, List.append_nil, ↓reduceIte, Nat.reduceEqDiff, Nat.reduceLT, dec_T, dec_F, true_and, aLoad_relow, one1, Option.bind_some, *, lenS, ldC, one1, faS1] | (with_reducible refine sxDL_barE (by assumption) (by decide +kernel) ?_) | (with_reducible refine sxDL_bar (by decide +kernel) ?_) | (with_reducible refine sxD_bar (by decide +kernel) ?_) | (with_reducible refine sxDL_callD ?_))
            exact ⟨_, Nat.lt_succ_self k, k, _, _, rfl, by omega, hlst, hkt', rfl, rfl⟩
      · rw [if_neg hi] at f7
        have hni : ¬ (0 : Int) ≤ -1 := by omega
        have hkt' := hskip fun j hj hj2 => by
          obtain rfl := hfp.eq hj
          exact absurd hj2 hi
        clear hpush hskip hkf hA hB hK05 hfp hR7 hx hpa hi
        repeat' (first | (with_reducible refine sxGuardB_tsp (fun h => ?_) (fun h => ?_)) | (with_reducible refine sxGuardB_fsp (fun h => ?_) (fun h => ?_)) | (with_reducible refine sxIfB_sp (fun h => ?_) (fun h => ?_)) | simp only [↓sxC_skip, ↓sxC_draw, ↓sxC_region, ↓sxC_seq, ↓bxC_cond, ↓sxC_block, ↓sxC_exit, ↓sxOps_nil, ↓sxOps_cons, ↓sxDraw_nil, ↓bxDraw_cons, ↓sxDL_move, ↓sxDL_assign, ↓sxDL_pick, ↓sxDL_build, ↓sxDL_buildSlice, ↓sxDL_load, ↓sxDL_binOp, ↓sxDL_fieldAddr, ↓sxDL_indexAddr, ↓sxD_same, ↓sxStep_none, ↓bxStep_some, ↓bxOp_move, ↓bxOp_assign, ↓bxOp_pick, ↓bxOp_build, ↓bxOp_buildSlice, ↓bxOp_load, ↓bxOp_bin, ↓bxOp_fieldAddr, ↓bxOp_indexAddr, ↓bxOp_value, ↓bxOp_len, ↓bxOp_append, ↓bxPut, ↓seqQ_normal, ↓seqQ_exit, ↓blockQ_normal, ↓blockQ_exit, ↓loopQ_normal, ↓loopQ_exit, ↓upd_apply, ↓ev_tmp, ↓ev_const, ↓ev_func, ↓dstAt, ↓gval_some, cutQ_exit, sxOptB_some, binP_int, intBin, aPick_false, sxCallVB_fn, sxGuardB_u, sxGuardB_tf, sxIfB_t, sxIfB_f, List.map_cons, List.map_nil, List.nil_append, List.append_nil, ↓reduceIte, Nat.reduceEqDiff, Nat.reduceLT, dec_T, dec_F, true_and, one1, Option.bind_some, *, ldC, one1, faS1] | (with_reducible refine sxDL_barE (by assumption) (by decide +kernel) ?_) | (with_reducible refine sxDL_bar (by decide +kernel) ?_) | (with_reducible refine sxD_bar (by decide +kernel) ?_) | (with_reducible refine sxDL_callD ?_))
        exact ⟨_, Nat.lt_succ_self k, k, _, _, rfl, by omega, hlst, hkt', rfl, rfl⟩
  clear hA hB
  rintro ρ H5 ⟨lv, q, hK5, hg5, hlst, hkf, e8⟩
  have hln : q.reverse.length = q.length := List.length_reverse
  have hqn : q.length ≤ 1000 := by have := hkf.len; omega
  have hmx : Go.maxLen = 9223372036854775807 := rfl
  have hs5 := hlst.sl (by omega)
  obtain ⟨r5, hs5, _⟩ := hs5
  have hlv := hlst.isv
  obtain ⟨a3, hlv⟩ := hlv
  rw [hlv] at hs5
  rw [hln] at hlv
  subst hlv
  have hK05 := hK12.trans hK5
  have hwn : IntKind.i64.wrap ((q.length : Int) - 1) = (q.length : Int) - 1 := IntWalk.i64_in _ (by omega)
  have hgood := fun (hn : ¬ GoodT A B wait) => hn ⟨hpA, hpB, by omega, by omega⟩
  have hbest := hkf.best
  clear hlst hkf hmx
  repeat' (first | (with_reducible refine sxGuardB_tsp (fun h => ?_) (fun h => ?_)) | (with_reducible refine sxGuardB_fsp (fun h => ?_) (fun h => ?_)) | (with_reducible refine sxIfB_sp (fun h => ?_) (fun h => ?_)) | simp only [↓bxPut, ↓seqQ_normal, ↓blockQ_exit, ↓upd_apply, sxOptB_some, binP_int, intBin, ↓reduceIte, Nat.reduceEqDiff, Nat.reduceLT, *, lenS] | (with_reducible refine sxDL_barE (by assumption) (by decide +kernel) ?_) | (with_reducible refine sxDL_bar (by decide +kernel) ?_) | (with_reducible refine sxD_bar (by decide +kernel) ?_) | (with_reducible refine sxDL_callD ?_))
  refine sxL_of (fun m ρ H6 => ∃ (k : Nat) (ov : Value), m = k ∧ k ≤ q.length ∧ Keep H5 H6 ∧ Grp H6 ∧ LstG stE 40 H5.size H6 ov (q.take (q.length - k)) ∧
      ρ 8 = .slice a3 q.length q.length ∧ ρ 11 = ov ∧ ρ 12 = .int .i64 ((k : Int) - 1))
    ⟨q.length, .slice none 0 0, rfl, Nat.le_refl _, Keep.refl _, hg5, by rw [Nat.sub_self]; exact LstG.nil, e8, rfl, rfl⟩ ?_
  rintro k ρ H6 ⟨_, ov, rfl, hk, hK6, hg6, hlst, e8, e11, e12⟩
  cases k with
  | zero =>
    have hn : ¬ (0 : Int) ≤ ((0 : Nat) : Int) - 1 := by omega
    rw [Nat.sub_zero, List.take_length] at hlst
    have hp : PostThen H A B wait (.tuple ⟨[ov, .int .i64 0]⟩) H6 := ⟨ov, 0, q, rfl, PtsIn.lst hlst (hK05.trans hK6) hg hK05.size (by omega), fun hn => (hgood hn).elim, fun _ => ⟨rfl, hbest⟩⟩
    clear hlst hgood hbest
    repeat' (first | (with_reducible refine sxGuardB_tsp (fun h => ?_) (fun h => ?_)) | (with_reducible refine sxGuardB_fsp (fun h => ?_) (fun h => ?_)) | (with_reducible refine sxIfB_sp (fun h => ?_) (fun h => ?_)) | simp only [↓sxC_skip, ↓sxC_region, ↓sxC_seq, ↓bxC_cond, ↓sxC_block, ↓sxC_exit, ↓sxOps_nil, ↓sxOps_cons, ↓sxStep_none, ↓bxOp_move, ↓bxOp_assign, ↓bxOp_buildSlice, ↓bxOp_load, ↓bxOp_bin, ↓bxOp_indexAddr, ↓bxOp_append, ↓bxPut, ↓seqQ_normal, ↓seqQ_exit, ↓blockQ_normal, ↓blockQ_exit, ↓loopQ_normal, ↓loopQ_exit, ↓upd_apply, ↓ev_tmp, ↓ev_const, sxOptB_some, binP_int, intBin, sxIfB_f, ↓reduceIte, Nat.reduceEqDiff, Nat.reduceLT, dec_F, *] | (with_reducible refine sxDL_barE (by assumption) (by decide +kernel) ?_) | (with_reducible refine sxDL_bar (by decide +kernel) ?_) | (with_reducible refine sxD_bar (by decide +kernel) ?_) | (with_reducible refine sxDL_callD ?_))
  | succ k =>
    have hkl : k < q.length := by omega
    have hn : (0 : Int) ≤ ((k + 1 : Nat) : Int) - 1 := by omega
    have hwk : ((k + 1 : Nat) : Int) - 1 = (k : Int) := by omega
    have hwk2 : IntKind.i64.wrap ((k : Int) - 1) = (k : Int) - 1 := IntWalk.i64_in _ (by omega)
    rw [hwk] at e12 hn
    have hob := SlP_at (hs5.keep hK6) (show k < q.reverse.length by omega)
    rw [hln] at hob
    obtain ⟨q0, hix, hrd, _, _, r1, r2⟩ := hob
    rw [getD_rev hkl] at hrd r1 r2
    have htk : q.take (q.length - (k + 1)) ++ [q.getD (q.length - 1 - k) default] = q.take (q.length - k) := by
      rw [show q.length - k = (q.length - (k + 1)) + 1 by omega, List.take_add_one, show q.length - 1 - k = q.length - (k + 1) by omega, List.getD_eq_getElem?_getD, List.getElem?_eq_getElem (by omega)]
      rfl
    have hgx : ∃ x, x = q.getD (q.length - 1 - k) default := ⟨_, rfl⟩
    obtain ⟨x, hx⟩ := hgx
    rw [← hx] at hrd r1 r2 htk
    have hpu := hlst.push (t := 40) elemOkP (stableS 0) hg6 hK6.size (x := x) (stE_at r1 r2) rfl (by rw [List.length_take]; omega)
    obtain ⟨v8, H8, ap8, hl8, gr8⟩ := hpu
    rw [htk] at hl8
    have bs8 := bs1P H6 x
    have hK8 := gr8.base H5 hg5 hK6 (Nat.le_refl _)
    have hg8 := gr8.grp hg6
    unfold pc at hrd bs8 ap8
    have hms : k < k + 1 := by omega
    clear hlst hs5 gr8 hK6 hgood hbest hx htk
    repeat' (first | (with_reducible refine sxGuardB_tsp (fun h => ?_) (fun h => ?_)) | (with_reducible refine sxGuardB_fsp (fun h => ?_) (fun h => ?_)) | (with_reducible refine sxIfB_sp (fun h => ?_) (fun h => ?_)) | simp only [↓sxC_skip, ↓sxC_region, ↓sxC_seq, ↓bxC_cond, ↓sxC_block, ↓sxC_exit, ↓sxOps_nil, ↓sxOps_cons, ↓sxStep_none, ↓bxOp_move, ↓bxOp_assign, ↓bxOp_buildSlice, ↓bxOp_load, ↓bxOp_bin, ↓bxOp_indexAddr, ↓bxOp_append, ↓bxPut, ↓seqQ_normal, ↓seqQ_exit, ↓blockQ_normal, ↓blockQ_exit, ↓loopQ_normal, ↓loopQ_exit, ↓upd_apply, ↓ev_tmp, ↓ev_const, sxOptB_some, binP_int, intBin, sxIfB_t, List.map_cons, List.map_nil, ↓reduceIte, Nat.reduceEqDiff, Nat.reduceLT, dec_T, true_and, Option.map_some, *, ldS] | (with_reducible refine sxDL_barE (by assumption) (by decide +kernel) ?_) | (with_reducible refine sxDL_bar (by decide +kernel) ?_) | (with_reducible refine sxD_bar (by decide +kernel) ?_) | (with_reducible refine sxDL_callD ?_))
    exact ⟨k, hms, k, v8, rfl, by omega, hl8, rfl, rfl⟩
end Go.Proofs.Ythllcobgfjoleaa
