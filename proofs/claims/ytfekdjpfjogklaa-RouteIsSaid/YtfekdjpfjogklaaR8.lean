/- The program's Is. -/
import Derived.Test.YtfekdjpfjogklaaR7
set_option linter.unusedVariables false
set_option linter.unusedSimpArgs false
set_option linter.unusedSectionVars false

namespace Go.Proofs.Ytfekdjpfjogklaa
set_option linter.unusedSectionVars false
open Go Go.AM
set_option maxRecDepth 10000
set_option linter.unusedSimpArgs false
set_option linter.unusedVariables false

theorem bsI (H : Heap) (z : Int) : aBuildSlice Try.prog H 25 1 [(0, .int .i64 z)] = some (.slice (some ⟨H.size, 0, none⟩) 1 1, H.newExact [.int .i64 z] 3) := by kernel_rfl
theorem bdW (fr to at' by' : Int) : aBuild Try.prog 72 [(0, .int .i64 fr), (1, .int .i64 to), (2, .int .i64 at'), (3, .int .i64 by')] = some (.agg ⟨[.int .i64 fr, .int .i64 to, .int .i64 at', .int .i64 by']⟩) := by kernel_rfl
theorem newT (H : Heap) (a : Option Addr) (n c : Nat) (ch : Int) (a2 : Option Addr) (n2 c2 : Nat) : ∃ H2, aStore Try.prog (H.newExact [.slice none 0 0, .int .i64 0, .slice none 0 0] 64) 64 (.pointer (some ⟨H.size, 0, none⟩)) (.agg ⟨[.slice a n c, .int .i64 ch, .slice a2 n2 c2]⟩) = some H2 ∧ Keep H H2 ∧ H2.read H.size 0 3 = some [.slice a n c, .int .i64 ch, .slice a2 n2 c2] := by
  obtain ⟨i, hi, hsz⟩ := infoT
  obtain ⟨H2, h1, h2, h3, h4, h5⟩ := (Own.new H [.slice none 0 0, .int .i64 0, .slice none 0 0] 64).store (t := 64) hi (v := .agg ⟨[.slice a n c, .int .i64 ch, .slice a2 n2 c2]⟩) (new := [.slice a n c, .int .i64 ch, .slice a2 n2 c2]) rfl (by rw [hsz]; rfl) rfl (o := 0) (by show 0 + 3 ≤ 3; decide)
  refine ⟨H2, h1, h5 H (Keep.newExact _ _ _) (Nat.le_refl _), ?_⟩
  have h2 : Own H2 H.size 64 [.slice a n c, .int .i64 ch, .slice a2 n2 c2] := h2
  exact h2.read (o := 0) (n := 3) (by show 0 + 3 ≤ 3; decide)
/-- A slice of one number, as it is made for a call. -/
theorem one_sl (H : Heap) (z : Int) (hz : R64 z) : SlI .i64 (H.newExact [.int .i64 z] 3) (.slice (some ⟨H.size, 0, none⟩) [z].length 1) [z] H.size 0 := by
  exact Own.sl (w := [z]) (Own.new H [.int .i64 z] 3) (fun x hx => by rw [List.mem_singleton.1 hx]; exact hz) (show 1 ≤ Go.maxLen by decide) 1
theorem errC_zero {n : Int} {ls : List Lg} {ch fr to : Int} {ts : List Int} (h : errC n ls ch fr to ts = 0) : ls.length ≤ 60 ∧ (∀ x ∈ ls, LegOk n x) ∧ (0 ≤ ch ∧ ch ≤ 100) ∧ (∀ z ∈ ts, 0 ≤ z ∧ z ≤ 10000) := by
  unfold errC at h
  by_cases h1 : ¬ (1 ≤ n ∧ n ≤ 8)
  · rw [if_pos h1] at h; exact absurd h (by decide)
  rw [if_neg h1] at h
  by_cases h2 : 60 < ls.length
  · rw [if_pos h2] at h; exact absurd h (by decide)
  rw [if_neg h2] at h
  by_cases h3 : ¬ ∀ x ∈ ls, LegOk n x
  · rw [if_pos h3] at h; exact absurd h (by decide)
  rw [if_neg h3] at h
  by_cases h4 : ¬ (0 ≤ ch ∧ ch ≤ 100) ∨ ¬ (0 ≤ fr ∧ fr ≤ n - 1) ∨ ¬ (0 ≤ to ∧ to ≤ n - 1)
  · rw [if_pos h4] at h; exact absurd h (by decide)
  rw [if_neg h4] at h
  by_cases h5 : ¬ ∀ z ∈ ts, 0 ≤ z ∧ z ≤ 10000
  · rw [if_pos h5] at h; exact absurd h (by decide)
  exact ⟨by omega, Classical.not_not.1 h3, Classical.not_not.1 fun hh => h4 (.inl hh), Classical.not_not.1 h5⟩

variable {S : AM.Sys} (hS : Only S 11)
include hS

def PostQ (H : Heap) (e : Int) (J : Bool → Prop) (u : Value) (H' : Heap) : Prop := ∃ b, u = .tuple ⟨[.bool b, .int .i64 e]⟩ ∧ Keep H H' ∧ (e ≠ 0 → b = false) ∧ (e = 0 → J b)

set_option maxHeartbeats 2000000 in
theorem Is_runs (n : Int) (ls : List Lg) (lv : Value) (r o : Nat) (ch fr to at' : Int) (js : List Int) (jv : Value) (r2 o2 : Nat) (H : Heap) (hL : H.low ≤ H.size) (hg : Grp H) (hl : SlG H lv ls r o) (hj : SlI .i64 H jv js r2 o2) (hat : R64 at') (hmj : js.length ≤ 100000) :
    ∃ u H', Runs Try.prog S (.fn 18) [.int .i64 n, lv, .int .i64 ch, .int .i64 fr, .int .i64 to, .int .i64 at', jv] H u H' ∧ PostQ H (errC n ls ch fr to [at']) (IsJ ls ch fr to at' 10000 js) u H' := by
  suffices h : WCall Try.prog S (.fn 18) [.int .i64 n, lv, .int .i64 ch, .int .i64 fr, .int .i64 to, .int .i64 at', jv] H (fun u H' => PostQ H (errC n ls ch fr to [at']) (IsJ ls ch fr to at' 10000 js) u H') by
    obtain ⟨u, H', hr, h⟩ := h; exact ⟨u, H', hr, h⟩
  obtain ⟨a, c, rfl⟩ := hl.v0
  obtain ⟨a2, c2, rfl⟩ := hj.v0
  have k1 := Keep.newExact H [.int .i64 at'] 3
  have s1 := one_sl H at' hat
  have b1 := bsI H at'
  obtain ⟨H1, hH1⟩ : ∃ H1, H1 = H.newExact [.int .i64 at'] 3 := ⟨_, rfl⟩
  rw [← hH1] at k1 s1 b1
  obtain ⟨H2, k2, hR⟩ := check_runs hS n ls (.slice a ls.length c) r o ch fr to [at'] _ H.size 0 H1 (hl.keep k1) s1
  have f1 := hR.bx
  rw [show [at'].length = 1 from rfl] at f1
  have hK2 := k1.trans k2
  obtain ⟨e, he⟩ : ∃ e, e = errC n ls ch fr to [at'] := ⟨_, rfl⟩
  rw [← he] at f1 ⊢
  clear hH1 hR s1
  refine call_of Try.func18 rfl (Nat.le_of_ble_eq_true rfl) (hS.no rfl _ _) ?_
  rw [Try.ntmps18, Try.results18]
  by_cases h0 : e = 0
  · subst h0
    obtain ⟨q1, q2, q3, q4⟩ := errC_zero he.symm
    have hfit : ∀ i, i < ls.length → Fit ch (ls.getD i default) := fun i hi => by
      have h : LegOk n (ls.getD i default) := q2 _ (getD_mem hi)
      have h4 := h.2.2.2.1
      have h5 := h.2.2.2.2.1
      have h6 := h.2.2.2.2.2.1
      exact ⟨by omega, by omega⟩
    obtain ⟨u3, H3, hR3, r0, d, R, rfl, k3, _⟩ := newTT_runs hS ls a c r o ch H2 (hK2.low hL) (hK2.grp hg) (hl.keep hK2) q1
    have f2 := hR3.bx
    unfold tv at f2
    obtain ⟨H4, st4, k4, t4⟩ := newT H3 a ls.length c ch (some ⟨r0, 0, none⟩) ls.length ls.length
    have al4 := alT H3
    have hK4 := (hK2.trans k3).trans k4
    obtain ⟨u5, H5, hR5, b, rfl, hb, k5⟩ := isJ_runs hS ls a c r o ch (.slice (some ⟨r0, 0, none⟩) ls.length ls.length) fr to at' 10000 js a2 c2 r2 o2 H4 (hK4.low hL) (hl.keep hK4) (hj.keep hK4) q1 hmj hfit
    have f3 := hR5.bx
    unfold tv wv at f3
    have hp : PostQ H 0 (IsJ ls ch fr to at' 10000 js) (.tuple ⟨[.bool b, .int .i64 0]⟩) H5 := ⟨b, rfl, hK4.trans k5, fun h => absurd rfl h, fun _ => hb⟩
    have bw := bdW fr to at' 10000
    clear hR3 hR5 hK2 hK4 k1 k2 k3 k4 k5 hb hfit q1 q2 q3 q4 hl hj he
    repeat' (first | (with_reducible refine sxGuardB_tsp (fun h => ?_) (fun h => ?_)) | (with_reducible refine sxGuardB_fsp (fun h => ?_) (fun h => ?_)) | (with_reducible refine sxIfB_sp (fun h => ?_) (fun h => ?_)) | simp only [↓sxC_skip, ↓sxC_region, ↓sxC_seq, ↓bxC_cond, ↓sxC_ret, ↓sxOps_nil, ↓sxOps_cons, ↓sxStep_none, ↓bxOp_move, ↓bxOp_assign, ↓bxOp_alloc, ↓bxOp_build, ↓bxOp_buildSlice, ↓bxOp_load, ↓bxOp_store, ↓bxOp_bin, ↓bxOp_value, ↓sxPut_none, ↓bxPut, ↓seqQ_normal, ↓seqQ_ret, ↓resQ_ret, ↓sxRes_nil, ↓sxRes_tmp, ↓upd_apply, ↓ev_tmp, ↓ev_const, ↓ev_func, sxOptB_some, binP_int, intBin, sxCallVB_fn, sxIfB_f, packRes_two, List.map_cons, List.map_nil, List.nil_append, List.append_nil, ↓reduceIte, Nat.reduceEqDiff, Nat.reduceLT, dec_F, not_true_eq_false, Option.map_some, *, argF, List.getD_cons_zero, List.getD_cons_succ, ldTt, packRes_two] | (with_reducible refine sxDL_barE (by assumption) (by decide +kernel) ?_) | (with_reducible refine sxDL_bar (by decide +kernel) ?_) | (with_reducible refine sxD_bar (by decide +kernel) ?_) | (with_reducible refine sxDL_callD ?_))
  · have hp : PostQ H e (IsJ ls ch fr to at' 10000 js) (.tuple ⟨[.bool false, .int .i64 e]⟩) H2 := ⟨false, rfl, hK2, fun _ => rfl, fun h => absurd h h0⟩
    clear hK2 k1 k2 hl hj he
    repeat' (first | (with_reducible refine sxGuardB_tsp (fun h => ?_) (fun h => ?_)) | (with_reducible refine sxGuardB_fsp (fun h => ?_) (fun h => ?_)) | (with_reducible refine sxIfB_sp (fun h => ?_) (fun h => ?_)) | simp only [↓sxC_skip, ↓sxC_region, ↓sxC_seq, ↓bxC_cond, ↓sxC_ret, ↓sxOps_nil, ↓sxOps_cons, ↓sxStep_none, ↓bxOp_move, ↓bxOp_assign, ↓bxOp_alloc, ↓bxOp_build, ↓bxOp_buildSlice, ↓bxOp_load, ↓bxOp_store, ↓bxOp_bin, ↓bxOp_value, ↓sxPut_none, ↓bxPut, ↓seqQ_normal, ↓seqQ_ret, ↓resQ_ret, ↓sxRes_nil, ↓sxRes_tmp, ↓upd_apply, ↓ev_tmp, ↓ev_const, ↓ev_func, sxOptB_some, binP_int, intBin, sxCallVB_fn, sxIfB_t, packRes_two, List.map_cons, List.map_nil, List.nil_append, List.append_nil, ↓reduceIte, Nat.reduceEqDiff, Nat.reduceLT, dec_T, not_false_eq_true, *, argF, List.getD_cons_zero, List.getD_cons_succ, packRes_two] | (with_reducible refine sxDL_barE (by assumption) (by decide +kernel) ?_) | (with_reducible refine sxDL_bar (by decide +kernel) ?_) | (with_reducible refine sxD_bar (by decide +kernel) ?_) | (with_reducible refine sxDL_callD ?_))
end Go.Proofs.Ytfekdjpfjogklaa
