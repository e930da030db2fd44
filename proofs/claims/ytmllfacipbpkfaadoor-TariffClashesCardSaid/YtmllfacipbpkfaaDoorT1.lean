/- What is a tariff: the checks of package tariff, on the canonical machine. -/
import Derived.Test.YtmllfacipbpkfaaDoorC1
import Derived.Test.YtmllfacipbpkfaaDoorGj
set_option linter.unusedVariables false
set_option linter.unusedSimpArgs false
set_option linter.unusedSectionVars false

namespace Go.Proofs.YtmllfacipbpkfaaDoor
open Go Go.AM
set_option maxRecDepth 10000
set_option linter.unusedSimpArgs false

structure Bd where
  lo : Int
  hi : Int
instance : Inhabited Bd := ⟨⟨0, 0⟩⟩
def bandE : Enc Bd := mapE (fun b => (b.lo, b.hi)) (prodE (intE .i64) (intE .i64))
theorem bandE_inv {H : Heap} {b : Bd} {cs : List Value} (h : bandE.At H b cs) : cs = [.int .i64 b.lo, .int .i64 b.hi] := by
  obtain ⟨c1, c2, rfl, ⟨rfl, _⟩, rfl, _⟩ := h
  rfl
structure Rl where
  bands : List Bd
  code : Int
instance : Inhabited Rl := ⟨⟨[], 0⟩⟩
def ruleE : Enc Rl := mapE (fun r => (r.bands, r.code)) (prodE (sliceE bandE) (intE .i64))
theorem ruleE_inv {H : Heap} {x : Rl} {cs : List Value} (h : ruleE.At H x cs) : ∃ v r o, cs = [v, .int .i64 x.code] ∧ SlE bandE H v x.bands r o ∧ (-9223372036854775808 ≤ x.code ∧ x.code ≤ 9223372036854775807) := by
  obtain ⟨c1, c2, rfl, ⟨v, r, o, rfl, h1⟩, rfl, h2⟩ := h
  exact ⟨v, r, o, rfl, h1, h2⟩

theorem ldB (H : Heap) (r o : Nat) : aLoad Tryd.prog H 63 (.pointer (some ⟨r, o, none⟩)) = (H.read r o 2).map fun l => .agg ⟨l⟩ := by kernel_rfl
theorem lenB (a : Option Addr) (n c : Nat) : aLen Tryd.prog #[42] (.slice a n c) = some (.int .i64 n) := by kernel_rfl
theorem ixB (r o n c : Nat) (k : IntKind) (i : Int) : aIndexAt Tryd.prog 42 (.slice (some ⟨r, o, none⟩) n c) (.int k i) = if 0 ≤ i ∧ i < (n : Int) then some (.pointer (some ⟨r, o + i.toNat * 2, none⟩)) else none := by kernel_rfl
abbrev SlB (H : Heap) (v : Value) (d : List Bd) (r o : Nat) : Prop := SlE bandE H v d r o
theorem SlB_ix {H : Heap} {w : List Bd} {r o : Nat} {a : Option Addr} {cap : Nat} (h : SlB H (.slice a w.length cap) w r o) {i : Int} (h0 : 0 ≤ i) (h1 : i < w.length) :
    aIndexAt Tryd.prog 42 (.slice a w.length cap) (.int .i64 i) = some (.pointer (some ⟨r, o + i.toNat * 2, none⟩)) := by
  obtain ⟨a', cap', e, ha⟩ := h.isv
  cases e
  rw [ha (by omega), ixB, if_pos ⟨h0, h1⟩]
theorem SlB_ixN {H : Heap} {w : List Bd} {r o : Nat} {a : Option Addr} {cap : Nat} (h : SlB H (.slice a w.length cap) w r o) {i : Nat} (h1 : i < w.length) :
    aIndexAt Tryd.prog 42 (.slice a w.length cap) (.int .i64 (i : Int)) = some (.pointer (some ⟨r, o + i * 2, none⟩)) := by
  have := SlB_ix h (i := (i : Int)) (by omega) (by omega)
  rwa [Int.toNat_natCast] at this
theorem SlB_el {H : Heap} {w : List Bd} {r o : Nat} {v : Value} (h : SlB H v w r o) {i : Nat} (h1 : i < w.length) : ∃ es, H.read r (o + i * 2) 2 = some es ∧ bandE.At H (w.getD i default) es := h.rd i h1

theorem ldR (H : Heap) (r o : Nat) : aLoad Tryd.prog H 44 (.pointer (some ⟨r, o, none⟩)) = (H.read r o 2).map fun l => .agg ⟨l⟩ := by kernel_rfl
theorem lenR (a : Option Addr) (n c : Nat) : aLen Tryd.prog #[22] (.slice a n c) = some (.int .i64 n) := by kernel_rfl
theorem ixR (r o n c : Nat) (k : IntKind) (i : Int) : aIndexAt Tryd.prog 22 (.slice (some ⟨r, o, none⟩) n c) (.int k i) = if 0 ≤ i ∧ i < (n : Int) then some (.pointer (some ⟨r, o + i.toNat * 2, none⟩)) else none := by kernel_rfl
abbrev SlR (H : Heap) (v : Value) (d : List Rl) (r o : Nat) : Prop := SlE ruleE H v d r o
theorem SlR_ix {H : Heap} {w : List Rl} {r o : Nat} {a : Option Addr} {cap : Nat} (h : SlR H (.slice a w.length cap) w r o) {i : Int} (h0 : 0 ≤ i) (h1 : i < w.length) :
    aIndexAt Tryd.prog 22 (.slice a w.length cap) (.int .i64 i) = some (.pointer (some ⟨r, o + i.toNat * 2, none⟩)) := by
  obtain ⟨a', cap', e, ha⟩ := h.isv
  cases e
  rw [ha (by omega), ixR, if_pos ⟨h0, h1⟩]
theorem SlR_ixN {H : Heap} {w : List Rl} {r o : Nat} {a : Option Addr} {cap : Nat} (h : SlR H (.slice a w.length cap) w r o) {i : Nat} (h1 : i < w.length) :
    aIndexAt Tryd.prog 22 (.slice a w.length cap) (.int .i64 (i : Int)) = some (.pointer (some ⟨r, o + i * 2, none⟩)) := by
  have := SlR_ix h (i := (i : Int)) (by omega) (by omega)
  rwa [Int.toNat_natCast] at this
theorem SlR_el {H : Heap} {w : List Rl} {r o : Nat} {v : Value} (h : SlR H v w r o) {i : Nat} (h1 : i < w.length) : ∃ es, H.read r (o + i * 2) 2 = some es ∧ ruleE.At H (w.getD i default) es := h.rd i h1

theorem faB0 (r o : Nat) : aFieldAt Tryd.prog 63 0 (.pointer (some ⟨r, o, none⟩)) = some (.pointer (some ⟨r, o + 0, none⟩)) := by kernel_rfl
theorem faB1 (r o : Nat) : aFieldAt Tryd.prog 63 1 (.pointer (some ⟨r, o, none⟩)) = some (.pointer (some ⟨r, o + 1, none⟩)) := by kernel_rfl
theorem faR0 (r o : Nat) : aFieldAt Tryd.prog 44 0 (.pointer (some ⟨r, o, none⟩)) = some (.pointer (some ⟨r, o + 0, none⟩)) := by kernel_rfl
theorem faR1 (r o : Nat) : aFieldAt Tryd.prog 44 1 (.pointer (some ⟨r, o, none⟩)) = some (.pointer (some ⟨r, o + 1, none⟩)) := by kernel_rfl
theorem ldBs (H : Heap) (r o : Nat) : aLoad Tryd.prog H 42 (.pointer (some ⟨r, o, none⟩)) = (H.read r o 1).bind one1 := by kernel_rfl
theorem ldRs (H : Heap) (r o : Nat) : aLoad Tryd.prog H 22 (.pointer (some ⟨r, o, none⟩)) = (H.read r o 1).bind one1 := by kernel_rfl
/-- A band of a list, end by end. -/
theorem SlB_rd {H : Heap} {w : List Bd} {r o : Nat} {v : Value} (h : SlB H v w r o) {i : Nat} (h1 : i < w.length) :
    H.read r (o + i * 2) 2 = some [.int .i64 (w.getD i default).lo, .int .i64 (w.getD i default).hi] ∧ H.read r (o + i * 2) 1 = some [.int .i64 (w.getD i default).lo] ∧ H.read r (o + i * 2 + 1) 1 = some [.int .i64 (w.getD i default).hi] := by
  obtain ⟨es, h2, h3⟩ := SlB_el h h1
  rw [bandE_inv h3] at h2
  exact ⟨h2, read_sub (j := 0) h2 (by omega), read_sub (j := 1) h2 (by omega)⟩
/-- A rule of a list, field by field. -/
theorem SlR_rd {H : Heap} {w : List Rl} {r o : Nat} {v : Value} (h : SlR H v w r o) {i : Nat} (h1 : i < w.length) :
    ∃ a c r1 o1, H.read r (o + i * 2) 2 = some [.slice a (w.getD i default).bands.length c, .int .i64 (w.getD i default).code] ∧ H.read r (o + i * 2) 1 = some [.slice a (w.getD i default).bands.length c] ∧ H.read r (o + i * 2 + 1) 1 = some [.int .i64 (w.getD i default).code] ∧
      SlB H (.slice a (w.getD i default).bands.length c) (w.getD i default).bands r1 o1 ∧ ruleE.At H (w.getD i default) [.slice a (w.getD i default).bands.length c, .int .i64 (w.getD i default).code] := by
  obtain ⟨es, h2, h3⟩ := SlR_el h h1
  obtain ⟨v1, r1, o1, rfl, h4, _⟩ := ruleE_inv h3
  obtain ⟨a, c, rfl⟩ := h4.v0
  exact ⟨a, c, r1, o1, h2, read_sub (j := 0) h2 (by omega), read_sub (j := 1) h2 (by omega), h4, h3⟩

def BandOk (b : Bd) : Prop := 0 ≤ b.lo ∧ b.lo < b.hi ∧ b.hi ≤ 1000
instance (b : Bd) : Decidable (BandOk b) := by unfold BandOk; infer_instance
def RuleOk (k : Int) (x : Rl) : Prop := (x.bands.length : Int) = k ∧ 0 ≤ x.code ∧ x.code ≤ 99 ∧ ∀ b ∈ x.bands, BandOk b
instance (k : Int) (x : Rl) : Decidable (RuleOk k x) := by unfold RuleOk; infer_instance
def chk (k : Int) (t : List Rl) : Int := if k < 1 ∨ 4 < k then 2 else if 24 < t.length then 3 else if ∀ x ∈ t, RuleOk k x then 0 else 2

variable {S : AM.Sys} (hS : Only S 8)
include hS

theorem ifB_runs (p : Bd → Prop) [DecidablePred p] (v : Value) (w : List Bd) (r o : Nat) (H : Heap) (hl : SlB H v w r o)
    {g : FuncId} {cs : List Value} (hp : ∀ H1, Keep H H1 → ∀ n xs, n ∈ w → bandE.At H1 n xs → ∃ H2, Keep H1 H2 ∧ Runs Tryd.prog S (.fn g) (.agg ⟨xs⟩ :: cs) H1 (.bool (decide (p n))) H2) :
    ∃ H' k, Keep H H' ∧ Runs Tryd.prog S (.fn 78) [v, .func (.func g) #[] ⟨cs⟩] H (.int .i64 k) H' ∧ ((k = -1 ∧ ∀ x ∈ w, ¬ p x) ∨ (∃ j : Nat, k = j ∧ j < w.length ∧ p (w.getD j default) ∧ ∀ i, i < j → ¬ p (w.getD i default))) := by
  suffices h : WCall Tryd.prog S (.fn 78) [v, .func (.func g) #[] ⟨cs⟩] H (fun v H' => ∃ k, v = .int .i64 k ∧ Keep H H' ∧ ((k = -1 ∧ ∀ x ∈ w, ¬ p x) ∨ (∃ j : Nat, k = j ∧ j < w.length ∧ p (w.getD j default) ∧ ∀ i, i < j → ¬ p (w.getD i default)))) by
    obtain ⟨_, H', hr, k, rfl, hk, hi⟩ := h; exact ⟨H', k, hk, hr, hi⟩
  obtain ⟨a, cap, rfl⟩ := hl.v0
  refine call_of Tryd.func78 rfl (Nat.le_of_ble_eq_true rfl) (hS.no rfl _ _) ?_
  rw [Tryd.ntmps78, Tryd.results78]
  repeat' (first | (with_reducible refine sxGuardB_tsp (fun h => ?_) (fun h => ?_)) | (with_reducible refine sxGuardB_fsp (fun h => ?_) (fun h => ?_)) | (with_reducible refine sxIfB_sp (fun h => ?_) (fun h => ?_)) | (with_reducible refine sxD_bar (by kernel_rfl) ?_) | simp only [↓sxC_skip, ↓sxC_draw, ↓sxC_region, ↓sxC_seq, ↓bxC_cond, ↓bxC_loop, ↓sxC_block, ↓sxC_exit, ↓sxC_goto, ↓sxC_ret, ↓sxOps_nil, ↓sxOps_cons, ↓sxDraw_nil, ↓bxDraw_cons, ↓sxD_same, ↓sxStep_none, ↓bxStep_some, ↓bxOp_move, ↓bxOp_assign, ↓bxOp_pick, ↓bxOp_alloc, ↓bxOp_box, ↓bxOp_build, ↓bxOp_buildSlice, ↓bxOp_load, ↓bxOp_store, ↓bxOp_nilCheck, ↓bxOp_bin, ↓bxOp_un, ↓bxOp_makeI, ↓bxOp_makeFunc, ↓bxOp_makeSlice, ↓bxOp_slice, ↓bxOp_fieldAddr, ↓bxOp_field, ↓bxOp_indexAddr, ↓bxOp_index, ↓bxOp_assert, ↓bxOp_extract, ↓bxOp_value, ↓bxOp_len, ↓bxOp_cap, ↓bxOp_append, ↓bxOp_copy, ↓bxOp_max, ↓bxOp_min, ↓bxOp_convert, ↓sxPut_none, ↓bxPut, ↓seqQ_normal, ↓seqQ_exit, ↓seqQ_ret, ↓seqQ_goto, ↓blockQ_normal, ↓blockQ_ret, ↓blockQ_goto, ↓blockQ_exit, ↓loopQ_normal, ↓loopQ_exit, ↓loopQ_ret, ↓loopQ_goto, ↓resQ_normal, ↓resQ_ret, ↓sxRes_nil, ↓sxRes_tmp, ↓bxRes_cell, ↓upd_apply, ↓ev_tmp, ↓ev_const, ↓ev_global, ↓ev_func, ↓dstAt, ↓gval_some, sxOptB_some, sxOptB_ite, mm_max, mm_min, bin_shl, bin_shr, bin_int, intBin, una_not_dec, una_nt, una_nf, una_neg, aPick_true, aPick_false, sxCallVB_fn, sxCallVB_yield, sxGuardB_u, sxGuardB_tt, sxGuardB_tf, sxGuardB_ft, sxGuardB_ff, sxIfB_t, sxIfB_f, packRes_one, packRes_two, List.map_cons, List.map_nil, List.nil_append, List.cons_append, List.append_nil, ↓reduceIte, Nat.reduceEqDiff, Nat.reduceLT, dec_T, dec_F, false_imp, true_and, and_true, true_implies, implies_true, false_and, and_false, true_or, or_true, false_or, or_false, and_self, or_self, read_relow, size_relow, low_relow, relow_relow, aLoad_relow, Nat.add_zero, Nat.mul_one, one1, Option.bind_some, ne_eq, Int.natCast_nonneg, Int.toNat_natCast, not_true_eq_false, not_false_eq_true, Option.map_some, Option.map_none, *, argF, List.getD_cons_zero, List.getD_cons_succ, lenB])
  refine sxL_of (fun m ρ H1 => ∃ k : Nat, m = w.length - k ∧ k ≤ w.length ∧ Keep H H1 ∧ (∀ j, j < k → ¬ p (w.getD j default)) ∧ ρ 0 = .slice a w.length cap ∧
    ρ 1 = .func (.func g) #[] ⟨cs⟩ ∧ ρ 7 = .int .i64 w.length ∧ ρ 8 = .int .i64 k) ⟨0, rfl, Nat.zero_le _, Keep.refl _, fun j hj => absurd hj (Nat.not_lt_zero j), rfl, rfl, rfl, rfl⟩ ?_
  rintro m ρ H1 ⟨k, rfl, hk, hK, hall, e0, e1, e7, e8⟩
  have hl1 := hl.keep hK
  by_cases hlt : k < w.length
  · have hix := SlB_ixN hl1 hlt
    obtain ⟨es, hrd, hat⟩ := SlB_el hl1 hlt
    obtain ⟨H2, hK2, hr2⟩ := hp H1 hK (w.getD k default) _ (getD_mem hlt) hat
    have hb := hr2.bx
    have hw := wrap_succ hlt hl.ml
    have hlt' : (k : Int) < (w.length : Int) := by omega
    clear hl1 hr2 hat
    repeat' (first | (with_reducible refine sxGuardB_tsp (fun h => ?_) (fun h => ?_)) | (with_reducible refine sxGuardB_fsp (fun h => ?_) (fun h => ?_)) | (with_reducible refine sxIfB_sp (fun h => ?_) (fun h => ?_)) | (with_reducible refine sxD_bar (by kernel_rfl) ?_) | simp only [↓sxC_skip, ↓sxC_draw, ↓sxC_region, ↓sxC_seq, ↓bxC_cond, ↓bxC_loop, ↓sxC_block, ↓sxC_exit, ↓sxC_goto, ↓sxC_ret, ↓sxOps_nil, ↓sxOps_cons, ↓sxDraw_nil, ↓bxDraw_cons, ↓sxD_same, ↓sxStep_none, ↓bxStep_some, ↓bxOp_move, ↓bxOp_assign, ↓bxOp_pick, ↓bxOp_alloc, ↓bxOp_box, ↓bxOp_build, ↓bxOp_buildSlice, ↓bxOp_load, ↓bxOp_store, ↓bxOp_nilCheck, ↓bxOp_bin, ↓bxOp_un, ↓bxOp_makeI, ↓bxOp_makeFunc, ↓bxOp_makeSlice, ↓bxOp_slice, ↓bxOp_fieldAddr, ↓bxOp_field, ↓bxOp_indexAddr, ↓bxOp_index, ↓bxOp_assert, ↓bxOp_extract, ↓bxOp_value, ↓bxOp_len, ↓bxOp_cap, ↓bxOp_append, ↓bxOp_copy, ↓bxOp_max, ↓bxOp_min, ↓bxOp_convert, ↓sxPut_none, ↓bxPut, ↓seqQ_normal, ↓seqQ_exit, ↓seqQ_ret, ↓seqQ_goto, ↓blockQ_normal, ↓blockQ_ret, ↓blockQ_goto, ↓blockQ_exit, ↓loopQ_normal, ↓loopQ_exit, ↓loopQ_ret, ↓loopQ_goto, ↓resQ_normal, ↓resQ_ret, ↓sxRes_nil, ↓sxRes_tmp, ↓bxRes_cell, ↓upd_apply, ↓ev_tmp, ↓ev_const, ↓ev_global, ↓ev_func, ↓dstAt, ↓gval_some, sxOptB_some, sxOptB_ite, mm_max, mm_min, bin_shl, bin_shr, bin_int, intBin, una_not_dec, una_nt, una_nf, una_neg, aPick_true, aPick_false, sxCallVB_fn, sxCallVB_yield, sxGuardB_u, sxGuardB_tt, sxGuardB_tf, sxGuardB_ft, sxGuardB_ff, sxIfB_t, sxIfB_f, packRes_one, packRes_two, List.map_cons, List.map_nil, List.nil_append, List.cons_append, List.append_nil, ↓reduceIte, Nat.reduceEqDiff, Nat.reduceLT, dec_T, dec_F, false_imp, true_and, and_true, true_implies, implies_true, false_and, and_false, true_or, or_true, false_or, or_false, and_self, or_self, read_relow, size_relow, low_relow, relow_relow, aLoad_relow, Nat.add_zero, Nat.mul_one, one1, Option.bind_some, ne_eq, Int.natCast_nonneg, Int.toNat_natCast, not_true_eq_false, not_false_eq_true, Option.map_some, Option.map_none, *, lenB, ldB])
    · exact ⟨k, rfl, hK.trans hK2, .inr ⟨k, rfl, hlt, ‹_›, hall⟩⟩
    · exact ⟨_, by omega, k + 1, rfl, by omega, hK.trans hK2, fun j hj => by
        rcases Nat.lt_or_ge j k with h | h
        · exact hall j h
        · rw [show j = k by omega]; assumption, rfl⟩
  · have hlt' : ¬ (k : Int) < (w.length : Int) := by omega
    clear hl1
    obtain rfl : k = w.length := by omega
    repeat' (first | (with_reducible refine sxGuardB_tsp (fun h => ?_) (fun h => ?_)) | (with_reducible refine sxGuardB_fsp (fun h => ?_) (fun h => ?_)) | (with_reducible refine sxIfB_sp (fun h => ?_) (fun h => ?_)) | (with_reducible refine sxD_bar (by kernel_rfl) ?_) | simp only [↓sxC_skip, ↓sxC_draw, ↓sxC_region, ↓sxC_seq, ↓bxC_cond, ↓bxC_loop, ↓sxC_block, ↓sxC_exit, ↓sxC_goto, ↓sxC_ret, ↓sxOps_nil, ↓sxOps_cons, ↓sxDraw_nil, ↓bxDraw_cons, ↓sxD_same, ↓sxStep_none, ↓bxStep_some, ↓bxOp_move, ↓bxOp_assign, ↓bxOp_pick, ↓bxOp_alloc, ↓bxOp_box, ↓bxOp_build, ↓bxOp_buildSlice, ↓bxOp_load, ↓bxOp_store, ↓bxOp_nilCheck, ↓bxOp_bin, ↓bxOp_un, ↓bxOp_makeI, ↓bxOp_makeFunc, ↓bxOp_makeSlice, ↓bxOp_slice, ↓bxOp_fieldAddr, ↓bxOp_field, ↓bxOp_indexAddr, ↓bxOp_index, ↓bxOp_assert, ↓bxOp_extract, ↓bxOp_value, ↓bxOp_len, ↓bxOp_cap, ↓bxOp_append, ↓bxOp_copy, ↓bxOp_max, ↓bxOp_min, ↓bxOp_convert, ↓sxPut_none, ↓bxPut, ↓seqQ_normal, ↓seqQ_exit, ↓seqQ_ret, ↓seqQ_goto, ↓blockQ_normal, ↓blockQ_ret, ↓blockQ_goto, ↓blockQ_exit, ↓loopQ_normal, ↓loopQ_exit, ↓loopQ_ret, ↓loopQ_goto, ↓resQ_normal, ↓resQ_ret, ↓sxRes_nil, ↓sxRes_tmp, ↓bxRes_cell, ↓upd_apply, ↓ev_tmp, ↓ev_const, ↓ev_global, ↓ev_func, ↓dstAt, ↓gval_some, sxOptB_some, sxOptB_ite, mm_max, mm_min, bin_shl, bin_shr, bin_int, intBin, una_not_dec, una_nt, una_nf, una_neg, aPick_true, aPick_false, sxCallVB_fn, sxCallVB_yield, sxGuardB_u, sxGuardB_tt, sxGuardB_tf, sxGuardB_ft, sxGuardB_ff, sxIfB_t, sxIfB_f, packRes_one, packRes_two, List.map_cons, List.map_nil, List.nil_append, List.cons_append, List.append_nil, ↓reduceIte, Nat.reduceEqDiff, Nat.reduceLT, dec_T, dec_F, false_imp, true_and, and_true, true_implies, implies_true, false_and, and_false, true_or, or_true, false_or, or_false, and_self, or_self, read_relow, size_relow, low_relow, relow_relow, aLoad_relow, Nat.add_zero, Nat.mul_one, one1, Option.bind_some, ne_eq, Int.natCast_nonneg, Int.toNat_natCast, not_true_eq_false, not_false_eq_true, Option.map_some, Option.map_none, *, lenB, ldB])
    exact ⟨-1, rfl, .inl ⟨rfl, all_of hall⟩⟩

theorem cfB_runs (p : Bd → Prop) [DecidablePred p] (v : Value) (w : List Bd) (r o : Nat) (H : Heap) (hl : SlB H v w r o)
    {g : FuncId} {cs : List Value} (hp : ∀ H1, Keep H H1 → ∀ n xs, n ∈ w → bandE.At H1 n xs → ∃ H2, Keep H1 H2 ∧ Runs Tryd.prog S (.fn g) (.agg ⟨xs⟩ :: cs) H1 (.bool (decide (p n))) H2) :
    ∃ H', Keep H H' ∧ Runs Tryd.prog S (.fn 64) [v, .func (.func g) #[] ⟨cs⟩] H (.bool (decide (¬ ∀ x ∈ w, ¬ p x))) H' := by
  obtain ⟨H', k, hK, hR, hk⟩ := ifB_runs hS p v w r o H hl hp
  refine ⟨H', hK, ?_⟩
  have hk' : 0 ≤ k ↔ ¬ ∀ x ∈ w, ¬ p x := by
    rcases hk with ⟨rfl, h⟩ | ⟨j, rfl, h1, h2, h3⟩
    · exact ⟨fun h => by omega, fun hn => absurd h hn⟩
    · exact ⟨fun _ hn => hn _ (getD_mem h1) h2, fun _ => by omega⟩
  suffices h : WCall Tryd.prog S (.fn 64) [v, .func (.func g) #[] ⟨cs⟩] H (fun v' H1 => v' = .bool (decide (¬ ∀ x ∈ w, ¬ p x)) ∧ H1 = H') by
    obtain ⟨_, _, hr, rfl, rfl⟩ := h; exact hr
  refine call_of Tryd.func64 rfl (Nat.le_of_ble_eq_true rfl) (hS.no rfl _ _) ?_
  rw [Tryd.ntmps64, Tryd.results64]
  have hb := hR.bx
  clear hR hp
  repeat' (first | (with_reducible refine sxGuardB_tsp (fun h => ?_) (fun h => ?_)) | (with_reducible refine sxGuardB_fsp (fun h => ?_) (fun h => ?_)) | (with_reducible refine sxIfB_sp (fun h => ?_) (fun h => ?_)) | (with_reducible refine sxD_bar (by kernel_rfl) ?_) | simp only [↓sxC_skip, ↓sxC_draw, ↓sxC_region, ↓sxC_seq, ↓bxC_cond, ↓bxC_loop, ↓sxC_block, ↓sxC_exit, ↓sxC_goto, ↓sxC_ret, ↓sxOps_nil, ↓sxOps_cons, ↓sxDraw_nil, ↓bxDraw_cons, ↓sxD_same, ↓sxStep_none, ↓bxStep_some, ↓bxOp_move, ↓bxOp_assign, ↓bxOp_pick, ↓bxOp_alloc, ↓bxOp_box, ↓bxOp_build, ↓bxOp_buildSlice, ↓bxOp_load, ↓bxOp_store, ↓bxOp_nilCheck, ↓bxOp_bin, ↓bxOp_un, ↓bxOp_makeI, ↓bxOp_makeFunc, ↓bxOp_makeSlice, ↓bxOp_slice, ↓bxOp_fieldAddr, ↓bxOp_field, ↓bxOp_indexAddr, ↓bxOp_index, ↓bxOp_assert, ↓bxOp_extract, ↓bxOp_value, ↓bxOp_len, ↓bxOp_cap, ↓bxOp_append, ↓bxOp_copy, ↓bxOp_max, ↓bxOp_min, ↓bxOp_convert, ↓sxPut_none, ↓bxPut, ↓seqQ_normal, ↓seqQ_exit, ↓seqQ_ret, ↓seqQ_goto, ↓blockQ_normal, ↓blockQ_ret, ↓blockQ_goto, ↓blockQ_exit, ↓loopQ_normal, ↓loopQ_exit, ↓loopQ_ret, ↓loopQ_goto, ↓resQ_normal, ↓resQ_ret, ↓sxRes_nil, ↓sxRes_tmp, ↓bxRes_cell, ↓upd_apply, ↓ev_tmp, ↓ev_const, ↓ev_global, ↓ev_func, ↓dstAt, ↓gval_some, sxOptB_some, sxOptB_ite, mm_max, mm_min, bin_shl, bin_shr, bin_int, intBin, una_not_dec, una_nt, una_nf, una_neg, aPick_true, aPick_false, sxCallVB_fn, sxCallVB_yield, sxGuardB_u, sxGuardB_tt, sxGuardB_tf, sxGuardB_ft, sxGuardB_ff, sxIfB_t, sxIfB_f, packRes_one, packRes_two, List.map_cons, List.map_nil, List.nil_append, List.cons_append, List.append_nil, ↓reduceIte, Nat.reduceEqDiff, Nat.reduceLT, dec_T, dec_F, false_imp, true_and, and_true, true_implies, implies_true, false_and, and_false, true_or, or_true, false_or, or_false, and_self, or_self, read_relow, size_relow, low_relow, relow_relow, aLoad_relow, Nat.add_zero, Nat.mul_one, one1, Option.bind_some, ne_eq, Int.natCast_nonneg, Int.toNat_natCast, not_true_eq_false, not_false_eq_true, Option.map_some, Option.map_none, *, argF, List.getD_cons_zero, List.getD_cons_succ])
  all_goals first
    | exact bool_d hk'
    | skip

theorem ifR_runs (p : Rl → Prop) [DecidablePred p] (v : Value) (w : List Rl) (r o : Nat) (H : Heap) (hl : SlR H v w r o)
    {g : FuncId} {cs : List Value} (hp : ∀ H1, Keep H H1 → ∀ n xs, n ∈ w → ruleE.At H1 n xs → ∃ H2, Keep H1 H2 ∧ Runs Tryd.prog S (.fn g) (.agg ⟨xs⟩ :: cs) H1 (.bool (decide (p n))) H2) :
    ∃ H' k, Keep H H' ∧ Runs Tryd.prog S (.fn 23) [v, .func (.func g) #[] ⟨cs⟩] H (.int .i64 k) H' ∧ ((k = -1 ∧ ∀ x ∈ w, ¬ p x) ∨ (∃ j : Nat, k = j ∧ j < w.length ∧ p (w.getD j default) ∧ ∀ i, i < j → ¬ p (w.getD i default))) := by
  suffices h : WCall Tryd.prog S (.fn 23) [v, .func (.func g) #[] ⟨cs⟩] H (fun v H' => ∃ k, v = .int .i64 k ∧ Keep H H' ∧ ((k = -1 ∧ ∀ x ∈ w, ¬ p x) ∨ (∃ j : Nat, k = j ∧ j < w.length ∧ p (w.getD j default) ∧ ∀ i, i < j → ¬ p (w.getD i default)))) by
    obtain ⟨_, H', hr, k, rfl, hk, hi⟩ := h; exact ⟨H', k, hk, hr, hi⟩
  obtain ⟨a, cap, rfl⟩ := hl.v0
  refine call_of Tryd.func23 rfl (Nat.le_of_ble_eq_true rfl) (hS.no rfl _ _) ?_
  rw [Tryd.ntmps23, Tryd.results23]
  repeat' (first | (with_reducible refine sxGuardB_tsp (fun h => ?_) (fun h => ?_)) | (with_reducible refine sxGuardB_fsp (fun h => ?_) (fun h => ?_)) | (with_reducible refine sxIfB_sp (fun h => ?_) (fun h => ?_)) | (with_reducible refine sxD_bar (by kernel_rfl) ?_) | simp only [↓sxC_skip, ↓sxC_draw, ↓sxC_region, ↓sxC_seq, ↓bxC_cond, ↓bxC_loop, ↓sxC_block, ↓sxC_exit, ↓sxC_goto, ↓sxC_ret, ↓sxOps_nil, ↓sxOps_cons, ↓sxDraw_nil, ↓bxDraw_cons, ↓sxD_same, ↓sxStep_none, ↓bxStep_some, ↓bxOp_move, ↓bxOp_assign, ↓bxOp_pick, ↓bxOp_alloc, ↓bxOp_box, ↓bxOp_build, ↓bxOp_buildSlice, ↓bxOp_load, ↓bxOp_store, ↓bxOp_nilCheck, ↓bxOp_bin, ↓bxOp_un, ↓bxOp_makeI, ↓bxOp_makeFunc, ↓bxOp_makeSlice, ↓bxOp_slice, ↓bxOp_fieldAddr, ↓bxOp_field, ↓bxOp_indexAddr, ↓bxOp_index, ↓bxOp_assert, ↓bxOp_extract, ↓bxOp_value, ↓bxOp_len, ↓bxOp_cap, ↓bxOp_append, ↓bxOp_copy, ↓bxOp_max, ↓bxOp_min, ↓bxOp_convert, ↓sxPut_none, ↓bxPut, ↓seqQ_normal, ↓seqQ_exit, ↓seqQ_ret, ↓seqQ_goto, ↓blockQ_normal, ↓blockQ_ret, ↓blockQ_goto, ↓blockQ_exit, ↓loopQ_normal, ↓loopQ_exit, ↓loopQ_ret, ↓loopQ_goto, ↓resQ_normal, ↓resQ_ret, ↓sxRes_nil, ↓sxRes_tmp, ↓bxRes_cell, ↓upd_apply, ↓ev_tmp, ↓ev_const, ↓ev_global, ↓ev_func, ↓dstAt, ↓gval_some, sxOptB_some, sxOptB_ite, mm_max, mm_min, bin_shl, bin_shr, bin_int, intBin, una_not_dec, una_nt, una_nf, una_neg, aPick_true, aPick_false, sxCallVB_fn, sxCallVB_yield, sxGuardB_u, sxGuardB_tt, sxGuardB_tf, sxGuardB_ft, sxGuardB_ff, sxIfB_t, sxIfB_f, packRes_one, packRes_two, List.map_cons, List.map_nil, List.nil_append, List.cons_append, List.append_nil, ↓reduceIte, Nat.reduceEqDiff, Nat.reduceLT, dec_T, dec_F, false_imp, true_and, and_true, true_implies, implies_true, false_and, and_false, true_or, or_true, false_or, or_false, and_self, or_self, read_relow, size_relow, low_relow, relow_relow, aLoad_relow, Nat.add_zero, Nat.mul_one, one1, Option.bind_some, ne_eq, Int.natCast_nonneg, Int.toNat_natCast, not_true_eq_false, not_false_eq_true, Option.map_some, Option.map_none, *, argF, List.getD_cons_zero, List.getD_cons_succ, lenR])
  refine sxL_of (fun m ρ H1 => ∃ k : Nat, m = w.length - k ∧ k ≤ w.length ∧ Keep H H1 ∧ (∀ j, j < k → ¬ p (w.getD j default)) ∧ ρ 0 = .slice a w.length cap ∧
    ρ 1 = .func (.func g) #[] ⟨cs⟩ ∧ ρ 7 = .int .i64 w.length ∧ ρ 8 = .int .i64 k) ⟨0, rfl, Nat.zero_le _, Keep.refl _, fun j hj => absurd hj (Nat.not_lt_zero j), rfl, rfl, rfl, rfl⟩ ?_
  rintro m ρ H1 ⟨k, rfl, hk, hK, hall, e0, e1, e7, e8⟩
  have hl1 := hl.keep hK
  by_cases hlt : k < w.length
  · have hix := SlR_ixN hl1 hlt
    obtain ⟨es, hrd, hat⟩ := SlR_el hl1 hlt
    obtain ⟨H2, hK2, hr2⟩ := hp H1 hK (w.getD k default) _ (getD_mem hlt) hat
    have hb := hr2.bx
    have hw := wrap_succ hlt hl.ml
    have hlt' : (k : Int) < (w.length : Int) := by omega
    clear hl1 hr2 hat
    repeat' (first | (with_reducible refine sxGuardB_tsp (fun h => ?_) (fun h => ?_)) | (with_reducible refine sxGuardB_fsp (fun h => ?_) (fun h => ?_)) | (with_reducible refine sxIfB_sp (fun h => ?_) (fun h => ?_)) | (with_reducible refine sxD_bar (by kernel_rfl) ?_) | simp only [↓sxC_skip, ↓sxC_draw, ↓sxC_region, ↓sxC_seq, ↓bxC_cond, ↓bxC_loop, ↓sxC_block, ↓sxC_exit, ↓sxC_goto, ↓sxC_ret, ↓sxOps_nil, ↓sxOps_cons, ↓sxDraw_nil, ↓bxDraw_cons, ↓sxD_same, ↓sxStep_none, ↓bxStep_some, ↓bxOp_move, ↓bxOp_assign, ↓bxOp_pick, ↓bxOp_alloc, ↓bxOp_box, ↓bxOp_build, ↓bxOp_buildSlice, ↓bxOp_load, ↓bxOp_store, ↓bxOp_nilCheck, ↓bxOp_bin, ↓bxOp_un, ↓bxOp_makeI, ↓bxOp_makeFunc, ↓bxOp_makeSlice, ↓bxOp_slice, ↓bxOp_fieldAddr, ↓bxOp_field, ↓bxOp_indexAddr, ↓bxOp_index, ↓bxOp_assert, ↓bxOp_extract, ↓bxOp_value, ↓bxOp_len, ↓bxOp_cap, ↓bxOp_append, ↓bxOp_copy, ↓bxOp_max, ↓bxOp_min, ↓bxOp_convert, ↓sxPut_none, ↓bxPut, ↓seqQ_normal, ↓seqQ_exit, ↓seqQ_ret, ↓seqQ_goto, ↓blockQ_normal, ↓blockQ_ret, ↓blockQ_goto, ↓blockQ_exit, ↓loopQ_normal, ↓loopQ_exit, ↓loopQ_ret, ↓loopQ_goto, ↓resQ_normal, ↓resQ_ret, ↓sxRes_nil, ↓sxRes_tmp, ↓bxRes_cell, ↓upd_apply, ↓ev_tmp, ↓ev_const, ↓ev_global, ↓ev_func, ↓dstAt, ↓gval_some, sxOptB_some, sxOptB_ite, mm_max, mm_min, bin_shl, bin_shr, bin_int, intBin, una_not_dec, una_nt, una_nf, una_neg, aPick_true, aPick_false, sxCallVB_fn, sxCallVB_yield, sxGuardB_u, sxGuardB_tt, sxGuardB_tf, sxGuardB_ft, sxGuardB_ff, sxIfB_t, sxIfB_f, packRes_one, packRes_two, List.map_cons, List.map_nil, List.nil_append, List.cons_append, List.append_nil, ↓reduceIte, Nat.reduceEqDiff, Nat.reduceLT, dec_T, dec_F, false_imp, true_and, and_true, true_implies, implies_true, false_and, and_false, true_or, or_true, false_or, or_false, and_self, or_self, read_relow, size_relow, low_relow, relow_relow, aLoad_relow, Nat.add_zero, Nat.mul_one, one1, Option.bind_some, ne_eq, Int.natCast_nonneg, Int.toNat_natCast, not_true_eq_false, not_false_eq_true, Option.map_some, Option.map_none, *, lenR, ldR])
    · exact ⟨k, rfl, hK.trans hK2, .inr ⟨k, rfl, hlt, ‹_›, hall⟩⟩
    · exact ⟨_, by omega, k + 1, rfl, by omega, hK.trans hK2, fun j hj => by
        rcases Nat.lt_or_ge j k with h | h
        · exact hall j h
        · rw [show j = k by omega]; assumption, rfl⟩
  · have hlt' : ¬ (k : Int) < (w.length : Int) := by omega
    clear hl1
    obtain rfl : k = w.length := by omega
    repeat' (first | (with_reducible refine sxGuardB_tsp (fun h => ?_) (fun h => ?_)) | (with_reducible refine sxGuardB_fsp (fun h => ?_) (fun h => ?_)) | (with_reducible refine sxIfB_sp (fun h => ?_) (fun h => ?_)) | (with_reducible refine sxD_bar (by kernel_rfl) ?_) | simp only [↓sxC_skip, ↓sxC_draw, ↓sxC_region, ↓sxC_seq, ↓bxC_cond, ↓bxC_loop, ↓sxC_block, ↓sxC_exit, ↓sxC_goto, ↓sxC_ret, ↓sxOps_nil, ↓sxOps_cons, ↓sxDraw_nil, ↓bxDraw_cons, ↓sxD_same, ↓sxStep_none, ↓bxStep_some, ↓bxOp_move, ↓bxOp_assign, ↓bxOp_pick, ↓bxOp_alloc, ↓bxOp_box, ↓bxOp_build, ↓bxOp_buildSlice, ↓bxOp_load, ↓bxOp_store, ↓bxOp_nilCheck, ↓bxOp_bin, ↓bxOp_un, ↓bxOp_makeI, ↓bxOp_makeFunc, ↓bxOp_makeSlice, ↓bxOp_slice, ↓bxOp_fieldAddr, ↓bxOp_field, ↓bxOp_indexAddr, ↓bxOp_index, ↓bxOp_assert, ↓bxOp_extract, ↓bxOp_value, ↓bxOp_len, ↓bxOp_cap, ↓bxOp_append, ↓bxOp_copy, ↓bxOp_max, ↓bxOp_min, ↓bxOp_convert, ↓sxPut_none, ↓bxPut, ↓seqQ_normal, ↓seqQ_exit, ↓seqQ_ret, ↓seqQ_goto, ↓blockQ_normal, ↓blockQ_ret, ↓blockQ_goto, ↓blockQ_exit, ↓loopQ_normal, ↓loopQ_exit, ↓loopQ_ret, ↓loopQ_goto, ↓resQ_normal, ↓resQ_ret, ↓sxRes_nil, ↓sxRes_tmp, ↓bxRes_cell, ↓upd_apply, ↓ev_tmp, ↓ev_const, ↓ev_global, ↓ev_func, ↓dstAt, ↓gval_some, sxOptB_some, sxOptB_ite, mm_max, mm_min, bin_shl, bin_shr, bin_int, intBin, una_not_dec, una_nt, una_nf, una_neg, aPick_true, aPick_false, sxCallVB_fn, sxCallVB_yield, sxGuardB_u, sxGuardB_tt, sxGuardB_tf, sxGuardB_ft, sxGuardB_ff, sxIfB_t, sxIfB_f, packRes_one, packRes_two, List.map_cons, List.map_nil, List.nil_append, List.cons_append, List.append_nil, ↓reduceIte, Nat.reduceEqDiff, Nat.reduceLT, dec_T, dec_F, false_imp, true_and, and_true, true_implies, implies_true, false_and, and_false, true_or, or_true, false_or, or_false, and_self, or_self, read_relow, size_relow, low_relow, relow_relow, aLoad_relow, Nat.add_zero, Nat.mul_one, one1, Option.bind_some, ne_eq, Int.natCast_nonneg, Int.toNat_natCast, not_true_eq_false, not_false_eq_true, Option.map_some, Option.map_none, *, lenR, ldR])
    exact ⟨-1, rfl, .inl ⟨rfl, all_of hall⟩⟩

theorem cfR_runs (p : Rl → Prop) [DecidablePred p] (v : Value) (w : List Rl) (r o : Nat) (H : Heap) (hl : SlR H v w r o)
    {g : FuncId} {cs : List Value} (hp : ∀ H1, Keep H H1 → ∀ n xs, n ∈ w → ruleE.At H1 n xs → ∃ H2, Keep H1 H2 ∧ Runs Tryd.prog S (.fn g) (.agg ⟨xs⟩ :: cs) H1 (.bool (decide (p n))) H2) :
    ∃ H', Keep H H' ∧ Runs Tryd.prog S (.fn 42) [v, .func (.func g) #[] ⟨cs⟩] H (.bool (decide (¬ ∀ x ∈ w, ¬ p x))) H' := by
  obtain ⟨H', k, hK, hR, hk⟩ := ifR_runs hS p v w r o H hl hp
  refine ⟨H', hK, ?_⟩
  have hk' : 0 ≤ k ↔ ¬ ∀ x ∈ w, ¬ p x := by
    rcases hk with ⟨rfl, h⟩ | ⟨j, rfl, h1, h2, h3⟩
    · exact ⟨fun h => by omega, fun hn => absurd h hn⟩
    · exact ⟨fun _ hn => hn _ (getD_mem h1) h2, fun _ => by omega⟩
  suffices h : WCall Tryd.prog S (.fn 42) [v, .func (.func g) #[] ⟨cs⟩] H (fun v' H1 => v' = .bool (decide (¬ ∀ x ∈ w, ¬ p x)) ∧ H1 = H') by
    obtain ⟨_, _, hr, rfl, rfl⟩ := h; exact hr
  refine call_of Tryd.func42 rfl (Nat.le_of_ble_eq_true rfl) (hS.no rfl _ _) ?_
  rw [Tryd.ntmps42, Tryd.results42]
  have hb := hR.bx
  clear hR hp
  repeat' (first | (with_reducible refine sxGuardB_tsp (fun h => ?_) (fun h => ?_)) | (with_reducible refine sxGuardB_fsp (fun h => ?_) (fun h => ?_)) | (with_reducible refine sxIfB_sp (fun h => ?_) (fun h => ?_)) | (with_reducible refine sxD_bar (by kernel_rfl) ?_) | simp only [↓sxC_skip, ↓sxC_draw, ↓sxC_region, ↓sxC_seq, ↓bxC_cond, ↓bxC_loop, ↓sxC_block, ↓sxC_exit, ↓sxC_goto, ↓sxC_ret, ↓sxOps_nil, ↓sxOps_cons, ↓sxDraw_nil, ↓bxDraw_cons, ↓sxD_same, ↓sxStep_none, ↓bxStep_some, ↓bxOp_move, ↓bxOp_assign, ↓bxOp_pick, ↓bxOp_alloc, ↓bxOp_box, ↓bxOp_build, ↓bxOp_buildSlice, ↓bxOp_load, ↓bxOp_store, ↓bxOp_nilCheck, ↓bxOp_bin, ↓bxOp_un, ↓bxOp_makeI, ↓bxOp_makeFunc, ↓bxOp_makeSlice, ↓bxOp_slice, ↓bxOp_fieldAddr, ↓bxOp_field, ↓bxOp_indexAddr, ↓bxOp_index, ↓bxOp_assert, ↓bxOp_extract, ↓bxOp_value, ↓bxOp_len, ↓bxOp_cap, ↓bxOp_append, ↓bxOp_copy, ↓bxOp_max, ↓bxOp_min, ↓bxOp_convert, ↓sxPut_none, ↓bxPut, ↓seqQ_normal, ↓seqQ_exit, ↓seqQ_ret, ↓seqQ_goto, ↓blockQ_normal, ↓blockQ_ret, ↓blockQ_goto, ↓blockQ_exit, ↓loopQ_normal, ↓loopQ_exit, ↓loopQ_ret, ↓loopQ_goto, ↓resQ_normal, ↓resQ_ret, ↓sxRes_nil, ↓sxRes_tmp, ↓bxRes_cell, ↓upd_apply, ↓ev_tmp, ↓ev_const, ↓ev_global, ↓ev_func, ↓dstAt, ↓gval_some, sxOptB_some, sxOptB_ite, mm_max, mm_min, bin_shl, bin_shr, bin_int, intBin, una_not_dec, una_nt, una_nf, una_neg, aPick_true, aPick_false, sxCallVB_fn, sxCallVB_yield, sxGuardB_u, sxGuardB_tt, sxGuardB_tf, sxGuardB_ft, sxGuardB_ff, sxIfB_t, sxIfB_f, packRes_one, packRes_two, List.map_cons, List.map_nil, List.nil_append, List.cons_append, List.append_nil, ↓reduceIte, Nat.reduceEqDiff, Nat.reduceLT, dec_T, dec_F, false_imp, true_and, and_true, true_implies, implies_true, false_and, and_false, true_or, or_true, false_or, or_false, and_self, or_self, read_relow, size_relow, low_relow, relow_relow, aLoad_relow, Nat.add_zero, Nat.mul_one, one1, Option.bind_some, ne_eq, Int.natCast_nonneg, Int.toNat_natCast, not_true_eq_false, not_false_eq_true, Option.map_some, Option.map_none, *, argF, List.getD_cons_zero, List.getD_cons_succ])
  all_goals first
    | exact bool_d hk'
    | skip

theorem isBand_runs (b : Bd) (H : Heap) : ∃ H', Keep H H' ∧ Runs Tryd.prog S (.fn 66) [.agg ⟨[.int .i64 b.lo, .int .i64 b.hi]⟩] H (.bool (decide (BandOk b))) H' := by
  suffices h : WCall Tryd.prog S (.fn 66) [.agg ⟨[.int .i64 b.lo, .int .i64 b.hi]⟩] H (fun v H' => v = .bool (decide (BandOk b)) ∧ Keep H H') by
    obtain ⟨_, H', hr, rfl, hk⟩ := h; exact ⟨H', hk, hr⟩
  refine call_of Tryd.func66 rfl (Nat.le_of_ble_eq_true rfl) (hS.no rfl _ _) ?_
  rw [Tryd.ntmps66, Tryd.results66]
  have hc : (Value.agg ⟨[.int .i64 b.lo, .int .i64 b.hi]⟩).cells.toList = [.int .i64 b.lo, .int .i64 b.hi] := rfl
  obtain ⟨H1, e1, hK1, hs1, zz, hr1⟩ := box1 H [.int .i64 b.lo, .int .i64 b.hi] 63
  clear zz
  have q0 : H1.read H.size 0 1 = some [.int .i64 b.lo] := hr1 0 1 (show 0 + 1 ≤ 2 by omega)
  have q1 : H1.read H.size 1 1 = some [.int .i64 b.hi] := hr1 1 1 (show 1 + 1 ≤ 2 by omega)
  clear hr1
  repeat' (first | (with_reducible refine sxGuardB_tsp (fun h => ?_) (fun h => ?_)) | (with_reducible refine sxGuardB_fsp (fun h => ?_) (fun h => ?_)) | (with_reducible refine sxIfB_sp (fun h => ?_) (fun h => ?_)) | (with_reducible refine sxD_bar (by kernel_rfl) ?_) | simp only [↓sxC_skip, ↓sxC_draw, ↓sxC_region, ↓sxC_seq, ↓bxC_cond, ↓bxC_loop, ↓sxC_block, ↓sxC_exit, ↓sxC_goto, ↓sxC_ret, ↓sxOps_nil, ↓sxOps_cons, ↓sxDraw_nil, ↓bxDraw_cons, ↓sxD_same, ↓sxStep_none, ↓bxStep_some, ↓bxOp_move, ↓bxOp_assign, ↓bxOp_pick, ↓bxOp_alloc, ↓bxOp_box, ↓bxOp_build, ↓bxOp_buildSlice, ↓bxOp_load, ↓bxOp_store, ↓bxOp_nilCheck, ↓bxOp_bin, ↓bxOp_un, ↓bxOp_makeI, ↓bxOp_makeFunc, ↓bxOp_makeSlice, ↓bxOp_slice, ↓bxOp_fieldAddr, ↓bxOp_field, ↓bxOp_indexAddr, ↓bxOp_index, ↓bxOp_assert, ↓bxOp_extract, ↓bxOp_value, ↓bxOp_len, ↓bxOp_cap, ↓bxOp_append, ↓bxOp_copy, ↓bxOp_max, ↓bxOp_min, ↓bxOp_convert, ↓sxPut_none, ↓bxPut, ↓seqQ_normal, ↓seqQ_exit, ↓seqQ_ret, ↓seqQ_goto, ↓blockQ_normal, ↓blockQ_ret, ↓blockQ_goto, ↓blockQ_exit, ↓loopQ_normal, ↓loopQ_exit, ↓loopQ_ret, ↓loopQ_goto, ↓resQ_normal, ↓resQ_ret, ↓sxRes_nil, ↓sxRes_tmp, ↓bxRes_cell, ↓upd_apply, ↓ev_tmp, ↓ev_const, ↓ev_global, ↓ev_func, ↓dstAt, ↓gval_some, sxOptB_some, sxOptB_ite, mm_max, mm_min, bin_shl, bin_shr, bin_int, intBin, una_not_dec, una_nt, una_nf, una_neg, aPick_true, aPick_false, sxCallVB_fn, sxCallVB_yield, sxGuardB_u, sxGuardB_tt, sxGuardB_tf, sxGuardB_ft, sxGuardB_ff, sxIfB_t, sxIfB_f, packRes_one, packRes_two, List.map_cons, List.map_nil, List.nil_append, List.cons_append, List.append_nil, ↓reduceIte, Nat.reduceEqDiff, Nat.reduceLT, dec_T, dec_F, false_imp, true_and, and_true, true_implies, implies_true, false_and, and_false, true_or, or_true, false_or, or_false, and_self, or_self, read_relow, size_relow, low_relow, relow_relow, aLoad_relow, Nat.add_zero, Nat.mul_one, one1, Option.bind_some, ne_eq, Int.natCast_nonneg, Int.toNat_natCast, not_true_eq_false, not_false_eq_true, Option.map_some, Option.map_none, *, argF, List.getD_cons_zero, List.getD_cons_succ, hc, faB0, faB1, ldI, Nat.zero_add])
  all_goals first
    | exact bool_f fun (h : BandOk b) => by have := h.1; have := h.2.1; have := h.2.2; omega
    | exact bool_d ⟨fun h => (show BandOk b from ⟨by omega, by omega, by omega⟩), fun h => by have := h.1; have := h.2.1; have := h.2.2; omega⟩

theorem isValidL_runs (b : Bd) (cs : List Value) (H : Heap) (hb : bandE.At H b cs) : ∃ H', Keep H H' ∧ Runs Tryd.prog S (.fn 65) [.agg ⟨cs⟩] H (.bool (decide (¬ BandOk b))) H' := by
  rw [bandE_inv hb]
  suffices h : WCall Tryd.prog S (.fn 65) [.agg ⟨[.int .i64 b.lo, .int .i64 b.hi]⟩] H (fun v H' => v = .bool (decide (¬ BandOk b)) ∧ Keep H H') by
    obtain ⟨_, H', hr, rfl, hk⟩ := h; exact ⟨H', hk, hr⟩
  refine call_of Tryd.func65 rfl (Nat.le_of_ble_eq_true rfl) (hS.no rfl _ _) ?_
  rw [Tryd.ntmps65, Tryd.results65]
  have hc : (Value.agg ⟨[.int .i64 b.lo, .int .i64 b.hi]⟩).cells.toList = [.int .i64 b.lo, .int .i64 b.hi] := rfl
  obtain ⟨H1, e1, hK1, hs1, zz, hr1⟩ := box1 H [.int .i64 b.lo, .int .i64 b.hi] 63
  clear zz
  have q0 : H1.read H.size 0 2 = some [.int .i64 b.lo, .int .i64 b.hi] := hr1 0 2 (show 0 + 2 ≤ 2 by omega)
  clear hr1
  obtain ⟨H2, hK2, hR2⟩ := isBand_runs hS b H1
  have hb2 := hR2.bx
  have hKK := hK1.trans hK2
  clear hR2
  repeat' (first | (with_reducible refine sxGuardB_tsp (fun h => ?_) (fun h => ?_)) | (with_reducible refine sxGuardB_fsp (fun h => ?_) (fun h => ?_)) | (with_reducible refine sxIfB_sp (fun h => ?_) (fun h => ?_)) | (with_reducible refine sxD_bar (by kernel_rfl) ?_) | simp only [↓sxC_skip, ↓sxC_draw, ↓sxC_region, ↓sxC_seq, ↓bxC_cond, ↓bxC_loop, ↓sxC_block, ↓sxC_exit, ↓sxC_goto, ↓sxC_ret, ↓sxOps_nil, ↓sxOps_cons, ↓sxDraw_nil, ↓bxDraw_cons, ↓sxD_same, ↓sxStep_none, ↓bxStep_some, ↓bxOp_move, ↓bxOp_assign, ↓bxOp_pick, ↓bxOp_alloc, ↓bxOp_box, ↓bxOp_build, ↓bxOp_buildSlice, ↓bxOp_load, ↓bxOp_store, ↓bxOp_nilCheck, ↓bxOp_bin, ↓bxOp_un, ↓bxOp_makeI, ↓bxOp_makeFunc, ↓bxOp_makeSlice, ↓bxOp_slice, ↓bxOp_fieldAddr, ↓bxOp_field, ↓bxOp_indexAddr, ↓bxOp_index, ↓bxOp_assert, ↓bxOp_extract, ↓bxOp_value, ↓bxOp_len, ↓bxOp_cap, ↓bxOp_append, ↓bxOp_copy, ↓bxOp_max, ↓bxOp_min, ↓bxOp_convert, ↓sxPut_none, ↓bxPut, ↓seqQ_normal, ↓seqQ_exit, ↓seqQ_ret, ↓seqQ_goto, ↓blockQ_normal, ↓blockQ_ret, ↓blockQ_goto, ↓blockQ_exit, ↓loopQ_normal, ↓loopQ_exit, ↓loopQ_ret, ↓loopQ_goto, ↓resQ_normal, ↓resQ_ret, ↓sxRes_nil, ↓sxRes_tmp, ↓bxRes_cell, ↓upd_apply, ↓ev_tmp, ↓ev_const, ↓ev_global, ↓ev_func, ↓dstAt, ↓gval_some, sxOptB_some, sxOptB_ite, mm_max, mm_min, bin_shl, bin_shr, bin_int, intBin, una_not_dec, una_nt, una_nf, una_neg, aPick_true, aPick_false, sxCallVB_fn, sxCallVB_yield, sxGuardB_u, sxGuardB_tt, sxGuardB_tf, sxGuardB_ft, sxGuardB_ff, sxIfB_t, sxIfB_f, packRes_one, packRes_two, List.map_cons, List.map_nil, List.nil_append, List.cons_append, List.append_nil, ↓reduceIte, Nat.reduceEqDiff, Nat.reduceLT, dec_T, dec_F, false_imp, true_and, and_true, true_implies, implies_true, false_and, and_false, true_or, or_true, false_or, or_false, and_self, or_self, read_relow, size_relow, low_relow, relow_relow, aLoad_relow, Nat.add_zero, Nat.mul_one, one1, Option.bind_some, ne_eq, Int.natCast_nonneg, Int.toNat_natCast, not_true_eq_false, not_false_eq_true, Option.map_some, Option.map_none, *, argF, List.getD_cons_zero, List.getD_cons_succ, hc, ldB])

theorem isValid_runs (k : Int) (x : Rl) (cs : List Value) (H : Heap) (hx : ruleE.At H x cs) : ∃ H', Keep H H' ∧ Runs Tryd.prog S (.fn 44) [.int .i64 k, .agg ⟨cs⟩] H (.bool (decide (RuleOk k x))) H' := by
  obtain ⟨v1, r1, o1, rfl, hb, _⟩ := ruleE_inv hx
  suffices h : WCall Tryd.prog S (.fn 44) [.int .i64 k, .agg ⟨[v1, .int .i64 x.code]⟩] H (fun v H' => v = .bool (decide (RuleOk k x)) ∧ Keep H H') by
    obtain ⟨_, H', hr, rfl, hk⟩ := h; exact ⟨H', hk, hr⟩
  refine call_of Tryd.func44 rfl (Nat.le_of_ble_eq_true rfl) (hS.no rfl _ _) ?_
  rw [Tryd.ntmps44, Tryd.results44]
  obtain ⟨H1, e1, hK1, hs1, zz, hr1⟩ := box1 H [v1, .int .i64 x.code] 44
  clear zz
  have q0 : H1.read H.size 0 1 = some [v1] := hr1 0 1 (show 0 + 1 ≤ 2 by omega)
  have q1 : H1.read H.size 1 1 = some [.int .i64 x.code] := hr1 1 1 (show 1 + 1 ≤ 2 by omega)
  obtain ⟨H2, hK2, hR2⟩ := cfB_runs hS (fun b => ¬ BandOk b) v1 x.bands r1 o1 H1 (hb.keep hK1) (g := 65) (cs := []) fun H3 _ n xs _ hn => isValidL_runs hS n xs H3 hn
  have hb2 := hR2.bx
  have hKK := hK1.trans hK2
  obtain ⟨a, cap, rfl⟩ := hb.v0
  have hc : (Value.agg ⟨[.slice a x.bands.length cap, .int .i64 x.code]⟩).cells.toList = [.slice a x.bands.length cap, .int .i64 x.code] := rfl
  have hy : notYield (.func 65) = true := rfl
  clear hR2 hb hr1
  repeat' (first | (with_reducible refine sxGuardB_tsp (fun h => ?_) (fun h => ?_)) | (with_reducible refine sxGuardB_fsp (fun h => ?_) (fun h => ?_)) | (with_reducible refine sxIfB_sp (fun h => ?_) (fun h => ?_)) | (with_reducible refine sxD_bar (by kernel_rfl) ?_) | simp only [↓sxC_skip, ↓sxC_draw, ↓sxC_region, ↓sxC_seq, ↓bxC_cond, ↓bxC_loop, ↓sxC_block, ↓sxC_exit, ↓sxC_goto, ↓sxC_ret, ↓sxOps_nil, ↓sxOps_cons, ↓sxDraw_nil, ↓bxDraw_cons, ↓sxD_same, ↓sxStep_none, ↓bxStep_some, ↓bxOp_move, ↓bxOp_assign, ↓bxOp_pick, ↓bxOp_alloc, ↓bxOp_box, ↓bxOp_build, ↓bxOp_buildSlice, ↓bxOp_load, ↓bxOp_store, ↓bxOp_nilCheck, ↓bxOp_bin, ↓bxOp_un, ↓bxOp_makeI, ↓bxOp_makeFunc, ↓bxOp_makeSlice, ↓bxOp_slice, ↓bxOp_fieldAddr, ↓bxOp_field, ↓bxOp_indexAddr, ↓bxOp_index, ↓bxOp_assert, ↓bxOp_extract, ↓bxOp_value, ↓bxOp_len, ↓bxOp_cap, ↓bxOp_append, ↓bxOp_copy, ↓bxOp_max, ↓bxOp_min, ↓bxOp_convert, ↓sxPut_none, ↓bxPut, ↓seqQ_normal, ↓seqQ_exit, ↓seqQ_ret, ↓seqQ_goto, ↓blockQ_normal, ↓blockQ_ret, ↓blockQ_goto, ↓blockQ_exit, ↓loopQ_normal, ↓loopQ_exit, ↓loopQ_ret, ↓loopQ_goto, ↓resQ_normal, ↓resQ_ret, ↓sxRes_nil, ↓sxRes_tmp, ↓bxRes_cell, ↓upd_apply, ↓ev_tmp, ↓ev_const, ↓ev_global, ↓ev_func, ↓dstAt, ↓gval_some, sxOptB_some, sxOptB_ite, mm_max, mm_min, bin_shl, bin_shr, bin_int, intBin, una_not_dec, una_nt, una_nf, una_neg, aPick_true, aPick_false, sxCallVB_fn, sxCallVB_yield, sxGuardB_u, sxGuardB_tt, sxGuardB_tf, sxGuardB_ft, sxGuardB_ff, sxIfB_t, sxIfB_f, packRes_one, packRes_two, List.map_cons, List.map_nil, List.nil_append, List.cons_append, List.append_nil, ↓reduceIte, Nat.reduceEqDiff, Nat.reduceLT, dec_T, dec_F, false_imp, true_and, and_true, true_implies, implies_true, false_and, and_false, true_or, or_true, false_or, or_false, and_self, or_self, read_relow, size_relow, low_relow, relow_relow, aLoad_relow, Nat.add_zero, Nat.mul_one, one1, Option.bind_some, ne_eq, Int.natCast_nonneg, Int.toNat_natCast, not_true_eq_false, not_false_eq_true, Option.map_some, Option.map_none, *, argF, List.getD_cons_zero, List.getD_cons_succ, hc, faR0, faR1, ldI, ldBs, lenB, Nat.zero_add])
  all_goals first
    | exact bool_f fun (h : RuleOk k x) => by have := h.1; have := h.2.1; have := h.2.2.1; omega
    | exact bool_d (by unfold RuleOk; simp only [Decidable.not_not]; exact ⟨fun h1 => ⟨by omega, by omega, by omega, h1⟩, fun h1 => h1.2.2.2⟩)

theorem checkL_runs (k : Int) (rk : Nat) (x : Rl) (cs : List Value) (H : Heap) (hrk : rk < H.size) (hk : H.read rk 0 1 = some [.int .i64 k]) (hx : ruleE.At H x cs) :
    ∃ H', Keep H H' ∧ Runs Tryd.prog S (.fn 43) [.agg ⟨cs⟩, .pointer (some ⟨rk, 0, none⟩)] H (.bool (decide (¬ RuleOk k x))) H' := by
  have hx0 := hx
  obtain ⟨v1, r1, o1, rfl, hb, _⟩ := ruleE_inv hx0
  suffices h : WCall Tryd.prog S (.fn 43) [.agg ⟨[v1, .int .i64 x.code]⟩, .pointer (some ⟨rk, 0, none⟩)] H (fun v H' => v = .bool (decide (¬ RuleOk k x)) ∧ Keep H H') by
    obtain ⟨_, H', hr, rfl, hk⟩ := h; exact ⟨H', hk, hr⟩
  refine call_of Tryd.func43 rfl (Nat.le_of_ble_eq_true rfl) (hS.no rfl _ _) ?_
  rw [Tryd.ntmps43, Tryd.results43]
  obtain ⟨H1, e1, hK1, hs1, zz, hr1⟩ := box1 H [v1, .int .i64 x.code] 44
  clear zz
  have q0 : H1.read H.size 0 2 = some [v1, .int .i64 x.code] := hr1 0 2 (show 0 + 2 ≤ 2 by omega)
  have q1 := hK1.read hrk hk
  obtain ⟨H2, hK2, hR2⟩ := isValid_runs hS k x _ H1 (ruleE.keep hK1 hx)
  have hb2 := hR2.bx
  have hKK := hK1.trans hK2
  have hc : (Value.agg ⟨[v1, .int .i64 x.code]⟩).cells.toList = [v1, .int .i64 x.code] := rfl
  clear hR2 hb hr1 hx hk
  repeat' (first | (with_reducible refine sxGuardB_tsp (fun h => ?_) (fun h => ?_)) | (with_reducible refine sxGuardB_fsp (fun h => ?_) (fun h => ?_)) | (with_reducible refine sxIfB_sp (fun h => ?_) (fun h => ?_)) | (with_reducible refine sxD_bar (by kernel_rfl) ?_) | simp only [↓sxC_skip, ↓sxC_draw, ↓sxC_region, ↓sxC_seq, ↓bxC_cond, ↓bxC_loop, ↓sxC_block, ↓sxC_exit, ↓sxC_goto, ↓sxC_ret, ↓sxOps_nil, ↓sxOps_cons, ↓sxDraw_nil, ↓bxDraw_cons, ↓sxD_same, ↓sxStep_none, ↓bxStep_some, ↓bxOp_move, ↓bxOp_assign, ↓bxOp_pick, ↓bxOp_alloc, ↓bxOp_box, ↓bxOp_build, ↓bxOp_buildSlice, ↓bxOp_load, ↓bxOp_store, ↓bxOp_nilCheck, ↓bxOp_bin, ↓bxOp_un, ↓bxOp_makeI, ↓bxOp_makeFunc, ↓bxOp_makeSlice, ↓bxOp_slice, ↓bxOp_fieldAddr, ↓bxOp_field, ↓bxOp_indexAddr, ↓bxOp_index, ↓bxOp_assert, ↓bxOp_extract, ↓bxOp_value, ↓bxOp_len, ↓bxOp_cap, ↓bxOp_append, ↓bxOp_copy, ↓bxOp_max, ↓bxOp_min, ↓bxOp_convert, ↓sxPut_none, ↓bxPut, ↓seqQ_normal, ↓seqQ_exit, ↓seqQ_ret, ↓seqQ_goto, ↓blockQ_normal, ↓blockQ_ret, ↓blockQ_goto, ↓blockQ_exit, ↓loopQ_normal, ↓loopQ_exit, ↓loopQ_ret, ↓loopQ_goto, ↓resQ_normal, ↓resQ_ret, ↓sxRes_nil, ↓sxRes_tmp, ↓bxRes_cell, ↓upd_apply, ↓ev_tmp, ↓ev_const, ↓ev_global, ↓ev_func, ↓dstAt, ↓gval_some, sxOptB_some, sxOptB_ite, mm_max, mm_min, bin_shl, bin_shr, bin_int, intBin, una_not_dec, una_nt, una_nf, una_neg, aPick_true, aPick_false, sxCallVB_fn, sxCallVB_yield, sxGuardB_u, sxGuardB_tt, sxGuardB_tf, sxGuardB_ft, sxGuardB_ff, sxIfB_t, sxIfB_f, packRes_one, packRes_two, List.map_cons, List.map_nil, List.nil_append, List.cons_append, List.append_nil, ↓reduceIte, Nat.reduceEqDiff, Nat.reduceLT, dec_T, dec_F, false_imp, true_and, and_true, true_implies, implies_true, false_and, and_false, true_or, or_true, false_or, or_false, and_self, or_self, read_relow, size_relow, low_relow, relow_relow, aLoad_relow, Nat.add_zero, Nat.mul_one, one1, Option.bind_some, ne_eq, Int.natCast_nonneg, Int.toNat_natCast, not_true_eq_false, not_false_eq_true, Option.map_some, Option.map_none, *, argF, List.getD_cons_zero, List.getD_cons_succ, hc, ldI, ldR, Nat.zero_add])

theorem check_runs (k : Int) (v : Value) (t : List Rl) (r o : Nat) (H : Heap) (ht : SlR H v t r o) : ∃ H', Keep H H' ∧ Runs Tryd.prog S (.fn 21) [.int .i64 k, v] H (.int .i64 (chk k t)) H' := by
  suffices h : WCall Tryd.prog S (.fn 21) [.int .i64 k, v] H (fun v H' => v = .int .i64 (chk k t) ∧ Keep H H') by
    obtain ⟨_, H', hr, rfl, hk⟩ := h; exact ⟨H', hk, hr⟩
  obtain ⟨a, cap, rfl⟩ := ht.v0
  refine call_of Tryd.func21 rfl (Nat.le_of_ble_eq_true rfl) (hS.no rfl _ _) ?_
  rw [Tryd.ntmps21, Tryd.results21]
  have hc : (Value.int .i64 k).cells.toList = [.int .i64 k] := rfl
  obtain ⟨H1, e1, hK1, hs1, zz, hr1⟩ := box1 H [.int .i64 k] 3
  clear zz
  have q0 : H1.read H.size 0 1 = some [.int .i64 k] := hr1 0 1 (show 0 + 1 ≤ 1 by omega)
  have hcn := (isCount_runs hS k H1).bx
  obtain ⟨H2, hK2, hR2⟩ := cfR_runs hS (fun x => ¬ RuleOk k x) _ t r o H1 (ht.keep hK1) (g := 43) (cs := [.pointer (some ⟨H.size, 0, none⟩)]) fun H3 hK3 n xs _ hn =>
    checkL_runs hS k H.size n xs H3 (Nat.lt_of_lt_of_le hs1 hK3.size) (hK3.read hs1 q0) hn
  have hb2 := hR2.bx
  have hKK := hK1.trans hK2
  have hy : notYield (.func 43) = true := rfl
  clear hR2 ht hr1
  repeat' (first | (with_reducible refine sxGuardB_tsp (fun h => ?_) (fun h => ?_)) | (with_reducible refine sxGuardB_fsp (fun h => ?_) (fun h => ?_)) | (with_reducible refine sxIfB_sp (fun h => ?_) (fun h => ?_)) | (with_reducible refine sxD_bar (by kernel_rfl) ?_) | simp only [↓sxC_skip, ↓sxC_draw, ↓sxC_region, ↓sxC_seq, ↓bxC_cond, ↓bxC_loop, ↓sxC_block, ↓sxC_exit, ↓sxC_goto, ↓sxC_ret, ↓sxOps_nil, ↓sxOps_cons, ↓sxDraw_nil, ↓bxDraw_cons, ↓sxD_same, ↓sxStep_none, ↓bxStep_some, ↓bxOp_move, ↓bxOp_assign, ↓bxOp_pick, ↓bxOp_alloc, ↓bxOp_box, ↓bxOp_build, ↓bxOp_buildSlice, ↓bxOp_load, ↓bxOp_store, ↓bxOp_nilCheck, ↓bxOp_bin, ↓bxOp_un, ↓bxOp_makeI, ↓bxOp_makeFunc, ↓bxOp_makeSlice, ↓bxOp_slice, ↓bxOp_fieldAddr, ↓bxOp_field, ↓bxOp_indexAddr, ↓bxOp_index, ↓bxOp_assert, ↓bxOp_extract, ↓bxOp_value, ↓bxOp_len, ↓bxOp_cap, ↓bxOp_append, ↓bxOp_copy, ↓bxOp_max, ↓bxOp_min, ↓bxOp_convert, ↓sxPut_none, ↓bxPut, ↓seqQ_normal, ↓seqQ_exit, ↓seqQ_ret, ↓seqQ_goto, ↓blockQ_normal, ↓blockQ_ret, ↓blockQ_goto, ↓blockQ_exit, ↓loopQ_normal, ↓loopQ_exit, ↓loopQ_ret, ↓loopQ_goto, ↓resQ_normal, ↓resQ_ret, ↓sxRes_nil, ↓sxRes_tmp, ↓bxRes_cell, ↓upd_apply, ↓ev_tmp, ↓ev_const, ↓ev_global, ↓ev_func, ↓dstAt, ↓gval_some, sxOptB_some, sxOptB_ite, mm_max, mm_min, bin_shl, bin_shr, bin_int, intBin, una_not_dec, una_nt, una_nf, una_neg, aPick_true, aPick_false, sxCallVB_fn, sxCallVB_yield, sxGuardB_u, sxGuardB_tt, sxGuardB_tf, sxGuardB_ft, sxGuardB_ff, sxIfB_t, sxIfB_f, packRes_one, packRes_two, List.map_cons, List.map_nil, List.nil_append, List.cons_append, List.append_nil, ↓reduceIte, Nat.reduceEqDiff, Nat.reduceLT, dec_T, dec_F, false_imp, true_and, and_true, true_implies, implies_true, false_and, and_false, true_or, or_true, false_or, or_false, and_self, or_self, read_relow, size_relow, low_relow, relow_relow, aLoad_relow, Nat.add_zero, Nat.mul_one, one1, Option.bind_some, ne_eq, Int.natCast_nonneg, Int.toNat_natCast, not_true_eq_false, not_false_eq_true, Option.map_some, Option.map_none, *, argF, List.getD_cons_zero, List.getD_cons_succ, hc, ldI, lenR, Nat.zero_add])
  all_goals refine congrArg (Value.int .i64) ?_
  all_goals first
    | (rw [chk, if_pos (by omega)]; done)
    | (rw [chk, if_neg (by omega), if_pos (by omega)]; done)
    | (rw [chk, if_neg (by omega), if_neg (by omega), if_neg (fun hc => ‹¬ ∀ x ∈ t, ¬ ¬ RuleOk k x› (fun x hx hn => hn (hc x hx)))]; done)
    | (rw [chk, if_neg (by omega), if_neg (by omega), if_pos (fun x hx => Decidable.not_not.1 (Decidable.not_not.1 ‹¬ ¬ ∀ x ∈ t, ¬ ¬ RuleOk k x› x hx))]; done)
end Go.Proofs.YtmllfacipbpkfaaDoor
