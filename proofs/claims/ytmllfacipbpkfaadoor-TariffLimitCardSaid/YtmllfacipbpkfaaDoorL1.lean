/- The law TariffLimit comes to true on the canonical machine, for all arguments; the closed example is taken as known. -/
import Derived.Test.YtmllfacipbpkfaaDoorC6
import Derived.Test.YtmllfacipbpkfaaDoorGj
set_option linter.unusedVariables false
set_option linter.unusedSimpArgs false
set_option linter.unusedSectionVars false

namespace Go.Proofs.YtmllfacipbpkfaaDoor
open Go Go.AM
set_option maxRecDepth 10000
set_option linter.unusedSimpArgs false
set_option linter.unusedVariables false

theorem bsI (H : Heap) (z : Int) : aBuildSlice Tryd.prog H 23 1 [(0, .int .i64 z)] = some (.slice (some ⟨H.size, 0, none⟩) 1 1, H.newExact [.int .i64 z] 3) := by kernel_rfl
theorem bdN (r1 o1 n1 c1 r2 o2 n2 c2 : Nat) : aBuild Tryd.prog 32 [(1, .slice (some ⟨r1, o1, none⟩) n1 c1), (2, .slice (some ⟨r2, o2, none⟩) n2 c2)] = some (.agg ⟨[.int .i64 0, .slice (some ⟨r1, o1, none⟩) n1 c1, .slice (some ⟨r2, o2, none⟩) n2 c2]⟩) := by kernel_rfl
theorem cv16 (n : Int) : aConv Tryd.prog 36 3 (.int .u16 n) = some (.int .i64 (IntKind.i64.wrap n)) := by kernel_rfl
theorem infoN2 : ∃ i z, Tryd.prog.info? 32 = some i ∧ i.size = 3 ∧ i.zero = some z ∧ plain z = true ∧ z.cells.toList.length = 3 ∧ i.bytes ≤ 65536 := ⟨Tryd.t32, .agg ⟨[.int .i64 0, .slice none 0 0, .slice none 0 0]⟩, by kernel_rfl, by kernel_rfl, by kernel_rfl, by kernel_rfl, by kernel_rfl, of_decide_eq_true (by kernel_rfl)⟩
theorem mkN (H : Heap) {l : Int} (h0 : 0 ≤ l) (h1 : l ≤ 268435456) : ∃ Z, Z.length = l.toNat * 3 ∧ aMakeSlice Tryd.prog H 30 (.int .i64 l) (.int .i64 l) = some (.slice (some ⟨H.size, 0, none⟩) l.toNat l.toNat, H.newExact Z 32) := by
  obtain ⟨i, z, h2, h3, h4, h5, h6, h7⟩ := infoN2
  exact ⟨_, by rw [zeroRow_length, h3], makeSlice_eq Tryd.underlying30 h2 h4 h5 (h6.trans h3.symm) h7 H .i64 .i64 h0 h1⟩

def nd9 : Nd := ⟨0, [1000], [-9]⟩
theorem res_limit (n : Nat) (hn : 0 < n) (v : Int) (hv : 0 ≤ v ∧ v ≤ 999) : folRes 1 (List.replicate n nd9) [v] = if n ≤ 200000 then (7, 0) else (0, 2) := by
  have hnd : ∀ x ∈ List.replicate n nd9, x = nd9 := fun x hx => List.eq_of_mem_replicate hx
  have hok : NodeOk 1 (List.replicate n nd9) nd9 := ⟨by decide, by decide, by decide, rfl, fun t ht => by
    have : t = -9 := by simpa [nd9] using ht
    subst this
    exact ⟨by omega, fun h => by omega⟩⟩
  have hT : IsThing 1 [v] := ⟨by simp, fun x hx => by simp at hx; omega⟩
  have hfol : fol (List.replicate n nd9) [v] 5 0 = -9 := by
    have h1 : (List.replicate n nd9).getD (Int.toNat 0) default = nd9 := by
      obtain ⟨m, rfl⟩ : ∃ m, n = m + 1 := ⟨n - 1, by omega⟩
      rfl
    have h2 : nxt (List.replicate n nd9) [v] 0 = -9 := by
      unfold nxt
      rw [h1]
      have h3 : ix v [1000] = 0 := by unfold ix; rw [if_pos (by omega)]
      show nd9.to.getD (ix v [1000]) 0 = -9
      rw [h3]; rfl
    unfold fol
    rw [if_neg (by omega), h2]
    exact fol_neg _ _ _ (by omega)
  unfold folRes
  by_cases h : n ≤ 200000
  · rw [if_pos h, if_pos ⟨by omega, by omega, hT, by rw [List.length_replicate]; exact hn, by rw [List.length_replicate]; exact h, fun x hx => by rw [hnd x hx]; exact hok⟩, hfol]
    rfl
  · rw [if_neg h, if_neg (fun hc => h (by have := hc.2.2.2.2.1; rwa [List.length_replicate] at this))]

variable {S : AM.Sys} (hS : Only S 8)
include hS

set_option maxHeartbeats 1000000 in
/-- THE LAW, on the canonical machine. -/
theorem limit_runs (more : Bool) (value : Int) (H : Heap) (hL : H.low ≤ H.size) (h0 : 0 ≤ value ∧ value ≤ 65535)
    (hO : ∀ H', Keep H H' → S.O 8 [] H') : ∃ H', Runs Tryd.prog S (.fn 5) [.bool more, .int .u16 value] H (.bool true) H' := by
  suffices h : WCall Tryd.prog S (.fn 5) [.bool more, .int .u16 value] H (fun v H' => v = .bool true) by
    obtain ⟨_, H', hr, rfl⟩ := h; exact ⟨H', hr⟩
  refine call_of Tryd.func5 rfl (Nat.le_of_ble_eq_true rfl) (hS.no rfl _ _) ?_
  rw [Tryd.ntmps5, Tryd.results5]
  have hq : (0 : Int) ≤ value.tmod 1000 ∧ value.tmod 1000 ≤ 999 := by rw [Int.tmod_eq_emod_of_nonneg h0.1]; omega
  have hne : ¬ ((1000 : Int) = 0) := by omega
  have hwv : IntKind.i64.wrap (value.tmod 1000) = value.tmod 1000 := IntWalk.i64_in _ (by omega)
  obtain ⟨i, z, hi, hs, _, _, _, _⟩ := infoN2
  cases more
  · obtain ⟨Z, hZl, hmk⟩ := mkN H (l := 200000) (by omega) (by omega)
    obtain ⟨n, hn⟩ : ∃ n : Nat, n = (200000 : Int).toNat := ⟨_, rfl⟩
    have hn' : (n : Int) = 200000 := by omega
    rw [← hn] at hZl hmk
    clear hn
    skip
    obtain ⟨H1, e1, hK1, hs1, zz, _⟩ := box1 H Z 32
    clear zz
    have w1 : Own H1 H.size 32 Z := e1 ▸ Own.new H Z 32
    obtain ⟨H2, e2, hK2, hs2, zz, _⟩ := box1 H1 [.int .i64 1000] 3
    clear zz
    have w2 : Own H2 H1.size 3 [.int .i64 1000] := e2 ▸ Own.new H1 _ _
    obtain ⟨H3, e3, hK3, hs3, zz, _⟩ := box1 H2 [.int .i64 (-9)] 3
    clear zz
    have w3 : Own H3 H2.size 3 [.int .i64 (-9)] := e3 ▸ Own.new H2 _ _
    have hK := (hK1.trans hK2).trans hK3
    have b1 := bsI H1 1000
    have b2 := bsI H2 (-9)
    repeat' (first | (with_reducible refine sxGuardB_tsp (fun h => ?_) (fun h => ?_)) | (with_reducible refine sxGuardB_fsp (fun h => ?_) (fun h => ?_)) | (with_reducible refine sxIfB_sp (fun h => ?_) (fun h => ?_)) | simp only [↓sxC_skip, ↓sxC_draw, ↓sxC_region, ↓sxC_seq, ↓bxC_cond, ↓bxC_loop, ↓sxC_block, ↓sxC_exit, ↓sxC_goto, ↓sxC_ret, ↓sxOps_nil, ↓sxOps_cons, ↓sxDraw_nil, ↓bxDraw_cons, ↓sxD_same, ↓sxStep_none, ↓bxStep_some, ↓bxOp_move, ↓bxOp_assign, ↓bxOp_pick, ↓bxOp_alloc, ↓bxOp_box, ↓bxOp_build, ↓bxOp_buildSlice, ↓bxOp_load, ↓bxOp_store, ↓bxOp_nilCheck, ↓bxOp_bin, ↓bxOp_un, ↓bxOp_makeI, ↓bxOp_makeFunc, ↓bxOp_makeSlice, ↓bxOp_slice, ↓bxOp_fieldAddr, ↓bxOp_field, ↓bxOp_indexAddr, ↓bxOp_index, ↓bxOp_assert, ↓bxOp_extract, ↓bxOp_value, ↓bxOp_len, ↓bxOp_cap, ↓bxOp_append, ↓bxOp_copy, ↓bxOp_max, ↓bxOp_min, ↓bxOp_convert, ↓sxPut_none, ↓bxPut, ↓seqQ_normal, ↓seqQ_exit, ↓seqQ_ret, ↓seqQ_goto, ↓blockQ_normal, ↓blockQ_ret, ↓blockQ_goto, ↓blockQ_exit, ↓loopQ_normal, ↓loopQ_exit, ↓loopQ_ret, ↓loopQ_goto, ↓resQ_normal, ↓resQ_ret, ↓sxRes_nil, ↓sxRes_tmp, ↓bxRes_cell, ↓upd_apply, ↓ev_tmp, ↓ev_const, ↓ev_global, ↓ev_func, ↓dstAt, ↓gval_some, sxOptB_some, sxOptB_ite, mm_max, mm_min, bin_shl, bin_shr, bin_int, intBin, una_not_dec, una_nt, una_nf, una_neg, aPick_true, aPick_false, sxCallVB_fn, sxCallVB_yield, sxGuardB_u, sxGuardB_tt, sxGuardB_tf, sxGuardB_ft, sxGuardB_ff, sxIfB_t, sxIfB_f, packRes_one, packRes_two, List.map_cons, List.map_nil, List.nil_append, List.cons_append, List.append_nil, ↓reduceIte, Nat.reduceEqDiff, Nat.reduceLT, dec_T, dec_F, false_imp, true_and, and_true, true_implies, implies_true, false_and, and_false, true_or, or_true, false_or, or_false, and_self, or_self, read_relow, size_relow, low_relow, relow_relow, aLoad_relow, Nat.add_zero, Nat.mul_one, one1, Option.bind_some, ne_eq, Int.natCast_nonneg, Int.toNat_natCast, not_true_eq_false, not_false_eq_true, Option.map_some, Option.map_none, *, argF, List.getD_cons_zero, List.getD_cons_succ, lenI, lenN, ex0, ex1])
    refine sxL_of (fun m ρ H4 => ∃ (j : Nat) (Zj : List Value), m = n - j ∧ j ≤ n ∧ Keep H H4 ∧ Own H4 H.size 32 Zj ∧ Own H4 H1.size 3 [.int .i64 1000] ∧ Own H4 H2.size 3 [.int .i64 (-9)] ∧ Zj.length = n * 3 ∧
      (∀ i, i < j → (Zj.drop (i * 3)).take 3 = [.int .i64 0, .slice (some ⟨H1.size, 0, none⟩) 1 1, .slice (some ⟨H2.size, 0, none⟩) 1 1]) ∧ ρ 0 = .bool false ∧ ρ 1 = .int .u16 value ∧ ρ 5 = .int .i64 200000 ∧ ρ 6 = .slice (some ⟨H.size, 0, none⟩) n n ∧
      ρ 7 = .slice (some ⟨H1.size, 0, none⟩) 1 1 ∧ ρ 8 = .slice (some ⟨H2.size, 0, none⟩) 1 1 ∧ ρ 9 = .int .i64 j)
      ⟨0, Z, rfl, Nat.zero_le _, hK, (w1.keep hK2).keep hK3, w2.keep hK3, w3, hZl, fun i hi => absurd hi (Nat.not_lt_zero i), rfl, rfl, rfl, rfl, rfl, rfl, rfl⟩ ?_
    clear b1 b2 hmk e1 e2 e3
    rintro m ρ H4 ⟨j, Zj, rfl, hj, hK4, o1, o2, o3, hZj, hall, r0, r1, r5, r6, r7, r8, r9⟩
    by_cases hlt : j < n
    · have hlt' : (j : Int) < 200000 := by omega
      have p1 : aIndexAt Tryd.prog 30 (.slice (some ⟨H.size, 0, none⟩) n n) (.int .i64 (j : Int)) = some (.pointer (some ⟨H.size, 0 + j * 3, none⟩)) := by rw [ixN, if_pos ⟨by omega, by omega⟩, Int.toNat_natCast]
      have hjl : 0 + j * 3 + 3 ≤ Zj.length := by omega
      obtain ⟨H5, p2, o1', hsz, hoth, hkp⟩ := o1.store (t := 32) hi (v := .agg ⟨[.int .i64 0, .slice (some ⟨H1.size, 0, none⟩) 1 1, .slice (some ⟨H2.size, 0, none⟩) 1 1]⟩) rfl hs rfl (o := 0 + j * 3) hjl
      have hK5 := hkp H hK4 (Nat.le_refl _)
      have p3 := wrap_succ (k := j) (n := n) hlt (by show n ≤ 9223372036854775807; omega)
      have p4 := bdN H1.size 0 1 1 H2.size 0 1 1
      have f1 := hoth _ _ _ (by omega) o2
      have f2 := hoth _ _ _ (by omega) o3
      rw [Nat.zero_add] at p1 p2 o1' hjl
      clear hsz hoth hkp
      repeat' (first | (with_reducible refine sxGuardB_tsp (fun h => ?_) (fun h => ?_)) | (with_reducible refine sxGuardB_fsp (fun h => ?_) (fun h => ?_)) | (with_reducible refine sxIfB_sp (fun h => ?_) (fun h => ?_)) | simp only [↓sxC_skip, ↓sxC_draw, ↓sxC_region, ↓sxC_seq, ↓bxC_cond, ↓bxC_loop, ↓sxC_block, ↓sxC_exit, ↓sxC_goto, ↓sxC_ret, ↓sxOps_nil, ↓sxOps_cons, ↓sxDraw_nil, ↓bxDraw_cons, ↓sxD_same, ↓sxStep_none, ↓bxStep_some, ↓bxOp_move, ↓bxOp_assign, ↓bxOp_pick, ↓bxOp_alloc, ↓bxOp_box, ↓bxOp_build, ↓bxOp_buildSlice, ↓bxOp_load, ↓bxOp_store, ↓bxOp_nilCheck, ↓bxOp_bin, ↓bxOp_un, ↓bxOp_makeI, ↓bxOp_makeFunc, ↓bxOp_makeSlice, ↓bxOp_slice, ↓bxOp_fieldAddr, ↓bxOp_field, ↓bxOp_indexAddr, ↓bxOp_index, ↓bxOp_assert, ↓bxOp_extract, ↓bxOp_value, ↓bxOp_len, ↓bxOp_cap, ↓bxOp_append, ↓bxOp_copy, ↓bxOp_max, ↓bxOp_min, ↓bxOp_convert, ↓sxPut_none, ↓bxPut, ↓seqQ_normal, ↓seqQ_exit, ↓seqQ_ret, ↓seqQ_goto, ↓blockQ_normal, ↓blockQ_ret, ↓blockQ_goto, ↓blockQ_exit, ↓loopQ_normal, ↓loopQ_exit, ↓loopQ_ret, ↓loopQ_goto, ↓resQ_normal, ↓resQ_ret, ↓sxRes_nil, ↓sxRes_tmp, ↓bxRes_cell, ↓upd_apply, ↓ev_tmp, ↓ev_const, ↓ev_global, ↓ev_func, ↓dstAt, ↓gval_some, sxOptB_some, sxOptB_ite, mm_max, mm_min, bin_shl, bin_shr, bin_int, intBin, una_not_dec, una_nt, una_nf, una_neg, aPick_true, aPick_false, sxCallVB_fn, sxCallVB_yield, sxGuardB_u, sxGuardB_tt, sxGuardB_tf, sxGuardB_ft, sxGuardB_ff, sxIfB_t, sxIfB_f, packRes_one, packRes_two, List.map_cons, List.map_nil, List.nil_append, List.cons_append, List.append_nil, ↓reduceIte, Nat.reduceEqDiff, Nat.reduceLT, dec_T, dec_F, false_imp, true_and, and_true, true_implies, implies_true, false_and, and_false, true_or, or_true, false_or, or_false, and_self, or_self, read_relow, size_relow, low_relow, relow_relow, aLoad_relow, Nat.add_zero, Nat.mul_one, one1, Option.bind_some, ne_eq, Int.natCast_nonneg, Int.toNat_natCast, not_true_eq_false, not_false_eq_true, Option.map_some, Option.map_none, *, lenI, lenN])
      exact ⟨n - (j + 1), by omega, j + 1, _, rfl, by omega, o1', by rw [splice_length hjl]; exact hZj, fun i hi => by
        rcases Nat.lt_or_ge i j with h | h
        · rw [splice_before hjl (by omega)]; exact hall i h
        · rw [show i = j by omega]; exact splice_at (l := Zj) (off := j * 3) (vs := [.int .i64 0, .slice (some ⟨H1.size, 0, none⟩) 1 1, .slice (some ⟨H2.size, 0, none⟩) 1 1]) hjl, rfl⟩
    · have hlt' : ¬ (200000 : Int) < 200000 := by omega
      have hje : j = n := by omega
      subst hje
      obtain ⟨H5, e5, hK5, hs5, zz, hr5⟩ := box1 H4 [.int .i64 (value.tmod 1000)] 3
      clear zz
      have w5 : Own H5 H4.size 3 [.int .i64 (value.tmod 1000)] := e5 ▸ Own.new H4 _ _
      have hK45 := hK4.trans hK5
      have hmx : Go.maxLen = 9223372036854775807 := rfl
      have sx : SlI .i64 H5 (.slice (some ⟨H4.size, 0, none⟩) 1 1) [value.tmod 1000] H4.size 0 := ⟨⟨_, 1, rfl, fun _ => rfl⟩, fun i hi => by
        have hi0 : i = 0 := by simpa using hi
        subst hi0
        exact ⟨_, w5.read (o := 0) (n := 1) (show 0 + 1 ≤ 1 by omega), rfl, show -9223372036854775808 ≤ value.tmod 1000 by omega, show value.tmod 1000 ≤ 9223372036854775807 by omega⟩, fun _ => w5.lt, by simp; omega⟩
      have sc : SlI .i64 H5 (.slice (some ⟨H1.size, 0, none⟩) 1 1) [1000] H1.size 0 := ⟨⟨_, 1, rfl, fun _ => rfl⟩, fun i hi => by
        have hi0 : i = 0 := by simpa using hi
        subst hi0
        exact ⟨_, (o2.keep hK5).read (o := 0) (n := 1) (show 0 + 1 ≤ 1 by omega), rfl, by decide, by decide⟩, fun _ => (o2.keep hK5).lt, by simp; omega⟩
      have st : SlI .i64 H5 (.slice (some ⟨H2.size, 0, none⟩) 1 1) [-9] H2.size 0 := ⟨⟨_, 1, rfl, fun _ => rfl⟩, fun i hi => by
        have hi0 : i = 0 := by simpa using hi
        subst hi0
        exact ⟨_, (o3.keep hK5).read (o := 0) (n := 1) (show 0 + 1 ≤ 1 by omega), rfl, by decide, by decide⟩, fun _ => (o3.keep hK5).lt, by simp; omega⟩
      have sd : SlN H5 (.slice (some ⟨H.size, 0, none⟩) j j) (List.replicate j nd9) H.size 0 := ⟨⟨_, j, by rw [List.length_replicate], fun _ => rfl⟩, fun i hi => by
        rw [List.length_replicate] at hi
        have h1 := (o1.keep hK5).read (o := 0 + i * 3) (n := 3) (by omega)
        rw [Nat.zero_add, hall i hi] at h1
        refine ⟨_, by rw [Nat.zero_add]; exact h1, ?_⟩
        rw [List.getD_eq_getElem?_getD, List.getElem?_replicate_of_lt hi]
        exact ⟨[.int .i64 0], _, rfl, ⟨rfl, by decide, by decide⟩, [_], [_], rfl, ⟨_, _, _, rfl, sc⟩, ⟨_, _, _, rfl, st⟩⟩, fun _ => (o1.keep hK5).lt, by rw [List.length_replicate]; omega⟩
      obtain ⟨H6, hK6, hR6⟩ := Follow_runs hS 1 _ _ _ _ _ _ _ _ H5 (hK45.low hL) sd sx
      rw [res_limit j (by omega) _ hq] at hR6
      rw [if_pos (by omega)] at hR6
      have hb := hR6.bx
      have hk2 : ∀ (K : Value → Heap → Prop) (b : Blk K), sxCallB Tryd.prog S (.fn 8) [] H6 K b = K (.bool true) H6 := fun K b => known_bx (hO H6 (hK45.trans hK6))
      have b5 := bsI H4 (value.tmod 1000)
      clear hR6 sd sx sc st o1 o2 o3 w5 hr5 hall hmx
      repeat' (first | (with_reducible refine sxGuardB_tsp (fun h => ?_) (fun h => ?_)) | (with_reducible refine sxGuardB_fsp (fun h => ?_) (fun h => ?_)) | (with_reducible refine sxIfB_sp (fun h => ?_) (fun h => ?_)) | simp only [↓sxC_skip, ↓sxC_draw, ↓sxC_region, ↓sxC_seq, ↓bxC_cond, ↓bxC_loop, ↓sxC_block, ↓sxC_exit, ↓sxC_goto, ↓sxC_ret, ↓sxOps_nil, ↓sxOps_cons, ↓sxDraw_nil, ↓bxDraw_cons, ↓sxD_same, ↓sxStep_none, ↓bxStep_some, ↓bxOp_move, ↓bxOp_assign, ↓bxOp_pick, ↓bxOp_alloc, ↓bxOp_box, ↓bxOp_build, ↓bxOp_buildSlice, ↓bxOp_load, ↓bxOp_store, ↓bxOp_nilCheck, ↓bxOp_bin, ↓bxOp_un, ↓bxOp_makeI, ↓bxOp_makeFunc, ↓bxOp_makeSlice, ↓bxOp_slice, ↓bxOp_fieldAddr, ↓bxOp_field, ↓bxOp_indexAddr, ↓bxOp_index, ↓bxOp_assert, ↓bxOp_extract, ↓bxOp_value, ↓bxOp_len, ↓bxOp_cap, ↓bxOp_append, ↓bxOp_copy, ↓bxOp_max, ↓bxOp_min, ↓bxOp_convert, ↓sxPut_none, ↓bxPut, ↓seqQ_normal, ↓seqQ_exit, ↓seqQ_ret, ↓seqQ_goto, ↓blockQ_normal, ↓blockQ_ret, ↓blockQ_goto, ↓blockQ_exit, ↓loopQ_normal, ↓loopQ_exit, ↓loopQ_ret, ↓loopQ_goto, ↓resQ_normal, ↓resQ_ret, ↓sxRes_nil, ↓sxRes_tmp, ↓bxRes_cell, ↓upd_apply, ↓ev_tmp, ↓ev_const, ↓ev_global, ↓ev_func, ↓dstAt, ↓gval_some, sxOptB_some, sxOptB_ite, mm_max, mm_min, bin_shl, bin_shr, bin_int, intBin, una_not_dec, una_nt, una_nf, una_neg, aPick_true, aPick_false, sxCallVB_fn, sxCallVB_yield, sxGuardB_u, sxGuardB_tt, sxGuardB_tf, sxGuardB_ft, sxGuardB_ff, sxIfB_t, sxIfB_f, packRes_one, packRes_two, List.map_cons, List.map_nil, List.nil_append, List.cons_append, List.append_nil, ↓reduceIte, Nat.reduceEqDiff, Nat.reduceLT, dec_T, dec_F, false_imp, true_and, and_true, true_implies, implies_true, false_and, and_false, true_or, or_true, false_or, or_false, and_self, or_self, read_relow, size_relow, low_relow, relow_relow, aLoad_relow, Nat.add_zero, Nat.mul_one, one1, Option.bind_some, ne_eq, Int.natCast_nonneg, Int.toNat_natCast, not_true_eq_false, not_false_eq_true, Option.map_some, Option.map_none, *, lenI, lenN, ex0, ex1, cv16])
      all_goals trace_state
  · obtain ⟨Z, hZl, hmk⟩ := mkN H (l := 200001) (by omega) (by omega)
    obtain ⟨n, hn⟩ : ∃ n : Nat, n = (200001 : Int).toNat := ⟨_, rfl⟩
    have hn' : (n : Int) = 200001 := by omega
    rw [← hn] at hZl hmk
    clear hn
    have hw1 : IntKind.i64.wrap (200000 + 1) = 200001 := by rw [IntWalk.i64_in _ (by omega)]; omega
    obtain ⟨H1, e1, hK1, hs1, zz, _⟩ := box1 H Z 32
    clear zz
    have w1 : Own H1 H.size 32 Z := e1 ▸ Own.new H Z 32
    obtain ⟨H2, e2, hK2, hs2, zz, _⟩ := box1 H1 [.int .i64 1000] 3
    clear zz
    have w2 : Own H2 H1.size 3 [.int .i64 1000] := e2 ▸ Own.new H1 _ _
    obtain ⟨H3, e3, hK3, hs3, zz, _⟩ := box1 H2 [.int .i64 (-9)] 3
    clear zz
    have w3 : Own H3 H2.size 3 [.int .i64 (-9)] := e3 ▸ Own.new H2 _ _
    have hK := (hK1.trans hK2).trans hK3
    have b1 := bsI H1 1000
    have b2 := bsI H2 (-9)
    repeat' (first | (with_reducible refine sxGuardB_tsp (fun h => ?_) (fun h => ?_)) | (with_reducible refine sxGuardB_fsp (fun h => ?_) (fun h => ?_)) | (with_reducible refine sxIfB_sp (fun h => ?_) (fun h => ?_)) | simp only [↓sxC_skip, ↓sxC_draw, ↓sxC_region, ↓sxC_seq, ↓bxC_cond, ↓bxC_loop, ↓sxC_block, ↓sxC_exit, ↓sxC_goto, ↓sxC_ret, ↓sxOps_nil, ↓sxOps_cons, ↓sxDraw_nil, ↓bxDraw_cons, ↓sxD_same, ↓sxStep_none, ↓bxStep_some, ↓bxOp_move, ↓bxOp_assign, ↓bxOp_pick, ↓bxOp_alloc, ↓bxOp_box, ↓bxOp_build, ↓bxOp_buildSlice, ↓bxOp_load, ↓bxOp_store, ↓bxOp_nilCheck, ↓bxOp_bin, ↓bxOp_un, ↓bxOp_makeI, ↓bxOp_makeFunc, ↓bxOp_makeSlice, ↓bxOp_slice, ↓bxOp_fieldAddr, ↓bxOp_field, ↓bxOp_indexAddr, ↓bxOp_index, ↓bxOp_assert, ↓bxOp_extract, ↓bxOp_value, ↓bxOp_len, ↓bxOp_cap, ↓bxOp_append, ↓bxOp_copy, ↓bxOp_max, ↓bxOp_min, ↓bxOp_convert, ↓sxPut_none, ↓bxPut, ↓seqQ_normal, ↓seqQ_exit, ↓seqQ_ret, ↓seqQ_goto, ↓blockQ_normal, ↓blockQ_ret, ↓blockQ_goto, ↓blockQ_exit, ↓loopQ_normal, ↓loopQ_exit, ↓loopQ_ret, ↓loopQ_goto, ↓resQ_normal, ↓resQ_ret, ↓sxRes_nil, ↓sxRes_tmp, ↓bxRes_cell, ↓upd_apply, ↓ev_tmp, ↓ev_const, ↓ev_global, ↓ev_func, ↓dstAt, ↓gval_some, sxOptB_some, sxOptB_ite, mm_max, mm_min, bin_shl, bin_shr, bin_int, intBin, una_not_dec, una_nt, una_nf, una_neg, aPick_true, aPick_false, sxCallVB_fn, sxCallVB_yield, sxGuardB_u, sxGuardB_tt, sxGuardB_tf, sxGuardB_ft, sxGuardB_ff, sxIfB_t, sxIfB_f, packRes_one, packRes_two, List.map_cons, List.map_nil, List.nil_append, List.cons_append, List.append_nil, ↓reduceIte, Nat.reduceEqDiff, Nat.reduceLT, dec_T, dec_F, false_imp, true_and, and_true, true_implies, implies_true, false_and, and_false, true_or, or_true, false_or, or_false, and_self, or_self, read_relow, size_relow, low_relow, relow_relow, aLoad_relow, Nat.add_zero, Nat.mul_one, one1, Option.bind_some, ne_eq, Int.natCast_nonneg, Int.toNat_natCast, not_true_eq_false, not_false_eq_true, Option.map_some, Option.map_none, *, argF, List.getD_cons_zero, List.getD_cons_succ, lenI, lenN, ex0, ex1])
    refine sxL_of (fun m ρ H4 => ∃ (j : Nat) (Zj : List Value), m = n - j ∧ j ≤ n ∧ Keep H H4 ∧ Own H4 H.size 32 Zj ∧ Own H4 H1.size 3 [.int .i64 1000] ∧ Own H4 H2.size 3 [.int .i64 (-9)] ∧ Zj.length = n * 3 ∧
      (∀ i, i < j → (Zj.drop (i * 3)).take 3 = [.int .i64 0, .slice (some ⟨H1.size, 0, none⟩) 1 1, .slice (some ⟨H2.size, 0, none⟩) 1 1]) ∧ ρ 0 = .bool true ∧ ρ 1 = .int .u16 value ∧ ρ 5 = .int .i64 200001 ∧ ρ 6 = .slice (some ⟨H.size, 0, none⟩) n n ∧
      ρ 7 = .slice (some ⟨H1.size, 0, none⟩) 1 1 ∧ ρ 8 = .slice (some ⟨H2.size, 0, none⟩) 1 1 ∧ ρ 9 = .int .i64 j)
      ⟨0, Z, rfl, Nat.zero_le _, hK, (w1.keep hK2).keep hK3, w2.keep hK3, w3, hZl, fun i hi => absurd hi (Nat.not_lt_zero i), rfl, rfl, rfl, rfl, rfl, rfl, rfl⟩ ?_
    clear b1 b2 hmk e1 e2 e3
    rintro m ρ H4 ⟨j, Zj, rfl, hj, hK4, o1, o2, o3, hZj, hall, r0, r1, r5, r6, r7, r8, r9⟩
    by_cases hlt : j < n
    · have hlt' : (j : Int) < 200001 := by omega
      have p1 : aIndexAt Tryd.prog 30 (.slice (some ⟨H.size, 0, none⟩) n n) (.int .i64 (j : Int)) = some (.pointer (some ⟨H.size, 0 + j * 3, none⟩)) := by rw [ixN, if_pos ⟨by omega, by omega⟩, Int.toNat_natCast]
      have hjl : 0 + j * 3 + 3 ≤ Zj.length := by omega
      obtain ⟨H5, p2, o1', hsz, hoth, hkp⟩ := o1.store (t := 32) hi (v := .agg ⟨[.int .i64 0, .slice (some ⟨H1.size, 0, none⟩) 1 1, .slice (some ⟨H2.size, 0, none⟩) 1 1]⟩) rfl hs rfl (o := 0 + j * 3) hjl
      have hK5 := hkp H hK4 (Nat.le_refl _)
      have p3 := wrap_succ (k := j) (n := n) hlt (by show n ≤ 9223372036854775807; omega)
      have p4 := bdN H1.size 0 1 1 H2.size 0 1 1
      have f1 := hoth _ _ _ (by omega) o2
      have f2 := hoth _ _ _ (by omega) o3
      rw [Nat.zero_add] at p1 p2 o1' hjl
      clear hsz hoth hkp
      repeat' (first | (with_reducible refine sxGuardB_tsp (fun h => ?_) (fun h => ?_)) | (with_reducible refine sxGuardB_fsp (fun h => ?_) (fun h => ?_)) | (with_reducible refine sxIfB_sp (fun h => ?_) (fun h => ?_)) | simp only [↓sxC_skip, ↓sxC_draw, ↓sxC_region, ↓sxC_seq, ↓bxC_cond, ↓bxC_loop, ↓sxC_block, ↓sxC_exit, ↓sxC_goto, ↓sxC_ret, ↓sxOps_nil, ↓sxOps_cons, ↓sxDraw_nil, ↓bxDraw_cons, ↓sxD_same, ↓sxStep_none, ↓bxStep_some, ↓bxOp_move, ↓bxOp_assign, ↓bxOp_pick, ↓bxOp_alloc, ↓bxOp_box, ↓bxOp_build, ↓bxOp_buildSlice, ↓bxOp_load, ↓bxOp_store, ↓bxOp_nilCheck, ↓bxOp_bin, ↓bxOp_un, ↓bxOp_makeI, ↓bxOp_makeFunc, ↓bxOp_makeSlice, ↓bxOp_slice, ↓bxOp_fieldAddr, ↓bxOp_field, ↓bxOp_indexAddr, ↓bxOp_index, ↓bxOp_assert, ↓bxOp_extract, ↓bxOp_value, ↓bxOp_len, ↓bxOp_cap, ↓bxOp_append, ↓bxOp_copy, ↓bxOp_max, ↓bxOp_min, ↓bxOp_convert, ↓sxPut_none, ↓bxPut, ↓seqQ_normal, ↓seqQ_exit, ↓seqQ_ret, ↓seqQ_goto, ↓blockQ_normal, ↓blockQ_ret, ↓blockQ_goto, ↓blockQ_exit, ↓loopQ_normal, ↓loopQ_exit, ↓loopQ_ret, ↓loopQ_goto, ↓resQ_normal, ↓resQ_ret, ↓sxRes_nil, ↓sxRes_tmp, ↓bxRes_cell, ↓upd_apply, ↓ev_tmp, ↓ev_const, ↓ev_global, ↓ev_func, ↓dstAt, ↓gval_some, sxOptB_some, sxOptB_ite, mm_max, mm_min, bin_shl, bin_shr, bin_int, intBin, una_not_dec, una_nt, una_nf, una_neg, aPick_true, aPick_false, sxCallVB_fn, sxCallVB_yield, sxGuardB_u, sxGuardB_tt, sxGuardB_tf, sxGuardB_ft, sxGuardB_ff, sxIfB_t, sxIfB_f, packRes_one, packRes_two, List.map_cons, List.map_nil, List.nil_append, List.cons_append, List.append_nil, ↓reduceIte, Nat.reduceEqDiff, Nat.reduceLT, dec_T, dec_F, false_imp, true_and, and_true, true_implies, implies_true, false_and, and_false, true_or, or_true, false_or, or_false, and_self, or_self, read_relow, size_relow, low_relow, relow_relow, aLoad_relow, Nat.add_zero, Nat.mul_one, one1, Option.bind_some, ne_eq, Int.natCast_nonneg, Int.toNat_natCast, not_true_eq_false, not_false_eq_true, Option.map_some, Option.map_none, *, lenI, lenN])
      exact ⟨n - (j + 1), by omega, j + 1, _, rfl, by omega, o1', by rw [splice_length hjl]; exact hZj, fun i hi => by
        rcases Nat.lt_or_ge i j with h | h
        · rw [splice_before hjl (by omega)]; exact hall i h
        · rw [show i = j by omega]; exact splice_at (l := Zj) (off := j * 3) (vs := [.int .i64 0, .slice (some ⟨H1.size, 0, none⟩) 1 1, .slice (some ⟨H2.size, 0, none⟩) 1 1]) hjl, rfl⟩
    · have hlt' : ¬ (200001 : Int) < 200001 := by omega
      have hje : j = n := by omega
      subst hje
      obtain ⟨H5, e5, hK5, hs5, zz, hr5⟩ := box1 H4 [.int .i64 (value.tmod 1000)] 3
      clear zz
      have w5 : Own H5 H4.size 3 [.int .i64 (value.tmod 1000)] := e5 ▸ Own.new H4 _ _
      have hK45 := hK4.trans hK5
      have hmx : Go.maxLen = 9223372036854775807 := rfl
      have sx : SlI .i64 H5 (.slice (some ⟨H4.size, 0, none⟩) 1 1) [value.tmod 1000] H4.size 0 := ⟨⟨_, 1, rfl, fun _ => rfl⟩, fun i hi => by
        have hi0 : i = 0 := by simpa using hi
        subst hi0
        exact ⟨_, w5.read (o := 0) (n := 1) (show 0 + 1 ≤ 1 by omega), rfl, show -9223372036854775808 ≤ value.tmod 1000 by omega, show value.tmod 1000 ≤ 9223372036854775807 by omega⟩, fun _ => w5.lt, by simp; omega⟩
      have sc : SlI .i64 H5 (.slice (some ⟨H1.size, 0, none⟩) 1 1) [1000] H1.size 0 := ⟨⟨_, 1, rfl, fun _ => rfl⟩, fun i hi => by
        have hi0 : i = 0 := by simpa using hi
        subst hi0
        exact ⟨_, (o2.keep hK5).read (o := 0) (n := 1) (show 0 + 1 ≤ 1 by omega), rfl, by decide, by decide⟩, fun _ => (o2.keep hK5).lt, by simp; omega⟩
      have st : SlI .i64 H5 (.slice (some ⟨H2.size, 0, none⟩) 1 1) [-9] H2.size 0 := ⟨⟨_, 1, rfl, fun _ => rfl⟩, fun i hi => by
        have hi0 : i = 0 := by simpa using hi
        subst hi0
        exact ⟨_, (o3.keep hK5).read (o := 0) (n := 1) (show 0 + 1 ≤ 1 by omega), rfl, by decide, by decide⟩, fun _ => (o3.keep hK5).lt, by simp; omega⟩
      have sd : SlN H5 (.slice (some ⟨H.size, 0, none⟩) j j) (List.replicate j nd9) H.size 0 := ⟨⟨_, j, by rw [List.length_replicate], fun _ => rfl⟩, fun i hi => by
        rw [List.length_replicate] at hi
        have h1 := (o1.keep hK5).read (o := 0 + i * 3) (n := 3) (by omega)
        rw [Nat.zero_add, hall i hi] at h1
        refine ⟨_, by rw [Nat.zero_add]; exact h1, ?_⟩
        rw [List.getD_eq_getElem?_getD, List.getElem?_replicate_of_lt hi]
        exact ⟨[.int .i64 0], _, rfl, ⟨rfl, by decide, by decide⟩, [_], [_], rfl, ⟨_, _, _, rfl, sc⟩, ⟨_, _, _, rfl, st⟩⟩, fun _ => (o1.keep hK5).lt, by rw [List.length_replicate]; omega⟩
      obtain ⟨H6, hK6, hR6⟩ := Follow_runs hS 1 _ _ _ _ _ _ _ _ H5 (hK45.low hL) sd sx
      rw [res_limit j (by omega) _ hq] at hR6
      rw [if_neg (by omega)] at hR6
      have hb := hR6.bx
      have hk2 : ∀ (K : Value → Heap → Prop) (b : Blk K), sxCallB Tryd.prog S (.fn 8) [] H6 K b = K (.bool true) H6 := fun K b => known_bx (hO H6 (hK45.trans hK6))
      have b5 := bsI H4 (value.tmod 1000)
      clear hR6 sd sx sc st o1 o2 o3 w5 hr5 hall hmx
      repeat' (first | (with_reducible refine sxGuardB_tsp (fun h => ?_) (fun h => ?_)) | (with_reducible refine sxGuardB_fsp (fun h => ?_) (fun h => ?_)) | (with_reducible refine sxIfB_sp (fun h => ?_) (fun h => ?_)) | simp only [↓sxC_skip, ↓sxC_draw, ↓sxC_region, ↓sxC_seq, ↓bxC_cond, ↓bxC_loop, ↓sxC_block, ↓sxC_exit, ↓sxC_goto, ↓sxC_ret, ↓sxOps_nil, ↓sxOps_cons, ↓sxDraw_nil, ↓bxDraw_cons, ↓sxD_same, ↓sxStep_none, ↓bxStep_some, ↓bxOp_move, ↓bxOp_assign, ↓bxOp_pick, ↓bxOp_alloc, ↓bxOp_box, ↓bxOp_build, ↓bxOp_buildSlice, ↓bxOp_load, ↓bxOp_store, ↓bxOp_nilCheck, ↓bxOp_bin, ↓bxOp_un, ↓bxOp_makeI, ↓bxOp_makeFunc, ↓bxOp_makeSlice, ↓bxOp_slice, ↓bxOp_fieldAddr, ↓bxOp_field, ↓bxOp_indexAddr, ↓bxOp_index, ↓bxOp_assert, ↓bxOp_extract, ↓bxOp_value, ↓bxOp_len, ↓bxOp_cap, ↓bxOp_append, ↓bxOp_copy, ↓bxOp_max, ↓bxOp_min, ↓bxOp_convert, ↓sxPut_none, ↓bxPut, ↓seqQ_normal, ↓seqQ_exit, ↓seqQ_ret, ↓seqQ_goto, ↓blockQ_normal, ↓blockQ_ret, ↓blockQ_goto, ↓blockQ_exit, ↓loopQ_normal, ↓loopQ_exit, ↓loopQ_ret, ↓loopQ_goto, ↓resQ_normal, ↓resQ_ret, ↓sxRes_nil, ↓sxRes_tmp, ↓bxRes_cell, ↓upd_apply, ↓ev_tmp, ↓ev_const, ↓ev_global, ↓ev_func, ↓dstAt, ↓gval_some, sxOptB_some, sxOptB_ite, mm_max, mm_min, bin_shl, bin_shr, bin_int, intBin, una_not_dec, una_nt, una_nf, una_neg, aPick_true, aPick_false, sxCallVB_fn, sxCallVB_yield, sxGuardB_u, sxGuardB_tt, sxGuardB_tf, sxGuardB_ft, sxGuardB_ff, sxIfB_t, sxIfB_f, packRes_one, packRes_two, List.map_cons, List.map_nil, List.nil_append, List.cons_append, List.append_nil, ↓reduceIte, Nat.reduceEqDiff, Nat.reduceLT, dec_T, dec_F, false_imp, true_and, and_true, true_implies, implies_true, false_and, and_false, true_or, or_true, false_or, or_false, and_self, or_self, read_relow, size_relow, low_relow, relow_relow, aLoad_relow, Nat.add_zero, Nat.mul_one, one1, Option.bind_some, ne_eq, Int.natCast_nonneg, Int.toNat_natCast, not_true_eq_false, not_false_eq_true, Option.map_some, Option.map_none, *, lenI, lenN, ex0, ex1, cv16])
      all_goals trace_state
end Go.Proofs.YtmllfacipbpkfaaDoor
