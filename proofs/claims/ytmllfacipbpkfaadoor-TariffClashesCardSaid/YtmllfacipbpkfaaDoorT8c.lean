/- Clash of package tariff and of the reference, on the canonical machine. -/
import Derived.Test.YtmllfacipbpkfaaDoorT8
set_option linter.unusedVariables false
set_option linter.unusedSimpArgs false
set_option linter.unusedSectionVars false

namespace Go.Proofs.YtmllfacipbpkfaaDoor
open Go Go.AM
set_option maxRecDepth 10000
set_option linter.unusedSimpArgs false
/-- The greater one, as the program has it. -/
def mx (a c : Int) : Int := if c > a then c else a
def lows (x y : Rl) (n : Nat) : List Int := (List.range n).map fun m => mx (x.bands.getD m default).lo (y.bands.getD m default).lo
def clashRes (k : Int) (t : List Rl) (i j : Int) : List Int × Int :=
  if chk k t ≠ 0 then ([], chk k t) else if ¬ ((0 ≤ i ∧ i < t.length) ∧ 0 ≤ j ∧ j < t.length) then ([], 6) else
    if (t.getD i.toNat default).code = (t.getD j.toNat default).code then ([], 10) else
      if ∀ m, m < k.toNat → mx ((t.getD i.toNat default).bands.getD m default).lo ((t.getD j.toNat default).bands.getD m default).lo < ((t.getD i.toNat default).bands.getD m default).hi ∧
          mx ((t.getD i.toNat default).bands.getD m default).lo ((t.getD j.toNat default).bands.getD m default).lo < ((t.getD j.toNat default).bands.getD m default).hi then
        (lows (t.getD i.toNat default) (t.getD j.toNat default) k.toNat, 0) else ([], 10)
theorem nilSl (H : Heap) : SlI .i64 H (.slice none 0 0) [] 0 0 := ⟨⟨none, 0, rfl, fun h => absurd h (Nat.lt_irrefl 0)⟩, fun i hi => absurd hi (Nat.not_lt_zero i), fun h => absurd h (Nat.lt_irrefl 0), Nat.zero_le _⟩
theorem splice_take {l : List Value} {off : Nat} {v : Value} (h : off + 1 ≤ l.length) : (splice l off [v]).take (off + 1) = l.take off ++ [v] := by
  unfold splice
  rw [← List.append_assoc, List.take_append_of_le_length (by simp; omega), List.take_of_length_le (by simp; omega)]
theorem lows_len (x y : Rl) (n : Nat) : (lows x y n).length = n := by unfold lows; simp
theorem lows_succ (x y : Rl) (n : Nat) : lows x y (n + 1) = lows x y n ++ [mx (x.bands.getD n default).lo (y.bands.getD n default).lo] := by unfold lows; rw [List.range_succ, List.map_append]; rfl
theorem lows_at {x y : Rl} {n j : Nat} (h : j < n) : (lows x y n).getD j 0 = mx (x.bands.getD j default).lo (y.bands.getD j default).lo := by
  unfold lows
  rw [List.getD_eq_getElem?_getD, List.getElem?_map, List.getElem?_range h]; rfl
theorem mx_le (a c : Int) : a ≤ mx a c ∧ c ≤ mx a c := by unfold mx; split <;> omega
theorem lows_fits {x y : Rl} {n : Nat} (hx : x.bands.length = n) (hy : y.bands.length = n) :
    (∀ m, m < n → mx (x.bands.getD m default).lo (y.bands.getD m default).lo < (x.bands.getD m default).hi ∧ mx (x.bands.getD m default).lo (y.bands.getD m default).lo < (y.bands.getD m default).hi) ↔ Fits x (lows x y n) ∧ Fits y (lows x y n) := by
  constructor
  · intro h
    exact ⟨fun j hj => by rw [lows_at (by omega)]; exact ⟨(mx_le _ _).1, (h j (by omega)).1⟩, fun j hj => by rw [lows_at (by omega)]; exact ⟨(mx_le _ _).2, (h j (by omega)).2⟩⟩
  · intro h m hm
    have h1 := (h.1 m (by omega)).2
    have h2 := (h.2 m (by omega)).2
    rw [lows_at hm] at h1 h2
    exact ⟨h1, h2⟩
/-- A store of a number. -/
theorem stI {H : Heap} {r : Nat} {cells : List Value} (h : Own H r 3 cells) (z : Int) {o : Nat} (ho : o + 1 ≤ cells.length) :
    ∃ H2, aStore Tryd.prog H 3 (.pointer (some ⟨r, o, none⟩)) (.int .i64 z) = some H2 ∧ Own H2 r 3 (splice cells o [.int .i64 z]) ∧ (∀ H0, Keep H0 H → H0.size ≤ r → Keep H0 H2) := by
  obtain ⟨i, _, hi, hs, _⟩ := infoI
  obtain ⟨H2, h1, h2, _, _, h3⟩ := h.store (t := 3) hi (v := .int .i64 z) (new := [.int .i64 z]) rfl (hs.trans rfl) rfl (o := o) ho
  exact ⟨H2, h1, h2, h3⟩
/-- What a call says, with a list of numbers. -/
def Says (S : AM.Sys) (f : FuncId) (args : List Value) (H : Heap) (res : List Int × Int) : Prop :=
  ∃ H' v' r' o', Keep H H' ∧ Grp H' ∧ SlI .i64 H' v' res.1 r' o' ∧ Runs Tryd.prog S (.fn f) args H (.tuple #[v', .int .i64 res.2]) H'
theorem says_of {S : AM.Sys} {f : FuncId} {args : List Value} {H : Heap} {res : List Int × Int}
    (h : WCall Tryd.prog S (.fn f) args H (fun v H' => ∃ v' e r' o', v = .tuple #[v', .int .i64 e] ∧ Keep H H' ∧ Grp H' ∧ SlI .i64 H' v' res.1 r' o' ∧ e = res.2)) : Says S f args H res := by
  obtain ⟨_, H', hr, v', e, r', o', rfl, h1, h2, h3, rfl⟩ := h
  exact ⟨H', v', r', o', h1, h2, h3, hr⟩
variable {S : AM.Sys} (hS : Only S 8)
include hS

theorem rClash_runs (k : Int) (v : Value) (t : List Rl) (r o : Nat) (i j : Int) (H : Heap) (hL : H.low ≤ H.size) (hg : Grp H) (ht : SlR H v t r o) : Says S 14 [.int .i64 k, v, .int .i64 i, .int .i64 j] H (clashRes k t i j) := by
  refine says_of ?_
  obtain ⟨H1, hK1, hR1⟩ := Good_runs hS k v t r o H hL ht
  have hb1 := hR1.bx
  have hg1 := hK1.grp hg
  have hL1 := hK1.low hL
  have ht1 := ht.keep hK1
  obtain ⟨a, cap, rfl⟩ := ht.v0
  have hnop := hL1
  refine call_of Tryd.func14 rfl (Nat.le_of_ble_eq_true rfl) (hS.no rfl _ _) ?_
  rw [Tryd.ntmps14, Tryd.results14]
  clear hR1 ht
  by_cases hck : chk k t = 0
  · by_cases hij : (0 ≤ i ∧ i < t.length) ∧ 0 ≤ j ∧ j < t.length
    · obtain ⟨⟨hi0, hi1⟩, hj0, hj1⟩ := hij
      obtain ⟨hk4, hl24, hall⟩ := chk_ok hck
      have ht1l : r < H1.size := ht1.lt (by omega)
      have x1 := SlR_ix ht1 hi0 hi1
      have x2 := SlR_ix ht1 hj0 hj1
      obtain ⟨a1, c1, r1, o1, y0, y1, y2, hb, yat⟩ := SlR_rd ht1 (i := i.toNat) (by omega)
      obtain ⟨a2, c2, r2, o2, z0, z1, z2, hc, zat⟩ := SlR_rd ht1 (i := j.toNat) (by omega)
      have hx := hall _ (getD_mem (d := default) (show i.toNat < t.length by omega))
      have hy := hall _ (getD_mem (d := default) (show j.toNat < t.length by omega))
      have hcr : clashRes k t i j = if (t.getD i.toNat default).code = (t.getD j.toNat default).code then ([], 10) else
        if ∀ m, m < k.toNat → mx ((t.getD i.toNat default).bands.getD m default).lo ((t.getD j.toNat default).bands.getD m default).lo < ((t.getD i.toNat default).bands.getD m default).hi ∧
          mx ((t.getD i.toNat default).bands.getD m default).lo ((t.getD j.toNat default).bands.getD m default).lo < ((t.getD j.toNat default).bands.getD m default).hi then
        (lows (t.getD i.toNat default) (t.getD j.toNat default) k.toNat, 0) else ([], 10) := by unfold clashRes; rw [if_neg (by omega), if_neg (fun h => h ⟨⟨hi0, hi1⟩, hj0, hj1⟩)]
      rw [hcr]
      clear hcr hall ht1
      generalize t.getD i.toNat default = x at *
      generalize t.getD j.toNat default = y at *
      by_cases hcd : x.code = y.code
      · rw [if_pos hcd]
        have hcd' : (x.code = y.code) = True := eq_true hcd
        have y2' := y2
        rw [hcd] at y2'
        clear hb hc yat zat y2 hcd hcd' hx hy
        repeat' (first | (with_reducible refine sxGuardB_tsp (fun h => ?_) (fun h => ?_)) | (with_reducible refine sxGuardB_fsp (fun h => ?_) (fun h => ?_)) | (with_reducible refine sxIfB_sp (fun h => ?_) (fun h => ?_)) | simp only [↓sxC_skip, ↓sxC_draw, ↓sxC_region, ↓sxC_seq, ↓bxC_cond, ↓bxC_loop, ↓sxC_block, ↓sxC_exit, ↓sxC_goto, ↓sxC_ret, ↓sxOps_nil, ↓sxOps_cons, ↓sxDraw_nil, ↓bxDraw_cons, ↓sxD_same, ↓sxStep_none, ↓bxStep_some, ↓bxOp_move, ↓bxOp_assign, ↓bxOp_pick, ↓bxOp_alloc, ↓bxOp_box, ↓bxOp_build, ↓bxOp_buildSlice, ↓bxOp_load, ↓bxOp_store, ↓bxOp_nilCheck, ↓bxOp_bin, ↓bxOp_un, ↓bxOp_makeI, ↓bxOp_makeFunc, ↓bxOp_makeSlice, ↓bxOp_slice, ↓bxOp_fieldAddr, ↓bxOp_field, ↓bxOp_indexAddr, ↓bxOp_index, ↓bxOp_assert, ↓bxOp_extract, ↓bxOp_value, ↓bxOp_len, ↓bxOp_cap, ↓bxOp_append, ↓bxOp_copy, ↓bxOp_max, ↓bxOp_min, ↓bxOp_convert, ↓sxPut_none, ↓bxPut, ↓seqQ_normal, ↓seqQ_exit, ↓seqQ_ret, ↓seqQ_goto, ↓blockQ_normal, ↓blockQ_ret, ↓blockQ_goto, ↓blockQ_exit, ↓loopQ_normal, ↓loopQ_exit, ↓loopQ_ret, ↓loopQ_goto, ↓resQ_normal, ↓resQ_ret, ↓sxRes_nil, ↓sxRes_tmp, ↓bxRes_cell, ↓upd_apply, ↓ev_tmp, ↓ev_const, ↓ev_global, ↓ev_func, ↓dstAt, ↓gval_some, sxOptB_some, sxOptB_ite, mm_max, mm_min, bin_shl, bin_shr, bin_int, intBin, una_not_dec, una_nt, una_nf, una_neg, aPick_true, aPick_false, sxCallVB_fn, sxCallVB_yield, sxGuardB_u, sxGuardB_tt, sxGuardB_tf, sxGuardB_ft, sxGuardB_ff, sxIfB_t, sxIfB_f, packRes_one, packRes_two, List.map_cons, List.map_nil, List.nil_append, List.cons_append, List.append_nil, ↓reduceIte, Nat.reduceEqDiff, Nat.reduceLT, dec_T, dec_F, false_imp, true_and, and_true, true_implies, implies_true, false_and, and_false, true_or, or_true, false_or, or_false, and_self, or_self, read_relow, size_relow, low_relow, relow_relow, aLoad_relow, Nat.add_zero, Nat.mul_one, one1, Option.bind_some, ne_eq, Int.natCast_nonneg, Int.toNat_natCast, not_true_eq_false, not_false_eq_true, Option.map_some, Option.map_none, *, argF, List.getD_cons_zero, List.getD_cons_succ, lenR, faR1, ldI] | (with_reducible refine sxD_bar (by kernel_rfl) ?_))
        all_goals first
          | (exfalso; omega)
          | exact ⟨_, _, 0, 0, rfl, hK1, hg1, nilSl _, rfl⟩
          | exact ⟨_, _, 0, 0, rfl, nilSl _, rfl⟩
      · rw [if_neg hcd]
        repeat' (first | (with_reducible refine sxGuardB_tsp (fun h => ?_) (fun h => ?_)) | (with_reducible refine sxGuardB_fsp (fun h => ?_) (fun h => ?_)) | (with_reducible refine sxIfB_sp (fun h => ?_) (fun h => ?_)) | simp only [↓sxC_skip, ↓sxC_draw, ↓sxC_region, ↓sxC_seq, ↓bxC_cond, ↓bxC_loop, ↓sxC_block, ↓sxC_exit, ↓sxC_goto, ↓sxC_ret, ↓sxOps_nil, ↓sxOps_cons, ↓sxDraw_nil, ↓bxDraw_cons, ↓sxD_same, ↓sxStep_none, ↓bxStep_some, ↓bxOp_move, ↓bxOp_assign, ↓bxOp_pick, ↓bxOp_alloc, ↓bxOp_box, ↓bxOp_build, ↓bxOp_buildSlice, ↓bxOp_load, ↓bxOp_store, ↓bxOp_nilCheck, ↓bxOp_bin, ↓bxOp_un, ↓bxOp_makeI, ↓bxOp_makeFunc, ↓bxOp_makeSlice, ↓bxOp_slice, ↓bxOp_fieldAddr, ↓bxOp_field, ↓bxOp_indexAddr, ↓bxOp_index, ↓bxOp_assert, ↓bxOp_extract, ↓bxOp_value, ↓bxOp_len, ↓bxOp_cap, ↓bxOp_append, ↓bxOp_copy, ↓bxOp_max, ↓bxOp_min, ↓bxOp_convert, ↓sxPut_none, ↓bxPut, ↓seqQ_normal, ↓seqQ_exit, ↓seqQ_ret, ↓seqQ_goto, ↓blockQ_normal, ↓blockQ_ret, ↓blockQ_goto, ↓blockQ_exit, ↓loopQ_normal, ↓loopQ_exit, ↓loopQ_ret, ↓loopQ_goto, ↓resQ_normal, ↓resQ_ret, ↓sxRes_nil, ↓sxRes_tmp, ↓bxRes_cell, ↓upd_apply, ↓ev_tmp, ↓ev_const, ↓ev_global, ↓ev_func, ↓dstAt, ↓gval_some, sxOptB_some, sxOptB_ite, mm_max, mm_min, bin_shl, bin_shr, bin_int, intBin, una_not_dec, una_nt, una_nf, una_neg, aPick_true, aPick_false, sxCallVB_fn, sxCallVB_yield, sxGuardB_u, sxGuardB_tt, sxGuardB_tf, sxGuardB_ft, sxGuardB_ff, sxIfB_t, sxIfB_f, packRes_one, packRes_two, List.map_cons, List.map_nil, List.nil_append, List.cons_append, List.append_nil, ↓reduceIte, Nat.reduceEqDiff, Nat.reduceLT, dec_T, dec_F, false_imp, true_and, and_true, true_implies, implies_true, false_and, and_false, true_or, or_true, false_or, or_false, and_self, or_self, read_relow, size_relow, low_relow, relow_relow, aLoad_relow, Nat.add_zero, Nat.mul_one, one1, Option.bind_some, ne_eq, Int.natCast_nonneg, Int.toNat_natCast, not_true_eq_false, not_false_eq_true, Option.map_some, Option.map_none, *, argF, List.getD_cons_zero, List.getD_cons_succ, lenR, faR1, ldI] | (with_reducible refine sxD_bar (by kernel_rfl) ?_))
        all_goals first
          | (exfalso; omega)
          | skip
        clear y2 z2 y0 z0 yat zat hb1 hcd hck
        have hlen : ∀ n, (lows x y n).length = n := fun n => by unfold lows; simp
        have hsucc : ∀ n, lows x y (n + 1) = lows x y n ++ [mx (x.bands.getD n default).lo (y.bands.getD n default).lo] := fun n => by unfold lows; rw [List.range_succ, List.map_append]; rfl
        refine sxL_of (fun m ρ H2 => ∃ (n : Nat) (v' : Value), m = k.toNat - n ∧ n ≤ k.toNat ∧ Lst 3 .i64 H1 H2 v' (lows x y n) ∧ (∀ q, q < n → mx (x.bands.getD q default).lo (y.bands.getD q default).lo < (x.bands.getD q default).hi ∧ mx (x.bands.getD q default).lo (y.bands.getD q default).lo < (y.bands.getD q default).hi) ∧
          ρ 0 = .int .i64 k ∧ ρ 1 = .slice a t.length cap ∧ ρ 2 = .int .i64 i ∧ ρ 3 = .int .i64 j ∧ ρ 11 = v' ∧ ρ 12 = .int .i64 n)
          ⟨0, _, rfl, Nat.zero_le _, Lst.nil (Keep.refl H1) hg1, fun q hq => absurd hq (Nat.not_lt_zero q), rfl, rfl, rfl, rfl, rfl, rfl⟩ ?_
        rintro m ρ H2 ⟨n, v', rfl, hn, L, hall, e0, e1, e2, e3, e11, e12⟩
        have hKL := hK1.trans L.keep
        have hL2 : H2.low ≤ H2.size := hKL.low hL
        by_cases hlt : (n : Int) < k
        · have hxb : n < x.bands.length := by have := hx.1; omega
          have hyb : n < y.bands.length := by have := hy.1; omega
          have hb2 := hb.keep L.keep
          have hc2 := hc.keep L.keep
          have p1 := SlB_ixN hb2 hxb
          have p2 := SlB_ixN hc2 hyb
          obtain ⟨_, p3, p4⟩ := SlB_rd hb2 hxb
          obtain ⟨_, p5, p6⟩ := SlB_rd hc2 hyb
          have q1 := L.keep.read (ht1l) y1
          have q2 := L.keep.read (ht1l) z1
          have xo := hx.2.2.2 _ (getD_mem (d := default) hxb)
          have yo := hy.2.2.2 _ (getD_mem (d := default) hyb)
          have hw : IntKind.i64.wrap ((n : Int) + 1) = ((n + 1 : Nat) : Int) := by rw [IntWalk.i64_in _ (by omega)]; omega
          obtain ⟨v3, H3, pp, L3⟩ := L.push okI hg1 (by rw [hlen]; omega) (mx (x.bands.getD n default).lo (y.bands.getD n default).lo)
          rw [← hsucc] at L3
          have bb := bsI H2 (mx (x.bands.getD n default).lo (y.bands.getD n default).lo)
          have hbad : ¬ (mx (x.bands.getD n default).lo (y.bands.getD n default).lo < (x.bands.getD n default).hi ∧ mx (x.bands.getD n default).lo (y.bands.getD n default).lo < (y.bands.getD n default).hi) →
            (if ∀ m, m < k.toNat → mx (x.bands.getD m default).lo (y.bands.getD m default).lo < (x.bands.getD m default).hi ∧ mx (x.bands.getD m default).lo (y.bands.getD m default).lo < (y.bands.getD m default).hi then (lows x y k.toNat, (0 : Int)) else ([], 10)) = ([], 10) := fun h => if_neg fun hc => h (hc n (by omega))
          have hgo : (mx (x.bands.getD n default).lo (y.bands.getD n default).lo < (x.bands.getD n default).hi ∧ mx (x.bands.getD n default).lo (y.bands.getD n default).lo < (y.bands.getD n default).hi) → ∀ q, q < n + 1 → mx (x.bands.getD q default).lo (y.bands.getD q default).lo < (x.bands.getD q default).hi ∧ mx (x.bands.getD q default).lo (y.bands.getD q default).lo < (y.bands.getD q default).hi := fun h q hq => by
            rcases Nat.lt_or_ge q n with h1 | h1
            · exact hall q h1
            · rw [show q = n by omega]; exact h
          have hgL := L.grp
          clear hb hc hb2 hc2 hlen hsucc hx hy
          generalize hres : (if ∀ m, m < k.toNat → mx (x.bands.getD m default).lo (y.bands.getD m default).lo < (x.bands.getD m default).hi ∧ mx (x.bands.getD m default).lo (y.bands.getD m default).lo < (y.bands.getD m default).hi then (lows x y k.toNat, (0 : Int)) else ([], 10)) = res at *
          clear hres
          have hz : (if (y.bands.getD n default).lo > (x.bands.getD n default).lo then (y.bands.getD n default).lo else (x.bands.getD n default).lo) = mx (x.bands.getD n default).lo (y.bands.getD n default).lo := rfl
          generalize mx (x.bands.getD n default).lo (y.bands.getD n default).lo = z at *
          generalize (x.bands.getD n default).lo = xl at *
          generalize (y.bands.getD n default).lo = yl at *
          generalize (x.bands.getD n default).hi = xh at *
          generalize (y.bands.getD n default).hi = yh at *
          repeat' (first | (with_reducible refine sxGuardB_tsp (fun h => ?_) (fun h => ?_)) | (with_reducible refine sxGuardB_fsp (fun h => ?_) (fun h => ?_)) | (with_reducible refine sxIfB_sp (fun h => ?_) (fun h => ?_)) | simp only [↓sxC_skip, ↓sxC_draw, ↓sxC_region, ↓sxC_seq, ↓bxC_cond, ↓bxC_loop, ↓sxC_block, ↓sxC_exit, ↓sxC_goto, ↓sxC_ret, ↓sxOps_nil, ↓sxOps_cons, ↓sxDraw_nil, ↓bxDraw_cons, ↓sxD_same, ↓sxStep_none, ↓bxStep_some, ↓bxOp_move, ↓bxOp_assign, ↓bxOp_pick, ↓bxOp_alloc, ↓bxOp_box, ↓bxOp_build, ↓bxOp_buildSlice, ↓bxOp_load, ↓bxOp_store, ↓bxOp_nilCheck, ↓bxOp_bin, ↓bxOp_un, ↓bxOp_makeI, ↓bxOp_makeFunc, ↓bxOp_makeSlice, ↓bxOp_slice, ↓bxOp_fieldAddr, ↓bxOp_field, ↓bxOp_indexAddr, ↓bxOp_index, ↓bxOp_assert, ↓bxOp_extract, ↓bxOp_value, ↓bxOp_len, ↓bxOp_cap, ↓bxOp_append, ↓bxOp_copy, ↓bxOp_max, ↓bxOp_min, ↓bxOp_convert, ↓sxPut_none, ↓bxPut, ↓seqQ_normal, ↓seqQ_exit, ↓seqQ_ret, ↓seqQ_goto, ↓blockQ_normal, ↓blockQ_ret, ↓blockQ_goto, ↓blockQ_exit, ↓loopQ_normal, ↓loopQ_exit, ↓loopQ_ret, ↓loopQ_goto, ↓resQ_normal, ↓resQ_ret, ↓sxRes_nil, ↓sxRes_tmp, ↓bxRes_cell, ↓upd_apply, ↓ev_tmp, ↓ev_const, ↓ev_global, ↓ev_func, ↓dstAt, ↓gval_some, sxOptB_some, sxOptB_ite, mm_max, mm_min, bin_shl, bin_shr, bin_int, intBin, una_not_dec, una_nt, una_nf, una_neg, aPick_true, aPick_false, sxCallVB_fn, sxCallVB_yield, sxGuardB_u, sxGuardB_tt, sxGuardB_tf, sxGuardB_ft, sxGuardB_ff, sxIfB_t, sxIfB_f, packRes_one, packRes_two, List.map_cons, List.map_nil, List.nil_append, List.cons_append, List.append_nil, ↓reduceIte, Nat.reduceEqDiff, Nat.reduceLT, dec_T, dec_F, false_imp, true_and, and_true, true_implies, implies_true, false_and, and_false, true_or, or_true, false_or, or_false, and_self, or_self, read_relow, size_relow, low_relow, relow_relow, aLoad_relow, Nat.add_zero, Nat.mul_one, one1, Option.bind_some, ne_eq, Int.natCast_nonneg, Int.toNat_natCast, not_true_eq_false, not_false_eq_true, Option.map_some, Option.map_none, *, lenR, faR0, faB0, faB1, ldI, ldBs, Nat.zero_add] | (with_reducible refine sxD_bar (by kernel_rfl) ?_))
          · have hb3 := hbad (by split at * <;> omega)
            rw [hb3]
            exact ⟨_, _, 0, 0, rfl, nilSl _, rfl⟩
          · exact ⟨_, by omega, n + 1, _, rfl, by omega, L3, hgo (by split at * <;> omega), rfl, rfl⟩
        · have hne : n = k.toNat := by omega
          have hG : (if ∀ m, m < k.toNat → mx (x.bands.getD m default).lo (y.bands.getD m default).lo < (x.bands.getD m default).hi ∧ mx (x.bands.getD m default).lo (y.bands.getD m default).lo < (y.bands.getD m default).hi then (lows x y k.toNat, (0 : Int)) else ([], 10)) = (lows x y n, 0) := by
            rw [if_pos (fun m hm => hall m (by omega)), hne]
          rw [hG]
          obtain ⟨rr, sl⟩ := L.sl (fun z hz => by
            unfold lows at hz
            obtain ⟨m, hm, rfl⟩ := List.mem_map.1 hz
            have hm := List.mem_range.1 hm
            have xo := hx.2.2.2 _ (getD_mem (d := default) (show m < x.bands.length by have := hx.1; omega))
            have yo := hy.2.2.2 _ (getD_mem (d := default) (show m < y.bands.length by have := hy.1; omega))
            show -9223372036854775808 ≤ mx _ _ ∧ mx _ _ ≤ 9223372036854775807
            have := xo.1; have := xo.2.1; have := xo.2.2; have := yo.1; have := yo.2.1; have := yo.2.2
            unfold mx; split <;> omega) (by rw [hlen]; show n ≤ 9223372036854775807; omega)
          have hgL := L.grp
          clear hb hc hlen hsucc hx hy hG hne
          repeat' (first | (with_reducible refine sxGuardB_tsp (fun h => ?_) (fun h => ?_)) | (with_reducible refine sxGuardB_fsp (fun h => ?_) (fun h => ?_)) | (with_reducible refine sxIfB_sp (fun h => ?_) (fun h => ?_)) | simp only [↓sxC_skip, ↓sxC_draw, ↓sxC_region, ↓sxC_seq, ↓bxC_cond, ↓bxC_loop, ↓sxC_block, ↓sxC_exit, ↓sxC_goto, ↓sxC_ret, ↓sxOps_nil, ↓sxOps_cons, ↓sxDraw_nil, ↓bxDraw_cons, ↓sxD_same, ↓sxStep_none, ↓bxStep_some, ↓bxOp_move, ↓bxOp_assign, ↓bxOp_pick, ↓bxOp_alloc, ↓bxOp_box, ↓bxOp_build, ↓bxOp_buildSlice, ↓bxOp_load, ↓bxOp_store, ↓bxOp_nilCheck, ↓bxOp_bin, ↓bxOp_un, ↓bxOp_makeI, ↓bxOp_makeFunc, ↓bxOp_makeSlice, ↓bxOp_slice, ↓bxOp_fieldAddr, ↓bxOp_field, ↓bxOp_indexAddr, ↓bxOp_index, ↓bxOp_assert, ↓bxOp_extract, ↓bxOp_value, ↓bxOp_len, ↓bxOp_cap, ↓bxOp_append, ↓bxOp_copy, ↓bxOp_max, ↓bxOp_min, ↓bxOp_convert, ↓sxPut_none, ↓bxPut, ↓seqQ_normal, ↓seqQ_exit, ↓seqQ_ret, ↓seqQ_goto, ↓blockQ_normal, ↓blockQ_ret, ↓blockQ_goto, ↓blockQ_exit, ↓loopQ_normal, ↓loopQ_exit, ↓loopQ_ret, ↓loopQ_goto, ↓resQ_normal, ↓resQ_ret, ↓sxRes_nil, ↓sxRes_tmp, ↓bxRes_cell, ↓upd_apply, ↓ev_tmp, ↓ev_const, ↓ev_global, ↓ev_func, ↓dstAt, ↓gval_some, sxOptB_some, sxOptB_ite, mm_max, mm_min, bin_shl, bin_shr, bin_int, intBin, una_not_dec, una_nt, una_nf, una_neg, aPick_true, aPick_false, sxCallVB_fn, sxCallVB_yield, sxGuardB_u, sxGuardB_tt, sxGuardB_tf, sxGuardB_ft, sxGuardB_ff, sxIfB_t, sxIfB_f, packRes_one, packRes_two, List.map_cons, List.map_nil, List.nil_append, List.cons_append, List.append_nil, ↓reduceIte, Nat.reduceEqDiff, Nat.reduceLT, dec_T, dec_F, false_imp, true_and, and_true, true_implies, implies_true, false_and, and_false, true_or, or_true, false_or, or_false, and_self, or_self, read_relow, size_relow, low_relow, relow_relow, aLoad_relow, Nat.add_zero, Nat.mul_one, one1, Option.bind_some, ne_eq, Int.natCast_nonneg, Int.toNat_natCast, not_true_eq_false, not_false_eq_true, Option.map_some, Option.map_none, *, lenR] | (with_reducible refine sxD_bar (by kernel_rfl) ?_))
          exact ⟨_, _, rr, 0, rfl, sl, rfl⟩
    · have hcr : clashRes k t i j = ([], 6) := by unfold clashRes; rw [if_neg (by omega), if_pos hij]
      rw [hcr]
      clear hcr ht1
      repeat' (first | (with_reducible refine sxGuardB_tsp (fun h => ?_) (fun h => ?_)) | (with_reducible refine sxGuardB_fsp (fun h => ?_) (fun h => ?_)) | (with_reducible refine sxIfB_sp (fun h => ?_) (fun h => ?_)) | simp only [↓sxC_skip, ↓sxC_draw, ↓sxC_region, ↓sxC_seq, ↓bxC_cond, ↓bxC_loop, ↓sxC_block, ↓sxC_exit, ↓sxC_goto, ↓sxC_ret, ↓sxOps_nil, ↓sxOps_cons, ↓sxDraw_nil, ↓bxDraw_cons, ↓sxD_same, ↓sxStep_none, ↓bxStep_some, ↓bxOp_move, ↓bxOp_assign, ↓bxOp_pick, ↓bxOp_alloc, ↓bxOp_box, ↓bxOp_build, ↓bxOp_buildSlice, ↓bxOp_load, ↓bxOp_store, ↓bxOp_nilCheck, ↓bxOp_bin, ↓bxOp_un, ↓bxOp_makeI, ↓bxOp_makeFunc, ↓bxOp_makeSlice, ↓bxOp_slice, ↓bxOp_fieldAddr, ↓bxOp_field, ↓bxOp_indexAddr, ↓bxOp_index, ↓bxOp_assert, ↓bxOp_extract, ↓bxOp_value, ↓bxOp_len, ↓bxOp_cap, ↓bxOp_append, ↓bxOp_copy, ↓bxOp_max, ↓bxOp_min, ↓bxOp_convert, ↓sxPut_none, ↓bxPut, ↓seqQ_normal, ↓seqQ_exit, ↓seqQ_ret, ↓seqQ_goto, ↓blockQ_normal, ↓blockQ_ret, ↓blockQ_goto, ↓blockQ_exit, ↓loopQ_normal, ↓loopQ_exit, ↓loopQ_ret, ↓loopQ_goto, ↓resQ_normal, ↓resQ_ret, ↓sxRes_nil, ↓sxRes_tmp, ↓bxRes_cell, ↓upd_apply, ↓ev_tmp, ↓ev_const, ↓ev_global, ↓ev_func, ↓dstAt, ↓gval_some, sxOptB_some, sxOptB_ite, mm_max, mm_min, bin_shl, bin_shr, bin_int, intBin, una_not_dec, una_nt, una_nf, una_neg, aPick_true, aPick_false, sxCallVB_fn, sxCallVB_yield, sxGuardB_u, sxGuardB_tt, sxGuardB_tf, sxGuardB_ft, sxGuardB_ff, sxIfB_t, sxIfB_f, packRes_one, packRes_two, List.map_cons, List.map_nil, List.nil_append, List.cons_append, List.append_nil, ↓reduceIte, Nat.reduceEqDiff, Nat.reduceLT, dec_T, dec_F, false_imp, true_and, and_true, true_implies, implies_true, false_and, and_false, true_or, or_true, false_or, or_false, and_self, or_self, read_relow, size_relow, low_relow, relow_relow, aLoad_relow, Nat.add_zero, Nat.mul_one, one1, Option.bind_some, ne_eq, Int.natCast_nonneg, Int.toNat_natCast, not_true_eq_false, not_false_eq_true, Option.map_some, Option.map_none, *, argF, List.getD_cons_zero, List.getD_cons_succ, lenR] | (with_reducible refine sxD_bar (by kernel_rfl) ?_))
      all_goals first
        | (exfalso; omega)
        | exact ⟨_, _, 0, 0, rfl, hK1, hg1, nilSl _, rfl⟩
        | exact ⟨_, _, 0, 0, rfl, nilSl _, rfl⟩
  · have hcr : clashRes k t i j = ([], chk k t) := by unfold clashRes; rw [if_pos hck]
    rw [hcr]
    clear hcr ht1
    repeat' (first | (with_reducible refine sxGuardB_tsp (fun h => ?_) (fun h => ?_)) | (with_reducible refine sxGuardB_fsp (fun h => ?_) (fun h => ?_)) | (with_reducible refine sxIfB_sp (fun h => ?_) (fun h => ?_)) | simp only [↓sxC_skip, ↓sxC_draw, ↓sxC_region, ↓sxC_seq, ↓bxC_cond, ↓bxC_loop, ↓sxC_block, ↓sxC_exit, ↓sxC_goto, ↓sxC_ret, ↓sxOps_nil, ↓sxOps_cons, ↓sxDraw_nil, ↓bxDraw_cons, ↓sxD_same, ↓sxStep_none, ↓bxStep_some, ↓bxOp_move, ↓bxOp_assign, ↓bxOp_pick, ↓bxOp_alloc, ↓bxOp_box, ↓bxOp_build, ↓bxOp_buildSlice, ↓bxOp_load, ↓bxOp_store, ↓bxOp_nilCheck, ↓bxOp_bin, ↓bxOp_un, ↓bxOp_makeI, ↓bxOp_makeFunc, ↓bxOp_makeSlice, ↓bxOp_slice, ↓bxOp_fieldAddr, ↓bxOp_field, ↓bxOp_indexAddr, ↓bxOp_index, ↓bxOp_assert, ↓bxOp_extract, ↓bxOp_value, ↓bxOp_len, ↓bxOp_cap, ↓bxOp_append, ↓bxOp_copy, ↓bxOp_max, ↓bxOp_min, ↓bxOp_convert, ↓sxPut_none, ↓bxPut, ↓seqQ_normal, ↓seqQ_exit, ↓seqQ_ret, ↓seqQ_goto, ↓blockQ_normal, ↓blockQ_ret, ↓blockQ_goto, ↓blockQ_exit, ↓loopQ_normal, ↓loopQ_exit, ↓loopQ_ret, ↓loopQ_goto, ↓resQ_normal, ↓resQ_ret, ↓sxRes_nil, ↓sxRes_tmp, ↓bxRes_cell, ↓upd_apply, ↓ev_tmp, ↓ev_const, ↓ev_global, ↓ev_func, ↓dstAt, ↓gval_some, sxOptB_some, sxOptB_ite, mm_max, mm_min, bin_shl, bin_shr, bin_int, intBin, una_not_dec, una_nt, una_nf, una_neg, aPick_true, aPick_false, sxCallVB_fn, sxCallVB_yield, sxGuardB_u, sxGuardB_tt, sxGuardB_tf, sxGuardB_ft, sxGuardB_ff, sxIfB_t, sxIfB_f, packRes_one, packRes_two, List.map_cons, List.map_nil, List.nil_append, List.cons_append, List.append_nil, ↓reduceIte, Nat.reduceEqDiff, Nat.reduceLT, dec_T, dec_F, false_imp, true_and, and_true, true_implies, implies_true, false_and, and_false, true_or, or_true, false_or, or_false, and_self, or_self, read_relow, size_relow, low_relow, relow_relow, aLoad_relow, Nat.add_zero, Nat.mul_one, one1, Option.bind_some, ne_eq, Int.natCast_nonneg, Int.toNat_natCast, not_true_eq_false, not_false_eq_true, Option.map_some, Option.map_none, *, argF, List.getD_cons_zero, List.getD_cons_succ, lenR] | (with_reducible refine sxD_bar (by kernel_rfl) ?_))
    all_goals first
      | exact ⟨_, _, 0, 0, rfl, hK1, hg1, nilSl _, rfl⟩
      | exact ⟨_, _, 0, 0, rfl, nilSl _, rfl⟩
end Go.Proofs.YtmllfacipbpkfaaDoor
