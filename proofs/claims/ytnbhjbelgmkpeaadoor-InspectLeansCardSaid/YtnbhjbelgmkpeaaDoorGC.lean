/- Lean of package inspect, on the canonical machine. -/
import Derived.Test.YtnbhjbelgmkpeaaDoorG9
set_option linter.unusedVariables false
set_option linter.unusedSimpArgs false
set_option linter.unusedSectionVars false

namespace Go.Proofs.YtnbhjbelgmkpeaaDoor
open Go Go.AM
set_option maxRecDepth 10000
set_option linter.unusedSimpArgs false

theorem ent_bound {g : List (List Int)} (hG : IsG g) {i j : Int} (hin : Inr g i j) : -100 ≤ ent g i j ∧ ent g i j ≤ 100 := by
  obtain ⟨hi, hj⟩ := hin
  have h1 := (hG.2.2 (g.getD i.toNat default) (getD_mem (by omega))).2
  exact h1 _ (getD_mem (by omega))
theorem OwnL.addr {r : Nat} {H : Heap} {v : Value} {w : List Int} (h : OwnL r H v w) {l : Nat} : OwnL r (H.relow l) v w := by
  obtain ⟨z, h1, ho, h2⟩ := h
  exact ⟨z, h1, ho.addr, h2⟩
theorem OwnL.other {r r2 : Nat} {H H' : Heap} {v : Value} {w : List Int} (h : OwnL r H v w) (hne : r ≠ r2) (ho : ∀ r' e' c', r' ≠ r2 → Own H r' e' c' → Own H' r' e' c') : OwnL r H' v w := by
  obtain ⟨z, h1, h3, h2⟩ := h
  exact ⟨z, h1, ho _ _ _ hne h3, h2⟩

variable {S : AM.Sys} (hS : Only S 10)
include hS

theorem plean_runs (g : List (List Int)) (gv : Value) (r o : Nat) (H : Heap) (hgr : Grp H) (hL : H.low ≤ H.size) (hg : SlG H gv g r o) (hG : IsG g) :
    ∃ H' v1 v2 r1 o1 r2 o2, Keep H H' ∧ SlI .i64 H' v1 (leanL g).1 r1 o1 ∧ SlI .i64 H' v2 (leanL g).2 r2 o2 ∧ Runs Tryd.prog S (.fn 41) [gv] H (.tuple #[v1, v2]) H' := by
  suffices h : WCall Tryd.prog S (.fn 41) [gv] H (fun v H' => ∃ v1 v2 r1 o1 r2 o2, v = .tuple #[v1, v2] ∧ Keep H H' ∧ SlI .i64 H' v1 (leanL g).1 r1 o1 ∧ SlI .i64 H' v2 (leanL g).2 r2 o2) by
    obtain ⟨v, H', hr, v1, v2, r1, o1, r2, o2, rfl, h1, h2, h3⟩ := h; exact ⟨H', v1, v2, r1, o1, r2, o2, h1, h2, h3, hr⟩
  obtain ⟨a, c, rfl⟩ := hg.v0
  have hn1 : g.length ≤ 5 := by have := hG.1; omega
  have hn2 : (g.getD 0 default).length ≤ 5 := by have := hG.2.1; omega
  have h0 : 0 < g.length := by have := hG.1; omega
  have cg : (Value.slice a g.length c).cells.toList = [.slice a g.length c] := rfl
  obtain ⟨H1, e1, k1, s1, z1, q1⟩ := box1 H [.slice a g.length c] 22
  have qb : H1.read H.size 0 1 = some [.slice a g.length c] := q1 0 1 (show 0 + 1 ≤ 1 by omega)
  have l1 := k1.low hL
  have g1 := k1.grp hgr
  obtain ⟨H2', v1, k2', ow2', R2⟩ := firstNumbers_runs hS g.length (H1.relow H1.size) hn1 ((Keep.relowS H1).grp g1) (Nat.le_refl _)
  have f2 := R2.bx
  have d2 : ∀ (all : List Oper) (n : Nat) (k : Heap → Prop), sxD all n H1 H2' k = k (H2'.relow (Nat.min H1.low H2'.low)) := fun all n k => sxD_keep k2' k
  have k2 := Keep.draw k2'
  have ow2 : OwnL H1.size (H2'.relow (Nat.min H1.low H2'.low)) v1 (nums g.length) := ow2'.addr
  have hob2 : ∃ H2, H2'.relow (Nat.min H1.low H2'.low) = H2 := ⟨_, rfl⟩
  obtain ⟨H2, y2⟩ := hob2
  rw [y2] at k2 ow2
  simp only [y2] at d2
  have l2 := k2.low l1
  have g2 := k2.grp g1
  have hg2 := (hg.keep k1).keep k2
  obtain ⟨ix, y, rY, oY, rd, hy⟩ := SlG_at hg2 h0
  have ix0 : aIndexAt Tryd.prog 22 (.slice a g.length c) (.int .i64 0) = some (.pointer (some ⟨r, o, none⟩)) := ix
  have rd0 : H2.read r o 1 = some [y] := rd
  have qb2 := k2.read s1 qb
  obtain ⟨aY, cY, rfl⟩ := hy.v0
  obtain ⟨H3', v2, k3', ow3', R3⟩ := firstNumbers_runs hS (g.getD 0 default).length (H2.relow H2.size) hn2 ((Keep.relowS H2).grp g2) (Nat.le_refl _)
  have f3 := R3.bx
  have d3 : ∀ (all : List Oper) (n : Nat) (k : Heap → Prop), sxD all n H2 H3' k = k (H3'.relow (Nat.min H2.low H3'.low)) := fun all n k => sxD_keep k3' k
  have k3 := Keep.draw k3'
  have ow3 : OwnL H2.size (H3'.relow (Nat.min H2.low H3'.low)) v2 (nums (g.getD 0 default).length) := ow3'.addr
  have hob3 : ∃ H3, H3'.relow (Nat.min H2.low H3'.low) = H3 := ⟨_, rfl⟩
  obtain ⟨H3, y3⟩ := hob3
  rw [y3] at k3 ow3
  simp only [y3] at d3
  have l3 := k3.low l2
  have ow23 := ow2.keep k3
  have k13 := k2.trans k3
  have sne : H1.size ≠ H2.size := by
    obtain ⟨z, _, hz, _⟩ := ow2
    have := hz.lt
    omega
  have hgb := hg.keep k1
  have hy1 : notYield (.func 76) = true := rfl
  have hy2 : notYield (.func 78) = true := rfl
  have s12 : H1.size ≤ H2.size := k2.size
  clear R2 R3 ix rd hy q1 ow2 ow2' ow3' k2' k3' hg2 y2 y3 z1
  refine call_of Tryd.func41 rfl (Nat.le_of_ble_eq_true rfl) (hS.no rfl _ _) ?_
  rw [Tryd.ntmps41, Tryd.results41]
  repeat' (first | (with_reducible refine sxGuardB_tsp (fun h => ?_) (fun h => ?_)) | (with_reducible refine sxGuardB_fsp (fun h => ?_) (fun h => ?_)) | (with_reducible refine sxIfB_sp (fun h => ?_) (fun h => ?_)) | simp only [↓sxC_skip, ↓sxC_draw, ↓sxC_region, ↓sxC_seq, ↓bxC_cond, ↓bxC_loop, ↓sxC_block, ↓sxC_exit, ↓sxC_goto, ↓sxC_ret, ↓sxOps_nil, ↓sxOps_cons, ↓sxDraw_nil, ↓bxDraw_cons, ↓sxDL_move, ↓sxDL_assign, ↓sxDL_pick, ↓sxDL_alloc, ↓sxDL_box, ↓sxDL_build, ↓sxDL_buildSlice, ↓sxDL_insert, ↓sxDL_load, ↓sxDL_nilCheck, ↓sxDL_binOp, ↓sxDL_unOp, ↓sxDL_convert, ↓sxDL_makeInterface, ↓sxDL_makeFunc, ↓sxDL_makeMap, ↓sxDL_makeSlice, ↓sxDL_slice, ↓sxDL_fieldAddr, ↓sxDL_field, ↓sxDL_indexAddr, ↓sxDL_index, ↓sxDL_typeAssert, ↓sxDL_extract, ↓sxDL_call, ↓sxDL_lookup, ↓sxDL_mapUpdate, ↓sxDL_range, ↓sxDL_next, ↓sxDL_entry, ↓sxDL_mapEntry, ↓sxDL_entryStore, ↓sxD_same, ↓sxStep_none, ↓bxStep_some, ↓bxOp_move, ↓bxOp_assign, ↓bxOp_pick, ↓bxOp_alloc, ↓bxOp_box, ↓bxOp_build, ↓bxOp_buildSlice, ↓bxOp_load, ↓bxOp_store, ↓bxOp_nilCheck, ↓bxOp_bin, ↓bxOp_un, ↓bxOp_makeI, ↓bxOp_makeFunc, ↓bxOp_makeSlice, ↓bxOp_slice, ↓bxOp_fieldAddr, ↓bxOp_field, ↓bxOp_indexAddr, ↓bxOp_index, ↓bxOp_assert, ↓bxOp_extract, ↓bxOp_value, ↓bxOp_len, ↓bxOp_cap, ↓bxOp_append, ↓bxOp_copy, ↓bxOp_clear, ↓bxOp_max, ↓bxOp_min, ↓bxOp_convert, ↓sxPut_none, ↓bxPut, ↓seqQ_normal, ↓seqQ_exit, ↓seqQ_ret, ↓seqQ_goto, ↓blockQ_normal, ↓blockQ_ret, ↓blockQ_goto, ↓blockQ_exit, ↓loopQ_normal, ↓loopQ_exit, ↓loopQ_ret, ↓loopQ_goto, ↓resQ_normal, ↓resQ_ret, ↓sxRes_nil, ↓sxRes_tmp, ↓bxRes_cell, ↓upd_apply, ↓ev_tmp, ↓ev_const, ↓ev_global, ↓ev_func, ↓dstAt, ↓gval_some, sxOptB_some, sxOptB_ite, mm_max, mm_min, binP_shl, binP_shr, binP_int, intBin, una_not_dec, una_nt, una_nf, una_neg, aPick_true, aPick_false, sxCallVB_fn, sxCallVB_yield, sxGuardB_u, sxGuardB_tt, sxGuardB_tf, sxGuardB_ft, sxGuardB_ff, sxIfB_t, sxIfB_f, packRes_one, packRes_two, List.map_cons, List.map_nil, List.nil_append, List.cons_append, List.append_nil, ↓reduceIte, Nat.reduceEqDiff, Nat.reduceLT, dec_T, dec_F, false_imp, true_and, and_true, true_implies, implies_true, false_and, and_false, true_or, or_true, false_or, or_false, and_self, or_self, read_relow, size_relow, low_relow, relow_relow, aLoad_relow, Nat.add_zero, Nat.mul_one, one1, Option.bind_some, ne_eq, Int.natCast_nonneg, Int.toNat_natCast, not_true_eq_false, not_false_eq_true, Option.map_some, Option.map_none, *, argF, List.getD_cons_zero, List.getD_cons_succ, lenI, lenG, ldG, ldIs] | (with_reducible refine sxDL_barE (by assumption) (by decide +kernel) ?_) | (with_reducible refine sxDL_bar (by decide +kernel) ?_) | (with_reducible refine sxD_bar (by decide +kernel) ?_))
  refine sxL_of (fun m ρ H5 => ∃ (rs cs : List Int) (v1 v2 : Value), rs.length + cs.length + 1 ≤ m ∧ leanGo g m rs cs = leanL g ∧ (∀ x ∈ rs, ∀ y ∈ cs, Inr g x y) ∧ Keep H1 H5 ∧ OwnL H1.size H5 v1 rs ∧ OwnL H2.size H5 v2 cs ∧
      ρ 1 = .pointer (some ⟨H.size, 0, none⟩) ∧ ρ 4 = v1 ∧ ρ 5 = v2) (n := g.length + (g.getD 0 default).length + 1)
    ⟨nums g.length, nums (g.getD 0 default).length, v1, v2, by rw [nums_len, nums_len]; omega, rfl, inr_all hG, k13, ow23, ow3, rfl, rfl, rfl⟩ ?_
  rintro m ρ H5 ⟨rs, cs, v1, v2, hm, hgo, hin, k5, t1, t2, e1', e4, e5⟩
  refine shieldG fun P hP => ?_
  clear f2 f3 d2 d3 e1 qb2 rd0 ix0 ow3 ow23
  cases m with
  | zero => exfalso; omega
  | succ m =>
    have k05 := k1.trans k5
    have l5 := k05.low hL
    have hg5 := hgb.keep k5
    have qb5 := k5.read s1 qb
    have F1 := (firstWorse_runs hS (ent g) v1 v2 rs cs _ _ _ _ H5 t1.sl t2.sl (f := 76) (cs := [.pointer (some ⟨H.size, 0, none⟩)])
      (fun x hx y hy => lean1_runs hS g _ r o H.size x y H5 hg5 qb5 (hin x hx y hy).1 (hin x hx y hy).2)).bx
    have F2 := (firstWorse_runs hS (fun c r => 0 - ent g r c) v2 v1 cs rs _ _ _ _ H5 t2.sl t1.sl (f := 78) (cs := [.pointer (some ⟨H.size, 0, none⟩)])
      (fun y hy x hx => lean2_runs hS g _ r o H.size x y H5 hg5 qb5 (hin x hx y hy).1 (hin x hx y hy).2 (ent_bound hG (hin x hx y hy)))).bx
    have hgo' := hgo
    unfold leanGo at hgo'
    have hfA := fw_range (ent g) rs cs
    rcases hfA with hA | ⟨kA, hA, hkA⟩
    · have hfB := fw_range (fun c r => 0 - ent g r c) cs rs
      rcases hfB with hB | ⟨kB, hB, hkB⟩
      · rw [hA] at hgo' F1
        rw [hB] at hgo' F2
        have hfin : (rs, cs) = leanL g := hgo'
        have t1' : SlI .i64 H5 v1 (leanL g).1 H1.size 0 := by rw [← hfin]; exact t1.sl
        have t2' : SlI .i64 H5 v2 (leanL g).2 H2.size 0 := by rw [← hfin]; exact t2.sl
        have c1 : decide ((0 : Int) ≤ -1) = false := by decide
        rw [c1] at F1 F2
        clear hg hg5 hgb hgo hgo' hin t1 t2 hA hB hfin hm qb qb5 c1
        subst hP
        repeat' (first | (with_reducible refine sxGuardB_tsp (fun h => ?_) (fun h => ?_)) | (with_reducible refine sxGuardB_fsp (fun h => ?_) (fun h => ?_)) | (with_reducible refine sxIfB_sp (fun h => ?_) (fun h => ?_)) | simp only [↓sxC_skip, ↓sxC_draw, ↓sxC_region, ↓sxC_seq, ↓bxC_cond, ↓bxC_loop, ↓sxC_block, ↓sxC_exit, ↓sxC_goto, ↓sxC_ret, ↓sxOps_nil, ↓sxOps_cons, ↓sxDraw_nil, ↓bxDraw_cons, ↓sxDL_move, ↓sxDL_assign, ↓sxDL_pick, ↓sxDL_alloc, ↓sxDL_box, ↓sxDL_build, ↓sxDL_buildSlice, ↓sxDL_insert, ↓sxDL_load, ↓sxDL_nilCheck, ↓sxDL_binOp, ↓sxDL_unOp, ↓sxDL_convert, ↓sxDL_makeInterface, ↓sxDL_makeFunc, ↓sxDL_makeMap, ↓sxDL_makeSlice, ↓sxDL_slice, ↓sxDL_fieldAddr, ↓sxDL_field, ↓sxDL_indexAddr, ↓sxDL_index, ↓sxDL_typeAssert, ↓sxDL_extract, ↓sxDL_call, ↓sxDL_lookup, ↓sxDL_mapUpdate, ↓sxDL_range, ↓sxDL_next, ↓sxDL_entry, ↓sxDL_mapEntry, ↓sxDL_entryStore, ↓sxD_same, ↓sxStep_none, ↓bxStep_some, ↓bxOp_move, ↓bxOp_assign, ↓bxOp_pick, ↓bxOp_alloc, ↓bxOp_box, ↓bxOp_build, ↓bxOp_buildSlice, ↓bxOp_load, ↓bxOp_store, ↓bxOp_nilCheck, ↓bxOp_bin, ↓bxOp_un, ↓bxOp_makeI, ↓bxOp_makeFunc, ↓bxOp_makeSlice, ↓bxOp_slice, ↓bxOp_fieldAddr, ↓bxOp_field, ↓bxOp_indexAddr, ↓bxOp_index, ↓bxOp_assert, ↓bxOp_extract, ↓bxOp_value, ↓bxOp_len, ↓bxOp_cap, ↓bxOp_append, ↓bxOp_copy, ↓bxOp_clear, ↓bxOp_max, ↓bxOp_min, ↓bxOp_convert, ↓sxPut_none, ↓bxPut, ↓seqQ_normal, ↓seqQ_exit, ↓seqQ_ret, ↓seqQ_goto, ↓blockQ_normal, ↓blockQ_ret, ↓blockQ_goto, ↓blockQ_exit, ↓loopQ_normal, ↓loopQ_exit, ↓loopQ_ret, ↓loopQ_goto, ↓resQ_normal, ↓resQ_ret, ↓sxRes_nil, ↓sxRes_tmp, ↓bxRes_cell, ↓upd_apply, ↓ev_tmp, ↓ev_const, ↓ev_global, ↓ev_func, ↓dstAt, ↓gval_some, sxOptB_some, sxOptB_ite, mm_max, mm_min, binP_shl, binP_shr, binP_int, intBin, una_not_dec, una_nt, una_nf, una_neg, aPick_true, aPick_false, sxCallVB_fn, sxCallVB_yield, sxGuardB_u, sxGuardB_tt, sxGuardB_tf, sxGuardB_ft, sxGuardB_ff, sxIfB_t, sxIfB_f, packRes_one, packRes_two, List.map_cons, List.map_nil, List.nil_append, List.cons_append, List.append_nil, ↓reduceIte, Nat.reduceEqDiff, Nat.reduceLT, dec_T, dec_F, false_imp, true_and, and_true, true_implies, implies_true, false_and, and_false, true_or, or_true, false_or, or_false, and_self, or_self, read_relow, size_relow, low_relow, relow_relow, aLoad_relow, Nat.add_zero, Nat.mul_one, one1, Option.bind_some, ne_eq, Int.natCast_nonneg, Int.toNat_natCast, not_true_eq_false, not_false_eq_true, Option.map_some, Option.map_none, *, ex20, ex21] | (with_reducible refine sxDL_barE (by assumption) (by decide +kernel) ?_) | (with_reducible refine sxDL_bar (by decide +kernel) ?_) | (with_reducible refine sxD_bar (by decide +kernel) ?_))
        exact ⟨_, _, _, _, _, _, rfl, t1', t2'⟩
      · rw [hA] at hgo' F1
        rw [hB] at hgo' F2
        have hst : leanGo g m rs (cs.eraseIdx kB) = leanL g := by
          rw [if_neg (by omega), if_pos (by omega), Int.toNat_natCast] at hgo'
          exact hgo'
        have hobD := delete_runs hS H2.size v2 cs kB H1 H5 k5 s12 l5 t2 hkB
        obtain ⟨H6, v6, k6, t6, oo6, R6⟩ := hobD
        have f6 := R6.bx
        have t1' := t1.other sne oo6
        have hin' := inr_erase2 hin kB
        have hlen := List.length_eraseIdx_of_lt hkB
        have c1 : decide ((0 : Int) ≤ -1) = false := by decide
        have c2 : decide ((0 : Int) ≤ (kB : Int)) = true := decide_eq_true (by omega)
        have c3 : max 0 (kB : Int) = (kB : Int) := by omega
        have w6 : IntKind.i64.wrap ((kB : Int) + 1) = (kB : Int) + 1 := by
          obtain ⟨zz, _, _, hz, _⟩ := t2
          exact IntWalk.i64_in _ (by omega)
        rw [c1] at F1
        rw [c2, c3] at F2
        clear hg hg5 hgb hgo hgo' hin t1 t2 hA hB qb qb5 R6 oo6 c1 c2 c3
        subst hP
        repeat' (first | (with_reducible refine sxGuardB_tsp (fun h => ?_) (fun h => ?_)) | (with_reducible refine sxGuardB_fsp (fun h => ?_) (fun h => ?_)) | (with_reducible refine sxIfB_sp (fun h => ?_) (fun h => ?_)) | simp only [↓sxC_skip, ↓sxC_draw, ↓sxC_region, ↓sxC_seq, ↓bxC_cond, ↓bxC_loop, ↓sxC_block, ↓sxC_exit, ↓sxC_goto, ↓sxC_ret, ↓sxOps_nil, ↓sxOps_cons, ↓sxDraw_nil, ↓bxDraw_cons, ↓sxDL_move, ↓sxDL_assign, ↓sxDL_pick, ↓sxDL_alloc, ↓sxDL_box, ↓sxDL_build, ↓sxDL_buildSlice, ↓sxDL_insert, ↓sxDL_load, ↓sxDL_nilCheck, ↓sxDL_binOp, ↓sxDL_unOp, ↓sxDL_convert, ↓sxDL_makeInterface, ↓sxDL_makeFunc, ↓sxDL_makeMap, ↓sxDL_makeSlice, ↓sxDL_slice, ↓sxDL_fieldAddr, ↓sxDL_field, ↓sxDL_indexAddr, ↓sxDL_index, ↓sxDL_typeAssert, ↓sxDL_extract, ↓sxDL_call, ↓sxDL_lookup, ↓sxDL_mapUpdate, ↓sxDL_range, ↓sxDL_next, ↓sxDL_entry, ↓sxDL_mapEntry, ↓sxDL_entryStore, ↓sxD_same, ↓sxStep_none, ↓bxStep_some, ↓bxOp_move, ↓bxOp_assign, ↓bxOp_pick, ↓bxOp_alloc, ↓bxOp_box, ↓bxOp_build, ↓bxOp_buildSlice, ↓bxOp_load, ↓bxOp_store, ↓bxOp_nilCheck, ↓bxOp_bin, ↓bxOp_un, ↓bxOp_makeI, ↓bxOp_makeFunc, ↓bxOp_makeSlice, ↓bxOp_slice, ↓bxOp_fieldAddr, ↓bxOp_field, ↓bxOp_indexAddr, ↓bxOp_index, ↓bxOp_assert, ↓bxOp_extract, ↓bxOp_value, ↓bxOp_len, ↓bxOp_cap, ↓bxOp_append, ↓bxOp_copy, ↓bxOp_clear, ↓bxOp_max, ↓bxOp_min, ↓bxOp_convert, ↓sxPut_none, ↓bxPut, ↓seqQ_normal, ↓seqQ_exit, ↓seqQ_ret, ↓seqQ_goto, ↓blockQ_normal, ↓blockQ_ret, ↓blockQ_goto, ↓blockQ_exit, ↓loopQ_normal, ↓loopQ_exit, ↓loopQ_ret, ↓loopQ_goto, ↓resQ_normal, ↓resQ_ret, ↓sxRes_nil, ↓sxRes_tmp, ↓bxRes_cell, ↓upd_apply, ↓ev_tmp, ↓ev_const, ↓ev_global, ↓ev_func, ↓dstAt, ↓gval_some, sxOptB_some, sxOptB_ite, mm_max, mm_min, binP_shl, binP_shr, binP_int, intBin, una_not_dec, una_nt, una_nf, una_neg, aPick_true, aPick_false, sxCallVB_fn, sxCallVB_yield, sxGuardB_u, sxGuardB_tt, sxGuardB_tf, sxGuardB_ft, sxGuardB_ff, sxIfB_t, sxIfB_f, packRes_one, packRes_two, List.map_cons, List.map_nil, List.nil_append, List.cons_append, List.append_nil, ↓reduceIte, Nat.reduceEqDiff, Nat.reduceLT, dec_T, dec_F, false_imp, true_and, and_true, true_implies, implies_true, false_and, and_false, true_or, or_true, false_or, or_false, and_self, or_self, read_relow, size_relow, low_relow, relow_relow, aLoad_relow, Nat.add_zero, Nat.mul_one, one1, Option.bind_some, ne_eq, Int.natCast_nonneg, Int.toNat_natCast, not_true_eq_false, not_false_eq_true, Option.map_some, Option.map_none, *, ex20, ex21] | (with_reducible refine sxDL_barE (by assumption) (by decide +kernel) ?_) | (with_reducible refine sxDL_bar (by decide +kernel) ?_) | (with_reducible refine sxD_bar (by decide +kernel) ?_))
        exact ⟨m, by omega, rs, cs.eraseIdx kB, v1, v6, by omega, hst, hin', t1', t6, rfl, rfl⟩
    · rw [hA] at hgo' F1
      have hst : leanGo g m (rs.eraseIdx kA) cs = leanL g := by
        rw [if_pos (by omega), Int.toNat_natCast] at hgo'
        exact hgo'
      have hobD := delete_runs hS H1.size v1 rs kA H1 H5 k5 (Nat.le_refl _) l5 t1 hkA
      obtain ⟨H6, v6, k6, t6, oo6, R6⟩ := hobD
      have f6 := R6.bx
      have t2' := t2.other (Ne.symm sne) oo6
      have hin' := inr_erase1 hin kA
      have hlen := List.length_eraseIdx_of_lt hkA
      have c2 : decide ((0 : Int) ≤ (kA : Int)) = true := decide_eq_true (by omega)
      have c3 : max 0 (kA : Int) = (kA : Int) := by omega
      have w6 : IntKind.i64.wrap ((kA : Int) + 1) = (kA : Int) + 1 := by
        obtain ⟨zz, _, _, hz, _⟩ := t1
        exact IntWalk.i64_in _ (by omega)
      rw [c2, c3] at F1
      clear F2 hg hg5 hgb hgo hgo' hin t1 t2 hA qb qb5 R6 oo6 c2 c3
      subst hP
      repeat' (first | (with_reducible refine sxGuardB_tsp (fun h => ?_) (fun h => ?_)) | (with_reducible refine sxGuardB_fsp (fun h => ?_) (fun h => ?_)) | (with_reducible refine sxIfB_sp (fun h => ?_) (fun h => ?_)) | simp only [↓sxC_skip, ↓sxC_draw, ↓sxC_region, ↓sxC_seq, ↓bxC_cond, ↓bxC_loop, ↓sxC_block, ↓sxC_exit, ↓sxC_goto, ↓sxC_ret, ↓sxOps_nil, ↓sxOps_cons, ↓sxDraw_nil, ↓bxDraw_cons, ↓sxDL_move, ↓sxDL_assign, ↓sxDL_pick, ↓sxDL_alloc, ↓sxDL_box, ↓sxDL_build, ↓sxDL_buildSlice, ↓sxDL_insert, ↓sxDL_load, ↓sxDL_nilCheck, ↓sxDL_binOp, ↓sxDL_unOp, ↓sxDL_convert, ↓sxDL_makeInterface, ↓sxDL_makeFunc, ↓sxDL_makeMap, ↓sxDL_makeSlice, ↓sxDL_slice, ↓sxDL_fieldAddr, ↓sxDL_field, ↓sxDL_indexAddr, ↓sxDL_index, ↓sxDL_typeAssert, ↓sxDL_extract, ↓sxDL_call, ↓sxDL_lookup, ↓sxDL_mapUpdate, ↓sxDL_range, ↓sxDL_next, ↓sxDL_entry, ↓sxDL_mapEntry, ↓sxDL_entryStore, ↓sxD_same, ↓sxStep_none, ↓bxStep_some, ↓bxOp_move, ↓bxOp_assign, ↓bxOp_pick, ↓bxOp_alloc, ↓bxOp_box, ↓bxOp_build, ↓bxOp_buildSlice, ↓bxOp_load, ↓bxOp_store, ↓bxOp_nilCheck, ↓bxOp_bin, ↓bxOp_un, ↓bxOp_makeI, ↓bxOp_makeFunc, ↓bxOp_makeSlice, ↓bxOp_slice, ↓bxOp_fieldAddr, ↓bxOp_field, ↓bxOp_indexAddr, ↓bxOp_index, ↓bxOp_assert, ↓bxOp_extract, ↓bxOp_value, ↓bxOp_len, ↓bxOp_cap, ↓bxOp_append, ↓bxOp_copy, ↓bxOp_clear, ↓bxOp_max, ↓bxOp_min, ↓bxOp_convert, ↓sxPut_none, ↓bxPut, ↓seqQ_normal, ↓seqQ_exit, ↓seqQ_ret, ↓seqQ_goto, ↓blockQ_normal, ↓blockQ_ret, ↓blockQ_goto, ↓blockQ_exit, ↓loopQ_normal, ↓loopQ_exit, ↓loopQ_ret, ↓loopQ_goto, ↓resQ_normal, ↓resQ_ret, ↓sxRes_nil, ↓sxRes_tmp, ↓bxRes_cell, ↓upd_apply, ↓ev_tmp, ↓ev_const, ↓ev_global, ↓ev_func, ↓dstAt, ↓gval_some, sxOptB_some, sxOptB_ite, mm_max, mm_min, binP_shl, binP_shr, binP_int, intBin, una_not_dec, una_nt, una_nf, una_neg, aPick_true, aPick_false, sxCallVB_fn, sxCallVB_yield, sxGuardB_u, sxGuardB_tt, sxGuardB_tf, sxGuardB_ft, sxGuardB_ff, sxIfB_t, sxIfB_f, packRes_one, packRes_two, List.map_cons, List.map_nil, List.nil_append, List.cons_append, List.append_nil, ↓reduceIte, Nat.reduceEqDiff, Nat.reduceLT, dec_T, dec_F, false_imp, true_and, and_true, true_implies, implies_true, false_and, and_false, true_or, or_true, false_or, or_false, and_self, or_self, read_relow, size_relow, low_relow, relow_relow, aLoad_relow, Nat.add_zero, Nat.mul_one, one1, Option.bind_some, ne_eq, Int.natCast_nonneg, Int.toNat_natCast, not_true_eq_false, not_false_eq_true, Option.map_some, Option.map_none, *, ex20, ex21] | (with_reducible refine sxDL_barE (by assumption) (by decide +kernel) ?_) | (with_reducible refine sxDL_bar (by decide +kernel) ?_) | (with_reducible refine sxD_bar (by decide +kernel) ?_))
      exact ⟨m, by omega, rs.eraseIdx kA, cs, v6, v2, by omega, hst, hin', t6, t2', rfl, rfl⟩
end Go.Proofs.YtnbhjbelgmkpeaaDoor
