/- Whole numbers of any size, continued: the sum. -/
import Derived.Test.YtnbhjbelgmkpeaaDoorB9
import Derived.Test.YtnbhjbelgmkpeaaDoorBE
import Derived.Test.YtnbhjbelgmkpeaaDoorBC
set_option linter.unusedVariables false
set_option linter.unusedSimpArgs false
set_option linter.unusedSectionVars false

namespace Go.Proofs.YtnbhjbelgmkpeaaDoor
open Go Go.AM
set_option maxRecDepth 10000
set_option linter.unusedSimpArgs false

theorem BigIs.addr0 {H : Heap} {v : Value} {z : Int} {lo l : Nat} (h : BigIs H v z lo) : BigIs (H.relow l) v z lo := by
  obtain ⟨v', w, r, o, h1, h2, h3⟩ := h
  exact ⟨v', w, r, o, h1, ⟨h2.isv, h2.rd, h2.lt, h2.ml⟩, h3⟩
theorem BigIs.mono0 {H : Heap} {v : Value} {z : Int} {a b : Nat} (h : BigIs H v z a) (hab : a ≤ b) : BigIs H v z b := by
  obtain ⟨v', w, r', o', h1, h2, h3, h4, h5, h6⟩ := h
  exact ⟨v', w, r', o', h1, h2, h3, h4, h5, Nat.le_trans h6 hab⟩
theorem SlI.addr0 {k : IntKind} {H : Heap} {v : Value} {w : List Int} {r o l : Nat} (h : SlI k H v w r o) : SlI k (H.relow l) v w r o := ⟨h.isv, h.rd, h.lt, h.ml⟩
/-- Digits lie in no row of a number that is still empty. -/
theorem ne_row2 {H : Heap} {r : Nat} {e : TypeId} (h : Own H r e [.bool false, .slice none 0 0]) {k : IntKind} {v : Value} {w : List Int} {r' o' : Nat} (hx : SlI k H v w r' o') (h0 : 0 < w.length) : r' ≠ r := by
  intro he
  subst he
  have h1 := (hx.rdI h0).1
  by_cases hle : o' + 0 + 1 ≤ 2
  · rw [h.read (o := o' + 0) (n := 1) hle] at h1
    rcases o' with _ | _ | o'
    all_goals first | (simp at h1; done) | omega
  · unfold Heap.read at h1
    rw [h.get] at h1
    simp only [] at h1
    rw [show Nat.ble (o' + 0 + 1) [Value.bool false, .slice none 0 0].length = false from Bool.eq_false_iff.2 (fun hb => hle (Nat.le_of_ble_eq_true hb))] at h1
    simp at h1
/-- A number laid into the empty row of a result. -/
theorem retBig {H : Heap} {r : Nat} (h : Own H r 50 [.bool false, .slice none 0 0]) {v : Value} {z : Int} {lo : Nat} (hq : BigIs H v z lo) :
    ∃ H2, aStore Tryd.prog H 50 (.pointer (some ⟨r, 0, none⟩)) v = some H2 ∧ aLoad Tryd.prog H2 50 (.pointer (some ⟨r, 0, none⟩)) = some v ∧ BigIs H2 v z lo ∧ (∀ H0, Keep H0 H → H0.size ≤ r → Keep H0 H2) := by
  obtain ⟨v', w, r', o', rfl, s1, h3⟩ := hq
  obtain ⟨a1, c1, rfl⟩ := s1.v0
  obtain ⟨H2, ps, q8, hsz, hkp⟩ := stBig h rfl (decide (z < 0)) a1 w.length c1
  exact ⟨H2, ps, by rw [ldBig, q8]; rfl, ⟨_, w, r', o', rfl, SlE.other h ps hsz s1 (ne_row2 h s1), h3⟩, hkp⟩

/-- The end of a function that returns a number which a call gives, in a region that draws. -/
theorem endBig {S : AM.Sys} {f : FuncId} {args : List Value} {H0 H : Heap} {r : Nat} (hk : Keep H0 H) (hr : H0.size ≤ r) (hL : H.low ≤ H.size) (hg0 : Grp H0) (ow : Own H r 50 [.bool false, .slice none 0 0]) {z : Int} {lo : Nat} (h : BigOut S f args (H.relow H.size) z lo) :
    ∃ v H6 H7 H8, (∀ (K : Value → Heap → Prop) (b : Blk K), sxCallB Tryd.prog S (.fn f) args (H.relow H.size) K b = K v H6) ∧ (∀ (all : List Oper) (n : Nat) (k : Heap → Prop), sxD all n H H6 k = k H7) ∧
      aStore Tryd.prog (H7.relow H7.size) 50 (.pointer (some ⟨r, 0, none⟩)) v = some H8 ∧ aLoad Tryd.prog H8 50 (.pointer (some ⟨r, 0, none⟩)) = some v ∧ H7.low ≤ H7.size ∧
      Keep H0 (H8.relow (Nat.min H7.low H8.low)) ∧ Grp (H8.relow (Nat.min H7.low H8.low)) ∧ BigIs (H8.relow (Nat.min H7.low H8.low)) v z lo := by
  obtain ⟨H6, v, hK6, hg6, hb, hR⟩ := h
  have hK67 := Keep.draw hK6
  have hK7 := hk.trans hK67
  have ow7 := (ow.keep hK67).addr (l := (H6.relow (Nat.min H.low H6.low)).size)
  obtain ⟨H8, ps, hld, hq, hkp⟩ := retBig ow7 (hb.addr0.addr0)
  have hK8 := Keep.lower hK7 (hkp H0 (hK7.trans (Keep.relowS _)) hr)
  exact ⟨v, H6, H6.relow (Nat.min H.low H6.low), H8, hR.bx, fun all n k => sxD_keep hK6 k, ps, hld, hK67.low hL, hK8, hK8.grp hg0, hq.addr0⟩

variable {S : AM.Sys} (hS : Only S 10)
include hS

/-- The number of a sign and digits, as a call gives it. -/
theorem whole_big (sg : Bool) (v : Value) (w : List Int) (r o : Nat) (H : Heap) (hg : Grp H) (hL : H.low ≤ H.size) (hd : SlI .i64 H v w r o) (hdg : Digs w) (hs : w.length ≤ 100000) (z : Int) (hv : val w = z.natAbs) (hsg : z ≠ 0 → sg = decide (z < 0)) : BigOut S 86 [.bool sg, v] H z w.length := by
  have hob := whole_runs hS sg v w r o H hg hL hd hs
  obtain ⟨H', v', r', o', hK, hg', s', hF, hfr, hR⟩ := hob
  have hvt : val (trimL w) = z.natAbs := by rw [trimL_val, hv]
  have htd := trimL_digs hdg
  have htn := trimL_norm w
  have hpos := val_zero htd htn
  rw [hvt] at hpos
  have hsg2 : (sg && decide (0 < (trimL w).length)) = decide (z < 0) := by
    by_cases h0 : z = 0
    · have hl : ¬ 0 < (trimL w).length := fun h => by have := hpos.1 h; omega
      rw [decide_eq_false hl, decide_eq_false (show ¬ z < 0 by omega), Bool.and_false]
    · rw [decide_eq_true (hpos.2 (by omega)), Bool.and_true, hsg h0]
  rw [hsg2] at hR
  exact ⟨H', _, hK, hg', ⟨_, trimL w, r', o', rfl, s', htd, htn, hvt, trimL_le w⟩, hR⟩

theorem Plus_runs (v1 v2 : Value) (x y : Int) (l1 l2 : Nat) (H : Heap) (hg : Grp H) (hL : H.low ≤ H.size) (h1 : BigIs H v1 x l1) (h2 : BigIs H v2 y l2) (hl1 : l1 ≤ 400) (hl2 : l2 ≤ 400) : BigOut S 56 [v1, v2] H (x + y) (l1 + l2 + 1) := by
  suffices h : WCall Tryd.prog S (.fn 56) [v1, v2] H (fun v H' => Keep H H' ∧ Grp H' ∧ BigIs H' v (x + y) (l1 + l2 + 1)) by
    obtain ⟨v, H', hr, h1, h2, h3⟩ := h; exact ⟨H', v, h1, h2, h3, hr⟩
  obtain ⟨u1, w1, r1, o1, rfl, s1, d1, n1, e1, g1⟩ := h1
  obtain ⟨u2, w2, r2, o2, rfl, s2, d2, n2, e2, g2⟩ := h2
  obtain ⟨a1, c1, rfl⟩ := s1.v0
  obtain ⟨a2, c2, rfl⟩ := s2.v0
  obtain ⟨H1, b1, hK1, hs1, zz1, hr1⟩ := box1 H [.bool (decide (x < 0)), .slice a1 w1.length c1] 50
  obtain ⟨H2, b2, hK2, hs2, zz2, hr2⟩ := box1 H1 [.bool (decide (y < 0)), .slice a2 w2.length c2] 50
  obtain ⟨H3, b3, hK3, hs3, zz3, _⟩ := box1 H2 [.bool false, .slice none 0 0] 50
  have ow : Own H3 H2.size 50 [.bool false, .slice none 0 0] := b3 ▸ Own.new H2 _ _
  clear zz1 zz2 zz3
  have q0 := (hK2.trans hK3).read hs1 (hr1 0 1 (show 0 + 1 ≤ 2 by omega))
  have q1 := (hK2.trans hK3).read hs1 (hr1 1 1 (show 1 + 1 ≤ 2 by omega))
  have q2 := hK3.read hs2 (hr2 0 1 (show 0 + 1 ≤ 2 by omega))
  have q3 := hK3.read hs2 (hr2 1 1 (show 1 + 1 ≤ 2 by omega))
  replace q0 : H3.read H.size 0 1 = some [.bool (decide (x < 0))] := q0
  replace q1 : H3.read H.size 1 1 = some [.slice a1 w1.length c1] := q1
  replace q2 : H3.read H1.size 0 1 = some [.bool (decide (y < 0))] := q2
  replace q3 : H3.read H1.size 1 1 = some [.slice a2 w2.length c2] := q3
  have hc1 : (Value.agg ⟨[.bool (decide (x < 0)), .slice a1 w1.length c1]⟩).cells.toList = [.bool (decide (x < 0)), .slice a1 w1.length c1] := rfl
  have hc2 : (Value.agg ⟨[.bool (decide (y < 0)), .slice a2 w2.length c2]⟩).cells.toList = [.bool (decide (y < 0)), .slice a2 w2.length c2] := rfl
  have hK03 := (hK1.trans hK2).trans hK3
  have hL3 := hK03.low hL
  have hg3 := hK03.grp hg
  clear hr1 hr2
  refine call_of Tryd.func56 rfl (Nat.le_of_ble_eq_true rfl) (hS.no rfl _ _) ?_
  rw [Tryd.ntmps56, Tryd.results56]
  have hrl := Keep.relowS H3
  have hgr := hrl.grp hg3
  have sa := (s1.keep hK03).keep hrl
  have sb := (s2.keep hK03).keep hrl
  have key : ∀ (f : FuncId) (args : List Value) (sg : Bool), (x + y ≠ 0 → sg = decide (x + y < 0)) → (∃ w, Digs w ∧ val w = ((x + y).natAbs : Int) ∧ w.length ≤ l1 + l2 + 1 ∧ Out S f args (H3.relow H3.size) w) →
      ∃ v4 H4 H5 v6 H6 H7 H8, (∀ (K : Value → Heap → Prop) (b : Blk K), sxCallB Tryd.prog S (.fn f) args (H3.relow H3.size) K b = K v4 H4) ∧ (∀ (all : List Oper) (n : Nat) (k : Heap → Prop), sxD all n H3 H4 k = k H5) ∧ H5.low ≤ H5.size ∧
        (∀ (K : Value → Heap → Prop) (b : Blk K), sxCallB Tryd.prog S (.fn 86) [.bool sg, v4] (H5.relow H5.size) K b = K v6 H6) ∧ (∀ (all : List Oper) (n : Nat) (k : Heap → Prop), sxD all n H5 H6 k = k H7) ∧
        aStore Tryd.prog (H7.relow H7.size) 50 (.pointer (some ⟨H2.size, 0, none⟩)) v6 = some H8 ∧ aLoad Tryd.prog H8 50 (.pointer (some ⟨H2.size, 0, none⟩)) = some v6 ∧ H7.low ≤ H7.size ∧
        Keep H (H8.relow (Nat.min H7.low H8.low)) ∧ Grp (H8.relow (Nat.min H7.low H8.low)) ∧ BigIs (H8.relow (Nat.min H7.low H8.low)) v6 (x + y) (l1 + l2 + 1) := by
    rintro f args sg hsg ⟨w, wd, wv, wl, H4, v4, r4, o4, hK4, hg4, s4, hF4, hfr4, hR4⟩
    have hK45 := Keep.draw hK4
    have hL5 := hK45.low hL3
    have hK05 := hK03.trans hK45
    have hw := whole_big hS sg v4 w r4 o4 ((H4.relow (Nat.min H3.low H4.low)).relow (H4.relow (Nat.min H3.low H4.low)).size) ((Keep.relowS _).grp (hK45.grp hg3)) (Nat.le_refl _) (SlI.addr0 (SlI.addr0 s4)) wd (by omega) (x + y) wv hsg
    obtain ⟨Hw, vw, k1, k2, k3, k4⟩ := hw
    obtain ⟨v6, H6, H7, H8, a1, a2, a3, a4, a5, a6, a7, a8⟩ := endBig hK05 (Nat.le_trans hK1.size hK2.size) hL5 hg (ow.keep hK45) ⟨Hw, vw, k1, k2, BigIs.mono0 k3 wl, k4⟩
    exact ⟨v4, H4, H4.relow (Nat.min H3.low H4.low), v6, H6, H7, H8, hR4.bx, fun all n k => sxD_keep hK4 k, hL5, a1, a2, a3, a4, a5, a6, a7, a8⟩
  by_cases hxy : decide (x < 0) = decide (y < 0)
  · have hb : (decide (x < 0) == decide (y < 0)) = true := by rw [hxy]; exact beq_self_eq_true _
    have hiff := decide_eq_decide.1 hxy
    have hob := key 91 [.slice a1 w1.length c1, .slice a2 w2.length c2] (decide (x < 0)) (fun _ => decide_eq_decide.2 (by omega)) (by
      obtain ⟨w, k1, k2, k3, k4⟩ := addD_runs hS _ _ w1 w2 r1 o1 r2 o2 (H3.relow H3.size) hgr (Nat.le_refl _) sa sb d1 d2 (by omega) (by omega)
      exact ⟨w, k1, by rw [k2, e1, e2]; omega, by omega, k4⟩)
    obtain ⟨v4, H4, H5, v6, H6, H7, H8, fa, fb, hL5, fc, fd, ps, hld, hL7, hK8, hg8, hbig⟩ := hob
    rw [ldBig] at hld
    clear hxy hiff key sa sb ow s1 s2 d1 d2 n1 n2 e1 e2
    repeat' (first | (with_reducible refine sxGuardB_tsp (fun h => ?_) (fun h => ?_)) | (with_reducible refine sxGuardB_fsp (fun h => ?_) (fun h => ?_)) | (with_reducible refine sxIfB_sp (fun h => ?_) (fun h => ?_)) | simp only [↓sxC_skip, ↓sxC_draw, ↓sxC_region, ↓sxC_seq, ↓bxC_cond, ↓bxC_loop, ↓sxC_block, ↓sxC_exit, ↓sxC_goto, ↓sxC_ret, ↓sxOps_nil, ↓sxOps_cons, ↓sxDraw_nil, ↓bxDraw_cons, ↓sxDL_move, ↓sxDL_assign, ↓sxDL_pick, ↓sxDL_alloc, ↓sxDL_box, ↓sxDL_build, ↓sxDL_buildSlice, ↓sxDL_insert, ↓sxDL_load, ↓sxDL_nilCheck, ↓sxDL_binOp, ↓sxDL_unOp, ↓sxDL_convert, ↓sxDL_makeInterface, ↓sxDL_makeFunc, ↓sxDL_makeMap, ↓sxDL_makeSlice, ↓sxDL_slice, ↓sxDL_fieldAddr, ↓sxDL_field, ↓sxDL_indexAddr, ↓sxDL_index, ↓sxDL_typeAssert, ↓sxDL_extract, ↓sxDL_call, ↓sxDL_lookup, ↓sxDL_mapUpdate, ↓sxDL_range, ↓sxDL_next, ↓sxDL_entry, ↓sxDL_mapEntry, ↓sxDL_entryStore, ↓sxD_same, ↓sxStep_none, ↓bxStep_some, ↓bxOp_move, ↓bxOp_assign, ↓bxOp_pick, ↓bxOp_alloc, ↓bxOp_box, ↓bxOp_build, ↓bxOp_buildSlice, ↓bxOp_load, ↓bxOp_store, ↓bxOp_nilCheck, ↓bxOp_bin, ↓bxOp_un, ↓bxOp_makeI, ↓bxOp_makeFunc, ↓bxOp_makeSlice, ↓bxOp_slice, ↓bxOp_fieldAddr, ↓bxOp_field, ↓bxOp_indexAddr, ↓bxOp_index, ↓bxOp_assert, ↓bxOp_extract, ↓bxOp_value, ↓bxOp_len, ↓bxOp_cap, ↓bxOp_append, ↓bxOp_copy, ↓bxOp_clear, ↓bxOp_max, ↓bxOp_min, ↓bxOp_convert, ↓sxPut_none, ↓bxPut, ↓seqQ_normal, ↓seqQ_exit, ↓seqQ_ret, ↓seqQ_goto, ↓blockQ_normal, ↓blockQ_ret, ↓blockQ_goto, ↓blockQ_exit, ↓loopQ_normal, ↓loopQ_exit, ↓loopQ_ret, ↓loopQ_goto, ↓resQ_normal, ↓resQ_ret, ↓sxRes_nil, ↓sxRes_tmp, ↓bxRes_cell, ↓upd_apply, ↓ev_tmp, ↓ev_const, ↓ev_global, ↓ev_func, ↓dstAt, ↓gval_some, sxOptB_some, sxOptB_ite, mm_max, mm_min, binP_shl, binP_shr, binP_int, intBin, una_not_dec, una_nt, una_nf, una_neg, aPick_true, aPick_false, sxCallVB_fn, sxCallVB_yield, sxGuardB_u, sxGuardB_tt, sxGuardB_tf, sxGuardB_ft, sxGuardB_ff, sxIfB_t, sxIfB_f, packRes_one, packRes_two, List.map_cons, List.map_nil, List.nil_append, List.cons_append, List.append_nil, ↓reduceIte, Nat.reduceEqDiff, Nat.reduceLT, dec_T, dec_F, false_imp, true_and, and_true, true_implies, implies_true, false_and, and_false, true_or, or_true, false_or, or_false, and_self, or_self, read_relow, size_relow, low_relow, relow_relow, aLoad_relow, Nat.add_zero, Nat.mul_one, one1, Option.bind_some, ne_eq, Int.natCast_nonneg, Int.toNat_natCast, not_true_eq_false, not_false_eq_true, Option.map_some, Option.map_none, *, argF, List.getD_cons_zero, List.getD_cons_succ, lenI, alBig, ldBig, faG0, faG1, ldB4, ldIs, eqlB, hb, hc1, hc2, Nat.zero_add] | (with_reducible refine sxDL_barE (by assumption) (by decide +kernel) ?_) | (with_reducible refine sxDL_bar (by decide +kernel) ?_) | (with_reducible refine sxD_bar (by decide +kernel) ?_))
  · have hb : (decide (x < 0) == decide (y < 0)) = false := beq_false_of_ne hxy
    have hiff : ¬ ((x < 0) ↔ (y < 0)) := fun h => hxy (decide_eq_decide.2 h)
    have hcm := (cmpD_runs hS _ _ w1 w2 r1 o1 r2 o2 H3 hL3 (s1.keep hK03) (s2.keep hK03)).bx
    have hcv := cmpL_val d1 n1 d2 n2
    rw [e1, e2] at hcv
    by_cases hge : 0 ≤ cmpL w1 w2
    · have hle : y.natAbs ≤ x.natAbs := by
        rw [hcv] at hge
        split at hge
        · omega
        · omega
      have hob := key 92 [.slice a1 w1.length c1, .slice a2 w2.length c2] (decide (x < 0)) (fun hz => decide_eq_decide.2 (by omega)) (by
        obtain ⟨w, k1, k2, k3⟩ := subD_runs hS _ _ w1 w2 r1 o1 r2 o2 (H3.relow H3.size) hgr (Nat.le_refl _) sa sb d1 d2 (by omega) (len_le d2 n2 d1 (by rw [e1, e2]; omega)) (by rw [e1, e2]; omega)
        exact ⟨w, k1.1, by rw [k1.2.2, e1, e2]; omega, by omega, k3⟩)
      obtain ⟨v4, H4, H5, v6, H6, H7, H8, fa, fb, hL5, fc, fd, ps, hld, hL7, hK8, hg8, hbig⟩ := hob
      rw [ldBig] at hld
      clear hxy hiff key sa sb ow s1 s2 d1 d2 n1 n2 e1 e2 hcv hle
      repeat' (first | (with_reducible refine sxGuardB_tsp (fun h => ?_) (fun h => ?_)) | (with_reducible refine sxGuardB_fsp (fun h => ?_) (fun h => ?_)) | (with_reducible refine sxIfB_sp (fun h => ?_) (fun h => ?_)) | simp only [↓sxC_skip, ↓sxC_draw, ↓sxC_region, ↓sxC_seq, ↓bxC_cond, ↓bxC_loop, ↓sxC_block, ↓sxC_exit, ↓sxC_goto, ↓sxC_ret, ↓sxOps_nil, ↓sxOps_cons, ↓sxDraw_nil, ↓bxDraw_cons, ↓sxDL_move, ↓sxDL_assign, ↓sxDL_pick, ↓sxDL_alloc, ↓sxDL_box, ↓sxDL_build, ↓sxDL_buildSlice, ↓sxDL_insert, ↓sxDL_load, ↓sxDL_nilCheck, ↓sxDL_binOp, ↓sxDL_unOp, ↓sxDL_convert, ↓sxDL_makeInterface, ↓sxDL_makeFunc, ↓sxDL_makeMap, ↓sxDL_makeSlice, ↓sxDL_slice, ↓sxDL_fieldAddr, ↓sxDL_field, ↓sxDL_indexAddr, ↓sxDL_index, ↓sxDL_typeAssert, ↓sxDL_extract, ↓sxDL_call, ↓sxDL_lookup, ↓sxDL_mapUpdate, ↓sxDL_range, ↓sxDL_next, ↓sxDL_entry, ↓sxDL_mapEntry, ↓sxDL_entryStore, ↓sxD_same, ↓sxStep_none, ↓bxStep_some, ↓bxOp_move, ↓bxOp_assign, ↓bxOp_pick, ↓bxOp_alloc, ↓bxOp_box, ↓bxOp_build, ↓bxOp_buildSlice, ↓bxOp_load, ↓bxOp_store, ↓bxOp_nilCheck, ↓bxOp_bin, ↓bxOp_un, ↓bxOp_makeI, ↓bxOp_makeFunc, ↓bxOp_makeSlice, ↓bxOp_slice, ↓bxOp_fieldAddr, ↓bxOp_field, ↓bxOp_indexAddr, ↓bxOp_index, ↓bxOp_assert, ↓bxOp_extract, ↓bxOp_value, ↓bxOp_len, ↓bxOp_cap, ↓bxOp_append, ↓bxOp_copy, ↓bxOp_clear, ↓bxOp_max, ↓bxOp_min, ↓bxOp_convert, ↓sxPut_none, ↓bxPut, ↓seqQ_normal, ↓seqQ_exit, ↓seqQ_ret, ↓seqQ_goto, ↓blockQ_normal, ↓blockQ_ret, ↓blockQ_goto, ↓blockQ_exit, ↓loopQ_normal, ↓loopQ_exit, ↓loopQ_ret, ↓loopQ_goto, ↓resQ_normal, ↓resQ_ret, ↓sxRes_nil, ↓sxRes_tmp, ↓bxRes_cell, ↓upd_apply, ↓ev_tmp, ↓ev_const, ↓ev_global, ↓ev_func, ↓dstAt, ↓gval_some, sxOptB_some, sxOptB_ite, mm_max, mm_min, binP_shl, binP_shr, binP_int, intBin, una_not_dec, una_nt, una_nf, una_neg, aPick_true, aPick_false, sxCallVB_fn, sxCallVB_yield, sxGuardB_u, sxGuardB_tt, sxGuardB_tf, sxGuardB_ft, sxGuardB_ff, sxIfB_t, sxIfB_f, packRes_one, packRes_two, List.map_cons, List.map_nil, List.nil_append, List.cons_append, List.append_nil, ↓reduceIte, Nat.reduceEqDiff, Nat.reduceLT, dec_T, dec_F, false_imp, true_and, and_true, true_implies, implies_true, false_and, and_false, true_or, or_true, false_or, or_false, and_self, or_self, read_relow, size_relow, low_relow, relow_relow, aLoad_relow, Nat.add_zero, Nat.mul_one, one1, Option.bind_some, ne_eq, Int.natCast_nonneg, Int.toNat_natCast, not_true_eq_false, not_false_eq_true, Option.map_some, Option.map_none, *, argF, List.getD_cons_zero, List.getD_cons_succ, lenI, alBig, ldBig, faG0, faG1, ldB4, ldIs, eqlB, hb, hc1, hc2, Nat.zero_add] | (with_reducible refine sxDL_barE (by assumption) (by decide +kernel) ?_) | (with_reducible refine sxDL_bar (by decide +kernel) ?_) | (with_reducible refine sxD_bar (by decide +kernel) ?_))
    · have hle : x.natAbs ≤ y.natAbs := by
        rw [hcv] at hge
        split at hge
        · omega
        · omega
      have hob := key 92 [.slice a2 w2.length c2, .slice a1 w1.length c1] (decide (y < 0)) (fun hz => decide_eq_decide.2 (by omega)) (by
        obtain ⟨w, k1, k2, k3⟩ := subD_runs hS _ _ w2 w1 r2 o2 r1 o1 (H3.relow H3.size) hgr (Nat.le_refl _) sb sa d2 d1 (by omega) (len_le d1 n1 d2 (by rw [e1, e2]; omega)) (by rw [e1, e2]; omega)
        exact ⟨w, k1.1, by rw [k1.2.2, e1, e2]; omega, by omega, k3⟩)
      obtain ⟨v4, H4, H5, v6, H6, H7, H8, fa, fb, hL5, fc, fd, ps, hld, hL7, hK8, hg8, hbig⟩ := hob
      rw [ldBig] at hld
      clear hxy hiff key sa sb ow s1 s2 d1 d2 n1 n2 e1 e2 hcv hle
      repeat' (first | (with_reducible refine sxGuardB_tsp (fun h => ?_) (fun h => ?_)) | (with_reducible refine sxGuardB_fsp (fun h => ?_) (fun h => ?_)) | (with_reducible refine sxIfB_sp (fun h => ?_) (fun h => ?_)) | simp only [↓sxC_skip, ↓sxC_draw, ↓sxC_region, ↓sxC_seq, ↓bxC_cond, ↓bxC_loop, ↓sxC_block, ↓sxC_exit, ↓sxC_goto, ↓sxC_ret, ↓sxOps_nil, ↓sxOps_cons, ↓sxDraw_nil, ↓bxDraw_cons, ↓sxDL_move, ↓sxDL_assign, ↓sxDL_pick, ↓sxDL_alloc, ↓sxDL_box, ↓sxDL_build, ↓sxDL_buildSlice, ↓sxDL_insert, ↓sxDL_load, ↓sxDL_nilCheck, ↓sxDL_binOp, ↓sxDL_unOp, ↓sxDL_convert, ↓sxDL_makeInterface, ↓sxDL_makeFunc, ↓sxDL_makeMap, ↓sxDL_makeSlice, ↓sxDL_slice, ↓sxDL_fieldAddr, ↓sxDL_field, ↓sxDL_indexAddr, ↓sxDL_index, ↓sxDL_typeAssert, ↓sxDL_extract, ↓sxDL_call, ↓sxDL_lookup, ↓sxDL_mapUpdate, ↓sxDL_range, ↓sxDL_next, ↓sxDL_entry, ↓sxDL_mapEntry, ↓sxDL_entryStore, ↓sxD_same, ↓sxStep_none, ↓bxStep_some, ↓bxOp_move, ↓bxOp_assign, ↓bxOp_pick, ↓bxOp_alloc, ↓bxOp_box, ↓bxOp_build, ↓bxOp_buildSlice, ↓bxOp_load, ↓bxOp_store, ↓bxOp_nilCheck, ↓bxOp_bin, ↓bxOp_un, ↓bxOp_makeI, ↓bxOp_makeFunc, ↓bxOp_makeSlice, ↓bxOp_slice, ↓bxOp_fieldAddr, ↓bxOp_field, ↓bxOp_indexAddr, ↓bxOp_index, ↓bxOp_assert, ↓bxOp_extract, ↓bxOp_value, ↓bxOp_len, ↓bxOp_cap, ↓bxOp_append, ↓bxOp_copy, ↓bxOp_clear, ↓bxOp_max, ↓bxOp_min, ↓bxOp_convert, ↓sxPut_none, ↓bxPut, ↓seqQ_normal, ↓seqQ_exit, ↓seqQ_ret, ↓seqQ_goto, ↓blockQ_normal, ↓blockQ_ret, ↓blockQ_goto, ↓blockQ_exit, ↓loopQ_normal, ↓loopQ_exit, ↓loopQ_ret, ↓loopQ_goto, ↓resQ_normal, ↓resQ_ret, ↓sxRes_nil, ↓sxRes_tmp, ↓bxRes_cell, ↓upd_apply, ↓ev_tmp, ↓ev_const, ↓ev_global, ↓ev_func, ↓dstAt, ↓gval_some, sxOptB_some, sxOptB_ite, mm_max, mm_min, binP_shl, binP_shr, binP_int, intBin, una_not_dec, una_nt, una_nf, una_neg, aPick_true, aPick_false, sxCallVB_fn, sxCallVB_yield, sxGuardB_u, sxGuardB_tt, sxGuardB_tf, sxGuardB_ft, sxGuardB_ff, sxIfB_t, sxIfB_f, packRes_one, packRes_two, List.map_cons, List.map_nil, List.nil_append, List.cons_append, List.append_nil, ↓reduceIte, Nat.reduceEqDiff, Nat.reduceLT, dec_T, dec_F, false_imp, true_and, and_true, true_implies, implies_true, false_and, and_false, true_or, or_true, false_or, or_false, and_self, or_self, read_relow, size_relow, low_relow, relow_relow, aLoad_relow, Nat.add_zero, Nat.mul_one, one1, Option.bind_some, ne_eq, Int.natCast_nonneg, Int.toNat_natCast, not_true_eq_false, not_false_eq_true, Option.map_some, Option.map_none, *, argF, List.getD_cons_zero, List.getD_cons_succ, lenI, alBig, ldBig, faG0, faG1, ldB4, ldIs, eqlB, hb, hc1, hc2, Nat.zero_add] | (with_reducible refine sxDL_barE (by assumption) (by decide +kernel) ?_) | (with_reducible refine sxDL_bar (by decide +kernel) ?_) | (with_reducible refine sxD_bar (by decide +kernel) ?_))
end Go.Proofs.YtnbhjbelgmkpeaaDoor

namespace Go.Proofs.YtnbhjbelgmkpeaaDoor
open Go Go.AM
set_option maxRecDepth 10000
set_option linter.unusedSimpArgs false

variable {S : AM.Sys} (hS : Only S 10)
include hS

theorem Minus_runs (v1 v2 : Value) (x y : Int) (l1 l2 : Nat) (H : Heap) (hg : Grp H) (hL : H.low ≤ H.size) (h1 : BigIs H v1 x l1) (h2 : BigIs H v2 y l2) (hl1 : l1 ≤ 400) (hl2 : l2 ≤ 400) : BigOut S 57 [v1, v2] H (x - y) (l1 + l2 + 1) := by
  suffices h : WCall Tryd.prog S (.fn 57) [v1, v2] H (fun v H' => Keep H H' ∧ Grp H' ∧ BigIs H' v (x - y) (l1 + l2 + 1)) by
    obtain ⟨v, H', hr, h1, h2, h3⟩ := h; exact ⟨H', v, h1, h2, h3, hr⟩
  have h1' := h1
  have h2' := h2
  obtain ⟨u1, w1, r1, o1, rfl, s1, -⟩ := h1
  obtain ⟨u2, w2, r2, o2, rfl, s2, -⟩ := h2
  clear s1 s2
  obtain ⟨H1, b1, hK1, hs1, zz1, hr1⟩ := box1 H [.bool (decide (x < 0)), u1] 50
  obtain ⟨H2, b2, hK2, hs2, zz2, hr2⟩ := box1 H1 [.bool (decide (y < 0)), u2] 50
  obtain ⟨H3, b3, hK3, hs3, zz3, _⟩ := box1 H2 [.bool false, .slice none 0 0] 50
  have ow : Own H3 H2.size 50 [.bool false, .slice none 0 0] := b3 ▸ Own.new H2 _ _
  clear zz1 zz2 zz3
  have q0 := (hK2.trans hK3).read hs1 (hr1 0 2 (show 0 + 2 ≤ 2 by omega))
  have q2 := hK3.read hs2 (hr2 0 2 (show 0 + 2 ≤ 2 by omega))
  replace q0 : H3.read H.size 0 2 = some [.bool (decide (x < 0)), u1] := q0
  replace q2 : H3.read H1.size 0 2 = some [.bool (decide (y < 0)), u2] := q2
  have hc1 : (Value.agg ⟨[.bool (decide (x < 0)), u1]⟩).cells.toList = [.bool (decide (x < 0)), u1] := rfl
  have hc2 : (Value.agg ⟨[.bool (decide (y < 0)), u2]⟩).cells.toList = [.bool (decide (y < 0)), u2] := rfl
  have hK03 := (hK1.trans hK2).trans hK3
  have hL3 := hK03.low hL
  have hg3 := hK03.grp hg
  clear hr1 hr2
  have hrl := Keep.relowS H3
  have hob := Neg_runs hS _ y l2 (H3.relow H3.size) (hrl.grp hg3) (Nat.le_refl _) ((h2'.keep hK03).keep hrl) (by omega)
  obtain ⟨H4, v4, hK4, hg4, hb4, hR4⟩ := hob
  have f4 := hR4.bx
  have hd1 : ∀ (all : List Oper) (n : Nat) (k : Heap → Prop), sxD all n H3 H4 k = k (H4.relow (Nat.min H3.low H4.low)) := fun all n k => sxD_keep hK4 k
  have hK35 := Keep.draw hK4
  have hb5 : BigIs (H4.relow (Nat.min H3.low H4.low)) v4 (0 - y) l2 := hb4.addr0
  have hL5 := hK35.low hL3
  generalize hH5 : H4.relow (Nat.min H3.low H4.low) = H5 at *
  have hrl5 := Keep.relowS H5
  have hz : x + (0 - y) = x - y := by omega
  have hob2 := Plus_runs hS _ _ x (0 - y) l1 l2 (H5.relow H5.size) (hrl5.grp (hK35.grp hg3)) (Nat.le_refl _) ((h1'.keep (hK03.trans hK35)).keep hrl5) (hb5.keep hrl5) hl1 hl2
  rw [hz] at hob2
  obtain ⟨v6, H6, H7, H8, fc, fd, ps, hld, hL7, hK8, hg8, hbig⟩ := endBig (hK03.trans hK35) (Nat.le_trans hK1.size hK2.size) hL5 hg (ow.keep hK35) hob2
  rw [ldBig] at hld
  have q0' := hK35.read (Nat.lt_of_lt_of_le hs1 (hK2.trans hK3).size) q0
  refine call_of Tryd.func57 rfl (Nat.le_of_ble_eq_true rfl) (hS.no rfl _ _) ?_
  rw [Tryd.ntmps57, Tryd.results57]
  clear hR4 ow h1' h2' hb4 hb5 hob2
  repeat' (first | (with_reducible refine sxGuardB_tsp (fun h => ?_) (fun h => ?_)) | (with_reducible refine sxGuardB_fsp (fun h => ?_) (fun h => ?_)) | (with_reducible refine sxIfB_sp (fun h => ?_) (fun h => ?_)) | simp only [↓sxC_skip, ↓sxC_draw, ↓sxC_region, ↓sxC_seq, ↓bxC_cond, ↓bxC_loop, ↓sxC_block, ↓sxC_exit, ↓sxC_goto, ↓sxC_ret, ↓sxOps_nil, ↓sxOps_cons, ↓sxDraw_nil, ↓bxDraw_cons, ↓sxDL_move, ↓sxDL_assign, ↓sxDL_pick, ↓sxDL_alloc, ↓sxDL_box, ↓sxDL_build, ↓sxDL_buildSlice, ↓sxDL_insert, ↓sxDL_load, ↓sxDL_nilCheck, ↓sxDL_binOp, ↓sxDL_unOp, ↓sxDL_convert, ↓sxDL_makeInterface, ↓sxDL_makeFunc, ↓sxDL_makeMap, ↓sxDL_makeSlice, ↓sxDL_slice, ↓sxDL_fieldAddr, ↓sxDL_field, ↓sxDL_indexAddr, ↓sxDL_index, ↓sxDL_typeAssert, ↓sxDL_extract, ↓sxDL_call, ↓sxDL_lookup, ↓sxDL_mapUpdate, ↓sxDL_range, ↓sxDL_next, ↓sxDL_entry, ↓sxDL_mapEntry, ↓sxDL_entryStore, ↓sxD_same, ↓sxStep_none, ↓bxStep_some, ↓bxOp_move, ↓bxOp_assign, ↓bxOp_pick, ↓bxOp_alloc, ↓bxOp_box, ↓bxOp_build, ↓bxOp_buildSlice, ↓bxOp_load, ↓bxOp_store, ↓bxOp_nilCheck, ↓bxOp_bin, ↓bxOp_un, ↓bxOp_makeI, ↓bxOp_makeFunc, ↓bxOp_makeSlice, ↓bxOp_slice, ↓bxOp_fieldAddr, ↓bxOp_field, ↓bxOp_indexAddr, ↓bxOp_index, ↓bxOp_assert, ↓bxOp_extract, ↓bxOp_value, ↓bxOp_len, ↓bxOp_cap, ↓bxOp_append, ↓bxOp_copy, ↓bxOp_clear, ↓bxOp_max, ↓bxOp_min, ↓bxOp_convert, ↓sxPut_none, ↓bxPut, ↓seqQ_normal, ↓seqQ_exit, ↓seqQ_ret, ↓seqQ_goto, ↓blockQ_normal, ↓blockQ_ret, ↓blockQ_goto, ↓blockQ_exit, ↓loopQ_normal, ↓loopQ_exit, ↓loopQ_ret, ↓loopQ_goto, ↓resQ_normal, ↓resQ_ret, ↓sxRes_nil, ↓sxRes_tmp, ↓bxRes_cell, ↓upd_apply, ↓ev_tmp, ↓ev_const, ↓ev_global, ↓ev_func, ↓dstAt, ↓gval_some, sxOptB_some, sxOptB_ite, mm_max, mm_min, binP_shl, binP_shr, binP_int, intBin, una_not_dec, una_nt, una_nf, una_neg, aPick_true, aPick_false, sxCallVB_fn, sxCallVB_yield, sxGuardB_u, sxGuardB_tt, sxGuardB_tf, sxGuardB_ft, sxGuardB_ff, sxIfB_t, sxIfB_f, packRes_one, packRes_two, List.map_cons, List.map_nil, List.nil_append, List.cons_append, List.append_nil, ↓reduceIte, Nat.reduceEqDiff, Nat.reduceLT, dec_T, dec_F, false_imp, true_and, and_true, true_implies, implies_true, false_and, and_false, true_or, or_true, false_or, or_false, and_self, or_self, read_relow, size_relow, low_relow, relow_relow, aLoad_relow, Nat.add_zero, Nat.mul_one, one1, Option.bind_some, ne_eq, Int.natCast_nonneg, Int.toNat_natCast, not_true_eq_false, not_false_eq_true, Option.map_some, Option.map_none, *, argF, List.getD_cons_zero, List.getD_cons_succ, lenI, alBig, ldBig, faG0, faG1, ldB4, ldIs, eqlB, hc1, hc2, Nat.zero_add] | (with_reducible refine sxDL_barE (by assumption) (by decide +kernel) ?_) | (with_reducible refine sxDL_bar (by decide +kernel) ?_) | (with_reducible refine sxD_bar (by decide +kernel) ?_))
end Go.Proofs.YtnbhjbelgmkpeaaDoor

namespace Go.Proofs.YtnbhjbelgmkpeaaDoor
open Go Go.AM
set_option maxRecDepth 10000
set_option linter.unusedSimpArgs false

/-- A number that is less than a power has no more digits. -/
theorem BigIs.short {H : Heap} {v : Value} {z : Int} {lo : Nat} (h : BigIs H v z lo) {k : Nat} (hz : (z.natAbs : Int) < 10000 ^ k) : BigIs H v z k := by
  obtain ⟨v', w, r', o', h1, h2, h3, h4, h5, h6⟩ := h
  refine ⟨v', w, r', o', h1, h2, h3, h4, h5, ?_⟩
  rcases Nat.lt_or_ge k w.length with hk | hk
  · exfalso
    have h7 := (Dg.of h3 h4).ge (by omega)
    rw [Int.toNat_of_nonneg h3.nonneg, h5] at h7
    have h8 := pow_mono (show k ≤ w.length - 1 by omega)
    omega
  · exact hk

/-- The fraction n/d, in lowest terms, as the machine keeps it. -/
def QV (H : Heap) (v : Value) (n d : Int) : Prop :=
  ∃ n' d' : Int, QIs H v n' d' 400 ∧ 0 < d' ∧ n'.natAbs.gcd d'.natAbs = 1 ∧ n' * d = n * d'

theorem QV.keep {H H' : Heap} {v : Value} {n d : Int} (h : QV H v n d) (hk : Keep H H') : QV H' v n d := by
  obtain ⟨n', d', ⟨s1, w1, s2, w2, h1, h2, h3⟩, h4⟩ := h
  exact ⟨n', d', ⟨s1, w1, s2, w2, h1, h2.keep hk, h3.keep hk⟩, h4⟩
theorem QV.addr {H : Heap} {v : Value} {n d : Int} {l : Nat} (h : QV H v n d) : QV (H.relow l) v n d := by
  obtain ⟨n', d', ⟨s1, w1, s2, w2, h1, h2, h3⟩, h4⟩ := h
  exact ⟨n', d', ⟨s1, w1, s2, w2, h1, h2.addr0, h3.addr0⟩, h4⟩
/-- The same number by other terms. -/
theorem QV.as {H : Heap} {v : Value} {n d n2 d2 : Int} (h : QV H v n d) (hd : 0 < d) (he : n * d2 = n2 * d) : QV H v n2 d2 := by
  obtain ⟨n', d', h1, h2, h3, h4⟩ := h
  refine ⟨n', d', h1, h2, h3, ?_⟩
  have h5 : d * (n' * d2) = d * (n2 * d') := by
    calc d * (n' * d2) = (n' * d) * d2 := by rw [Int.mul_comm n' d, Int.mul_assoc]
      _ = (n * d') * d2 := by rw [h4]
      _ = (n * d2) * d' := by rw [Int.mul_assoc, Int.mul_comm d' d2, ← Int.mul_assoc]
      _ = (n2 * d) * d' := by rw [he]
      _ = d * (n2 * d') := by rw [Int.mul_comm n2 d, Int.mul_assoc]
  exact Int.eq_of_mul_eq_mul_left (by omega) h5
/-- Lowest terms are no greater than others. -/
theorem low_le {n d n' d' : Int} (hd : 0 < d) (h2 : 0 < d') (h3 : n'.natAbs.gcd d'.natAbs = 1) (h4 : n' * d = n * d') : d' ≤ d ∧ n'.natAbs ≤ n.natAbs := by
  have h5 : n'.natAbs * d.natAbs = n.natAbs * d'.natAbs := by rw [← Int.natAbs_mul, ← Int.natAbs_mul, h4]
  have h6 : d'.natAbs ∣ n'.natAbs * d.natAbs := ⟨n.natAbs, by rw [h5, Nat.mul_comm]⟩
  have h7 : d'.natAbs ∣ d.natAbs := (Nat.Coprime.symm h3).dvd_of_dvd_mul_left h6
  have h8 : n'.natAbs ∣ n.natAbs * d'.natAbs := ⟨d.natAbs, h5.symm⟩
  have h9 : n'.natAbs ∣ n.natAbs := (show Nat.Coprime n'.natAbs d'.natAbs from h3).dvd_of_dvd_mul_right h8
  have h10 := Nat.le_of_dvd (by omega) h7
  refine ⟨by omega, ?_⟩
  rcases Nat.eq_zero_or_pos n.natAbs with h0 | h0
  · have : n'.natAbs * d.natAbs = 0 := by rw [h5, h0, Nat.zero_mul]
    rcases Nat.mul_eq_zero.1 this with h | h <;> omega
  · exact Nat.le_of_dvd h0 h9
theorem QV.short {H : Heap} {v : Value} {n d : Int} (h : QV H v n d) (hd : 0 < d) {k : Nat} (b1 : (n.natAbs : Int) < 10000 ^ k) (b2 : d < 10000 ^ k) :
    ∃ n' d' : Int, QIs H v n' d' k ∧ 0 < d' ∧ n'.natAbs.gcd d'.natAbs = 1 ∧ n' * d = n * d' := by
  obtain ⟨n', d', ⟨s1, w1, s2, w2, h1, h2, h3⟩, h4, h5, h6⟩ := h
  have h7 := low_le hd h4 h5 h6
  exact ⟨n', d', ⟨s1, w1, s2, w2, h1, h2.short (by omega), h3.short (by omega)⟩, h4, h5, h6⟩
/-- What a division by the greatest common divisor gives. -/
theorem QV.of {H : Heap} {v : Value} {x y : Int} (hy : 0 < y) (h : QIs H v (x / ((Nat.gcd x.natAbs y.toNat : Nat) : Int)) (y / ((Nat.gcd x.natAbs y.toNat : Nat) : Int)) 400) : QV H v x y := by
  have hyn : y.natAbs = y.toNat := by omega
  have hgp : 0 < Nat.gcd x.natAbs y.toNat := Nat.gcd_pos_of_pos_right _ (by omega)
  have hdx : ((Nat.gcd x.natAbs y.toNat : Nat) : Int) ∣ x := Int.ofNat_dvd_left.2 (Nat.gcd_dvd_left _ _)
  have hdy : ((Nat.gcd x.natAbs y.toNat : Nat) : Int) ∣ y := Int.ofNat_dvd_left.2 (hyn ▸ Nat.gcd_dvd_right _ _)
  refine ⟨_, _, h, Int.ediv_pos_of_pos_of_dvd hy (by omega) hdy, ?_, ?_⟩
  · rw [Int.natAbs_ediv_of_dvd hdx, Int.natAbs_ediv_of_dvd hdy, hyn, Int.natAbs_natCast]
    exact Nat.coprime_div_gcd_div_gcd hgp
  · generalize ((Nat.gcd x.natAbs y.toNat : Nat) : Int) = G at *
    obtain ⟨p, rfl⟩ := hdx
    obtain ⟨q, rfl⟩ := hdy
    have hG : G ≠ 0 := fun h0 => by subst h0; omega
    rw [Int.mul_ediv_cancel_left _ hG, Int.mul_ediv_cancel_left _ hG, ← Int.mul_assoc, Int.mul_comm p G, ]

variable {S : AM.Sys} (hS : Only S 10)
include hS

theorem lowest_all (v1 v2 : Value) (x y : Int) (l1 l2 : Nat) (H : Heap) (hg : Grp H) (hL : H.low ≤ H.size) (hy : 0 < y) (h1 : BigIs H v1 x l1) (h2 : BigIs H v2 y l2) (hl1 : l1 ≤ 400) (hl2 : l2 ≤ 400) : ∃ H' v, Keep H H' ∧ Grp H' ∧ QV H' v x y ∧ Runs Tryd.prog S (.fn 54) [v1, v2] H v H' := by
  by_cases hx : x < 0
  · obtain ⟨H', v, k1, k2, k3, k4⟩ := lowest_neg hS v1 v2 x y l1 l2 H hg hL hx hy h1 h2 hl1 hl2
    exact ⟨H', v, k1, k2, QV.of hy k3, k4⟩
  · obtain ⟨H', v, k1, k2, k3, k4⟩ := lowest_runs hS v1 v2 x y l1 l2 H hg hL (by omega) hy h1 h2 hl1 hl2
    have hxn : x.natAbs = x.toNat := by omega
    rw [← hxn] at k3
    exact ⟨H', v, k1, k2, QV.of hy k3, k4⟩
theorem Frac_all (x y : Int) (H : Heap) (hg : Grp H) (hL : H.low ≤ H.size) (hx : 0 ≤ x) (hy : 0 < y) (hx2 : x ≤ 9223372036854775807) (hy2 : y ≤ 9223372036854775807) : ∃ H' v, Keep H H' ∧ Grp H' ∧ QV H' v x y ∧ Runs Tryd.prog S (.fn 25) [.int .i64 x, .int .i64 y] H v H' := by
  obtain ⟨H', v, k1, k2, k3, k4⟩ := Frac_runs hS x y H hg hL hx hy hx2 hy2
  have hxn : x.natAbs = x.toNat := by omega
  rw [← hxn] at k3
  exact ⟨H', v, k1, k2, QV.of hy k3, k4⟩
end Go.Proofs.YtnbhjbelgmkpeaaDoor

namespace Go.Proofs.YtnbhjbelgmkpeaaDoor
open Go Go.AM
set_option maxRecDepth 10000
set_option linter.unusedSimpArgs false

/-- A call that gives a number, in a region that draws. -/
theorem drawnBig {S : AM.Sys} {f : FuncId} {args : List Value} {H : Heap} {z : Int} {lo : Nat} (hL : H.low ≤ H.size) (h : BigOut S f args (H.relow H.size) z lo) :
    ∃ v H4 H5, Keep H H5 ∧ H5.low ≤ H5.size ∧ (∀ (K : Value → Heap → Prop) (b : Blk K), sxCallB Tryd.prog S (.fn f) args (H.relow H.size) K b = K v H4) ∧ (∀ (all : List Oper) (n : Nat) (k : Heap → Prop), sxD all n H H4 k = k H5) ∧ BigIs H5 v z lo := by
  obtain ⟨H6, v, hK6, hg6, hb, hR⟩ := h
  exact ⟨v, H6, H6.relow (Nat.min H.low H6.low), Keep.draw hK6, (Keep.draw hK6).low hL, hR.bx, fun all n k => sxD_keep hK6 k, hb.addr0⟩
def QOut (S : AM.Sys) (f : FuncId) (args : List Value) (H : Heap) (n d : Int) : Prop := ∃ H' v, Keep H H' ∧ Grp H' ∧ QV H' v n d ∧ Runs Tryd.prog S (.fn f) args H v H'
/-- A call that gives a fraction, in a region that draws. -/
theorem drawnQ {S : AM.Sys} {f : FuncId} {args : List Value} {H : Heap} {n d : Int} (hL : H.low ≤ H.size) (h : QOut S f args (H.relow H.size) n d) :
    ∃ v H4 H5, Keep H H5 ∧ H5.low ≤ H5.size ∧ (∀ (K : Value → Heap → Prop) (b : Blk K), sxCallB Tryd.prog S (.fn f) args (H.relow H.size) K b = K v H4) ∧ (∀ (all : List Oper) (n : Nat) (k : Heap → Prop), sxD all n H H4 k = k H5) ∧ QV H5 v n d := by
  obtain ⟨H6, v, hK6, hg6, hb, hR⟩ := h
  exact ⟨v, H6, H6.relow (Nat.min H.low H6.low), Keep.draw hK6, (Keep.draw hK6).low hL, hR.bx, fun all n k => sxD_keep hK6 k, hb.addr⟩
theorem retQV {H : Heap} {r : Nat} (h : Own H r 52 [.bool false, .slice none 0 0, .bool false, .slice none 0 0]) {v : Value} {n d : Int} (hq : QV H v n d) :
    ∃ H2, aStore Tryd.prog H 52 (.pointer (some ⟨r, 0, none⟩)) v = some H2 ∧ aLoad Tryd.prog H2 52 (.pointer (some ⟨r, 0, none⟩)) = some v ∧ QV H2 v n d ∧ (∀ H0, Keep H0 H → H0.size ≤ r → Keep H0 H2) := by
  obtain ⟨n', d', h1, h2⟩ := hq
  obtain ⟨H2, k1, k2, k3, k4⟩ := retQ h h1
  exact ⟨H2, k1, k2, ⟨n', d', k3, h2⟩, k4⟩
/-- The end of a function that returns a fraction which a call gives, in a region that draws. -/
theorem endQ {S : AM.Sys} {f : FuncId} {args : List Value} {H0 H : Heap} {r : Nat} (hk : Keep H0 H) (hr : H0.size ≤ r) (hL : H.low ≤ H.size) (hg0 : Grp H0) (ow : Own H r 52 [.bool false, .slice none 0 0, .bool false, .slice none 0 0]) {n d : Int} (h : QOut S f args (H.relow H.size) n d) :
    ∃ v H6 H7 H8, (∀ (K : Value → Heap → Prop) (b : Blk K), sxCallB Tryd.prog S (.fn f) args (H.relow H.size) K b = K v H6) ∧ (∀ (all : List Oper) (n : Nat) (k : Heap → Prop), sxD all n H H6 k = k H7) ∧
      aStore Tryd.prog (H7.relow H7.size) 52 (.pointer (some ⟨r, 0, none⟩)) v = some H8 ∧ aLoad Tryd.prog H8 52 (.pointer (some ⟨r, 0, none⟩)) = some v ∧ H7.low ≤ H7.size ∧
      Keep H0 (H8.relow (Nat.min H7.low H8.low)) ∧ Grp (H8.relow (Nat.min H7.low H8.low)) ∧ QV (H8.relow (Nat.min H7.low H8.low)) v n d := by
  obtain ⟨H6, v, hK6, hg6, hb, hR⟩ := h
  have hK67 := Keep.draw hK6
  have hK7 := hk.trans hK67
  have ow7 := (ow.keep hK67).addr (l := (H6.relow (Nat.min H.low H6.low)).size)
  obtain ⟨H8, ps, hld, hq, hkp⟩ := retQV ow7 (hb.addr.addr)
  have hK8 := Keep.lower hK7 (hkp H0 (hK7.trans (Keep.relowS _)) hr)
  exact ⟨v, H6, H6.relow (Nat.min H.low H6.low), H8, hR.bx, fun all n k => sxD_keep hK6 k, ps, hld, hK67.low hL, hK8, hK8.grp hg0, hq.addr⟩
/-- Products of what is equal by cross multiplication. -/
theorem cross {n1 d1 n1' d1' n2 d2 n2' d2' : Int} (h1 : n1' * d1 = n1 * d1') (h2 : n2' * d2 = n2 * d2') : (n1' * n2') * (d1 * d2) = (n1 * n2) * (d1' * d2') := by
  calc (n1' * n2') * (d1 * d2) = (n1' * d1) * (n2' * d2) := by ac_rfl
    _ = (n1 * d1') * (n2 * d2') := by rw [h1, h2]
    _ = (n1 * n2) * (d1' * d2') := by ac_rfl
theorem cross1 {n1 d1 n1' d1' d2 d2' : Int} (h1 : n1' * d1 = n1 * d1') : (n1' * d2') * (d1 * d2) = (n1 * d2) * (d1' * d2') := by
  calc (n1' * d2') * (d1 * d2) = (n1' * d1) * (d2' * d2) := by ac_rfl
    _ = (n1 * d1') * (d2' * d2) := by rw [h1]
    _ = (n1 * d2) * (d1' * d2') := by ac_rfl
theorem cross_add {n1 d1 n1' d1' n2 d2 n2' d2' : Int} (h1 : n1' * d1 = n1 * d1') (h2 : n2' * d2 = n2 * d2') : (n1' * d2' + n2' * d1') * (d1 * d2) = (n1 * d2 + n2 * d1) * (d1' * d2') := by
  have a := cross1 (d2 := d2) (d2' := d2') h1
  have b := cross1 (d2 := d1) (d2' := d1') h2
  rw [Int.add_mul, Int.add_mul, a, Int.mul_comm d1 d2, b, Int.mul_comm d2' d1']
theorem cross_sub {n1 d1 n1' d1' n2 d2 n2' d2' : Int} (h1 : n1' * d1 = n1 * d1') (h2 : n2' * d2 = n2 * d2') : (n1' * d2' - n2' * d1') * (d1 * d2) = (n1 * d2 - n2 * d1) * (d1' * d2') := by
  have a := cross1 (d2 := d2) (d2' := d2') h1
  have b := cross1 (d2 := d1) (d2' := d1') h2
  rw [Int.sub_mul, Int.sub_mul, a, Int.mul_comm d1 d2, b, Int.mul_comm d2' d1']
theorem sgn3_mul {x y k : Int} (hk : 0 < k) : sgn3 (x * k) (y * k) = sgn3 x y := by
  unfold sgn3
  have a : ∀ p q : Int, (p * k < q * k) = (p < q) := fun p q => propext (Int.mul_lt_mul_right hk)
  simp only [a]
theorem sgn3_cross {n1 d1 n1' d1' n2 d2 n2' d2' : Int} (h1 : n1' * d1 = n1 * d1') (h2 : n2' * d2 = n2 * d2') (p1 : 0 < d1) (p2 : 0 < d2) (p3 : 0 < d1') (p4 : 0 < d2') : sgn3 (n1' * d2') (n2' * d1') = sgn3 (n1 * d2) (n2 * d1) := by
  rw [← sgn3_mul (Int.mul_pos p1 p2), cross1 h1, Int.mul_comm d1 d2, cross1 h2, Int.mul_comm d2' d1', sgn3_mul (Int.mul_pos p3 p4)]

variable {S : AM.Sys} (hS : Only S 10)
include hS

theorem Cmp_all (v1 v2 : Value) (n1 d1 n2 d2 : Int) (H : Heap) (hg : Grp H) (hL : H.low ≤ H.size) (h1 : QV H v1 n1 d1) (h2 : QV H v2 n2 d2) (z1 : 0 < d1) (z2 : 0 < d2) : ∃ H', Keep H H' ∧ Runs Tryd.prog S (.fn 23) [v1, v2] H (.int .i64 (sgn3 (n1 * d2) (n2 * d1))) H' := by
  obtain ⟨n1', d1', q1, p1, _, c1⟩ := h1
  obtain ⟨n2', d2', q2, p2, _, c2⟩ := h2
  obtain ⟨H', k1, k2⟩ := Cmp_runs hS v1 v2 n1' d1' n2' d2' 400 H hg hL q1 q2 (Nat.le_refl _)
  rw [sgn3_cross c1 c2 z1 z2 p1 p2] at k2
  exact ⟨H', k1, k2⟩

theorem Mul_all (v1 v2 : Value) (n1 d1 n2 d2 : Int) (H : Heap) (hg : Grp H) (hL : H.low ≤ H.size) (h1 : QV H v1 n1 d1) (h2 : QV H v2 n2 d2) (z1 : 0 < d1) (z2 : 0 < d2) (b1 : (n1.natAbs : Int) < 10000 ^ 20) (b2 : d1 < 10000 ^ 20) (b3 : (n2.natAbs : Int) < 10000 ^ 20) (b4 : d2 < 10000 ^ 20) : QOut S 28 [v1, v2] H (n1 * n2) (d1 * d2) := by
  suffices h : WCall Tryd.prog S (.fn 28) [v1, v2] H (fun v H' => Keep H H' ∧ Grp H' ∧ QV H' v (n1 * n2) (d1 * d2)) by
    obtain ⟨v, H', hr, h1, h2, h3⟩ := h; exact ⟨H', v, h1, h2, h3, hr⟩
  obtain ⟨m1, e1, ⟨t1, t2, t3, t4, rfl, p1, p2⟩, y1, _, c1⟩ := h1.short z1 b1 b2
  obtain ⟨m2, e2, ⟨t5, t6, t7, t8, rfl, p3, p4⟩, y2, _, c2⟩ := h2.short z2 b3 b4
  clear b1 b2 b3 b4 h1 h2
  obtain ⟨H1, b1, hK1, hs1, zz1, hr1⟩ := box1 H [t1, t2, t3, t4] 52
  obtain ⟨H2, b2, hK2, hs2, zz2, hr2⟩ := box1 H1 [t5, t6, t7, t8] 52
  obtain ⟨H2r, b3, hK3, hs3, zz3, hr3⟩ := box1 H2 [.bool false, .slice none 0 0, .bool false, .slice none 0 0] 52
  have ow3 : Own H2r H2.size 52 [.bool false, .slice none 0 0, .bool false, .slice none 0 0] := (b3 ▸ Own.new H2 _ _)
  clear zz1 zz2 zz3 hr3
  have lt1 := Nat.lt_of_lt_of_le hs1 (hK2.trans hK3).size
  have lt2 := Nat.lt_of_lt_of_le hs2 hK3.size
  have q0 : H2r.read H.size 0 2 = some [t1, t2] := (hK2.trans hK3).read hs1 (hr1 0 2 (show 0 + 2 ≤ 4 by omega))
  have q1 : H2r.read H.size 2 2 = some [t3, t4] := (hK2.trans hK3).read hs1 (hr1 2 2 (show 2 + 2 ≤ 4 by omega))
  have q2 : H2r.read H1.size 0 2 = some [t5, t6] := hK3.read hs2 (hr2 0 2 (show 0 + 2 ≤ 4 by omega))
  have q3 : H2r.read H1.size 2 2 = some [t7, t8] := hK3.read hs2 (hr2 2 2 (show 2 + 2 ≤ 4 by omega))
  have hK02 := (hK1.trans hK2).trans hK3
  have hL2 := hK02.low hL
  have hg2 := hK02.grp hg
  replace p1 := p1.keep hK02
  replace p2 := p2.keep hK02
  replace p3 := p3.keep hK02
  replace p4 := p4.keep hK02
  have hra := Keep.relowS H2r
  obtain ⟨xa, Haa, Ha, hKa, hLa, fa, ga, bxa⟩ := drawnBig hL2 (Times_runs hS _ _ m1 m2 _ _ (H2r.relow H2r.size) (hra.grp hg2) (Nat.le_refl _) ((p1).keep hra) ((p3).keep hra) (by omega) (by omega))
  have hga := hKa.grp hg2
  have hK2a := hKa
  have q1a := hKa.read lt1 q1
  have q3a := hKa.read lt2 q3
  have hrb := Keep.relowS Ha
  obtain ⟨xb, Hba, Hb, hKb, hLb, fb, gb, bxb⟩ := drawnBig hLa (Times_runs hS _ _ e1 e2 _ _ (Ha.relow Ha.size) (hrb.grp hga) (Nat.le_refl _) ((p2.keep hK2a).keep hrb) ((p4.keep hK2a).keep hrb) (by omega) (by omega))
  have hgb := hKb.grp hga
  have hK2b := hKa.trans hKb
  have hcr := cross c1 c2
  have hrz := Keep.relowS Hb
  have hob := lowest_all hS xa xb (m1 * m2) (e1 * e2) _ _ (Hb.relow Hb.size) (hrz.grp hgb) (Nat.le_refl _) (Int.mul_pos y1 y2) ((bxa.keep hKb).keep hrz) ((bxb).keep hrz) (by omega) (by omega)
  have hob' : QOut S 54 [xa, xb] (Hb.relow Hb.size) (n1 * n2) (d1 * d2) := by
    obtain ⟨Hz, vz, k1, k2, k3, k4⟩ := hob
    exact ⟨Hz, vz, k1, k2, k3.as (Int.mul_pos y1 y2) hcr, k4⟩
  obtain ⟨v9, Hm, Hn, Ho, fm, fn, ps, hld, hLn, hK9, hg9, hq9⟩ := endQ (hK02.trans hK2b) (Nat.le_trans hK1.size hK2.size) hLb hg (ow3.keep hK2b) hob'
  have hc1 : (Value.agg ⟨[t1, t2, t3, t4]⟩).cells.toList = [t1, t2, t3, t4] := rfl
  have hc2 : (Value.agg ⟨[t5, t6, t7, t8]⟩).cells.toList = [t5, t6, t7, t8] := rfl
  refine call_of Tryd.func28 rfl (Nat.le_of_ble_eq_true rfl) (hS.no rfl _ _) ?_
  rw [Tryd.ntmps28, Tryd.results28]
  clear p1 p2 p3 p4 ow3 hob hob' c1 c2 hcr bxa bxb
  repeat' (first | (with_reducible refine sxGuardB_tsp (fun h => ?_) (fun h => ?_)) | (with_reducible refine sxGuardB_fsp (fun h => ?_) (fun h => ?_)) | (with_reducible refine sxIfB_sp (fun h => ?_) (fun h => ?_)) | simp only [↓sxC_skip, ↓sxC_draw, ↓sxC_region, ↓sxC_seq, ↓bxC_cond, ↓bxC_loop, ↓sxC_block, ↓sxC_exit, ↓sxC_goto, ↓sxC_ret, ↓sxOps_nil, ↓sxOps_cons, ↓sxDraw_nil, ↓bxDraw_cons, ↓sxDL_move, ↓sxDL_assign, ↓sxDL_pick, ↓sxDL_alloc, ↓sxDL_box, ↓sxDL_build, ↓sxDL_buildSlice, ↓sxDL_insert, ↓sxDL_load, ↓sxDL_nilCheck, ↓sxDL_binOp, ↓sxDL_unOp, ↓sxDL_convert, ↓sxDL_makeInterface, ↓sxDL_makeFunc, ↓sxDL_makeMap, ↓sxDL_makeSlice, ↓sxDL_slice, ↓sxDL_fieldAddr, ↓sxDL_field, ↓sxDL_indexAddr, ↓sxDL_index, ↓sxDL_typeAssert, ↓sxDL_extract, ↓sxDL_call, ↓sxDL_lookup, ↓sxDL_mapUpdate, ↓sxDL_range, ↓sxDL_next, ↓sxDL_entry, ↓sxDL_mapEntry, ↓sxDL_entryStore, ↓sxD_same, ↓sxStep_none, ↓bxStep_some, ↓bxOp_move, ↓bxOp_assign, ↓bxOp_pick, ↓bxOp_alloc, ↓bxOp_box, ↓bxOp_build, ↓bxOp_buildSlice, ↓bxOp_load, ↓bxOp_store, ↓bxOp_nilCheck, ↓bxOp_bin, ↓bxOp_un, ↓bxOp_makeI, ↓bxOp_makeFunc, ↓bxOp_makeSlice, ↓bxOp_slice, ↓bxOp_fieldAddr, ↓bxOp_field, ↓bxOp_indexAddr, ↓bxOp_index, ↓bxOp_assert, ↓bxOp_extract, ↓bxOp_value, ↓bxOp_len, ↓bxOp_cap, ↓bxOp_append, ↓bxOp_copy, ↓bxOp_clear, ↓bxOp_max, ↓bxOp_min, ↓bxOp_convert, ↓sxPut_none, ↓bxPut, ↓seqQ_normal, ↓seqQ_exit, ↓seqQ_ret, ↓seqQ_goto, ↓blockQ_normal, ↓blockQ_ret, ↓blockQ_goto, ↓blockQ_exit, ↓loopQ_normal, ↓loopQ_exit, ↓loopQ_ret, ↓loopQ_goto, ↓resQ_normal, ↓resQ_ret, ↓sxRes_nil, ↓sxRes_tmp, ↓bxRes_cell, ↓upd_apply, ↓ev_tmp, ↓ev_const, ↓ev_global, ↓ev_func, ↓dstAt, ↓gval_some, sxOptB_some, sxOptB_ite, mm_max, mm_min, binP_shl, binP_shr, binP_int, intBin, una_not_dec, una_nt, una_nf, una_neg, aPick_true, aPick_false, sxCallVB_fn, sxCallVB_yield, sxGuardB_u, sxGuardB_tt, sxGuardB_tf, sxGuardB_ft, sxGuardB_ff, sxIfB_t, sxIfB_f, packRes_one, packRes_two, List.map_cons, List.map_nil, List.nil_append, List.cons_append, List.append_nil, ↓reduceIte, Nat.reduceEqDiff, Nat.reduceLT, dec_T, dec_F, false_imp, true_and, and_true, true_implies, implies_true, false_and, and_false, true_or, or_true, false_or, or_false, and_self, or_self, read_relow, size_relow, low_relow, relow_relow, aLoad_relow, Nat.add_zero, Nat.mul_one, one1, Option.bind_some, ne_eq, Int.natCast_nonneg, Int.toNat_natCast, not_true_eq_false, not_false_eq_true, Option.map_some, Option.map_none, *, argF, List.getD_cons_zero, List.getD_cons_succ, alQ, qaG0, qaG1, ldBig, hc1, hc2, Nat.zero_add] | (with_reducible refine sxDL_barE (by assumption) (by decide +kernel) ?_) | (with_reducible refine sxDL_bar (by decide +kernel) ?_) | (with_reducible refine sxD_bar (by decide +kernel) ?_))
theorem Add_all (v1 v2 : Value) (n1 d1 n2 d2 : Int) (H : Heap) (hg : Grp H) (hL : H.low ≤ H.size) (h1 : QV H v1 n1 d1) (h2 : QV H v2 n2 d2) (z1 : 0 < d1) (z2 : 0 < d2) (b1 : (n1.natAbs : Int) < 10000 ^ 20) (b2 : d1 < 10000 ^ 20) (b3 : (n2.natAbs : Int) < 10000 ^ 20) (b4 : d2 < 10000 ^ 20) : QOut S 26 [v1, v2] H (n1 * d2 + n2 * d1) (d1 * d2) := by
  suffices h : WCall Tryd.prog S (.fn 26) [v1, v2] H (fun v H' => Keep H H' ∧ Grp H' ∧ QV H' v (n1 * d2 + n2 * d1) (d1 * d2)) by
    obtain ⟨v, H', hr, h1, h2, h3⟩ := h; exact ⟨H', v, h1, h2, h3, hr⟩
  obtain ⟨m1, e1, ⟨t1, t2, t3, t4, rfl, p1, p2⟩, y1, _, c1⟩ := h1.short z1 b1 b2
  obtain ⟨m2, e2, ⟨t5, t6, t7, t8, rfl, p3, p4⟩, y2, _, c2⟩ := h2.short z2 b3 b4
  clear b1 b2 b3 b4 h1 h2
  obtain ⟨H1, b1, hK1, hs1, zz1, hr1⟩ := box1 H [t1, t2, t3, t4] 52
  obtain ⟨H2, b2, hK2, hs2, zz2, hr2⟩ := box1 H1 [t5, t6, t7, t8] 52
  obtain ⟨H2r, b3, hK3, hs3, zz3, hr3⟩ := box1 H2 [.bool false, .slice none 0 0, .bool false, .slice none 0 0] 52
  have ow3 : Own H2r H2.size 52 [.bool false, .slice none 0 0, .bool false, .slice none 0 0] := (b3 ▸ Own.new H2 _ _)
  clear zz1 zz2 zz3 hr3
  have lt1 := Nat.lt_of_lt_of_le hs1 (hK2.trans hK3).size
  have lt2 := Nat.lt_of_lt_of_le hs2 hK3.size
  have q0 : H2r.read H.size 0 2 = some [t1, t2] := (hK2.trans hK3).read hs1 (hr1 0 2 (show 0 + 2 ≤ 4 by omega))
  have q1 : H2r.read H.size 2 2 = some [t3, t4] := (hK2.trans hK3).read hs1 (hr1 2 2 (show 2 + 2 ≤ 4 by omega))
  have q2 : H2r.read H1.size 0 2 = some [t5, t6] := hK3.read hs2 (hr2 0 2 (show 0 + 2 ≤ 4 by omega))
  have q3 : H2r.read H1.size 2 2 = some [t7, t8] := hK3.read hs2 (hr2 2 2 (show 2 + 2 ≤ 4 by omega))
  have hK02 := (hK1.trans hK2).trans hK3
  have hL2 := hK02.low hL
  have hg2 := hK02.grp hg
  replace p1 := p1.keep hK02
  replace p2 := p2.keep hK02
  replace p3 := p3.keep hK02
  replace p4 := p4.keep hK02
  have hra := Keep.relowS H2r
  obtain ⟨xa, Haa, Ha, hKa, hLa, fa, ga, bxa⟩ := drawnBig hL2 (Times_runs hS _ _ m1 e2 _ _ (H2r.relow H2r.size) (hra.grp hg2) (Nat.le_refl _) ((p1).keep hra) ((p4).keep hra) (by omega) (by omega))
  have hga := hKa.grp hg2
  have hK2a := hKa
  have q2a := hKa.read lt2 q2
  have q1a := hKa.read lt1 q1
  have hrb := Keep.relowS Ha
  obtain ⟨xb, Hba, Hb, hKb, hLb, fb, gb, bxb⟩ := drawnBig hLa (Times_runs hS _ _ m2 e1 _ _ (Ha.relow Ha.size) (hrb.grp hga) (Nat.le_refl _) ((p3.keep hK2a).keep hrb) ((p2.keep hK2a).keep hrb) (by omega) (by omega))
  have hgb := hKb.grp hga
  have hK2b := hKa.trans hKb
  have hrc := Keep.relowS Hb
  obtain ⟨xc, Hca, Hc, hKc, hLc, fc, gc, bxc⟩ := drawnBig hLb (Plus_runs hS _ _ (m1 * e2) (m2 * e1) _ _ (Hb.relow Hb.size) (hrc.grp hgb) (Nat.le_refl _) ((bxa.keep hKb).keep hrc) ((bxb).keep hrc) (by omega) (by omega))
  have hgc := hKc.grp hgb
  have hK2c := hK2b.trans hKc
  have q1c := hK2c.read lt1 q1
  have q3c := hK2c.read lt2 q3
  have hrd := Keep.relowS Hc
  obtain ⟨xd, Hda, Hd, hKd, hLd, fd, gd, bxd⟩ := drawnBig hLc (Times_runs hS _ _ e1 e2 _ _ (Hc.relow Hc.size) (hrd.grp hgc) (Nat.le_refl _) ((p2.keep hK2c).keep hrd) ((p4.keep hK2c).keep hrd) (by omega) (by omega))
  have hgd := hKd.grp hgc
  have hK2d := hK2c.trans hKd
  have hcr := cross_add c1 c2
  have hrz := Keep.relowS Hd
  have hob := lowest_all hS xc xd (m1 * e2 + m2 * e1) (e1 * e2) _ _ (Hd.relow Hd.size) (hrz.grp hgd) (Nat.le_refl _) (Int.mul_pos y1 y2) ((bxc.keep hKd).keep hrz) ((bxd).keep hrz) (by omega) (by omega)
  have hob' : QOut S 54 [xc, xd] (Hd.relow Hd.size) (n1 * d2 + n2 * d1) (d1 * d2) := by
    obtain ⟨Hz, vz, k1, k2, k3, k4⟩ := hob
    exact ⟨Hz, vz, k1, k2, k3.as (Int.mul_pos y1 y2) hcr, k4⟩
  obtain ⟨v9, Hm, Hn, Ho, fm, fn, ps, hld, hLn, hK9, hg9, hq9⟩ := endQ (hK02.trans hK2d) (Nat.le_trans hK1.size hK2.size) hLd hg (ow3.keep hK2d) hob'
  have hc1 : (Value.agg ⟨[t1, t2, t3, t4]⟩).cells.toList = [t1, t2, t3, t4] := rfl
  have hc2 : (Value.agg ⟨[t5, t6, t7, t8]⟩).cells.toList = [t5, t6, t7, t8] := rfl
  refine call_of Tryd.func26 rfl (Nat.le_of_ble_eq_true rfl) (hS.no rfl _ _) ?_
  rw [Tryd.ntmps26, Tryd.results26]
  clear p1 p2 p3 p4 ow3 hob hob' c1 c2 hcr bxa bxb bxc bxd
  repeat' (first | (with_reducible refine sxGuardB_tsp (fun h => ?_) (fun h => ?_)) | (with_reducible refine sxGuardB_fsp (fun h => ?_) (fun h => ?_)) | (with_reducible refine sxIfB_sp (fun h => ?_) (fun h => ?_)) | simp only [↓sxC_skip, ↓sxC_draw, ↓sxC_region, ↓sxC_seq, ↓bxC_cond, ↓bxC_loop, ↓sxC_block, ↓sxC_exit, ↓sxC_goto, ↓sxC_ret, ↓sxOps_nil, ↓sxOps_cons, ↓sxDraw_nil, ↓bxDraw_cons, ↓sxDL_move, ↓sxDL_assign, ↓sxDL_pick, ↓sxDL_alloc, ↓sxDL_box, ↓sxDL_build, ↓sxDL_buildSlice, ↓sxDL_insert, ↓sxDL_load, ↓sxDL_nilCheck, ↓sxDL_binOp, ↓sxDL_unOp, ↓sxDL_convert, ↓sxDL_makeInterface, ↓sxDL_makeFunc, ↓sxDL_makeMap, ↓sxDL_makeSlice, ↓sxDL_slice, ↓sxDL_fieldAddr, ↓sxDL_field, ↓sxDL_indexAddr, ↓sxDL_index, ↓sxDL_typeAssert, ↓sxDL_extract, ↓sxDL_call, ↓sxDL_lookup, ↓sxDL_mapUpdate, ↓sxDL_range, ↓sxDL_next, ↓sxDL_entry, ↓sxDL_mapEntry, ↓sxDL_entryStore, ↓sxD_same, ↓sxStep_none, ↓bxStep_some, ↓bxOp_move, ↓bxOp_assign, ↓bxOp_pick, ↓bxOp_alloc, ↓bxOp_box, ↓bxOp_build, ↓bxOp_buildSlice, ↓bxOp_load, ↓bxOp_store, ↓bxOp_nilCheck, ↓bxOp_bin, ↓bxOp_un, ↓bxOp_makeI, ↓bxOp_makeFunc, ↓bxOp_makeSlice, ↓bxOp_slice, ↓bxOp_fieldAddr, ↓bxOp_field, ↓bxOp_indexAddr, ↓bxOp_index, ↓bxOp_assert, ↓bxOp_extract, ↓bxOp_value, ↓bxOp_len, ↓bxOp_cap, ↓bxOp_append, ↓bxOp_copy, ↓bxOp_clear, ↓bxOp_max, ↓bxOp_min, ↓bxOp_convert, ↓sxPut_none, ↓bxPut, ↓seqQ_normal, ↓seqQ_exit, ↓seqQ_ret, ↓seqQ_goto, ↓blockQ_normal, ↓blockQ_ret, ↓blockQ_goto, ↓blockQ_exit, ↓loopQ_normal, ↓loopQ_exit, ↓loopQ_ret, ↓loopQ_goto, ↓resQ_normal, ↓resQ_ret, ↓sxRes_nil, ↓sxRes_tmp, ↓bxRes_cell, ↓upd_apply, ↓ev_tmp, ↓ev_const, ↓ev_global, ↓ev_func, ↓dstAt, ↓gval_some, sxOptB_some, sxOptB_ite, mm_max, mm_min, binP_shl, binP_shr, binP_int, intBin, una_not_dec, una_nt, una_nf, una_neg, aPick_true, aPick_false, sxCallVB_fn, sxCallVB_yield, sxGuardB_u, sxGuardB_tt, sxGuardB_tf, sxGuardB_ft, sxGuardB_ff, sxIfB_t, sxIfB_f, packRes_one, packRes_two, List.map_cons, List.map_nil, List.nil_append, List.cons_append, List.append_nil, ↓reduceIte, Nat.reduceEqDiff, Nat.reduceLT, dec_T, dec_F, false_imp, true_and, and_true, true_implies, implies_true, false_and, and_false, true_or, or_true, false_or, or_false, and_self, or_self, read_relow, size_relow, low_relow, relow_relow, aLoad_relow, Nat.add_zero, Nat.mul_one, one1, Option.bind_some, ne_eq, Int.natCast_nonneg, Int.toNat_natCast, not_true_eq_false, not_false_eq_true, Option.map_some, Option.map_none, *, argF, List.getD_cons_zero, List.getD_cons_succ, alQ, qaG0, qaG1, ldBig, hc1, hc2, Nat.zero_add] | (with_reducible refine sxDL_barE (by assumption) (by decide +kernel) ?_) | (with_reducible refine sxDL_bar (by decide +kernel) ?_) | (with_reducible refine sxD_bar (by decide +kernel) ?_))
theorem Sub_all (v1 v2 : Value) (n1 d1 n2 d2 : Int) (H : Heap) (hg : Grp H) (hL : H.low ≤ H.size) (h1 : QV H v1 n1 d1) (h2 : QV H v2 n2 d2) (z1 : 0 < d1) (z2 : 0 < d2) (b1 : (n1.natAbs : Int) < 10000 ^ 20) (b2 : d1 < 10000 ^ 20) (b3 : (n2.natAbs : Int) < 10000 ^ 20) (b4 : d2 < 10000 ^ 20) : QOut S 27 [v1, v2] H (n1 * d2 - n2 * d1) (d1 * d2) := by
  suffices h : WCall Tryd.prog S (.fn 27) [v1, v2] H (fun v H' => Keep H H' ∧ Grp H' ∧ QV H' v (n1 * d2 - n2 * d1) (d1 * d2)) by
    obtain ⟨v, H', hr, h1, h2, h3⟩ := h; exact ⟨H', v, h1, h2, h3, hr⟩
  obtain ⟨m1, e1, ⟨t1, t2, t3, t4, rfl, p1, p2⟩, y1, _, c1⟩ := h1.short z1 b1 b2
  obtain ⟨m2, e2, ⟨t5, t6, t7, t8, rfl, p3, p4⟩, y2, _, c2⟩ := h2.short z2 b3 b4
  clear b1 b2 b3 b4 h1 h2
  obtain ⟨H1, b1, hK1, hs1, zz1, hr1⟩ := box1 H [t1, t2, t3, t4] 52
  obtain ⟨H2, b2, hK2, hs2, zz2, hr2⟩ := box1 H1 [t5, t6, t7, t8] 52
  obtain ⟨H2r, b3, hK3, hs3, zz3, hr3⟩ := box1 H2 [.bool false, .slice none 0 0, .bool false, .slice none 0 0] 52
  have ow3 : Own H2r H2.size 52 [.bool false, .slice none 0 0, .bool false, .slice none 0 0] := (b3 ▸ Own.new H2 _ _)
  clear zz1 zz2 zz3 hr3
  have lt1 := Nat.lt_of_lt_of_le hs1 (hK2.trans hK3).size
  have lt2 := Nat.lt_of_lt_of_le hs2 hK3.size
  have q0 : H2r.read H.size 0 2 = some [t1, t2] := (hK2.trans hK3).read hs1 (hr1 0 2 (show 0 + 2 ≤ 4 by omega))
  have q1 : H2r.read H.size 2 2 = some [t3, t4] := (hK2.trans hK3).read hs1 (hr1 2 2 (show 2 + 2 ≤ 4 by omega))
  have q2 : H2r.read H1.size 0 2 = some [t5, t6] := hK3.read hs2 (hr2 0 2 (show 0 + 2 ≤ 4 by omega))
  have q3 : H2r.read H1.size 2 2 = some [t7, t8] := hK3.read hs2 (hr2 2 2 (show 2 + 2 ≤ 4 by omega))
  have hK02 := (hK1.trans hK2).trans hK3
  have hL2 := hK02.low hL
  have hg2 := hK02.grp hg
  replace p1 := p1.keep hK02
  replace p2 := p2.keep hK02
  replace p3 := p3.keep hK02
  replace p4 := p4.keep hK02
  have hra := Keep.relowS H2r
  obtain ⟨xa, Haa, Ha, hKa, hLa, fa, ga, bxa⟩ := drawnBig hL2 (Times_runs hS _ _ m1 e2 _ _ (H2r.relow H2r.size) (hra.grp hg2) (Nat.le_refl _) ((p1).keep hra) ((p4).keep hra) (by omega) (by omega))
  have hga := hKa.grp hg2
  have hK2a := hKa
  have q2a := hKa.read lt2 q2
  have q1a := hKa.read lt1 q1
  have hrb := Keep.relowS Ha
  obtain ⟨xb, Hba, Hb, hKb, hLb, fb, gb, bxb⟩ := drawnBig hLa (Times_runs hS _ _ m2 e1 _ _ (Ha.relow Ha.size) (hrb.grp hga) (Nat.le_refl _) ((p3.keep hK2a).keep hrb) ((p2.keep hK2a).keep hrb) (by omega) (by omega))
  have hgb := hKb.grp hga
  have hK2b := hKa.trans hKb
  have hrc := Keep.relowS Hb
  obtain ⟨xc, Hca, Hc, hKc, hLc, fc, gc, bxc⟩ := drawnBig hLb (Minus_runs hS _ _ (m1 * e2) (m2 * e1) _ _ (Hb.relow Hb.size) (hrc.grp hgb) (Nat.le_refl _) ((bxa.keep hKb).keep hrc) ((bxb).keep hrc) (by omega) (by omega))
  have hgc := hKc.grp hgb
  have hK2c := hK2b.trans hKc
  have q1c := hK2c.read lt1 q1
  have q3c := hK2c.read lt2 q3
  have hrd := Keep.relowS Hc
  obtain ⟨xd, Hda, Hd, hKd, hLd, fd, gd, bxd⟩ := drawnBig hLc (Times_runs hS _ _ e1 e2 _ _ (Hc.relow Hc.size) (hrd.grp hgc) (Nat.le_refl _) ((p2.keep hK2c).keep hrd) ((p4.keep hK2c).keep hrd) (by omega) (by omega))
  have hgd := hKd.grp hgc
  have hK2d := hK2c.trans hKd
  have hcr := cross_sub c1 c2
  have hrz := Keep.relowS Hd
  have hob := lowest_all hS xc xd (m1 * e2 - m2 * e1) (e1 * e2) _ _ (Hd.relow Hd.size) (hrz.grp hgd) (Nat.le_refl _) (Int.mul_pos y1 y2) ((bxc.keep hKd).keep hrz) ((bxd).keep hrz) (by omega) (by omega)
  have hob' : QOut S 54 [xc, xd] (Hd.relow Hd.size) (n1 * d2 - n2 * d1) (d1 * d2) := by
    obtain ⟨Hz, vz, k1, k2, k3, k4⟩ := hob
    exact ⟨Hz, vz, k1, k2, k3.as (Int.mul_pos y1 y2) hcr, k4⟩
  obtain ⟨v9, Hm, Hn, Ho, fm, fn, ps, hld, hLn, hK9, hg9, hq9⟩ := endQ (hK02.trans hK2d) (Nat.le_trans hK1.size hK2.size) hLd hg (ow3.keep hK2d) hob'
  have hc1 : (Value.agg ⟨[t1, t2, t3, t4]⟩).cells.toList = [t1, t2, t3, t4] := rfl
  have hc2 : (Value.agg ⟨[t5, t6, t7, t8]⟩).cells.toList = [t5, t6, t7, t8] := rfl
  refine call_of Tryd.func27 rfl (Nat.le_of_ble_eq_true rfl) (hS.no rfl _ _) ?_
  rw [Tryd.ntmps27, Tryd.results27]
  clear p1 p2 p3 p4 ow3 hob hob' c1 c2 hcr bxa bxb bxc bxd
  repeat' (first | (with_reducible refine sxGuardB_tsp (fun h => ?_) (fun h => ?_)) | (with_reducible refine sxGuardB_fsp (fun h => ?_) (fun h => ?_)) | (with_reducible refine sxIfB_sp (fun h => ?_) (fun h => ?_)) | simp only [↓sxC_skip, ↓sxC_draw, ↓sxC_region, ↓sxC_seq, ↓bxC_cond, ↓bxC_loop, ↓sxC_block, ↓sxC_exit, ↓sxC_goto, ↓sxC_ret, ↓sxOps_nil, ↓sxOps_cons, ↓sxDraw_nil, ↓bxDraw_cons, ↓sxDL_move, ↓sxDL_assign, ↓sxDL_pick, ↓sxDL_alloc, ↓sxDL_box, ↓sxDL_build, ↓sxDL_buildSlice, ↓sxDL_insert, ↓sxDL_load, ↓sxDL_nilCheck, ↓sxDL_binOp, ↓sxDL_unOp, ↓sxDL_convert, ↓sxDL_makeInterface, ↓sxDL_makeFunc, ↓sxDL_makeMap, ↓sxDL_makeSlice, ↓sxDL_slice, ↓sxDL_fieldAddr, ↓sxDL_field, ↓sxDL_indexAddr, ↓sxDL_index, ↓sxDL_typeAssert, ↓sxDL_extract, ↓sxDL_call, ↓sxDL_lookup, ↓sxDL_mapUpdate, ↓sxDL_range, ↓sxDL_next, ↓sxDL_entry, ↓sxDL_mapEntry, ↓sxDL_entryStore, ↓sxD_same, ↓sxStep_none, ↓bxStep_some, ↓bxOp_move, ↓bxOp_assign, ↓bxOp_pick, ↓bxOp_alloc, ↓bxOp_box, ↓bxOp_build, ↓bxOp_buildSlice, ↓bxOp_load, ↓bxOp_store, ↓bxOp_nilCheck, ↓bxOp_bin, ↓bxOp_un, ↓bxOp_makeI, ↓bxOp_makeFunc, ↓bxOp_makeSlice, ↓bxOp_slice, ↓bxOp_fieldAddr, ↓bxOp_field, ↓bxOp_indexAddr, ↓bxOp_index, ↓bxOp_assert, ↓bxOp_extract, ↓bxOp_value, ↓bxOp_len, ↓bxOp_cap, ↓bxOp_append, ↓bxOp_copy, ↓bxOp_clear, ↓bxOp_max, ↓bxOp_min, ↓bxOp_convert, ↓sxPut_none, ↓bxPut, ↓seqQ_normal, ↓seqQ_exit, ↓seqQ_ret, ↓seqQ_goto, ↓blockQ_normal, ↓blockQ_ret, ↓blockQ_goto, ↓blockQ_exit, ↓loopQ_normal, ↓loopQ_exit, ↓loopQ_ret, ↓loopQ_goto, ↓resQ_normal, ↓resQ_ret, ↓sxRes_nil, ↓sxRes_tmp, ↓bxRes_cell, ↓upd_apply, ↓ev_tmp, ↓ev_const, ↓ev_global, ↓ev_func, ↓dstAt, ↓gval_some, sxOptB_some, sxOptB_ite, mm_max, mm_min, binP_shl, binP_shr, binP_int, intBin, una_not_dec, una_nt, una_nf, una_neg, aPick_true, aPick_false, sxCallVB_fn, sxCallVB_yield, sxGuardB_u, sxGuardB_tt, sxGuardB_tf, sxGuardB_ft, sxGuardB_ff, sxIfB_t, sxIfB_f, packRes_one, packRes_two, List.map_cons, List.map_nil, List.nil_append, List.cons_append, List.append_nil, ↓reduceIte, Nat.reduceEqDiff, Nat.reduceLT, dec_T, dec_F, false_imp, true_and, and_true, true_implies, implies_true, false_and, and_false, true_or, or_true, false_or, or_false, and_self, or_self, read_relow, size_relow, low_relow, relow_relow, aLoad_relow, Nat.add_zero, Nat.mul_one, one1, Option.bind_some, ne_eq, Int.natCast_nonneg, Int.toNat_natCast, not_true_eq_false, not_false_eq_true, Option.map_some, Option.map_none, *, argF, List.getD_cons_zero, List.getD_cons_succ, alQ, qaG0, qaG1, ldBig, hc1, hc2, Nat.zero_add] | (with_reducible refine sxDL_barE (by assumption) (by decide +kernel) ?_) | (with_reducible refine sxDL_bar (by decide +kernel) ?_) | (with_reducible refine sxD_bar (by decide +kernel) ?_))
end Go.Proofs.YtnbhjbelgmkpeaaDoor
