/- The contested garment, by the reference. -/
import Derived.Test.YtmcomjgebcemdaaGreatBN
set_option linter.unusedVariables false
set_option linter.unusedSimpArgs false
set_option linter.unusedSectionVars false

namespace Go.Proofs.YtmcomjgebcemdaaGreat
open Go Go.AM
set_option maxRecDepth 10000
set_option linter.unusedSimpArgs false

theorem sgn3_neg {x y : Int} : sgn3 x y < 0 ↔ x < y := by
  unfold sgn3
  split
  · omega
  · split <;> omega

variable {S : AM.Sys} (hS : Only S 8)
include hS

theorem Cmp_zero (v1 v2 : Value) (n d : Int) (H : Heap) (hg : Grp H) (hL : H.low ≤ H.size) (h1 : QV H v1 n d) (h2 : QV H v2 0 1) (hd : 0 < d) : ∃ s H', (s < 0 ↔ n < 0) ∧ Keep H H' ∧ Runs Tryz.prog S (.fn 25) [v1, v2] H (.int .i64 s) H' := by
  obtain ⟨H', k, r⟩ := Cmp_all hS v1 v2 n d 0 1 H hg hL h1 h2 hd (by omega)
  refine ⟨_, H', ?_, k, r⟩
  rw [sgn3_neg]; omega

theorem garment_runs (v1 v2 v3 : Value) (E A B D : Int) (H : Heap) (hg : Grp H) (hL : H.low ≤ H.size) (h1 : QV H v1 E D) (h2 : QV H v2 A D) (h3 : QV H v3 B D) (hD : 0 < D) (bD : D ≤ 1000000000000000) (bE : 0 ≤ E ∧ E ≤ 1000000000000000) (bA : 0 ≤ A ∧ A ≤ 1000000000000000) (bB : 0 ≤ B ∧ B ≤ 1000000000000000) :
    ∃ H' va vb, Keep H H' ∧ Grp H' ∧ QV H' va (E + max 0 (E - B) - max 0 (E - A)) (2 * D) ∧ QV H' vb (E + max 0 (E - A) - max 0 (E - B)) (2 * D) ∧ Runs Tryz.prog S (.fn 17) [v1, v2, v3] H (.tuple #[va, vb]) H' := by
  suffices h : WCall Tryz.prog S (.fn 17) [v1, v2, v3] H (fun v H' => ∃ va vb, v = .tuple #[va, vb] ∧ Keep H H' ∧ Grp H' ∧ QV H' va (E + max 0 (E - B) - max 0 (E - A)) (2 * D) ∧ QV H' vb (E + max 0 (E - A) - max 0 (E - B)) (2 * D)) by
    obtain ⟨_, H', hr, va, vb, rfl, h1, h2, h3, h4⟩ := h; exact ⟨H', va, vb, h1, h2, h3, h4, hr⟩
  have b20 := big20
  obtain ⟨Ha, e1, k1, s1, -, -⟩ := box1 H v1.cells.toList 42
  obtain ⟨Hb, e2, k2, s2, -, -⟩ := box1 Ha v2.cells.toList 42
  obtain ⟨Hc, e3, k3, s3, -, -⟩ := box1 Hb v3.cells.toList 42
  obtain ⟨Hd, e4, k4, s4, -, -⟩ := box1 Hc [.bool false, .slice none 0 0, .bool false, .slice none 0 0] 42
  obtain ⟨He, e5, k5, s5, -, -⟩ := box1 Hd [.bool false, .slice none 0 0, .bool false, .slice none 0 0] 42
  have o1 : Own He H.size 42 v1.cells.toList := (((e1 ▸ Own.new H _ _ : Own Ha H.size 42 v1.cells.toList).keep k2).keep k3).keep (k4.trans k5)
  have o2 : Own He Ha.size 42 v2.cells.toList := ((e2 ▸ Own.new Ha _ _ : Own Hb Ha.size 42 v2.cells.toList).keep k3).keep (k4.trans k5)
  have o3 : Own He Hb.size 42 v3.cells.toList := (e3 ▸ Own.new Hb _ _ : Own Hc Hb.size 42 v3.cells.toList).keep (k4.trans k5)
  have o6 : Own He Hc.size 42 [.bool false, .slice none 0 0, .bool false, .slice none 0 0] := (e4 ▸ Own.new Hc _ _ : Own Hd Hc.size 42 _).keep k5
  have o7 : Own He Hd.size 42 [.bool false, .slice none 0 0, .bool false, .slice none 0 0] := e5 ▸ Own.new Hd _ _
  have kE := (((k1.trans k2).trans k3).trans k4).trans k5
  have lE := kE.low hL
  have gE := kE.grp hg
  obtain ⟨Hf, v8, kf, gf, q8f, R8⟩ := Frac_all hS 0 1 He gE lE (by omega) (by omega) (by omega) (by omega)
  have f8 := R8.bx
  have lf := kf.low lE
  obtain ⟨Hg, eg, kg, sg, -, -⟩ := box1 Hf [.bool false, .slice none 0 0, .bool false, .slice none 0 0] 42
  have o8g : Own Hg Hf.size 42 [.bool false, .slice none 0 0, .bool false, .slice none 0 0] := eg ▸ Own.new Hf _ _
  obtain ⟨Hh, eh, zh, o8, ph, rh, kph⟩ := storeQ o8g QShape.empty (q8f.keep kg)
  have kh := kph He (kf.trans kg) kf.size
  have lh := kh.low lE
  have gh := kh.grp gE
  have q8 := ph _ _ _ (q8f.keep kg)
  have q1 := h1.keep (kE.trans kh)
  have q2 := h2.keep (kE.trans kh)
  have q3 := h3.keep (kE.trans kh)
  have krh := Keep.relowS Hh
  have m1 := own_ldQ (o1.keep kh) q1
  have m3 := own_ldQ (o3.keep kh) q3
  obtain ⟨x9, Hi', Hi, ki, li, fi, di, qi⟩ := drawnQ lh (Sub_all hS v1 v3 E D B D (Hh.relow Hh.size) (krh.grp gh) (Nat.le_refl _) (q1.keep krh) (q3.keep krh) hD hD (by omega) (by omega) (by omega) (by omega))
  have qi' : QV Hi x9 (E - B) D := qi.as (Int.mul_pos hD hD) (by rw [← Int.sub_mul, Int.mul_assoc])
  have gi := ki.grp gh
  have kri := Keep.relowS Hi
  have m1i := own_ldQ (o1.keep (kh.trans ki)) (q1.keep ki)
  have m2i := own_ldQ (o2.keep (kh.trans ki)) (q2.keep ki)
  obtain ⟨x10, Hj', Hj, kj, lj, fj, dj, qj⟩ := drawnQ li (Sub_all hS v1 v2 E D A D (Hi.relow Hi.size) (kri.grp gi) (Nat.le_refl _) ((q1.keep ki).keep kri) ((q2.keep ki).keep kri) hD hD (by omega) (by omega) (by omega) (by omega))
  have qj' : QV Hj x10 (E - A) D := qj.as (Int.mul_pos hD hD) (by rw [← Int.sub_mul, Int.mul_assoc])
  obtain ⟨Hk', Hk, ek, dk, kk, lk, o9k, zk⟩ := allocQD lj
  obtain ⟨Hl', Hl, el, dl, kl, ll, o10l, zl⟩ := allocQD lk
  have khl := ((ki.trans kj).trans kk).trans kl
  have r9h : Hh.size ≤ Hj.size := (ki.trans kj).size
  have r10h : Hh.size ≤ Hk.size := Nat.le_trans r9h kk.size
  have r910 : Hk.size ≠ Hj.size := by omega
  clear zk zl
  obtain ⟨Hm', Hm, em, em2, km, zm, lm, o9m, pm, rm⟩ := storeQD khl r9h ll (o9k.keep kl) QShape.empty ((qi'.keep (kj.trans kk)).keep kl)
  obtain ⟨Hn', Hn, en, en2, kn, zn, ln, o10, pn, rn⟩ := storeQD km r10h lm (rm _ _ _ r910 o10l) QShape.empty (pm _ _ _ ((qj'.keep kk).keep kl))
  have o9 := rn _ _ _ (Ne.symm r910) o9m
  have qx := pn _ _ _ (pm _ _ _ ((qi'.keep (kj.trans kk)).keep kl))
  have qy := pn _ _ _ (pm _ _ _ ((qj'.keep kk).keep kl))
  clear zm zn zh
  have q8n := q8.keep kn
  have o8n := o8.keep kn
  have gn := kn.grp gh
  have n9 := own_ldQ o9 qx
  have n8 := own_ldQ o8n q8n
  obtain ⟨s9, Hp, hs9, kp, R9⟩ := Cmp_zero hS x9 v8 (E - B) D Hn gn ln qx q8n hD
  have f9 := R9.bx
  have lp := kp.low ln
  have gp := kp.grp gn
  have kEp := (kh.trans kn).trans kp
  have n8p := own_ldQ (o8n.keep kp) (q8n.keep kp)
  have n10p := own_ldQ (o10.keep kp) (qy.keep kp)
  have c8 : Hf.size < Hg.size := sg
  have hfh : Hf.size < Hh.size := o8.lt
  have heH : He.size ≤ Hf.size := kf.size
  have tail := fun (Hx : Heap) (vx vy : Value) (X Y : Int) (hk : Keep He Hx) (hLx : Hx.low ≤ Hx.size) (a9 : Own Hx Hj.size 42 vx.cells.toList) (a10 : Own Hx Hk.size 42 vy.cells.toList) (qx : QV Hx vx X D) (qy : QV Hx vy Y D) (bX : 0 ≤ X ∧ X ≤ 1000000000000000) (bY : 0 ≤ Y ∧ Y ≤ 1000000000000000) =>
    garment_tail hS v1 vx vy E X Y D H Hx H.size Hc.size Hd.size Hj.size Hk.size (kE.trans hk) hg hLx (o1.keep hk) a9 a10 (o6.keep hk) (o7.keep hk) ((k1.trans (k2.trans k3)).size) ((k1.trans (k2.trans (k3.trans k4))).size) (by omega) (h1.keep (kE.trans hk)) qx qy hD bD bE bX bY
  refine call_of Tryz.func17 rfl (Nat.le_of_ble_eq_true rfl) (hS.no rfl _ _) ?_
  rw [Tryz.ntmps17, Tryz.results17]
  by_cases c1 : E - B < 0
  · have hc1 : s9 < 0 := hs9.2 c1
    obtain ⟨Hq, eq1, zq, o9q, pq, rq, kpq⟩ := storeQ (o9.keep kp) qx.shape.2 (q8n.keep kp)
    have kq := kpq Hh (kn.trans kp) r9h
    have o10q := rq _ _ _ r910 (o10.keep kp)
    have o8q := o8.keep kq
    have q8q := q8.keep kq
    have qxq : QV Hq v8 0 D := (pq _ _ _ (q8n.keep kp)).as (by omega) (by omega)
    have qyq := pq _ _ _ (qy.keep kp)
    clear zq pq rq kpq
    have gq := kq.grp gh
    have lq := kq.low lh
    have z8 := own_ldQ o8q q8q
    have z10 := own_ldQ o10q qyq
    obtain ⟨s10, Hr, hs10, kr, R10⟩ := Cmp_zero hS x10 v8 (E - A) D Hq gq lq qyq q8q hD
    have f10 := R10.bx
    have lr := kr.low lq
    have z8r := own_ldQ (o8q.keep kr) (q8q.keep kr)
    have hmx : max 0 (E - B) = 0 := by omega
    by_cases c2 : E - A < 0
    · have hc2 : s10 < 0 := hs10.2 c2
      have hmy : max 0 (E - A) = 0 := by omega
      obtain ⟨Hs, es1, zs, o10s, pS, rS, kpS⟩ := storeQ (o10q.keep kr) qyq.shape.2 (q8q.keep kr)
      have kS := kpS Hh (kq.trans kr) r10h
      have lS := kS.low lh
      clear zs
      have o9s := rS _ _ _ (Ne.symm r910) (o9q.keep kr)
      have qxs := pS _ _ _ (qxq.keep kr)
      have qys : QV Hs v8 0 D := (pS _ _ _ (q8q.keep kr)).as (by omega) (by omega)
      have hob := tail Hs v8 v8 (max 0 (E - B)) (max 0 (E - A)) (kh.trans kS) lS o9s o10s (hmx.symm ▸ qxs) (hmy.symm ▸ qys) (by omega) (by omega)
      obtain ⟨t32, Ia', Ia, t33, Ib', Ib, t34, Ic', Ic, t35, Id', Id, Ie', Ie, If', If, t38, Ig', Ig, t41, Ih', Ih, Ii', Ii, Ij', Ij, ⟨u1, u2, u3⟩, ⟨u4, u5, u6⟩, ⟨u7, u8, u9⟩, ⟨ua, ub, uc⟩, ⟨ud, ue, uf⟩, ⟨ug, uh, ui⟩, ⟨uj, uk, ul, ul2, ul3⟩, ⟨um, un⟩, ⟨uo, up, uq⟩, ⟨ur, us⟩, ⟨ut, uu, uv⟩, ⟨uw, ux, uy⟩, ⟨uz, va, vb⟩, ⟨vc, vd⟩, ve, vf, vg, vh⟩ := hob
      clear tail hmx hmy h1 h2 h3 o1 o2 o3 o6 o7 o8 o8g o8n o9 o9k o9m o10 o10l o9q o10q q1 q2 q3 q8 q8f q8n q8q qi qi' qj qj' qx qy qxq qyq R8 R9 R10 ph rh kph pm rm pn rn hs9 hs10
      repeat' (first | (with_reducible refine sxGuardB_tsp (fun h => ?_) (fun h => ?_)) | (with_reducible refine sxGuardB_fsp (fun h => ?_) (fun h => ?_)) | (with_reducible refine sxIfB_sp (fun h => ?_) (fun h => ?_)) | simp only [↓sxC_skip, ↓sxC_draw, ↓sxC_region, ↓sxC_seq, ↓bxC_cond, ↓bxC_loop, ↓sxC_block, ↓sxC_exit, ↓sxC_goto, ↓sxC_ret, ↓sxOps_nil, ↓sxOps_cons, ↓sxDraw_nil, ↓bxDraw_cons, ↓sxD_same, ↓sxStep_none, ↓bxStep_some, ↓bxOp_move, ↓bxOp_assign, ↓bxOp_pick, ↓bxOp_alloc, ↓bxOp_box, ↓bxOp_build, ↓bxOp_buildSlice, ↓bxOp_load, ↓bxOp_store, ↓bxOp_nilCheck, ↓bxOp_bin, ↓bxOp_un, ↓bxOp_makeI, ↓bxOp_makeFunc, ↓bxOp_makeSlice, ↓bxOp_slice, ↓bxOp_fieldAddr, ↓bxOp_field, ↓bxOp_indexAddr, ↓bxOp_index, ↓bxOp_assert, ↓bxOp_extract, ↓bxOp_value, ↓bxOp_len, ↓bxOp_cap, ↓bxOp_append, ↓bxOp_copy, ↓bxOp_max, ↓bxOp_min, ↓bxOp_convert, ↓sxPut_none, ↓bxPut, ↓seqQ_normal, ↓seqQ_exit, ↓seqQ_ret, ↓seqQ_goto, ↓blockQ_normal, ↓blockQ_ret, ↓blockQ_goto, ↓blockQ_exit, ↓loopQ_normal, ↓loopQ_exit, ↓loopQ_ret, ↓loopQ_goto, ↓resQ_normal, ↓resQ_ret, ↓sxRes_nil, ↓sxRes_tmp, ↓bxRes_cell, ↓upd_apply, ↓ev_tmp, ↓ev_const, ↓ev_global, ↓ev_func, ↓dstAt, ↓gval_some, sxOptB_some, sxOptB_ite, mm_max, mm_min, binP_shl, binP_shr, binP_int, intBin, una_not_dec, una_nt, una_nf, una_neg, aPick_true, aPick_false, sxCallVB_fn, sxCallVB_yield, sxGuardB_u, sxGuardB_tt, sxGuardB_tf, sxGuardB_ft, sxGuardB_ff, sxIfB_t, sxIfB_f, packRes_one, packRes_two, List.map_cons, List.map_nil, List.nil_append, List.cons_append, List.append_nil, ↓reduceIte, Nat.reduceEqDiff, Nat.reduceLT, dec_T, dec_F, false_imp, true_and, and_true, true_implies, implies_true, false_and, and_false, true_or, or_true, false_or, or_false, and_self, or_self, read_relow, size_relow, low_relow, relow_relow, aLoad_relow, Nat.add_zero, Nat.mul_one, one1, Option.bind_some, ne_eq, Int.natCast_nonneg, Int.toNat_natCast, not_true_eq_false, not_false_eq_true, Option.map_some, Option.map_none, *, argF, List.getD_cons_zero, List.getD_cons_succ, alQ, Nat.zero_add] | (with_reducible refine sxD_bar (by kernel_rfl) ?_))
      exact ⟨_, _, rfl, vg, vh⟩
    · have hc2 : ¬ s10 < 0 := fun h => c2 (hs10.1 h)
      have hmy : max 0 (E - A) = (E - A) := by omega
      have hob := tail Hr v8 x10 (max 0 (E - B)) (max 0 (E - A)) (kh.trans (kq.trans kr)) lr (o9q.keep kr) (o10q.keep kr) (hmx.symm ▸ qxq.keep kr) (hmy.symm ▸ qyq.keep kr) (by omega) (by omega)
      obtain ⟨t32, Ia', Ia, t33, Ib', Ib, t34, Ic', Ic, t35, Id', Id, Ie', Ie, If', If, t38, Ig', Ig, t41, Ih', Ih, Ii', Ii, Ij', Ij, ⟨u1, u2, u3⟩, ⟨u4, u5, u6⟩, ⟨u7, u8, u9⟩, ⟨ua, ub, uc⟩, ⟨ud, ue, uf⟩, ⟨ug, uh, ui⟩, ⟨uj, uk, ul, ul2, ul3⟩, ⟨um, un⟩, ⟨uo, up, uq⟩, ⟨ur, us⟩, ⟨ut, uu, uv⟩, ⟨uw, ux, uy⟩, ⟨uz, va, vb⟩, ⟨vc, vd⟩, ve, vf, vg, vh⟩ := hob
      clear tail hmx hmy h1 h2 h3 o1 o2 o3 o6 o7 o8 o8g o8n o9 o9k o9m o10 o10l o9q o10q q1 q2 q3 q8 q8f q8n q8q qi qi' qj qj' qx qy qxq qyq R8 R9 R10 ph rh kph pm rm pn rn hs9 hs10
      repeat' (first | (with_reducible refine sxGuardB_tsp (fun h => ?_) (fun h => ?_)) | (with_reducible refine sxGuardB_fsp (fun h => ?_) (fun h => ?_)) | (with_reducible refine sxIfB_sp (fun h => ?_) (fun h => ?_)) | simp only [↓sxC_skip, ↓sxC_draw, ↓sxC_region, ↓sxC_seq, ↓bxC_cond, ↓bxC_loop, ↓sxC_block, ↓sxC_exit, ↓sxC_goto, ↓sxC_ret, ↓sxOps_nil, ↓sxOps_cons, ↓sxDraw_nil, ↓bxDraw_cons, ↓sxD_same, ↓sxStep_none, ↓bxStep_some, ↓bxOp_move, ↓bxOp_assign, ↓bxOp_pick, ↓bxOp_alloc, ↓bxOp_box, ↓bxOp_build, ↓bxOp_buildSlice, ↓bxOp_load, ↓bxOp_store, ↓bxOp_nilCheck, ↓bxOp_bin, ↓bxOp_un, ↓bxOp_makeI, ↓bxOp_makeFunc, ↓bxOp_makeSlice, ↓bxOp_slice, ↓bxOp_fieldAddr, ↓bxOp_field, ↓bxOp_indexAddr, ↓bxOp_index, ↓bxOp_assert, ↓bxOp_extract, ↓bxOp_value, ↓bxOp_len, ↓bxOp_cap, ↓bxOp_append, ↓bxOp_copy, ↓bxOp_max, ↓bxOp_min, ↓bxOp_convert, ↓sxPut_none, ↓bxPut, ↓seqQ_normal, ↓seqQ_exit, ↓seqQ_ret, ↓seqQ_goto, ↓blockQ_normal, ↓blockQ_ret, ↓blockQ_goto, ↓blockQ_exit, ↓loopQ_normal, ↓loopQ_exit, ↓loopQ_ret, ↓loopQ_goto, ↓resQ_normal, ↓resQ_ret, ↓sxRes_nil, ↓sxRes_tmp, ↓bxRes_cell, ↓upd_apply, ↓ev_tmp, ↓ev_const, ↓ev_global, ↓ev_func, ↓dstAt, ↓gval_some, sxOptB_some, sxOptB_ite, mm_max, mm_min, binP_shl, binP_shr, binP_int, intBin, una_not_dec, una_nt, una_nf, una_neg, aPick_true, aPick_false, sxCallVB_fn, sxCallVB_yield, sxGuardB_u, sxGuardB_tt, sxGuardB_tf, sxGuardB_ft, sxGuardB_ff, sxIfB_t, sxIfB_f, packRes_one, packRes_two, List.map_cons, List.map_nil, List.nil_append, List.cons_append, List.append_nil, ↓reduceIte, Nat.reduceEqDiff, Nat.reduceLT, dec_T, dec_F, false_imp, true_and, and_true, true_implies, implies_true, false_and, and_false, true_or, or_true, false_or, or_false, and_self, or_self, read_relow, size_relow, low_relow, relow_relow, aLoad_relow, Nat.add_zero, Nat.mul_one, one1, Option.bind_some, ne_eq, Int.natCast_nonneg, Int.toNat_natCast, not_true_eq_false, not_false_eq_true, Option.map_some, Option.map_none, *, argF, List.getD_cons_zero, List.getD_cons_succ, alQ, Nat.zero_add] | (with_reducible refine sxD_bar (by kernel_rfl) ?_))
      exact ⟨_, _, rfl, vg, vh⟩
  · have hc1 : ¬ s9 < 0 := fun h => c1 (hs9.1 h)
    have kq := kn.trans kp
    have o10q := o10.keep kp
    have o9q := o9.keep kp
    have o8q := o8.keep kq
    have q8q := q8.keep kq
    have qxq := qx.keep kp
    have qyq := qy.keep kp
    have gq := kq.grp gh
    have lq := kq.low lh
    have z8 := own_ldQ o8q q8q
    have z10 := own_ldQ o10q qyq
    obtain ⟨s10, Hr, hs10, kr, R10⟩ := Cmp_zero hS x10 v8 (E - A) D Hp gq lq qyq q8q hD
    have f10 := R10.bx
    have lr := kr.low lq
    have z8r := own_ldQ (o8q.keep kr) (q8q.keep kr)
    have hmx : max 0 (E - B) = (E - B) := by omega
    by_cases c2 : E - A < 0
    · have hc2 : s10 < 0 := hs10.2 c2
      have hmy : max 0 (E - A) = 0 := by omega
      obtain ⟨Hs, es1, zs, o10s, pS, rS, kpS⟩ := storeQ (o10q.keep kr) qyq.shape.2 (q8q.keep kr)
      have kS := kpS Hh (kq.trans kr) r10h
      have lS := kS.low lh
      clear zs
      have o9s := rS _ _ _ (Ne.symm r910) (o9q.keep kr)
      have qxs := pS _ _ _ (qxq.keep kr)
      have qys : QV Hs v8 0 D := (pS _ _ _ (q8q.keep kr)).as (by omega) (by omega)
      have hob := tail Hs x9 v8 (max 0 (E - B)) (max 0 (E - A)) (kh.trans kS) lS o9s o10s (hmx.symm ▸ qxs) (hmy.symm ▸ qys) (by omega) (by omega)
      obtain ⟨t32, Ia', Ia, t33, Ib', Ib, t34, Ic', Ic, t35, Id', Id, Ie', Ie, If', If, t38, Ig', Ig, t41, Ih', Ih, Ii', Ii, Ij', Ij, ⟨u1, u2, u3⟩, ⟨u4, u5, u6⟩, ⟨u7, u8, u9⟩, ⟨ua, ub, uc⟩, ⟨ud, ue, uf⟩, ⟨ug, uh, ui⟩, ⟨uj, uk, ul, ul2, ul3⟩, ⟨um, un⟩, ⟨uo, up, uq⟩, ⟨ur, us⟩, ⟨ut, uu, uv⟩, ⟨uw, ux, uy⟩, ⟨uz, va, vb⟩, ⟨vc, vd⟩, ve, vf, vg, vh⟩ := hob
      clear tail hmx hmy h1 h2 h3 o1 o2 o3 o6 o7 o8 o8g o8n o9 o9k o9m o10 o10l o9q o10q q1 q2 q3 q8 q8f q8n q8q qi qi' qj qj' qx qy qxq qyq R8 R9 R10 ph rh kph pm rm pn rn hs9 hs10
      repeat' (first | (with_reducible refine sxGuardB_tsp (fun h => ?_) (fun h => ?_)) | (with_reducible refine sxGuardB_fsp (fun h => ?_) (fun h => ?_)) | (with_reducible refine sxIfB_sp (fun h => ?_) (fun h => ?_)) | simp only [↓sxC_skip, ↓sxC_draw, ↓sxC_region, ↓sxC_seq, ↓bxC_cond, ↓bxC_loop, ↓sxC_block, ↓sxC_exit, ↓sxC_goto, ↓sxC_ret, ↓sxOps_nil, ↓sxOps_cons, ↓sxDraw_nil, ↓bxDraw_cons, ↓sxD_same, ↓sxStep_none, ↓bxStep_some, ↓bxOp_move, ↓bxOp_assign, ↓bxOp_pick, ↓bxOp_alloc, ↓bxOp_box, ↓bxOp_build, ↓bxOp_buildSlice, ↓bxOp_load, ↓bxOp_store, ↓bxOp_nilCheck, ↓bxOp_bin, ↓bxOp_un, ↓bxOp_makeI, ↓bxOp_makeFunc, ↓bxOp_makeSlice, ↓bxOp_slice, ↓bxOp_fieldAddr, ↓bxOp_field, ↓bxOp_indexAddr, ↓bxOp_index, ↓bxOp_assert, ↓bxOp_extract, ↓bxOp_value, ↓bxOp_len, ↓bxOp_cap, ↓bxOp_append, ↓bxOp_copy, ↓bxOp_max, ↓bxOp_min, ↓bxOp_convert, ↓sxPut_none, ↓bxPut, ↓seqQ_normal, ↓seqQ_exit, ↓seqQ_ret, ↓seqQ_goto, ↓blockQ_normal, ↓blockQ_ret, ↓blockQ_goto, ↓blockQ_exit, ↓loopQ_normal, ↓loopQ_exit, ↓loopQ_ret, ↓loopQ_goto, ↓resQ_normal, ↓resQ_ret, ↓sxRes_nil, ↓sxRes_tmp, ↓bxRes_cell, ↓upd_apply, ↓ev_tmp, ↓ev_const, ↓ev_global, ↓ev_func, ↓dstAt, ↓gval_some, sxOptB_some, sxOptB_ite, mm_max, mm_min, binP_shl, binP_shr, binP_int, intBin, una_not_dec, una_nt, una_nf, una_neg, aPick_true, aPick_false, sxCallVB_fn, sxCallVB_yield, sxGuardB_u, sxGuardB_tt, sxGuardB_tf, sxGuardB_ft, sxGuardB_ff, sxIfB_t, sxIfB_f, packRes_one, packRes_two, List.map_cons, List.map_nil, List.nil_append, List.cons_append, List.append_nil, ↓reduceIte, Nat.reduceEqDiff, Nat.reduceLT, dec_T, dec_F, false_imp, true_and, and_true, true_implies, implies_true, false_and, and_false, true_or, or_true, false_or, or_false, and_self, or_self, read_relow, size_relow, low_relow, relow_relow, aLoad_relow, Nat.add_zero, Nat.mul_one, one1, Option.bind_some, ne_eq, Int.natCast_nonneg, Int.toNat_natCast, not_true_eq_false, not_false_eq_true, Option.map_some, Option.map_none, *, argF, List.getD_cons_zero, List.getD_cons_succ, alQ, Nat.zero_add] | (with_reducible refine sxD_bar (by kernel_rfl) ?_))
      exact ⟨_, _, rfl, vg, vh⟩
    · have hc2 : ¬ s10 < 0 := fun h => c2 (hs10.1 h)
      have hmy : max 0 (E - A) = (E - A) := by omega
      have hob := tail Hr x9 x10 (max 0 (E - B)) (max 0 (E - A)) (kh.trans (kq.trans kr)) lr (o9q.keep kr) (o10q.keep kr) (hmx.symm ▸ qxq.keep kr) (hmy.symm ▸ qyq.keep kr) (by omega) (by omega)
      obtain ⟨t32, Ia', Ia, t33, Ib', Ib, t34, Ic', Ic, t35, Id', Id, Ie', Ie, If', If, t38, Ig', Ig, t41, Ih', Ih, Ii', Ii, Ij', Ij, ⟨u1, u2, u3⟩, ⟨u4, u5, u6⟩, ⟨u7, u8, u9⟩, ⟨ua, ub, uc⟩, ⟨ud, ue, uf⟩, ⟨ug, uh, ui⟩, ⟨uj, uk, ul, ul2, ul3⟩, ⟨um, un⟩, ⟨uo, up, uq⟩, ⟨ur, us⟩, ⟨ut, uu, uv⟩, ⟨uw, ux, uy⟩, ⟨uz, va, vb⟩, ⟨vc, vd⟩, ve, vf, vg, vh⟩ := hob
      clear tail hmx hmy h1 h2 h3 o1 o2 o3 o6 o7 o8 o8g o8n o9 o9k o9m o10 o10l o9q o10q q1 q2 q3 q8 q8f q8n q8q qi qi' qj qj' qx qy qxq qyq R8 R9 R10 ph rh kph pm rm pn rn hs9 hs10
      repeat' (first | (with_reducible refine sxGuardB_tsp (fun h => ?_) (fun h => ?_)) | (with_reducible refine sxGuardB_fsp (fun h => ?_) (fun h => ?_)) | (with_reducible refine sxIfB_sp (fun h => ?_) (fun h => ?_)) | simp only [↓sxC_skip, ↓sxC_draw, ↓sxC_region, ↓sxC_seq, ↓bxC_cond, ↓bxC_loop, ↓sxC_block, ↓sxC_exit, ↓sxC_goto, ↓sxC_ret, ↓sxOps_nil, ↓sxOps_cons, ↓sxDraw_nil, ↓bxDraw_cons, ↓sxD_same, ↓sxStep_none, ↓bxStep_some, ↓bxOp_move, ↓bxOp_assign, ↓bxOp_pick, ↓bxOp_alloc, ↓bxOp_box, ↓bxOp_build, ↓bxOp_buildSlice, ↓bxOp_load, ↓bxOp_store, ↓bxOp_nilCheck, ↓bxOp_bin, ↓bxOp_un, ↓bxOp_makeI, ↓bxOp_makeFunc, ↓bxOp_makeSlice, ↓bxOp_slice, ↓bxOp_fieldAddr, ↓bxOp_field, ↓bxOp_indexAddr, ↓bxOp_index, ↓bxOp_assert, ↓bxOp_extract, ↓bxOp_value, ↓bxOp_len, ↓bxOp_cap, ↓bxOp_append, ↓bxOp_copy, ↓bxOp_max, ↓bxOp_min, ↓bxOp_convert, ↓sxPut_none, ↓bxPut, ↓seqQ_normal, ↓seqQ_exit, ↓seqQ_ret, ↓seqQ_goto, ↓blockQ_normal, ↓blockQ_ret, ↓blockQ_goto, ↓blockQ_exit, ↓loopQ_normal, ↓loopQ_exit, ↓loopQ_ret, ↓loopQ_goto, ↓resQ_normal, ↓resQ_ret, ↓sxRes_nil, ↓sxRes_tmp, ↓bxRes_cell, ↓upd_apply, ↓ev_tmp, ↓ev_const, ↓ev_global, ↓ev_func, ↓dstAt, ↓gval_some, sxOptB_some, sxOptB_ite, mm_max, mm_min, binP_shl, binP_shr, binP_int, intBin, una_not_dec, una_nt, una_nf, una_neg, aPick_true, aPick_false, sxCallVB_fn, sxCallVB_yield, sxGuardB_u, sxGuardB_tt, sxGuardB_tf, sxGuardB_ft, sxGuardB_ff, sxIfB_t, sxIfB_f, packRes_one, packRes_two, List.map_cons, List.map_nil, List.nil_append, List.cons_append, List.append_nil, ↓reduceIte, Nat.reduceEqDiff, Nat.reduceLT, dec_T, dec_F, false_imp, true_and, and_true, true_implies, implies_true, false_and, and_false, true_or, or_true, false_or, or_false, and_self, or_self, read_relow, size_relow, low_relow, relow_relow, aLoad_relow, Nat.add_zero, Nat.mul_one, one1, Option.bind_some, ne_eq, Int.natCast_nonneg, Int.toNat_natCast, not_true_eq_false, not_false_eq_true, Option.map_some, Option.map_none, *, argF, List.getD_cons_zero, List.getD_cons_succ, alQ, Nat.zero_add] | (with_reducible refine sxD_bar (by kernel_rfl) ?_))
      exact ⟨_, _, rfl, vg, vh⟩
end Go.Proofs.YtmcomjgebcemdaaGreat
