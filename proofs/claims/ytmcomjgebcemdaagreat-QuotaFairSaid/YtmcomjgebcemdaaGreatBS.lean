/- What two get of a garment, by the reference. -/
import Derived.Test.YtmcomjgebcemdaaGreatBR
import Derived.Test.YtmcomjgebcemdaaGreatBO
import Derived.Test.YtmcomjgebcemdaaGreatQ3
set_option linter.unusedVariables false
set_option linter.unusedSimpArgs false
set_option linter.unusedSectionVars false

namespace Go.Proofs.YtmcomjgebcemdaaGreat
open Go Go.AM
set_option maxRecDepth 10000
set_option linter.unusedSimpArgs false

/-- Twice what the first one gets. -/
def twice (e a b : Int) : Int := e + max 0 (e - b) - max 0 (e - a)
/-- The halves of two numbers, whose sum is even, in lowest terms. -/
def halfN (F G : Int) : List Int := if F % 2 = 0 then [F / 2, G / 2] else [F, G]
def halfD (F : Int) : Int := if F % 2 = 0 then 1 else 2

theorem half_of {n d F : Int} (hd : 0 < d) (hc : n.natAbs.gcd d.natAbs = 1) (h : n * 2 = F * d) : (F % 2 = 0 ∧ d = 1 ∧ n = F / 2) ∨ (F % 2 = 1 ∧ d = 2 ∧ n = F) := by
  have h1 := (low_le (show (0 : Int) < 2 by omega) hd hc h).1
  rcases (show d = 1 ∨ d = 2 by omega) with rfl | rfl
  · left; omega
  · right
    have h2 : n = F := by omega
    subst h2
    refine ⟨?_, rfl, rfl⟩
    rcases (show n % 2 = 0 ∨ n % 2 = 1 by omega) with h3 | h3
    · exfalso
      have h4 : (2 : Nat) ∣ n.natAbs := by omega
      have h5 : (2 : Nat) ∣ n.natAbs.gcd (2 : Int).natAbs := Nat.dvd_gcd h4 ⟨1, rfl⟩
      rw [hc] at h5
      omega
    · exact h3
theorem bs2 (H : Heap) (a b : Int) : aBuildSlice Tryz.prog H 22 2 [(0, .int .i64 a), (1, .int .i64 b)] = some (.slice (some ⟨H.size, 0, none⟩) 2 2, H.newExact [.int .i64 a, .int .i64 b] 3) := by kernel_rfl
theorem bsQ2 (H : Heap) (s1 s2 s3 s4 : Bool) (a1 a2 a3 a4 : Option Addr) (n1 n2 n3 n4 c1 c2 c3 c4 : Nat) : aBuildSlice Tryz.prog H 47 2 [(0, .agg ⟨[.bool s1, .slice a1 n1 c1, .bool s2, .slice a2 n2 c2]⟩), (1, .agg ⟨[.bool s3, .slice a3 n3 c3, .bool s4, .slice a4 n4 c4]⟩)] = some (.slice (some ⟨H.size, 0, none⟩) 2 2, H.newExact [.bool s1, .slice a1 n1 c1, .bool s2, .slice a2 n2 c2, .bool s3, .slice a3 n3 c3, .bool s4, .slice a4 n4 c4] 42) := by kernel_rfl
theorem bdP0 : aBuild Tryz.prog 24 [] = some (.agg ⟨[.slice none 0 0, .int .i64 0]⟩) := by kernel_rfl
theorem sl2 {H : Heap} {r : Nat} {e : TypeId} {a b : Int} (h : Own H r e [.int .i64 a, .int .i64 b]) (ha : -9223372036854775808 ≤ a ∧ a ≤ 9223372036854775807) (hb : -9223372036854775808 ≤ b ∧ b ≤ 9223372036854775807) : SlI .i64 H (.slice (some ⟨r, 0, none⟩) 2 2) [a, b] r 0 :=
  Own.sl (w := [a, b]) h (fun z hz => by
    rcases List.mem_cons.1 hz with rfl | hz
    · exact ha
    · rcases List.mem_cons.1 hz with rfl | hz
      · exact hb
      · cases hz) (by show 2 ≤ 9223372036854775807; omega) 2
/-- Two fractions side by side. -/
theorem slQ2 {H : Heap} {r : Nat} {e : TypeId} {x1 x2 x3 x4 y1 y2 y3 y4 : Value} (h : Own H r e [x1, x2, x3, x4, y1, y2, y3, y4]) {n1 d1 n2 d2 : Int} (h1 : QL H (.agg ⟨[x1, x2, x3, x4]⟩) n1 d1) (h2 : QL H (.agg ⟨[y1, y2, y3, y4]⟩) n2 d2) : SlE qE H (.slice (some ⟨r, 0, none⟩) 2 2) [(n1, d1), (n2, d2)] r 0 :=
  ⟨⟨_, _, rfl, fun _ => rfl⟩, fun i hi => by
    match i, hi with
    | 0, _ => exact ⟨[x1, x2, x3, x4], h.read (o := 0) (n := 4) (by show 0 + 4 ≤ 8; omega), h1⟩
    | 1, _ => exact ⟨[y1, y2, y3, y4], h.read (o := 4) (n := 4) (by show 4 + 4 ≤ 8; omega), h2⟩, fun _ => h.lt, by show 2 ≤ 9223372036854775807; omega⟩

variable {S : AM.Sys} (hS : Only S 8)
include hS

theorem rContest_bad (e a b : Int) (H : Heap) (hg : Grp H) (hL : H.low ≤ H.size) (ha : -9223372036854775808 ≤ a ∧ a ≤ 9223372036854775807) (hb : -9223372036854775808 ≤ b ∧ b ≤ 9223372036854775807) (hP : ¬ Q.Prob e [a, b]) :
    ∃ H', Keep H H' ∧ Runs Tryz.prog S (.fn 6) [.int .i64 e, .int .i64 a, .int .i64 b] H (.tuple #[.agg ⟨[.slice none 0 0, .int .i64 0]⟩, .int .i64 2]) H' := by
  suffices h : WCall Tryz.prog S (.fn 6) [.int .i64 e, .int .i64 a, .int .i64 b] H (fun u H' => u = .tuple #[.agg ⟨[.slice none 0 0, .int .i64 0]⟩, .int .i64 2] ∧ Keep H H') by
    obtain ⟨_, H', hr, rfl, h1⟩ := h; exact ⟨H', h1, hr⟩
  obtain ⟨Ha, e1, k1, s1, -, -⟩ := box1 H [.slice none 0 0, .int .i64 0] 24
  have ow : Own Ha H.size 24 [.slice none 0 0, .int .i64 0] := e1 ▸ Own.new H _ _
  obtain ⟨Hb, e2, k2, s2, -, -⟩ := box1 Ha [.int .i64 a, .int .i64 b] 3
  have ol : Own Hb Ha.size 3 [.int .i64 a, .int .i64 b] := e2 ▸ Own.new Ha _ _
  have hpb := (Q.Problem_runs hS e _ [a, b] Ha.size 0 Hb ((k1.trans k2).low hL) (sl2 ol ha hb)).bx
  rw [decide_eq_false hP] at hpb
  obtain ⟨Hc, ps, ow', z, rr, kk⟩ := stP (ow.keep k2) rfl none 0 0 0
  have k := kk H (k1.trans k2) (Nat.le_refl _)
  obtain ⟨o1, o2, o3⟩ := ownP ow'
  have hnot : una UnOp.not (Value.bool false) = some (.bool true) := rfl
  clear z rr kk hP
  refine call_of Tryz.func6 rfl (Nat.le_of_ble_eq_true rfl) (hS.no rfl _ _) ?_
  rw [Tryz.ntmps6, Tryz.results6]
  repeat' (first | (with_reducible refine sxGuardB_tsp (fun h => ?_) (fun h => ?_)) | (with_reducible refine sxGuardB_fsp (fun h => ?_) (fun h => ?_)) | (with_reducible refine sxIfB_sp (fun h => ?_) (fun h => ?_)) | simp only [↓sxC_skip, ↓sxC_draw, ↓sxC_region, ↓sxC_seq, ↓bxC_cond, ↓bxC_loop, ↓sxC_block, ↓sxC_exit, ↓sxC_goto, ↓sxC_ret, ↓sxOps_nil, ↓sxOps_cons, ↓sxDraw_nil, ↓bxDraw_cons, ↓sxD_same, ↓sxStep_none, ↓bxStep_some, ↓bxOp_move, ↓bxOp_assign, ↓bxOp_pick, ↓bxOp_alloc, ↓bxOp_box, ↓bxOp_build, ↓bxOp_buildSlice, ↓bxOp_load, ↓bxOp_store, ↓bxOp_nilCheck, ↓bxOp_bin, ↓bxOp_un, ↓bxOp_makeI, ↓bxOp_makeFunc, ↓bxOp_makeSlice, ↓bxOp_slice, ↓bxOp_fieldAddr, ↓bxOp_field, ↓bxOp_indexAddr, ↓bxOp_index, ↓bxOp_assert, ↓bxOp_extract, ↓bxOp_value, ↓bxOp_len, ↓bxOp_cap, ↓bxOp_append, ↓bxOp_copy, ↓bxOp_max, ↓bxOp_min, ↓bxOp_convert, ↓sxPut_none, ↓bxPut, ↓seqQ_normal, ↓seqQ_exit, ↓seqQ_ret, ↓seqQ_goto, ↓blockQ_normal, ↓blockQ_ret, ↓blockQ_goto, ↓blockQ_exit, ↓loopQ_normal, ↓loopQ_exit, ↓loopQ_ret, ↓loopQ_goto, ↓resQ_normal, ↓resQ_ret, ↓sxRes_nil, ↓sxRes_tmp, ↓bxRes_cell, ↓upd_apply, ↓ev_tmp, ↓ev_const, ↓ev_global, ↓ev_func, ↓dstAt, ↓gval_some, sxOptB_some, sxOptB_ite, mm_max, mm_min, binP_shl, binP_shr, binP_int, intBin, una_not_dec, una_nt, una_nf, una_neg, aPick_true, aPick_false, sxCallVB_fn, sxCallVB_yield, sxGuardB_u, sxGuardB_tt, sxGuardB_tf, sxGuardB_ft, sxGuardB_ff, sxIfB_t, sxIfB_f, packRes_one, packRes_two, List.map_cons, List.map_nil, List.nil_append, List.cons_append, List.append_nil, ↓reduceIte, Nat.reduceEqDiff, Nat.reduceLT, dec_T, dec_F, false_imp, true_and, and_true, true_implies, implies_true, false_and, and_false, true_or, or_true, false_or, or_false, and_self, or_self, read_relow, size_relow, low_relow, relow_relow, aLoad_relow, Nat.add_zero, Nat.mul_one, one1, Option.bind_some, ne_eq, Int.natCast_nonneg, Int.toNat_natCast, not_true_eq_false, not_false_eq_true, Option.map_some, Option.map_none, *, argF, List.getD_cons_zero, List.getD_cons_succ, alP, bs2, bdP0, ldP, hnot, Nat.zero_add] | (with_reducible refine sxD_bar (by kernel_rfl) ?_))

theorem rContest_good (e a b : Int) (H : Heap) (hg : Grp H) (hL : H.low ≤ H.size) (hP : Q.Prob e [a, b]) :
    ∃ H' v r o, Keep H H' ∧ Grp H' ∧ SlI .i64 H' v (halfN (twice e a b) (2 * e - twice e a b)) r o ∧ H.size ≤ r ∧ Runs Tryz.prog S (.fn 6) [.int .i64 e, .int .i64 a, .int .i64 b] H (.tuple #[.agg ⟨[v, .int .i64 (halfD (twice e a b))]⟩, .int .i64 0]) H' := by
  suffices h : WCall Tryz.prog S (.fn 6) [.int .i64 e, .int .i64 a, .int .i64 b] H (fun u H' => ∃ v r o, u = .tuple #[.agg ⟨[v, .int .i64 (halfD (twice e a b))]⟩, .int .i64 0] ∧ Keep H H' ∧ Grp H' ∧ SlI .i64 H' v (halfN (twice e a b) (2 * e - twice e a b)) r o ∧ H.size ≤ r) by
    obtain ⟨_, H', hr, v, r, o, rfl, h1, h2, h3, h4⟩ := h; exact ⟨H', v, r, o, h1, h2, h3, h4, hr⟩
  have hpe := hP.1
  have hpa : 0 ≤ a ∧ a ≤ 100000 := hP.2.2.1 a (by simp)
  have hpb : 0 ≤ b ∧ b ≤ 100000 := hP.2.2.1 b (by simp)
  have hps : e ≤ a + b := by have := hP.2.2.2; simp at this; omega
  obtain ⟨Ha, e1, k1, s1, -, -⟩ := box1 H [.slice none 0 0, .int .i64 0] 24
  have ow : Own Ha H.size 24 [.slice none 0 0, .int .i64 0] := e1 ▸ Own.new H _ _
  obtain ⟨Hb, e2, k2, s2, -, -⟩ := box1 Ha [.int .i64 a, .int .i64 b] 3
  have ol : Own Hb Ha.size 3 [.int .i64 a, .int .i64 b] := e2 ▸ Own.new Ha _ _
  have lB := (k1.trans k2).low hL
  have gB := (k1.trans k2).grp hg
  have hprob := (Q.Problem_runs hS e _ [a, b] Ha.size 0 Hb lB (sl2 ol (by omega) (by omega))).bx
  rw [decide_eq_true hP] at hprob
  obtain ⟨H1, x1, g1, gg1, q1, R1⟩ := Frac_all hS e 1 Hb gB lB (by omega) (by omega) (by omega) (by omega)
  have f1 := R1.bx
  obtain ⟨H2, x2, g2, gg2, q2, R2⟩ := Frac_all hS a 1 H1 gg1 (g1.low lB) (by omega) (by omega) (by omega) (by omega)
  have f2 := R2.bx
  obtain ⟨H3, x3, g3, gg3, q3, R3⟩ := Frac_all hS b 1 H2 gg2 ((g1.trans g2).low lB) (by omega) (by omega) (by omega) (by omega)
  have f3 := R3.bx
  obtain ⟨H4, va, vb, g4, gg4, qa, qb, R4⟩ := garment_runs hS x1 x2 x3 e a b 1 H3 gg3 (((g1.trans g2).trans g3).low lB) (q1.keep (g2.trans g3)) (q2.keep g3) q3 (by omega) (by omega) (by omega) (by omega) (by omega)
  have f4 := R4.bx
  obtain ⟨H5, e5, k5, s5, -, -⟩ := box1 H4 [.bool false, .slice none 0 0, .bool false, .slice none 0 0] 42
  obtain ⟨H6, e6, k6, s6, -, -⟩ := box1 H5 [.bool false, .slice none 0 0, .bool false, .slice none 0 0] 42
  have o8 : Own H6 H4.size 42 [.bool false, .slice none 0 0, .bool false, .slice none 0 0] := (e5 ▸ Own.new H4 _ _ : Own H5 H4.size 42 _).keep k6
  have o9 : Own H6 H5.size 42 [.bool false, .slice none 0 0, .bool false, .slice none 0 0] := e6 ▸ Own.new H5 _ _
  obtain ⟨H7, p7, z7, o8', pr7, rr7, kk7⟩ := storeQ o8 QShape.empty (qa.keep (k5.trans k6))
  have k47 := kk7 H4 (k5.trans k6) (Nat.le_refl _)
  have hne : H5.size ≠ H4.size := by omega
  obtain ⟨H8, p8, z8, o9', pr8, rr8, kk8⟩ := storeQ (rr7 _ _ _ hne o9) QShape.empty (pr7 _ _ _ (qb.keep (k5.trans k6)))
  have k48 := kk8 H4 k47 k5.size
  have qa8 := pr8 _ _ _ (pr7 _ _ _ (qa.keep (k5.trans k6)))
  have qb8 := pr8 _ _ _ (pr7 _ _ _ (qb.keep (k5.trans k6)))
  have la := own_ldQ (rr8 _ _ _ (Ne.symm hne) o8') qa8
  have lb := own_ldQ o9' qb8
  have hFa : e + max 0 (e - b) - max 0 (e - a) = twice e a b := rfl
  have hFb : e + max 0 (e - a) - max 0 (e - b) = 2 * e - twice e a b := by unfold twice; omega
  rw [hFa, Int.mul_one] at qa8
  rw [hFb, Int.mul_one] at qb8
  have hF : 0 ≤ twice e a b ∧ twice e a b ≤ 2 * e := by unfold twice; omega
  clear hFa hFb z7 z8 rr7 rr8 pr7 pr8 kk7 kk8
  generalize twice e a b = F at *
  obtain ⟨n1, d1, w1, c1⟩ := qa8.ql
  obtain ⟨n2, d2, w2, c2⟩ := qb8.ql
  have hh1 := half_of w1.2.1 w1.2.2 c1
  have hh2 := half_of w2.2.1 w2.2.2 c2
  obtain ⟨hv1, b1, a1, m1, cc1, b2, a2, m2, cc2, hcs1⟩ := qa8.shape
  obtain ⟨hv2, b3, a3, m3, cc3, b4, a4, m4, cc4, hcs2⟩ := qb8.shape
  rw [hcs1] at hv1
  rw [hcs2] at hv2
  subst hv1
  subst hv2
  have k08 := (((k1.trans k2).trans ((g1.trans g2).trans g3)).trans g4).trans k48
  obtain ⟨H9, e9, k9, s9, -, -⟩ := box1 H8 [.bool b1, .slice a1 m1 cc1, .bool b2, .slice a2 m2 cc2, .bool b3, .slice a3 m3 cc3, .bool b4, .slice a4 m4 cc4] 42
  have o9q : Own H9 H8.size 42 [.bool b1, .slice a1 m1 cc1, .bool b2, .slice a2 m2 cc2, .bool b3, .slice a3 m3 cc3, .bool b4, .slice a4 m4 cc4] := e9 ▸ Own.new H8 _ _
  have hsl := slQ2 o9q (w1.keep k9) (w2.keep k9)
  have hlc : lcmOf [(n1, d1), (n2, d2)] = (halfD F).toNat ∧ [(n1, d1), (n2, d2)].map (fun x => x.1 * (((lcmOf [(n1, d1), (n2, d2)] : Nat) : Int) / x.2)) = halfN F (2 * e - F) ∧ 0 ≤ halfD F := by
    unfold halfD halfN lcmOf
    rcases hh1 with ⟨y1, rfl, rfl⟩ | ⟨y1, rfl, rfl⟩
    · rcases hh2 with ⟨y2, rfl, rfl⟩ | ⟨y2, rfl, rfl⟩
      · rw [if_pos y1, if_pos y1]; exact ⟨(show Nat.lcm (Nat.lcm 1 1) 1 = 1 from rfl), by simp [List.foldl], by omega⟩
      · omega
    · rcases hh2 with ⟨y2, rfl, rfl⟩ | ⟨y2, rfl, rfl⟩
      · omega
      · rw [if_neg (by omega), if_neg (by omega)]
        have : Nat.lcm 2 2 = 2 := rfl
        exact ⟨(show Nat.lcm (Nat.lcm 1 2) 2 = 2 from rfl), by simp [List.foldl, this], by omega⟩
  have hn1 : 0 ≤ n1 ∧ n1 ≤ 200000 := by omega
  have hn2 : 0 ≤ n2 ∧ n2 ≤ 200000 := by omega
  have hD2 : (halfD F).toNat ≤ 2 := by unfold halfD; split <;> omega
  have hbd : ∀ n d : Int, 0 ≤ n ∧ n ≤ 200000 → 0 < d → n * (((lcmOf [(n1, d1), (n2, d2)] : Nat) : Int) / d) ≤ 1152921504606846976 := fun n d hn hd => by
    have h1 : (((lcmOf [(n1, d1), (n2, d2)] : Nat) : Int) / d) ≤ 2 := Int.le_trans (Int.ediv_le_self _ (by omega)) (by omega)
    have h2 : n * (((lcmOf [(n1, d1), (n2, d2)] : Nat) : Int) / d) ≤ n * 2 := Int.mul_le_mul_of_nonneg_left h1 hn.1
    omega
  obtain ⟨H10, v10, r10, o10, k10, g10, sl10, fr10, R10⟩ := Parts_runs hS _ [(n1, d1), (n2, d2)] H8.size 0 H9 ((k08.trans k9).grp hg) ((k08.trans k9).low hL) hsl (by show 2 ≤ 1000; omega)
    (fun x hx => by
      rcases List.mem_cons.1 hx with rfl | hx
      · exact ⟨hn1.1, w1.2.1⟩
      · rcases List.mem_cons.1 hx with rfl | hx
        · exact ⟨hn2.1, w2.2.1⟩
        · cases hx) (by omega)
    (fun x hx => by
      rcases List.mem_cons.1 hx with rfl | hx
      · exact hbd _ _ hn1 w1.2.1
      · rcases List.mem_cons.1 hx with rfl | hx
        · exact hbd _ _ hn2 w2.2.1
        · cases hx)
  have hD : ((lcmOf [(n1, d1), (n2, d2)] : Nat) : Int) = halfD F := by omega
  rw [hlc.2.1] at sl10
  rw [hD] at R10
  have f10 := R10.bx
  have fr10' : H9.size ≤ r10 := fr10 (by show 0 < 2; omega)
  have ka10 := (((((k2.trans ((g1.trans g2).trans g3)).trans g4).trans k48)).trans k9).trans k10
  obtain ⟨a5, cp5, hv5⟩ := sl10.v0
  have hl5 : (halfN F (2 * e - F)).length = 2 := by unfold halfN; split <;> rfl
  rw [hl5] at hv5
  subst hv5
  obtain ⟨H11, ps, ow', z, rr, kk⟩ := stP (ow.keep ka10) rfl a5 2 cp5 (halfD F)
  have k11 := kk H (k1.trans ka10) (Nat.le_refl _)
  have g11 := k11.grp hg
  have hsz := ka10.size
  have hsz9 : Ha.size ≤ H9.size := (((((k2.trans ((g1.trans g2).trans g3)).trans g4).trans k48)).trans k9).size
  have sl11 := SlE.other (ow.keep ka10) ps z sl10 (fun _ => by omega)
  obtain ⟨o1, o2, o3⟩ := ownP ow'
  have fr11 : H.size ≤ r10 := by omega
  have hnot : una UnOp.not (Value.bool true) = some (.bool false) := rfl
  refine call_of Tryz.func6 rfl (Nat.le_of_ble_eq_true rfl) (hS.no rfl _ _) ?_
  rw [Tryz.ntmps6, Tryz.results6]
  clear z rr kk hP hpe hpa hpb hps hbd hD hD2 hlc hh1 hh2 w1 w2 c1 c2 qa8 qb8 qa qb q1 q2 q3 R1 R2 R3 R4 R10 sl10 fr10 fr10' hsl o9q hl5 hcs1 hcs2 hn1 hn2 o8 o9 o8' o9' hF hsz hsz9
  repeat' (first | (with_reducible refine sxGuardB_tsp (fun h => ?_) (fun h => ?_)) | (with_reducible refine sxGuardB_fsp (fun h => ?_) (fun h => ?_)) | (with_reducible refine sxIfB_sp (fun h => ?_) (fun h => ?_)) | simp only [↓sxC_skip, ↓sxC_draw, ↓sxC_region, ↓sxC_seq, ↓bxC_cond, ↓bxC_loop, ↓sxC_block, ↓sxC_exit, ↓sxC_goto, ↓sxC_ret, ↓sxOps_nil, ↓sxOps_cons, ↓sxDraw_nil, ↓bxDraw_cons, ↓sxD_same, ↓sxStep_none, ↓bxStep_some, ↓bxOp_move, ↓bxOp_assign, ↓bxOp_pick, ↓bxOp_alloc, ↓bxOp_box, ↓bxOp_build, ↓bxOp_buildSlice, ↓bxOp_load, ↓bxOp_store, ↓bxOp_nilCheck, ↓bxOp_bin, ↓bxOp_un, ↓bxOp_makeI, ↓bxOp_makeFunc, ↓bxOp_makeSlice, ↓bxOp_slice, ↓bxOp_fieldAddr, ↓bxOp_field, ↓bxOp_indexAddr, ↓bxOp_index, ↓bxOp_assert, ↓bxOp_extract, ↓bxOp_value, ↓bxOp_len, ↓bxOp_cap, ↓bxOp_append, ↓bxOp_copy, ↓bxOp_max, ↓bxOp_min, ↓bxOp_convert, ↓sxPut_none, ↓bxPut, ↓seqQ_normal, ↓seqQ_exit, ↓seqQ_ret, ↓seqQ_goto, ↓blockQ_normal, ↓blockQ_ret, ↓blockQ_goto, ↓blockQ_exit, ↓loopQ_normal, ↓loopQ_exit, ↓loopQ_ret, ↓loopQ_goto, ↓resQ_normal, ↓resQ_ret, ↓sxRes_nil, ↓sxRes_tmp, ↓bxRes_cell, ↓upd_apply, ↓ev_tmp, ↓ev_const, ↓ev_global, ↓ev_func, ↓dstAt, ↓gval_some, sxOptB_some, sxOptB_ite, mm_max, mm_min, binP_shl, binP_shr, binP_int, intBin, una_not_dec, una_nt, una_nf, una_neg, aPick_true, aPick_false, sxCallVB_fn, sxCallVB_yield, sxGuardB_u, sxGuardB_tt, sxGuardB_tf, sxGuardB_ft, sxGuardB_ff, sxIfB_t, sxIfB_f, packRes_one, packRes_two, List.map_cons, List.map_nil, List.nil_append, List.cons_append, List.append_nil, ↓reduceIte, Nat.reduceEqDiff, Nat.reduceLT, dec_T, dec_F, false_imp, true_and, and_true, true_implies, implies_true, false_and, and_false, true_or, or_true, false_or, or_false, and_self, or_self, read_relow, size_relow, low_relow, relow_relow, aLoad_relow, Nat.add_zero, Nat.mul_one, one1, Option.bind_some, ne_eq, Int.natCast_nonneg, Int.toNat_natCast, not_true_eq_false, not_false_eq_true, Option.map_some, Option.map_none, *, argF, List.getD_cons_zero, List.getD_cons_succ, alP, bs2, bdP0, ldP, hnot, Nat.zero_add, ex20, ex21, alQ, bsQ2] | (with_reducible refine sxD_bar (by kernel_rfl) ?_))
  exact ⟨_, _, _, rfl, sl11, fr11⟩
end Go.Proofs.YtmcomjgebcemdaaGreat
