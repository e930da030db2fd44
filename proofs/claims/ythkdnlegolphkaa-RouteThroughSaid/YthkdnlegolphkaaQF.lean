/- The law RouteThrough on the canonical machine. -/
import Derived.Test.YthkdnlegolphkaaQE
set_option linter.unusedVariables false
set_option linter.unusedSimpArgs false
set_option linter.unusedSectionVars false

namespace Go.Proofs.Ythkdnlegolphkaa
open Go Go.AM
set_option maxRecDepth 10000

theorem neS (a b c d : Int) : binP Try.prog .neq 40 (.agg ⟨[.int .i64 a, .int .i64 b]⟩) (.agg ⟨[.int .i64 c, .int .i64 d]⟩) = some (.bool (decide (¬ [a, b] = [c, d]))) := by
  have h := (binP_eqlS (P := Try.prog) (t := 40) (ty := 3) (k := .i64) Try.underlying40 (by kernel_rfl) (by kernel_rfl) Try.underlying3 (by kernel_rfl) [a, b] [c, d] rfl rfl (fun i hi => by
    match i, hi with
    | 0, _ => exact ⟨rfl, rfl, show ("Dep" : String) ≠ "_" by decide⟩
    | 1, _ => exact ⟨rfl, rfl, show ("Arr" : String) ≠ "_" by decide⟩)).2
  exact h

variable {S : AM.Sys} (hS : Only S 10)
include hS

theorem stopsEq_runs (w : List Pt) (v v2 : Value) (r o r2 o2 : Nat) (H : Heap) (hL : H.low ≤ H.size) (h1 : SlP H v w r o) (h2 : SlP H v2 w r2 o2) : Runs Try.prog S (.fn 17) [v, v2] H (.bool true) H := by
  suffices h : WCall Try.prog S (.fn 17) [v, v2] H (fun u H' => u = .bool true ∧ H' = H) by
    obtain ⟨_, _, hr, rfl, rfl⟩ := h; exact hr
  obtain ⟨a, c, rfl⟩ := h1.v0
  obtain ⟨a2, c2, rfl⟩ := h2.v0
  have d0 : decide (¬ ((w.length : Nat) : Int) = ((w.length : Nat) : Int)) = false := decide_eq_false fun h => h rfl
  refine Zaaz Try.func17 rfl (Nat.le_of_ble_eq_true rfl) (hS.no rfl _ _) ?_
  rw [Try.ntmps17, Try.results17]
  repeat' (first | simp only [↓Zaby, ↓Zabv, ↓Zabx, ↓Zaai, ↓Zaaj, ↓Zabs, ↓Zabw, ↓Zacs, ↓Zacr, ↓Zacx, ↓Zaat, ↓Zaam, ↓Zaan, ↓bxOp_len, ↓bxPut, ↓Zabq, ↓Zabr, ↓Zabo, ↓Zacv, ↓Zacw, ↓Zacy, ↓Zabe, ↓Zabc, Zact, Zaae, Zabg, Zacp, Zabk, ↓reduceIte, Nat.reduceEqDiff, Nat.reduceLT, dec_F, not_true_eq_false, *, argF, List.getD_cons_zero, List.getD_cons_succ, lenS])
  refine sxL_of (fun m ρ H1 => ∃ k : Nat, m = w.length - k ∧ k ≤ w.length ∧ H1 = H ∧ ρ 0 = .slice a w.length c ∧ ρ 1 = .slice a2 w.length c2 ∧ ρ 5 = .int .i64 (k : Int))
    ⟨0, rfl, Nat.zero_le _, rfl, rfl, rfl, rfl⟩ ?_
  rintro m ρ H1 ⟨k, rfl, hk, rfl, e0, e1, e5⟩
  by_cases hlt : k < w.length
  · have hlt' : (k : Int) < (w.length : Int) := by omega
    have hw := wrap_succ hlt h1.ml
    have hob := SlP_at h1 hlt
    obtain ⟨q, hix, hrd, _⟩ := hob
    have hob2 := SlP_at h2 hlt
    obtain ⟨q2, hix2, hrd2, _⟩ := hob2
    have hgx : ∃ x, x = w.getD k default := ⟨_, rfl⟩
    obtain ⟨x, hx⟩ := hgx
    rw [← hx] at hrd hrd2
    unfold pc at hrd hrd2
    have hne : binP Try.prog .neq 40 (.agg ⟨[.int .i64 x.1, .int .i64 x.2]⟩) (.agg ⟨[.int .i64 x.1, .int .i64 x.2]⟩) = some (.bool false) := by rw [neS, decide_eq_false fun h => h rfl]
    clear h1 h2 hx d0
    repeat' (first | simp only [↓Zaby, ↓Zabt, ↓Zabv, ↓Zabx, ↓Zaai, ↓Zabs, ↓Zabu, ↓Zabw, ↓Zacs, ↓Zacr, ↓Zacm, ↓Zaak, ↓Zach, ↓Zacg, ↓Zacc, ↓Zacf, ↓Zacl, ↓Zacx, ↓Zaat, ↓Zaam, ↓Zaas, ↓Zaan, ↓Zaar, ↓bxOp_len, ↓bxPut, ↓Zabq, ↓Zabp, ↓Zabr, ↓Zaag, ↓Zaah, ↓Zaaf, ↓Zabi, ↓Zabh, ↓Zabj, ↓Zabo, ↓Zacv, ↓Zacw, ↓Zacy, ↓Zabe, ↓Zabc, Zact, Zaae, Zabg, Zacq, Zacp, Zabk, ↓reduceIte, Nat.reduceEqDiff, Nat.reduceLT, dec_T, true_and, Zaab, Option.map_some, *, lenS, ldS] | (with_reducible first | refine Zacb (by assumption) (by decide +kernel) ?_ | refine Zaca (by decide +kernel) ?_ | refine Zack (by decide +kernel) ?_ | refine Zacd ?_))
    exact ⟨w.length - (k + 1), by omega, k + 1, rfl, by omega, rfl⟩
  · have hke : k = w.length := by omega
    subst hke
    have hlt' : ¬ (((w.length : Nat) : Int) < ((w.length : Nat) : Int)) := by omega
    clear h1 h2 d0
    repeat' (first | simp only [↓Zaby, ↓Zabt, ↓Zabv, ↓Zabx, ↓Zaai, ↓Zabs, ↓Zabu, ↓Zabw, ↓Zacs, ↓Zacr, ↓Zacm, ↓Zaak, ↓Zach, ↓Zacg, ↓Zacc, ↓Zacf, ↓Zacx, ↓Zaat, ↓Zaam, ↓Zaas, ↓Zaan, ↓Zaar, ↓bxOp_len, ↓bxPut, ↓Zabq, ↓Zabp, ↓Zabr, ↓Zaag, ↓Zaah, ↓Zaaf, ↓Zabi, ↓Zabh, ↓Zabj, ↓Zabo, ↓Zacv, ↓Zacw, ↓Zacy, ↓Zabe, ↓Zabc, Zact, Zaae, Zabg, Zacp, Zabk, ↓reduceIte, Nat.reduceEqDiff, Nat.reduceLT, dec_F, and_self, *, lenS] | (with_reducible first | refine Zacb (by assumption) (by decide +kernel) ?_ | refine Zaca (by decide +kernel) ?_ | refine Zack (by decide +kernel) ?_ | refine Zacd ?_))

set_option maxHeartbeats 16000000 in
theorem lawThr_runs (n : Int) (ls : List Lg) (lv : Value) (r o : Nat) (ch a b c at' : Int) (H : Heap) (hL : H.low ≤ H.size) (hg : Grp H) (hl : SlG H lv ls r o) (hat : R64 at')
    (hO : ∀ H', S.O 10 [] H') : ∃ H', Runs Try.prog S (.fn 5) [.int .i64 n, lv, .int .i64 ch, .int .i64 a, .int .i64 b, .int .i64 c, .int .i64 at'] H (.bool true) H' := by
  suffices h : WCall Try.prog S (.fn 5) [.int .i64 n, lv, .int .i64 ch, .int .i64 a, .int .i64 b, .int .i64 c, .int .i64 at'] H (fun v H' => v = .bool true) by
    obtain ⟨_, H', hr, rfl⟩ := h; exact ⟨H', hr⟩
  have hk1 : ∀ (H' : Heap) (K : Value → Heap → Prop) (b : Blk K), sxCallB Try.prog S (.fn 10) [] H' K b = K (.bool true) H' := fun H' K b => known_bx (hO H')
  have hlv := hl.v0
  obtain ⟨la, lc', rfl⟩ := hlv
  clear hO
  have f0 := (few_runs hS la ls.length lc' H).bx
  by_cases h80 : (ls.length : Int) ≤ 80
  case neg =>
    rw [decide_eq_false h80] at f0
    clear hl h80
    refine Zaaz Try.func5 rfl (Nat.le_of_ble_eq_true rfl) (hS.no rfl _ _) ?_
    rw [Try.ntmps5, Try.results5]
    repeat' (first | simp only [↓Zaby, ↓Zabv, ↓Zabx, ↓Zaai, ↓Zabw, ↓Zacs, ↓Zacr, ↓Zacx, ↓Zaay, ↓Zaat, ↓Zaam, ↓Zaau, ↓Zaan, ↓Zaaw, ↓Zaap, ↓Zaax, ↓bxPut, ↓Zabq, ↓Zabr, ↓Zabo, ↓Zacv, ↓Zacw, ↓Zacy, ↓Zabe, ↓Zabc, ↓Zabd, ↓dstAt, ↓Zabf, Zact, una_nf, Zaad, Zabz, sxGuardB_ft, Zacq, Zabk, List.map_cons, List.map_nil, List.nil_append, List.append_nil, ↓reduceIte, Nat.reduceEqDiff, Nat.reduceLT, *, argF, List.getD_cons_zero, List.getD_cons_succ])
  rw [decide_eq_true h80] at f0
  by_cases hab : a = b
  · have d1 : decide (a = b) = true := decide_eq_true hab
    clear hl h80 hab
    refine Zaaz Try.func5 rfl (Nat.le_of_ble_eq_true rfl) (hS.no rfl _ _) ?_
    rw [Try.ntmps5, Try.results5]
    repeat' (first | simp only [↓Zaby, ↓Zabv, ↓Zabx, ↓Zaai, ↓Zabw, ↓Zacs, ↓Zacr, ↓Zacx, ↓Zaay, ↓Zaat, ↓Zaam, ↓Zaau, ↓Zaan, ↓Zaaw, ↓Zaap, ↓Zaax, ↓bxPut, ↓Zabq, ↓Zabr, ↓Zabo, ↓Zacv, ↓Zacw, ↓Zacy, ↓Zabe, ↓Zabc, ↓Zabd, ↓dstAt, ↓Zabf, Zact, Zaae, Zabg, una_nt, Zaad, Zaac, Zabz, sxGuardB_ft, sxGuardB_ff, Zacq, Zabk, List.map_cons, List.map_nil, List.nil_append, List.append_nil, ↓reduceIte, Nat.reduceEqDiff, Nat.reduceLT, *, argF, List.getD_cons_zero, List.getD_cons_succ])
  by_cases hbc : b = c
  · have d1 : decide (a = b) = false := decide_eq_false hab
    have d2 : decide (b = c) = true := decide_eq_true hbc
    clear hl h80 hab hbc
    refine Zaaz Try.func5 rfl (Nat.le_of_ble_eq_true rfl) (hS.no rfl _ _) ?_
    rw [Try.ntmps5, Try.results5]
    repeat' (first | simp only [↓Zaby, ↓Zabv, ↓Zabx, ↓Zaai, ↓Zabw, ↓Zacs, ↓Zacr, ↓Zacx, ↓Zaay, ↓Zaat, ↓Zaam, ↓Zaau, ↓Zaan, ↓Zaaw, ↓Zaap, ↓Zaax, ↓bxPut, ↓Zabq, ↓Zabr, ↓Zabo, ↓Zacv, ↓Zacw, ↓Zacy, ↓Zabe, ↓Zabc, ↓Zabd, ↓dstAt, ↓Zabf, Zact, Zaae, Zabg, una_nt, Zaad, Zaac, Zabz, sxGuardB_ft, sxGuardB_ff, Zacq, Zabk, List.map_cons, List.map_nil, List.nil_append, List.append_nil, ↓reduceIte, Nat.reduceEqDiff, Nat.reduceLT, *, argF, List.getD_cons_zero, List.getD_cons_succ])
  by_cases hac : a = c
  · have d1 : decide (a = b) = false := decide_eq_false hab
    have d2 : decide (b = c) = false := decide_eq_false hbc
    have d3 : decide (a = c) = true := decide_eq_true hac
    clear hl h80 hab hbc hac
    refine Zaaz Try.func5 rfl (Nat.le_of_ble_eq_true rfl) (hS.no rfl _ _) ?_
    rw [Try.ntmps5, Try.results5]
    repeat' (first | simp only [↓Zaby, ↓Zabv, ↓Zabx, ↓Zaai, ↓Zabw, ↓Zacs, ↓Zacr, ↓Zacx, ↓Zaay, ↓Zaat, ↓Zaam, ↓Zaau, ↓Zaan, ↓Zaaw, ↓Zaap, ↓Zaax, ↓bxPut, ↓Zabq, ↓Zabr, ↓Zabo, ↓Zacv, ↓Zacw, ↓Zacy, ↓Zabe, ↓Zabc, ↓Zabd, ↓dstAt, ↓Zabf, Zact, Zaae, Zabg, una_nt, Zaac, Zabz, sxGuardB_ff, Zacq, Zabk, List.map_cons, List.map_nil, List.nil_append, List.append_nil, ↓reduceIte, Nat.reduceEqDiff, Nat.reduceLT, *, argF, List.getD_cons_zero, List.getD_cons_succ])
  have d1 : decide (a = b) = false := decide_eq_false hab
  have d2 : decide (b = c) = false := decide_eq_false hbc
  have d3 : decide (a = c) = false := decide_eq_false hac
  have ex0 : ∀ x y : Value, aExtract (.tuple ⟨[x, y]⟩) 0 = some x := fun x y => by kernel_rfl
  have ex1 : ∀ x y : Value, aExtract (.tuple ⟨[x, y]⟩) 1 = some y := fun x y => by kernel_rfl
  have ey0 : ∀ x y z : Value, aExtract (.tuple ⟨[x, y, z]⟩) 0 = some x := fun x y z => by kernel_rfl
  have ey1 : ∀ x y z : Value, aExtract (.tuple ⟨[x, y, z]⟩) 1 = some y := fun x y z => by kernel_rfl
  have ey2 : ∀ x y z : Value, aExtract (.tuple ⟨[x, y, z]⟩) 2 = some z := fun x y z => by kernel_rfl
  have z0 : decide ((0 : Int) = 0) = true := rfl
  have z1 : decide (¬ (0 : Int) = 0) = false := rfl
  have hob := Prof_runs hS n ls _ r o ch a b H hL hg hl
  obtain ⟨u1, H1, hR1, vA, A, rfl, inA, lenA, _, bestA⟩ := hob
  have hK1 := inA.2.2.2.1
  have hob := Prof_runs hS n ls _ r o ch b c H1 (hK1.low hL) (hK1.grp hg) (hl.keep hK1)
  obtain ⟨u2, H2, hR2, vB, B, rfl, inB, lenB, _, bestB⟩ := hob
  have hK12 := inB.2.2.2.1
  have hK2 := hK1.trans hK12
  have g1 := hR1.bx
  have g2 := hR2.bx
  have hge : ∃ e, e = errC n ls ch a b [] := ⟨_, rfl⟩
  obtain ⟨e1, he1⟩ := hge
  have hgf : ∃ e, e = errC n ls ch b c [] := ⟨_, rfl⟩
  obtain ⟨e2, he2⟩ := hgf
  rw [← he1] at g1 bestA
  rw [← he2] at g2 bestB
  by_cases hz1 : e1 = 0
  case neg =>
    have m1 : decide (¬ e1 = 0) = true := decide_eq_true hz1
    clear hl h80 hab hbc hac inA inB bestA bestB hR1 hR2 hK1 hK12 hK2 he1 he2 lenA lenB hz1
    refine Zaaz Try.func5 rfl (Nat.le_of_ble_eq_true rfl) (hS.no rfl _ _) ?_
    rw [Try.ntmps5, Try.results5]
    repeat' (first | simp only [↓Zaby, ↓Zabv, ↓Zabx, ↓Zaai, ↓Zabw, ↓Zacs, ↓Zacr, ↓Zacx, ↓Zaay, ↓Zaat, ↓Zaam, ↓Zaau, ↓Zaan, ↓Zaaw, ↓Zaap, ↓Zaax, ↓bxPut, ↓Zabq, ↓Zabr, ↓Zabo, ↓Zacv, ↓Zacw, ↓Zacy, ↓Zabe, ↓Zabc, ↓Zabd, ↓dstAt, ↓Zabf, Zact, Zaae, Zabg, una_nt, Zaad, Zaac, Zabz, sxGuardB_ft, sxGuardB_ff, Zacq, Zacp, Zabk, List.map_cons, List.map_nil, List.nil_append, List.append_nil, ↓reduceIte, Nat.reduceEqDiff, Nat.reduceLT, *, argF, List.getD_cons_zero, List.getD_cons_succ])
  subst hz1
  by_cases hz2 : e2 = 0
  case neg =>
    have m1 : decide (¬ e2 = 0) = true := decide_eq_true hz2
    clear hl h80 hab hbc hac inA inB bestA bestB hR1 hR2 hK1 hK12 hK2 he1 he2 lenA lenB hz2
    refine Zaaz Try.func5 rfl (Nat.le_of_ble_eq_true rfl) (hS.no rfl _ _) ?_
    rw [Try.ntmps5, Try.results5]
    repeat' (first | simp only [↓Zaby, ↓Zabv, ↓Zabx, ↓Zaai, ↓Zabw, ↓Zacs, ↓Zacr, ↓Zacx, ↓Zaay, ↓Zaat, ↓Zaam, ↓Zaau, ↓Zaan, ↓Zaaw, ↓Zaap, ↓Zaax, ↓bxPut, ↓Zabq, ↓Zabr, ↓Zabo, ↓Zacv, ↓Zacw, ↓Zacy, ↓Zabe, ↓Zabc, ↓Zabd, ↓dstAt, ↓Zabf, Zact, Zaae, Zabg, una_nt, Zaac, Zabz, sxGuardB_ff, Zacq, Zacp, Zabk, List.map_cons, List.map_nil, List.nil_append, List.append_nil, ↓reduceIte, Nat.reduceEqDiff, Nat.reduceLT, dec_F, not_true_eq_false, *, argF, List.getD_cons_zero, List.getD_cons_succ])
  subst hz2
  have bestA := bestA rfl hab
  have bestB := bestB rfl hbc
  have hz0 := errC_zero he1.symm
  obtain ⟨q1, q2, q3, _⟩ := hz0
  have hlk := LOk.of q2 q3
  have h3 := errC_three he1.symm he2.symm
  obtain ⟨hca, hac0⟩ := h3
  have okA := prof_ok hlk bestA lenA
  have okB := prof_ok hlk bestB lenB
  have hL2 := hK2.low hL
  have hg2 := hK2.grp hg
  have hob := inA.sl
  obtain ⟨rA, sA, _⟩ := hob
  have sA : SlP H1 vA A rA 0 := sA
  have hob := inB.sl
  obtain ⟨rB, sB, _⟩ := hob
  have sB : SlP H2 vB B rB 0 := sB
  have sA2 := sA.keep hK12
  have hob := Then_runs hS A B vA vB rA 0 rB 0 ch H2 hL2 hg2 sA2 sB
  obtain ⟨u3, H3, hR3, vT, eT, T, rfl, inT, lenT, _, bestT⟩ := hob
  have bT := bestT ⟨okA, okB, q3⟩
  clear bestT
  obtain ⟨rfl, bestT⟩ := bT
  have hK23 := inT.2.2.2.1
  have hK3 := hK2.trans hK23
  have hL3 := hK3.low hL
  have hob := inT.sl
  obtain ⟨rT, sT, _⟩ := hob
  have sT : SlP H3 vT T rT 0 := sT
  have okT := then_ok hlk bestA bestB bestT (by omega)
  have hob := Look_runs hS T vT rT 0 at' H3 hL3 sT
  obtain ⟨x4, f4, H4, hK34, hq4, hR4⟩ := hob
  have hK4 := hK3.trans hK34
  have hL4 := hK4.low hL
  have hg4 := hK4.grp hg
  have hob := Earl_runs hS n ls _ r o ch a c at' hat H4 hL4 hg4 (hl.keep hK4)
  obtain ⟨u5, H5, hR5, y5, e5, j5, js5, rfl, hK45, _, _, _, _, p3⟩ := hob
  have hK5 := hK4.trans hK45
  have c1 : ¬ f4 = 0 ∨ (f4 = 0 ∧ ¬ at' ≤ 10000) ∨ (f4 = 0 ∧ at' ≤ 10000 ∧ e5 = 0 ∧ ¬ x4 < y5) := by
    by_cases k1 : f4 = 0
    case neg => exact .inl k1
    by_cases k2 : at' ≤ 10000
    case neg => exact .inr (.inl ⟨k1, k2⟩)
    have hgd : ProfOk T ∧ 0 ≤ at' ∧ at' ≤ 20000 := Classical.byContradiction fun h => by have := (hq4.1 h).2; omega
    have h1 := errC_one (n := n) (ls := ls) (ch := ch) (fr := a) (to := c) at' hac0
    rw [if_pos ⟨hgd.2.1, k2⟩] at h1
    have h2 := thr_earl hlk bestA bestB bestT (by rw [k1] at hq4; exact hq4) (p3 h1 hac)
    exact .inr (.inr ⟨k1, k2, h2.1, by omega⟩)
  have hob := Prof_runs hS n ls _ r o ch c a H5 (hK5.low hL) (hK5.grp hg) (hl.keep hK5)
  obtain ⟨u6, H6, hR6, vC, C, rfl, inC, lenC, _, bestC⟩ := hob
  have bestC := bestC hca (Ne.symm hac)
  have g6 := hR6.bx
  rw [hca] at g6
  have okC := prof_ok hlk bestC lenC
  have hK56 := inC.2.2.2.1
  have hK6 := hK5.trans hK56
  have hob := inC.sl
  obtain ⟨rC, sC, _⟩ := hob
  have sC : SlP H6 vC C rC 0 := sC
  have k36 := hK34.trans (hK45.trans hK56)
  have k26 := hK23.trans k36
  have hob := Then_runs hS B C vB vC rB 0 rC 0 ch H6 (hK6.low hL) (hK6.grp hg) (sB.keep k26) sC
  obtain ⟨u7, H7, hR7, vU, eU, U, rfl, inU, lenU, _, bestU⟩ := hob
  have bU := bestU ⟨okB, okC, q3⟩
  clear bestU
  obtain ⟨rfl, bestU⟩ := bU
  have hK67 := inU.2.2.2.1
  have hK7 := hK6.trans hK67
  have hob := inU.sl
  obtain ⟨rU, sU, _⟩ := hob
  have sU : SlP H7 vU U rU 0 := sU
  have okU := then_ok hlk bestB bestC bestU (by omega)
  have hob := Then_runs hS T C vT vC rT 0 rC 0 ch H7 (hK7.low hL) (hK7.grp hg) (sT.keep (k36.trans hK67)) (sC.keep hK67)
  obtain ⟨u8, H8, hR8, vV, eV, V, rfl, inV, lenV, _, bestV⟩ := hob
  have bV := bestV ⟨okT, okC, q3⟩
  clear bestV
  obtain ⟨rfl, bestV⟩ := bV
  have hK78 := inV.2.2.2.1
  have hK8 := hK7.trans hK78
  have hob := inV.sl
  obtain ⟨rV, sV, _⟩ := hob
  have sV : SlP H8 vV V rV 0 := sV
  have hob := Then_runs hS A U vA vU rA 0 rU 0 ch H8 (hK8.low hL) (hK8.grp hg) (sA2.keep (k26.trans (hK67.trans hK78))) (sU.keep hK78)
  obtain ⟨u9, H9, hR9, vW, eW, W, rfl, inW, lenW, _, bestW⟩ := hob
  have bW := bestW ⟨okA, okU, q3⟩
  clear bestW
  obtain ⟨rfl, bestW⟩ := bW
  have hK89 := inW.2.2.2.1
  have hob := inW.sl
  obtain ⟨rW, sW, _⟩ := hob
  have sW : SlP H9 vW W rW 0 := sW
  have hVW := then_assoc bestB.asc bestC.asc bestT bestU bestV bestW
  subst hVW
  have hR10 := stopsEq_runs hS V vV vW rV 0 rW 0 H9 ((hK8.trans hK89).low hL) (sV.keep hK89) sW
  have g3 := hR3.bx
  have g4 := hR4.bx
  have g5 := hR5.bx
  have g7 := hR7.bx
  have g8 := hR8.bx
  have g9 := hR9.bx
  have g10 := hR10.bx
  clear hl h80 hab hbc hac inA inB inC inT inU inV inW bestA bestB bestC bestT bestU bestV bestW hR1 hR2 hR3 hR4 hR5 hR6 hR7 hR8 hR9 hR10 hK1 hK12 hK2 hK23 hK3 hK34 hK4 hK45 hK5 hK56 hK6 hK67 hK7 hK78 hK8 hK89 k36 k26 he1 he2 lenA lenB lenC lenT lenU lenV lenW sA sA2 sB sT sC sU sV sW okA okB okC okT okU q1 q2 q3 hlk hca hac0 p3 hq4
  rcases c1 with k1 | ⟨k1, k2⟩ | ⟨k1, k2, k3, k4⟩
  · have z5 : decide (f4 = 0) = false := decide_eq_false k1
    clear k1
    refine Zaaz Try.func5 rfl (Nat.le_of_ble_eq_true rfl) (hS.no rfl _ _) ?_
    rw [Try.ntmps5, Try.results5]
    repeat' (first | simp only [↓Zaby, ↓Zabv, ↓Zabx, ↓Zaai, ↓Zabw, ↓Zacs, ↓Zacr, ↓Zacx, ↓Zaay, ↓Zaat, ↓Zaam, ↓Zaau, ↓Zaan, ↓Zaaw, ↓Zaap, ↓Zaax, ↓bxPut, ↓Zabq, ↓Zabr, ↓Zabo, ↓Zacv, ↓Zacw, ↓Zacy, ↓Zabe, ↓Zabc, ↓Zabd, ↓dstAt, ↓Zabf, Zact, Zaae, Zabg, una_nt, Zaad, Zaac, Zabz, sxGuardB_u, Zaco, Zacn, sxGuardB_ff, Zacp, Zabk, List.map_cons, List.map_nil, List.nil_append, List.append_nil, ↓reduceIte, Nat.reduceEqDiff, Nat.reduceLT, dec_T, dec_F, not_true_eq_false, *, argF, List.getD_cons_zero, List.getD_cons_succ])
  · subst k1
    refine Zaaz Try.func5 rfl (Nat.le_of_ble_eq_true rfl) (hS.no rfl _ _) ?_
    rw [Try.ntmps5, Try.results5]
    repeat' (first | simp only [↓Zaby, ↓Zabv, ↓Zabx, ↓Zaai, ↓Zabw, ↓Zacs, ↓Zacr, ↓Zacx, ↓Zaay, ↓Zaat, ↓Zaam, ↓Zaau, ↓Zaan, ↓Zaaw, ↓Zaap, ↓Zaax, ↓bxPut, ↓Zabq, ↓Zabr, ↓Zabo, ↓Zacv, ↓Zacw, ↓Zacy, ↓Zabe, ↓Zabc, ↓Zabd, ↓dstAt, ↓Zabf, Zact, Zaae, Zabg, una_nt, Zaad, Zaac, Zabz, sxGuardB_u, Zaco, Zacn, sxGuardB_ff, Zacp, Zabk, List.map_cons, List.map_nil, List.nil_append, List.append_nil, ↓reduceIte, Nat.reduceEqDiff, Nat.reduceLT, dec_T, dec_F, not_true_eq_false, *, argF, List.getD_cons_zero, List.getD_cons_succ])
  · subst k1
    subst k3
    refine Zaaz Try.func5 rfl (Nat.le_of_ble_eq_true rfl) (hS.no rfl _ _) ?_
    rw [Try.ntmps5, Try.results5]
    repeat' (first | simp only [↓Zaby, ↓Zabv, ↓Zabx, ↓Zaai, ↓Zabw, ↓Zacs, ↓Zacr, ↓Zacx, ↓Zaay, ↓Zaat, ↓Zaam, ↓Zaau, ↓Zaan, ↓Zaaw, ↓Zaap, ↓Zaax, ↓bxPut, ↓Zabq, ↓Zabr, ↓Zabo, ↓Zacv, ↓Zacw, ↓Zacy, ↓Zabe, ↓Zabc, ↓Zabd, ↓dstAt, ↓Zabf, Zact, Zaae, Zabg, una_nt, Zaad, Zaac, Zabz, Zaco, sxGuardB_ff, Zacp, Zabk, List.map_cons, List.map_nil, List.nil_append, List.append_nil, ↓reduceIte, Nat.reduceEqDiff, Nat.reduceLT, dec_T, dec_F, not_true_eq_false, *, argF, List.getD_cons_zero, List.getD_cons_succ])
end Go.Proofs.Ythkdnlegolphkaa
