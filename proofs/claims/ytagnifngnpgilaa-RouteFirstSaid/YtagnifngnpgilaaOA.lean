/- The law RouteFirst on the canonical machine. -/
import Derived.Test.YtagnifngnpgilaaL7
import Derived.Test.YtagnifngnpgilaaOE
set_option linter.unusedVariables false
set_option linter.unusedSimpArgs false
set_option linter.unusedSectionVars false

namespace Go.Proofs.Ytagnifngnpgilaa
set_option linter.unusedSectionVars false
open Go Go.AM
set_option maxRecDepth 10000
set_option linter.unusedSimpArgs false
set_option linter.unusedVariables false

variable {ls : List Lg} {ch fr to : Int} {Q : List Pt}
/-- Look of the profile is Earliest. -/
theorem look_earl (hk : LOk ls ch) (hb : BestOf (JP ls ch fr to) Q) (hl : Q.length ≤ 60) {at' x h a f : Int} {js : List Nat} (hat : 0 ≤ at' ∧ at' ≤ 10000) (hq : LookQ Q at' x h) (he : EarlJ ls ch fr to at' a f js) : x = a ∧ h = f := by
  obtain ⟨k, h1, h2, h3⟩ := hq.2 ⟨prof_ok hk hb hl, hat.1, by omega⟩
  by_cases hn : k < Q.length
  · obtain ⟨h4, h5⟩ := h2 hn
    obtain ⟨⟨i, r, e1, e2, e3⟩, hm⟩ := early_yes hk hb h1 hn
    rcases he with ⟨_, _, _, hno⟩ | ⟨rfl, i2, r2, _, hs, ha, hm2⟩
    · exact absurd e3.1 (hno i r e1 e2)
    · have h6 := hm i2 r2 hs.is hs.beg hs.fin.1
      have h7 := hm2 i r e1 e2 e3.1
      have := e3.2
      omega
  · obtain ⟨h4, h5⟩ := h3 hn
    have hno := early_no hk hb h1 hn
    rcases he with ⟨he, h6, _, _⟩ | ⟨_, i2, r2, _, hs, _, _⟩
    · omega
    · exact absurd hs.fin.1 (hno i2 r2 hs.is hs.beg)
theorem earl_mono {at' later a f b : Int} {js js' : List Nat} (h1 : EarlJ ls ch fr to at' a f js) (h2 : EarlJ ls ch fr to later b 0 js') (hle : at' ≤ later) : f = 0 ∧ a ≤ b := by
  rcases h2 with ⟨h, _⟩ | ⟨_, i, r, _, hs, ha, _⟩
  · exact absurd h (by decide)
  have hB : BegB fr at' (ls.getD i default) := ⟨hs.beg.1, by have := hs.beg.2; omega⟩
  rcases h1 with ⟨_, _, _, hno⟩ | ⟨h, _, _, _, _, _, hm⟩
  · exact absurd hs.fin.1 (hno i r hs.is hB)
  · exact ⟨h, by have := hm i r hs.is hB hs.fin.1; omega⟩
theorem PtsIn.len0 {H0 H : Heap} {v : Value} (h : PtsIn H0 H v ([] : List Pt).toArray) : v = .slice none 0 0 := by
  obtain ⟨_, _, _, _, ⟨_, h⟩ | ⟨h, _⟩⟩ := h
  · exact h
  · exact absurd h (Nat.lt_irrefl 0)

variable {S : AM.Sys} (hS : Only S 10)
include hS

set_option maxHeartbeats 8000000 in
/-- THE LAW, on the canonical machine. -/
theorem lawFirst_runs (n : Int) (ls : List Lg) (lv : Value) (r o : Nat) (ch fr to at' later : Int) (H : Heap) (hL : H.low ≤ H.size) (hg : Grp H) (hl : SlG H lv ls r o) (hat : R64 at') (hlat : R64 later)
    (hO : ∀ H', S.O 10 [] H') : ∃ H', Runs Try.prog S (.fn 4) [.int .i64 n, lv, .int .i64 ch, .int .i64 fr, .int .i64 to, .int .i64 at', .int .i64 later] H (.bool true) H' := by
  suffices h : WCall Try.prog S (.fn 4) [.int .i64 n, lv, .int .i64 ch, .int .i64 fr, .int .i64 to, .int .i64 at', .int .i64 later] H (fun v H' => v = .bool true) by
    obtain ⟨_, H', hr, rfl⟩ := h; exact ⟨H', hr⟩
  have hk1 : ∀ (H' : Heap) (K : Value → Heap → Prop) (b : Blk K), sxCallB Try.prog S (.fn 10) [] H' K b = K (.bool true) H' := fun H' K b => known_bx (hO H')
  have hlv := hl.v0
  obtain ⟨a, c, rfl⟩ := hlv
  have f0 := (few_runs hS a ls.length c H).bx
  clear hO
  by_cases h80 : (ls.length : Int) ≤ 80
  case neg =>
    rw [decide_eq_false h80] at f0
    clear hl h80
    refine Zaaz Try.func4 rfl (Nat.le_of_ble_eq_true rfl) (hS.no rfl _ _) ?_
    rw [Try.ntmps4, Try.results4]
    repeat' (first | simp only [↓Zaby, ↓Zabv, ↓Zabx, ↓Zaai, ↓Zaaj, ↓Zabs, ↓Zabw, ↓Zacu, ↓Zact, ↓Zacz, ↓Zaay, ↓Zaat, ↓Zaam, ↓Zaau, ↓Zaan, ↓Zaaw, ↓Zaap, ↓Zaax, ↓bxOp_len, ↓bxPut, ↓Zabq, ↓Zabr, ↓Zabo, ↓Zacx, ↓Zacy, ↓Zada, ↓Zabe, ↓Zabc, ↓Zabd, ↓dstAt, ↓Zabf, Zacv, una_nf, Zaad, Zabz, sxGuardB_ft, Zacs, Zabk, List.map_cons, List.map_nil, List.nil_append, List.append_nil, ↓reduceIte, Nat.reduceEqDiff, Nat.reduceLT, *, argF, List.getD_cons_zero, List.getD_cons_succ])
  rw [decide_eq_true h80] at f0
  by_cases hft : fr = to
  · have d1 : decide (fr = to) = true := decide_eq_true hft
    clear hl h80 hft
    refine Zaaz Try.func4 rfl (Nat.le_of_ble_eq_true rfl) (hS.no rfl _ _) ?_
    rw [Try.ntmps4, Try.results4]
    repeat' (first | simp only [↓Zaby, ↓Zabv, ↓Zabx, ↓Zaai, ↓Zaaj, ↓Zabs, ↓Zabw, ↓Zacu, ↓Zact, ↓Zacz, ↓Zaay, ↓Zaat, ↓Zaam, ↓Zaau, ↓Zaan, ↓Zaaw, ↓Zaap, ↓Zaax, ↓bxOp_len, ↓bxPut, ↓Zabq, ↓Zabr, ↓Zabo, ↓Zacx, ↓Zacy, ↓Zada, ↓Zabe, ↓Zabc, ↓Zabd, ↓dstAt, ↓Zabf, Zacv, Zaae, Zabg, una_nt, Zaac, Zabz, sxGuardB_ff, Zacs, Zabk, List.map_cons, List.map_nil, List.nil_append, List.append_nil, ↓reduceIte, Nat.reduceEqDiff, Nat.reduceLT, *, argF, List.getD_cons_zero, List.getD_cons_succ])
  have dft : decide (fr = to) = false := decide_eq_false hft
  obtain ⟨u1, H1, hR1, p, Q, rfl, hin, hql, hqn, hqb⟩ := Prof_runs hS n ls _ r o ch fr to H hL hg hl
  have hK1 := hin.2.2.2.1
  obtain ⟨u2, H2, hR2, a1, f, j1, js1, rfl, hK2, hj1, _, he1, _, hE1⟩ := Earl_runs hS n ls _ r o ch fr to at' hat H1 (hK1.low hL) (hK1.grp hg) (hl.keep hK1)
  have hK02 := hK1.trans hK2
  obtain ⟨u3, H3, hR3, b1, g, j2, js2, rfl, hK3, hj2, _, he2, _, hE2⟩ := Earl_runs hS n ls _ r o ch fr to later hlat H2 (hK02.low hL) (hK02.grp hg) (hl.keep hK02)
  have hK03 := hK02.trans hK3
  have g1 := hR1.bx
  have g2 := hR2.bx
  have g3 := hR3.bx
  obtain ⟨e0, he0⟩ : ∃ e, e = errC n ls ch fr to [] := ⟨_, rfl⟩
  rw [← he0] at g1 hqn hqb
  have ex0 : ∀ x y : Value, aExtract (.tuple ⟨[x, y]⟩) 0 = some x := fun x y => by kernel_rfl
  have ex1 : ∀ x y : Value, aExtract (.tuple ⟨[x, y]⟩) 1 = some y := fun x y => by kernel_rfl
  have ey0 : ∀ x y z : Value, aExtract (.tuple ⟨[x, y, z]⟩) 0 = some x := fun x y z => by kernel_rfl
  have ey1 : ∀ x y z : Value, aExtract (.tuple ⟨[x, y, z]⟩) 1 = some y := fun x y z => by kernel_rfl
  have ey2 : ∀ x y z : Value, aExtract (.tuple ⟨[x, y, z]⟩) 2 = some z := fun x y z => by kernel_rfl
  by_cases hz : e0 = 0
  case neg =>
    have hpn := hin
    rw [hqn (.inl hz)] at hpn
    have hpz := hpn.len0
    subst hpz
    have hfe : f = e0 := by
      have h1 := errC_nil (n := n) (ls := ls) (ch := ch) (fr := fr) (to := to) [at'] (by rw [← he0]; exact hz)
      rw [← he0] at h1
      rw [h1] at he1
      exact (he1 hz).2.1
    subst hfe
    have hv := errC_vals n ls ch fr to []
    rw [← he0] at hv
    have d1 : decide (¬ f = 0) = true := decide_eq_true hz
    have d2 : decide (¬ f = 10) = true := decide_eq_true (by omega)
    have c0 : ((0 : Nat) : Int) = 0 := rfl
    have d3 : decide ((0 : Int) = 0) = true := rfl
    clear hv hz hpn hin hqn hqb hE1 hE2 he1 he2 hR1 hR2 hR3 hK1 hK2 hK3 hK02 hK03 hl hft he0 h80 hj1 hj2
    refine Zaaz Try.func4 rfl (Nat.le_of_ble_eq_true rfl) (hS.no rfl _ _) ?_
    rw [Try.ntmps4, Try.results4]
    repeat' (first | simp only [↓Zaby, ↓Zabv, ↓Zabx, ↓Zaai, ↓Zaaj, ↓Zabs, ↓Zabw, ↓Zacu, ↓Zact, ↓Zacz, ↓Zaay, ↓Zaat, ↓Zaam, ↓Zaau, ↓Zaan, ↓Zaaw, ↓Zaap, ↓Zaax, ↓bxOp_len, ↓bxPut, ↓Zabq, ↓Zabr, ↓Zabo, ↓Zacx, ↓Zacy, ↓Zada, ↓Zabe, ↓Zabc, ↓Zabd, ↓dstAt, ↓Zabf, Zacv, Zaae, Zabg, una_nt, Zaad, Zaac, Zabz, Zacq, sxGuardB_ff, Zacs, Zacr, Zabk, List.map_cons, List.map_nil, List.nil_append, List.append_nil, ↓reduceIte, Nat.reduceEqDiff, Nat.reduceLT, dec_T, *, argF, List.getD_cons_zero, List.getD_cons_succ, lenS])
  subst hz
  have hqb := hqb rfl hft
  have hz0 := errC_zero he0.symm
  obtain ⟨q1, q2, q3, _⟩ := hz0
  have hlk := LOk.of q2 q3
  have ha1 := errC_one (n := n) (ls := ls) (ch := ch) (fr := fr) (to := to) at' he0.symm
  have ha2 := errC_one (n := n) (ls := ls) (ch := ch) (fr := fr) (to := to) later he0.symm
  obtain ⟨r3, s3, _⟩ := hin.sl
  have s3 : SlP H1 p Q r3 0 := s3
  have hs3v := s3.v0
  obtain ⟨a3, c3, rfl⟩ := hs3v
  have s33 := (s3.keep hK2).keep hK3
  have hL3 := hK03.low hL
  obtain ⟨x4, h4, H4, hK4, hq4, hR4⟩ := Look_runs hS Q _ r3 0 at' H3 hL3 s33
  have g4 := hR4.bx
  have hpo := prof_ok hlk hqb hql
  have hK13 := hK2.trans hK3
  have hK14 := hK13.trans hK4
  have hL4 := hK4.low hL3
  have hf3 : (f = 0 ∧ x4 = a1 ∧ h4 = f) ∨ (f = 10 ∧ x4 = a1 ∧ h4 = f) ∨ (¬ f = 0 ∧ ¬ f = 10) := by
    by_cases ht : 0 ≤ at' ∧ at' ≤ 10000
    · rw [if_pos ht] at ha1
      have hE := hE1 ha1 hft
      have h5 := look_earl hlk hqb hql ht hq4 hE
      rcases hE with ⟨h6, _⟩ | ⟨h6, _⟩
      · exact .inr (.inl ⟨h6, h5⟩)
      · exact .inl ⟨h6, h5⟩
    · rw [if_neg ht] at ha1
      have := (he1 (by omega)).2.1
      exact .inr (.inr (by omega))
  have hC : ¬ at' ≤ later ∨ ¬ g = 0 ∨ f = 2 ∨ (f = 0 ∧ ¬ b1 < a1) := by
    by_cases h5 : at' ≤ later
    · by_cases h6 : g = 0
      · by_cases h7 : f = 2
        · exact .inr (.inr (.inl h7))
        · have h8 : 0 ≤ later ∧ later ≤ 10000 := Classical.byContradiction fun h => by
            rw [if_neg h] at ha2
            have := (he2 (by omega)).2.1
            omega
          have h9 : 0 ≤ at' ∧ at' ≤ 10000 := Classical.byContradiction fun h => by
            rw [if_neg h] at ha1
            have := (he1 (by omega)).2.1
            omega
          rw [if_pos h8] at ha2
          rw [if_pos h9] at ha1
          subst h6
          have := earl_mono (hE1 ha1 hft) (hE2 ha2 hft) h5
          exact .inr (.inr (.inr (by omega)))
      · exact .inr (.inl h6)
    · exact .inl h5
  have d0 : decide (¬ (0 : Int) = 0) = false := rfl
  have dx : decide (¬ x4 = x4) = false := decide_eq_false fun h => h rfl
  have hcs : (¬ at' ≤ later) ∨ (at' ≤ later ∧ ¬ g = 0) ∨ (at' ≤ later ∧ g = 0 ∧ f = 2) ∨ (at' ≤ later ∧ g = 0 ∧ f = 0 ∧ ¬ b1 < a1) := by omega
  clear hin hqn hqb hE1 hE2 he1 he2 hR1 hR2 hR3 hR4 hK1 hK2 hK3 hK02 hK03 hl hft he0 h80 hj1 hj2 hq4 ha1 ha2 q1 q2 q3 hlk s33 hC
  refine Zaaz Try.func4 rfl (Nat.le_of_ble_eq_true rfl) (hS.no rfl _ _) ?_
  rw [Try.ntmps4, Try.results4]
  have l0_0 : decide ((0 : Int) = 0) = true := rfl
  have m0_0 : decide (¬ (0 : Int) = 0) = false := rfl
  have l0_2 : decide ((0 : Int) = 2) = false := rfl
  have m0_2 : decide (¬ (0 : Int) = 2) = true := rfl
  have l0_10 : decide ((0 : Int) = 10) = false := rfl
  have m0_10 : decide (¬ (0 : Int) = 10) = true := rfl
  have l2_0 : decide ((2 : Int) = 0) = false := rfl
  have m2_0 : decide (¬ (2 : Int) = 0) = true := rfl
  have l2_2 : decide ((2 : Int) = 2) = true := rfl
  have m2_2 : decide (¬ (2 : Int) = 2) = false := rfl
  have l2_10 : decide ((2 : Int) = 10) = false := rfl
  have m2_10 : decide (¬ (2 : Int) = 10) = true := rfl
  have l10_0 : decide ((10 : Int) = 0) = false := rfl
  have m10_0 : decide (¬ (10 : Int) = 0) = true := rfl
  have l10_2 : decide ((10 : Int) = 2) = false := rfl
  have m10_2 : decide (¬ (10 : Int) = 2) = true := rfl
  have l10_10 : decide ((10 : Int) = 10) = true := rfl
  have m10_10 : decide (¬ (10 : Int) = 10) = false := rfl
  rcases hf3 with ⟨hf0, hxa, hhf⟩ | ⟨hf0, hxa, hhf⟩ | ⟨hn0, hn10⟩
  all_goals rcases hcs with hc1 | ⟨hc1, hc2⟩ | ⟨hc1, hc2, hc3⟩ | ⟨hc1, hc2, hc3, hc4⟩
  all_goals first | (exfalso; omega) | skip
  all_goals first | (subst hxa; subst hhf; subst hf0) | (subst hc2; subst hc3) | skip
  all_goals (try subst hc2)
  all_goals (try subst hc3)
  all_goals clear d0
  all_goals (repeat' (first | simp only [↓Zaby, ↓Zabv, ↓Zabx, ↓Zaai, ↓Zaaj, ↓Zabs, ↓Zabw, ↓Zacu, ↓Zact, ↓Zacz, ↓Zaay, ↓Zaat, ↓Zaam, ↓Zaau, ↓Zaan, ↓Zaaw, ↓Zaap, ↓Zaax, ↓bxOp_len, ↓bxPut, ↓Zabq, ↓Zabr, ↓Zabo, ↓Zacx, ↓Zacy, ↓Zada, ↓Zabe, ↓Zabc, ↓Zabd, ↓dstAt, ↓Zabf, Zacv, Zaae, Zabg, una_nt, Zaad, Zaac, Zabz, sxGuardB_u, Zacq, Zaco, sxGuardB_ft, sxGuardB_ff, Zacs, Zacr, Zabk, List.map_cons, List.map_nil, List.nil_append, List.append_nil, ↓reduceIte, Nat.reduceEqDiff, Nat.reduceLT, dec_T, dec_F, not_true_eq_false, *, argF, List.getD_cons_zero, List.getD_cons_succ]))
  all_goals refine sxL_of (fun m ρ X => ∃ k : Nat, m = Q.length - k ∧ k ≤ Q.length ∧ Keep H1 X ∧ X.low ≤ X.size ∧ ρ 15 = .slice a3 Q.length c3 ∧ ρ 25 = .int .i64 (k : Int)) ⟨0, rfl, Nat.zero_le _, (by first | exact hK14 | exact hK13), (by first | exact hL4 | exact hL3), rfl, rfl⟩ ?_
  all_goals clear f0 g1 g2 g3 g4
  all_goals rintro m ρ X ⟨k, rfl, hk, hKX, hLX, e15, e25⟩
  all_goals by_cases hlt : k < Q.length
  all_goals first
    | (have hlt' : (k : Int) < (Q.length : Int) := by omega
       have hw := wrap_succ hlt (by have : Go.maxLen = 9223372036854775807 := rfl; omega)
       have hob := SlP_at (s3.keep hKX) hlt
       obtain ⟨q, hix, _, p0, p1, _, _⟩ := hob
       have hpa := hpo.2 k hlt
       obtain ⟨y, hy⟩ : ∃ y, y = Q.getD k default := ⟨_, rfl⟩
       have hpy : (0 ≤ y.1 ∧ y.1 < y.2 ∧ y.2 ≤ 20000) ∧ (0 < k → (Q.getD (k - 1) default).1 < y.1 ∧ (Q.getD (k - 1) default).2 < y.2) := by rw [hy]; exact hpa
       rw [← hy] at p0 p1
       have hn1 : ¬ y.2 ≤ y.1 := by omega
       clear hpa hy
       by_cases ck : 0 < k
       · have ck' : (0 : Int) < (k : Int) := by omega
         have hob := SlP_at (s3.keep hKX) (show k - 1 < Q.length by omega)
         obtain ⟨q', hix', _, p0', p1', _, _⟩ := hob
         have hpy2 := hpy.2 ck
         have hn2 : ¬ y.1 ≤ (Q.getD (k - 1) default).1 := by omega
         have hn3 : ¬ y.2 ≤ (Q.getD (k - 1) default).2 := by omega
         have hw1 : IntKind.i64.wrap ((k : Int) - 1) = ((k - 1 : Nat) : Int) := by rw [IntWalk.i64_in _ (by omega)]; omega
         clear hpy hpy2 hpo
         repeat' (first | simp only [↓Zaby, ↓Zabt, ↓Zabv, ↓Zabx, ↓Zaai, ↓Zabs, ↓Zabu, ↓Zabw, ↓Zacu, ↓Zact, ↓Zacm, ↓Zaak, ↓Zach, ↓Zaci, ↓Zacg, ↓Zacc, ↓Zace, ↓Zacf, ↓Zacl, ↓Zacz, ↓Zaay, ↓Zaat, ↓Zaam, ↓Zaau, ↓Zaas, ↓Zaan, ↓Zaaq, ↓Zaar, ↓bxOp_len, ↓bxPut, ↓Zabq, ↓Zabp, ↓Zabr, ↓Zaag, ↓Zaah, ↓Zaaf, ↓Zabi, ↓Zabh, ↓Zabj, ↓Zabo, ↓Zacx, ↓Zacy, ↓Zada, ↓Zabe, ↓Zabc, ↓dstAt, ↓Zabf, Zacv, Zaae, Zabg, Zaad, Zaac, Zacq, sxGuardB_ff, Zacs, Zacr, Zabk, ↓reduceIte, Nat.reduceEqDiff, Nat.reduceLT, dec_T, dec_F, true_and, Zaab, Nat.add_zero, one1, Option.bind_some, *, lenS, ldC, one1, faS0, faS1] | (with_reducible refine Zacb (by assumption) (by decide +kernel) ?_) | (with_reducible refine Zaca (by decide +kernel) ?_) | (with_reducible refine Zack (by decide +kernel) ?_) | (with_reducible refine Zacd ?_))
         exact ⟨Q.length - (k + 1), by omega, k + 1, rfl, by omega, rfl⟩
       · have ck' : ¬ (0 : Int) < (k : Int) := by omega
         clear hpy hpo
         repeat' (first | simp only [↓Zaby, ↓Zabt, ↓Zabv, ↓Zabx, ↓Zaai, ↓Zabs, ↓Zabu, ↓Zabw, ↓Zacu, ↓Zact, ↓Zacm, ↓Zaak, ↓Zach, ↓Zaci, ↓Zacg, ↓Zacc, ↓Zace, ↓Zacf, ↓Zacl, ↓Zacz, ↓Zaay, ↓Zaat, ↓Zaam, ↓Zaau, ↓Zaas, ↓Zaan, ↓Zaaq, ↓Zaar, ↓bxOp_len, ↓bxPut, ↓Zabq, ↓Zabp, ↓Zabr, ↓Zaag, ↓Zaah, ↓Zaaf, ↓Zabi, ↓Zabh, ↓Zabj, ↓Zabo, ↓Zacx, ↓Zacy, ↓Zada, ↓Zabe, ↓Zabc, ↓dstAt, ↓Zabf, Zacv, Zaae, Zabg, Zaac, sxGuardB_u, Zaco, sxGuardB_ff, Zacs, Zacr, Zabk, ↓reduceIte, Nat.reduceEqDiff, Nat.reduceLT, dec_T, dec_F, true_and, Zaab, Nat.add_zero, one1, Option.bind_some, *, lenS, ldC, one1, faS0, faS1] | (with_reducible refine Zacb (by assumption) (by decide +kernel) ?_) | (with_reducible refine Zaca (by decide +kernel) ?_) | (with_reducible refine Zack (by decide +kernel) ?_) | (with_reducible refine Zacd ?_))
         exact ⟨Q.length - (k + 1), by omega, k + 1, rfl, by omega, rfl⟩)
    | (have hke : k = Q.length := by omega
       subst hke
       have hlt' : ¬ (((Q.length : Nat) : Int) < ((Q.length : Nat) : Int)) := by omega
       clear hpo
       repeat' (first | simp only [↓Zaby, ↓Zabt, ↓Zabv, ↓Zabx, ↓Zaai, ↓Zabs, ↓Zabu, ↓Zabw, ↓Zacu, ↓Zact, ↓Zacm, ↓Zaak, ↓Zach, ↓Zaci, ↓Zacg, ↓Zacc, ↓Zace, ↓Zacf, ↓Zacz, ↓Zaay, ↓Zaat, ↓Zaam, ↓Zaau, ↓Zaas, ↓Zaan, ↓Zaaq, ↓Zaar, ↓bxOp_len, ↓bxPut, ↓Zabq, ↓Zabp, ↓Zabr, ↓Zaag, ↓Zaah, ↓Zaaf, ↓Zabi, ↓Zabh, ↓Zabj, ↓Zabo, ↓Zacx, ↓Zacy, ↓Zada, ↓Zabe, ↓Zabc, ↓dstAt, ↓Zabf, Zacv, Zaae, Zabg, Zacr, Zabk, List.map_nil, List.append_nil, ↓reduceIte, Nat.reduceEqDiff, Nat.reduceLT, dec_F, *, lenS] | (with_reducible refine Zacb (by assumption) (by decide +kernel) ?_) | (with_reducible refine Zaca (by decide +kernel) ?_) | (with_reducible refine Zack (by decide +kernel) ?_) | (with_reducible refine Zacd ?_)))
end Go.Proofs.Ytagnifngnpgilaa
