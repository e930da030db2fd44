/- The law QuotaDuals on the canonical machine. -/
import Derived.Test.YtpeoleimmabceaaEQ
import Derived.Test.YtpeoleimmabceaaEM
set_option linter.unusedVariables false
set_option linter.unusedSimpArgs false
set_option linter.unusedSectionVars false

namespace Go.Proofs.Ytpeoleimmabceaa
open Go Go.AM
set_option maxRecDepth 10000

variable {S : AM.Sys} (hS : Only S 11)
include hS

set_option maxHeartbeats 16000000 in
theorem lawDuals_runs (rule e : Int) (v : Value) (c : List Int) (r o : Nat) (H : Heap) (hg : Grp H) (hL : H.low ≤ H.size) (hl : SlI .i64 H v c r o)
    (hO : ∀ H', S.O 11 [] H') : ∃ H', Runs Try.prog S (.fn 5) [.int .i64 rule, .int .i64 e, v] H (.bool true) H' := by
  suffices h : WCall Try.prog S (.fn 5) [.int .i64 rule, .int .i64 e, v] H (fun v H' => v = .bool true) by
    obtain ⟨_, H', hr, rfl⟩ := h; exact ⟨H', hr⟩
  have hk1 : ∀ (H' : Heap) (K : Value → Heap → Prop) (b : Blk K), sxCallB Try.prog S (.fn 11) [] H' K b = K (.bool true) H' := fun H' K b => known_bx (hO H')
  clear hO
  have hml := hl.ml
  have hlv := hl.v0
  obtain ⟨va, vc, rfl⟩ := hlv
  have f0 := (few_runs hS va c.length vc H).bx
  by_cases h40 : (c.length : Int) ≤ 40
  case neg =>
    rw [decide_eq_false h40] at f0
    clear hl h40
    refine Zaau Try.func5 rfl (Nat.le_of_ble_eq_true rfl) (hS.no rfl _ _) ?_
    rw [Try.ntmps5, Try.results5]
    repeat' (first | simp only [↓Zabo, ↓Zabl, ↓Zabn, ↓Zaaf, ↓bxC_loop, ↓Zabj, ↓Zabm, ↓Zacf, ↓Zace, ↓Zack, ↓Zaat, ↓Zaap, ↓Zaai, ↓Zaaq, ↓Zaah, ↓Zaao, ↓Zaar, ↓Zaaj, ↓bxOp_un, ↓bxOp_extract, ↓Zaas, ↓Zaan, ↓Zach, ↓bxPut, ↓Zabh, ↓Zabi, ↓Zaad, ↓Zabf, ↓Zaci, ↓Zacj, ↓Zacl, ↓Zaay, ↓Zaaw, ↓Zaax, ↓dstAt, ↓Zaaz, Zacg, una_nf, Zabp, Zacd, Zabd, List.map_cons, List.map_nil, List.nil_append, List.append_nil, ↓reduceIte, Nat.reduceEqDiff, Nat.reduceLT, *, argF, List.getD_cons_zero, List.getD_cons_succ])
  rw [decide_eq_true h40] at f0
  refine Zaau Try.func5 rfl (Nat.le_of_ble_eq_true rfl) (hS.no rfl _ _) ?_
  rw [Try.ntmps5, Try.results5]
  repeat' (first | simp only [↓Zabo, ↓Zabl, ↓Zabn, ↓Zaaf, ↓bxC_loop, ↓Zabj, ↓Zabm, ↓Zacf, ↓Zace, ↓Zack, ↓Zaat, ↓Zaap, ↓Zaai, ↓Zaaq, ↓Zaah, ↓Zaao, ↓Zaar, ↓Zaaj, ↓bxOp_un, ↓bxOp_extract, ↓Zaas, ↓Zaan, ↓Zach, ↓bxPut, ↓Zabh, ↓Zabi, ↓Zaad, ↓Zabf, ↓Zaci, ↓Zacj, ↓Zacl, ↓Zaay, ↓Zaaw, ↓Zaax, ↓dstAt, ↓Zaaz, Zacg, una_nt, Zabp, Zacc, Zabd, List.map_cons, List.map_nil, List.nil_append, List.append_nil, ↓reduceIte, Nat.reduceEqDiff, Nat.reduceLT, *, argF, List.getD_cons_zero, List.getD_cons_succ])
  clear f0
  refine sxL_of (fun m ρ H1 => ∃ k : Nat, m = c.length - k ∧ k ≤ c.length ∧ H1 = H ∧ (∀ j, j < k → 0 ≤ c.getD j 0 ∧ c.getD j 0 ≤ 100000) ∧ (0 ≤ TS c k ∧ TS c k ≤ k * 100000) ∧ ρ 0 = .int .i64 rule ∧ ρ 1 = .int .i64 e ∧ ρ 2 = .slice va c.length vc ∧ ρ 7 = .int .i64 (TS c k) ∧ ρ 8 = .int .i64 (k : Int))
    ⟨0, rfl, Nat.zero_le _, rfl, fun j hj => absurd hj (Nat.not_lt_zero j), ⟨Int.le_refl _, Int.le_refl _⟩, rfl, rfl, rfl, rfl, rfl⟩ ?_
  rintro m ρ H1 ⟨k, rfl, hk, rfl, hall, hT, e0, e1, e2, e7, e8⟩
  by_cases hlt : k < c.length
  · have hlt' : (k : Int) < (c.length : Int) := by omega
    have hix := SlI_ix hl hlt
    have hrd := (hl.rdI hlt).1
    have hwr := wrap_succ hlt hml
    have hts := TS_succ c k
    by_cases h0 : c.getD k 0 < 0
    · clear hl hall hT hts h40
      repeat' (first | simp only [↓Zabo, ↓Zabl, ↓Zabn, ↓Zaaf, ↓Zabj, ↓Zabk, ↓Zabm, ↓Zacf, ↓Zace, ↓Zack, ↓Zaat, ↓Zaap, ↓Zaai, ↓Zaaq, ↓Zaao, ↓Zaaj, ↓Zaam, ↓Zaas, ↓Zaan, ↓bxPut, ↓Zabh, ↓Zabg, ↓Zabi, ↓Zaad, ↓Zaae, ↓Zaac, ↓Zabc, ↓Zabb, ↓loopQ_ret, ↓Zabf, ↓Zaci, ↓Zacj, ↓Zacl, ↓Zaay, ↓Zaaw, ↓Zaax, ↓dstAt, ↓Zaaz, Zacg, Zaab, Zaba, aPick_true, Zabp, sxGuardB_ft, Zacd, Zabd, List.map_nil, List.nil_append, List.append_nil, ↓reduceIte, Nat.reduceEqDiff, Nat.reduceLT, dec_T, one1, Option.bind_some, *, lenI, ldI])
    by_cases h1 : 100000 < c.getD k 0
    · clear hl hall hT hts h40
      repeat' (first | simp only [↓Zabo, ↓Zabl, ↓Zabn, ↓Zaaf, ↓Zabj, ↓Zabk, ↓Zabm, ↓Zacf, ↓Zace, ↓Zack, ↓Zaat, ↓Zaap, ↓Zaai, ↓Zaaq, ↓Zaao, ↓Zaaj, ↓Zaam, ↓Zaas, ↓Zaan, ↓bxPut, ↓Zabh, ↓Zabg, ↓Zabi, ↓Zaad, ↓Zaae, ↓Zaac, ↓Zabc, ↓Zabb, ↓loopQ_ret, ↓Zabf, ↓Zaci, ↓Zacj, ↓Zacl, ↓Zaay, ↓Zaaw, ↓Zaax, ↓dstAt, ↓Zaaz, Zacg, Zaab, Zaba, Zaaa, Zabp, sxGuardB_ff, Zacd, Zabd, List.map_nil, List.nil_append, List.append_nil, ↓reduceIte, Nat.reduceEqDiff, Nat.reduceLT, dec_T, dec_F, one1, Option.bind_some, *, lenI, ldI])
    have hwa : IntKind.i64.wrap (TS c k + c.getD k 0) = TS c k + c.getD k 0 := IntWalk.i64_in _ (by omega)
    rw [← hts] at hwa
    have hall' : ∀ j, j < k + 1 → 0 ≤ c.getD j 0 ∧ c.getD j 0 ≤ 100000 := fun j hj => by
      rcases Nat.lt_or_ge j k with h | h
      · exact hall j h
      · obtain rfl : j = k := by omega
        omega
    have hT' : 0 ≤ TS c (k + 1) ∧ TS c (k + 1) ≤ ((k + 1 : Nat) : Int) * 100000 := by omega
    rw [hts] at hwa
    clear hl hall hT h40
    repeat' (first | simp only [↓Zabo, ↓Zabl, ↓Zabn, ↓Zaaf, ↓Zabj, ↓Zabk, ↓Zabm, ↓Zacf, ↓Zace, ↓Zack, ↓Zaat, ↓Zaap, ↓Zaai, ↓Zaaq, ↓Zaao, ↓Zaaj, ↓Zaam, ↓Zaas, ↓Zaan, ↓bxPut, ↓Zabh, ↓Zabg, ↓Zabi, ↓Zaad, ↓Zaae, ↓Zaac, ↓Zabc, ↓Zabb, ↓loopQ_ret, ↓Zabf, ↓Zaci, ↓Zacj, ↓Zacl, ↓Zaay, ↓Zaaw, ↓Zaax, ↓dstAt, ↓Zaaz, Zacg, Zaab, Zaba, Zaaa, Zabp, sxGuardB_ff, Zacd, Zacc, Zabd, List.nil_append, ↓reduceIte, Nat.reduceEqDiff, Nat.reduceLT, dec_T, dec_F, true_and, one1, Option.bind_some, *, lenI, ldI])
    refine ⟨c.length - (k + 1), ?_, k + 1, rfl, ?_, hall', ?_, ?_, rfl⟩
    · omega
    · omega
    · exact hT'
    · rw [hts]
  have hkk : k = c.length := Nat.le_antisymm hk (Nat.not_lt.1 hlt)
  rw [hkk] at hT hall e7 e8
  clear hlt hk
  have hlt' : ¬ (c.length : Int) < (c.length : Int) := by omega
  rw [TS_all] at hT e7
  have hgw : ∃ ee, IntKind.i64.wrap (c.sum - e) = ee := ⟨_, rfl⟩
  obtain ⟨ee, hee⟩ := hgw
  have ex0 : ∀ x y : Value, aExtract (.tuple ⟨[x, y]⟩) 0 = some x := fun x y => by kernel_rfl
  have ex1 : ∀ x y : Value, aExtract (.tuple ⟨[x, y]⟩) 1 = some y := fun x y => by kernel_rfl
  have hob := ShareR_runs hS rule e _ c r o H1 hg hL hl
  obtain ⟨u1, H2, hR1, hps1⟩ := hob
  have hob := boxShare hps1
  obtain ⟨a, n, cp, z, f, H3, H4, rfl, al2, st3, K4, s3, o3, hbad, hgood⟩ := hob
  have hob := ShareR_runs hS (other rule) ee _ c r o H4 (K4.grp hg) (K4.low hL) (hl.keep K4)
  obtain ⟨u4, H5, hR4, hps4⟩ := hob
  have hob := boxShare hps4
  obtain ⟨a', n', cp', z', f', H6, H7, rfl, al5, st6, K47, s6, o6, hbad', hgood'⟩ := hob
  have f1 := hR1.bx
  have f4 := hR4.bx
  have K7 := K4.trans K47
  have o37 := o3.keep K47
  have hob := ownP o37
  obtain ⟨y0, y1, y2⟩ := hob
  have hob := ownP o6
  obtain ⟨y3, y4, y5⟩ := hob
  have z0 : decide ((0 : Int) = 0) = true := rfl
  have z1 : decide (¬ (0 : Int) = 0) = false := rfl
  have z2 : decide ((2 : Int) = 2) = true := rfl
  have z3' : decide (¬ (2 : Int) = 0) = true := rfl
  have z4 : decide ((2 : Int) = 0) = false := rfl
  by_cases hp : Q.Prob e c ∧ isRule rule
  case neg =>
    have hb := hbad hp
    obtain ⟨rfl, rfl, rfl⟩ := hb
    have hff : f' = 0 ∨ f' = 2 := by
      by_cases hp' : Q.Prob ee c ∧ isRule (other rule)
      · exact .inl (hgood' hp').1
      · exact .inr (hbad' hp').1
    have how := other_way rule
    clear hl h40 hbad hgood hR1 hR4 hps1 hps4 K4 K47 K7 hp o3 o6 o37 hbad' hgood' hg s3 s6 hT hall hkk
    rcases how with ⟨d0, ho⟩ | ⟨d0, d1, ho⟩ | ⟨d0, d1, ho⟩
    all_goals
      rw [ho] at f4
      clear ho
      rcases hff with rfl | rfl
    all_goals
      repeat' (first | simp only [↓Zabo, ↓Zabl, ↓Zabn, ↓Zaaf, ↓Zabj, ↓Zabk, ↓Zabm, ↓Zacf, ↓Zace, ↓Zack, ↓Zaat, ↓Zaap, ↓Zaai, ↓Zaaq, ↓Zaao, ↓Zaaj, ↓Zaam, ↓Zaas, ↓Zaan, ↓bxPut, ↓Zabh, ↓Zabg, ↓Zabi, ↓Zaad, ↓Zaae, ↓Zaac, ↓Zabc, ↓Zabb, ↓loopQ_ret, ↓Zabf, ↓Zaci, ↓Zacj, ↓Zacl, ↓Zaay, ↓Zaaw, ↓Zaax, ↓dstAt, ↓Zaaz, Zacg, Zaab, Zaba, aPick_true, Zaaa, Zabp, sxGuardB_tt, sxGuardB_ft, sxGuardB_ff, Zacd, Zacc, Zabd, List.map_cons, List.map_nil, List.nil_append, List.append_nil, ↓reduceIte, Nat.reduceEqDiff, Nat.reduceLT, dec_T, dec_F, *, lenI])
  have hgd := hgood hp
  obtain ⟨rfl, w, r', rfl, hwl, hsh, haw, sv⟩ := hgd
  by_cases hp' : Q.Prob ee c ∧ isRule (other rule)
  case neg =>
    have hb := hbad' hp'
    obtain ⟨rfl, rfl, rfl⟩ := hb
    have how := other_way rule
    clear hl h40 hbad hgood hR1 hR4 hps1 hps4 K4 K47 K7 hp o3 o6 o37 hbad' hgood' hg s3 s6 hT hall hkk hp' sv haw hsh hwl
    rcases how with ⟨d0, ho⟩ | ⟨d0, d1, ho⟩ | ⟨d0, d1, ho⟩
    all_goals
      rw [ho] at f4
      clear ho
    all_goals
      repeat' (first | simp only [↓Zabo, ↓Zabl, ↓Zabn, ↓Zaaf, ↓Zabj, ↓Zabk, ↓Zabm, ↓Zacf, ↓Zace, ↓Zack, ↓Zaat, ↓Zaap, ↓Zaai, ↓Zaaq, ↓Zaao, ↓Zaaj, ↓Zaam, ↓Zaas, ↓Zaan, ↓bxPut, ↓Zabh, ↓Zabg, ↓Zabi, ↓Zaad, ↓Zaae, ↓Zaac, ↓Zabc, ↓Zabb, ↓loopQ_ret, ↓Zabf, ↓Zaci, ↓Zacj, ↓Zacl, ↓Zaay, ↓Zaaw, ↓Zaax, ↓dstAt, ↓Zaaz, Zacg, Zaab, Zaba, aPick_true, Zaaa, Zabp, sxGuardB_tt, sxGuardB_ft, sxGuardB_ff, Zacd, Zacc, Zabd, List.map_cons, List.map_nil, List.nil_append, List.append_nil, ↓reduceIte, Nat.reduceEqDiff, Nat.reduceLT, dec_T, dec_F, not_true_eq_false, *, lenI])
  have hgd := hgood' hp'
  obtain ⟨rfl, w', r2', rfl, hwl', hsh', haw', sv'⟩ := hgd
  have hdz := hsh.2.1
  have hdz' := hsh'.2.1
  have he := hp.1.1
  have hse : ee = c.sum - e := by rw [← hee]; exact IntWalk.i64_in _ (by omega)
  have hadd := fun i (hi : i < c.length) => dual_add hp.1 (hse ▸ hp'.1) hwl hwl' hdz.1 hdz'.1 hp.2 haw (hse ▸ haw') hi
  have L7 := K7.low hL
  have hob := shaped_runs hS a c.length cp z (by omega) H7
  obtain ⟨H8, k8, hR8⟩ := hob
  have hob := shaped_runs hS a' c.length cp' z' (by omega) H8
  obtain ⟨H9, k9, hR9⟩ := hob
  have f8 := hR8.bx
  have f9 := hR9.bx
  have y38 := k8.read s6 y3
  have k79 := k8.trans k9
  have sv9 := (sv.keep K47).keep k79
  have sv9' := sv'.keep k79
  have o9 := o37.keep k79
  have o9' := o6.keep k79
  have hrng := fun i (hi : i < c.length) => (shr_in hp.1 hsh hi)
  have hrng' := fun i (hi : i < c.length) => (shr_in hp'.1 hsh' hi)
  have K9 := K7.trans k79
  have hl9 := hl.keep K9
  have g9 := K9.grp hg
  have L9 := K9.low hL
  have how := other_way rule
  clear hl h40 hbad hgood hR1 hR4 hps1 hps4 K4 K47 K7 hp o3 o6 o37 hbad' hgood' hg sv sv' haw haw' hsh hsh' hp' hR8 hR9 k8 k9 k79 K9 hT hall hkk hse he
  rcases how with ⟨d0, ho⟩ | ⟨d0, d1, ho⟩ | ⟨d0, d1, ho⟩
  all_goals
    rw [ho] at f4
    clear ho
  all_goals
    repeat' (first | simp only [↓Zabo, ↓Zabl, ↓Zabn, ↓Zaaf, ↓Zabj, ↓Zabk, ↓Zabm, ↓Zacf, ↓Zace, ↓Zack, ↓Zaat, ↓Zaap, ↓Zaai, ↓Zaaq, ↓Zaao, ↓Zaaj, ↓Zaam, ↓Zaas, ↓Zaan, ↓bxPut, ↓Zabh, ↓Zabg, ↓Zabi, ↓Zaad, ↓Zaae, ↓Zaac, ↓Zabc, ↓Zabb, ↓loopQ_ret, ↓Zabf, ↓Zaci, ↓Zacj, ↓Zacl, ↓Zaay, ↓Zaaw, ↓Zaax, ↓dstAt, ↓Zaaz, Zacg, Zaab, Zaba, una_nt, Zaaa, Zabp, sxGuardB_ff, Zacd, Zacc, Zabd, List.map_cons, List.map_nil, List.nil_append, List.append_nil, ↓reduceIte, Nat.reduceEqDiff, Nat.reduceLT, dec_F, not_true_eq_false, Option.map_some, *, lenI, ldP])
  --D
  all_goals
    clear f1 f4 f8 f9 st3 st6 al2 al5 y0 y1 y2 y3 y4 y5 y38 s3 s6 e0 e1 e7 e8
    refine sxL_of (fun m ρ Hz => ∃ i : Nat, m = c.length - i ∧ i ≤ c.length ∧ Keep H9 Hz ∧ ρ 2 = .slice va c.length vc ∧ ρ 10 = .pointer (some ⟨H2.size, 0, none⟩) ∧ ρ 12 = .pointer (some ⟨H5.size, 0, none⟩) ∧ ρ 14 = .int .i64 (i : Int))
      ⟨0, rfl, Nat.zero_le _, Keep.refl _, e2, rfl, rfl, rfl⟩ ?_
    clear e2
    rintro m ρ Hz ⟨i, rfl, hi, kz, e2, e10, e12, e14⟩
    by_cases hlt : i < c.length
    case neg =>
      have hlt' : ¬ (i : Int) < (c.length : Int) := by omega
      clear sv9 sv9' o9 o9' hrng hrng' hadd hl9
      repeat' (first | simp only [↓Zabo, ↓sxC_draw, ↓Zabl, ↓Zabn, ↓Zaaf, ↓Zabj, ↓Zabk, ↓Zabm, ↓Zacf, ↓Zace, ↓Zabz, ↓Zaag, ↓Zabx, ↓Zabw, ↓Zabs, ↓Zabv, ↓Zack, ↓Zaap, ↓Zaai, ↓Zaao, ↓Zaaj, ↓Zaam, ↓Zaas, ↓Zaan, ↓bxPut, ↓Zabh, ↓Zabg, ↓Zabi, ↓Zaad, ↓Zaae, ↓Zaac, ↓Zabc, ↓Zabb, ↓loopQ_ret, ↓Zabf, ↓Zaci, ↓Zacj, ↓Zacl, ↓Zaay, ↓Zaaw, ↓Zaax, Zacg, Zaab, Zaba, Zabp, Zacc, Zabd, List.map_nil, List.nil_append, List.append_nil, ↓reduceIte, Nat.reduceEqDiff, Nat.reduceLT, dec_F, *, lenI] | (with_reducible first | refine Zabr (by assumption) (by decide +kernel) ?_ | refine Zabq (by decide +kernel) ?_ | refine Zaby (by decide +kernel) ?_ | refine Zabt ?_))
    have hlt' : (i : Int) < (c.length : Int) := by omega
    have hwi := wrap_succ hlt hml
    have Lz := kz.low L9
    have r1 := hrng i hlt
    have r2 := hrng' i hlt
    have hob := sumD hS _ _ w w' z z' (c.getD i 0) r' r2' i i Hz (kz.grp g9) Lz (sv9.keep kz) (sv9'.keep kz) (by omega) (by omega) r1.2.1 r2.2.1 (by omega) (by omega) r1.1
    obtain ⟨x1, Ha, Hb, x2, Hc, Hd, x3, He, Hf, x4, Hg, Hh, Hi, Hj, kb, lb, kd, ld, kf, lf, kh, lh, kj, lj, fa, da, fc, dc, fe, de, fg, dg, fi, di⟩ := hob
    have hob := ownP (o9.keep kz)
    obtain ⟨y0, _, _⟩ := hob
    have hob := ownP (o9'.keep (kz.trans kb))
    obtain ⟨y1, _, _⟩ := hob
    have hlf := hl9.keep (kz.trans kf)
    have hix := SlI_ix hlf hlt
    have hrd := (hlf.rdI hlt).1
    have hsg : sgn3 ((w.getD i 0 * z' + w'.getD i 0 * z) * 1) (c.getD i 0 * (z * z')) = 0 := by
      rw [Int.mul_one, hadd i hlt]
      unfold sgn3
      rw [if_neg (by omega), if_neg (by omega)]
    rw [hsg] at fi
    have kzj := kz.trans kj
    clear sv9 sv9' o9 o9' hrng hrng' hadd hl9 hlf hsg kb kd kf kh kj kz hwl hwl' r1 r2
    repeat' (first | simp only [↓Zabo, ↓sxC_draw, ↓Zabl, ↓Zabn, ↓Zaaf, ↓Zabj, ↓Zabk, ↓Zabm, ↓Zacf, ↓Zace, ↓Zabz, ↓Zaag, ↓Zabx, ↓Zabw, ↓Zabs, ↓Zabv, ↓sxD_same, ↓Zack, ↓Zaap, ↓Zaai, ↓Zaao, ↓Zaaj, ↓Zaam, ↓Zaas, ↓Zaan, ↓bxPut, ↓Zabh, ↓Zabg, ↓Zabi, ↓Zaad, ↓Zaae, ↓Zaac, ↓Zabc, ↓Zabb, ↓loopQ_ret, ↓Zabf, ↓Zaci, ↓Zacj, ↓Zacl, ↓Zaay, ↓Zaaw, ↓Zaax, Zacg, Zaab, Zaba, Zabp, Zacd, Zacc, Zabd, List.map_cons, List.map_nil, List.nil_append, List.append_nil, ↓reduceIte, Nat.reduceEqDiff, Nat.reduceLT, dec_T, dec_F, true_and, aLoad_relow, one1, Option.bind_some, not_true_eq_false, Option.map_some, *, lenI, ldP, ldI] | (with_reducible first | refine Zabr (by assumption) (by decide +kernel) ?_ | refine Zabq (by decide +kernel) ?_ | refine Zaby (by decide +kernel) ?_ | refine Zabt ?_))
    exact ⟨c.length - (i + 1), by omega, i + 1, rfl, by omega, rfl⟩
end Go.Proofs.Ytpeoleimmabceaa
