/- The law QuotaShapley on the canonical machine. -/
import Derived.Test.YtpeoleimmabceaaEU
import Derived.Test.YtpeoleimmabceaaEM
import Derived.Test.YtpeoleimmabceaaEJ
set_option linter.unusedVariables false
set_option linter.unusedSimpArgs false
set_option linter.unusedSectionVars false

namespace Go.Proofs.Ytpeoleimmabceaa
open Go Go.AM
set_option maxRecDepth 10000

variable {S : AM.Sys} (hS : Only S 11)
include hS

set_option maxHeartbeats 16000000 in
theorem lawShap_runs (e : Int) (v : Value) (c : List Int) (r o : Nat) (H : Heap) (hg : Grp H) (hL : H.low ≤ H.size) (hl : SlI .i64 H v c r o)
    (hO : ∀ H', S.O 11 [] H') : ∃ H', Runs Try.prog S (.fn 9) [.int .i64 e, v] H (.bool true) H' := by
  suffices h : WCall Try.prog S (.fn 9) [.int .i64 e, v] H (fun v H' => v = .bool true) by
    obtain ⟨_, H', hr, rfl⟩ := h; exact ⟨H', hr⟩
  have hk1 : ∀ (H' : Heap) (K : Value → Heap → Prop) (b : Blk K), sxCallB Try.prog S (.fn 11) [] H' K b = K (.bool true) H' := fun H' K b => known_bx (hO H')
  clear hO
  have hml := hl.ml
  have hlv := hl.v0
  obtain ⟨va, vc, rfl⟩ := hlv
  have f0 := (few_runs hS va c.length vc H).bx
  by_cases h40 : (c.length : Int) ≤ 40
  case neg =>
    rw [decide_eq_false h40] at f0
    clear hl h40
    refine Zaav Try.func9 rfl (Nat.le_of_ble_eq_true rfl) (hS.no rfl _ _) ?_
    rw [Try.ntmps9, Try.results9]
    repeat' (first | simp only [↓Zabp, ↓Zabm, ↓Zabo, ↓Zaae, ↓Zaaf, ↓Zabk, ↓Zabn, ↓Zacg, ↓Zacf, ↓Zacl, ↓Zaau, ↓Zaaq, ↓Zaai, ↓Zaar, ↓Zaah, ↓Zaap, ↓Zaas, ↓Zaaj, ↓bxOp_un, ↓Zaal, ↓Zaat, ↓Zaao, ↓Zaci, ↓bxPut, ↓Zabi, ↓Zabj, ↓Zabg, ↓Zacj, ↓Zack, ↓Zacm, ↓Zaaz, ↓Zaax, ↓Zaay, ↓dstAt, ↓Zaba, Zach, una_nf, Zabq, Zace, Zabe, List.map_cons, List.map_nil, List.nil_append, List.append_nil, ↓reduceIte, Nat.reduceEqDiff, Nat.reduceLT, *, argF, List.getD_cons_zero, List.getD_cons_succ])
  rw [decide_eq_true h40] at f0
  have ex0 : ∀ x y : Value, aExtract (.tuple ⟨[x, y]⟩) 0 = some x := fun x y => by kernel_rfl
  have ex1 : ∀ x y : Value, aExtract (.tuple ⟨[x, y]⟩) 1 = some y := fun x y => by kernel_rfl
  have hob := ShareR_runs hS 4 e _ c r o H hg hL hl
  obtain ⟨u1, H1, hR1, hps1⟩ := hob
  have hob := boxShare hps1
  obtain ⟨a, n, cp, z, f, H2, H3, rfl, al2, st3, K3, s3, o3, hbad, hgood⟩ := hob
  have f1 := hR1.bx
  have hob := ownP o3
  obtain ⟨y0, y1, y2⟩ := hob
  have L3 := K3.low hL
  have hob := Game_runs hS e _ c r o H3 (K3.grp hg) L3 (hl.keep K3)
  obtain ⟨v4, H4, f4', hR4, k4, hgb, hgg⟩ := hob
  have f4 := hR4.bx
  have z0 : decide ((0 : Int) = 0) = true := rfl
  have z1 : decide (¬ (0 : Int) = 0) = false := rfl
  have z2 : decide ((2 : Int) = 2) = true := rfl
  have z3' : decide (¬ (2 : Int) = 0) = true := rfl
  have z4 : decide ((2 : Int) = 0) = false := rfl
  by_cases hp : Q.Prob e c
  case neg =>
    have hb := hbad (fun h => hp h.1)
    obtain ⟨rfl, rfl, rfl⟩ := hb
    have hb := hgb hp
    obtain ⟨rfl, rfl⟩ := hb
    clear hl h40 hbad hgood hR1 hps1 K3 hp o3 hg hgb hgg hR4 k4 s3
    refine Zaav Try.func9 rfl (Nat.le_of_ble_eq_true rfl) (hS.no rfl _ _) ?_
    rw [Try.ntmps9, Try.results9]
    repeat' (first | simp only [↓Zabp, ↓Zabm, ↓Zabo, ↓Zaae, ↓Zaaf, ↓Zabk, ↓Zabn, ↓Zacg, ↓Zacf, ↓Zacl, ↓Zaau, ↓Zaaq, ↓Zaai, ↓Zaar, ↓Zaah, ↓Zaap, ↓Zaas, ↓Zaaj, ↓bxOp_un, ↓Zaal, ↓Zaat, ↓Zaao, ↓Zaci, ↓bxPut, ↓Zabi, ↓Zabj, ↓Zabg, ↓Zacj, ↓Zack, ↓Zacm, ↓Zaaz, ↓Zaax, ↓Zaay, ↓dstAt, ↓Zaba, Zach, Zaab, Zabb, una_nt, aPick_true, Zabq, sxGuardB_tt, sxGuardB_ft, Zace, Zacd, Zabe, List.map_cons, List.map_nil, List.nil_append, List.append_nil, ↓reduceIte, Nat.reduceEqDiff, Nat.reduceLT, dec_T, *, argF, List.getD_cons_zero, List.getD_cons_succ])
  have hb := hgg hp
  obtain ⟨rfl, r4, s4, hr4⟩ := hb
  have hgd := hgood ⟨hp, by unfold isRule; omega⟩
  obtain ⟨rfl, w, r', rfl, hwl, hsh, haw, sv⟩ := hgd
  have hdz := hsh.2.1
  have hrun : RunR e c w z := by
    unfold Awd at haw
    simp only [if_neg (show ¬ (4 : Int) = 0 by decide), if_neg (show ¬ (4 : Int) = 1 by decide), if_neg (show ¬ (4 : Int) = 2 by decide), if_neg (show ¬ (4 : Int) = 3 by decide)] at haw
    exact haw
  have hob := shaped_runs hS a c.length cp z (by omega) H4
  obtain ⟨H5, k5, hR5⟩ := hob
  have f5 := hR5.bx
  have K5 := (K3.trans k4).trans k5
  have L5 := K5.low hL
  have g5 := K5.grp hg
  have o5 := (o3.keep k4).keep k5
  have y4 := k4.read s3 y0
  have hc := hp.2.2.1
  have h7 := hp.2.1
  have h78 : c.length < 8 := by omega
  have hp2 := pow_small c.length (by omega)
  have hp0 : 0 < 2 ^ c.length := Nat.two_pow_pos _
  have hgN : ∃ N, N = 2 ^ c.length := ⟨_, rfl⟩
  obtain ⟨N, hN⟩ := hgN
  have hgl := gvs_len e c
  have hsh2 : IntKind.i64.wrap (1 * 2 ^ min c.length IntKind.i64.bits) = (N : Int) := by rw [pow_bit _ h78, hN]
  have hfn : factN c.length = DR c.length c.length 0 := (DR_eq h78 _ 0 hp0 (cnt_all _)).symm
  have hfs := factN_small _ h78
  have hsum : ∀ i, i < c.length → w.getD i 0 * factN c.length = PS e c i N * z := fun i hi => by
    have h1 := hrun i hi
    rw [shapley hp hi, ← hfn, ← hN] at h1
    exact h1
  have hps : ∀ i, i < c.length → ∀ k, k ≤ N → 0 ≤ PS e c i k ∧ PS e c i k ≤ k * 2540160000000 := fun i hi k hk => PS_rng hp hi k (by omega)
  have htm : ∀ i, i < c.length → ∀ s, s < N → s.testBit i = false → (s + 2 ^ i < N) ∧ PC s c.length + 1 ≤ c.length ∧ (0 ≤ gv e c (s + 2 ^ i) - gv e c s ∧ gv e c (s + 2 ^ i) - gv e c s ≤ 100000) ∧ term e c i s = factN (PC s c.length) * factN (c.length - 1 - PC s c.length) * (gv e c (s + 2 ^ i) - gv e c s) := fun i hi s hs hb => by
    rw [hN] at hs ⊢
    exact ⟨(add_bit _ h78 s hs i hi hb).1, PC_bit _ h78 s hs i hi hb, gv_more hp hi hs hb, by unfold term; rw [hb]; rfl⟩
  rw [← hN] at hgl hp2 hp0
  have s5 := s4.keep k5
  have hvv := s5.v0
  obtain ⟨ga, gc, rfl⟩ := hvv
  rw [hgl] at f4
  have sv5 := (sv.keep k4).keep k5
  have hob := ownP o5
  obtain ⟨x0, x1, x2⟩ := hob
  have hixv : ∀ k : Nat, k < N → aIndexAt Try.prog 22 (.slice ga N gc) (.int .i64 (k : Int)) = some (.pointer (some ⟨r4, k, none⟩)) := fun k hk => by
    have := SlI_ix s5 (k := k) (by omega)
    rw [hgl, Nat.zero_add] at this
    exact this
  have hrdv : ∀ k : Nat, k < N → H5.read r4 k 1 = some [.int .i64 (gv e c k)] := fun k hk => by
    have := (s5.rdI (i := k) (by omega)).1
    rw [Nat.zero_add, gvs_at (by omega)] at this
    exact this
  have hgb2 : ∀ k, 0 ≤ gv e c k ∧ gv e c k ≤ 100000 := fun k => gv_rng hp k
  have hrng := fun i (hi : i < c.length) => (shr_in hp hsh hi)
  have hn7 : c.length ≤ 7 := by omega
  have hc0 : (0 : Int) ≤ (c.length : Int) := Int.natCast_nonneg _
  have hr4l := s5.lt (by omega)
  have hwl2 : c.length ≤ w.length ∧ w.length ≤ c.length := by omega
  clear hl h40 hbad hgood hR1 hR4 hR5 hps1 K3 hp o3 hg sv hsh haw k4 k5 s4 hgg hgb hc K5 h7 hrun hfn hN hwl hgl
  refine Zaav Try.func9 rfl (Nat.le_of_ble_eq_true rfl) (hS.no rfl _ _) ?_
  rw [Try.ntmps9, Try.results9]
  --A
  repeat' (first | simp only [↓Zabp, ↓Zabm, ↓Zabo, ↓Zaae, ↓Zaaf, ↓Zabk, ↓Zabn, ↓Zacg, ↓Zacf, ↓Zacl, ↓Zaau, ↓Zaaq, ↓Zaai, ↓Zaar, ↓Zaah, ↓Zaap, ↓Zaas, ↓Zaaj, ↓bxOp_un, ↓Zaal, ↓Zaat, ↓Zaao, ↓Zaci, ↓bxPut, ↓Zabi, ↓Zabj, ↓Zabg, ↓Zacj, ↓Zack, ↓Zacm, ↓Zaaz, ↓Zaax, ↓Zaay, ↓dstAt, ↓Zaba, Zach, Zaab, Zabb, una_nt, Zaaa, Zabq, sxGuardB_ff, Zacd, Zabe, List.map_cons, List.map_nil, List.nil_append, List.append_nil, ↓reduceIte, Nat.reduceEqDiff, Nat.reduceLT, dec_F, Int.toNat_natCast, not_true_eq_false, Option.map_some, *, argF, List.getD_cons_zero, List.getD_cons_succ, lenI, ldP])
  --B
  clear f0 f1 f4 f5 st3 al2 y0 y1 y2 y4 hsh2
  refine sxL_of (fun m ρ Hz => ∃ i : Nat, m = c.length - i ∧ i ≤ c.length ∧ Keep H5 Hz ∧ ρ 5 = .pointer (some ⟨H1.size, 0, none⟩) ∧ ρ 7 = .slice ga N gc ∧ ρ 9 = .int .i64 (c.length : Int) ∧ ρ 10 = .int .i64 (i : Int))
    ⟨0, rfl, Nat.zero_le _, Keep.refl _, rfl, rfl, rfl, rfl⟩ ?_
  rintro m ρ Hz ⟨i, rfl, hi, kz, e5, e7, e9, e10⟩
  by_cases hlt : i < c.length
  case neg =>
    have hlt' : ¬ (i : Int) < (c.length : Int) := by omega
    clear hixv hrdv hsum hps htm hgb2 hrng s5 sv5 o5
    repeat' (first | simp only [↓Zabp, ↓Zabm, ↓Zabo, ↓Zaae, ↓Zaaf, ↓Zabk, ↓Zabl, ↓Zabn, ↓Zacg, ↓Zacf, ↓Zacl, ↓Zaaq, ↓Zaai, ↓Zaap, ↓Zaaj, ↓Zaat, ↓bxPut, ↓Zabi, ↓Zabh, ↓Zabj, ↓Zaad, ↓blockQ_ret, ↓Zaac, ↓Zabd, ↓Zabc, ↓loopQ_ret, ↓Zabg, ↓Zacj, ↓Zack, ↓Zacm, ↓Zaaz, ↓Zaax, ↓Zaay, Zach, Zaab, Zabb, Zabq, Zacd, Zabe, List.map_nil, List.nil_append, List.append_nil, ↓reduceIte, Nat.reduceEqDiff, Nat.reduceLT, dec_F, *])
  have hlt' : (i : Int) < (c.length : Int) := by omega
  have hwi := wrap_succ hlt hml
  have Lz := kz.low L5
  have gz := kz.grp g5
  have ob := o5.keep kz
  have svz := sv5.keep kz
  have hrdz : ∀ k : Nat, k < N → Hz.read r4 k 1 = some [.int .i64 (gv e c k)] := fun k hk => kz.read hr4l (hrdv k hk)
  have hsumi := hsum i hlt
  have hpsi := hps i hlt
  have htmi := htm i hlt
  have hrgi := hrng i hlt
  have hpi := pow_bit i (by omega)
  clear hrdv hsum hps htm hrng s5 sv5 o5
  repeat' (first | simp only [↓Zabp, ↓Zabm, ↓Zabo, ↓Zaae, ↓Zaaf, ↓Zabk, ↓Zabl, ↓Zabn, ↓Zacg, ↓Zacf, ↓Zacl, ↓Zaaq, ↓Zaai, ↓Zaap, ↓Zaaj, ↓Zaat, ↓bxPut, ↓Zabi, ↓Zabh, ↓Zabj, ↓Zaad, ↓blockQ_ret, ↓Zaac, ↓Zabd, ↓Zabc, ↓loopQ_ret, ↓Zabg, ↓Zacj, ↓Zack, ↓Zacm, ↓Zaaz, ↓Zaax, ↓Zaay, Zach, Zaab, Zabb, Zabq, Zace, Zabe, List.nil_append, ↓reduceIte, Nat.reduceEqDiff, Nat.reduceLT, dec_T, *])
  --C
  refine sxL_of (fun m ρ Hy => ∃ s : Nat, m = N - s ∧ s ≤ N ∧ Hy = Hz ∧ ρ 5 = .pointer (some ⟨H1.size, 0, none⟩) ∧ ρ 7 = .slice ga N gc ∧ ρ 9 = .int .i64 (c.length : Int) ∧ ρ 10 = .int .i64 (i : Int) ∧ ρ 11 = .int .i64 (PS e c i s) ∧ ρ 12 = .int .i64 (s : Int))
    ⟨0, rfl, Nat.zero_le _, rfl, e5, e7, e9, e10, rfl, rfl⟩ ?_
  clear e5 e7 e9 e10 ρ
  rintro m ρ Hy ⟨s, rfl, hs, rfl, e5, e7, e9, e10, e11, e12⟩
  by_cases hlts : s < N
  case neg =>
    have hsN : s = N := Nat.le_antisymm hs (Nat.not_lt.1 hlts)
    subst hsN
    have hlts' : ¬ (s : Int) < (s : Int) := by omega
    have hps0 := hpsi s (Nat.le_refl _)
    obtain ⟨Ha, x1, ka, ga', qa, Ra⟩ := part_runs hS (.slice a c.length cp) w z r' i Hy gz Lz svz (by omega) hrgi.2.1.1 (by omega)
    have fa := Ra.bx
    have fb := (factorial_runs hS c.length hn7 Ha).bx
    obtain ⟨Hc, x2, kc, gc', qc, Rc⟩ := Frac_all hS (PS e c i s) (factN c.length) Ha ga' (ka.low Lz) hps0.1 (by omega) (by omega) (by omega)
    have fc := Rc.bx
    obtain ⟨Hd, kd, Rd⟩ := Cmp_all hS x1 x2 _ _ _ _ Hc gc' (kc.low (ka.low Lz)) (qa.keep kc) qc (by omega) (by omega)
    have fd := Rd.bx
    have hsg : sgn3 (w.getD i 0 * factN c.length) (PS e c i s * z) = 0 := by
      rw [hsumi]
      unfold sgn3
      rw [if_neg (by omega), if_neg (by omega)]
    rw [hsg] at fd
    have hob := ownP ob
    obtain ⟨y0, _, _⟩ := hob
    have kzd := kz.trans ((ka.trans kc).trans kd)
    clear hixv hrdz hsumi hpsi htmi hgb2 hrgi svz ob hsg hps0 Ra Rc Rd qa qc ka kc kd kz ga' gc' gz
    repeat' (first | simp only [↓Zabp, ↓sxC_draw, ↓Zabm, ↓Zabo, ↓Zaae, ↓Zaaf, ↓Zabk, ↓Zabl, ↓Zacg, ↓Zacf, ↓Zaca, ↓Zaag, ↓Zaby, ↓sxDL_assign, ↓Zabx, ↓Zabt, ↓Zabw, ↓Zacl, ↓Zaaq, ↓Zaai, ↓Zaap, ↓Zaaj, ↓Zaan, ↓Zaat, ↓Zaao, ↓bxPut, ↓Zabi, ↓Zabh, ↓Zaad, ↓Zaac, ↓Zabd, ↓Zabc, ↓Zacm, ↓Zaaz, ↓Zaax, ↓Zaay, Zach, Zaab, Zabb, Zabq, Zacd, List.map_cons, List.map_nil, List.nil_append, List.append_nil, ↓reduceIte, Nat.reduceEqDiff, Nat.reduceLT, dec_F, true_and, not_true_eq_false, Option.map_some, *, lenI, ldP] | (with_reducible first | refine Zabs (by assumption) (by decide +kernel) ?_ | refine Zabr (by decide +kernel) ?_ | refine Zabz (by decide +kernel) ?_ | refine Zabu ?_))
    --H
    exact ⟨c.length - (i + 1), by omega, i + 1, rfl, by omega, rfl⟩
  have hlts' : (s : Int) < (N : Int) := by omega
  have hws := wrap_succ hlts (show N ≤ Go.maxLen by have : Go.maxLen = 9223372036854775807 := rfl; omega)
  have hbs : ((s : Int).fdiv (2 ^ min i IntKind.i64.bits)).tmod 2 = if s.testBit i then 1 else 0 := bit_shr s (by omega) i (by omega)
  have t1 : decide ((1 : Int) = 1) = true := rfl
  have t2 : decide ((0 : Int) = 1) = false := rfl
  have hi0 : (0 : Int) ≤ (i : Int) := Int.natCast_nonneg _
  have hPS := PS_succ e c i s
  have hne2 : ¬ (2 : Int) = 0 := by decide
  cases hb : s.testBit i with
  | true =>
    rw [hb] at hbs
    simp only [if_true] at hbs
    have ht0 : PS e c i (s + 1) = PS e c i s := by
      rw [hPS]
      unfold term
      rw [hb, if_pos rfl, Int.add_zero]
    clear hixv hrdz hsumi hpsi htmi hgb2 hrgi svz ob hPS hb
    repeat' (first | simp only [↓Zabp, ↓sxC_draw, ↓Zabm, ↓Zabo, ↓Zaae, ↓Zaaf, ↓Zabk, ↓Zabl, ↓Zacg, ↓Zacf, ↓Zaca, ↓Zaag, ↓Zaby, ↓sxDL_assign, ↓Zabx, ↓Zabt, ↓Zabw, ↓Zacl, ↓Zaaq, ↓Zaai, ↓Zaap, ↓Zaaj, ↓Zaan, ↓Zaat, ↓Zaao, ↓bxPut, ↓Zabi, ↓Zabh, ↓Zaad, ↓Zaac, ↓Zabd, ↓Zabc, ↓Zacm, ↓Zaaz, ↓Zaax, ↓Zaay, Zach, Zaab, Zabb, Zabq, Zace, List.nil_append, ↓reduceIte, Nat.reduceEqDiff, Nat.reduceLT, dec_T, true_and, ne_eq, Int.toNat_natCast, not_false_eq_true, *, lenI] | (with_reducible first | refine Zabs (by assumption) (by decide +kernel) ?_ | refine Zabr (by decide +kernel) ?_ | refine Zabz (by decide +kernel) ?_ | refine Zabu ?_))
    exact ⟨N - (s + 1), by omega, s + 1, rfl, by omega, congrArg (Value.int .i64) ht0.symm, rfl⟩
  | false =>
    rw [hb] at hbs
    simp only [Bool.false_eq_true, if_false] at hbs
    have hti := htmi s hlts hb
    have hpss := hpsi s hs
    have hpss' := hpsi (s + 1) hlts
    clear hsumi hpsi htmi hrgi svz ob hb
    repeat' (first | simp only [↓Zabp, ↓sxC_draw, ↓Zabm, ↓Zabo, ↓Zaae, ↓Zaaf, ↓Zabk, ↓Zabl, ↓Zacg, ↓Zacf, ↓Zaca, ↓Zaag, ↓Zaby, ↓sxDL_assign, ↓Zabx, ↓Zabt, ↓Zabw, ↓Zacl, ↓Zaaq, ↓Zaai, ↓Zaap, ↓Zaaj, ↓Zaan, ↓Zaat, ↓Zaao, ↓bxPut, ↓Zabi, ↓Zabh, ↓Zaad, ↓Zaac, ↓Zabd, ↓Zabc, ↓Zacm, ↓Zaaz, ↓Zaax, ↓Zaay, Zach, Zaab, Zabb, Zabq, Zace, Zacd, List.nil_append, ↓reduceIte, Nat.reduceEqDiff, Nat.reduceLT, dec_T, ne_eq, Int.toNat_natCast, not_false_eq_true, *, lenI] | (with_reducible first | refine Zabs (by assumption) (by decide +kernel) ?_ | refine Zabr (by decide +kernel) ?_ | refine Zabz (by decide +kernel) ?_ | refine Zabu ?_))
    obtain ⟨ht1, ht2, ht3, ht4⟩ := hti
    refine sxL_of (fun m ρ Hx => ∃ j : Nat, m = c.length - j ∧ j ≤ c.length ∧ Hx = Hy ∧ ρ 5 = .pointer (some ⟨H1.size, 0, none⟩) ∧ ρ 7 = .slice ga N gc ∧ ρ 9 = .int .i64 (c.length : Int) ∧ ρ 10 = .int .i64 (i : Int) ∧ ρ 11 = .int .i64 (PS e c i s) ∧ ρ 12 = .int .i64 (s : Int) ∧ ρ 13 = .int .i64 (PC s j : Int) ∧ ρ 14 = .int .i64 (j : Int))
      ⟨0, rfl, Nat.zero_le _, rfl, e5, e7, e9, e10, e11, e12, rfl, rfl⟩ ?_
    clear e5 e7 e9 e10 e11 e12 ρ
    rintro m ρ Hx ⟨j, rfl, hj, rfl, e5, e7, e9, e10, e11, e12, e13, e14⟩
    by_cases hltj : j < c.length
    · have hltj' : (j : Int) < (c.length : Int) := by omega
      have hwj := wrap_succ hltj hml
      have hbj : ((s : Int).fdiv (2 ^ min j IntKind.i64.bits)).tmod 2 = if s.testBit j then 1 else 0 := bit_shr s (by omega) j (by omega)
      have hj0 : (0 : Int) ≤ (j : Int) := Int.natCast_nonneg _
      have hpc : (PC s (j + 1) : Int) = (PC s j : Int) + (if s.testBit j then 1 else 0) := by
        simp only [PC]; split <;> omega
      have hpl := PC_le s (j + 1)
      have hwp : IntKind.i64.wrap ((PC s j : Int) + (if s.testBit j then 1 else 0)) = (PC s (j + 1) : Int) := by
        rw [← hpc]; exact wrapN (by omega)
      rw [← hbj] at hwp
      clear hixv hrdz hgb2 hbj hpc hpl hbs hPS ht1 ht2 ht3 ht4 hpss hpss'
      repeat' (first | simp only [↓Zabp, ↓Zabm, ↓Zabo, ↓Zaae, ↓Zabk, ↓Zabl, ↓Zacg, ↓Zacf, ↓Zacl, ↓Zaaq, ↓Zaai, ↓Zaaj, ↓bxPut, ↓Zabi, ↓Zabh, ↓Zaad, ↓Zaac, ↓Zabd, ↓Zabc, ↓Zacm, ↓Zaaz, ↓Zaax, Zach, Zaab, Zabb, Zace, ↓reduceIte, Nat.reduceEqDiff, Nat.reduceLT, dec_T, true_and, ne_eq, Int.toNat_natCast, not_false_eq_true, *])
      --I
      exact ⟨c.length - (j + 1), by omega, j + 1, rfl, by omega, rfl, rfl⟩
    have hjn : j = c.length := Nat.le_antisymm hj (Nat.not_lt.1 hltj)
    subst hjn
    have hltj' : ¬ (c.length : Int) < (c.length : Int) := by omega
    have q1 := hixv s hlts
    have q2 := hrdz s hlts
    have q3 := hixv _ ht1
    have q4 := hrdz _ ht1
    have hg1 := hgb2 s
    have hg2 := hgb2 (s + 2 ^ i)
    have hf2 := fact2 (a := PC s c.length) (b := c.length - 1 - PC s c.length) (by omega) (by omega)
    have fa := fun Hn => (factorial_runs hS (PC s c.length) (by omega) Hn).bx
    have fb := fun Hn => (factorial_runs hS (c.length - 1 - PC s c.length) (by omega) Hn).bx
    have hq : ∃ q, q = c.length - 1 - PC s c.length := ⟨_, rfl⟩
    obtain ⟨q, hq⟩ := hq
    rw [← hq] at hf2 fb ht4
    have hm0 : 0 ≤ factN (PC s c.length) * factN q * (gv e c (s + 2 ^ i) - gv e c s) := Int.mul_nonneg hf2.2.2.1 ht3.1
    have hm1 : factN (PC s c.length) * factN q * (gv e c (s + 2 ^ i) - gv e c s) ≤ 25401600 * 100000 := Int.mul_le_mul hf2.2.2.2 ht3.2 ht3.1 (by omega)
    have w1 : IntKind.i64.wrap ((c.length : Int) - 1) = ((c.length - 1 : Nat) : Int) := by rw [IntWalk.i64_in _ (by omega)]; omega
    have w2 : IntKind.i64.wrap (((c.length - 1 : Nat) : Int) - (PC s c.length : Int)) = (q : Int) := by rw [IntWalk.i64_in _ (by omega)]; omega
    have w3 : IntKind.i64.wrap (factN (PC s c.length) * factN q) = factN (PC s c.length) * factN q := IntWalk.i64_in _ (by omega)
    have w4 : IntKind.i64.wrap ((s : Int) + ((2 ^ i : Nat) : Int)) = ((s + 2 ^ i : Nat) : Int) := by rw [← Int.natCast_add]; exact wrapN (by omega)
    have w5 : IntKind.i64.wrap (gv e c (s + 2 ^ i) - gv e c s) = gv e c (s + 2 ^ i) - gv e c s := IntWalk.i64_in _ (by omega)
    have w6 : IntKind.i64.wrap (factN (PC s c.length) * factN q * (gv e c (s + 2 ^ i) - gv e c s)) = factN (PC s c.length) * factN q * (gv e c (s + 2 ^ i) - gv e c s) := IntWalk.i64_in _ (by omega)
    have w7 : IntKind.i64.wrap (PS e c i s + factN (PC s c.length) * factN q * (gv e c (s + 2 ^ i) - gv e c s)) = PS e c i (s + 1) := by
      rw [hPS, ht4]
      exact IntWalk.i64_in _ (by omega)
    clear hixv hrdz hgb2 hbs hPS ht1 ht2 ht3 ht4 hpss hpss' hg1 hg2 hf2 hm0 hm1 hq
    repeat' (first | simp only [↓Zabp, ↓Zabm, ↓Zabo, ↓Zaae, ↓Zabk, ↓Zabl, ↓Zacg, ↓Zacf, ↓sxD_same, ↓Zacl, ↓Zaaq, ↓Zaai, ↓Zaaj, ↓bxPut, ↓Zabi, ↓Zabh, ↓Zaad, ↓Zaac, ↓Zabd, ↓Zabc, ↓Zacm, ↓Zaaz, ↓Zaax, Zach, Zaab, Zabb, Zacd, List.map_cons, List.map_nil, List.append_nil, ↓reduceIte, Nat.reduceEqDiff, Nat.reduceLT, dec_F, true_and, aLoad_relow, one1, Option.bind_some, Int.toNat_natCast, *, ldI] | (with_reducible first | refine Zabs (by assumption) (by decide +kernel) ?_ | refine Zabr (by decide +kernel) ?_ | refine Zabz (by decide +kernel) ?_ | refine Zabu ?_))
    --K
    exact ⟨N - (s + 1), by omega, s + 1, rfl, by omega, rfl, rfl⟩
end Go.Proofs.Ytpeoleimmabceaa
