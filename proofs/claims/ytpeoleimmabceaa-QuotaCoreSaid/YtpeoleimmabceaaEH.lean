/- The law QuotaCore on the canonical machine. -/
import Derived.Test.YtpeoleimmabceaaEG
set_option linter.unusedVariables false
set_option linter.unusedSimpArgs false
set_option linter.unusedSectionVars false

namespace Go.Proofs.Ytpeoleimmabceaa
open Go Go.AM
set_option maxRecDepth 10000

theorem in_out (s n : Nat) (w : List Int) : inS s n w + outS s n w = ((List.range n).map fun i => w.getD i 0).sum := by
  unfold inS outS
  rw [← sum_add]
  refine sum_congr fun i _ => ?_
  split <;> omega
theorem core {e : Int} {c w : List Int} {d : Int} (h : Q.Shr e c w d) (s : Nat) : gv e c s * d ≤ inS s c.length w := by
  have hd := h.2.1.1
  have hl := h.1
  have h1 := in_out s c.length w
  rw [← hl, ← sum_range, hl, h.2.2.2.1] at h1
  have h2 : outS s c.length w ≤ outS s c.length c * d := by
    unfold outS
    rw [← sum_mul_right]
    refine sum_le_of fun i hi => ?_
    have := h.2.2.1 i (by have := List.mem_range.1 hi; omega)
    split
    · simp
    · exact this.2
  have h3 : 0 ≤ inS s c.length w := by
    unfold inS
    refine sum_nonneg fun x hx => ?_
    obtain ⟨i, hi, rfl⟩ := List.mem_map.1 hx
    have := h.2.2.1 i (by have := List.mem_range.1 hi; omega)
    split <;> omega
  unfold gv
  rcases Int.le_total 0 (e - outS s c.length c) with h4 | h4
  · rw [Int.max_eq_right h4, Int.sub_mul]; omega
  · rw [Int.max_eq_left h4, Int.zero_mul]; exact h3

variable {S : AM.Sys} (hS : Only S 11)
include hS

set_option maxHeartbeats 8000000 in
theorem lawCore_runs (rule e : Int) (v : Value) (c : List Int) (r o : Nat) (H : Heap) (hg : Grp H) (hL : H.low ≤ H.size) (hl : SlI .i64 H v c r o)
    (hO : ∀ H', S.O 11 [] H') : ∃ H', Runs Try.prog S (.fn 8) [.int .i64 rule, .int .i64 e, v] H (.bool true) H' := by
  suffices h : WCall Try.prog S (.fn 8) [.int .i64 rule, .int .i64 e, v] H (fun v H' => v = .bool true) by
    obtain ⟨_, H', hr, rfl⟩ := h; exact ⟨H', hr⟩
  have hk1 : ∀ (H' : Heap) (K : Value → Heap → Prop) (b : Blk K), sxCallB Try.prog S (.fn 11) [] H' K b = K (.bool true) H' := fun H' K b => known_bx (hO H')
  clear hO
  have hml := hl.ml
  have hlv := hl.v0
  obtain ⟨va, vc, rfl⟩ := hlv
  have f0 := (few_runs hS va c.length vc H).bx
  by_cases h40 : (c.length : Int) ≤ 40
  case neg =>
    rw [decide_eq_false h40] at f0
    clear hl h40
    refine call_of Try.func8 rfl (Nat.le_of_ble_eq_true rfl) (hS.no rfl _ _) ?_
    rw [Try.ntmps8, Try.results8]
    repeat' (first | simp only [↓Zabd, ↓Zaba, ↓Zabc, ↓Zaad, ↓bxC_loop, ↓Zaay, ↓Zabb, ↓Zabm, ↓Zabl, ↓Zabr, ↓bxStep_some, ↓Zaak, ↓Zaaf, ↓bxOp_pick, ↓bxOp_alloc, ↓Zaaj, ↓Zaal, ↓Zaag, ↓bxOp_un, ↓bxOp_extract, ↓Zaam, ↓bxOp_len, ↓Zabo, ↓bxPut, ↓Zaax, ↓seqQ_ret, ↓Zaav, ↓Zabp, ↓Zabq, ↓Zabs, ↓Zaap, ↓Zaao, ↓ev_func, ↓dstAt, ↓gval_some, Zabn, una_nf, Zabe, sxIfB_t, Zaat, List.map_cons, List.map_nil, List.nil_append, List.append_nil, ↓reduceIte, Nat.reduceEqDiff, Nat.reduceLT, *, argF, List.getD_cons_zero, List.getD_cons_succ])
  rw [decide_eq_true h40] at f0
  have ex0 : ∀ x y : Value, aExtract (.tuple ⟨[x, y]⟩) 0 = some x := fun x y => by kernel_rfl
  have ex1 : ∀ x y : Value, aExtract (.tuple ⟨[x, y]⟩) 1 = some y := fun x y => by kernel_rfl
  have hob := ShareR_runs hS rule e _ c r o H hg hL hl
  obtain ⟨u1, H1, hR1, a, n, cp, z, f, rfl, k1, hbad, hgood⟩ := hob
  have f1 := hR1.bx
  have hob := box1 H1 [.slice none 0 0, .int .i64 0] 26
  obtain ⟨H2, e2, k2, s2, -, -⟩ := hob
  have ow2 : Own H2 H1.size 26 [.slice none 0 0, .int .i64 0] := e2 ▸ Own.new H1 _ _
  have al2 : aAlloc Try.prog H1 26 = some (.pointer (some ⟨H1.size, 0, none⟩), H2) := by rw [alP, e2]
  have hob := stPX ow2 rfl a n cp z k2 (Nat.le_refl _)
  obtain ⟨H3, st3, o3, z3, x3, k13⟩ := hob
  have hob := ownP o3
  obtain ⟨y0, y1, y2⟩ := hob
  have K3 := k1.trans k13
  have L3 := K3.low hL
  have hob := Game_runs hS e _ c r o H3 (K3.grp hg) L3 (hl.keep K3)
  obtain ⟨v4, H4, f4', hR4, k4, hgb, hgg⟩ := hob
  have f4 := hR4.bx
  have z0 : decide ((0 : Int) = 0) = true := rfl
  have z1 : decide (¬ (0 : Int) = 0) = false := rfl
  have z2 : decide ((2 : Int) = 2) = true := rfl
  have z3' : decide (¬ (2 : Int) = 0) = true := rfl
  have z4 : decide ((2 : Int) = 0) = false := rfl
  by_cases hp : Q.Prob e c
  case neg =>
    have hb := hbad (fun h => hp h.1)
    obtain ⟨rfl, rfl, rfl⟩ := hb
    have hb := hgb hp
    obtain ⟨rfl, rfl⟩ := hb
    clear hl h40 hbad hgood hR1 k1 k2 k13 K3 hp ow2 o3 x3 e2 hg hgb hgg hR4 k4
    refine call_of Try.func8 rfl (Nat.le_of_ble_eq_true rfl) (hS.no rfl _ _) ?_
    rw [Try.ntmps8, Try.results8]
    repeat' (first | simp only [↓Zabd, ↓Zaba, ↓Zabc, ↓Zaad, ↓bxC_loop, ↓Zaay, ↓Zabb, ↓Zabm, ↓Zabl, ↓Zabr, ↓bxStep_some, ↓Zaak, ↓Zaaf, ↓bxOp_pick, ↓bxOp_alloc, ↓Zaaj, ↓Zaal, ↓Zaag, ↓bxOp_un, ↓bxOp_extract, ↓Zaam, ↓bxOp_len, ↓Zabo, ↓bxPut, ↓Zaax, ↓seqQ_ret, ↓Zaav, ↓Zabp, ↓Zabq, ↓Zabs, ↓Zaap, ↓Zaao, ↓ev_func, ↓dstAt, ↓gval_some, Zabn, Zaaa, Zaaq, una_nt, aPick_true, aPick_false, Zabe, sxGuardB_tt, sxGuardB_ft, sxGuardB_ff, sxIfB_t, sxIfB_f, Zaat, List.map_cons, List.map_nil, List.nil_append, List.append_nil, ↓reduceIte, Nat.reduceEqDiff, Nat.reduceLT, dec_T, *, argF, List.getD_cons_zero, List.getD_cons_succ])
  have hb := hgg hp
  obtain ⟨rfl, r4, s4, hr4⟩ := hb
  by_cases hru : isRule rule
  case neg =>
    have hb := hbad (fun h => hru h.2)
    obtain ⟨rfl, rfl, rfl⟩ := hb
    clear hl h40 hbad hgood hR1 k1 k2 k13 K3 hp ow2 o3 x3 e2 hg hgb hgg hR4 k4 s4 hru
    refine call_of Try.func8 rfl (Nat.le_of_ble_eq_true rfl) (hS.no rfl _ _) ?_
    rw [Try.ntmps8, Try.results8]
    repeat' (first | simp only [↓Zabd, ↓Zaba, ↓Zabc, ↓Zaad, ↓bxC_loop, ↓Zaay, ↓Zabb, ↓Zabm, ↓Zabl, ↓Zabr, ↓bxStep_some, ↓Zaak, ↓Zaaf, ↓bxOp_pick, ↓bxOp_alloc, ↓Zaaj, ↓Zaal, ↓Zaag, ↓bxOp_un, ↓bxOp_extract, ↓Zaam, ↓bxOp_len, ↓Zabo, ↓bxPut, ↓Zaax, ↓seqQ_ret, ↓Zaav, ↓Zabp, ↓Zabq, ↓Zabs, ↓Zaap, ↓Zaao, ↓ev_func, ↓dstAt, ↓gval_some, Zabn, Zaaa, Zaaq, una_nt, aPick_true, Zabe, sxGuardB_tt, sxGuardB_ft, sxIfB_t, sxIfB_f, Zaat, List.map_cons, List.map_nil, List.nil_append, List.append_nil, ↓reduceIte, Nat.reduceEqDiff, Nat.reduceLT, dec_T, *, argF, List.getD_cons_zero, List.getD_cons_succ])
  have hgd := hgood ⟨hp, hru⟩
  obtain ⟨rfl, w, rfl, hsh, haw, hpv⟩ := hgd
  have hcore := core hsh
  have hob := hpv
  obtain ⟨v', r', hv', sv, hr'⟩ := hob
  cases hv'
  have hwl := hsh.1
  have hdz := hsh.2.1
  have hob := shaped_runs hS a w.length cp z (by omega) H4
  obtain ⟨H5, k5, hR5⟩ := hob
  have f5 := hR5.bx
  have K5 := (K3.trans k4).trans k5
  have L5 := K5.low hL
  have o5 := (o3.keep k4).keep k5
  have y4 := k4.read (by have := s2; omega) y0
  have hc := hp.2.2.1
  have h7 := hp.2.1
  have hrng := hsh.2.2.1
  have hp2 := pow_small c.length (by omega)
  have hp0 : 0 < 2 ^ c.length := Nat.two_pow_pos _
  have hgN : ∃ N, N = 2 ^ c.length := ⟨_, rfl⟩
  obtain ⟨N, hN⟩ := hgN
  have hgl := gvs_len e c
  rw [← hN] at hgl hp2 hp0
  have hsh2 : IntKind.i64.wrap (1 * 2 ^ min c.length IntKind.i64.bits) = (N : Int) := by
    rw [show min c.length IntKind.i64.bits = c.length from Nat.min_eq_left (by show c.length ≤ 64; omega), Int.one_mul]
    have : ((2 : Int) ^ c.length) = ((2 ^ c.length : Nat) : Int) := by rw [Int.natCast_pow]; rfl
    rw [this, ← hN]
    exact wrapN (by omega)
  have hc0 : (0 : Int) ≤ (c.length : Int) := Int.natCast_nonneg _
  have s5 := s4.keep k5
  have hvv := s5.v0
  obtain ⟨ga, gc, rfl⟩ := hvv
  rw [hgl] at f4
  rw [hwl] at f5 f1 st3 y0 y1 y4
  have sv5 := ((sv.keep k13).keep k4).keep k5
  have hob := ownP o5
  obtain ⟨x0, x1, x2⟩ := hob
  rw [hwl] at x0 x1
  have hixv : ∀ k : Nat, k < N → aIndexAt Try.prog 22 (.slice ga N gc) (.int .i64 (k : Int)) = some (.pointer (some ⟨r4, k, none⟩)) := fun k hk => by
    have := SlI_ix s5 (k := k) (by omega)
    rw [hgl, Nat.zero_add] at this
    exact this
  have hrdv : ∀ k : Nat, k < N → H5.read r4 k 1 = some [.int .i64 (gv e c k)] := fun k hk => by
    have := (s5.rdI (i := k) (by omega)).1
    rw [Nat.zero_add, gvs_at (by omega)] at this
    exact this
  have hixw : ∀ k : Nat, k < c.length → aIndexAt Try.prog 22 (.slice a c.length cp) (.int .i64 (k : Int)) = some (.pointer (some ⟨r', k, none⟩)) := fun k hk => by
    have := SlI_ix sv5 (k := k) (by omega)
    rw [hwl, Nat.zero_add] at this
    exact this
  have hrdw : ∀ k : Nat, k < c.length → H5.read r' k 1 = some [.int .i64 (w.getD k 0)] := fun k hk => by
    have := (sv5.rdI (i := k) (by omega)).1
    rw [Nat.zero_add] at this
    exact this
  have hwb : ∀ k : Nat, k < c.length → 0 ≤ w.getD k 0 ∧ w.getD k 0 ≤ 100000000000 := fun k hk => by
    have h1 := hrng k (by omega)
    have h2 := hc _ (getD_mem (l := c) (k := k) (d := 0) hk)
    have h3 : c.getD k 0 * z ≤ 100000 * 1000000 := Int.mul_le_mul h2.2 hdz.2 (by omega) (by omega)
    omega
  have hgb2 : ∀ k, 0 ≤ gv e c k ∧ gv e c k ≤ 100000 := fun k => by
    have h1 : 0 ≤ outS k c.length c := by
      unfold outS
      refine sum_nonneg fun x hx => ?_
      obtain ⟨i, hi, rfl⟩ := List.mem_map.1 hx
      have := hc _ (getD_mem (d := 0) (List.mem_range.1 hi))
      split <;> omega
    have := hp.1
    unfold gv
    omega
  have hn7 : c.length ≤ 7 := by omega
  clear hl h40 hbad hgood hR1 hR4 hR5 k1 k2 k13 K3 hp ow2 o3 o5 x3 e2 hg sv sv5 hsh haw k4 k5 s4 s5 hgg hgb hpv hru hN hc hrng hwl hgl K5 h7
  refine call_of Try.func8 rfl (Nat.le_of_ble_eq_true rfl) (hS.no rfl _ _) ?_
  rw [Try.ntmps8, Try.results8]
  repeat' (first | simp only [↓Zabd, ↓Zaba, ↓Zabc, ↓Zaad, ↓bxC_loop, ↓Zaay, ↓Zabb, ↓Zabm, ↓Zabl, ↓Zabr, ↓bxStep_some, ↓Zaak, ↓Zaaf, ↓bxOp_pick, ↓bxOp_alloc, ↓Zaaj, ↓Zaal, ↓Zaag, ↓bxOp_un, ↓bxOp_extract, ↓Zaam, ↓bxOp_len, ↓Zabo, ↓bxPut, ↓Zaax, ↓seqQ_ret, ↓Zaav, ↓Zabp, ↓Zabq, ↓Zabs, ↓Zaap, ↓Zaao, ↓ev_func, ↓dstAt, ↓gval_some, Zabn, Zaaa, Zaaq, una_nt, aPick_false, Zabe, sxGuardB_ff, sxIfB_f, Zaat, List.map_cons, List.map_nil, List.nil_append, List.append_nil, ↓reduceIte, Nat.reduceEqDiff, Nat.reduceLT, dec_F, Int.toNat_natCast, not_true_eq_false, Option.map_some, *, argF, List.getD_cons_zero, List.getD_cons_succ, lenI, ldP])
  clear f0 f1 f4 f5 st3 al2 y0 y1 y2 y4 hsh2
  refine sxL_of (fun m ρ H6 => ∃ s : Nat, m = N - s ∧ s ≤ N ∧ H6 = H5 ∧ ρ 2 = .slice va c.length vc ∧ ρ 7 = .pointer (some ⟨H1.size, 0, none⟩) ∧ ρ 9 = .slice ga N gc ∧ ρ 11 = .int .i64 (s : Int))
    ⟨0, rfl, Nat.zero_le _, rfl, rfl, rfl, rfl, rfl⟩ ?_
  rintro m ρ H6 ⟨s, rfl, hs, rfl, e2, e7, e9, e11⟩
  by_cases hlt : s < N
  case neg =>
    have hlt' : ¬ (s : Int) < (N : Int) := by omega
    clear hixv hrdv hixw hrdw hcore hwb hgb2
    repeat' (first | simp only [↓Zabd, ↓sxC_draw, ↓Zaba, ↓Zabc, ↓Zaad, ↓bxC_loop, ↓Zaay, ↓Zaaz, ↓Zabb, ↓Zabm, ↓Zabl, ↓sxDraw_nil, ↓Zaae, ↓sxDL_move, ↓sxDL_load, ↓sxDL_binOp, ↓sxDL_fieldAddr, ↓Zabi, ↓Zabr, ↓Zaak, ↓Zaaf, ↓Zaaj, ↓Zaag, ↓Zaah, ↓Zaai, ↓bxOp_len, ↓bxPut, ↓Zaax, ↓Zaaw, ↓seqQ_ret, ↓Zaac, ↓blockQ_ret, ↓Zaab, ↓Zaas, ↓Zaar, ↓loopQ_ret, ↓Zaav, ↓Zabp, ↓Zabq, ↓Zabs, ↓Zaap, ↓Zaao, Zabn, Zaaa, Zaaq, sxIfB_f, Zaat, List.map_nil, List.append_nil, ↓reduceIte, Nat.reduceEqDiff, Nat.reduceLT, dec_F, *, lenI] | (with_reducible first | refine Zabg (by assumption) (by decide +kernel) ?_ | refine Zabf (by decide +kernel) ?_ | refine sxD_bar (by decide +kernel) ?_ | refine Zabh ?_))
  have hlt' : (s : Int) < (N : Int) := by omega
  have hwi := wrap_succ hlt (show N ≤ Go.maxLen by have : Go.maxLen = 9223372036854775807 := rfl; omega)
  repeat' (first | simp only [↓Zabd, ↓sxC_draw, ↓Zaba, ↓Zabc, ↓Zaad, ↓bxC_loop, ↓Zaay, ↓Zaaz, ↓Zabb, ↓Zabm, ↓Zabl, ↓sxDraw_nil, ↓Zaae, ↓sxDL_move, ↓sxDL_load, ↓sxDL_binOp, ↓sxDL_fieldAddr, ↓Zabi, ↓Zabr, ↓Zaak, ↓Zaaf, ↓Zaaj, ↓Zaag, ↓Zaah, ↓Zaai, ↓bxOp_len, ↓bxPut, ↓Zaax, ↓Zaaw, ↓seqQ_ret, ↓Zaac, ↓blockQ_ret, ↓Zaab, ↓Zaas, ↓Zaar, ↓loopQ_ret, ↓Zaav, ↓Zabp, ↓Zabq, ↓Zabs, ↓Zaap, ↓Zaao, Zabn, Zaaa, Zaaq, sxIfB_t, Zaat, ↓reduceIte, Nat.reduceEqDiff, Nat.reduceLT, dec_T, *, lenI] | (with_reducible first | refine Zabg (by assumption) (by decide +kernel) ?_ | refine Zabf (by decide +kernel) ?_ | refine sxD_bar (by decide +kernel) ?_ | refine Zabh ?_))
  refine sxL_of (fun m ρ H7 => ∃ j : Nat, m = c.length - j ∧ j ≤ c.length ∧ H7 = H6 ∧ ρ 2 = .slice va c.length vc ∧ ρ 7 = .pointer (some ⟨H1.size, 0, none⟩) ∧ ρ 9 = .slice ga N gc ∧ ρ 11 = .int .i64 (s : Int) ∧ ρ 12 = .int .i64 (inS s j w) ∧ ρ 13 = .int .i64 (j : Int))
    ⟨0, rfl, Nat.zero_le _, rfl, e2, e7, e9, e11, rfl, rfl⟩ ?_
  clear e2 e7 e9 e11 ρ
  rintro m ρ H7 ⟨j, rfl, hj, rfl, e2, e7, e9, e11, e12, e13⟩
  by_cases hltj : j < c.length
  · have hltj' : (j : Int) < (c.length : Int) := by omega
    have hwj := wrap_succ hltj hml
    have a1 := hixw j hltj
    have b1 := hrdw j hltj
    have g1 := sumBit s c.length w hltj
    have g2 := inS_rng (s := s) (w := w) (n := c.length) hwb (k := j) (by omega)
    have g3 := hwb j hltj
    have hj0 : (0 : Int) ≤ (j : Int) := Int.natCast_nonneg _
    have hbs : ((s : Int).fdiv (2 ^ min j IntKind.i64.bits)).tmod 2 = if s.testBit j then 1 else 0 := bit_shr s (by omega) j (by omega)
    have hkB : (j : Int) * 100000000000 ≤ 700000000000 := by omega
    have hwa : IntKind.i64.wrap (inS s j w + w.getD j 0) = inS s j w + w.getD j 0 := IntWalk.i64_in _ (by omega)
    have t1 : decide ((1 : Int) = 1) = true := rfl
    have t2 : decide ((0 : Int) = 1) = false := rfl
    cases hb : s.testBit j with
    | true =>
      rw [hb] at g1 hbs
      simp only [if_true] at g1 hbs
      clear hixv hrdv hixw hrdw hcore hwb hgb2 g2 g3 hkB
      repeat' (first | simp only [↓Zabd, ↓Zaba, ↓Zabc, ↓Zaad, ↓Zaay, ↓Zaaz, ↓Zabm, ↓Zabl, ↓Zabr, ↓Zaak, ↓Zaaf, ↓Zaaj, ↓Zaag, ↓Zaah, ↓Zaai, ↓bxOp_len, ↓bxPut, ↓Zaax, ↓Zaaw, ↓Zaac, ↓Zaab, ↓Zaas, ↓Zaar, ↓Zabs, ↓Zaap, ↓Zaao, Zabn, sxOptB_ite, Zaaa, Zaaq, sxIfB_t, ↓reduceIte, Nat.reduceEqDiff, Nat.reduceLT, dec_T, true_and, Nat.add_zero, one1, Option.bind_some, ne_eq, Int.toNat_natCast, *, lenI, paG0, ldIs, ldI, one1])
      exact ⟨by decide, c.length - (j + 1), by omega, j + 1, rfl, by omega, congrArg (Value.int .i64) g1.symm, rfl⟩
    | false =>
      rw [hb] at g1 hbs
      simp only [Bool.false_eq_true, if_false, Int.add_zero] at g1 hbs
      clear hixv hrdv hixw hrdw hcore hwb hgb2 g2 g3 hkB
      repeat' (first | simp only [↓Zabd, ↓Zaba, ↓Zabc, ↓Zaad, ↓Zaay, ↓Zaaz, ↓Zabm, ↓Zabl, ↓Zabr, ↓Zaak, ↓Zaaf, ↓Zaaj, ↓Zaag, ↓Zaah, ↓Zaai, ↓bxOp_len, ↓bxPut, ↓Zaax, ↓Zaaw, ↓Zaac, ↓Zaab, ↓Zaas, ↓Zaar, ↓Zabs, ↓Zaap, ↓Zaao, Zabn, sxOptB_ite, Zaaa, Zaaq, sxIfB_t, sxIfB_f, ↓reduceIte, Nat.reduceEqDiff, Nat.reduceLT, dec_T, true_and, ne_eq, Int.toNat_natCast, *, lenI])
      exact ⟨by decide, c.length - (j + 1), by omega, j + 1, rfl, by omega, congrArg (Value.int .i64) g1.symm, rfl⟩
  · have hltj' : ¬ (j : Int) < (c.length : Int) := by omega
    have hje : j = c.length := by omega
    subst hje
    have a1 := hixv s hlt
    have b1 := hrdv s hlt
    have g1 := hcore s
    have g2 := hgb2 s
    have m1 : 0 ≤ gv e c s * z := Int.mul_nonneg g2.1 (by omega)
    have m2 : gv e c s * z ≤ 100000 * 1000000 := Int.mul_le_mul g2.2 hdz.2 (by omega) (by omega)
    have w1 : IntKind.i64.wrap (gv e c s * z) = gv e c s * z := IntWalk.i64_in _ (by omega)
    have g3 : ¬ inS s c.length w < gv e c s * z := by omega
    clear hixv hrdv hixw hrdw hcore hwb hgb2 g1 g2 m1 m2
    repeat' (first | simp only [↓Zabd, ↓Zaba, ↓Zabc, ↓Zaad, ↓Zaay, ↓Zaaz, ↓Zabm, ↓Zabl, ↓sxD_same, ↓Zabr, ↓Zaak, ↓Zaaf, ↓Zaaj, ↓Zaag, ↓Zaah, ↓Zaai, ↓bxOp_len, ↓bxPut, ↓Zaax, ↓Zaaw, ↓Zaac, ↓Zaab, ↓Zaas, ↓Zaar, ↓Zabs, ↓Zaap, ↓Zaao, Zabn, Zaaa, Zaaq, sxIfB_f, ↓reduceIte, Nat.reduceEqDiff, Nat.reduceLT, dec_F, true_and, aLoad_relow, one1, Option.bind_some, *, lenI, paG1, ldI, one1])
    exact ⟨N - (s + 1), by omega, s + 1, rfl, by omega, rfl⟩
end Go.Proofs.Ytpeoleimmabceaa
