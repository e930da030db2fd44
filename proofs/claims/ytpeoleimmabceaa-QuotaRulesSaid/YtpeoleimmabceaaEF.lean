/- The law QuotaRules on the canonical machine. -/
import Derived.Test.YtpeoleimmabceaaEE
set_option linter.unusedVariables false
set_option linter.unusedSimpArgs false
set_option linter.unusedSectionVars false

namespace Go.Proofs.Ytpeoleimmabceaa
open Go Go.AM
set_option maxRecDepth 10000

def Op (c w : List Int) (d : Int) : Prop := ∀ i j, i < c.length → j < c.length → c.getD i 0 ≤ c.getD j 0 → w.getD i 0 ≤ w.getD j 0 ∧ c.getD i 0 * d - w.getD i 0 ≤ c.getD j 0 * d - w.getD j 0
theorem CEA.op {e : Int} {c w : List Int} {d : Int} (h : CEA e c w d) (hd : 1 ≤ d) : Op c w d := fun i j hi hj hle => by
  obtain ⟨L, k, h1, h2, h3, _⟩ := h
  have ei := h3 i hi
  have ej := h3 j hj
  have hk : c.getD i 0 * k ≤ c.getD j 0 * k := Int.mul_le_mul_of_nonneg_right hle (by omega)
  have m1 : d * min (c.getD i 0 * k) L ≤ d * min (c.getD j 0 * k) L := Int.mul_le_mul_of_nonneg_left (by omega) (by omega)
  have m2 : d * (c.getD i 0 * k - min (c.getD i 0 * k) L) ≤ d * (c.getD j 0 * k - min (c.getD j 0 * k) L) := Int.mul_le_mul_of_nonneg_left (by omega) (by omega)
  rw [Int.mul_sub, Int.mul_sub, ← ei, ← ej] at m2
  rw [← ei, ← ej] at m1
  refine ⟨Int.le_of_mul_le_mul_right m1 (by omega), Int.le_of_mul_le_mul_right (a := k) ?_ (by omega)⟩
  rw [Int.sub_mul, Int.sub_mul, Int.mul_right_comm, Int.mul_right_comm _ d, Int.mul_comm _ d, Int.mul_comm (c.getD j 0 * k) d]
  exact m2
theorem op_zip {c w : List Int} {d : Int} (h : Op c (zipL c w d) d) : Op c w d := fun i j hi hj hle => by
  have := h i j hi hj hle
  rw [zipL_at hi, zipL_at hj] at this
  omega
theorem op_dbl {c w : List Int} {d : Int} (hl : w.length = c.length) (h : Op c (dbl w) d) : Op c w d := fun i j hi hj hle => by
  have := h i j hi hj hle
  rw [dbl_at (by omega), dbl_at (by omega)] at this
  omega
theorem runV_eq {e : Int} {c : List Int} (h7 : c.length < 8) {i : Nat} (hi : i < c.length) : RunV e c i = UR c (c.length - 1) (2 ^ i) e (c.getD i 0) ∧ DR c.length c.length 0 = WR c.length (c.length - 1) (2 ^ i) := by
  have hpow : 0 < 2 ^ c.length := Nat.two_pow_pos _
  obtain ⟨m, hm⟩ : ∃ m, c.length = m + 1 := ⟨c.length - 1, by omega⟩
  have h1 := VU h7 m 0 e (zeros c.length) i hpow (by rw [cnt_all]; exact hm) hi (by simp [zeros]) (by simp)
  have h2 := WU h7 m 0 i hpow (by rw [cnt_all]; exact hm) hi (by simp)
  rw [Nat.zero_or] at h1 h2
  have hm1 : c.length - 1 = m := by omega
  refine ⟨?_, ?_⟩
  · unfold RunV
    rw [hm1, ← h1, ← hm]
  · rw [hm1, ← h2, ← hm]
theorem run_op {e : Int} {c w : List Int} {d : Int} (hp : Q.Prob e c) (hd : 1 ≤ d) (h : RunR e c w d) : Op c w d := fun i j hi hj hle => by
  have h7 : c.length < 8 := by have := hp.2.1; omega
  have hN := (DR_fact _ h7).1
  have hpow : 0 < 2 ^ c.length := Nat.two_pow_pos _
  obtain ⟨a1, a2⟩ := runV_eq (e := e) h7 hi
  obtain ⟨b1, b2⟩ := runV_eq (e := e) h7 hj
  have h0 := UR_two h7 (fun x hx => (hp.2.2.1 x hx).1) (c.length - 1) 0 i j e hpow (by rw [cnt_all]; omega) hi hj (by simp) (by simp) hp.1.1 hle
  rw [Nat.zero_or, Nat.zero_or, ← a1, ← b1, ← a2, ← b2] at h0
  have ei := h i hi
  have ej := h j hj
  obtain ⟨N, hNN⟩ : ∃ N, N = DR c.length c.length 0 := ⟨_, rfl⟩
  rw [← hNN] at h0 ei ej hN
  have m1 := Int.mul_le_mul_of_nonneg_right h0.1 (show 0 ≤ d by omega)
  have m2 := Int.mul_le_mul_of_nonneg_right h0.2 (show 0 ≤ d by omega)
  rw [← ei, ← ej] at m1
  rw [Int.sub_mul, Int.sub_mul, ← ei, ← ej] at m2
  refine ⟨Int.le_of_mul_le_mul_right m1 (by omega), Int.le_of_mul_le_mul_right (a := N) ?_ (by omega)⟩
  rw [Int.sub_mul, Int.sub_mul]
  have q1 : c.getD i 0 * d * N = N * c.getD i 0 * d := by rw [Int.mul_comm _ N, ← Int.mul_assoc]
  have q2 : c.getD j 0 * d * N = N * c.getD j 0 * d := by rw [Int.mul_comm _ N, ← Int.mul_assoc]
  rw [q1, q2]
  exact m2
theorem awd_op {rule e : Int} {c w : List Int} {d : Int} (hp : Q.Prob e c) (hs : Q.Shr e c w d) (h : Awd RunR rule e c w d) : Op c w d := by
  have hd := hs.2.1.1
  unfold Awd at h
  by_cases h0 : rule = 0
  · rw [if_pos h0] at h; exact h.op hd
  rw [if_neg h0] at h
  by_cases h1 : rule = 1
  · rw [if_pos h1] at h; exact op_zip (h.op hd)
  rw [if_neg h1] at h
  by_cases h2 : rule = 2
  · rw [if_pos h2] at h
    intro i j hi hj hle
    have ei := h i hi
    have ej := h j hj
    have he := hp.1.1
    have hes := hp.2.2.2
    obtain ⟨T, hT⟩ : ∃ T, T = max 1 c.sum := ⟨_, rfl⟩
    rw [← hT] at ei ej
    have hT1 : 1 ≤ T ∧ e ≤ T := by omega
    have a1 : e * c.getD i 0 * d ≤ e * c.getD j 0 * d := Int.mul_le_mul_of_nonneg_right (Int.mul_le_mul_of_nonneg_left hle he) (by omega)
    have a2 : c.getD i 0 * (d * (T - e)) ≤ c.getD j 0 * (d * (T - e)) := Int.mul_le_mul_of_nonneg_right hle (Int.mul_nonneg (by omega) (by omega))
    rw [← ei, ← ej] at a1
    refine ⟨Int.le_of_mul_le_mul_right a1 (by omega), Int.le_of_mul_le_mul_right (a := T) ?_ (by omega)⟩
    have q : ∀ x : Int, x * (d * (T - e)) = x * d * T - e * x * d := fun x => by
      rw [Int.mul_sub, Int.mul_sub, Int.mul_assoc x d T, Int.mul_comm e x, Int.mul_assoc x e d, Int.mul_comm e d]
    rw [q, q, ← ei, ← ej] at a2
    rw [Int.sub_mul, Int.sub_mul]
    exact a2
  rw [if_neg h2] at h
  by_cases h3 : rule = 3
  · rw [if_pos h3] at h
    by_cases h4 : e ≤ c.sum - e
    · rw [if_pos h4] at h; exact op_dbl hs.1 (h.op hd)
    · rw [if_neg h4] at h; exact op_zip (op_dbl (zipL_len _ _ _) (h.op hd))
  rw [if_neg h3] at h
  exact run_op hp hd h

variable {S : AM.Sys} (hS : Only S 11)
include hS

theorem few_runs (a : Option Addr) (n c : Nat) (H : Heap) : Runs Try.prog S (.fn 10) [.slice a n c] H (.bool (decide ((n : Int) ≤ 40))) H := by
  suffices h : WCall Try.prog S (.fn 10) [.slice a n c] H (fun v H' => v = .bool (decide ((n : Int) ≤ 40)) ∧ H' = H) by
    obtain ⟨_, _, hr, rfl, rfl⟩ := h; exact hr
  refine call_of Try.func10 rfl (Nat.le_of_ble_eq_true rfl) (hS.no rfl _ _) ?_
  rw [Try.ntmps10, Try.results10]
  repeat' (first | simp only [↓Zaay, ↓Zaaz, ↓sxC_ret, ↓Zabi, ↓Zabh, ↓Zabn, ↓Zaaj, ↓Zaae, ↓Zaaf, ↓bxOp_len, ↓bxPut, ↓Zaav, ↓Zaat, ↓Zabl, ↓Zabm, ↓Zabo, ↓Zaao, ↓Zaan, Zabj, Zaaa, intBin, Zaar, ↓reduceIte, Nat.reduceEqDiff, Nat.reduceLT, and_self, *, argF, List.getD_cons_zero, lenI])
theorem shaped_runs (a : Option Addr) (n cp : Nat) (z : Int) (hz : 0 < z) (H : Heap) : ∃ H', Keep H H' ∧ Runs Try.prog S (.fn 14) [.agg ⟨[.slice a n cp, .int .i64 z]⟩, .int .i64 (n : Int)] H (.bool true) H' := by
  suffices h : WCall Try.prog S (.fn 14) [.agg ⟨[.slice a n cp, .int .i64 z]⟩, .int .i64 (n : Int)] H (fun v H' => v = .bool true ∧ Keep H H') by
    obtain ⟨_, H', hr, rfl, h⟩ := h; exact ⟨H', h, hr⟩
  obtain ⟨H1, e1, k1, s1, rd2, rd0, rd1⟩ := Q.boxP H (.slice a n cp) (.int .i64 z)
  have d0 : decide ((n : Int) = (n : Int)) = true := decide_eq_true rfl
  refine call_of Try.func14 rfl (Nat.le_of_ble_eq_true rfl) (hS.no rfl _ _) ?_
  rw [Try.ntmps14, Try.results14]
  repeat' (first | simp only [↓Zaay, ↓Zaaz, ↓sxC_ret, ↓Zabi, ↓Zabh, ↓Zabn, ↓bxStep_some, ↓Zaaj, ↓Zaae, ↓bxOp_pick, ↓bxOp_box, ↓Zaai, ↓Zaaf, ↓Zaag, ↓bxOp_len, ↓bxPut, ↓Zaav, ↓Zaat, ↓Zabl, ↓Zabm, ↓Zabo, ↓Zaao, ↓Zaan, ↓dstAt, ↓gval_some, Zabj, Zaaa, intBin, aPick_true, sxGuardB_tt, Zaar, ↓reduceIte, Nat.reduceEqDiff, Nat.reduceLT, dec_T, and_self, Nat.add_zero, one1, Option.bind_some, *, argF, List.getD_cons_zero, List.getD_cons_succ, lenI, Q.cells_agg, paG0, paG1, ldIs, ldI, one1, Nat.zero_add])
theorem Is_runs (e : Int) (v v2 : Value) (c w : List Int) (d : Int) (r o r2 o2 : Nat) (H : Heap) (hL : H.low ≤ H.size) (hc : SlI .i64 H v c r o) (hl : SlI .i64 H v2 w r2 o2) (hP : Q.Prob e c) (hsh : Q.Shr e c w d) :
    ∃ H', Keep H H' ∧ Runs Try.prog S (.fn 13) [.int .i64 e, v, .agg ⟨[v2, .int .i64 d]⟩] H (.tuple ⟨[.bool true, .int .i64 0]⟩) H' := by
  suffices h : WCall Try.prog S (.fn 13) [.int .i64 e, v, .agg ⟨[v2, .int .i64 d]⟩] H (fun u H' => u = .tuple ⟨[.bool true, .int .i64 0]⟩ ∧ Keep H H') by
    obtain ⟨_, H', hr, rfl, h⟩ := h; exact ⟨H', h, hr⟩
  obtain ⟨a2, cap2, rfl⟩ := hl.v0
  obtain ⟨H1, e1, k1, s1, rd2, rd0, rd1⟩ := Q.boxP H (.slice a2 w.length cap2) (.int .i64 d)
  obtain ⟨H2, k2, R2⟩ := Q.isProblem_runs hS e v c r o H1 (hc.keep k1)
  have k02 := k1.trans k2
  obtain ⟨H3, k3, R3⟩ := Q.areShares_runs hS e v _ c w d r o r2 o2 H2 (k02.low hL) (hc.keep k02) (hl.keep k02) hP
  have rd2' := k2.read s1 rd2
  have f2 := R2.bx
  have f3 := R3.bx
  rw [decide_eq_true hP] at f2
  rw [decide_eq_true hsh] at f3
  have hfin : Keep H H3 := k02.trans k3
  clear R2 R3 hc hl hP hsh k2 k3 k02
  refine call_of Try.func13 rfl (Nat.le_of_ble_eq_true rfl) (hS.no rfl _ _) ?_
  rw [Try.ntmps13, Try.results13]
  repeat' (first | simp only [↓Zaba, ↓Zaay, ↓Zaaz, ↓Zaad, ↓sxC_ret, ↓Zabi, ↓Zabh, ↓Zabn, ↓Zaaj, ↓Zaae, ↓bxOp_box, ↓Zaai, ↓bxOp_un, ↓Zaal, ↓bxPut, ↓Zaav, ↓seqQ_ret, ↓Zaat, ↓Zabl, ↓Zabm, ↓Zabo, ↓Zaao, ↓Zaan, ↓ev_func, Zabj, una_nt, Zabb, sxIfB_f, packRes_two, List.map_cons, List.map_nil, List.nil_append, List.append_nil, ↓reduceIte, Nat.reduceEqDiff, Nat.reduceLT, and_self, Option.map_some, *, argF, List.getD_cons_zero, List.getD_cons_succ, Q.cells_agg, ldP, packRes_two])

theorem ShareR_runs (rule e : Int) (v : Value) (c : List Int) (r o : Nat) (H : Heap) (hg : Grp H) (hL : H.low ≤ H.size) (hl : SlI .i64 H v c r o) :
    ∃ u H', Runs Try.prog S (.fn 12) [.int .i64 rule, .int .i64 e, v] H u H' ∧ PostSh RunR H rule e c u H' :=
  Share_runs hS RunR (fun h1 h2 h3 => runR_sc h1 h2 h3) rule e v c r o H hg hL hl fun hp _ H1 k1 => run_runs hS e v c r o H1 (k1.grp hg) (k1.low hL) (hl.keep k1) hp

set_option maxHeartbeats 8000000 in
theorem lawRules_runs (rule e : Int) (v : Value) (c : List Int) (r o : Nat) (H : Heap) (hg : Grp H) (hL : H.low ≤ H.size) (hl : SlI .i64 H v c r o)
    (hO : ∀ H', S.O 11 [] H') : ∃ H', Runs Try.prog S (.fn 3) [.int .i64 rule, .int .i64 e, v] H (.bool true) H' := by
  suffices h : WCall Try.prog S (.fn 3) [.int .i64 rule, .int .i64 e, v] H (fun v H' => v = .bool true) by
    obtain ⟨_, H', hr, rfl⟩ := h; exact ⟨H', hr⟩
  have hk1 : ∀ (H' : Heap) (K : Value → Heap → Prop) (b : Blk K), sxCallB Try.prog S (.fn 11) [] H' K b = K (.bool true) H' := fun H' K b => known_bx (hO H')
  clear hO
  have hml := hl.ml
  have hlv := hl.v0
  obtain ⟨va, vc, rfl⟩ := hlv
  have f0 := (few_runs hS va c.length vc H).bx
  by_cases h40 : (c.length : Int) ≤ 40
  case neg =>
    rw [decide_eq_false h40] at f0
    clear hl h40
    refine call_of Try.func3 rfl (Nat.le_of_ble_eq_true rfl) (hS.no rfl _ _) ?_
    rw [Try.ntmps3, Try.results3]
    repeat' (first | simp only [↓Zaba, ↓Zaay, ↓Zaaz, ↓Zaad, ↓bxC_loop, ↓Zaaw, ↓sxC_ret, ↓Zabi, ↓Zabh, ↓Zabn, ↓bxStep_some, ↓Zaaj, ↓Zaae, ↓bxOp_pick, ↓bxOp_alloc, ↓Zaai, ↓Zaak, ↓Zaaf, ↓bxOp_un, ↓Zaag, ↓bxOp_extract, ↓Zaal, ↓bxOp_len, ↓Zabk, ↓bxPut, ↓Zaav, ↓seqQ_ret, ↓Zaat, ↓Zabl, ↓Zabm, ↓Zabo, ↓Zaao, ↓Zaan, ↓ev_func, ↓dstAt, ↓gval_some, Zabj, una_nf, Zabb, sxIfB_t, Zaar, List.map_cons, List.map_nil, List.nil_append, List.append_nil, ↓reduceIte, Nat.reduceEqDiff, Nat.reduceLT, *, argF, List.getD_cons_zero, List.getD_cons_succ])
  rw [decide_eq_true h40] at f0
  have ex0 : ∀ x y : Value, aExtract (.tuple ⟨[x, y]⟩) 0 = some x := fun x y => by kernel_rfl
  have ex1 : ∀ x y : Value, aExtract (.tuple ⟨[x, y]⟩) 1 = some y := fun x y => by kernel_rfl
  have hob := ShareR_runs hS rule e _ c r o H hg hL hl
  obtain ⟨u1, H1, hR1, a, n, cp, z, f, rfl, k1, hbad, hgood⟩ := hob
  have f1 := hR1.bx
  have hob := box1 H1 [.slice none 0 0, .int .i64 0] 26
  obtain ⟨H2, e2, k2, s2, -, -⟩ := hob
  have ow2 : Own H2 H1.size 26 [.slice none 0 0, .int .i64 0] := e2 ▸ Own.new H1 _ _
  have al2 : aAlloc Try.prog H1 26 = some (.pointer (some ⟨H1.size, 0, none⟩), H2) := by rw [alP, e2]
  have hob := stPX ow2 rfl a n cp z k2 (Nat.le_refl _)
  obtain ⟨H3, st3, o3, z3, x3, k13⟩ := hob
  have hob := ownP o3
  obtain ⟨y0, y1, y2⟩ := hob
  have K3 := k1.trans k13
  have L3 := K3.low hL
  have z0 : decide ((0 : Int) = 0) = true := rfl
  have z1 : decide (¬ (0 : Int) = 0) = false := rfl
  by_cases hp : Q.Prob e c ∧ isRule rule
  case neg =>
    have hb := hbad hp
    obtain ⟨rfl, rfl, rfl⟩ := hb
    have w0 : IntKind.i64.wrap (((0 : Nat) : Int) + 0) = 0 := rfl
    have z2 : decide ((2 : Int) = 2) = true := rfl
    have z3' : decide (¬ (2 : Int) = 0) = true := rfl
    clear hl h40 hbad hgood hR1 k1 k2 k13 K3 hp ow2 o3 x3 e2 hg
    refine call_of Try.func3 rfl (Nat.le_of_ble_eq_true rfl) (hS.no rfl _ _) ?_
    rw [Try.ntmps3, Try.results3]
    repeat' (first | simp only [↓Zaba, ↓Zaay, ↓Zaaz, ↓Zaad, ↓bxC_loop, ↓Zaaw, ↓sxC_ret, ↓Zabi, ↓Zabh, ↓Zabn, ↓bxStep_some, ↓Zaaj, ↓Zaae, ↓bxOp_pick, ↓bxOp_alloc, ↓Zaai, ↓Zaak, ↓Zaaf, ↓bxOp_un, ↓Zaag, ↓bxOp_extract, ↓Zaal, ↓bxOp_len, ↓Zabk, ↓bxPut, ↓Zaav, ↓seqQ_ret, ↓Zaat, ↓Zabl, ↓Zabm, ↓Zabo, ↓Zaao, ↓Zaan, ↓ev_func, ↓dstAt, ↓gval_some, Zabj, Zaaa, intBin, una_nt, aPick_true, Zabb, sxGuardB_tt, sxIfB_t, sxIfB_f, Zaar, List.map_cons, List.map_nil, List.nil_append, List.append_nil, ↓reduceIte, Nat.reduceEqDiff, Nat.reduceLT, dec_T, Nat.add_zero, one1, Option.bind_some, *, argF, List.getD_cons_zero, List.getD_cons_succ, lenI, paG0, paG1, ldIs, ldI, one1, Nat.zero_add])
  have hgd := hgood hp
  obtain ⟨rfl, w, rfl, hsh, haw, hpv⟩ := hgd
  have hop := awd_op hp.1 hsh haw
  obtain ⟨v', r', hv', sv, hr'⟩ := hpv
  cases hv'
  have sv3 := sv.keep k13
  have hwl := hsh.1
  have hob := Is_runs hS e _ _ c w z r o r' 0 H3 L3 (hl.keep K3) sv3 hp.1 hsh
  obtain ⟨H4, k4, hR4⟩ := hob
  have f4 := hR4.bx
  have hob := shaped_runs hS a w.length cp z (by have := hsh.2.1; omega) H4
  obtain ⟨H5, k5, hR5⟩ := hob
  have f5 := hR5.bx
  have K5 := (K3.trans k4).trans k5
  have L5 := K5.low hL
  have o5 := (o3.keep k4).keep k5
  have y4 := k4.read (by have := s2; omega) y0
  have y5 := K5
  have hc := hp.1.2.2.1
  have h7 := hp.1.2.1
  have hlen : w.length ≤ c.length ∧ c.length ≤ w.length := by omega
  rw [hwl] at f5 f4 st3 y0 y1 y4
  have hl5 := hl.keep K5
  have sv5 := (sv3.keep k4).keep k5
  have hob := ownP o5
  obtain ⟨x0, x1, x2⟩ := hob
  rw [hwl] at x0 x1
  have f1 : ∀ (K : Value → Heap → Prop) (bl : Blk K), sxCallB Try.prog S (.fn 12) [.int .i64 rule, .int .i64 e, .slice va c.length vc] H K bl = K (.tuple ⟨[.agg ⟨[.slice a c.length cp, .int .i64 z]⟩, .int .i64 0]⟩) H1 := by rw [← hwl]; rw [hwl]; rw [hwl] at f1; exact f1
  have hdz := hsh.2.1
  have hrng := hsh.2.2.1
  clear hl h40 hbad hgood hR1 hR4 hR5 k1 k2 k13 K3 hp ow2 o3 o5 x3 e2 hg y5 sv sv3 hsh haw k4 k5 hlen
  refine call_of Try.func3 rfl (Nat.le_of_ble_eq_true rfl) (hS.no rfl _ _) ?_
  rw [Try.ntmps3, Try.results3]
  repeat' (first | simp only [↓Zaba, ↓Zaay, ↓Zaaz, ↓Zaad, ↓bxC_loop, ↓Zaaw, ↓sxC_ret, ↓Zabi, ↓Zabh, ↓Zabn, ↓bxStep_some, ↓Zaaj, ↓Zaae, ↓bxOp_pick, ↓bxOp_alloc, ↓Zaai, ↓Zaak, ↓Zaaf, ↓bxOp_un, ↓Zaag, ↓bxOp_extract, ↓Zaal, ↓bxOp_len, ↓Zabk, ↓bxPut, ↓Zaav, ↓seqQ_ret, ↓Zaat, ↓Zabl, ↓Zabm, ↓Zabo, ↓Zaao, ↓Zaan, ↓ev_func, ↓dstAt, ↓gval_some, Zabj, Zaaa, intBin, una_nt, aPick_false, Zabb, sxGuardB_ff, sxIfB_f, Zaar, List.map_cons, List.map_nil, List.nil_append, List.append_nil, ↓reduceIte, Nat.reduceEqDiff, Nat.reduceLT, dec_F, not_true_eq_false, Option.map_some, *, argF, List.getD_cons_zero, List.getD_cons_succ, lenI, ldP])
  clear f0 f1 f4 f5 st3 al2 y0 y1 y2 y4
  have hixc : ∀ k : Nat, k < c.length → aIndexAt Try.prog 22 (.slice va c.length vc) (.int .i64 (k : Int)) = some (.pointer (some ⟨r, o + k, none⟩)) := fun k hk => SlI_ix hl5 hk
  have hrdc : ∀ k : Nat, k < c.length → H5.read r (o + k) 1 = some [.int .i64 (c.getD k 0)] := fun k hk => (hl5.rdI hk).1
  have hixw : ∀ k : Nat, k < c.length → aIndexAt Try.prog 22 (.slice a c.length cp) (.int .i64 (k : Int)) = some (.pointer (some ⟨r', k, none⟩)) := fun k hk => by
    have := SlI_ix sv5 (k := k) (by omega)
    rw [hwl, Nat.zero_add] at this
    exact this
  have hrdw : ∀ k : Nat, k < c.length → H5.read r' k 1 = some [.int .i64 (w.getD k 0)] := fun k hk => by
    have := (sv5.rdI (i := k) (by omega)).1
    rw [Nat.zero_add] at this
    exact this
  have hrng : ∀ k : Nat, k < c.length → 0 ≤ w.getD k 0 ∧ w.getD k 0 ≤ c.getD k 0 * z := fun k hk => hrng k (by omega)
  clear hl5 sv5 hwl
  refine sxL_of (fun m ρ H6 => ∃ i : Nat, m = c.length - i ∧ i ≤ c.length ∧ H6 = H5 ∧ ρ 2 = .slice va c.length vc ∧ ρ 7 = .pointer (some ⟨H1.size, 0, none⟩) ∧ ρ 11 = .int .i64 (i : Int))
    ⟨0, rfl, Nat.zero_le _, rfl, rfl, rfl, rfl⟩ ?_
  rintro m ρ H6 ⟨i, rfl, hi, rfl, e2, e7, e11⟩
  by_cases hlt : i < c.length
  case neg =>
    have hlt' : ¬ (i : Int) < (c.length : Int) := by omega
    clear hixc hrdc hixw hrdw hrng hc hop
    repeat' (first | simp only [↓Zaba, ↓Zaay, ↓Zaaz, ↓Zaad, ↓bxC_loop, ↓Zaaw, ↓Zaax, ↓Zabi, ↓Zabh, ↓Zabn, ↓Zaaj, ↓Zaae, ↓Zaaf, ↓bxOp_len, ↓bxPut, ↓Zaav, ↓Zaau, ↓Zaab, ↓Zaaq, ↓Zaap, ↓Zabo, ↓Zaao, ↓Zaan, Zabj, Zaaa, intBin, sxIfB_f, List.map_nil, List.append_nil, ↓reduceIte, Nat.reduceEqDiff, Nat.reduceLT, dec_F, *, lenI])
  have hlt' : (i : Int) < (c.length : Int) := by omega
  have hwi := wrap_succ hlt hml
  repeat' (first | simp only [↓Zaba, ↓Zaay, ↓Zaaz, ↓Zaad, ↓bxC_loop, ↓Zaaw, ↓Zaax, ↓Zabi, ↓Zabh, ↓Zabn, ↓Zaaj, ↓Zaae, ↓Zaaf, ↓bxOp_len, ↓bxPut, ↓Zaav, ↓Zaau, ↓Zaab, ↓Zaaq, ↓Zaap, ↓Zabo, ↓Zaao, ↓Zaan, Zabj, Zaaa, intBin, sxIfB_t, ↓reduceIte, Nat.reduceEqDiff, Nat.reduceLT, dec_T, *, lenI])
  refine sxL_of (fun m ρ H7 => ∃ j : Nat, m = c.length - j ∧ j ≤ c.length ∧ H7 = H6 ∧ ρ 2 = .slice va c.length vc ∧ ρ 7 = .pointer (some ⟨H1.size, 0, none⟩) ∧ ρ 11 = .int .i64 (i : Int) ∧ ρ 12 = .int .i64 (j : Int))
    ⟨0, rfl, Nat.zero_le _, rfl, e2, e7, e11, rfl⟩ ?_
  clear e2 e7 e11 ρ
  rintro m ρ H7 ⟨j, rfl, hj, rfl, e2, e7, e11, e12⟩
  by_cases hltj : j < c.length
  case neg =>
    have hltj' : ¬ (j : Int) < (c.length : Int) := by omega
    clear hixc hrdc hixw hrdw hrng hc hop
    repeat' (first | simp only [↓Zaba, ↓sxC_draw, ↓Zaay, ↓Zaaz, ↓Zaad, ↓Zaaw, ↓Zaax, ↓sxC_ret, ↓Zabi, ↓Zabh, ↓sxDraw_nil, ↓bxDraw_cons, ↓sxDL_move, ↓sxDL_pick, ↓sxDL_load, ↓sxDL_binOp, ↓sxDL_fieldAddr, ↓sxDL_indexAddr, ↓Zabn, ↓bxStep_some, ↓Zaaj, ↓Zaae, ↓bxOp_pick, ↓Zaai, ↓Zaaf, ↓Zaag, ↓Zaah, ↓bxOp_len, ↓bxPut, ↓Zaav, ↓Zaau, ↓seqQ_ret, ↓Zaac, ↓blockQ_ret, ↓Zaab, ↓Zaaq, ↓Zaap, ↓loopQ_ret, ↓Zaat, ↓Zabl, ↓Zabm, ↓Zabo, ↓Zaao, ↓Zaan, ↓dstAt, ↓gval_some, Zabj, Zaaa, intBin, sxIfB_f, Zaar, ↓reduceIte, Nat.reduceEqDiff, Nat.reduceLT, dec_F, true_and, *, lenI] | (with_reducible first | refine Zabd (by assumption) (by decide +kernel) ?_ | refine Zabc (by decide +kernel) ?_ | refine sxD_bar (by decide +kernel) ?_ | refine Zabe ?_))
    exact ⟨c.length - (i + 1), by omega, i + 1, rfl, by omega, rfl⟩
  have hltj' : (j : Int) < (c.length : Int) := by omega
  have hwj := wrap_succ hltj hml
  have a1 := hixc i hlt
  have a2 := hixc j hltj
  have a3 := hixw i hlt
  have a4 := hixw j hltj
  have b1 := hrdc i hlt
  have b2 := hrdc j hltj
  have b3 := hrdw i hlt
  have b4 := hrdw j hltj
  have c1 := hc _ (getD_mem (d := 0) hlt)
  have c2 := hc _ (getD_mem (d := 0) hltj)
  have d1 := hrng i hlt
  have d2 := hrng j hltj
  have hopij := hop i j hlt hltj
  have hgx : ∃ x, x = c.getD i 0 := ⟨_, rfl⟩
  obtain ⟨x, hx⟩ := hgx
  have hgy : ∃ y, y = c.getD j 0 := ⟨_, rfl⟩
  obtain ⟨y, hy⟩ := hgy
  have hgu : ∃ u, u = w.getD i 0 := ⟨_, rfl⟩
  obtain ⟨u, hu⟩ := hgu
  have hgv : ∃ v, v = w.getD j 0 := ⟨_, rfl⟩
  obtain ⟨q, hq⟩ := hgv
  rw [← hx] at b1 c1 d1 hopij
  rw [← hy] at b2 c2 d2 hopij
  rw [← hu] at b3 d1 hopij
  rw [← hq] at b4 d2 hopij
  have m1 : x * z ≤ 100000 * 1000000 := Int.mul_le_mul c1.2 hdz.2 (by omega) (by omega)
  have m2 : y * z ≤ 100000 * 1000000 := Int.mul_le_mul c2.2 hdz.2 (by omega) (by omega)
  have w1 : IntKind.i64.wrap (x * z) = x * z := IntWalk.i64_in _ (by omega)
  have w2 : IntKind.i64.wrap (y * z) = y * z := IntWalk.i64_in _ (by omega)
  have w3 : IntKind.i64.wrap (x * z - u) = x * z - u := IntWalk.i64_in _ (by omega)
  have w4 : IntKind.i64.wrap (y * z - q) = y * z - q := IntWalk.i64_in _ (by omega)
  clear hixc hrdc hixw hrdw hrng hc hop hx hy hu hq m1 m2 c1 c2 d1 d2
  by_cases hxy : x ≤ y
  · have g := hopij hxy
    have g1 : ¬ q < u := by omega
    have g2 : ¬ y * z - q < x * z - u := by omega
    clear g hopij
    repeat' (first | simp only [↓Zaba, ↓sxC_draw, ↓Zaay, ↓Zaaz, ↓Zaad, ↓Zaaw, ↓Zaax, ↓sxC_ret, ↓Zabi, ↓Zabh, ↓sxDraw_nil, ↓bxDraw_cons, ↓sxDL_move, ↓sxDL_pick, ↓sxDL_load, ↓sxDL_binOp, ↓sxDL_fieldAddr, ↓sxDL_indexAddr, ↓sxD_same, ↓Zabn, ↓bxStep_some, ↓Zaaj, ↓Zaae, ↓bxOp_pick, ↓Zaai, ↓Zaaf, ↓Zaag, ↓Zaah, ↓bxOp_len, ↓bxPut, ↓Zaav, ↓Zaau, ↓seqQ_ret, ↓Zaac, ↓blockQ_ret, ↓Zaab, ↓Zaaq, ↓Zaap, ↓loopQ_ret, ↓Zaat, ↓Zabl, ↓Zabm, ↓Zabo, ↓Zaao, ↓Zaan, ↓dstAt, ↓gval_some, Zabj, Zaaa, intBin, aPick_true, aPick_false, sxGuardB_tt, sxGuardB_ff, sxIfB_t, sxIfB_f, Zaar, ↓reduceIte, Nat.reduceEqDiff, Nat.reduceLT, dec_T, dec_F, true_and, aLoad_relow, Nat.add_zero, one1, Option.bind_some, *, lenI, paG0, paG1, ldIs, ldI, one1, Nat.zero_add] | (with_reducible first | refine Zabd (by assumption) (by decide +kernel) ?_ | refine Zabc (by decide +kernel) ?_ | refine sxD_bar (by decide +kernel) ?_ | refine Zabe ?_))
    exact ⟨c.length - (j + 1), by omega, j + 1, rfl, by omega, rfl⟩
  · clear hopij
    repeat' (first | simp only [↓Zaba, ↓sxC_draw, ↓Zaay, ↓Zaaz, ↓Zaad, ↓Zaaw, ↓Zaax, ↓sxC_ret, ↓Zabi, ↓Zabh, ↓sxDraw_nil, ↓bxDraw_cons, ↓sxDL_move, ↓sxDL_pick, ↓sxDL_load, ↓sxDL_binOp, ↓sxDL_fieldAddr, ↓sxDL_indexAddr, ↓sxD_same, ↓Zabn, ↓bxStep_some, ↓Zaaj, ↓Zaae, ↓bxOp_pick, ↓Zaai, ↓Zaaf, ↓Zaag, ↓Zaah, ↓bxOp_len, ↓bxPut, ↓Zaav, ↓Zaau, ↓seqQ_ret, ↓Zaac, ↓blockQ_ret, ↓Zaab, ↓Zaaq, ↓Zaap, ↓loopQ_ret, ↓Zaat, ↓Zabl, ↓Zabm, ↓Zabo, ↓Zaao, ↓Zaan, ↓dstAt, ↓gval_some, Zabj, Zaaa, intBin, aPick_false, sxGuardB_u, sxGuardB_tf, sxIfB_t, sxIfB_f, Zaar, ↓reduceIte, Nat.reduceEqDiff, Nat.reduceLT, dec_T, dec_F, true_and, aLoad_relow, one1, Option.bind_some, *, lenI, ldI, one1] | (with_reducible first | refine Zabd (by assumption) (by decide +kernel) ?_ | refine Zabc (by decide +kernel) ?_ | refine sxD_bar (by decide +kernel) ?_ | refine Zabe ?_))
    exact ⟨c.length - (j + 1), by omega, j + 1, rfl, by omega, rfl⟩
end Go.Proofs.Ytpeoleimmabceaa
