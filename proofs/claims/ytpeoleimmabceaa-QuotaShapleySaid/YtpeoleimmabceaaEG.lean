/- The game that claims make, by the program. -/
import Derived.Test.YtpeoleimmabceaaEF
set_option linter.unusedVariables false
set_option linter.unusedSimpArgs false
set_option linter.unusedSectionVars false

namespace Go.Proofs.Ytpeoleimmabceaa
open Go Go.AM
set_option maxRecDepth 10000

theorem bit_not : ∀ n, n < 8 → ∀ s : Nat, s < 2 ^ n → (BitVec.ofInt 64 ((2 ^ n - 1 : Nat) : Int) &&& ~~~BitVec.ofInt 64 (s : Int)).toNat = 2 ^ n - 1 - s ∧ ∀ i, i < n → (2 ^ n - 1 - s).testBit i = !s.testBit i := by decide +kernel
theorem bit_shr : ∀ s : Nat, s < 128 → ∀ i, i < 7 → ((s : Int).fdiv (2 ^ min i 64)).tmod 2 = if s.testBit i then 1 else 0 := by decide +kernel
def gv (e : Int) (c : List Int) (s : Nat) : Int := max 0 (e - outS s c.length c)
def gvs (e : Int) (c : List Int) : List Int := (List.range (2 ^ c.length)).map (gv e c)
theorem gvs_len (e : Int) (c : List Int) : (gvs e c).length = 2 ^ c.length := by simp [gvs]
theorem gvs_at {e : Int} {c : List Int} {s : Nat} (h : s < 2 ^ c.length) : (gvs e c).getD s 0 = gv e c s := by
  unfold gvs
  rw [List.getD_eq_getElem?_getD, List.getElem?_map, List.getElem?_range h]; rfl
theorem sumBit (s n : Nat) (w : List Int) {k : Nat} (hk : k < n) : inS s (k + 1) w = inS s k w + if s.testBit k then w.getD k 0 else 0 := by
  unfold inS
  rw [List.range_succ, List.map_append, List.sum_append]
  simp
theorem inS_rng {s k n : Nat} {w : List Int} {B : Int} (hw : ∀ i, i < n → 0 ≤ w.getD i 0 ∧ w.getD i 0 ≤ B) (hk : k ≤ n) : 0 ≤ inS s k w ∧ inS s k w ≤ k * B := by
  induction k with
  | zero => simp [inS]
  | succ k ih =>
    have h1 := ih (by omega)
    have h2 := hw k (by omega)
    have h3 : ((k + 1 : Nat) : Int) * B = (k : Int) * B + B := by rw [Int.natCast_add, Int.add_mul]; simp
    rw [sumBit s n w hk]
    split <;> omega

variable {S : AM.Sys} (hS : Only S 11)
include hS

theorem sumOf_runs (s : Nat) (hs : s < 128) (v : Value) (w : List Int) (r o : Nat) (H : Heap) (hl : SlI .i64 H v w r o) (h7 : w.length ≤ 7) (hw : ∀ i, i < w.length → 0 ≤ w.getD i 0 ∧ w.getD i 0 ≤ 100000) :
    Runs Try.prog S (.fn 58) [.int .i64 (s : Int), v] H (.int .i64 (inS s w.length w)) H := by
  suffices h : WCall Try.prog S (.fn 58) [.int .i64 (s : Int), v] H (fun u H' => u = .int .i64 (inS s w.length w) ∧ H' = H) by
    obtain ⟨_, _, hr, rfl, rfl⟩ := h; exact hr
  obtain ⟨a, cap, rfl⟩ := hl.v0
  refine Zaav Try.func58 rfl (Nat.le_of_ble_eq_true rfl) (hS.no rfl _ _) ?_
  rw [Try.ntmps58, Try.results58]
  repeat' (first | simp only [↓Zabm, ↓Zabo, ↓Zaaf, ↓Zabk, ↓Zabn, ↓Zacg, ↓Zacf, ↓Zacl, ↓Zaaq, ↓Zaai, ↓Zaao, ↓bxPut, ↓Zabi, ↓Zabg, ↓Zacj, ↓Zack, ↓Zacm, ↓Zaaz, ↓Zaax, Zach, Zabe, ↓reduceIte, Nat.reduceEqDiff, Nat.reduceLT, *, argF, List.getD_cons_zero, List.getD_cons_succ, lenI])
  refine sxL_of (fun m ρ H1 => ∃ k : Nat, m = w.length - k ∧ k ≤ w.length ∧ H1 = H ∧ ρ 0 = .int .i64 (s : Int) ∧ ρ 5 = .int .i64 (inS s k w) ∧ ρ 8 = .slice a w.length cap ∧ ρ 9 = .int .i64 w.length ∧ ρ 10 = .int .i64 k)
    ⟨0, rfl, Nat.zero_le _, rfl, rfl, rfl, rfl, rfl, rfl⟩ ?_
  rintro m ρ H1 ⟨k, rfl, hk, rfl, e0, e5, e8, e9, e10⟩
  by_cases hlt : k < w.length
  · have hix := SlI_ix hl hlt
    have hrd := (hl.rdI hlt).1
    have hwr := wrap_succ hlt hl.ml
    have hlt' : (k : Int) < (w.length : Int) := by omega
    have g1 := sumBit s w.length w hlt
    have g2 := inS_rng (s := s) hw (k := k) (by omega)
    have g3 := hw k hlt
    have hf := fun H => (has_runs hS s k hs (by omega) H).bx
    have hkB : (k : Int) * 100000 ≤ 700000 := by omega
    have hwa : IntKind.i64.wrap (inS s k w + w.getD k 0) = inS s k w + w.getD k 0 := IntWalk.i64_in _ (by omega)
    cases hb : s.testBit k with
    | true =>
      rw [hb] at g1 hf
      simp only [if_true] at g1
      clear hl g2 g3 hkB
      repeat' (first | simp only [↓Zabp, ↓Zabm, ↓Zabo, ↓Zaae, ↓Zabk, ↓Zabl, ↓Zacg, ↓Zacf, ↓Zacl, ↓Zaaq, ↓Zaai, ↓Zaap, ↓Zaaj, ↓Zaan, ↓Zaat, ↓bxPut, ↓Zabi, ↓Zabh, ↓Zaad, ↓Zaac, ↓Zabd, ↓Zabc, ↓Zacm, ↓Zaaz, ↓Zaax, ↓Zaay, Zach, Zaab, Zabb, Zabq, Zace, List.map_cons, List.map_nil, List.nil_append, List.append_nil, ↓reduceIte, Nat.reduceEqDiff, Nat.reduceLT, dec_T, true_and, one1, Option.bind_some, *, ldI])
      exact ⟨_, by omega, k + 1, rfl, by omega, congrArg (Value.int .i64) g1.symm, rfl⟩
    | false =>
      rw [hb] at g1 hf
      simp only [Bool.false_eq_true, if_false, Int.add_zero] at g1
      clear hl g2 g3 hkB
      repeat' (first | simp only [↓Zabp, ↓Zabm, ↓Zabo, ↓Zaae, ↓Zabk, ↓Zabl, ↓Zacg, ↓Zacf, ↓Zacl, ↓Zaaq, ↓Zaai, ↓Zaap, ↓Zaaj, ↓Zaan, ↓Zaat, ↓bxPut, ↓Zabi, ↓Zabh, ↓Zaad, ↓Zaac, ↓Zabd, ↓Zabc, ↓Zacm, ↓Zaaz, ↓Zaax, ↓Zaay, Zach, Zaab, Zabb, Zabq, Zace, Zacd, List.map_cons, List.map_nil, List.nil_append, List.append_nil, ↓reduceIte, Nat.reduceEqDiff, Nat.reduceLT, dec_T, true_and, one1, Option.bind_some, *, ldI])
      exact ⟨_, by omega, k + 1, rfl, by omega, congrArg (Value.int .i64) g1.symm, rfl⟩
  · have hlt' : ¬ (k : Int) < (w.length : Int) := by omega
    obtain rfl : k = w.length := by omega
    clear hl
    repeat' (first | simp only [↓Zabp, ↓Zabm, ↓Zabo, ↓Zaae, ↓Zabk, ↓Zabl, ↓Zacg, ↓Zacf, ↓Zacl, ↓Zaaq, ↓Zaai, ↓Zaap, ↓Zaaj, ↓Zaan, ↓Zaat, ↓bxPut, ↓Zabi, ↓Zabh, ↓Zaad, ↓Zaac, ↓Zabd, ↓Zabc, ↓Zacm, ↓Zaaz, ↓Zaax, ↓Zaay, Zach, Zaab, Zabb, Zabq, Zacd, List.nil_append, ↓reduceIte, Nat.reduceEqDiff, Nat.reduceLT, dec_F, and_self, *])

set_option maxHeartbeats 4000000 in
theorem game_runs (e : Int) (v : Value) (c : List Int) (r o : Nat) (H : Heap) (hg : Grp H) (hL : H.low ≤ H.size) (hl : SlI .i64 H v c r o) (hp : Q.Prob e c) :
    ∃ v2 r2 H', Runs Try.prog S (.fn 36) [.int .i64 e, v] H v2 H' ∧ Keep H H' ∧ SlI .i64 H' v2 (gvs e c) r2 0 ∧ H.size ≤ r2 := by
  suffices h : WCall Try.prog S (.fn 36) [.int .i64 e, v] H (fun v2 H' => Keep H H' ∧ ∃ r2, SlI .i64 H' v2 (gvs e c) r2 0 ∧ H.size ≤ r2) by
    obtain ⟨v2, H', hr, h1, r2, h2, h3⟩ := h; exact ⟨v2, r2, H', hr, h1, h2, h3⟩
  obtain ⟨va, vc, rfl⟩ := hl.v0
  have hc := hp.2.2.1
  have h7 := hp.2.1
  have he := hp.1
  have hmx : Go.maxLen = 9223372036854775807 := rfl
  have hp2 := pow_small c.length (by omega)
  have hp0 : 0 < 2 ^ c.length := Nat.two_pow_pos _
  obtain ⟨N, hN⟩ : ∃ N, N = 2 ^ c.length := ⟨_, rfl⟩
  have f1 := (every_runs hS c.length (by omega) H).bx
  have hbn := fun s hs => bit_not c.length (by omega) s hs
  have hsl : ∀ s : Nat, s < N → ∀ H', Keep H H' → ∀ (K : Value → Heap → Prop) (bl : Blk K), sxCallB Try.prog S (.fn 58) [.int .i64 ((N - 1 - s : Nat) : Int), .slice va c.length vc] H' K bl = K (.int .i64 (outS s c.length c)) H' := fun s hs H' hk => by
    have h1 := sumOf_runs hS (N - 1 - s) (by omega) _ c r o H' (hl.keep hk) (by omega) (fun i hi => hc _ (getD_mem hi))
    have h2 : inS (N - 1 - s) c.length c = outS s c.length c := by
      unfold inS outS
      refine sum_congr fun i hi => ?_
      rw [hN, (hbn s (by rw [← hN]; exact hs)).2 i hi]
      cases s.testBit i <;> rfl
    rw [h2] at h1
    exact h1.bx
  rw [← hN] at f1 hp0 hp2 hbn
  have hout : ∀ s : Nat, 0 ≤ outS s c.length c ∧ outS s c.length c ≤ 700000 := fun s => by
    have h1 : outS s c.length c ≤ ((List.range c.length).map fun i => c.getD i 0).sum := sum_le_of fun i hi => by
      have := hc _ (getD_mem (d := 0) (List.mem_range.1 hi))
      split <;> omega
    rw [← sum_range] at h1
    have h2 := Q.sum_le 100000 c fun x hx => (hc x hx).2
    refine ⟨?_, by omega⟩
    unfold outS
    refine sum_nonneg fun x hx => ?_
    obtain ⟨i, hi, rfl⟩ := List.mem_map.1 hx
    have := hc _ (getD_mem (d := 0) (List.mem_range.1 hi))
    split <;> omega
  have w1 : IntKind.i64.wrap (((N - 1 : Nat) : Int) + 1) = (N : Int) := by rw [IntWalk.i64_in _ (by omega)]; omega
  have mk := mkI H (l := (N : Int)) (by omega) (by omega)
  rw [Int.toNat_natCast] at mk
  obtain ⟨H1, e1, k1, s1, z1, -⟩ := box1 H ((List.replicate N (0 : Int)).map fun z => .int .i64 z) 3
  have o1 : Own H1 H.size 3 ((List.replicate N (0 : Int)).map fun z => .int .i64 z) := e1 ▸ Own.new H _ _
  rw [e1] at mk
  have hz1 : H1.size = H.size + 1 := by rw [← e1, size_new]
  have hNe : N ≤ 2 ^ c.length ∧ 2 ^ c.length ≤ N := by omega
  clear hl hN
  refine Zaav Try.func36 rfl (Nat.le_of_ble_eq_true rfl) (hS.no rfl _ _) ?_
  rw [Try.ntmps36, Try.results36]
  repeat' (first | simp only [↓Zabm, ↓Zabo, ↓Zaaf, ↓Zabk, ↓Zabn, ↓Zacg, ↓Zacf, ↓Zacl, ↓Zaaq, ↓Zaai, ↓Zaaj, ↓bxOp_makeSlice, ↓Zaat, ↓Zaao, ↓bxPut, ↓Zabi, ↓Zabg, ↓Zacj, ↓Zack, ↓Zacm, ↓Zaaz, ↓Zaax, ↓Zaay, Zach, Zaab, Zabb, Zabq, Zabe, List.map_cons, List.map_nil, List.nil_append, List.append_nil, ↓reduceIte, Nat.reduceEqDiff, Nat.reduceLT, *, argF, List.getD_cons_zero, List.getD_cons_succ, lenI])
  refine sxL_of (fun m ρ H2 => ∃ (k : Nat) (u : List Int), m = N - k ∧ k ≤ N ∧ u.length = N ∧ (∀ i, i < k → u.getD i 0 = gv e c i) ∧ Keep H H2 ∧ Own H2 H.size 3 (u.map fun z => .int .i64 z) ∧
      ρ 0 = .int .i64 e ∧ ρ 1 = .slice va c.length vc ∧ ρ 5 = .int .i64 ((N - 1 : Nat) : Int) ∧ ρ 6 = .slice (some ⟨H.size, 0, none⟩) N N ∧ ρ 15 = .int .i64 (N : Int) ∧ ρ 16 = .int .i64 (k : Int))
    ⟨0, List.replicate N 0, rfl, Nat.zero_le _, by simp, (fun i hi => absurd hi (Nat.not_lt_zero i)), k1, o1, rfl, rfl, rfl, rfl, rfl, rfl⟩ ?_
  clear f1 mk o1 e1 w1
  rintro m ρ H2 ⟨k, u, rfl, hk, hul, hu, k2, o2, e0, e1', e5, e6, e15, e16⟩
  by_cases hlt : k < N
  · have hlt' : (k : Int) < (N : Int) := by omega
    have hwr := wrap_succ hlt (by omega)
    have hfs := hsl k hlt H2 k2
    have ho := hout k
    have han : IntKind.i64.wrap (((BitVec.ofInt IntKind.i64.bits ((N - 1 : Nat) : Int) &&& ~~~BitVec.ofInt IntKind.i64.bits (k : Int)).toNat : Nat) : Int) = ((N - 1 - k : Nat) : Int) := by
      rw [show (BitVec.ofInt IntKind.i64.bits ((N - 1 : Nat) : Int) &&& ~~~BitVec.ofInt IntKind.i64.bits (k : Int)).toNat = _ from (hbn k hlt).1]
      exact wrapN (by omega)
    have hws : IntKind.i64.wrap (e - outS k c.length c) = e - outS k c.length c := IntWalk.i64_in _ (by omega)
    have hmax : (if e - outS k c.length c > 0 then e - outS k c.length c else 0) = gv e c k := by unfold gv; split <;> omega
    have hix2 : aIndexAt Try.prog 22 (.slice (some ⟨H.size, 0, none⟩) N N) (.int .i64 (k : Int)) = some (.pointer (some ⟨H.size, k, none⟩)) := by
      rw [ixI, if_pos ⟨by omega, by omega⟩, Int.toNat_natCast, Nat.zero_add, Nat.mul_one]
    obtain ⟨H3, st3, k3, z3, o3, r3⟩ := stI1 k2 (Nat.le_refl _) o2 (gv e c k) (o := k) (by omega)
    have hu2 : ∀ i, i < k + 1 → (u.set k (gv e c k)).getD i 0 = gv e c i := fun i hi => by
      rw [set_getD (by omega)]
      by_cases hik : i = k
      · rw [if_pos hik, hik]
      · rw [if_neg hik]; exact hu i (by omega)
    have hul2 : (u.set k (gv e c k)).length = N := by rw [List.length_set, hul]
    obtain ⟨u2, hu2'⟩ : ∃ u2, u2 = u.set k (gv e c k) := ⟨_, rfl⟩
    rw [← hu2'] at hu2 hul2 o3
    clear hsl hout hbn hu hul o2 r3 hc he h7 hp ho hu2'
    repeat' (first | simp only [↓Zabp, ↓Zabm, ↓Zabo, ↓Zaae, ↓Zabk, ↓Zabl, ↓Zacg, ↓Zacf, ↓Zacl, ↓Zaaq, ↓Zaai, ↓Zaas, ↓Zaaj, ↓Zaan, ↓Zaat, ↓bxOp_max, ↓Zaci, ↓bxPut, ↓Zabi, ↓Zabh, ↓Zaad, ↓Zaac, ↓Zabd, ↓Zabc, ↓Zacm, ↓Zaaz, ↓Zaax, ↓Zaay, Zach, mm_max, Zaab, Zabb, Zabq, Zace, List.map_cons, List.map_nil, List.nil_append, List.append_nil, ↓reduceIte, Nat.reduceEqDiff, Nat.reduceLT, dec_T, true_and, *, Zabb])
    exact ⟨N - (k + 1), by omega, k + 1, u2, rfl, by omega, hul2, hu2, by assumption, rfl⟩
  · have hlt' : ¬ (k : Int) < (N : Int) := by omega
    have hum : u = gvs e c := list_is _ hul ((gvs_len e c).trans (by omega)) (fun i hi => hu i (by omega)) (fun i hi => gvs_at (by omega))
    have hrg : ∀ z ∈ u, IntKind.i64.min ≤ z ∧ z ≤ IntKind.i64.max := all_of (d := 0) fun i hi => by
      rw [hu i (by omega)]
      have h5 : IntKind.i64.min = -9223372036854775808 := rfl
      have h6 : IntKind.i64.max = 9223372036854775807 := rfl
      have := hout i
      unfold gv
      omega
    have hs2 := Own.sl o2 hrg (by omega) N
    rw [hul, hum] at hs2
    clear hsl hout hbn hu hul o2 hc he h7 hp hum hrg
    repeat' (first | simp only [↓Zabp, ↓Zabm, ↓Zabo, ↓Zaae, ↓Zabk, ↓Zabl, ↓Zacg, ↓Zacf, ↓Zacl, ↓Zaaq, ↓Zaai, ↓Zaas, ↓Zaaj, ↓Zaan, ↓Zaat, ↓bxOp_max, ↓Zaci, ↓bxPut, ↓Zabi, ↓Zabh, ↓Zaad, ↓Zaac, ↓Zabd, ↓Zabc, ↓Zacm, ↓Zaaz, ↓Zaax, ↓Zaay, Zach, Zaab, Zabb, Zabq, Zacd, List.nil_append, ↓reduceIte, Nat.reduceEqDiff, Nat.reduceLT, dec_F, true_and, *])
    exact ⟨H.size, hs2, Nat.le_refl _⟩
theorem Game_runs (e : Int) (v : Value) (c : List Int) (r o : Nat) (H : Heap) (hg : Grp H) (hL : H.low ≤ H.size) (hl : SlI .i64 H v c r o) :
    ∃ v2 H' f, Runs Try.prog S (.fn 22) [.int .i64 e, v] H (.tuple ⟨[v2, .int .i64 f]⟩) H' ∧ Keep H H' ∧ (¬ Q.Prob e c → f = 2 ∧ v2 = .slice none 0 0) ∧ (Q.Prob e c → f = 0 ∧ ∃ r2, SlI .i64 H' v2 (gvs e c) r2 0 ∧ H.size ≤ r2) := by
  obtain ⟨va, vc, rfl⟩ := hl.v0
  obtain ⟨H2, k2, hR2⟩ := Q.isProblem_runs hS e _ c r o H hl
  have f2 := hR2.bx
  by_cases hp : Q.Prob e c
  case neg =>
    have d0 : decide (Q.Prob e c) = false := decide_eq_false hp
    refine ⟨.slice none 0 0, H2, 2, ?_, k2, fun _ => ⟨rfl, rfl⟩, fun h => absurd h hp⟩
    suffices h : WCall Try.prog S (.fn 22) [.int .i64 e, .slice va c.length vc] H (fun u H' => u = .tuple ⟨[.slice none 0 0, .int .i64 2]⟩ ∧ H' = H2) by
      obtain ⟨_, _, hr, rfl, rfl⟩ := h; exact hr
    clear hR2 hl hp
    refine Zaav Try.func22 rfl (Nat.le_of_ble_eq_true rfl) (hS.no rfl _ _) ?_
    rw [Try.ntmps22, Try.results22]
    repeat' (first | simp only [↓Zabp, ↓Zabm, ↓Zabo, ↓Zaae, ↓Zabn, ↓Zacg, ↓Zacf, ↓Zacl, ↓Zaaq, ↓Zaai, ↓bxOp_un, ↓Zaat, ↓bxPut, ↓Zabi, ↓Zabj, ↓Zabg, ↓Zacj, ↓Zack, ↓Zacm, ↓Zaaz, ↓Zaax, ↓Zaay, Zach, una_nf, Zabq, Zace, packRes_two, List.map_cons, List.map_nil, List.nil_append, List.append_nil, ↓reduceIte, Nat.reduceEqDiff, Nat.reduceLT, and_self, *, argF, List.getD_cons_zero, List.getD_cons_succ, packRes_two])
  have d0 : decide (Q.Prob e c) = true := decide_eq_true hp
  obtain ⟨v3, r3, H3, hR3, k3, s3, z3⟩ := game_runs hS e _ c r o H2 (k2.grp hg) (k2.low hL) (hl.keep k2) hp
  have f3 := hR3.bx
  refine ⟨v3, H3, 0, ?_, k2.trans k3, fun h => absurd hp h, fun _ => ⟨rfl, r3, s3, Nat.le_trans k2.size z3⟩⟩
  suffices h : WCall Try.prog S (.fn 22) [.int .i64 e, .slice va c.length vc] H (fun u H' => u = .tuple ⟨[v3, .int .i64 0]⟩ ∧ H' = H3) by
    obtain ⟨_, _, hr, rfl, rfl⟩ := h; exact hr
  clear hR2 hR3 hl hp s3
  refine Zaav Try.func22 rfl (Nat.le_of_ble_eq_true rfl) (hS.no rfl _ _) ?_
  rw [Try.ntmps22, Try.results22]
  repeat' (first | simp only [↓Zabp, ↓Zabm, ↓Zabo, ↓Zaae, ↓Zabn, ↓Zacg, ↓Zacf, ↓Zacl, ↓Zaaq, ↓Zaai, ↓bxOp_un, ↓Zaat, ↓bxPut, ↓Zabi, ↓Zabj, ↓Zabg, ↓Zacj, ↓Zack, ↓Zacm, ↓Zaaz, ↓Zaax, ↓Zaay, Zach, una_nt, Zabq, Zacd, packRes_two, List.map_cons, List.map_nil, List.nil_append, List.append_nil, ↓reduceIte, Nat.reduceEqDiff, Nat.reduceLT, and_self, *, argF, List.getD_cons_zero, List.getD_cons_succ, packRes_two])
end Go.Proofs.Ytpeoleimmabceaa
