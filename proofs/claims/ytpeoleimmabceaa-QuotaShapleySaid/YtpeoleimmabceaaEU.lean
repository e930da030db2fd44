/- Factorials on the canonical machine; bounds. -/
import Derived.Test.YtpeoleimmabceaaET
set_option linter.unusedVariables false
set_option linter.unusedSimpArgs false
set_option linter.unusedSectionVars false

namespace Go.Proofs.Ytpeoleimmabceaa
open Go Go.AM
set_option maxRecDepth 10000

theorem pow_bit : ∀ i, i < 8 → IntKind.i64.wrap (1 * 2 ^ min i IntKind.i64.bits) = ((2 ^ i : Nat) : Int) := by decide +kernel
def PS (e : Int) (c : List Int) (i k : Nat) : Int := ((List.range k).map (term e c i)).sum
theorem PS_succ (e : Int) (c : List Int) (i k : Nat) : PS e c i (k + 1) = PS e c i k + term e c i k := by
  unfold PS
  rw [List.range_succ, List.map_append, List.sum_append]
  simp
theorem gv_rng {e : Int} {c : List Int} (hp : Q.Prob e c) (s : Nat) : 0 ≤ gv e c s ∧ gv e c s ≤ 100000 := by
  have h1 : 0 ≤ outS s c.length c := by
    unfold outS
    refine sum_nonneg fun x hx => ?_
    obtain ⟨i, hi, rfl⟩ := List.mem_map.1 hx
    have := hp.2.2.1 _ (getD_mem (d := 0) (List.mem_range.1 hi))
    split <;> omega
  have := hp.1
  unfold gv
  omega
theorem gv_more {e : Int} {c : List Int} (hp : Q.Prob e c) {i s : Nat} (hi : i < c.length) (hs : s < 2 ^ c.length) (hb : s.testBit i = false) : 0 ≤ gv e c (s + 2 ^ i) - gv e c s ∧ gv e c (s + 2 ^ i) - gv e c s ≤ 100000 := by
  have h7 : c.length < 8 := by have := hp.2.1; omega
  obtain ⟨h2, h3⟩ := add_bit _ h7 s hs i hi hb
  have h4 := outS_or (c := c) hi hb
  have h5 := (hp.2.2.1 _ (getD_mem (d := 0) hi))
  have h6 := gv_rng hp s
  have h7 := gv_rng hp (s + 2 ^ i)
  unfold gv at *
  rw [h3, h4] at h7 ⊢
  omega
theorem fact2 {a b : Nat} (ha : a < 8) (hb : b < 8) : (1 ≤ factN a ∧ factN a ≤ 5040) ∧ (1 ≤ factN b ∧ factN b ≤ 5040) ∧ 0 ≤ factN a * factN b ∧ factN a * factN b ≤ 25401600 := by
  have h1 := factN_small a ha
  have h2 := factN_small b hb
  have h3 : factN a * factN b ≤ 5040 * 5040 := Int.mul_le_mul h1.2 h2.2 (by omega) (by omega)
  exact ⟨h1, h2, Int.mul_nonneg (by omega) (by omega), by omega⟩
theorem term_rng {e : Int} {c : List Int} (hp : Q.Prob e c) {i s : Nat} (hi : i < c.length) (hs : s < 2 ^ c.length) : 0 ≤ term e c i s ∧ term e c i s ≤ 2540160000000 := by
  unfold term
  have h7 : c.length < 8 := by have := hp.2.1; omega
  cases hb : s.testBit i with
  | true => exact ⟨Int.le_refl _, show (0 : Int) ≤ 2540160000000 by decide⟩
  | false =>
    have h1 := gv_more hp hi hs hb
    have h2 := PC_bit _ h7 s hs i hi hb
    have h3 := fact2 (a := PC s c.length) (b := c.length - 1 - PC s c.length) (by omega) (by omega)
    simp only [Bool.false_eq_true, if_false]
    have h4 : factN (PC s c.length) * factN (c.length - 1 - PC s c.length) * (gv e c (s + 2 ^ i) - gv e c s) ≤ 25401600 * 100000 := Int.mul_le_mul h3.2.2.2 h1.2 h1.1 (by omega)
    exact ⟨Int.mul_nonneg h3.2.2.1 h1.1, by omega⟩
theorem PS_rng {e : Int} {c : List Int} (hp : Q.Prob e c) {i : Nat} (hi : i < c.length) : ∀ k, k ≤ 2 ^ c.length → 0 ≤ PS e c i k ∧ PS e c i k ≤ k * 2540160000000
  | 0, _ => ⟨Int.le_refl _, show (0 : Int) ≤ ((0 : Nat) : Int) * 2540160000000 by decide⟩
  | k + 1, h => by
    have h1 := PS_rng hp hi k (by omega)
    have h2 := term_rng hp hi (s := k) (by omega)
    rw [PS_succ]
    omega

variable {S : AM.Sys} (hS : Only S 11)
include hS

theorem factorial_runs (n : Nat) (hn : n ≤ 7) (H : Heap) : Runs Try.prog S (.fn 23) [.int .i64 (n : Int)] H (.int .i64 (factN n)) H := by
  suffices h : WCall Try.prog S (.fn 23) [.int .i64 (n : Int)] H (fun u H' => u = .int .i64 (factN n) ∧ H' = H) by
    obtain ⟨_, _, hr, rfl, rfl⟩ := h; exact hr
  refine Zaav Try.func23 rfl (Nat.le_of_ble_eq_true rfl) (hS.no rfl _ _) ?_
  rw [Try.ntmps23, Try.results23]
  repeat' (first | simp only [↓Zabm, ↓Zabo, ↓Zaaf, ↓Zabk, ↓Zabn, ↓Zacg, ↓Zacf, ↓Zacl, ↓Zaaq, ↓Zaai, ↓bxPut, ↓Zabi, ↓Zabg, ↓Zacj, ↓Zack, ↓Zaaz, ↓Zaax, Zabe, Nat.reduceLT, *])
  refine sxL_of (fun m ρ H1 => ∃ k : Nat, m = 8 - k ∧ 1 ≤ k ∧ (k ≤ n ∨ k = 1) ∧ H1 = H ∧ ρ 0 = .int .i64 (n : Int) ∧ ρ 3 = .int .i64 (factN k) ∧ ρ 4 = .int .i64 ((k + 1 : Nat) : Int))
    ⟨1, rfl, Nat.le_refl _, .inr rfl, rfl, rfl, rfl, rfl⟩ ?_
  rintro m ρ H1 ⟨k, rfl, hk1, hkn, rfl, e0, e3, e4⟩
  by_cases hlt : k + 1 ≤ n
  · have hlt' : ((k + 1 : Nat) : Int) ≤ (n : Int) := by omega
    have h1 := factN_small (k + 1) (by omega)
    have h2 : factN (k + 1) = ((k + 1 : Nat) : Int) * factN k := rfl
    have h3 : IntKind.i64.wrap (factN k * ((k + 1 : Nat) : Int)) = factN (k + 1) := by rw [Int.mul_comm, ← h2]; exact IntWalk.i64_in _ (by omega)
    have h4 : IntKind.i64.wrap (((k + 1 : Nat) : Int) + 1) = ((k + 1 + 1 : Nat) : Int) := IntWalk.i64_in _ (by omega)
    clear h1 h2 hkn
    repeat' (first | simp only [↓Zabp, ↓Zabm, ↓Zabo, ↓Zaae, ↓Zabk, ↓Zabl, ↓Zacg, ↓Zacf, ↓Zacl, ↓Zaaq, ↓Zaai, ↓Zaaj, ↓bxPut, ↓Zabi, ↓Zabh, ↓Zaad, ↓Zaac, ↓Zabd, ↓Zabc, ↓Zacm, ↓Zaaz, ↓Zaax, Zach, Zaab, Zabb, Zace, ↓reduceIte, Nat.reduceEqDiff, Nat.reduceLT, dec_T, true_and, *])
    exact ⟨8 - (k + 1), by omega, k + 1, rfl, by omega, .inl hlt, rfl, rfl⟩
  · have hlt' : ¬ ((k + 1 : Nat) : Int) ≤ (n : Int) := by omega
    have hkf : factN k = factN n := by
      rcases hkn with h | h
      · rw [show k = n by omega]
      · subst h
        rcases (by omega : n = 0 ∨ n = 1) with rfl | rfl <;> rfl
    rw [hkf] at e3
    clear hkf hkn
    repeat' (first | simp only [↓Zabp, ↓Zabm, ↓Zabo, ↓Zaae, ↓Zabk, ↓Zabl, ↓Zacg, ↓Zacf, ↓Zacl, ↓Zaaq, ↓Zaai, ↓Zaaj, ↓bxPut, ↓Zabi, ↓Zabh, ↓Zaad, ↓Zaac, ↓Zabd, ↓Zabc, ↓Zacm, ↓Zaaz, ↓Zaax, Zach, Zaab, Zabb, Zacd, ↓reduceIte, Nat.reduceEqDiff, Nat.reduceLT, dec_F, and_self, *])
end Go.Proofs.Ytpeoleimmabceaa
