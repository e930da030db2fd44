/- What no error says; what is few. -/
import Derived.Test.YthkdnlegolphkaaR8a
set_option linter.unusedVariables false
set_option linter.unusedSimpArgs false
set_option linter.unusedSectionVars false

namespace Go.Proofs.Ythkdnlegolphkaa
open Go Go.AM
set_option maxRecDepth 10000

theorem errC_one {n : Int} {ls : List Lg} {ch fr to : Int} (t : Int) (h : errC n ls ch fr to [] = 0) : errC n ls ch fr to [t] = if 0 ≤ t ∧ t ≤ 10000 then 0 else 2 := by
  unfold errC at h ⊢
  by_cases h1 : ¬ (1 ≤ n ∧ n ≤ 8)
  · rw [if_pos h1] at h; exact absurd h (by decide)
  rw [if_neg h1] at h ⊢
  by_cases h2 : 60 < ls.length
  · rw [if_pos h2] at h; exact absurd h (by decide)
  rw [if_neg h2] at h ⊢
  by_cases h3 : ¬ ∀ x ∈ ls, LegOk n x
  · rw [if_pos h3] at h; exact absurd h (by decide)
  rw [if_neg h3] at h ⊢
  by_cases h4 : ¬ (0 ≤ ch ∧ ch ≤ 100) ∨ ¬ (0 ≤ fr ∧ fr ≤ n - 1) ∨ ¬ (0 ≤ to ∧ to ≤ n - 1)
  · rw [if_pos h4] at h; exact absurd h (by decide)
  rw [if_neg h4] at h ⊢
  by_cases ht : 0 ≤ t ∧ t ≤ 10000
  · rw [if_pos ht, if_neg (by simpa using ht)]
  · rw [if_neg ht, if_pos (by simpa using ht)]
variable {S : AM.Sys} (hS : Only S 10)
include hS

theorem few_runs (a : Option Addr) (n c : Nat) (H : Heap) : Runs Try.prog S (.fn 9) [.slice a n c] H (.bool (decide ((n : Int) ≤ 80))) H := by
  suffices h : WCall Try.prog S (.fn 9) [.slice a n c] H (fun v H' => v = .bool (decide ((n : Int) ≤ 80)) ∧ H' = H) by
    obtain ⟨_, _, hr, rfl, rfl⟩ := h; exact hr
  refine Zaaz Try.func9 rfl (Nat.le_of_ble_eq_true rfl) (hS.no rfl _ _) ?_
  rw [Try.ntmps9, Try.results9]
  repeat' (first | simp only [↓Zabv, ↓Zabx, ↓Zabw, ↓Zacs, ↓Zacr, ↓Zacx, ↓Zaat, ↓Zaam, ↓Zaan, ↓bxOp_len, ↓bxPut, ↓Zabq, ↓Zabo, ↓Zacv, ↓Zacw, ↓Zacy, ↓Zabe, ↓Zabc, Zact, Zaae, Zabg, Zabk, ↓reduceIte, Nat.reduceEqDiff, Nat.reduceLT, and_self, *, argF, List.getD_cons_zero, lenG])

end Go.Proofs.Ythkdnlegolphkaa
