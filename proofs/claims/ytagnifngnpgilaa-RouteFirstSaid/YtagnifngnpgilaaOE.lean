/- What no error says; what is few. -/
import Derived.Test.YtagnifngnpgilaaR8a
set_option linter.unusedVariables false
set_option linter.unusedSimpArgs false
set_option linter.unusedSectionVars false

namespace Go.Proofs.Ytagnifngnpgilaa
set_option linter.unusedSectionVars false
open Go Go.AM
set_option maxRecDepth 10000
set_option linter.unusedSimpArgs false
set_option linter.unusedVariables false

theorem errC_vals (n : Int) (ls : List Lg) (ch fr to : Int) (ts : List Int) : errC n ls ch fr to ts = 0 ∨ errC n ls ch fr to ts = 2 ∨ errC n ls ch fr to ts = 3 := by
  unfold errC
  split <;> (try split) <;> (try split) <;> (try split) <;> (try split) <;> simp
/-- What is wrong without times is wrong with them. -/
theorem errC_nil {n : Int} {ls : List Lg} {ch fr to : Int} (ts : List Int) (h : errC n ls ch fr to [] ≠ 0) : errC n ls ch fr to ts = errC n ls ch fr to [] := by
  unfold errC at h ⊢
  by_cases h1 : ¬ (1 ≤ n ∧ n ≤ 8)
  · rw [if_pos h1, if_pos h1]
  rw [if_neg h1] at h ⊢
  rw [if_neg h1]
  by_cases h2 : 60 < ls.length
  · rw [if_pos h2, if_pos h2]
  rw [if_neg h2] at h ⊢
  rw [if_neg h2]
  by_cases h3 : ¬ ∀ x ∈ ls, LegOk n x
  · rw [if_pos h3, if_pos h3]
  rw [if_neg h3] at h ⊢
  rw [if_neg h3]
  by_cases h4 : ¬ (0 ≤ ch ∧ ch ≤ 100) ∨ ¬ (0 ≤ fr ∧ fr ≤ n - 1) ∨ ¬ (0 ≤ to ∧ to ≤ n - 1)
  · rw [if_pos h4, if_pos h4]
  rw [if_neg h4] at h
  exact absurd (by rw [if_neg]; simp) h
theorem errC_one {n : Int} {ls : List Lg} {ch fr to : Int} (t : Int) (h : errC n ls ch fr to [] = 0) : errC n ls ch fr to [t] = if 0 ≤ t ∧ t ≤ 10000 then 0 else 2 := by
  unfold errC at h ⊢
  by_cases h1 : ¬ (1 ≤ n ∧ n ≤ 8)
  · rw [if_pos h1] at h; exact absurd h (by decide)
  rw [if_neg h1] at h ⊢
  by_cases h2 : 60 < ls.length
  · rw [if_pos h2] at h; exact absurd h (by decide)
  rw [if_neg h2] at h ⊢
  by_cases h3 : ¬ ∀ x ∈ ls, LegOk n x
  · rw [if_pos h3] at h; exact absurd h (by decide)
  rw [if_neg h3] at h ⊢
  by_cases h4 : ¬ (0 ≤ ch ∧ ch ≤ 100) ∨ ¬ (0 ≤ fr ∧ fr ≤ n - 1) ∨ ¬ (0 ≤ to ∧ to ≤ n - 1)
  · rw [if_pos h4] at h; exact absurd h (by decide)
  rw [if_neg h4] at h ⊢
  by_cases ht : 0 ≤ t ∧ t ≤ 10000
  · rw [if_pos ht, if_neg (by simpa using ht)]
  · rw [if_neg ht, if_pos (by simpa using ht)]
variable {S : AM.Sys} (hS : Only S 10)
include hS

theorem few_runs (a : Option Addr) (n c : Nat) (H : Heap) : Runs Try.prog S (.fn 9) [.slice a n c] H (.bool (decide ((n : Int) ≤ 80))) H := by
  suffices h : WCall Try.prog S (.fn 9) [.slice a n c] H (fun v H' => v = .bool (decide ((n : Int) ≤ 80)) ∧ H' = H) by
    obtain ⟨_, _, hr, rfl, rfl⟩ := h; exact hr
  refine Zaaz Try.func9 rfl (Nat.le_of_ble_eq_true rfl) (hS.no rfl _ _) ?_
  rw [Try.ntmps9, Try.results9]
  repeat' (first | (with_reducible refine Zacp (fun h => ?_) (fun h => ?_)) | (with_reducible refine Zacn (fun h => ?_) (fun h => ?_)) | (with_reducible refine sxIfB_sp (fun h => ?_) (fun h => ?_)) | simp only [↓Zabv, ↓Zabx, ↓Zabw, ↓Zacu, ↓Zact, ↓Zacz, ↓Zaat, ↓Zaam, ↓Zaan, ↓bxOp_len, ↓bxPut, ↓Zabq, ↓Zabo, ↓Zacx, ↓Zacy, ↓Zada, ↓Zabe, ↓Zabc, Zacv, Zaae, Zabg, Zabk, ↓reduceIte, Nat.reduceEqDiff, Nat.reduceLT, and_self, *, argF, List.getD_cons_zero, lenG])

end Go.Proofs.Ytagnifngnpgilaa
