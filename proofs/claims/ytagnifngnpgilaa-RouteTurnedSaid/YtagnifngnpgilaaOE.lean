/- What no error says; what is few. -/
import Derived.Test.YtagnifngnpgilaaR8a
set_option linter.unusedVariables false
set_option linter.unusedSimpArgs false
set_option linter.unusedSectionVars false

namespace Go.Proofs.Ytagnifngnpgilaa
set_option linter.unusedSectionVars false
open Go Go.AM
set_option maxRecDepth 10000
set_option linter.unusedSimpArgs false
set_option linter.unusedVariables false

variable {S : AM.Sys} (hS : Only S 10)
include hS

theorem few_runs (a : Option Addr) (n c : Nat) (H : Heap) : Runs Try.prog S (.fn 9) [.slice a n c] H (.bool (decide ((n : Int) ≤ 80))) H := by
  suffices h : WCall Try.prog S (.fn 9) [.slice a n c] H (fun v H' => v = .bool (decide ((n : Int) ≤ 80)) ∧ H' = H) by
    obtain ⟨_, _, hr, rfl, rfl⟩ := h; exact hr
  refine Zaaz Try.func9 rfl (Nat.le_of_ble_eq_true rfl) (hS.no rfl _ _) ?_
  rw [Try.ntmps9, Try.results9]
  repeat' (first | (with_reducible refine Zacp (fun h => ?_) (fun h => ?_)) | (with_reducible refine Zacn (fun h => ?_) (fun h => ?_)) | (with_reducible refine sxIfB_sp (fun h => ?_) (fun h => ?_)) | simp only [↓Zabv, ↓Zabx, ↓Zabw, ↓Zacu, ↓Zact, ↓Zacz, ↓Zaat, ↓Zaam, ↓Zaan, ↓bxOp_len, ↓bxPut, ↓Zabq, ↓Zabo, ↓Zacx, ↓Zacy, ↓Zada, ↓Zabe, ↓Zabc, Zacv, Zaae, Zabg, Zabk, ↓reduceIte, Nat.reduceEqDiff, Nat.reduceLT, and_self, *, argF, List.getD_cons_zero, lenG])

end Go.Proofs.Ytagnifngnpgilaa
