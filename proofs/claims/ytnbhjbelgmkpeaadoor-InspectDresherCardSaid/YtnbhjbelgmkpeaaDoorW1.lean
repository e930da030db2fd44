/- From arguments as they come in, in any world, to the machine's memory; and the walk: InspectDresher returns true and nothing that was there has turned. -/
import Derived.Test.YtnbhjbelgmkpeaaDoorW0
import Derived.Test.YtnbhjbelgmkpeaaDoorL1
set_option linter.unusedVariables false
set_option linter.unusedSimpArgs false
set_option linter.unusedSectionVars false

namespace Go.Proofs.YtnbhjbelgmkpeaaDoor
open Go Go.ChangeShapes Go.WideShapes Go.ChangeAt Go.RowKit Go.Deep
theorem tmodN (n k : Int) (h : 0 ≤ n) (hk : 0 < k) : n.tmod k = ((n % k).toNat : Int) := by
  rw [Int.tmod_eq_emod_of_nonneg h, Int.toNat_of_nonneg (Int.emod_nonneg _ (by omega))]
theorem modN (n k : Int) (b : Nat) (h : 0 ≤ n) (hk : 0 < k) (hb : k ≤ (b : Int) + 1) : (n % k).toNat ≤ b := by
  have := Int.emod_nonneg n (show k ≠ 0 by omega)
  have := Int.emod_lt_of_pos n hk
  omega
open AM in
theorem walkD (n : Int) (hn : (Lit.int .u8 n).wf = true) (m : Int) (hm : (Lit.int .u8 m).wf = true) (W : World) (hL : laidMetH Tryd.prog [("math/bits.deBruijn32tab", Rows.laid_math_bits_deBruijn32tab)] W) :
    Calls Tryd.prog 6 #[.int .u8 n, .int .u8 m] W fun e w' => e = .returned (.bool true) ∧ Below W.heap.size W w' := by
  simp only [Lit.wf, Bool.and_eq_true, decide_eq_true_eq] at hn hm
  exact
  walk2 6 (fun t n m H hg hL hn hm hO => dresher_runs (sys_only t) n m (n % 15).toNat (m % 15).toNat H hg hL (modN n 15 14 hn.1 (by decide) (by decide)) (modN m 15 14 hm.1 (by decide) (by decide)) (tmodN n 15 hn.1 (by decide)) (tmodN m 15 hm.1 (by decide)) hO) n (by simp only [Lit.wf, Bool.and_eq_true, decide_eq_true_eq]; exact hn) m (by simp only [Lit.wf, Bool.and_eq_true, decide_eq_true_eq]; exact hm) W hL
end Go.Proofs.YtnbhjbelgmkpeaaDoor
