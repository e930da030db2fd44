/- From arguments as they come in, in any world, to the machine's memory; and the walk: InspectMore returns true and nothing that was there has turned. -/
import Derived.Test.YtnbhjbelgmkpeaaDoorW0
import Derived.Test.YtnbhjbelgmkpeaaDoorL2
set_option linter.unusedVariables false
set_option linter.unusedSimpArgs false
set_option linter.unusedSectionVars false

namespace Go.Proofs.YtnbhjbelgmkpeaaDoor
open Go Go.ChangeShapes Go.WideShapes Go.ChangeAt Go.RowKit Go.Deep
open AM in
theorem walkM (n : Int) (hn : (Lit.int .u8 n).wf = true) (m : Int) (hm : (Lit.int .u8 m).wf = true) (W : World) (hL : laidMetH Tryd.prog [("math/bits.deBruijn32tab", Rows.laid_math_bits_deBruijn32tab)] W) :
    Calls Tryd.prog 7 #[.int .u8 n, .int .u8 m] W fun e w' => e = .returned (.bool true) ∧ Below W.heap.size W w' := by
  simp only [Lit.wf, Bool.and_eq_true, decide_eq_true_eq] at hn hm
  exact
  walk2 7 (fun t n m H hg hL hn hm hO => more_runs (sys_only t) n m (n % 14).toNat (m % 14).toNat H hg hL (modN n 14 13 hn.1 (by decide) (by decide)) (modN m 14 13 hm.1 (by decide) (by decide)) (tmodN n 14 hn.1 (by decide)) (tmodN m 14 hm.1 (by decide)) hO) n (by simp only [Lit.wf, Bool.and_eq_true, decide_eq_true_eq]; exact hn) m (by simp only [Lit.wf, Bool.and_eq_true, decide_eq_true_eq]; exact hm) W hL
end Go.Proofs.YtnbhjbelgmkpeaaDoor
