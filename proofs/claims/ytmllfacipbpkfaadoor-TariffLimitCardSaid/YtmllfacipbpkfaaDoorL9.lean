/- From arguments as they come in, in any world, to the machine's memory; and the walk: TariffLimit returns true and nothing that was there has turned. -/
import Derived.Test.YtmllfacipbpkfaaDoorL1
import Derived.Test.YtmllfacipbpkfaaDoorC9
set_option linter.unusedVariables false
set_option linter.unusedSimpArgs false
set_option linter.unusedSectionVars false

namespace Go.Proofs.YtmllfacipbpkfaaDoor
open Go Go.ChangeShapes Go.WideShapes Go.ChangeAt Go.RowKit Go.Deep
set_option linter.unusedVariables false
set_option maxRecDepth 100000

open AM in
/-- THE WALK: whatever came in, the law answers true, and what was there stays. -/
theorem walkL (more : Bool) (value : Int) (hw : (Lit.int .u16 value).wf = true) (W : World) (hL : laidMetH Tryd.prog [("math/bits.deBruijn64tab", Rows.laid_math_bits_deBruijn64tab)] W) :
    Calls Tryd.prog 5 #[.bool more, .int .u16 value] W fun e w' => e = .returned (.bool true) ∧ Below W.heap.size W w' := by
  simp only [Lit.wf, Bool.and_eq_true, decide_eq_true_eq] at hw
  have hw' : 0 ≤ value ∧ value ≤ 65535 := hw
  obtain ⟨t, fz, hb⟩ := of_laid hL
  have i0 : Ins Tryd.prog W.heap.size (fun _ => none) emptyH W := ⟨empty_hr W, (fun r rm h => by cases h), Nat.le_refl _⟩
  have i1 := i0.addPlain hb rfl
  have hrow : (H0 t).rows.get 0 = some (row0 t) := by unfold H0; rw [Heap.add_get]; exact if_pos rfl
  obtain ⟨H', hr⟩ := limit_runs (sys_only t) more value (H0 t) i1.low hw' (fun H' hk => sys_known (hk.row 0 _ (by unfold H0; rw [Heap.add_size]; omega) hrow).1)
  refine calls_of_runs (S := sys t) okP mixP (sys_ok t) hr i1.hr ?_ (args' := [.bool more, .int .u16 value]) ?_ rfl
  · intro g hg
    have hg0 : g = 0 := by have hg : g < 1 := hg; omega
    subst hg0
    exact ⟨_, Map.put_same _ _ _, rfl, rfl⟩
  · exact .cons (.plain rfl) (.cons (.plain rfl) .nil)
end Go.Proofs.YtmllfacipbpkfaaDoor
