/- From arguments as they come in, in any world, to the machine's memory; and the walk: InspectDays returns true and nothing that was there has turned. -/
import Derived.Test.YtnbhjbelgmkpeaaDoorW0
import Derived.Test.YtnbhjbelgmkpeaaDoorL4
set_option linter.unusedVariables false
set_option linter.unusedSimpArgs false
set_option linter.unusedSectionVars false

namespace Go.Proofs.YtnbhjbelgmkpeaaDoor
open Go Go.ChangeShapes Go.WideShapes Go.ChangeAt Go.RowKit Go.Deep
open AM in
/-- THE WALK of the law of days: whatever came in, the law answers true, and what was there stays. -/
theorem walkY (n m : Int) (W : World) (hL : laidMetH Tryd.prog [("math/bits.deBruijn32tab", Rows.laid_math_bits_deBruijn32tab)] W) :
    Calls Tryd.prog 5 #[.int .i64 n, .int .i64 m] W fun e w' => e = .returned (.bool true) ∧ Below W.heap.size W w' := by
  obtain ⟨t, fz, hb⟩ := of_laid hL
  have i1 := (Ins.empty (P := Tryd.prog) W).addPlain hb rfl
  have hrow : (H0 t).rows.get 0 = some (row0 t) := by unfold H0; rw [Heap.add_get]; exact if_pos rfl
  obtain ⟨H', hr⟩ := days_runs (sys_only t) n m (H0 t) i1.grp i1.low (fun H' hk => sys_known (hk.row 0 _ (by unfold H0; rw [Heap.add_size]; omega) hrow).1)
  refine calls_of_runs (S := sys t) okP mixP (sys_ok t) hr i1.hr ?_ (args' := [.int .i64 n, .int .i64 m]) ?_ rfl
  · intro g hg
    have hg0 : g = 0 := by have hg : g < 1 := hg; omega
    subst hg0
    exact ⟨_, Map.put_same _ _ _, rfl, rfl⟩
  · exact .cons (.plain rfl) (.cons (.plain rfl) .nil)
end Go.Proofs.YtnbhjbelgmkpeaaDoor
