/- From arguments as they come in, in any world, to the machine's memory; and the walk: InspectLeans returns true and nothing that was there has turned. -/
import Derived.Test.YtnbhjbelgmkpeaaDoorW0
import Derived.Test.YtnbhjbelgmkpeaaDoorGD
set_option linter.unusedVariables false
set_option linter.unusedSimpArgs false
set_option linter.unusedSectionVars false

namespace Go.Proofs.YtnbhjbelgmkpeaaDoor
open Go Go.ChangeShapes Go.WideShapes Go.ChangeAt Go.RowKit Go.Deep
set_option linter.unusedVariables false
set_option maxRecDepth 100000
open AM in
theorem intss_imp : Imp Tryd.prog 22 (sliceE (sliceE (intE .i64))) := sliceE_imp ints_imp Tryd.underlying22 cellsIs (show 0 < 1 by omega)
open AM in
theorem walkG {X : Type} {enc : TypeId × Value → X} {v1 : Value} {x1 : DataW X} {p1 : List MemPlace} (W : World) (h1 : DataW.Trod enc Tryd.prog W 0 (fun _ => true) true 22 v1 x1 p1) (c1 : v1.cells.toList = [v1]) (hL : laidMetH Tryd.prog [("math/bits.deBruijn32tab", Rows.laid_math_bits_deBruijn32tab)] W) :
    Calls Tryd.prog 4 #[v1] W fun e w' => e = .returned (.bool true) ∧ Below W.heap.size W w' := by
  obtain ⟨t, fz, hb⟩ := of_laid hL
  have i1 := (Ins.empty (P := Tryd.prog) W).addPlain hb rfl
  obtain ⟨d, m2, H2, w1, i2, hm2, hk2, hv1, hd⟩ := intss_imp.arg h1 c1 i1
  obtain ⟨w1', r1, o1, e1, hd⟩ := hd
  cases e1
  have hrow : (H0 t).rows.get 0 = some (row0 t) := by unfold H0; rw [Heap.add_get]; exact if_pos rfl
  have hkeep : Keep (H0 t) H2 := hk2
  obtain ⟨H', hr⟩ := leans_runs (sys_only t) d w1 r1 o1 H2 i2.grp i2.low hd (fun H' hk => sys_known ((hkeep.trans hk).row 0 _ (by unfold H0; rw [Heap.add_size]; omega) hrow).1)
  refine calls_of_runs (S := sys t) okP mixP (sys_ok t) hr i2.hr ?_ (args' := [v1]) ?_ rfl
  · intro g hg
    have hg0 : g = 0 := by have hg : g < 1 := hg; omega
    subst hg0
    exact ⟨_, hm2 _ _ (Map.put_same _ _ _), rfl, rfl⟩
  · exact .cons hv1 .nil
end Go.Proofs.YtnbhjbelgmkpeaaDoor
