/- What came in, as the machine's memory has it: numbers, rules; and the package variable. -/
import Derived.Test.YtmllfacipbpkfaaDoorC8
import Derived.Test.YtmllfacipbpkfaaDoorGg
import Derived.Test.YtmllfacipbpkfaaDoorRows
set_option linter.unusedVariables false
set_option linter.unusedSimpArgs false
set_option linter.unusedSectionVars false

namespace Go.Proofs.YtmllfacipbpkfaaDoor
open Go Go.ChangeShapes Go.WideShapes Go.ChangeAt Go.RowKit Go.Deep
set_option linter.unusedVariables false
set_option maxRecDepth 100000

theorem own : ownKnob Tryd.prog.godebug = none := by kernel_rfl
theorem laidOut : laidOutB Tryd.prog = true := by kernel_rfl
theorem gTab : Tryd.prog.globalNamed "math/bits.deBruijn64tab" = some 0 := by kernel_rfl
theorem tTab : (Tryd.prog.globals[0]?).map (·.type) = some 147 := by kernel_rfl
theorem cellsTab : Tryd.prog.cellsOf 147 = 64 := by kernel_rfl
theorem cellsU : Tryd.prog.cellsOf 5 = 1 := by kernel_rfl
theorem cellsI : Tryd.prog.cellsOf 3 = 1 := by kernel_rfl
theorem cellsIs : Tryd.prog.cellsOf 23 = 1 := by kernel_rfl
theorem cellsN : Tryd.prog.cellsOf 32 = 3 := by kernel_rfl
theorem cellsB : Tryd.prog.cellsOf 63 = 2 := by kernel_rfl
theorem cellsBs : Tryd.prog.cellsOf 42 = 1 := by kernel_rfl
theorem cellsR : Tryd.prog.cellsOf 44 = 2 := by kernel_rfl
theorem laid_tab {H : Type} : Rows.laid_math_bits_deBruijn64tab (H := H) = .agg (tabN.map fun z => .lit (.int .u8 z)) := rfl

theorem of_laid {W : World} (h : laidMetH Tryd.prog [("math/bits.deBruijn64tab", Rows.laid_math_bits_deBruijn64tab)] W) : ∃ t fz, W.heap[0]? = some (.cells ⟨tab⟩ t fz) := by
  rw [MakeChecks.laidMetH_plain _ _ _ (by kernel_rfl)] at h
  obtain ⟨ps, ⟨g0, t0, cs0, f0, p0, q0, hg0, ht0, hv0, hd0, _, _⟩, _, _⟩ := h
  obtain rfl := Option.some.inj (gTab.symm.trans hg0)
  obtain rfl := Option.some.inj (tTab.symm.trans ht0)
  obtain ⟨t, fz, hb⟩ := AM.var_block hg0 hv0
  rw [laid_tab] at hd0
  have hcs := AM.ints_laid Tryd.underlying147 Tryd.underlying5 cellsU cellsTab hd0
  refine ⟨t, fz, ?_⟩
  rw [hb]
  congr 2
  exact Array.toList_inj.1 hcs

open AM in
theorem int_imp : Imp Tryd.prog 3 (intE .i64) := intE_imp Tryd.underlying3
open AM in
theorem ints_imp : Imp Tryd.prog 23 (sliceE (intE .i64)) := sliceE_imp int_imp Tryd.underlying23 cellsI Nat.one_pos
open AM in
theorem band_imp : Imp Tryd.prog 63 bandE :=
  mapE_imp (fun x => ⟨x.1, x.2⟩) (fun _ => rfl) (structE_imp Tryd.underlying63 cellsB (FImp.cons int_imp cellsI rfl (FImp.one int_imp cellsI)))
open AM in
theorem bands_imp : Imp Tryd.prog 42 (sliceE bandE) := sliceE_imp band_imp Tryd.underlying42 cellsB (show 0 < 2 by omega)
open AM in
theorem rule_imp : Imp Tryd.prog 44 ruleE :=
  mapE_imp (fun x => ⟨x.1, x.2⟩) (fun _ => rfl) (structE_imp Tryd.underlying44 cellsR (FImp.cons bands_imp cellsBs rfl (FImp.one int_imp cellsI)))
open AM in
theorem rules_imp : Imp Tryd.prog 22 (sliceE ruleE) := sliceE_imp rule_imp Tryd.underlying22 cellsR (show 0 < 2 by omega)
end Go.Proofs.YtmllfacipbpkfaaDoor
