/- What came in, as the machine's memory has it: rows of numbers, Parts; and the package variable. -/
import Derived.Test.YtdfjaoncabanbaaGreatDoorR0
import Derived.Test.YtdfjaoncabanbaaGreatDoorRows
set_option linter.unusedVariables false
set_option linter.unusedSimpArgs false
set_option linter.unusedSectionVars false

namespace Go.Proofs.YtdfjaoncabanbaaGreatDoor
open Go Go.ChangeShapes Go.WideShapes Go.ChangeAt Go.RowKit Go.Deep
set_option maxRecDepth 100000

theorem own:ownKnob Tryz.prog.godebug = none:=by kernel_rfl
theorem laidOut:laidOutB Tryz.prog = true:=by kernel_rfl
theorem gTab:Tryz.prog.globalNamed "math/bits.deBruijn32tab" = some 0:=by kernel_rfl
theorem tTab:(Tryz.prog.globals[0]?).map (·.type) = some 137:=by kernel_rfl
theorem cellsTab:Tryz.prog.cellsOf 137 = 32:=by kernel_rfl
theorem cellsU:Tryz.prog.cellsOf 5 = 1:=by kernel_rfl
theorem cellsI:Tryz.prog.cellsOf 3 = 1:=by kernel_rfl
theorem cellsP:Tryz.prog.cellsOf 25 = 2:=by kernel_rfl
theorem cellsIs:Tryz.prog.cellsOf 23 = 1:=by kernel_rfl
theorem laid_tab {H:Type}:Rows.laid_math_bits_deBruijn32tab (H:=H) = .agg (tabN.map fun z => .lit (.int .u8 z)):=rfl

theorem of_laid {W:World} (h:laidMetH Tryz.prog [("math/bits.deBruijn32tab",Rows.laid_math_bits_deBruijn32tab)] W):∃ t fz,W.heap[0]? = some (.cells ⟨tab⟩ t fz):=by
  rw [MakeChecks.laidMetH_plain _ _ _ (by kernel_rfl)] at h
  obtain ⟨ps,⟨g0,t0,cs0,f0,p0,q0,hg0,ht0,hv0,hd0,_,_⟩,_,_⟩:=h;obtain rfl:=Option.some.inj (gTab.symm.trans hg0);obtain rfl:=Option.some.inj (tTab.symm.trans ht0);obtain ⟨t,fz,hb⟩:=AM.var_block hg0 hv0;rw [laid_tab] at hd0;have hcs:=AM.ints_laid Tryz.underlying137 Tryz.underlying5 cellsU cellsTab hd0;refine ⟨t,fz,?_⟩;rw [hb];congr 2;exact Array.toList_inj.1 hcs

open AM in
theorem int_imp:Imp Tryz.prog 3 (intE .i64):=intE_imp Tryz.underlying3
open AM in
theorem ints_imp:Imp Tryz.prog 23 (sliceE (intE .i64)):=sliceE_imp int_imp Tryz.underlying23 cellsI Nat.one_pos

open AM in
theorem intss_imp:Imp Tryz.prog 22 (sliceE (sliceE (intE .i64))):=sliceE_imp ints_imp Tryz.underlying22 cellsIs (show 0 < 1 by omega)
open AM in
abbrev partsE:Enc (List Int × Int):=prodE (sliceE (intE .i64)) (intE .i64)
open AM in
theorem parts_imp:Imp Tryz.prog 25 partsE:=structE_imp Tryz.underlying25 cellsP (FImp.cons ints_imp cellsIs rfl (FImp.one int_imp cellsI))
end Go.Proofs.YtdfjaoncabanbaaGreatDoor
