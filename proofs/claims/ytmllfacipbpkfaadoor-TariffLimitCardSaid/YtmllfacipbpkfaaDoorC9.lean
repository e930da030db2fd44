/- From arguments as they come in, in any world, to the machine's memory; and the walk: TariffFollows returns true and nothing that was there has turned. -/
import Derived.Test.YtmllfacipbpkfaaDoorC8
import Derived.Test.YtmllfacipbpkfaaDoorGg
import Derived.Test.YtmllfacipbpkfaaDoorRows
set_option linter.unusedVariables false
set_option linter.unusedSimpArgs false
set_option linter.unusedSectionVars false

namespace Go.Proofs.YtmllfacipbpkfaaDoor
open Go Go.ChangeShapes Go.WideShapes Go.ChangeAt Go.RowKit Go.Deep
set_option linter.unusedVariables false
set_option maxRecDepth 100000

theorem own : ownKnob Tryd.prog.godebug = none := by kernel_rfl
theorem laidOut : laidOutB Tryd.prog = true := by kernel_rfl
theorem gTab : Tryd.prog.globalNamed "math/bits.deBruijn64tab" = some 0 := by kernel_rfl
theorem tTab : (Tryd.prog.globals[0]?).map (·.type) = some 147 := by kernel_rfl
theorem cellsTab : Tryd.prog.cellsOf 147 = 64 := by kernel_rfl
theorem cellsU : Tryd.prog.cellsOf 5 = 1 := by kernel_rfl
theorem cellsI : Tryd.prog.cellsOf 3 = 1 := by kernel_rfl
theorem cellsIs : Tryd.prog.cellsOf 23 = 1 := by kernel_rfl
theorem cellsN : Tryd.prog.cellsOf 32 = 3 := by kernel_rfl
theorem laid_tab {H : Type} : Rows.laid_math_bits_deBruijn64tab (H := H) = .agg (tabN.map fun z => .lit (.int .u8 z)) := rfl

theorem of_laid {W : World} (h : laidMetH Tryd.prog [("math/bits.deBruijn64tab", Rows.laid_math_bits_deBruijn64tab)] W) : ∃ t fz, W.heap[0]? = some (.cells ⟨tab⟩ t fz) := by
  rw [MakeChecks.laidMetH_plain _ _ _ (by kernel_rfl)] at h
  obtain ⟨ps, ⟨g0, t0, cs0, f0, p0, q0, hg0, ht0, hv0, hd0, _, _⟩, _, _⟩ := h
  obtain rfl := Option.some.inj (gTab.symm.trans hg0)
  obtain rfl := Option.some.inj (tTab.symm.trans ht0)
  obtain ⟨t, fz, hb⟩ := AM.var_block hg0 hv0
  rw [laid_tab] at hd0
  have hcs := AM.ints_laid Tryd.underlying147 Tryd.underlying5 cellsU cellsTab hd0
  refine ⟨t, fz, ?_⟩
  rw [hb]
  congr 2
  exact Array.toList_inj.1 hcs

open AM in
theorem int_imp : Imp Tryd.prog 3 (intE .i64) := intE_imp Tryd.underlying3
open AM in
theorem ints_imp : Imp Tryd.prog 23 (sliceE (intE .i64)) := sliceE_imp int_imp Tryd.underlying23 cellsI Nat.one_pos
open AM in
theorem node_imp : Imp Tryd.prog 32 nodeE :=
  mapE_imp (fun x => ⟨x.1, x.2.1, x.2.2⟩) (fun _ => rfl)
    (structE_imp Tryd.underlying32 cellsN (FImp.cons int_imp cellsI rfl (FImp.cons ints_imp cellsIs rfl (FImp.one ints_imp cellsIs))))
open AM in
theorem nodes_imp : Imp Tryd.prog 30 (sliceE nodeE) := sliceE_imp node_imp Tryd.underlying30 cellsN (show 0 < 3 by omega)

open AM in
/-- THE WALK: whatever came in, the law answers true, and what was there stays. -/
theorem walk {X : Type} {enc : TypeId × Value → X} (k : Int) {v1 v2 : Value} {x1 x2 : DataW X} {p1 p2 : List MemPlace} (W : World) (h1 : DataW.Trod enc Tryd.prog W 0 (fun _ => true) true 30 v1 x1 p1) (c1 : v1.cells.toList = [v1])
    (h2 : DataW.Trod enc Tryd.prog W 0 (fun _ => true) true 23 v2 x2 p2) (c2 : v2.cells.toList = [v2]) (hL : laidMetH Tryd.prog [("math/bits.deBruijn64tab", Rows.laid_math_bits_deBruijn64tab)] W) :
    Calls Tryd.prog 4 #[.int .i64 k, v1, v2] W fun e w' => e = .returned (.bool true) ∧ Below W.heap.size W w' := by
  obtain ⟨t, fz, hb⟩ := of_laid hL
  have i0 : Ins Tryd.prog W.heap.size (fun _ => none) emptyH W := ⟨empty_hr W, (fun r rm h => by cases h), Nat.le_refl _⟩
  have i1 := i0.addPlain hb rfl
  obtain ⟨d, m2, H2, w1, i2, hm2, hk2, hv1, hd⟩ := nodes_imp.arg h1 c1 i1
  obtain ⟨x, m3, H3, w2, i3, hm3, hk3, hv2, hx⟩ := ints_imp.arg h2 c2 i2
  obtain ⟨w1', r1, o1, e1, hd⟩ := hd
  obtain ⟨w2', r2, o2, e2, hx⟩ := hx
  cases e1; cases e2
  have hrow : (H0 t).rows.get 0 = some (row0 t) := by unfold H0; rw [Heap.add_get]; exact if_pos rfl
  have hkeep : Keep (H0 t) H3 := Keep.trans (show Keep (H0 t) H2 from hk2) hk3
  obtain ⟨H', hr⟩ := law_runs (sys_only t) k d x w1 w2 r1 o1 r2 o2 H3 (hd.keep hk3) hx i3.low (fun H' hk => sys_known ((hkeep.trans hk).row 0 _ (by unfold H0; rw [Heap.add_size]; omega) hrow).1)
  refine calls_of_runs (S := sys t) okP mixP (sys_ok t) hr i3.hr ?_ (args' := [.int .i64 k, v1, v2]) ?_ rfl
  · intro g hg
    have hg0 : g = 0 := by have hg : g < 1 := hg; omega
    subst hg0
    exact ⟨_, hm3 _ _ (hm2 _ _ (Map.put_same _ _ _)), rfl, rfl⟩
  · exact .cons (.plain rfl) (.cons (hv1.mono hm3) (.cons hv2 .nil))
end Go.Proofs.YtmllfacipbpkfaaDoor
