/- From arguments as they come in, in any world, to the machine's memory; and the walk: MessagePrints returns true and nothing that was there has turned. -/
import Derived.Test.YtkijaalhbloehaaR0
import Derived.Test.YtkijaalhbloehaaNA
import Derived.Test.YtkijaalhbloehaaGg
import Derived.Test.YtkijaalhbloehaaRows
set_option linter.unusedVariables false
set_option linter.unusedSimpArgs false
set_option linter.unusedSectionVars false

namespace Go.Proofs.Ytkijaalhbloehaa
open Go Go.ChangeShapes Go.WideShapes Go.ChangeAt Go.RowKit Go.Deep
set_option linter.unusedVariables false
set_option maxRecDepth 100000

theorem own : ownKnob Try.prog.godebug = none := by kernel_rfl
theorem laidOut : laidOutB Try.prog = true := by kernel_rfl
theorem cellsS : Try.prog.cellsOf 9 = 1 := by kernel_rfl
theorem cellsT : Try.prog.cellsOf 32 = 1 := by kernel_rfl
theorem cellsE : Try.prog.cellsOf 33 = 1 := by kernel_rfl
theorem cellsG : Try.prog.cellsOf 35 = 2 := by kernel_rfl
theorem cellsM : Try.prog.cellsOf 23 = 1 := by kernel_rfl
open AM in
theorem txt_imp : Imp Try.prog 9 txtE := mapE_imp (fun s : ByteArray => s.data.toList) (fun s => rfl) (strE_imp Try.underlying9)
open AM in
theorem elem_imp : Imp Try.prog 32 elemE := sliceE_imp txt_imp Try.underlying32 cellsS Nat.one_pos
open AM in
theorem elems_imp : Imp Try.prog 33 elemsE := sliceE_imp elem_imp Try.underlying33 cellsT Nat.one_pos
open AM in
theorem seg_imp : Imp Try.prog 35 segE := structE_imp Try.underlying35 cellsG (FImp.cons txt_imp cellsS rfl (FImp.one elems_imp cellsE))
open AM in
theorem segs_imp : Imp Try.prog 23 (sliceE segE) := sliceE_imp seg_imp Try.underlying23 cellsG (Nat.succ_pos 1)
theorem enterP : AM.EnterOk Try.prog 4 := ⟨Try.f4, Try.func4, by kernel_rfl, by kernel_rfl⟩

open AM in
/-- THE WALK: whatever came in, the law answers true, and what was there stays. -/
theorem walkPrints {X : Type} {enc : TypeId × Value → X} {v1 : Value} {x1 : DataW X} {p1 : List MemPlace} (W : World) (h1 : DataW.Trod enc Try.prog W 0 (fun _ => true) true 23 v1 x1 p1) (c1 : v1.cells.toList = [v1]) :
    Calls Try.prog 4 #[v1] W fun e w' => e = .returned (.bool true) ∧ Below W.heap.size W w' := by
  have i1 := Ins.empty (P := Try.prog) W
  obtain ⟨w, m2, H2, w1, i2, hm2, hk2, hv1, hc⟩ := segs_imp.arg h1 c1 i1
  obtain ⟨w1', r1, o1, e1, hc⟩ := hc
  cases e1
  obtain ⟨H', hr⟩ := prints_runs sys_only w w1 r1 o1 H2 i2.grp hc (fun H' => sys_known)
  refine calls_of_runs (S := sys) okP mixP sys_ok hr enterP i2.hr ?_ (args' := [v1]) ?_ rfl
  · intro g hg
    exact absurd hg (Nat.not_lt_zero g)
  · exact .cons hv1 .nil
end Go.Proofs.Ytkijaalhbloehaa
