/- From arguments as they come in, in any world, to the machine's memory; and the walk: QuotaIs returns true and nothing that was there has turned. -/
import Derived.Test.YtmcomjgebcemdaaQ0
import Derived.Test.YtmcomjgebcemdaaQ4
import Derived.Test.YtmcomjgebcemdaaGg
import Derived.Test.YtmcomjgebcemdaaRows
set_option linter.unusedVariables false
set_option linter.unusedSimpArgs false
set_option linter.unusedSectionVars false

namespace Go.Proofs.Ytmcomjgebcemdaa
open Go Go.ChangeShapes Go.WideShapes Go.ChangeAt Go.RowKit Go.Deep
set_option linter.unusedVariables false
set_option maxRecDepth 100000

theorem own : ownKnob Try.prog.godebug = none := by kernel_rfl
theorem laidOut : laidOutB Try.prog = true := by kernel_rfl
theorem cellsI : Try.prog.cellsOf 3 = 1 := by kernel_rfl
theorem cellsIs : Try.prog.cellsOf 22 = 1 := by kernel_rfl
theorem cellsP : Try.prog.cellsOf 24 = 2 := by kernel_rfl
open AM in
theorem int_imp : Imp Try.prog 3 (intE .i64) := intE_imp Try.underlying3
open AM in
theorem ints_imp : Imp Try.prog 22 (sliceE (intE .i64)) := sliceE_imp int_imp Try.underlying22 cellsI Nat.one_pos
open AM in
abbrev partsE : Enc (List Int × Int) := prodE (sliceE (intE .i64)) (intE .i64)
open AM in
theorem parts_imp : Imp Try.prog 24 partsE := structE_imp Try.underlying24 cellsP (FImp.cons ints_imp cellsIs rfl (FImp.one int_imp cellsI))

open AM in
/-- THE WALK: whatever came in, the law answers true, and what was there stays. -/
theorem walkI {X : Type} {enc : TypeId × Value → X} (k : Int) {v1 : Value} {cs2 : Array Value} {x1 x2 : DataW X} {p1 p2 : List MemPlace} (W : World) (h1 : DataW.Trod enc Try.prog W 0 (fun _ => true) true 22 v1 x1 p1) (c1 : v1.cells.toList = [v1])
    (h2 : DataW.Trod enc Try.prog W 0 (fun _ => true) true 24 (.agg cs2) x2 p2) :
    Calls Try.prog 3 #[.int .i64 k, v1, .agg cs2] W fun e w' => e = .returned (.bool true) ∧ Below W.heap.size W w' := by
  have i1 := Ins.empty (P := Try.prog) W
  obtain ⟨c, m2, H2, w1, i2, hm2, hk2, hv1, hc⟩ := ints_imp.arg h1 c1 i1
  obtain ⟨⟨w, d⟩, m3, H3, cs', i3, hm3, hk3, hv2, hx⟩ := parts_imp.argS h2 i2
  obtain ⟨w1', r1, o1, e1, hc⟩ := hc
  cases e1
  obtain ⟨la, lb, rfl, ⟨w2', r2, o2, e2, hw⟩, hb⟩ := hx
  obtain ⟨rfl, hb⟩ := hb
  cases e2
  obtain ⟨H', hr⟩ := is_runs sys_only k w1 w2' c w d r1 o1 r2 o2 H3 i3.low (hc.keep hk3) hw (fun H' hk => sys_known)
  refine calls_of_runs (S := sys) okP mixP sys_ok hr i3.hr ?_ (args' := [.int .i64 k, v1, .agg cs2]) ?_ rfl
  · intro g hg
    exact absurd hg (Nat.not_lt_zero g)
  · exact .cons (.plain rfl) (.cons (hv1.mono hm3) (.cons hv2 .nil))
end Go.Proofs.Ytmcomjgebcemdaa
