/- The walk of QuotaTalmud. -/
import Derived.Test.YtpeoleimmabceaaW0
import Derived.Test.YtpeoleimmabceaaEO
set_option linter.unusedVariables false
set_option linter.unusedSimpArgs false
set_option linter.unusedSectionVars false

namespace Go.Proofs.Ytpeoleimmabceaa
open Go Go.ChangeShapes Go.WideShapes Go.ChangeAt Go.RowKit Go.Deep
set_option maxRecDepth 100000
theorem enterL : AM.EnterOk Try.prog 7 := ⟨Try.f7, Try.func7, by kernel_rfl, by kernel_rfl⟩
open AM in
set_option maxHeartbeats 400000 in
theorem walkTalmud {X : Type} {enc : TypeId × Value → X} (e : Int) (W : World) {v1 : Value} {cs2 : Array Value} {x1 x2 : DataW X} {p1 p2 : List MemPlace} (h1 : DataW.Trod enc Try.prog W 0 (fun _ => true) true 22 v1 x1 p1) (c1 : v1.cells.toList = [v1])
    (h2 : DataW.Trod enc Try.prog W 0 (fun _ => true) true 26 (.agg cs2) x2 p2) :
    Calls Try.prog 7 #[.int .i64 e, v1, .agg cs2] W fun e w' => e = .returned (.bool true) ∧ Below W.heap.size W w' := by
  have i1 := Ins.empty (P := Try.prog) W
  obtain ⟨c, m2, H2, w1, i2, hm2, hk2, hv1, hc⟩ := ints_imp.arg h1 c1 i1
  obtain ⟨⟨w, d⟩, m3, H3, cs', i3, hm3, hk3, hv2, hx⟩ := parts_imp.argS h2 i2
  obtain ⟨w1', r1, o1, e1, hc⟩ := hc
  cases e1
  obtain ⟨la, lb, rfl, ⟨w2', r2, o2, e2, hw⟩, hb⟩ := hx
  obtain ⟨rfl, hb⟩ := hb
  cases e2
  obtain ⟨H', hr⟩ := lawTalmud_runs sys_only e w1 w2' c w d r1 o1 r2 o2 H3 i3.grp i3.low (hc.keep hk3) hw (fun H' => sys_known)
  refine calls_of_runs (S := sys) okP mixP sys_ok hr enterL i3.hr ?_ (args' := [.int .i64 e, v1, .agg cs2]) ?_ rfl
  · intro g hg
    exact absurd hg (Nat.not_lt_zero g)
  · exact .cons .int (.cons (hv1.mono hm3) (.cons hv2 .nil))
end Go.Proofs.Ytpeoleimmabceaa
