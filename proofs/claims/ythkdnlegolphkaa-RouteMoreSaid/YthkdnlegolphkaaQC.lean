/- The walk of RouteMore. -/
import Derived.Test.YthkdnlegolphkaaU0
import Derived.Test.YthkdnlegolphkaaQB
set_option linter.unusedVariables false
set_option linter.unusedSimpArgs false
set_option linter.unusedSectionVars false

namespace Go.Proofs.Ythkdnlegolphkaa
open Go Go.ChangeShapes Go.WideShapes Go.ChangeAt Go.RowKit Go.Deep
set_option maxRecDepth 100000
theorem enterI : AM.EnterOk Try.prog 7 := ⟨Try.f7, Try.func7, by kernel_rfl, by kernel_rfl⟩
open AM in
theorem legs0_imp : Imp Try.prog 22 (slice0 legE) := slice0_imp leg_imp Try.underlying22 cellsL (show 0 < 5 by omega)
open AM in
theorem walkMore {X : Type} {enc : TypeId × Value → X} (n ch : Int) (hch : R64 ch) (fr to at' : Int) (hat : R64 at') (W : World) {v1 : Value} {x1 : DataW X} {p1 : List MemPlace} (h1 : DataW.Trod enc Try.prog W 0 (fun _ => true) true 22 v1 x1 p1) (c1 : v1.cells.toList = [v1])
    {cs6 : Array Value} {x6 : DataW X} {p6 : List MemPlace} (h6 : DataW.Trod enc Try.prog W 0 (fun _ => true) true 32 (.agg cs6) x6 p6) :
    Calls Try.prog 7 #[.int .i64 n, v1, .int .i64 ch, .int .i64 fr, .int .i64 to, .int .i64 at', .agg cs6] W fun e w' => e = .returned (.bool true) ∧ Below W.heap.size W w' := by
  have i1 := Ins.empty (P := Try.prog) W
  obtain ⟨ls, m2, H2, w1, i2, hm2, hk2, hv1, hc⟩ := legs0_imp.arg h1 c1 i1
  obtain ⟨m, m3, H3, cs', i3, hm3, hk3, hv2, hx⟩ := leg_imp.argS h6 i2
  obtain ⟨w1', r1, o1, e1, hc, _, hp0⟩ := hc
  cases e1
  obtain ⟨rfl, _⟩ := legE_inv hx
  obtain ⟨H', hr⟩ := lawMore_runs sys_only n ls w1 r1 o1 ch fr to at' m H3 i3.low i3.grp (hc.keep hk3) hp0 hch hat hx (fun H' => sys_known)
  refine calls_of_runs (S := sys) okP mixP sys_ok hr enterI i3.hr ?_ (args' := [.int .i64 n, v1, .int .i64 ch, .int .i64 fr, .int .i64 to, .int .i64 at', .agg cs6]) ?_ rfl
  · intro g hg
    exact absurd hg (Nat.not_lt_zero g)
  · exact .cons .int (.cons (hv1.mono hm3) (.cons .int (.cons .int (.cons .int (.cons .int (.cons hv2 .nil))))))
end Go.Proofs.Ythkdnlegolphkaa
