/- For every input the law QuotaFair returns true and its arguments read afterwards as they read before; no condition. -/
import Derived.Test.YtmcomjgebcemdaaGreatQ0
import Derived.Test.YtmcomjgebcemdaaGreatCA
import Derived.Test.YtmcomjgebcemdaaGreatGg
import Derived.Handed
import Derived.JoinedOf
import Derived.Test.YtmcomjgebcemdaaGreatRows
set_option linter.unusedVariables false
set_option linter.unusedSimpArgs false
set_option linter.unusedSectionVars false

namespace Go.Proofs.YtmcomjgebcemdaaGreat
open Go Go.ChangeShapes Go.WideShapes Go.ChangeAt Go.RowKit Go.Deep
set_option linter.unusedVariables false
set_option maxRecDepth 100000

theorem own : ownKnob Tryz.prog.godebug = none := by kernel_rfl
theorem laidOut : laidOutB Tryz.prog = true := by kernel_rfl
theorem cellsI : Tryz.prog.cellsOf 3 = 1 := by kernel_rfl
theorem cellsIs : Tryz.prog.cellsOf 22 = 1 := by kernel_rfl
theorem cellsP : Tryz.prog.cellsOf 24 = 2 := by kernel_rfl
open AM in
theorem int_imp : Imp Tryz.prog 3 (intE .i64) := intE_imp Tryz.underlying3
open AM in
theorem ints_imp : Imp Tryz.prog 22 (sliceE (intE .i64)) := sliceE_imp int_imp Tryz.underlying22 cellsI Nat.one_pos
open AM in
abbrev partsE : Enc (List Int × Int) := prodE (sliceE (intE .i64)) (intE .i64)
open AM in
theorem parts_imp : Imp Tryz.prog 24 partsE := structE_imp Tryz.underlying24 cellsP (FImp.cons ints_imp cellsIs rfl (FImp.one int_imp cellsI))

open AM in
/-- THE WALK: whatever came in, the law answers true, and what was there stays. -/
theorem walkF {X : Type} {enc : TypeId × Value → X} (k : Int) {v1 : Value} {cs2 : Array Value} {x1 x2 : DataW X} {p1 p2 : List MemPlace} (W : World) (h1 : DataW.Trod enc Tryz.prog W 0 (fun _ => true) true 22 v1 x1 p1) (c1 : v1.cells.toList = [v1])
    (h2 : DataW.Trod enc Tryz.prog W 0 (fun _ => true) true 24 (.agg cs2) x2 p2) :
    Calls Tryz.prog 4 #[.int .i64 k, v1, .agg cs2] W fun e w' => e = .returned (.bool true) ∧ Below W.heap.size W w' := by
  have i1 := Ins.empty (P := Tryz.prog) W
  obtain ⟨c, m2, H2, w1, i2, hm2, hk2, hv1, hc⟩ := ints_imp.arg h1 c1 i1
  obtain ⟨⟨w, d⟩, m3, H3, cs', i3, hm3, hk3, hv2, hx⟩ := parts_imp.argS h2 i2
  obtain ⟨w1', r1, o1, e1, hc⟩ := hc
  cases e1
  obtain ⟨la, lb, rfl, ⟨w2', r2, o2, e2, hw⟩, hb⟩ := hx
  obtain ⟨rfl, hb⟩ := hb
  cases e2
  obtain ⟨H', hr⟩ := fair_runs sys_only k w1 w2' c w d r1 o1 r2 o2 H3 i3.grp i3.low (hc.keep hk3) hw (fun H' hk => sys_known)
  refine calls_of_runs (S := sys) okP mixP sys_ok hr i3.hr ?_ (args' := [.int .i64 k, v1, .agg cs2]) ?_ rfl
  · intro g hg
    exact absurd hg (Nat.not_lt_zero g)
  · exact .cons (.plain rfl) (.cons (hv1.mono hm3) (.cons hv2 .nil))
set_option maxRecDepth 100000 in
theorem lifted (os : Os) (started : os.Started) (H : Type) (enc : TypeId × Value → H) :
    ReturnsInHanded {} Tryz.checked os 4 .any (Rows.quotaFairSpec.pre6 enc Tryz.prog Tryz.f4 [] false)
      (Rows.quotaFairSpec.post enc Tryz.prog Tryz.f4 false true false false) := by
  refine returnsInHanded_of_change (C := Tryz.checked) own started (by kernel_rfl) Tryz.func4
    (ChangeSpec.witness6 (enc := enc) (C := Tryz.checked) false ⟨#[], #[.int .i64 0, .slice none 0 0, .agg #[.slice none 0 0, .int .i64 0]], []⟩ 8 (by kernel_rfl) (by kernel_rfl) (by kernel_rfl) (by kernel_rfl)) ?_
  intro W base args ds gs before hval0 hW _ _
  have hval : ∀ (j : Nat) t v, Tryz.f4.params[j]? = some t → args[j]? = some v → Value.okWide Tryz.prog W .any base t v := hval0
  have hW' := hW
  obtain ⟨p, q, hA0, hV, rfl, hfz, hnd⟩ := hW
  have hA : DataW.TrodAll enc Tryz.prog W 0 (fun _ => true) true Tryz.f4.params.toList args.toList ds p := hA0
  rw [Tryz.params4] at hA hval
  obtain ⟨v0, vs0, d0, ds0, p0, q0, hargs, rfl, rfl, h0, r0⟩ := trodAll_cons hA
  obtain ⟨v1, vs1, d1, ds1, p1, q1, rfl, rfl, rfl, h1, r1⟩ := trodAll_cons r0
  obtain ⟨v2, vs2, d2, ds2, p2, q2, rfl, rfl, rfl, h2, r2⟩ := trodAll_cons r1
  obtain ⟨rfl, rfl, rfl⟩ := trodAll_nil r2
  obtain rfl : args = #[v0, v1, v2] := by cases args; simp_all
  obtain ⟨rfl, rfl⟩ := trodVars_none hV
  have k0 := h0
  have k1 := h1
  have k2 := h2
  have lt0 : ∀ x ∈ p0, x.block < W.heap.size := by obtain ⟨m, hm⟩ := k0; exact DataW.trod_lt m _ _ _ hm
  have lt1 : ∀ x ∈ p1, x.block < W.heap.size := by obtain ⟨m, hm⟩ := k1; exact DataW.trod_lt m _ _ _ hm
  have lt2 : ∀ x ∈ p2, x.block < W.heap.size := by obtain ⟨m, hm⟩ := k2; exact DataW.trod_lt m _ _ _ hm
  obtain ⟨n0, rfl, _, _, wf0⟩ := open_int Tryz.underlying3 (hval 0 3 v0 rfl rfl) h0
  obtain ⟨a1, len1, cap1, rfl⟩ := okWide_slice Tryz.underlying22 (hval 1 22 v1 rfl rfl)
  obtain ⟨cs2, rfl, sz2⟩ := okWide_struct Tryz.underlying24 (hval 2 24 v2 rfl rfl)
  clear hA0 hval0
  refine (walkF n0 W h1 rfl h2).mono fun e W' ⟨he, bel⟩ => ?_
  subst he
  exact ⟨_, rfl, _, _, _, [], _, [], hW', trodAll_mk1 (shut_bool Tryz.underlying4 _), (trodAll_cons_mk (Below.trod laidOut (by kernel_rfl) (of_decide_eq_true (by kernel_rfl)) k0 bel lt0) (trodAll_cons_mk (Below.trod laidOut (by kernel_rfl) (of_decide_eq_true (by kernel_rfl)) k1 bel lt1) (trodAll_cons_mk (Below.trod laidOut (by kernel_rfl) (of_decide_eq_true (by kernel_rfl)) k2 bel lt2) trodAll_mk0))), rfl, bel.frame _, fun h => by cases h⟩

/-- For every input the law QuotaFair returns true, and its arguments read afterwards as they read before. -/
theorem said : Rows.QuotaFairSaid :=
  OpenClaim.holds_of_wide 4 Tryz.f4 rfl rfl rfl rfl rfl rfl rfl ⟨rfl, rfl, rfl, rfl, rfl⟩ rfl rfl rfl rfl rfl (by kernel_rfl) Tryz.func4 (by kernel_rfl)
    (of_decide_eq_true (by kernel_rfl)) (by unfold Func.isWrapper; first | (rw [if_pos (by decide +kernel)]; kernel_rfl) | (rw [if_neg (by decide +kernel)]; exact ⟨rfl, rfl⟩))
    (fun os started H enc _ => lifted os started H enc)
#print axioms said
end Go.Proofs.YtmcomjgebcemdaaGreat
