/- What came in, as the machine's memory has it: numbers; and the package variable. -/
import Derived.Test.YtnbhjbelgmkpeaaDoorR0
import Derived.Test.YtnbhjbelgmkpeaaDoorGg
import Derived.Test.YtnbhjbelgmkpeaaDoorRows
set_option linter.unusedVariables false
set_option linter.unusedSimpArgs false
set_option linter.unusedSectionVars false

namespace Go.Proofs.YtnbhjbelgmkpeaaDoor
open Go Go.ChangeShapes Go.WideShapes Go.ChangeAt Go.RowKit Go.Deep
set_option linter.unusedVariables false
set_option maxRecDepth 100000

theorem own : ownKnob Tryd.prog.godebug = none := by kernel_rfl
theorem laidOut : laidOutB Tryd.prog = true := by kernel_rfl
theorem gTab : Tryd.prog.globalNamed "math/bits.deBruijn32tab" = some 0 := by kernel_rfl
theorem tTab : (Tryd.prog.globals[0]?).map (·.type) = some 157 := by kernel_rfl
theorem cellsTab : Tryd.prog.cellsOf 157 = 32 := by kernel_rfl
theorem cellsU : Tryd.prog.cellsOf 5 = 1 := by kernel_rfl
theorem cellsI : Tryd.prog.cellsOf 3 = 1 := by kernel_rfl
theorem cellsIs : Tryd.prog.cellsOf 25 = 1 := by kernel_rfl
theorem laid_tab {H : Type} : Rows.laid_math_bits_deBruijn32tab (H := H) = .agg (tabN.map fun z => .lit (.int .u8 z)) := rfl

theorem of_laid {W : World} (h : laidMetH Tryd.prog [("math/bits.deBruijn32tab", Rows.laid_math_bits_deBruijn32tab)] W) : ∃ t fz, W.heap[0]? = some (.cells ⟨tab⟩ t fz) := by
  rw [MakeChecks.laidMetH_plain _ _ _ (by kernel_rfl)] at h
  obtain ⟨ps, ⟨g0, t0, cs0, f0, p0, q0, hg0, ht0, hv0, hd0, _, _⟩, _, _⟩ := h
  obtain rfl := Option.some.inj (gTab.symm.trans hg0)
  obtain rfl := Option.some.inj (tTab.symm.trans ht0)
  obtain ⟨t, fz, hb⟩ := AM.var_block hg0 hv0
  rw [laid_tab] at hd0
  have hcs := AM.ints_laid Tryd.underlying157 Tryd.underlying5 cellsU cellsTab hd0
  refine ⟨t, fz, ?_⟩
  rw [hb]
  congr 2
  exact Array.toList_inj.1 hcs

open AM in
theorem int_imp : Imp Tryd.prog 3 (intE .i64) := intE_imp Tryd.underlying3
open AM in
theorem ints_imp : Imp Tryd.prog 25 (sliceE (intE .i64)) := sliceE_imp int_imp Tryd.underlying25 cellsI Nat.one_pos

theorem tmodN (n k : Int) (h : 0 ≤ n) (hk : 0 < k) : n.tmod k = ((n % k).toNat : Int) := by
  rw [Int.tmod_eq_emod_of_nonneg h, Int.toNat_of_nonneg (Int.emod_nonneg _ (by omega))]
theorem modN (n k : Int) (b : Nat) (h : 0 ≤ n) (hk : 0 < k) (hb : k ≤ (b : Int) + 1) : (n % k).toNat ≤ b := by
  have := Int.emod_nonneg n (show k ≠ 0 by omega)
  have := Int.emod_lt_of_pos n hk
  omega
open AM in
/-- THE WALK of a law of two bytes: whatever came in, the law answers true, and what was there stays. -/
theorem walk2 (F : FuncId) (hF : ∀ (t : TypeId) (n m : Int) (H : Heap), Grp H → H.low ≤ H.size → (0 ≤ n ∧ n ≤ 255) → (0 ≤ m ∧ m ≤ 255) → (∀ H', Keep H H' → (sys t).O 10 [] H') → ∃ H', Runs Tryd.prog (sys t) (.fn F) [.int .u8 n, .int .u8 m] H (.bool true) H')
    (n : Int) (hn : (Lit.int .u8 n).wf = true) (m : Int) (hm : (Lit.int .u8 m).wf = true) (W : World) (hL : laidMetH Tryd.prog [("math/bits.deBruijn32tab", Rows.laid_math_bits_deBruijn32tab)] W) :
    Calls Tryd.prog F #[.int .u8 n, .int .u8 m] W fun e w' => e = .returned (.bool true) ∧ Below W.heap.size W w' := by
  simp only [Lit.wf, Bool.and_eq_true, decide_eq_true_eq] at hn hm
  obtain ⟨t, fz, hb⟩ := of_laid hL
  have i1 := (Ins.empty (P := Tryd.prog) W).addPlain hb rfl
  have hrow : (H0 t).rows.get 0 = some (row0 t) := by unfold H0; rw [Heap.add_get]; exact if_pos rfl
  obtain ⟨H', hr⟩ := hF t n m (H0 t) i1.grp i1.low hn hm (fun H' hk => sys_known (hk.row 0 _ (by unfold H0; rw [Heap.add_size]; omega) hrow).1)
  refine calls_of_runs (S := sys t) okP mixP (sys_ok t) hr i1.hr ?_ (args' := [.int .u8 n, .int .u8 m]) ?_ rfl
  · intro g hg
    have hg0 : g = 0 := by have hg : g < 1 := hg; omega
    subst hg0
    exact ⟨_, Map.put_same _ _ _, rfl, rfl⟩
  · exact .cons (.plain rfl) (.cons (.plain rfl) .nil)
end Go.Proofs.YtnbhjbelgmkpeaaDoor
