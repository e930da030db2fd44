/- The garment between two, and who is treated otherwise, by the program; are Parts the same. -/
import Derived.Test.YtpeoleimmabceaaEF
set_option linter.unusedVariables false
set_option linter.unusedSimpArgs false
set_option linter.unusedSectionVars false

namespace Go.Proofs.Ytpeoleimmabceaa
open Go Go.AM
set_option maxRecDepth 10000
def halfN (F G : Int) : List Int := if F % 2 = 0 then [F / 2, G / 2] else [F, G]
def halfD (F : Int) : Int := if F % 2 = 0 then 1 else 2
def Unf (c w : List Int) (d : Int) (i j : Nat) : Prop := twice (w.getD i 0 + w.getD j 0) (c.getD i 0 * d) (c.getD j 0 * d) ≠ 2 * w.getD i 0
instance (c w : List Int) (d : Int) (i j : Nat) : Decidable (Unf c w d i j) := by unfold Unf; infer_instance
def Before (c w : List Int) (d : Int) (i j : Nat) : Prop := (∀ i' j', i' < i → i' < j' → j' < c.length → ¬ Unf c w d i' j') ∧ ∀ j', i < j' → j' < j → ¬ Unf c w d i j'
def Res (c w : List Int) (d : Int) (u : List Int) : Prop :=
  (∃ i j : Nat, i < j ∧ j < c.length ∧ u = [(i : Int), (j : Int)] ∧ Unf c w d i j ∧ Before c w d i j) ∨ (u = [] ∧ ∀ i j, i < j → j < c.length → ¬ Unf c w d i j)
theorem Res.one {c w : List Int} {d : Int} {u u2 : List Int} (h : Res c w d u) (h2 : Res c w d u2) : u = u2 := by
  rcases h with ⟨i, j, a1, a2, rfl, a3, a4⟩ | ⟨rfl, a⟩
  · rcases h2 with ⟨i2, j2, b1, b2, rfl, b3, b4⟩ | ⟨rfl, b⟩
    · have hi : i = i2 := by
        rcases Nat.lt_trichotomy i i2 with h | h | h
        · exact absurd a3 (b4.1 i j h a1 a2)
        · exact h
        · exact absurd b3 (a4.1 i2 j2 h b1 b2)
      subst hi
      have hj : j = j2 := by
        rcases Nat.lt_trichotomy j j2 with h | h | h
        · exact absurd a3 (b4.2 j a1 h)
        · exact h
        · exact absurd b3 (a4.2 j2 b1 h)
      subst hj
      rfl
    · exact absurd a3 (b i j a1 a2)
  · rcases h2 with ⟨i2, j2, b1, b2, rfl, b3, b4⟩ | ⟨rfl, b⟩
    · exact absurd b3 (a i2 j2 b1 b2)
    · rfl
theorem shr_in {e : Int} {c w : List Int} {d : Int} (hP : Q.Prob e c) (hS : Q.Shr e c w d) {i : Nat} (hi : i < c.length) : (0 ≤ c.getD i 0 ∧ c.getD i 0 ≤ 100000) ∧ (0 ≤ w.getD i 0 ∧ w.getD i 0 ≤ 100000000000) ∧ (0 ≤ c.getD i 0 * d ∧ c.getD i 0 * d ≤ 100000000000) := by
  have h1 := hP.2.2.1 _ (getD_mem (d := 0) hi)
  have h2 := hS.2.1
  have h3 := hS.2.2.1 i (by rw [hS.1]; exact hi)
  have h4 : c.getD i 0 * d ≤ 100000 * 1000000 := Int.mul_le_mul h1.2 h2.2 (by omega) (by omega)
  have h5 := Int.mul_nonneg h1.1 (show 0 ≤ d by omega)
  exact ⟨h1, ⟨h3.1, by omega⟩, h5, by omega⟩

variable {S : AM.Sys} (hS : Only S 11)
include hS

end Go.Proofs.Ytpeoleimmabceaa
