/- Days and looks, as numbers: what the laws ask. -/
import Derived.Test.YtnbhjbelgmkpeaaDoorD1
set_option linter.unusedVariables false
set_option linter.unusedSimpArgs false
set_option linter.unusedSectionVars false

namespace Go.Proofs.YtnbhjbelgmkpeaaDoor
set_option maxRecDepth 10000

def chOk (n k : Nat) : Bool := Nat.blt n k || (List.range (k + 1)).all fun j => decide (0 ≤ chJ n k j ∧ chJ n k j ≤ 100000)
theorem chOk_all : all15 chOk = true := by decide +kernel
theorem chJ_in {n k j : Nat} (hn : n ≤ 14) (hk : k ≤ n) (hj : j ≤ k) : 0 ≤ chJ n k j ∧ chJ n k j ≤ 100000 := by
  have h := all15_at chOk_all hn (Nat.le_trans hk hn)
  unfold chOk at h
  rw [Bool.or_eq_true] at h
  rcases h with h | h
  · have : n < k := by unfold Nat.blt at h; exact Nat.le_of_ble_eq_true h
    omega
  · exact of_decide_eq_true (List.all_eq_true.1 h j (List.mem_range.2 (by omega)))
def sumOk (d l : Nat) : Bool := Nat.ble d l || ((List.range (l + 2)).all fun j => decide (0 ≤ sumC d j ∧ sumC d j ≤ 100000)) && decide (1 ≤ sumC d (l + 1)) && decide ((gainC d l).1 * sumC d (l + 1) = chooseC (d - 1) l * (gainC d l).2)
theorem sumOk_all : all15 sumOk = true := by decide +kernel
theorem sumC_facts {d l : Nat} (hd : d ≤ 14) (hl : l < d) : (∀ j, j ≤ l + 1 → 0 ≤ sumC d j ∧ sumC d j ≤ 100000) ∧ 1 ≤ sumC d (l + 1) ∧ (gainC d l).1 * sumC d (l + 1) = chooseC (d - 1) l * (gainC d l).2 := by
  have h := all15_at sumOk_all hd (show l ≤ 14 by omega)
  unfold sumOk at h
  rw [Bool.or_eq_true] at h
  rcases h with h | h
  · have := Nat.le_of_ble_eq_true h; omega
  · simp only [Bool.and_eq_true, decide_eq_true_eq] at h
    exact ⟨fun j hj => of_decide_eq_true (List.all_eq_true.1 h.1.1 j (List.mem_range.2 (by omega))), h.1.2, h.2⟩
def moreOk (d l : Nat) : Bool := Nat.ble 14 d || Nat.ble 14 l ||
  (decide ((gainC d (l + 1)).1 * (gainC d l).2 ≤ (gainC d l).1 * (gainC d (l + 1)).2) && decide ((gainC d l).1 * (gainC (d + 1) l).2 ≤ (gainC (d + 1) l).1 * (gainC d l).2) &&
    decide ((dayC (d + 1) l).2.1.1 * (dayC (d + 1) (l + 1)).2.1.2 ≤ (dayC (d + 1) (l + 1)).2.1.1 * (dayC (d + 1) l).2.1.2))
theorem moreOk_all : all15 moreOk = true := by decide +kernel
theorem more_facts {d l : Nat} (hd : d ≤ 13) (hl : l ≤ 13) : (gainC d (l + 1)).1 * (gainC d l).2 ≤ (gainC d l).1 * (gainC d (l + 1)).2 ∧ (gainC d l).1 * (gainC (d + 1) l).2 ≤ (gainC (d + 1) l).1 * (gainC d l).2 ∧
    (dayC (d + 1) l).2.1.1 * (dayC (d + 1) (l + 1)).2.1.2 ≤ (dayC (d + 1) (l + 1)).2.1.1 * (dayC (d + 1) l).2.1.2 := by
  have h := all15_at moreOk_all (show d ≤ 14 by omega) (show l ≤ 14 by omega)
  unfold moreOk at h
  simp only [Bool.or_eq_true, Bool.and_eq_true, decide_eq_true_eq] at h
  rcases h with (h | h) | h
  · have := Nat.le_of_ble_eq_true h; omega
  · have := Nat.le_of_ble_eq_true h; omega
  · exact ⟨h.1.1, h.1.2, h.2⟩
end Go.Proofs.YtnbhjbelgmkpeaaDoor
