/- RuleRun: what one gets, as a sum over who comes next; who has more gets no less; with more nobody gets less. -/
import Derived.Test.YtpeoleimmabceaaED
set_option linter.unusedVariables false
set_option linter.unusedSimpArgs false
set_option linter.unusedSectionVars false

namespace Go.Proofs.Ytpeoleimmabceaa
open Go Go.AM

def UR (c : List Int) : Nat → Nat → Int → Int → Int
  | 0, set, left, x => DR c.length 0 set * min x left
  | m + 1, set, left, x => DR c.length (m + 1) set * min x left + ((List.range c.length).map fun k => if set.testBit k then 0 else UR c m (set ||| 2 ^ k) (left - min (c.getD k 0) left) x).sum
def WR (n : Nat) : Nat → Nat → Int
  | 0, set => DR n 0 set
  | m + 1, set => DR n (m + 1) set + ((List.range n).map fun k => if set.testBit k then 0 else WR n m (set ||| 2 ^ k)).sum
variable {c : List Int} (h7 : c.length < 8)
include h7
theorem VU : ∀ (m came : Nat) (left : Int) (t : List Int) (i : Nat), came < 2 ^ c.length → cnt came c.length = m + 1 → i < c.length → t.length = c.length → came.testBit i = false → VR c (m + 1) came left t i = UR c m (came ||| 2 ^ i) left (c.getD i 0)
  | m, came, left, t, i, hc, hm, hi, l1, hb => by
    obtain ⟨q1, q2⟩ := cnt_or _ h7 came hc i hi hb
    have e1 : VR c (m + 1) came left t i = ((List.range c.length).map fun j => if came.testBit j then 0 else VR c m (came ||| 2 ^ j) (left - min (c.getD j 0) left) (t.set j (min (c.getD j 0) left)) i).sum := by simp only [VR]
    have e2 : VR c m (came ||| 2 ^ i) (left - min (c.getD i 0) left) (t.set i (min (c.getD i 0) left)) i = DR c.length m (came ||| 2 ^ i) * min (c.getD i 0) left := by
      rw [(VR_bound c h7 m _ _ _ i q2 (by omega) hi (by simp [l1])).1 (by rw [or_bit]; simp), set_getD (by omega), if_pos rfl]
    have e3 : ∀ j, j < c.length → (if j = i then DR c.length m (came ||| 2 ^ i) * min (c.getD i 0) left else if (came ||| 2 ^ i).testBit j then 0 else match m with | 0 => 0 | m + 1 => UR c m ((came ||| 2 ^ i) ||| 2 ^ j) (left - min (c.getD j 0) left) (c.getD i 0)) = (if came.testBit j then 0 else VR c m (came ||| 2 ^ j) (left - min (c.getD j 0) left) (t.set j (min (c.getD j 0) left)) i) := fun j hj => by
      by_cases hij : j = i
      · subst hij
        rw [if_pos rfl, hb]
        exact e2.symm
      · rw [if_neg hij, or_bit, decide_eq_false (fun h => hij h.symm), Bool.or_false]
        cases hbj : came.testBit j with
        | true => rfl
        | false =>
          obtain ⟨k1, k2⟩ := cnt_or _ h7 came hc j hj hbj
          have hbi : (came ||| 2 ^ j).testBit i = false := by rw [or_bit, hb]; simpa using hij
          obtain ⟨k3, k4⟩ := cnt_or _ h7 _ k2 i hi hbi
          simp only [Bool.false_eq_true, if_false]
          cases m with
          | zero => omega
          | succ m =>
            rw [VU m (came ||| 2 ^ j) _ _ i k2 (by omega) hi (by simp [l1]) hbi]
            rw [Nat.or_assoc, Nat.or_assoc, Nat.or_comm (2 ^ i)]
    rw [e1, ← sum_congr e3, sum_one hi]
    have hbi : (came ||| 2 ^ i).testBit i = true := by rw [or_bit]; simp
    rw [hbi]
    simp only [if_true, Int.sub_zero]
    cases m with
    | zero =>
      simp only [UR]
      rw [sum_congr (g := fun _ => 0) fun j _ => by split <;> rfl, sum_zero, Int.zero_add]
    | succ m => simp only [UR]; omega
theorem WU : ∀ (m came : Nat) (i : Nat), came < 2 ^ c.length → cnt came c.length = m + 1 → i < c.length → came.testBit i = false → DR c.length (m + 1) came = WR c.length m (came ||| 2 ^ i)
  | m, came, i, hc, hm, hi, hb => by
    have e1 : DR c.length (m + 1) came = ((List.range c.length).map fun j => if came.testBit j then 0 else DR c.length m (came ||| 2 ^ j)).sum := by simp only [DR]
    have e3 : ∀ j, j < c.length → (if j = i then DR c.length m (came ||| 2 ^ i) else if (came ||| 2 ^ i).testBit j then 0 else match m with | 0 => 0 | m + 1 => WR c.length m ((came ||| 2 ^ i) ||| 2 ^ j)) = (if came.testBit j then 0 else DR c.length m (came ||| 2 ^ j)) := fun j hj => by
      by_cases hij : j = i
      · subst hij
        rw [if_pos rfl, hb]; rfl
      · rw [if_neg hij, or_bit, decide_eq_false (fun h => hij h.symm), Bool.or_false]
        cases hbj : came.testBit j with
        | true => rfl
        | false =>
          obtain ⟨k1, k2⟩ := cnt_or _ h7 came hc j hj hbj
          have hbi : (came ||| 2 ^ j).testBit i = false := by rw [or_bit, hb]; simpa using hij
          obtain ⟨k3, k4⟩ := cnt_or _ h7 _ k2 i hi hbi
          simp only [Bool.false_eq_true, if_false]
          cases m with
          | zero => omega
          | succ m =>
            rw [WU m (came ||| 2 ^ j) i k2 (by omega) hi hbi]
            rw [Nat.or_assoc, Nat.or_assoc, Nat.or_comm (2 ^ i)]
    rw [e1, ← sum_congr e3, sum_one hi]
    have hbi : (came ||| 2 ^ i).testBit i = true := by rw [or_bit]; simp
    rw [hbi]
    simp only [if_true, Int.sub_zero]
    cases m with
    | zero =>
      simp only [WR]
      rw [sum_congr (g := fun _ => 0) fun j _ => by split <;> rfl, sum_zero, Int.zero_add]
    | succ m => simp only [WR]; omega
omit h7
end Go.Proofs.Ytpeoleimmabceaa
