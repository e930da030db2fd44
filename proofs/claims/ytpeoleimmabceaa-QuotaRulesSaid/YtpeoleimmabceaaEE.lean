/- RuleRun: what one gets, as a sum over who comes next; who has more gets no less; with more nobody gets less. -/
import Derived.Test.YtpeoleimmabceaaED
set_option linter.unusedVariables false
set_option linter.unusedSimpArgs false
set_option linter.unusedSectionVars false

namespace Go.Proofs.Ytpeoleimmabceaa
open Go Go.AM

def UR (c : List Int) : Nat → Nat → Int → Int → Int
  | 0, set, left, x => DR c.length 0 set * min x left
  | m + 1, set, left, x => DR c.length (m + 1) set * min x left + ((List.range c.length).map fun k => if set.testBit k then 0 else UR c m (set ||| 2 ^ k) (left - min (c.getD k 0) left) x).sum
def WR (n : Nat) : Nat → Nat → Int
  | 0, set => DR n 0 set
  | m + 1, set => DR n (m + 1) set + ((List.range n).map fun k => if set.testBit k then 0 else WR n m (set ||| 2 ^ k)).sum
variable {c : List Int} (h7 : c.length < 8)
include h7
theorem VU : ∀ (m came : Nat) (left : Int) (t : List Int) (i : Nat), came < 2 ^ c.length → cnt came c.length = m + 1 → i < c.length → t.length = c.length → came.testBit i = false → VR c (m + 1) came left t i = UR c m (came ||| 2 ^ i) left (c.getD i 0)
  | m, came, left, t, i, hc, hm, hi, l1, hb => by
    obtain ⟨q1, q2⟩ := cnt_or _ h7 came hc i hi hb
    have e1 : VR c (m + 1) came left t i = ((List.range c.length).map fun j => if came.testBit j then 0 else VR c m (came ||| 2 ^ j) (left - min (c.getD j 0) left) (t.set j (min (c.getD j 0) left)) i).sum := by simp only [VR]
    have e2 : VR c m (came ||| 2 ^ i) (left - min (c.getD i 0) left) (t.set i (min (c.getD i 0) left)) i = DR c.length m (came ||| 2 ^ i) * min (c.getD i 0) left := by
      rw [(VR_bound c h7 m _ _ _ i q2 (by omega) hi (by simp [l1])).1 (by rw [or_bit]; simp), set_getD (by omega), if_pos rfl]
    have e3 : ∀ j, j < c.length → (if j = i then DR c.length m (came ||| 2 ^ i) * min (c.getD i 0) left else if (came ||| 2 ^ i).testBit j then 0 else match m with | 0 => 0 | m + 1 => UR c m ((came ||| 2 ^ i) ||| 2 ^ j) (left - min (c.getD j 0) left) (c.getD i 0)) = (if came.testBit j then 0 else VR c m (came ||| 2 ^ j) (left - min (c.getD j 0) left) (t.set j (min (c.getD j 0) left)) i) := fun j hj => by
      by_cases hij : j = i
      · subst hij
        rw [if_pos rfl, hb]
        exact e2.symm
      · rw [if_neg hij, or_bit, decide_eq_false (fun h => hij h.symm), Bool.or_false]
        cases hbj : came.testBit j with
        | true => rfl
        | false =>
          obtain ⟨k1, k2⟩ := cnt_or _ h7 came hc j hj hbj
          have hbi : (came ||| 2 ^ j).testBit i = false := by rw [or_bit, hb]; simpa using hij
          obtain ⟨k3, k4⟩ := cnt_or _ h7 _ k2 i hi hbi
          simp only [Bool.false_eq_true, if_false]
          cases m with
          | zero => omega
          | succ m =>
            rw [VU m (came ||| 2 ^ j) _ _ i k2 (by omega) hi (by simp [l1]) hbi]
            rw [Nat.or_assoc, Nat.or_assoc, Nat.or_comm (2 ^ i)]
    rw [e1, ← sum_congr e3, sum_one hi]
    have hbi : (came ||| 2 ^ i).testBit i = true := by rw [or_bit]; simp
    rw [hbi]
    simp only [if_true, Int.sub_zero]
    cases m with
    | zero =>
      simp only [UR]
      rw [sum_congr (g := fun _ => 0) fun j _ => by split <;> rfl, sum_zero, Int.zero_add]
    | succ m => simp only [UR]; omega
theorem WU : ∀ (m came : Nat) (i : Nat), came < 2 ^ c.length → cnt came c.length = m + 1 → i < c.length → came.testBit i = false → DR c.length (m + 1) came = WR c.length m (came ||| 2 ^ i)
  | m, came, i, hc, hm, hi, hb => by
    have e1 : DR c.length (m + 1) came = ((List.range c.length).map fun j => if came.testBit j then 0 else DR c.length m (came ||| 2 ^ j)).sum := by simp only [DR]
    have e3 : ∀ j, j < c.length → (if j = i then DR c.length m (came ||| 2 ^ i) else if (came ||| 2 ^ i).testBit j then 0 else match m with | 0 => 0 | m + 1 => WR c.length m ((came ||| 2 ^ i) ||| 2 ^ j)) = (if came.testBit j then 0 else DR c.length m (came ||| 2 ^ j)) := fun j hj => by
      by_cases hij : j = i
      · subst hij
        rw [if_pos rfl, hb]; rfl
      · rw [if_neg hij, or_bit, decide_eq_false (fun h => hij h.symm), Bool.or_false]
        cases hbj : came.testBit j with
        | true => rfl
        | false =>
          obtain ⟨k1, k2⟩ := cnt_or _ h7 came hc j hj hbj
          have hbi : (came ||| 2 ^ j).testBit i = false := by rw [or_bit, hb]; simpa using hij
          obtain ⟨k3, k4⟩ := cnt_or _ h7 _ k2 i hi hbi
          simp only [Bool.false_eq_true, if_false]
          cases m with
          | zero => omega
          | succ m =>
            rw [WU m (came ||| 2 ^ j) i k2 (by omega) hi hbi]
            rw [Nat.or_assoc, Nat.or_assoc, Nat.or_comm (2 ^ i)]
    rw [e1, ← sum_congr e3, sum_one hi]
    have hbi : (came ||| 2 ^ i).testBit i = true := by rw [or_bit]; simp
    rw [hbi]
    simp only [if_true, Int.sub_zero]
    cases m with
    | zero =>
      simp only [WR]
      rw [sum_congr (g := fun _ => 0) fun j _ => by split <;> rfl, sum_zero, Int.zero_add]
    | succ m => simp only [WR]; omega
omit h7
theorem UR_mono (hp : ∀ x ∈ c, 0 ≤ x) : ∀ (m set : Nat) {l1 l2 x1 x2 : Int}, 0 ≤ l1 → l1 ≤ l2 → x1 ≤ x2 → UR c m set l1 x1 ≤ UR c m set l2 x2
  | 0, set, l1, l2, x1, x2, h0, h1, h2 => by
    simp only [UR]
    exact Int.mul_le_mul_of_nonneg_left (by omega) (DR_nonneg _ _ _)
  | m + 1, set, l1, l2, x1, x2, h0, h1, h2 => by
    simp only [UR]
    have k1 : DR c.length (m + 1) set * min x1 l1 ≤ DR c.length (m + 1) set * min x2 l2 := Int.mul_le_mul_of_nonneg_left (by omega) (DR_nonneg _ _ _)
    have k2 : ((List.range c.length).map fun k => if set.testBit k then 0 else UR c m (set ||| 2 ^ k) (l1 - min (c.getD k 0) l1) x1).sum ≤ ((List.range c.length).map fun k => if set.testBit k then 0 else UR c m (set ||| 2 ^ k) (l2 - min (c.getD k 0) l2) x2).sum := by
      refine sum_le_of fun k hk => ?_
      split
      · omega
      · have := hp _ (getD_mem (d := 0) (List.mem_range.1 hk))
        exact UR_mono hp m _ (by omega) (by omega) h2
    omega
theorem UR_loss (hp : ∀ x ∈ c, 0 ≤ x) : ∀ (m set : Nat) (L : Int) {x1 x2 : Int}, x1 ≤ x2 → WR c.length m set * x1 - UR c m set (max 0 (L - x2)) x1 ≤ WR c.length m set * x2 - UR c m set (max 0 (L - x1)) x2
  | 0, set, L, x1, x2, h => by
    simp only [UR, WR]
    rw [← Int.mul_sub, ← Int.mul_sub]
    exact Int.mul_le_mul_of_nonneg_left (by omega) (DR_nonneg _ _ _)
  | m + 1, set, L, x1, x2, h => by
    simp only [UR, WR]
    have k1 : DR c.length (m + 1) set * (x1 - min x1 (max 0 (L - x2))) ≤ DR c.length (m + 1) set * (x2 - min x2 (max 0 (L - x1))) := Int.mul_le_mul_of_nonneg_left (by omega) (DR_nonneg _ _ _)
    rw [Int.mul_sub, Int.mul_sub] at k1
    have k2 : ((List.range c.length).map fun k => (if set.testBit k then 0 else WR c.length m (set ||| 2 ^ k)) * x1 - if set.testBit k then 0 else UR c m (set ||| 2 ^ k) (max 0 (L - x2) - min (c.getD k 0) (max 0 (L - x2))) x1).sum ≤
        ((List.range c.length).map fun k => (if set.testBit k then 0 else WR c.length m (set ||| 2 ^ k)) * x2 - if set.testBit k then 0 else UR c m (set ||| 2 ^ k) (max 0 (L - x1) - min (c.getD k 0) (max 0 (L - x1))) x2).sum := by
      refine sum_le_of fun k hk => ?_
      split
      · omega
      · have hk0 := hp _ (getD_mem (d := 0) (List.mem_range.1 hk))
        have := UR_loss hp m (set ||| 2 ^ k) (L - c.getD k 0) h
        rw [show max 0 (L - x2) - min (c.getD k 0) (max 0 (L - x2)) = max 0 (L - c.getD k 0 - x2) by omega, show max 0 (L - x1) - min (c.getD k 0) (max 0 (L - x1)) = max 0 (L - c.getD k 0 - x1) by omega]
        exact this
    rw [sum_sub, sum_sub, sum_mul_right, sum_mul_right] at k2
    rw [Int.add_mul, Int.add_mul]
    omega
theorem UR_two (h7 : c.length < 8) (hp : ∀ x ∈ c, 0 ≤ x) : ∀ (m s i j : Nat) (left : Int), s < 2 ^ c.length → cnt s c.length = m + 1 → i < c.length → j < c.length → s.testBit i = false → s.testBit j = false → 0 ≤ left → c.getD i 0 ≤ c.getD j 0 →
    UR c m (s ||| 2 ^ i) left (c.getD i 0) ≤ UR c m (s ||| 2 ^ j) left (c.getD j 0) ∧ WR c.length m (s ||| 2 ^ i) * c.getD i 0 - UR c m (s ||| 2 ^ i) left (c.getD i 0) ≤ WR c.length m (s ||| 2 ^ j) * c.getD j 0 - UR c m (s ||| 2 ^ j) left (c.getD j 0)
  | m, s, i, j, left, hs, hm, hi, hj, bi, bj, h0, hle => by
    obtain ⟨i1, i2⟩ := cnt_or _ h7 s hs i hi bi
    obtain ⟨j1, j2⟩ := cnt_or _ h7 s hs j hj bj
    have hci := hp _ (getD_mem (d := 0) hi)
    have hcj := hp _ (getD_mem (d := 0) hj)
    rcases Nat.decEq i j with hij | hij
    case isTrue => subst hij; exact ⟨Int.le_refl _, Int.le_refl _⟩
    have hD : DR c.length m (s ||| 2 ^ i) = DR c.length m (s ||| 2 ^ j) := by rw [DR_eq h7 m _ i2 (by omega), DR_eq h7 m _ j2 (by omega)]
    cases m with
    | zero =>
      simp only [UR, WR]
      rw [hD, ← Int.mul_sub, ← Int.mul_sub]
      exact ⟨Int.mul_le_mul_of_nonneg_left (by omega) (DR_nonneg _ _ _), Int.mul_le_mul_of_nonneg_left (by omega) (DR_nonneg _ _ _)⟩
    | succ m =>
      simp only [UR, WR]
      rw [hD]
      have hn := DR_nonneg c.length (m + 1) (s ||| 2 ^ j)
      have k1 : DR c.length (m + 1) (s ||| 2 ^ j) * min (c.getD i 0) left ≤ DR c.length (m + 1) (s ||| 2 ^ j) * min (c.getD j 0) left := Int.mul_le_mul_of_nonneg_left (by omega) hn
      have k2 : DR c.length (m + 1) (s ||| 2 ^ j) * (c.getD i 0 - min (c.getD i 0) left) ≤ DR c.length (m + 1) (s ||| 2 ^ j) * (c.getD j 0 - min (c.getD j 0) left) := Int.mul_le_mul_of_nonneg_left (by omega) hn
      rw [Int.mul_sub, Int.mul_sub] at k2
      have bij : (s ||| 2 ^ i).testBit j = false := by rw [or_bit, bj]; simpa using hij
      have bji : (s ||| 2 ^ j).testBit i = false := by rw [or_bit, bi]; simpa using (Ne.symm hij)
      have bii : (s ||| 2 ^ i).testBit i = true := by rw [or_bit]; simp
      have bjj : (s ||| 2 ^ j).testBit j = true := by rw [or_bit]; simp
      have hss : (s ||| 2 ^ i) ||| 2 ^ j = (s ||| 2 ^ j) ||| 2 ^ i := by rw [Nat.or_assoc, Nat.or_assoc, Nat.or_comm (2 ^ i)]
      have pull : ∀ (F : Nat → Int), ((List.range c.length).map F).sum = ((List.range c.length).map fun k => if k = i then 0 else if k = j then 0 else F k).sum + F i + F j := fun F => by
        have h1 := sum_one hj F 0
        have h2 := sum_one hi (fun k => if k = j then 0 else F k) 0
        simp only [if_neg hij] at h2
        omega
      have kk : ∀ k, k < c.length → k ≠ i → k ≠ j → s.testBit k = false → (UR c m ((s ||| 2 ^ i) ||| 2 ^ k) (left - min (c.getD k 0) left) (c.getD i 0) ≤ UR c m ((s ||| 2 ^ j) ||| 2 ^ k) (left - min (c.getD k 0) left) (c.getD j 0)) ∧
          (WR c.length m ((s ||| 2 ^ i) ||| 2 ^ k) * c.getD i 0 - UR c m ((s ||| 2 ^ i) ||| 2 ^ k) (left - min (c.getD k 0) left) (c.getD i 0) ≤ WR c.length m ((s ||| 2 ^ j) ||| 2 ^ k) * c.getD j 0 - UR c m ((s ||| 2 ^ j) ||| 2 ^ k) (left - min (c.getD k 0) left) (c.getD j 0)) := fun k hk hki hkj bk => by
        obtain ⟨q1, q2⟩ := cnt_or _ h7 s hs k hk bk
        have hck := hp _ (getD_mem (d := 0) hk)
        have := UR_two h7 hp m (s ||| 2 ^ k) i j (left - min (c.getD k 0) left) q2 (by omega) hi hj (by rw [or_bit, bi]; simpa using hki) (by rw [or_bit, bj]; simpa using hkj) (by omega) hle
        rw [show (s ||| 2 ^ i) ||| 2 ^ k = (s ||| 2 ^ k) ||| 2 ^ i by rw [Nat.or_assoc, Nat.or_assoc, Nat.or_comm (2 ^ i)], show (s ||| 2 ^ j) ||| 2 ^ k = (s ||| 2 ^ k) ||| 2 ^ j by rw [Nat.or_assoc, Nat.or_assoc, Nat.or_comm (2 ^ j)]]
        exact this
      have A1 := pull fun k => if (s ||| 2 ^ i).testBit k then 0 else UR c m ((s ||| 2 ^ i) ||| 2 ^ k) (left - min (c.getD k 0) left) (c.getD i 0)
      have A2 := pull fun k => if (s ||| 2 ^ j).testBit k then 0 else UR c m ((s ||| 2 ^ j) ||| 2 ^ k) (left - min (c.getD k 0) left) (c.getD j 0)
      have B1 := pull fun k => if (s ||| 2 ^ i).testBit k then 0 else WR c.length m ((s ||| 2 ^ i) ||| 2 ^ k)
      have B2 := pull fun k => if (s ||| 2 ^ j).testBit k then 0 else WR c.length m ((s ||| 2 ^ j) ||| 2 ^ k)
      simp only [bii, bjj, bij, bji, if_true, Bool.false_eq_true, if_false] at A1 A2 B1 B2
      have C1 : ((List.range c.length).map fun k => if k = i then 0 else if k = j then 0 else if (s ||| 2 ^ i).testBit k then 0 else UR c m ((s ||| 2 ^ i) ||| 2 ^ k) (left - min (c.getD k 0) left) (c.getD i 0)).sum ≤ ((List.range c.length).map fun k => if k = i then 0 else if k = j then 0 else if (s ||| 2 ^ j).testBit k then 0 else UR c m ((s ||| 2 ^ j) ||| 2 ^ k) (left - min (c.getD k 0) left) (c.getD j 0)).sum := by
        refine sum_le_of fun k hk => ?_
        have hk := List.mem_range.1 hk
        by_cases h1 : k = i
        · rw [if_pos h1, if_pos h1]; exact Int.le_refl _
        by_cases h2 : k = j
        · rw [if_neg h1, if_neg h1, if_pos h2, if_pos h2]; exact Int.le_refl _
        rw [if_neg h1, if_neg h1, if_neg h2, if_neg h2, or_bit, or_bit, decide_eq_false (Ne.symm h1), decide_eq_false (Ne.symm h2), Bool.or_false]
        cases bk : s.testBit k with
        | true => exact Int.le_refl _
        | false => exact (kk k hk h1 h2 bk).1
      have C2 : ((List.range c.length).map fun k => (if k = i then 0 else if k = j then 0 else if (s ||| 2 ^ i).testBit k then 0 else WR c.length m ((s ||| 2 ^ i) ||| 2 ^ k)) * c.getD i 0 - if k = i then 0 else if k = j then 0 else if (s ||| 2 ^ i).testBit k then 0 else UR c m ((s ||| 2 ^ i) ||| 2 ^ k) (left - min (c.getD k 0) left) (c.getD i 0)).sum ≤
          ((List.range c.length).map fun k => (if k = i then 0 else if k = j then 0 else if (s ||| 2 ^ j).testBit k then 0 else WR c.length m ((s ||| 2 ^ j) ||| 2 ^ k)) * c.getD j 0 - if k = i then 0 else if k = j then 0 else if (s ||| 2 ^ j).testBit k then 0 else UR c m ((s ||| 2 ^ j) ||| 2 ^ k) (left - min (c.getD k 0) left) (c.getD j 0)).sum := by
        refine sum_le_of fun k hk => ?_
        have hk := List.mem_range.1 hk
        by_cases h1 : k = i
        · simp [h1]
        by_cases h2 : k = j
        · simp [h2]
        simp only [if_neg h1, if_neg h2]
        rw [or_bit, or_bit, decide_eq_false (Ne.symm h1), decide_eq_false (Ne.symm h2), Bool.or_false]
        cases bk : s.testBit k with
        | true => simp
        | false => exact (kk k hk h1 h2 bk).2
      rw [sum_sub, sum_sub, sum_mul_right, sum_mul_right] at C2
      have D1 := UR_mono hp m ((s ||| 2 ^ j) ||| 2 ^ i) (l1 := left - min (c.getD j 0) left) (l2 := left - min (c.getD i 0) left) (x1 := c.getD i 0) (x2 := c.getD j 0) (by omega) (by omega) hle
      have D2 := UR_loss hp m ((s ||| 2 ^ j) ||| 2 ^ i) left hle
      rw [show max 0 (left - c.getD j 0) = left - min (c.getD j 0) left by omega, show max 0 (left - c.getD i 0) = left - min (c.getD i 0) left by omega] at D2
      rw [hss] at A1 B1
      rw [A1, A2, B1, B2]
      refine ⟨by omega, ?_⟩
      rw [Int.add_mul, Int.add_mul, Int.add_mul, Int.add_mul, Int.add_mul, Int.add_mul]
      omega
end Go.Proofs.Ytpeoleimmabceaa
