/- What one gets over all orders, as a sum over all sets; factorials. -/
import Derived.Test.YtpeoleimmabceaaEP
import Derived.Test.YtpeoleimmabceaaEH
set_option linter.unusedVariables false
set_option linter.unusedSimpArgs false
set_option linter.unusedSectionVars false

namespace Go.Proofs.Ytpeoleimmabceaa
open Go Go.AM

theorem SS_append (c : List Int) (x : Nat) : ∀ (l : List Nat) (f : Nat → Int → Int), SS c (l ++ [x]) f = SS c l f + SS c l (fun k s => f (k + 1) (s + c.getD x 0))
  | [], f => rfl
  | h :: t, f => by
    have e : (fun (k : Nat) (s : Int) => f (k + 1 + 1) (s + c.getD x 0 + c.getD h 0)) = fun k s => f (k + 1 + 1) (s + c.getD h 0 + c.getD x 0) := by
      funext k s; rw [Int.add_right_comm]
    show SS c (t ++ [x]) f + SS c (t ++ [x]) (fun k s => f (k + 1) (s + c.getD h 0)) = (SS c t f + SS c t (fun k s => f (k + 1) (s + c.getD h 0))) + (SS c t (fun k s => f (k + 1) (s + c.getD x 0)) + SS c t (fun k s => f (k + 1 + 1) (s + c.getD h 0 + c.getD x 0)))
    rw [SS_append c x t f, SS_append c x t (fun k s => f (k + 1) (s + c.getD h 0)), e]
    omega
def PC (s : Nat) : Nat → Nat
  | 0 => 0
  | k + 1 => PC s k + if s.testBit k then 1 else 0
theorem PC_le (s : Nat) : ∀ k, PC s k ≤ k
  | 0 => Nat.le_refl _
  | k + 1 => by have := PC_le s k; simp only [PC]; split <;> omega
theorem PC_congr {s t : Nat} : ∀ k, (∀ j, j < k → s.testBit j = t.testBit j) → PC s k = PC t k
  | 0, _ => rfl
  | k + 1, h => by simp only [PC]; rw [PC_congr k fun j hj => h j (by omega), h k (by omega)]
theorem PC_bit : ∀ n, n < 8 → ∀ s, s < 2 ^ n → ∀ i, i < n → s.testBit i = false → PC s n + 1 ≤ n := by decide +kernel
theorem add_bit : ∀ n, n < 8 → ∀ s, s < 2 ^ n → ∀ i, i < n → s.testBit i = false → s + 2 ^ i < 2 ^ n ∧ s + 2 ^ i = s ||| 2 ^ i := by decide +kernel
theorem inS_congr {s t n : Nat} {w : List Int} (h : ∀ j, j < n → s.testBit j = t.testBit j) : inS s n w = inS t n w := by
  unfold inS
  exact sum_congr fun j hj => by rw [h j hj]
theorem low_bit {s n j : Nat} (hs : s < 2 ^ n) (h : n ≤ j) : s.testBit j = false := Nat.testBit_lt_two_pow (Nat.lt_of_lt_of_le hs (Nat.pow_le_pow_right (by omega) h))
theorem MS (c : List Int) (i : Nat) : ∀ (n : Nat) (f : Nat → Int → Int), ((List.range (2 ^ n)).map fun s => if s.testBit i then 0 else f (PC s n) (inS s n c)).sum = SS c ((List.range n).filter fun j => decide (j ≠ i)) f
  | 0, f => by simp [PC, inS, SS]
  | n + 1, f => by
    have hr : List.range (2 ^ (n + 1)) = List.range (2 ^ n) ++ (List.range (2 ^ n)).map (2 ^ n + ·) := by
      rw [Nat.pow_succ, Nat.mul_two, List.range_add]
    have h1 : ((List.range (2 ^ n)).map fun s => if s.testBit i then 0 else f (PC s (n + 1)) (inS s (n + 1) c)).sum = SS c ((List.range n).filter fun j => decide (j ≠ i)) f := by
      rw [← MS c i n f]
      refine sum_congr fun s hs => ?_
      have hb : s.testBit n = false := low_bit hs (Nat.le_refl _)
      rw [sumBit s (n + 1) c (Nat.lt_succ_self n), hb]
      simp only [PC]
      rw [hb]
      simp
    rw [hr, List.map_append, List.sum_append, h1, List.map_map, List.range_succ, List.filter_append]
    by_cases hin : n = i
    · have h2 : ((List.range (2 ^ n)).map ((fun s => if s.testBit i then 0 else f (PC s (n + 1)) (inS s (n + 1) c)) ∘ (2 ^ n + ·))).sum = 0 := by
        refine (sum_congr (g := fun _ => 0) fun s hs => ?_).trans sum_zero
        show (if (2 ^ n + s).testBit i then (0 : Int) else _) = 0
        rw [← hin, Nat.testBit_two_pow_add_eq, low_bit hs (Nat.le_refl _)]
        rfl
      have e1 : ([n].filter fun j => decide (j ≠ i)) = [] := by rw [List.filter_cons_of_neg (by simp [hin])]; rfl
      rw [h2, e1, List.append_nil, Int.add_zero]
    · have h2 : ((List.range (2 ^ n)).map ((fun s => if s.testBit i then 0 else f (PC s (n + 1)) (inS s (n + 1) c)) ∘ (2 ^ n + ·))).sum = SS c ((List.range n).filter fun j => decide (j ≠ i)) (fun k s => f (k + 1) (s + c.getD n 0)) := by
        rw [← MS c i n (fun k s => f (k + 1) (s + c.getD n 0))]
        refine sum_congr fun s hs => ?_
        show (if (2 ^ n + s).testBit i then (0 : Int) else f (PC (2 ^ n + s) (n + 1)) (inS (2 ^ n + s) (n + 1) c)) = _
        have hlow : ∀ j, j < n → (2 ^ n + s).testBit j = s.testBit j := fun j hj => Nat.testBit_two_pow_add_gt hj s
        have htop : (2 ^ n + s).testBit n = true := by rw [Nat.testBit_two_pow_add_eq, low_bit hs (Nat.le_refl _)]; rfl
        have hbi : (2 ^ n + s).testBit i = s.testBit i := by
          rcases Nat.lt_or_ge i n with h | h
          · exact hlow i h
          · rw [low_bit hs h, low_bit (n := n + 1) (by rw [Nat.pow_succ]; omega) (by omega)]
        rw [hbi, sumBit (2 ^ n + s) (n + 1) c (Nat.lt_succ_self n), htop, inS_congr hlow]
        simp only [PC]
        rw [htop, PC_congr n hlow]
        simp
      have e1 : ([n].filter fun j => decide (j ≠ i)) = [n] := by rw [List.filter_cons_of_pos (by simp [hin])]; rfl
      rw [h2, e1, SS_append]
def term (e : Int) (c : List Int) (i s : Nat) : Int := if s.testBit i then 0 else factN (PC s c.length) * factN (c.length - 1 - PC s c.length) * (gv e c (s + 2 ^ i) - gv e c s)
theorem shapley {e : Int} {c : List Int} (hp : Q.Prob e c) {i : Nat} (hi : i < c.length) : RunV e c i = ((List.range (2 ^ c.length)).map (term e c i)).sum := by
  have h7 : c.length < 8 := by have := hp.2.1; omega
  have hnn : ∀ x ∈ c, 0 ≤ x := fun x hx => (hp.2.2.1 x hx).1
  obtain ⟨q1, q2, q3⟩ := one_out h7 hnn hi
  have hci := getD_nn hnn i
  have ho : outL (2 ^ i) c.length = (List.range c.length).filter fun j => decide (j ≠ i) := by
    have h := outL_or 0 c.length i
    rw [Nat.zero_or] at h
    rw [h]
    unfold outL
    rw [List.filter_filter]
    exact List.filter_congr fun j _ => by simp
  rw [runV_SS h7 hnn hp.1.1 hi, SS_comp (getD_nn hnn), q3, cnt_out, q2, ho, ← MS c i c.length]
  refine sum_congr fun s hs => ?_
  unfold term
  cases hb : s.testBit i with
  | true => rfl
  | false =>
    have h1 := PC_bit _ h7 s hs i hi hb
    obtain ⟨h2, h3⟩ := add_bit _ h7 s hs i hi hb
    have h4 := outS_or (c := c) hi hb
    have h5 := in_out s c.length c
    rw [← sum_range] at h5
    simp only [Bool.false_eq_true, if_false]
    rw [show c.length - 1 - (c.length - 1 - PC s c.length) = PC s c.length by omega, Int.mul_comm (factN (c.length - 1 - PC s c.length))]
    congr 1
    unfold gv
    rw [h3, h4]
    omega
end Go.Proofs.Ytpeoleimmabceaa
