/- The Talmud's shares are fair to every pair, and no others are. -/
import Derived.Test.YtpeoleimmabceaaEM
set_option linter.unusedVariables false
set_option linter.unusedSimpArgs false
set_option linter.unusedSectionVars false

namespace Go.Proofs.Ytpeoleimmabceaa
open Go Go.AM

theorem all_eqE {n : Nat} {f g : Nat → Int} (h : ∀ i, i < n → f i ≤ g i) (hs : ((List.range n).map g).sum ≤ ((List.range n).map f).sum) {i : Nat} (hi : i < n) : f i = g i := by
  have h1 := range_take_sum (fun i => g i - f i) (n := n) (k := i) (fun j hj => by have := h j hj; omega) hi
  have h2 : 0 ≤ ((List.range i).map fun i => g i - f i).sum := sum_nonneg fun x hx => by
    obtain ⟨j, hj, rfl⟩ := List.mem_map.1 hx
    have := h j (by have := List.mem_range.1 hj; omega)
    omega
  have h3 := sum_sub (List.range n) g f
  have h1b : ((List.range (i + 1)).map fun i => g i - f i).sum = ((List.range i).map fun i => g i - f i).sum + (g i - f i) := h1.1
  have h1c : ((List.range (i + 1)).map fun i => g i - f i).sum ≤ ((List.range n).map fun i => g i - f i).sum := h1.2
  have := h i hi
  omega
theorem twice_mul {m e a b : Int} (hm : 0 ≤ m) : twice (m * e) (m * a) (m * b) = m * twice e a b := by
  unfold twice
  have h : ∀ x y : Int, max 0 (m * x - m * y) = m * max 0 (x - y) := fun x y => by
    rw [← Int.mul_sub]
    rcases Int.le_total 0 (x - y) with q | q
    · rw [Int.max_eq_right q, Int.max_eq_right (Int.mul_nonneg hm q)]
    · rw [Int.max_eq_left q, Int.max_eq_left (Int.mul_nonpos_of_nonneg_of_nonpos hm q), Int.mul_zero]
  rw [h, h, Int.mul_sub, Int.mul_add]
theorem twice_swap (e a b : Int) : twice e b a = 2 * e - twice e a b := by unfold twice; omega
theorem twice_mono {e e' a b : Int} (h : e ≤ e') : twice e a b ≤ twice e' a b := by unfold twice; omega
theorem cea_pair {e : Int} {c w : List Int} {d : Int} (h : CEA e c (dbl w) d) (hl : w.length = c.length) (hc : ∀ x ∈ c, 0 ≤ x ∧ x ≤ 100000) (hd : 1 ≤ d) {i j : Nat} (hi : i < c.length) (hj : j < c.length) : twice (w.getD i 0 + w.getD j 0) (c.getD i 0 * d) (c.getD j 0 * d) = 2 * w.getD i 0 ∧
    twice (c.getD i 0 * d - w.getD i 0 + (c.getD j 0 * d - w.getD j 0)) (c.getD i 0 * d) (c.getD j 0 * d) = 2 * (c.getD i 0 * d - w.getD i 0) := by
  obtain ⟨L, k, h1, h2, h3, _⟩ := h
  have ai := h3 i hi
  have aj := h3 j hj
  rw [dbl_at (by omega)] at ai aj
  have ci := (hc _ (getD_mem (d := 0) hi)).1
  have cj := (hc _ (getD_mem (d := 0) hj)).1
  have hmin : ∀ x : Int, d * min (x * k) L = min (x * d * k) (d * L) := fun x => by
    rw [Int.mul_right_comm x d k, Int.mul_comm (x * k) d]
    rcases Int.le_total (x * k) L with q | q
    · rw [Int.min_eq_left q, Int.min_eq_left (Int.mul_le_mul_of_nonneg_left q (by omega))]
    · rw [Int.min_eq_right q, Int.min_eq_right (Int.mul_le_mul_of_nonneg_left q (by omega))]
  rw [hmin] at ai aj
  have hA : 0 ≤ c.getD i 0 * d * k := Int.mul_nonneg (Int.mul_nonneg ci (by omega)) (by omega)
  have hB : 0 ≤ c.getD j 0 * d * k := Int.mul_nonneg (Int.mul_nonneg cj (by omega)) (by omega)
  have hD : 0 ≤ d * L := Int.mul_nonneg (by omega) h2
  have key : ∀ {x y a b : Int}, twice (k * x + k * y) (k * a) (k * b) = 2 * (k * x) → twice (x + y) a b = 2 * x := fun {x y a b} q => by
    rw [← Int.mul_add, twice_mul (by omega), Int.mul_left_comm] at q
    exact Int.eq_of_mul_eq_mul_left (by omega) q
  rw [Int.mul_assoc, Int.mul_comm _ k] at ai aj
  rw [Int.mul_comm _ k] at ai aj hA hB
  constructor
  · apply key
    unfold twice
    omega
  · apply key
    rw [Int.mul_sub, Int.mul_sub]
    unfold twice
    omega
theorem talmud_fair {e : Int} {c w : List Int} {d : Int} (hP : Q.Prob e c) (hs : Q.Shr e c w d) (h : Awd RunR 3 e c w d) {i j : Nat} (hi : i < c.length) (hj : j < c.length) : ¬ Unf c w d i j := by
  unfold Unf
  have hd := hs.2.1.1
  have hl := hs.1
  unfold Awd at h
  rw [if_neg (by decide), if_neg (by decide), if_neg (by decide), if_pos rfl] at h
  split at h
  · exact fun hn => hn (cea_pair h hl hP.2.2.1 hd hi hj).1
  · have h2 := (cea_pair h (zipL_len _ _ _) hP.2.2.1 hd hi hj).2
    rw [zipL_at hi, zipL_at hj, show c.getD i 0 * d - (c.getD i 0 * d - w.getD i 0) = w.getD i 0 by omega, show c.getD j 0 * d - (c.getD j 0 * d - w.getD j 0) = w.getD j 0 by omega] at h2
    exact fun hn => hn h2
theorem fair_cross {e : Int} {c w w' : List Int} {d d' : Int} (hs : Q.Shr e c w d) (hs' : Q.Shr e c w' d') (hf : ∀ i j, i < j → j < c.length → ¬ Unf c w d i j) (hf' : ∀ i j, i < j → j < c.length → ¬ Unf c w' d' i j) {i : Nat} (hi : i < c.length) : w.getD i 0 * d' = w'.getD i 0 * d := by
  have hd := hs.2.1.1
  have hd' := hs'.2.1.1
  have fp : ∀ {w : List Int} {d : Int} {m : Int}, 0 ≤ m → (∀ i j, i < j → j < c.length → ¬ Unf c w d i j) → ∀ i j, i ≠ j → i < c.length → j < c.length → twice (w.getD i 0 * m + w.getD j 0 * m) (c.getD i 0 * d * m) (c.getD j 0 * d * m) = 2 * (w.getD i 0 * m) := by
    intro w d m hm hf i j hij hi hj
    have h1 : ∀ i j, i < j → j < c.length → twice (w.getD i 0 + w.getD j 0) (c.getD i 0 * d) (c.getD j 0 * d) = 2 * w.getD i 0 := fun i j h1 h2 => Classical.byContradiction fun hn => hf i j h1 h2 hn
    have h2 : twice (w.getD i 0 + w.getD j 0) (c.getD i 0 * d) (c.getD j 0 * d) = 2 * w.getD i 0 := by
      rcases Nat.lt_or_ge i j with h | h
      · exact h1 i j h hj
      · have h3 := h1 j i (by omega) hi
        rw [twice_swap, Int.add_comm, h3]; omega
    rw [← Int.add_mul, Int.mul_comm _ m, Int.mul_comm _ m, Int.mul_comm _ m, twice_mul hm, h2, Int.mul_left_comm, Int.mul_comm m]
  have a1 := fp (m := d') (by omega) hf
  have a2 := fp (m := d) (by omega) hf'
  have hS1 : ((List.range c.length).map fun i => w.getD i 0 * d').sum = e * d * d' := by rw [sum_mul_right, ← hs.1, ← sum_range, hs.2.2.2.1]
  have hS2 : ((List.range c.length).map fun i => w'.getD i 0 * d).sum = e * d * d' := by rw [sum_mul_right, ← hs'.1, ← sum_range, hs'.2.2.2.1, Int.mul_right_comm]
  have hcc : ∀ j, c.getD j 0 * d' * d = c.getD j 0 * d * d' := fun j => Int.mul_right_comm _ _ _
  have no : ∀ {f g : Nat → Int}, (∀ i j, i ≠ j → i < c.length → j < c.length → twice (f i + f j) (c.getD i 0 * d * d') (c.getD j 0 * d * d') = 2 * f i) → (∀ i j, i ≠ j → i < c.length → j < c.length → twice (g i + g j) (c.getD i 0 * d * d') (c.getD j 0 * d * d') = 2 * g i) →
      ((List.range c.length).map f).sum = ((List.range c.length).map g).sum → ∀ i, i < c.length → ¬ f i < g i := by
    intro f g hf hg hs i hi hlt
    have : ∃ j, j < c.length ∧ g j < f j := Classical.byContradiction fun hn => by
      have h1 := all_eqE (n := c.length) (f := f) (g := g) (fun j hj => by
        rcases Int.lt_or_le (g j) (f j) with h | h
        · exact absurd ⟨j, hj, h⟩ hn
        · exact h) (Int.le_of_eq hs.symm) hi
      omega
    obtain ⟨j, hj, hgt⟩ := this
    have hij : i ≠ j := fun h => by rw [h] at hlt; omega
    rcases Int.le_total (f i + f j) (g i + g j) with h | h
    · have h1 := hf j i (Ne.symm hij) hj hi
      have h2 := hg j i (Ne.symm hij) hj hi
      have h3 := twice_mono (a := c.getD j 0 * d * d') (b := c.getD i 0 * d * d') (show f j + f i ≤ g j + g i by omega)
      omega
    · have h1 := hf i j hij hi hj
      have h2 := hg i j hij hi hj
      have h3 := twice_mono (a := c.getD i 0 * d * d') (b := c.getD j 0 * d * d') h
      omega
  have b2 : ∀ i j, i ≠ j → i < c.length → j < c.length → twice (w'.getD i 0 * d + w'.getD j 0 * d) (c.getD i 0 * d * d') (c.getD j 0 * d * d') = 2 * (w'.getD i 0 * d) := fun i j h1 h2 h3 => by
    have := a2 i j h1 h2 h3
    rw [hcc, hcc] at this
    exact this
  have n1 := no (f := fun i => w.getD i 0 * d') (g := fun i => w'.getD i 0 * d) a1 b2 (hS1.trans hS2.symm) i hi
  have n2 := no (f := fun i => w'.getD i 0 * d) (g := fun i => w.getD i 0 * d') b2 a1 (hS2.trans hS1.symm) i hi
  omega
theorem low_one {w w' : List Int} {d d' : Int} (hl : w.length = w'.length) (hd : 1 ≤ d) (hd' : 1 ≤ d') (hw : ∀ x ∈ w, 0 ≤ x) (hw' : ∀ x ∈ w', 0 ≤ x) (g : Q.gcdAll d w = 1) (g' : Q.gcdAll d' w' = 1) (h : ∀ i, i < w.length → w.getD i 0 * d' = w'.getD i 0 * d) : d = d' ∧ w = w' := by
  have h1 := gcdAll_mul d' (by omega) w d (by omega) hw
  have h2 := gcdAll_mul d (by omega) w' d' (by omega) hw'
  have h3 : w.map (fun x => d' * x) = w'.map (fun x => d * x) := list_is _ (by simp) (show _ = w.length by simp [hl]) (fun i hi => map_getD (f := fun x => d' * x) hi) (fun i hi => by
    rw [map_getD (f := fun x => d * x) (by omega), Int.mul_comm d, ← h i hi, Int.mul_comm d'])
  rw [g, h3, Int.mul_comm d' d, h2, g'] at h1
  have hdd : d = d' := by omega
  subst hdd
  exact ⟨rfl, list_is (fun i => w'.getD i 0) rfl hl.symm (fun i hi => Int.eq_of_mul_eq_mul_right (by omega) (h i hi)) (fun i hi => rfl)⟩
theorem shr_nn {e : Int} {c w : List Int} {d : Int} (hs : Q.Shr e c w d) : ∀ x ∈ w, 0 ≤ x := all_of (d := 0) fun i hi => (hs.2.2.1 i hi).1
theorem fair_one {e : Int} {c w w' : List Int} {d d' : Int} (hs : Q.Shr e c w d) (hs' : Q.Shr e c w' d') (hf : ∀ i j, i < j → j < c.length → ¬ Unf c w d i j) (hf' : ∀ i j, i < j → j < c.length → ¬ Unf c w' d' i j) : d = d' ∧ w = w' :=
  low_one (hs.1.trans hs'.1.symm) hs.2.1.1 hs'.2.1.1 (shr_nn hs) (shr_nn hs') hs.2.2.2.2 hs'.2.2.2.2 fun i hi => fair_cross hs hs' hf hf' (by rw [← hs.1]; exact hi)
theorem contest_shr {e a b : Int} (hP : Q.Prob e [a, b]) : Q.Shr e [a, b] (halfN (twice e a b) (2 * e - twice e a b)) (halfD (twice e a b)) ∧ ∀ i j, i < j → j < 2 → ¬ Unf [a, b] (halfN (twice e a b) (2 * e - twice e a b)) (halfD (twice e a b)) i j := by
  have he := hP.1
  have ha : 0 ≤ a ∧ a ≤ 100000 := hP.2.2.1 a (by simp)
  have hb : 0 ≤ b ∧ b ≤ 100000 := hP.2.2.1 b (by simp)
  have hs : e ≤ a + b := by have := hP.2.2.2; simp at this; omega
  obtain ⟨F, hF⟩ : ∃ F, F = twice e a b := ⟨_, rfl⟩
  have hF2 : F = e + max 0 (e - b) - max 0 (e - a) := hF
  rw [← hF]
  unfold halfN halfD
  by_cases h2 : F % 2 = 0
  · rw [if_pos h2, if_pos h2]
    refine ⟨⟨rfl, by omega, fun i hi => ?_, ?_, ?_⟩, fun i j h1 h2' => ?_⟩
    · match i, hi with
      | 0, _ => show 0 ≤ F / 2 ∧ F / 2 ≤ a * 1; omega
      | 1, _ => show 0 ≤ (2 * e - F) / 2 ∧ (2 * e - F) / 2 ≤ b * 1; omega
    · show F / 2 + ((2 * e - F) / 2 + 0) = e * 1; omega
    · have hq : Q.gcdAll 1 [F / 2, (2 * e - F) / 2] = ((Nat.gcd (Nat.gcd 1 (F / 2).toNat) ((2 * e - F) / 2).toNat : Nat) : Int) := rfl
      rw [hq, Nat.gcd_one_left, Nat.gcd_one_left]; rfl
    · obtain rfl : i = 0 := by omega
      obtain rfl : j = 1 := by omega
      show ¬ (twice (F / 2 + (2 * e - F) / 2) (a * 1) (b * 1) ≠ 2 * (F / 2))
      rw [Int.mul_one, Int.mul_one, show F / 2 + (2 * e - F) / 2 = e by omega, ← hF]
      omega
  · rw [if_neg h2, if_neg h2]
    refine ⟨⟨rfl, by omega, fun i hi => ?_, ?_, ?_⟩, fun i j h1 h2' => ?_⟩
    · match i, hi with
      | 0, _ => show 0 ≤ F ∧ F ≤ a * 2; omega
      | 1, _ => show 0 ≤ 2 * e - F ∧ 2 * e - F ≤ b * 2; omega
    · show F + (2 * e - F + 0) = e * 2; omega
    · have hg : Nat.gcd 2 F.toNat = 1 := by
        rw [Nat.gcd_rec, show F.toNat % 2 = 1 by omega]; rfl
      have hq : Q.gcdAll 2 [F, 2 * e - F] = ((Nat.gcd (Nat.gcd 2 F.toNat) (2 * e - F).toNat : Nat) : Int) := rfl
      rw [hq, hg, Nat.gcd_one_left]; rfl
    · obtain rfl : i = 0 := by omega
      obtain rfl : j = 1 := by omega
      show ¬ (twice (F + (2 * e - F)) (a * 2) (b * 2) ≠ 2 * F)
      rw [show F + (2 * e - F) = 2 * e by omega, Int.mul_comm a, Int.mul_comm b, twice_mul (by omega), ← hF]
      omega
end Go.Proofs.Ytpeoleimmabceaa
