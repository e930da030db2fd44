/- What shares by a rule are: the mathematics. -/
import Derived.Test.YtpeoleimmabceaaE7
set_option linter.unusedVariables false
set_option linter.unusedSimpArgs false
set_option linter.unusedSectionVars false

namespace Go.Proofs.Ytpeoleimmabceaa
open Go Go.AM

def CEA (e : Int) (c w : List Int) (d : Int) : Prop := ∃ L k : Int, 1 ≤ k ∧ 0 ≤ L ∧ (∀ i, i < c.length → w.getD i 0 * k = d * min (c.getD i 0 * k) L) ∧ w.sum = e * d
def dbl (w : List Int) : List Int := w.map fun x => 2 * x
def Awd (R : Int → List Int → List Int → Int → Prop) (rule e : Int) (c w : List Int) (d : Int) : Prop :=
  if rule = 0 then CEA e c w d else if rule = 1 then CEA (c.sum - e) c (zipL c w d) d else if rule = 2 then ∀ i, i < c.length → w.getD i 0 * max 1 c.sum = e * c.getD i 0 * d
  else if rule = 3 then (if e ≤ c.sum - e then CEA (2 * e) c (dbl w) d else CEA (2 * (c.sum - e)) c (dbl (zipL c w d)) d) else R e c w d
structure Good (e : Int) (c w : List Int) (d : Int) : Prop where
  len : w.length = c.length
  d1 : 1 ≤ d
  d2 : d ≤ 1000000
  rng : ∀ i, i < c.length → 0 ≤ w.getD i 0 ∧ w.getD i 0 ≤ c.getD i 0 * d
  sum : w.sum = e * d
theorem sum_lin (w : List Int) (a : Int) : (w.map fun x => a * x).sum = a * w.sum := by
  induction w with
  | nil => simp
  | cons x l ih => rw [List.map_cons, List.sum_cons, List.sum_cons, ih, Int.mul_add]
theorem sum_range (w : List Int) : w.sum = ((List.range w.length).map fun i => w.getD i 0).sum := by
  congr 1
  apply List.ext_getElem?
  intro i
  rw [List.getElem?_map]
  by_cases hi : i < w.length
  · rw [List.getElem?_range hi, Option.map_some, List.getD_eq_getElem?_getD, List.getElem?_eq_getElem hi]; rfl
  · rw [List.getElem?_eq_none (by omega), List.getElem?_eq_none (by simp; omega)]; rfl
theorem sum_congr {n : Nat} {f g : Nat → Int} (h : ∀ i, i < n → f i = g i) : ((List.range n).map f).sum = ((List.range n).map g).sum := by
  congr 1
  exact List.map_congr_left fun i hi => h i (List.mem_range.1 hi)
theorem sum_sub (l : List Nat) (f g : Nat → Int) : (l.map fun i => f i - g i).sum = (l.map f).sum - (l.map g).sum := by
  induction l with
  | nil => simp
  | cons x l ih => simp only [List.map_cons, List.sum_cons]; omega
theorem sum_zipL (c w : List Int) (d : Int) (h : w.length = c.length) : (zipL c w d).sum = c.sum * d - w.sum := by
  unfold zipL
  rw [sum_sub, sum_range w, h]
  congr 1
  rw [sum_range c, ← sum_map_mul, List.map_map]
  rfl
theorem sum_dbl (w : List Int) : (dbl w).sum = 2 * w.sum := sum_lin w 2
theorem dbl_at {w : List Int} {i : Nat} (hi : i < w.length) : (dbl w).getD i 0 = 2 * w.getD i 0 := map_getD hi
theorem zipL_zipL {c w : List Int} {d : Int} (h : w.length = c.length) : zipL c (zipL c w d) d = w :=
  list_is (fun i => w.getD i 0) (zipL_len _ _ _) h (fun i hi => by rw [zipL_at hi, zipL_at hi]; omega) (fun i hi => rfl)
theorem Eqs.good {e : Int} {c : List Int} {s L : Int} (h : Eqs e c s L) (hc : ∀ x ∈ c, 0 ≤ x ∧ x ≤ 100000) (h7 : c.length ≤ 7) : Good e c (c.map fun x => min (x * s) L) s ∧ CEA e c (c.map fun x => min (x * s) L) s := by
  have h1 := h.s1
  have h2 := h.s2
  have h3 := h.l1
  refine ⟨⟨by simp, h1, by omega, fun i hi => ?_, h.sum⟩, L, s, h1, h3, fun i hi => ?_, h.sum⟩
  · rw [map_getD hi]
    have := (hc _ (getD_mem (d := 0) hi)).1
    have : 0 ≤ c.getD i 0 * s := Int.mul_nonneg this (by omega)
    omega
  · rw [map_getD hi, Int.mul_comm]
theorem Eqs.half {e : Int} {c : List Int} {s L : Int} (h : Eqs (2 * e) c s L) (hc : ∀ x ∈ c, 0 ≤ x ∧ x ≤ 100000) (h7 : c.length ≤ 7) : Good e c (c.map fun x => min (x * s) L) (s * 2) ∧ CEA (2 * e) c (dbl (c.map fun x => min (x * s) L)) (s * 2) := by
  have h1 := h.s1
  have h2 := h.s2
  have h3 := h.l1
  have h4 := h.sum
  refine ⟨⟨by simp, by omega, by omega, fun i hi => ?_, ?_⟩, L, s, h1, h3, fun i hi => ?_, ?_⟩
  · rw [map_getD hi]
    have h5 := (hc _ (getD_mem (d := 0) hi)).1
    have h6 : 0 ≤ c.getD i 0 * s := Int.mul_nonneg h5 (by omega)
    rw [← Int.mul_assoc]
    omega
  · rw [h4, Int.mul_comm 2 e, Int.mul_assoc, Int.mul_comm 2 s]
  · rw [dbl_at (by simpa using hi), map_getD hi, Int.mul_comm 2, Int.mul_assoc, Int.mul_comm, Int.mul_comm s 2, Int.mul_assoc]
  · rw [sum_dbl, h4, Int.mul_comm s 2, ← Int.mul_assoc (2 * e) 2 s, Int.mul_comm (2 * e) 2, Int.mul_assoc 2 (2 * e) s]
theorem Good.loss {e : Int} {c w : List Int} {d : Int} (h : Good (c.sum - e) c w d) : Good e c (zipL c w d) d := by
  refine ⟨zipL_len _ _ _, h.d1, h.d2, fun i hi => ?_, ?_⟩
  · rw [zipL_at hi]
    have := h.rng i hi
    omega
  · rw [sum_zipL _ _ _ h.len, h.sum, Int.sub_mul]
    omega
theorem Good.part {e : Int} {c : List Int} (hc : ∀ x ∈ c, 0 ≤ x ∧ x ≤ 100000) (h7 : c.length ≤ 7) (he : 0 ≤ e) (hs : e ≤ c.sum) : Good e c (c.map fun x => e * x) (max 1 c.sum) ∧ ∀ i, i < c.length → (c.map fun x => e * x).getD i 0 * max 1 c.sum = e * c.getD i 0 * max 1 c.sum := by
  have hsm := Q.sum_le 100000 c fun x hx => (hc x hx).2
  refine ⟨⟨by simp, by omega, by omega, fun i hi => ?_, ?_⟩, fun i hi => by rw [map_getD (f := fun x => e * x) hi]⟩
  · rw [map_getD (f := fun x => e * x) hi]
    have h1 := (hc _ (getD_mem (d := 0) hi)).1
    refine ⟨Int.mul_nonneg he h1, ?_⟩
    rw [Int.mul_comm e]
    exact Int.mul_le_mul_of_nonneg_left (by omega) h1
  · rw [sum_lin]
    rcases Int.lt_or_le c.sum 1 with h | h
    · have h0 : e = 0 := by
        have := (Q.sum_take_le c (fun x hx => (hc x hx).1) 0).2
        simp at this
        omega
      rw [h0]; simp
    · rw [Int.max_eq_right h]
/-! Lowest terms. -/
theorem gcdAll_dvd : ∀ (w : List Int) (d : Int), 0 ≤ d → (∀ x ∈ w, 0 ≤ x) → Q.gcdAll d w ∣ d ∧ ∀ x ∈ w, Q.gcdAll d w ∣ x
  | [], d, h, _ => ⟨Int.dvd_refl d, fun x hx => by cases hx⟩
  | y :: w, d, h, hw => by
    have hy := hw y (List.mem_cons_self ..)
    obtain ⟨h1, h2⟩ := gcdAll_dvd w ((Nat.gcd d.toNat y.toNat : Nat) : Int) (Int.natCast_nonneg _) (fun x hx => hw x (List.mem_cons_of_mem _ hx))
    have e : Q.gcdAll d (y :: w) = Q.gcdAll ((Nat.gcd d.toNat y.toNat : Nat) : Int) w := rfl
    rw [e]
    have k1 : ((Nat.gcd d.toNat y.toNat : Nat) : Int) ∣ d := by
      have := Int.natCast_dvd_natCast.2 (Nat.gcd_dvd_left d.toNat y.toNat); rwa [Int.toNat_of_nonneg h] at this
    have k2 : ((Nat.gcd d.toNat y.toNat : Nat) : Int) ∣ y := by
      have := Int.natCast_dvd_natCast.2 (Nat.gcd_dvd_right d.toNat y.toNat); rwa [Int.toNat_of_nonneg hy] at this
    refine ⟨Int.dvd_trans h1 k1, fun x hx => ?_⟩
    rcases List.mem_cons.1 hx with rfl | hx
    · exact Int.dvd_trans h1 k2
    · exact h2 x hx
theorem gcdAll_mul (g : Int) (hg : 0 ≤ g) : ∀ (w : List Int) (d : Int), 0 ≤ d → (∀ x ∈ w, 0 ≤ x) → Q.gcdAll (g * d) (w.map fun x => g * x) = g * Q.gcdAll d w
  | [], d, h, _ => rfl
  | y :: w, d, h, hw => by
    have hy := hw y (List.mem_cons_self ..)
    have e : Q.gcdAll (g * d) ((y :: w).map fun x => g * x) = Q.gcdAll ((Nat.gcd (g * d).toNat (g * y).toNat : Nat) : Int) (w.map fun x => g * x) := rfl
    have e2 : ((Nat.gcd (g * d).toNat (g * y).toNat : Nat) : Int) = g * ((Nat.gcd d.toNat y.toNat : Nat) : Int) := by
      rw [Int.toNat_mul hg h, Int.toNat_mul hg hy, Nat.gcd_mul_left, Int.natCast_mul, Int.toNat_of_nonneg hg]
    rw [e, e2, gcdAll_mul g hg w _ (Int.natCast_nonneg _) (fun x hx => hw x (List.mem_cons_of_mem _ hx))]
    rfl
structure Sc (g : Int) (w : List Int) (d : Int) (w' : List Int) (d' : Int) : Prop where
  pos : 0 < g
  len : w.length = w'.length
  at' : ∀ i, i < w'.length → w.getD i 0 = g * w'.getD i 0
  d : d = g * d'
theorem sc_low {w : List Int} {d : Int} (hp : ∀ x ∈ w, 0 ≤ x) (hd : 0 < d) : Sc (Q.gcdAll d w) w d (w.map fun x => x / Q.gcdAll d w) (d / Q.gcdAll d w) ∧ Q.gcdAll (d / Q.gcdAll d w) (w.map fun x => x / Q.gcdAll d w) = 1 := by
  have h0 := Q.gcdAll_pos d w hd
  obtain ⟨h1, h2⟩ := gcdAll_dvd w d (by omega) hp
  obtain ⟨g, hg⟩ : ∃ g, g = Q.gcdAll d w := ⟨_, rfl⟩
  rw [← hg] at h0 h1 h2 ⊢
  have hs : Sc g w d (w.map fun x => x / g) (d / g) := ⟨h0.1, by simp, fun i hi => by
    have hi : i < w.length := by simpa using hi
    rw [map_getD (f := fun x => x / g) hi, Int.mul_ediv_cancel' (h2 _ (getD_mem hi))], (Int.mul_ediv_cancel' h1).symm⟩
  refine ⟨hs, ?_⟩
  have hw : w = (w.map fun x => x / g).map fun x => g * x := list_is (fun i => w.getD i 0) rfl (by simp) (fun i hi => rfl) (fun i hi => by
    rw [map_getD (f := fun x => g * x) (by simpa using hi), map_getD (f := fun x => x / g) hi, Int.mul_ediv_cancel' (h2 _ (getD_mem hi))])
  have h3 := gcdAll_mul g (by omega) (w.map fun x => x / g) (d / g) (Int.ediv_nonneg (by omega) (by omega)) (fun x hx => by
    obtain ⟨y, hy, rfl⟩ := List.mem_map.1 hx
    exact Int.ediv_nonneg (hp y hy) (by omega))
  rw [← hw, ← hs.d, ← hg] at h3
  have h4 : g * Q.gcdAll (d / g) (w.map fun x => x / g) = g * 1 := by rw [← h3, Int.mul_one]
  exact Int.eq_of_mul_eq_mul_left (by omega) h4
section sc
variable {g : Int} {w : List Int} {d : Int} {w' : List Int} {d' : Int} {e : Int} {c : List Int}
theorem Sc.sum (h : Sc g w d w' d') : w.sum = g * w'.sum := by
  rw [sum_range w, sum_range w', h.len]
  rw [show g * ((List.range w'.length).map fun i => w'.getD i 0).sum = (((List.range w'.length).map fun i => w'.getD i 0).map fun x => g * x).sum from (sum_lin _ _).symm, List.map_map]
  exact sum_congr fun i hi => h.at' i hi
theorem Sc.cea (h : Sc g w d w' d') (hl : w'.length = c.length) (k : CEA e c w d) : CEA e c w' d' := by
  obtain ⟨L, s, h1, h2, h3, h4⟩ := k
  have hg := h.pos
  refine ⟨L, s, h1, h2, fun i hi => ?_, ?_⟩
  · have := h3 i hi
    rw [h.at' i (by omega), h.d, Int.mul_assoc, Int.mul_assoc] at this
    exact Int.eq_of_mul_eq_mul_left (by omega) this
  · rw [h.sum, h.d, Int.mul_left_comm] at h4
    exact Int.eq_of_mul_eq_mul_left (by omega) h4
theorem Sc.dbl (h : Sc g w d w' d') : Sc g (dbl w) d (dbl w') d' := ⟨h.pos, by unfold Go.Proofs.Ytpeoleimmabceaa.dbl; simp [h.len], fun i hi => by
  have hi : i < w'.length := by unfold Go.Proofs.Ytpeoleimmabceaa.dbl at hi; simpa using hi
  rw [dbl_at (by rw [h.len]; exact hi), dbl_at hi, h.at' i hi, Int.mul_left_comm], h.d⟩
theorem Sc.zip (h : Sc g w d w' d') (hl : w'.length = c.length) : Sc g (zipL c w d) d (zipL c w' d') d' := ⟨h.pos, by rw [zipL_len, zipL_len], fun i hi => by
  rw [zipL_len] at hi
  rw [zipL_at hi, zipL_at hi, h.at' i (by omega), h.d, Int.mul_sub, Int.mul_left_comm], h.d⟩
theorem Sc.good (h : Sc g w d w' d') (k : Good e c w d) : Good e c w' d' := by
  have hg := h.pos
  have hl : w'.length = c.length := h.len.symm.trans k.len
  have hd := h.d
  have k1 := k.d1
  have k2 := k.d2
  have hd1 : 1 ≤ d' := by
    rcases Int.lt_or_le d' 1 with h1 | h1
    · have : g * d' ≤ 0 := Int.mul_nonpos_of_nonneg_of_nonpos (by omega) (by omega)
      omega
    · exact h1
  refine ⟨hl, hd1, ?_, fun i hi => ?_, ?_⟩
  · have : 1 * d' ≤ g * d' := Int.mul_le_mul_of_nonneg_right (by omega) (by omega)
    omega
  · have h1 := k.rng i hi
    rw [h.at' i (by omega), hd, Int.mul_left_comm] at h1
    exact ⟨by
      rcases Int.lt_or_le (w'.getD i 0) 0 with h2 | h2
      · have := Int.mul_neg_of_pos_of_neg hg h2; omega
      · exact h2, Int.le_of_mul_le_mul_left h1.2 hg⟩
  · have h1 := k.sum
    rw [h.sum, hd, Int.mul_left_comm] at h1
    exact Int.eq_of_mul_eq_mul_left (by omega) h1
theorem Sc.awd {R : Int → List Int → List Int → Int → Prop} {rule : Int} (hR : ∀ {w d w' d'}, Sc g w d w' d' → w'.length = c.length → R e c w d → R e c w' d') (h : Sc g w d w' d') (hl : w'.length = c.length) (k : Awd R rule e c w d) : Awd R rule e c w' d' := by
  have hg := h.pos
  unfold Awd at k ⊢
  by_cases h0 : rule = 0
  · rw [if_pos h0] at k ⊢; exact h.cea hl k
  rw [if_neg h0] at k ⊢
  by_cases h1 : rule = 1
  · rw [if_pos h1] at k ⊢; exact (h.zip hl).cea (zipL_len _ _ _) k
  rw [if_neg h1] at k ⊢
  by_cases h2 : rule = 2
  · rw [if_pos h2] at k ⊢
    intro i hi
    have := k i hi
    rw [h.at' i (by omega), h.d, Int.mul_assoc, Int.mul_left_comm _ g] at this
    exact Int.eq_of_mul_eq_mul_left (by omega) this
  rw [if_neg h2] at k ⊢
  by_cases h3 : rule = 3
  · rw [if_pos h3] at k ⊢
    by_cases h4 : e ≤ c.sum - e
    · rw [if_pos h4] at k ⊢
      exact h.dbl.cea (by unfold Go.Proofs.Ytpeoleimmabceaa.dbl; simp [hl]) k
    · rw [if_neg h4] at k ⊢
      exact (h.zip hl).dbl.cea (by unfold Go.Proofs.Ytpeoleimmabceaa.dbl; simp [zipL_len]) k
  rw [if_neg h3] at k ⊢
  exact hR h hl k
end sc
end Go.Proofs.Ytpeoleimmabceaa
