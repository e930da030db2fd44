/- One leaves with a whole share: the mathematics. -/
import Derived.Test.YtpeoleimmabceaaEJ
set_option linter.unusedVariables false
set_option linter.unusedSimpArgs false
set_option linter.unusedSectionVars false

namespace Go.Proofs.Ytpeoleimmabceaa
open Go Go.AM

def rm (l : List Int) (p : Nat) : List Int := l.take p ++ l.drop (p + 1)
def at' (p j : Nat) : Nat := if j < p then j else j + 1
theorem rm_len {l : List Int} {p : Nat} (hp : p < l.length) : (rm l p).length = l.length - 1 := by
  unfold rm
  rw [List.length_append, List.length_take, List.length_drop]; omega
theorem at_lt {n p j : Nat} (hj : j < n - 1) : at' p j < n := by unfold at'; split <;> omega
theorem rm_at {l : List Int} {p j : Nat} (hp : p < l.length) (hj : j < l.length - 1) : (rm l p).getD j 0 = l.getD (at' p j) 0 := by
  unfold rm at'
  rw [List.getD_eq_getElem?_getD, List.getD_eq_getElem?_getD]
  split
  · rename_i h
    rw [List.getElem?_append_left (by rw [List.length_take]; omega), List.getElem?_take, if_pos h]
  · rename_i h
    rw [List.getElem?_append_right (by rw [List.length_take]; omega), List.length_take, List.getElem?_drop]
    congr 2
    omega
theorem rm_sum {l : List Int} {p : Nat} (hp : p < l.length) : (rm l p).sum = l.sum - l.getD p 0 := by
  have h1 := sum_split l p
  have h2 : l.drop p = l.getD p 0 :: l.drop (p + 1) := by
    rw [List.drop_eq_getElem_cons hp, List.getD_eq_getElem?_getD, List.getElem?_eq_getElem hp]; rfl
  unfold rm
  rw [List.sum_append]
  rw [h2, List.sum_cons] at h1
  omega
theorem rm_eq {l m : List Int} {p : Nat} (hp : p < l.length) (hl : m.length = l.length - 1) (h : ∀ j, j < l.length - 1 → m.getD j 0 = l.getD (at' p j) 0) : m = rm l p :=
  list_is _ hl (rm_len hp) (fun j hj => h j hj) (fun j hj => rm_at hp hj)
theorem rm_mem {l : List Int} {p : Nat} {x : Int} (h : x ∈ rm l p) : x ∈ l := by
  unfold rm at h
  rcases List.mem_append.1 h with h | h
  · exact List.mem_of_mem_take h
  · exact List.mem_of_mem_drop h
theorem cea_rm {e q : Int} {c w : List Int} {d : Int} {p : Nat} (hp : p < c.length) (hl : w.length = c.length) (hq : w.getD p 0 = q * d) (h : CEA e c w d) : CEA (e - q) (rm c p) (rm w p) d := by
  obtain ⟨L, k, h1, h2, h3, h4⟩ := h
  refine ⟨L, k, h1, h2, fun j hj => ?_, ?_⟩
  · rw [rm_len hp] at hj
    rw [rm_at hp hj, rm_at (by omega) (by omega)]
    exact h3 _ (at_lt hj)
  · rw [rm_sum (by omega), h4, hq, Int.sub_mul]
theorem rm_zip {c w : List Int} {d : Int} {p : Nat} (hp : p < c.length) (hl : w.length = c.length) : zipL (rm c p) (rm w p) d = rm (zipL c w d) p :=
  rm_eq (by rw [zipL_len]; exact hp) (by rw [zipL_len, zipL_len, rm_len hp]) fun j hj => by
    rw [zipL_len] at hj
    rw [zipL_at (by rw [rm_len hp]; exact hj), zipL_at (at_lt hj), rm_at hp hj, rm_at (by omega) (by omega)]
theorem rm_dbl {w : List Int} {p : Nat} (hp : p < w.length) : dbl (rm w p) = rm (dbl w) p :=
  rm_eq (by rw [dbl_len]; exact hp) (by rw [dbl_len, dbl_len, rm_len hp]) fun j hj => by
    rw [dbl_len] at hj
    rw [dbl_at (by rw [rm_len hp]; exact hj), dbl_at (at_lt hj), rm_at hp hj]
theorem awd_rm {rule e q : Int} {c w : List Int} {d : Int} {p : Nat} (hP : Q.Prob e c) (hs : Q.Shr e c w d) (hp : p < c.length) (h2c : 2 ≤ c.length) (hr : rule ≠ 4) (hru : isRule rule) (hq : w.getD p 0 = q * d) (h : Awd RunR rule e c w d) :
    Q.Prob (e - q) (rm c p) ∧ Awd RunR rule (e - q) (rm c p) (rm w p) d := by
  have hl := hs.1
  have hd := hs.2.1.1
  have hwp := hs.2.2.1 p (by omega)
  have hcp := hP.2.2.1 _ (getD_mem (d := 0) hp)
  have hq0 : 0 ≤ q := by
    rcases Int.lt_or_le q 0 with h1 | h1
    · have := Int.mul_neg_of_neg_of_pos h1 (show 0 < d by omega); omega
    · exact h1
  have hqc : q ≤ c.getD p 0 := Int.le_of_mul_le_mul_right (by rw [← hq]; exact hwp.2) (show 0 < d by omega)
  have hcs := rm_sum hp (l := c)
  have hws : (rm w p).sum = (e - q) * d := by rw [rm_sum (by omega), hs.2.2.2.1, hq, Int.sub_mul]
  have hrl := rm_len hp (l := c)
  have hwl : (rm w p).length = c.length - 1 := by rw [rm_len (by omega)]; omega
  have hwj : ∀ j, j < c.length - 1 → 0 ≤ (rm w p).getD j 0 ∧ (rm w p).getD j 0 ≤ (rm c p).getD j 0 * d := fun j hj => by
    rw [rm_at (by omega) (by omega), rm_at hp hj]
    exact hs.2.2.1 _ (by have := at_lt (p := p) hj; omega)
  have hw0 : 0 ≤ (rm w p).sum := sum_nonneg (all_of (d := 0) fun j hj => (hwj j (by omega)).1)
  have hw1 : (rm w p).sum ≤ (rm c p).sum * d := by
    rw [sum_range, sum_range (rm c p), hwl, hrl, ← sum_mul_right]
    exact sum_le_of fun j hj => (hwj j (List.mem_range.1 hj)).2
  have he0 : 0 ≤ e - q := by
    rcases Int.lt_or_le (e - q) 0 with h1 | h1
    · have := Int.mul_neg_of_neg_of_pos h1 (show 0 < d by omega); omega
    · exact h1
  have he1 : e - q ≤ (rm c p).sum := Int.le_of_mul_le_mul_right (by rw [← hws]; exact hw1) (show 0 < d by omega)
  have hPr := hP.1
  have hPl := hP.2.1
  refine ⟨⟨by omega, by omega, fun x hx => hP.2.2.1 x (rm_mem hx), he1⟩, ?_⟩
  unfold Awd at h ⊢
  by_cases h0 : rule = 0
  · rw [if_pos h0] at h ⊢; exact cea_rm hp hl hq h
  rw [if_neg h0] at h ⊢
  have hzp : (zipL c w d).getD p 0 = (c.getD p 0 - q) * d := by rw [zipL_at hp, hq, Int.sub_mul]
  have hse : (rm c p).sum - (e - q) = c.sum - e - (c.getD p 0 - q) := by omega
  by_cases h1 : rule = 1
  · rw [if_pos h1] at h ⊢
    rw [rm_zip hp hl, hse]
    exact cea_rm hp (zipL_len _ _ _) hzp h
  rw [if_neg h1] at h ⊢
  by_cases h2 : rule = 2
  · rw [if_pos h2] at h ⊢
    intro j hj
    rw [hrl] at hj
    have hcj := (hP.2.2.1 _ (getD_mem (l := c) (d := 0) (at_lt (p := p) hj)))
    rcases Int.lt_or_le (rm c p).sum 1 with hT | hT
    · -- nobody asks for anything
      have h3 := Q.sum_take_le (rm c p) (fun x hx => (hP.2.2.1 x (rm_mem hx)).1) (j + 1)
      have h4 := Q.sum_take_succ (rm c p) (k := j) (by omega)
      have h5 := (Q.sum_take_le (rm c p) (fun x hx => (hP.2.2.1 x (rm_mem hx)).1) j).1
      have h6 : (rm c p).getD j 0 = 0 := by
        have : 0 ≤ (rm c p).getD j 0 := (hP.2.2.1 _ (rm_mem (getD_mem (l := rm c p) (d := 0) (by omega)))).1
        omega
      have h7 := hwj j hj
      rw [h6, Int.zero_mul] at h7
      have h8 : (rm w p).getD j 0 = 0 := by omega
      rw [h6, h8]; simp
    · have hT1 : max 1 c.sum = c.sum := by omega
      have hT2 : max 1 (rm c p).sum = (rm c p).sum := by omega
      rw [hT2, rm_at (by omega) (by omega), rm_at hp hj]
      have a := h _ (at_lt (p := p) hj)
      have b := h p hp
      rw [hT1] at a b
      refine Int.eq_of_mul_eq_mul_right (a := c.sum) (by omega) ?_
      have e1 : (e - q) * d * c.sum = e * d * (rm c p).sum := by
        rw [Int.sub_mul, Int.sub_mul, ← hq, b, hcs, Int.mul_sub, Int.mul_right_comm e, Int.mul_right_comm e (c.getD p 0) d]
      calc w.getD (at' p j) 0 * (rm c p).sum * c.sum = w.getD (at' p j) 0 * c.sum * (rm c p).sum := Int.mul_right_comm _ _ _
        _ = e * c.getD (at' p j) 0 * d * (rm c p).sum := by rw [a]
        _ = e * d * (rm c p).sum * c.getD (at' p j) 0 := by simp only [Int.mul_comm, Int.mul_left_comm, Int.mul_assoc]
        _ = (e - q) * d * c.sum * c.getD (at' p j) 0 := by rw [e1]
        _ = (e - q) * c.getD (at' p j) 0 * d * c.sum := by simp only [Int.mul_comm, Int.mul_left_comm, Int.mul_assoc]
  rw [if_neg h2] at h ⊢
  by_cases h3 : rule = 3
  · rw [if_pos h3] at h ⊢
    by_cases h4 : e ≤ c.sum - e
    · rw [if_pos h4] at h
      have hh : CEA (2 * (e - q)) (rm c p) (dbl (rm w p)) d := by
        rw [rm_dbl (by omega), Int.mul_sub]
        exact cea_rm hp ((dbl_len _).trans hl) (by rw [dbl_at (by omega), hq, Int.mul_assoc]) h
      have hb : 2 * (e - q) ≤ (rm c p).sum := by
        refine Int.le_of_mul_le_mul_right (a := d) ?_ (by omega)
        rw [Int.mul_assoc, ← hws, ← sum_dbl, sum_range, sum_range (rm c p), dbl_len, hwl, hrl, ← sum_mul_right]
        exact sum_le_of fun j hj => cea_le hh hd (by rw [hrl]; exact List.mem_range.1 hj)
      rw [if_pos (by omega)]
      exact hh
    · rw [if_neg h4] at h
      have hh : CEA (2 * ((rm c p).sum - (e - q))) (rm c p) (dbl (zipL (rm c p) (rm w p) d)) d := by
        rw [rm_zip hp hl, rm_dbl (by rw [zipL_len]; exact hp), hse, Int.mul_sub]
        exact cea_rm hp ((dbl_len _).trans (zipL_len _ _ _)) (by rw [dbl_at (by rw [zipL_len]; exact hp), hzp, Int.mul_assoc]) h
      by_cases h5 : e - q ≤ (rm c p).sum - (e - q)
      · rw [if_pos h5]
        have hz : ∀ j, j < c.length - 1 → (dbl (zipL (rm c p) (rm w p) d)).getD j 0 ≤ (rm c p).getD j 0 * d := fun j hj => cea_le hh hd (by rw [hrl]; exact hj)
        have hzs : (dbl (zipL (rm c p) (rm w p) d)).sum = 2 * ((rm c p).sum - (e - q)) * d := by
          obtain ⟨_, _, _, _, _, k⟩ := hh
          exact k
        have hzl : (dbl (zipL (rm c p) (rm w p) d)).length = c.length - 1 := by rw [dbl_len, zipL_len, hrl]
        have hbb : 2 * ((rm c p).sum - (e - q)) * d ≤ (rm c p).sum * d := by
          rw [← hzs, sum_range, sum_range (rm c p), hzl, hrl, ← sum_mul_right]
          exact sum_le_of fun j hj => hz j (List.mem_range.1 hj)
        have hb2 : 2 * ((rm c p).sum - (e - q)) ≤ (rm c p).sum := Int.le_of_mul_le_mul_right hbb (by omega)
        have heq : 2 * ((rm c p).sum - (e - q)) = (rm c p).sum := by omega
        have hall : ∀ j, j < c.length - 1 → (dbl (zipL (rm c p) (rm w p) d)).getD j 0 = (rm c p).getD j 0 * d := fun j hj =>
          all_eq (n := c.length - 1) (f := fun j => (dbl (zipL (rm c p) (rm w p) d)).getD j 0) (g := fun j => (rm c p).getD j 0 * d) hz (by
            rw [sum_mul_right, ← hrl, ← sum_range, hrl, ← hzl, ← sum_range, hzs, heq]
            exact Int.le_refl _) hj
        have hsame : dbl (rm w p) = dbl (zipL (rm c p) (rm w p) d) := list_is _ (by rw [dbl_len, hwl]) hzl (fun j hj => rfl) (fun j hj => by
          have h6 := hall j hj
          rw [dbl_at (by rw [zipL_len, hrl]; exact hj), zipL_at (by rw [hrl]; exact hj)] at h6
          rw [dbl_at (by rw [zipL_len, hrl]; exact hj), zipL_at (by rw [hrl]; exact hj), dbl_at (by rw [hwl]; exact hj)]
          omega)
        rw [hsame, show 2 * (e - q) = 2 * ((rm c p).sum - (e - q)) by omega]
        exact hh
      · rw [if_neg h5]; exact hh
  unfold isRule at hru
  omega
end Go.Proofs.Ytpeoleimmabceaa
