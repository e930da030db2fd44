/- A general tool, which names no program: digits of whole numbers of a canonical machine for the model's own code, proved: what it comes to is what every run comes to. -/
import Derived.Test.YtpeoleimmabceaaGj
set_option linter.unusedVariables false
set_option linter.unusedSimpArgs false
set_option linter.unusedSectionVars false

namespace Go.AM

/-! Digits to the base 10000, the lowest first. -/
def val : List Int → Int
  | [] => 0
  | d :: l => d + 10000 * val l
def Digs (l : List Int) : Prop := ∀ x ∈ l, 0 ≤ x ∧ x ≤ 9999
def Norm (l : List Int) : Prop := l = [] ∨ l.getD (l.length - 1) 0 ≠ 0
def Dg (l : List Int) (n : Nat) : Prop := Digs l ∧ Norm l ∧ val l = n

theorem val_append (a b : List Int) : val (a ++ b) = val a + 10000 ^ a.length * val b := by
  induction a with
  | nil => simp [val]
  | cons d l ih =>
    simp only [List.cons_append, val, ih, List.length_cons, Int.pow_succ]
    rw [Int.mul_add, ← Int.mul_assoc, Int.mul_comm 10000 ((10000 : Int) ^ l.length)]
    omega
theorem Digs.tail {d : Int} {l : List Int} (h : Digs (d :: l)) : Digs l := fun x hx => h x (by simp [hx])
theorem Digs.nonneg : ∀ {l : List Int}, Digs l → 0 ≤ val l
  | [], _ => by simp [val]
  | d :: l, h => by
    have h1 := h d (by simp)
    have h2 := Digs.nonneg h.tail
    simp only [val]; omega
theorem Digs.append {a b : List Int} (h : Digs a) (k : Digs b) : Digs (a ++ b) := fun x hx => by
  rcases List.mem_append.1 hx with h1 | h1
  · exact h x h1
  · exact k x h1
theorem Digs.one {d : Int} (h : 0 ≤ d ∧ d ≤ 9999) : Digs [d] := fun x hx => by rw [List.mem_singleton.1 hx]; exact h
theorem Digs.lt {l : List Int} (h : Digs l) : val l < 10000 ^ l.length := by
  induction l with
  | nil => simp [val]
  | cons d l ih =>
    have h1 := h d (by simp)
    have h2 := ih h.tail
    simp only [val, List.length_cons, Int.pow_succ]
    omega
theorem Digs.getD {l : List Int} (h : Digs l) (i : Nat) : 0 ≤ l.getD i 0 ∧ l.getD i 0 ≤ 9999 := by
  rw [List.getD_eq_getElem?_getD]
  cases e : l[i]? with
  | none => simp
  | some x => simpa using h x (List.mem_of_getElem? e)

def trimN (l : List Int) : Nat → Nat
  | 0 => 0
  | n + 1 => if l.getD n 0 = 0 then trimN l n else n + 1
def trimL (l : List Int) : List Int := l.take (trimN l l.length)
theorem Dg.len {l : List Int} {n k : Nat} (h : Dg l n) (hn : n < 10000 ^ k) : l.length ≤ k := by
  obtain ⟨hd, hN, hv⟩ := h
  rcases hN with rfl | hN
  · exact Nat.zero_le _
  · rcases Nat.lt_or_ge k l.length with hk | hk
    · exfalso
      have hpos : 0 < l.length := by omega
      have h1 : l.length - 1 < l.length := by omega
      have hs : l = l.take (l.length - 1) ++ [l.getD (l.length - 1) 0] := by
        have h2 := List.take_append_drop (l.length - 1) l
        rw [List.drop_eq_getElem_cons h1, List.drop_of_length_le (by omega)] at h2
        rw [List.getD_eq_getElem?_getD, List.getElem?_eq_getElem h1]
        exact h2.symm
      have hd2 : Digs (l.take (l.length - 1)) := fun x hx => hd x (List.mem_of_mem_take hx)
      have hlast := hd.getD (l.length - 1)
      have h2 : val l = val (l.take (l.length - 1)) + 10000 ^ (l.length - 1) * l.getD (l.length - 1) 0 := by
        conv => lhs; rw [hs]
        rw [val_append]
        simp only [val, List.length_take]
        rw [show min (l.length - 1) l.length = l.length - 1 by omega]
        simp
      have h3 := hd2.nonneg
      have h4 : (10000 : Int) ^ (l.length - 1) ≤ 10000 ^ (l.length - 1) * l.getD (l.length - 1) 0 := by
        have h5 : 1 ≤ l.getD (l.length - 1) 0 := by omega
        have h6 : (0 : Int) ≤ 10000 ^ (l.length - 1) := Int.pow_nonneg (by omega)
        calc (10000 : Int) ^ (l.length - 1) = 10000 ^ (l.length - 1) * 1 := by rw [Int.mul_one]
          _ ≤ _ := Int.mul_le_mul_of_nonneg_left h5 h6
      have hc : ∀ q : Nat, (((10000 : Nat) ^ q : Nat) : Int) = (10000 : Int) ^ q := fun q => by rw [Int.natCast_pow]; rfl
      have h7 : (10000 : Int) ^ k ≤ 10000 ^ (l.length - 1) := by
        have := Nat.pow_le_pow_right (show 0 < 10000 by omega) (show k ≤ l.length - 1 by omega)
        rw [← hc, ← hc]
        exact Int.ofNat_le.2 this
      have h8 : (n : Int) < 10000 ^ k := by rw [← hc]; exact Int.ofNat_lt.2 hn
      omega
    · exact hk
theorem Digs.set {l : List Int} (h : Digs l) {j : Nat} {x : Int} (hx : 0 ≤ x ∧ x ≤ 9999) : Digs (l.set j x) := fun y hy => by
  rcases List.mem_or_eq_of_mem_set hy with h1 | h1
  · exact h y h1
  · rw [h1]; exact hx

/-! Comparing. -/
def cmpN (a b : List Int) : Nat → Int
  | 0 => 0
  | n + 1 => if a.getD n 0 < b.getD n 0 then -1 else if b.getD n 0 < a.getD n 0 then 1 else cmpN a b n
def cmpL (a b : List Int) : Int := if a.length < b.length then -1 else if b.length < a.length then 1 else cmpN a b a.length
theorem val_split {l : List Int} {n : Nat} (h : n < l.length) : val (l.take (n + 1)) = val (l.take n) + 10000 ^ n * l.getD n 0 := by
  rw [List.take_add_one, List.getElem?_eq_getElem h, val_append, List.length_take, Nat.min_eq_left (by omega), List.getD_eq_getElem?_getD, List.getElem?_eq_getElem h]
  simp [val]
theorem take_digs {l : List Int} (h : Digs l) (n : Nat) : Digs (l.take n) := fun x hx => h x (List.mem_of_mem_take hx)
theorem pow_pos' (n : Nat) : (0 : Int) < 10000 ^ n := Int.pow_pos (by omega)
theorem Dg.ge {l : List Int} {n : Nat} (h : Dg l n) (h0 : 0 < l.length) : (10000 : Int) ^ (l.length - 1) ≤ n := by
  obtain ⟨hd, hN, hv⟩ := h
  rcases hN with rfl | hN
  · simp at h0
  · have h1 := val_split (l := l) (n := l.length - 1) (by omega)
    rw [show l.length - 1 + 1 = l.length by omega, List.take_length] at h1
    have h2 := (take_digs hd (l.length - 1)).nonneg
    have h3 := hd.getD (l.length - 1)
    have h4 : (10000 : Int) ^ (l.length - 1) * 1 ≤ 10000 ^ (l.length - 1) * l.getD (l.length - 1) 0 := Int.mul_le_mul_of_nonneg_left (by omega) (Int.le_of_lt (pow_pos' _))
    rw [Int.mul_one] at h4
    omega
theorem Dg.of {l : List Int} (h : Digs l) (hn : Norm l) : Dg l (val l).toNat := ⟨h, hn, by rw [Int.toNat_of_nonneg h.nonneg]⟩
end Go.AM
