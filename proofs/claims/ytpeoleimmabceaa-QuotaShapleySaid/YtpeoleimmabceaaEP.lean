/- Sums over sets of those who come before; what one gets over all orders, closed; the dual rule of a rule. -/
import Derived.Test.YtpeoleimmabceaaEI
set_option linter.unusedVariables false
set_option linter.unusedSimpArgs false
set_option linter.unusedSectionVars false

namespace Go.Proofs.Ytpeoleimmabceaa
open Go Go.AM

def SS (c : List Int) : List Nat → (Nat → Int → Int) → Int
  | [], f => f 0 0
  | h :: t, f => SS c t f + SS c t (fun k s => f (k + 1) (s + c.getD h 0))
theorem SS_congr {c : List Int} (hc : ∀ i, 0 ≤ c.getD i 0) : ∀ (l : List Nat) {f g : Nat → Int → Int}, (∀ k s, k ≤ l.length → 0 ≤ s → f k s = g k s) → SS c l f = SS c l g
  | [], f, g, h => h 0 0 (Nat.le_refl _) (Int.le_refl _)
  | x :: t, f, g, h => by
    have hx := hc x
    have h1 : SS c t f = SS c t g := SS_congr hc t fun k s h1 h2 => h k s (by rw [List.length_cons]; omega) h2
    have h2 : SS c t (fun k s => f (k + 1) (s + c.getD x 0)) = SS c t (fun k s => g (k + 1) (s + c.getD x 0)) := SS_congr hc t fun k s h1 h2 => h (k + 1) _ (by rw [List.length_cons]; omega) (by omega)
    simp only [SS]
    rw [h1, h2]
theorem SS_add (c : List Int) : ∀ (l : List Nat) (f g : Nat → Int → Int), SS c l (fun k s => f k s + g k s) = SS c l f + SS c l g
  | [], f, g => rfl
  | x :: t, f, g => by
    simp only [SS]
    rw [SS_add c t f g, SS_add c t (fun k s => f (k + 1) (s + c.getD x 0)) (fun k s => g (k + 1) (s + c.getD x 0))]
    omega
theorem SS_nil (c : List Int) : ∀ (l : List Nat), SS c l (fun _ _ => 0) = 0
  | [] => rfl
  | x :: t => by simp only [SS]; rw [SS_nil c t]; rfl
theorem SS_none (c : List Int) : ∀ (l : List Nat) (f : Int → Int), SS c l (fun k s => if k = 0 then f s else 0) = f 0
  | [], f => by simp only [SS, if_true]
  | x :: t, f => by
    simp only [SS]
    rw [SS_none c t f]
    have : SS c t (fun k s => if k + 1 = 0 then f (s + c.getD x 0) else 0) = 0 := by
      rw [show (fun (k : Nat) (s : Int) => if k + 1 = 0 then f (s + c.getD x 0) else 0) = fun _ _ => 0 from by funext k s; exact if_neg (Nat.succ_ne_zero k)]
      exact SS_nil c t
    rw [this, Int.add_zero]
theorem SS_comp {c : List Int} (hc : ∀ i, 0 ≤ c.getD i 0) : ∀ (l : List Nat) (f : Nat → Int → Int), SS c l f = SS c l (fun k s => f (l.length - k) ((l.map fun i => c.getD i 0).sum - s))
  | [], f => rfl
  | x :: t, f => by
    simp only [SS]
    rw [SS_comp hc t f, SS_comp hc t (fun k s => f (k + 1) (s + c.getD x 0))]
    rw [Int.add_comm]
    congr 1
    · refine SS_congr hc t fun k s h1 h2 => ?_
      rw [List.length_cons, List.map_cons, List.sum_cons, show t.length - k + 1 = t.length + 1 - k by omega, show (t.map fun i => c.getD i 0).sum - s + c.getD x 0 = c.getD x 0 + (t.map fun i => c.getD i 0).sum - s by omega]
    · refine SS_congr hc t fun k s h1 h2 => ?_
      rw [List.length_cons, List.map_cons, List.sum_cons, show t.length + 1 - (k + 1) = t.length - k by omega, show c.getD x 0 + (t.map fun i => c.getD i 0).sum - (s + c.getD x 0) = (t.map fun i => c.getD i 0).sum - s by omega]
theorem SS_drop {c : List Int} : ∀ (l : List Nat), l.Nodup → ∀ f : Nat → Int → Int, (l.map fun j => SS c (l.filter fun i => decide (i ≠ j)) (fun k s => f (k + 1) (s + c.getD j 0))).sum = SS c l (fun k s => (k : Int) * f k s)
  | [], _, f => by simp [SS]
  | x :: t, hn, f => by
    obtain ⟨hx, ht⟩ := List.nodup_cons.1 hn
    have e1 : (x :: t).filter (fun i => decide (i ≠ x)) = t := by
      rw [List.filter_cons_of_neg (by simp)]
      exact List.filter_eq_self.2 fun a ha => decide_eq_true fun h => hx (h ▸ ha)
    have e2 : (t.map fun j => SS c ((x :: t).filter fun i => decide (i ≠ j)) (fun k s => f (k + 1) (s + c.getD j 0))) = t.map fun j => SS c (t.filter fun i => decide (i ≠ j)) (fun k s => f (k + 1) (s + c.getD j 0)) + SS c (t.filter fun i => decide (i ≠ j)) (fun k s => f (k + 1 + 1) (s + c.getD x 0 + c.getD j 0)) := by
      refine List.map_congr_left fun j hj => ?_
      rw [List.filter_cons_of_pos (by simp; exact fun h => hx (h ▸ hj))]
      simp only [SS]
    rw [List.map_cons, List.sum_cons, e1, e2, sum_add, SS_drop t ht f]
    have e3 := SS_drop (c := c) t ht (fun k s => f (k + 1) (s + c.getD x 0))
    have e4 : (t.map fun j => SS c (t.filter fun i => decide (i ≠ j)) (fun k s => f (k + 1 + 1) (s + c.getD x 0 + c.getD j 0))) = t.map fun j => SS c (t.filter fun i => decide (i ≠ j)) (fun k s => f (k + 1 + 1) (s + c.getD j 0 + c.getD x 0)) := by
      refine List.map_congr_left fun j hj => ?_
      congr 1
      funext k s
      rw [Int.add_right_comm]
    rw [e4, e3]
    simp only [SS]
    have e5 : SS c t (fun k s => ((k + 1 : Nat) : Int) * f (k + 1) (s + c.getD x 0)) = SS c t (fun k s => f (k + 1) (s + c.getD x 0)) + SS c t (fun k s => (k : Int) * f (k + 1) (s + c.getD x 0)) := by
      rw [← SS_add]
      congr 1
      funext k s
      rw [Int.natCast_add, Int.add_mul]
      omega
    rw [e5]
    omega
def outL (S n : Nat) : List Nat := (List.range n).filter fun j => !S.testBit j
theorem outL_nodup (S n : Nat) : (outL S n).Nodup := List.nodup_range.filter _
theorem outL_or (S n j : Nat) : outL (S ||| 2 ^ j) n = (outL S n).filter fun i => decide (i ≠ j) := by
  unfold outL
  rw [List.filter_filter]
  refine List.filter_congr fun i _ => ?_
  rw [or_bit]
  by_cases h : i = j
  · subst h; simp
  · rw [decide_eq_false (fun h' => h h'.symm), Bool.or_false, decide_eq_true h, Bool.true_and]
theorem sum_filt (b : Nat → Bool) (f : Nat → Int) : ∀ l : List Nat, (l.map fun k => if b k then 0 else f k).sum = ((l.filter fun k => !b k).map f).sum
  | [] => rfl
  | x :: t => by
    rw [List.map_cons, List.sum_cons, sum_filt b f t]
    cases hb : b x with
    | true => rw [List.filter_cons_of_neg (by simp [hb])]; simp
    | false => rw [List.filter_cons_of_pos (by simp [hb]), List.map_cons, List.sum_cons]; simp
theorem getD_nn {c : List Int} (h : ∀ x ∈ c, 0 ≤ x) (i : Nat) : 0 ≤ c.getD i 0 := by
  by_cases hi : i < c.length
  · exact h _ (getD_mem (d := 0) hi)
  · rw [List.getD_eq_getElem?_getD, List.getElem?_eq_none (by omega)]; exact Int.le_refl _
theorem cnt_out (S n : Nat) : (outL S n).length = cnt S n := rfl
theorem SS_step {c : List Int} (hc : ∀ i, 0 ≤ c.getD i 0) (m : Nat) (G : Int → Int) (l : List Nat) (hn : l.Nodup) (hl : l.length = m + 1) :
    factN (m + 1) * G 0 + (l.map fun j => SS c (l.filter fun i => decide (i ≠ j)) (fun k s => factN k * factN (m - k) * G (s + c.getD j 0))).sum = SS c l (fun k s => factN k * factN (m + 1 - k) * G s) := by
  have h1 := SS_drop (c := c) l hn (fun k s => factN (k - 1) * factN (m + 1 - k) * G s)
  have h2 : (l.map fun j => SS c (l.filter fun i => decide (i ≠ j)) (fun k s => factN k * factN (m - k) * G (s + c.getD j 0))) = l.map fun j => SS c (l.filter fun i => decide (i ≠ j)) (fun k s => factN (k + 1 - 1) * factN (m + 1 - (k + 1)) * G (s + c.getD j 0)) := by
    refine List.map_congr_left fun j hj => ?_
    congr 1
    funext k s
    rw [Nat.add_sub_cancel, Nat.add_sub_add_right]
  rw [h2, h1, ← SS_none c l (fun s => factN (m + 1) * G s), ← SS_add]
  refine SS_congr hc l fun k s h3 h4 => ?_
  cases k with
  | zero => rw [if_pos rfl]; simp [factN]
  | succ k =>
    rw [if_neg (Nat.succ_ne_zero k), Nat.add_sub_cancel]
    show 0 + ((k + 1 : Nat) : Int) * _ = (((k + 1 : Nat) : Int) * factN k) * _ * _
    rw [Int.zero_add, Int.mul_assoc, Int.mul_assoc, Int.mul_assoc]
variable {c : List Int} (h7 : c.length < 8) (hp : ∀ x ∈ c, 0 ≤ x)
include h7 hp
theorem UR_SS : ∀ (m S : Nat) (left x : Int), S < 2 ^ c.length → cnt S c.length = m → 0 ≤ left → UR c m S left x = SS c (outL S c.length) (fun k s => factN k * factN (m - k) * min x (max 0 (left - s)))
  | 0, S, left, x, hS, hm, hl => by
    have h0 : outL S c.length = [] := List.eq_nil_of_length_eq_zero hm
    rw [h0]
    simp only [UR, SS, DR]
    show _ = (1 : Int) * 1 * _
    rw [show max 0 (left - 0) = left by omega]
    omega
  | m + 1, S, left, x, hS, hm, hl => by
    have h1 := SS_step (getD_nn hp) m (fun s => min x (max 0 (left - s))) _ (outL_nodup S c.length) hm
    rw [← h1]
    simp only [UR]
    rw [DR_eq h7 (m + 1) S hS hm, sum_filt (fun k => S.testBit k)]
    congr 1
    · rw [show max 0 (left - 0) = left by omega]
    · congr 1
      refine List.map_congr_left fun j hj => ?_
      obtain ⟨h2, h3⟩ := List.mem_filter.1 hj
      have hj := List.mem_range.1 h2
      have hb : S.testBit j = false := by simpa using h3
      obtain ⟨q1, q2⟩ := cnt_or _ h7 S hS j hj hb
      have hcj := getD_nn hp j
      rw [UR_SS m (S ||| 2 ^ j) _ x q2 (by omega) (by omega), outL_or]
      refine SS_congr (getD_nn hp) _ fun k s _ h5 => ?_
      rw [show max 0 (left - min (c.getD j 0) left - s) = max 0 (left - (s + c.getD j 0)) by omega]
theorem one_out {i : Nat} (hi : i < c.length) : 2 ^ i < 2 ^ c.length ∧ cnt (2 ^ i) c.length = c.length - 1 ∧ ((outL (2 ^ i) c.length).map fun j => c.getD j 0).sum = c.sum - c.getD i 0 := by
  have hpow : 0 < 2 ^ c.length := Nat.two_pow_pos _
  obtain ⟨q1, q2⟩ := cnt_or _ h7 0 hpow i hi (by simp)
  rw [Nat.zero_or] at q1 q2
  rw [cnt_all] at q1
  refine ⟨q2, by omega, ?_⟩
  have h1 := outS_or (came := 0) (c := c) hi (by simp)
  rw [Nat.zero_or] at h1
  have h2 : outS 0 c.length c = c.sum := by
    rw [sum_range c]
    unfold outS
    exact sum_congr fun j hj => by simp
  rw [h2] at h1
  rw [← h1]
  unfold outS outL
  exact (sum_filt (fun k => (2 ^ i).testBit k) (fun k => c.getD k 0) _).symm
theorem runV_SS {e : Int} (he : 0 ≤ e) {i : Nat} (hi : i < c.length) : RunV e c i = SS c (outL (2 ^ i) c.length) (fun k s => factN k * factN (c.length - 1 - k) * min (c.getD i 0) (max 0 (e - s))) := by
  obtain ⟨q1, q2, _⟩ := one_out h7 hp hi
  rw [(runV_eq h7 hi).1, UR_SS h7 hp _ _ _ _ q1 q2 he]
omit h7 hp
def other (rule : Int) : Int := if rule = 0 then 1 else if rule = 1 then 0 else rule
end Go.Proofs.Ytpeoleimmabceaa
