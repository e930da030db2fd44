/- Days and looks, as numbers: binomials, gains, and how the first day is played. -/
import Derived.Test.YtnbhjbelgmkpeaaDoorGj
import Derived.Test.YtnbhjbelgmkpeaaDoorBM
set_option linter.unusedVariables false
set_option linter.unusedSimpArgs false
set_option linter.unusedSectionVars false

namespace Go.Proofs.YtnbhjbelgmkpeaaDoor
set_option maxRecDepth 10000

/-- A fraction in lowest terms. -/
def rat (n d : Int) : Int × Int := (n / ((Nat.gcd d.natAbs n.natAbs : Nat) : Int), d / ((Nat.gcd d.natAbs n.natAbs : Nat) : Int))
/-- The number of ways to choose, turn by turn. -/
def chJ (n k : Int) : Nat → Int
  | 0 => 1
  | j + 1 => chJ n k j * (n - k + ((j : Int) + 1)) / ((j : Int) + 1)
def chooseC (n k : Nat) : Int := chJ n k k
def sumC (d : Nat) : Nat → Int
  | 0 => 0
  | m + 1 => sumC d m + chooseC d m
/-- What the smuggler gains. -/
def gainC (d l : Nat) : Int × Int := if d ≤ l then (0, 1) else rat (chooseC (d - 1) l) (sumC d (l + 1))
def mixN (g h : Int × Int) : (Int × Int) × (Int × Int) × (Int × Int) :=
  (rat (g.1 * h.2 + h.1 * g.2) (2 * (g.2 * h.2) + g.1 * h.2 - h.1 * g.2), rat (g.2 * h.2 - h.1 * g.2) (2 * (g.2 * h.2) + g.1 * h.2 - h.1 * g.2), rat (g.1 * h.2 - h.1 * g.2) (2 * (g.2 * h.2) + g.1 * h.2 - h.1 * g.2))
/-- How the first of the days is played: the gain, the part of looking, that of going. -/
def dayC (d l : Nat) : (Int × Int) × (Int × Int) × (Int × Int) :=
  if d ≤ l then ((0, 1), (1, 1), (0, 1)) else if l = 0 then ((1, 1), (0, 1), (1, 1)) else mixN (gainC (d - 1) (l - 1)) (gainC (d - 1) l)

/-- A part from 0 to 1, in lowest terms, with a divisor of at most B. -/
def isPart (B : Int) (x : Int × Int) : Bool := decide (0 ≤ x.1 ∧ x.1 ≤ x.2 ∧ 1 ≤ x.2 ∧ x.2 ≤ B) && Nat.beq (Nat.gcd x.1.natAbs x.2.natAbs) 1
def dayOk (d l : Nat) : Bool :=
  isPart 32768 (gainC d l) && (dayC d l).1 == gainC d l && isPart 1073741824 (dayC d l).2.1 && isPart 1073741824 (dayC d l).2.2 &&
    (Nat.ble d l || Nat.beq l 0 || decide ((gainC (d - 1) l).1 * (gainC (d - 1) (l - 1)).2 ≤ (gainC (d - 1) (l - 1)).1 * (gainC (d - 1) l).2))
/-- For all days and looks. -/
def all15 (p : Nat → Nat → Bool) : Bool := (List.range 15).all fun d => (List.range 15).all fun l => p d l
theorem all15_at {p : Nat → Nat → Bool} (h : all15 p = true) {d l : Nat} (hd : d ≤ 14) (hl : l ≤ 14) : p d l = true :=
  List.all_eq_true.1 (List.all_eq_true.1 h d (List.mem_range.2 (by omega))) l (List.mem_range.2 (by omega))
/-- With which part the smuggler goes on each of the days, of so many that are left, having stayed with a part. -/
def planFrom (l : Nat) : Nat → Int × Int → List (Int × Int)
  | 0, _ => []
  | m + 1, st => rat (st.1 * (dayC (m + 1) l).2.2.1) (st.2 * (dayC (m + 1) l).2.2.2) :: planFrom l m (rat (st.1 * ((dayC (m + 1) l).2.2.2 - (dayC (m + 1) l).2.2.1)) (st.2 * (dayC (m + 1) l).2.2.2))
def planOk (l : Nat) : Nat → Int × Int → Bool
  | 0, st => decide (0 ≤ st.1 ∧ st.1 ≤ st.2 ∧ 1 ≤ st.2 ∧ st.2 ≤ 1125899906842624)
  | m + 1, st => decide (0 ≤ st.1 ∧ st.1 ≤ st.2 ∧ 1 ≤ st.2 ∧ st.2 ≤ 1125899906842624) && decide (st.2 * (dayC (m + 1) l).2.2.2 ≤ 1125899906842624) &&
      planOk l m (rat (st.1 * ((dayC (m + 1) l).2.2.2 - (dayC (m + 1) l).2.2.1)) (st.2 * (dayC (m + 1) l).2.2.2))
def planC (d l : Nat) : List (Int × Int) := planFrom l d (1, 1)
theorem planOk_all : all15 (fun d l => planOk l d (1, 1)) = true := by decide +kernel
theorem dayOk_all : all15 dayOk = true := by decide +kernel

theorem dayC_facts {d l : Nat} (hd : d ≤ 14) (hl : l ≤ 14) : isPart 32768 (gainC d l) = true ∧ (dayC d l).1 = gainC d l ∧ isPart 1073741824 (dayC d l).2.1 = true ∧ isPart 1073741824 (dayC d l).2.2 = true ∧
    (l < d → 0 < l → (gainC (d - 1) l).1 * (gainC (d - 1) (l - 1)).2 ≤ (gainC (d - 1) (l - 1)).1 * (gainC (d - 1) l).2) := by
  have h := all15_at dayOk_all hd hl
  unfold dayOk at h
  simp only [Bool.and_eq_true, Bool.or_eq_true, decide_eq_true_eq, beq_iff_eq] at h
  obtain ⟨⟨⟨⟨h1, h2⟩, h3⟩, h4⟩, h5⟩ := h
  refine ⟨h1, h2, h3, h4, fun a b => ?_⟩
  rcases h5 with (h5 | h5) | h5
  · have := Nat.le_of_ble_eq_true h5; omega
  · have := Nat.eq_of_beq_eq_true h5; omega
  · exact h5
theorem isPart_iff {B : Int} {x : Int × Int} (h : isPart B x = true) : 0 ≤ x.1 ∧ x.1 ≤ x.2 ∧ 1 ≤ x.2 ∧ x.2 ≤ B ∧ Nat.gcd x.1.natAbs x.2.natAbs = 1 := by
  unfold isPart at h
  simp only [Bool.and_eq_true, decide_eq_true_eq] at h
  exact ⟨h.1.1, h.1.2.1, h.1.2.2.1, h.1.2.2.2, Nat.eq_of_beq_eq_true h.2⟩
/-- What a fraction in lowest terms is. -/
theorem rat_facts {n d : Int} (hd : 0 < d) : 0 < (rat n d).2 ∧ Nat.gcd (rat n d).1.natAbs (rat n d).2.natAbs = 1 ∧ (rat n d).1 * d = n * (rat n d).2 ∧ (rat n d).2 ≤ d ∧ (rat n d).1.natAbs ≤ n.natAbs ∧ (0 ≤ n → 0 ≤ (rat n d).1) := by
  unfold rat
  have hgp : 0 < Nat.gcd d.natAbs n.natAbs := Nat.gcd_pos_of_pos_left _ (by omega)
  have hdx : ((Nat.gcd d.natAbs n.natAbs : Nat) : Int) ∣ n := Int.ofNat_dvd_left.2 (Nat.gcd_dvd_right _ _)
  have hdy : ((Nat.gcd d.natAbs n.natAbs : Nat) : Int) ∣ d := Int.ofNat_dvd_left.2 (Nat.gcd_dvd_left _ _)
  have h1 : Nat.gcd (n / ((Nat.gcd d.natAbs n.natAbs : Nat) : Int)).natAbs (d / ((Nat.gcd d.natAbs n.natAbs : Nat) : Int)).natAbs = 1 := by
    rw [Int.natAbs_ediv_of_dvd hdx, Int.natAbs_ediv_of_dvd hdy, Int.natAbs_natCast, Nat.gcd_comm d.natAbs]
    rw [Nat.gcd_comm] at hgp
    exact Nat.coprime_div_gcd_div_gcd hgp
  have h2 : 0 < d / ((Nat.gcd d.natAbs n.natAbs : Nat) : Int) := Int.ediv_pos_of_pos_of_dvd hd (by omega) hdy
  refine ⟨h2, h1, ?_, ?_, ?_, fun h => Int.ediv_nonneg h (by omega)⟩
  · generalize ((Nat.gcd d.natAbs n.natAbs : Nat) : Int) = G at *
    obtain ⟨p, rfl⟩ := hdx
    obtain ⟨q, rfl⟩ := hdy
    have hG : G ≠ 0 := fun h0 => by subst h0; omega
    rw [Int.mul_ediv_cancel_left _ hG, Int.mul_ediv_cancel_left _ hG, ← Int.mul_assoc, Int.mul_comm p G]
  · exact Int.ediv_le_self _ (by omega)
  · rw [Int.natAbs_ediv_of_dvd hdx]
    exact Nat.div_le_self _ _
end Go.Proofs.YtnbhjbelgmkpeaaDoor

namespace Go.Proofs.YtnbhjbelgmkpeaaDoor
set_option maxRecDepth 10000

def chOk (n k : Nat) : Bool := Nat.blt n k || (List.range (k + 1)).all fun j => decide (0 ≤ chJ n k j ∧ chJ n k j ≤ 100000)
theorem chOk_all : all15 chOk = true := by decide +kernel
theorem chJ_in {n k j : Nat} (hn : n ≤ 14) (hk : k ≤ n) (hj : j ≤ k) : 0 ≤ chJ n k j ∧ chJ n k j ≤ 100000 := by
  have h := all15_at chOk_all hn (Nat.le_trans hk hn)
  unfold chOk at h
  rw [Bool.or_eq_true] at h
  rcases h with h | h
  · have : n < k := by unfold Nat.blt at h; exact Nat.le_of_ble_eq_true h
    omega
  · exact of_decide_eq_true (List.all_eq_true.1 h j (List.mem_range.2 (by omega)))
def sumOk (d l : Nat) : Bool := Nat.ble d l || ((List.range (l + 2)).all fun j => decide (0 ≤ sumC d j ∧ sumC d j ≤ 100000)) && decide (1 ≤ sumC d (l + 1)) && decide ((gainC d l).1 * sumC d (l + 1) = chooseC (d - 1) l * (gainC d l).2)
theorem sumOk_all : all15 sumOk = true := by decide +kernel
theorem sumC_facts {d l : Nat} (hd : d ≤ 14) (hl : l < d) : (∀ j, j ≤ l + 1 → 0 ≤ sumC d j ∧ sumC d j ≤ 100000) ∧ 1 ≤ sumC d (l + 1) ∧ (gainC d l).1 * sumC d (l + 1) = chooseC (d - 1) l * (gainC d l).2 := by
  have h := all15_at sumOk_all hd (show l ≤ 14 by omega)
  unfold sumOk at h
  rw [Bool.or_eq_true] at h
  rcases h with h | h
  · have := Nat.le_of_ble_eq_true h; omega
  · simp only [Bool.and_eq_true, decide_eq_true_eq] at h
    exact ⟨fun j hj => of_decide_eq_true (List.all_eq_true.1 h.1.1 j (List.mem_range.2 (by omega))), h.1.2, h.2⟩
def moreOk (d l : Nat) : Bool := Nat.ble 14 d || Nat.ble 14 l ||
  (decide ((gainC d (l + 1)).1 * (gainC d l).2 ≤ (gainC d l).1 * (gainC d (l + 1)).2) && decide ((gainC d l).1 * (gainC (d + 1) l).2 ≤ (gainC (d + 1) l).1 * (gainC d l).2) &&
    decide ((dayC (d + 1) l).2.1.1 * (dayC (d + 1) (l + 1)).2.1.2 ≤ (dayC (d + 1) (l + 1)).2.1.1 * (dayC (d + 1) l).2.1.2))
theorem moreOk_all : all15 moreOk = true := by decide +kernel
theorem more_facts {d l : Nat} (hd : d ≤ 13) (hl : l ≤ 13) : (gainC d (l + 1)).1 * (gainC d l).2 ≤ (gainC d l).1 * (gainC d (l + 1)).2 ∧ (gainC d l).1 * (gainC (d + 1) l).2 ≤ (gainC (d + 1) l).1 * (gainC d l).2 ∧
    (dayC (d + 1) l).2.1.1 * (dayC (d + 1) (l + 1)).2.1.2 ≤ (dayC (d + 1) (l + 1)).2.1.1 * (dayC (d + 1) l).2.1.2 := by
  have h := all15_at moreOk_all (show d ≤ 14 by omega) (show l ≤ 14 by omega)
  unfold moreOk at h
  simp only [Bool.or_eq_true, Bool.and_eq_true, decide_eq_true_eq] at h
  rcases h with (h | h) | h
  · have := Nat.le_of_ble_eq_true h; omega
  · have := Nat.le_of_ble_eq_true h; omega
  · exact ⟨h.1.1, h.1.2, h.2⟩
end Go.Proofs.YtnbhjbelgmkpeaaDoor

namespace Go.Proofs.YtnbhjbelgmkpeaaDoor
open Go Go.AM
set_option maxRecDepth 10000
set_option linter.unusedSimpArgs false

theorem qvRat {H : Heap} {v : Value} {n d : Int} (h : QV H v n d) (hd : 0 < d) : QV H v (rat n d).1 (rat n d).2 := h.as hd (rat_facts hd).2.2.1.symm
theorem qvRatL {H : Heap} {v : Value} {n d : Int} (h : QV H v n d) (hd : 0 < d) : QIs H v (rat n d).1 (rat n d).2 400 := (qvRat h hd).low (rat_facts hd).1 (rat_facts hd).2.1
/-- The gain, as the reference computes it. -/
theorem mix_gain (n1 d1 n2 d2 : Int) : ((n1 * d2 + n2 * d1) * (1 * (d1 * d2))) * (2 * (d1 * d2) + n1 * d2 - n2 * d1) = (n1 * d2 + n2 * d1) * ((d1 * d2) * (2 * (d1 * d2) + (n1 * d2 - n2 * d1) * 1)) := by
  rw [Int.one_mul, Int.mul_one, Int.mul_assoc, show 2 * (d1 * d2) + n1 * d2 - n2 * d1 = 2 * (d1 * d2) + (n1 * d2 - n2 * d1) by omega]
theorem mix_look (n1 d1 n2 d2 : Int) : ((1 * d2 - n2 * 1) * (1 * (d1 * d2))) * (2 * (d1 * d2) + n1 * d2 - n2 * d1) = (d1 * d2 - n2 * d1) * ((1 * d2) * (2 * (d1 * d2) + (n1 * d2 - n2 * d1) * 1)) := by
  have h1 : d1 * d2 - n2 * d1 = (d2 - n2) * d1 := by rw [Int.sub_mul, Int.mul_comm d1 d2]
  rw [Int.one_mul, Int.one_mul, Int.mul_one, Int.mul_one, show 2 * (d1 * d2) + n1 * d2 - n2 * d1 = 2 * (d1 * d2) + (n1 * d2 - n2 * d1) by omega, h1]
  generalize 2 * (d1 * d2) + (n1 * d2 - n2 * d1) = A
  generalize d2 - n2 = B
  ac_rfl
theorem mix_going (n1 d1 n2 d2 : Int) : ((n1 * d2 - n2 * d1) * (1 * (d1 * d2))) * (2 * (d1 * d2) + n1 * d2 - n2 * d1) = (n1 * d2 - n2 * d1) * ((d1 * d2) * (2 * (d1 * d2) + (n1 * d2 - n2 * d1) * 1)) := by
  rw [Int.one_mul, Int.mul_one, Int.mul_assoc, show 2 * (d1 * d2) + n1 * d2 - n2 * d1 = 2 * (d1 * d2) + (n1 * d2 - n2 * d1) by omega]
end Go.Proofs.YtnbhjbelgmkpeaaDoor
