/- Days and looks, as numbers: binomials, gains, and how the first day is played. -/
import Derived.Test.YtnbhjbelgmkpeaaDoorGj
set_option linter.unusedVariables false
set_option linter.unusedSimpArgs false
set_option linter.unusedSectionVars false

namespace Go.Proofs.YtnbhjbelgmkpeaaDoor
set_option maxRecDepth 10000

/-- A fraction in lowest terms. -/
def rat (n d : Int) : Int × Int := (n / ((Nat.gcd d.natAbs n.natAbs : Nat) : Int), d / ((Nat.gcd d.natAbs n.natAbs : Nat) : Int))
/-- The number of ways to choose, turn by turn. -/
def chJ (n k : Int) : Nat → Int
  | 0 => 1
  | j + 1 => chJ n k j * (n - k + ((j : Int) + 1)) / ((j : Int) + 1)
def chooseC (n k : Nat) : Int := chJ n k k
def sumC (d : Nat) : Nat → Int
  | 0 => 0
  | m + 1 => sumC d m + chooseC d m
/-- What the smuggler gains. -/
def gainC (d l : Nat) : Int × Int := if d ≤ l then (0, 1) else rat (chooseC (d - 1) l) (sumC d (l + 1))
def mixN (g h : Int × Int) : (Int × Int) × (Int × Int) × (Int × Int) :=
  (rat (g.1 * h.2 + h.1 * g.2) (2 * (g.2 * h.2) + g.1 * h.2 - h.1 * g.2), rat (g.2 * h.2 - h.1 * g.2) (2 * (g.2 * h.2) + g.1 * h.2 - h.1 * g.2), rat (g.1 * h.2 - h.1 * g.2) (2 * (g.2 * h.2) + g.1 * h.2 - h.1 * g.2))
/-- How the first of the days is played: the gain, the part of looking, that of going. -/
def dayC (d l : Nat) : (Int × Int) × (Int × Int) × (Int × Int) :=
  if d ≤ l then ((0, 1), (1, 1), (0, 1)) else if l = 0 then ((1, 1), (0, 1), (1, 1)) else mixN (gainC (d - 1) (l - 1)) (gainC (d - 1) l)

/-- A part from 0 to 1, in lowest terms, with a divisor of at most B. -/
def isPart (B : Int) (x : Int × Int) : Bool := decide (0 ≤ x.1 ∧ x.1 ≤ x.2 ∧ 1 ≤ x.2 ∧ x.2 ≤ B) && Nat.beq (Nat.gcd x.1.natAbs x.2.natAbs) 1
def dayOk (d l : Nat) : Bool :=
  isPart 32768 (gainC d l) && (dayC d l).1 == gainC d l && isPart 1073741824 (dayC d l).2.1 && isPart 1073741824 (dayC d l).2.2 &&
    (Nat.ble d l || Nat.beq l 0 || decide ((gainC (d - 1) l).1 * (gainC (d - 1) (l - 1)).2 ≤ (gainC (d - 1) (l - 1)).1 * (gainC (d - 1) l).2))
/-- For all days and looks. -/
def all15 (p : Nat → Nat → Bool) : Bool := (List.range 15).all fun d => (List.range 15).all fun l => p d l
theorem all15_at {p : Nat → Nat → Bool} (h : all15 p = true) {d l : Nat} (hd : d ≤ 14) (hl : l ≤ 14) : p d l = true :=
  List.all_eq_true.1 (List.all_eq_true.1 h d (List.mem_range.2 (by omega))) l (List.mem_range.2 (by omega))
/-- With which part the smuggler goes on each of the days, of so many that are left, having stayed with a part. -/
def planFrom (l : Nat) : Nat → Int × Int → List (Int × Int)
  | 0, _ => []
  | m + 1, st => rat (st.1 * (dayC (m + 1) l).2.2.1) (st.2 * (dayC (m + 1) l).2.2.2) :: planFrom l m (rat (st.1 * ((dayC (m + 1) l).2.2.2 - (dayC (m + 1) l).2.2.1)) (st.2 * (dayC (m + 1) l).2.2.2))
def planOk (l : Nat) : Nat → Int × Int → Bool
  | 0, st => decide (0 ≤ st.1 ∧ st.1 ≤ st.2 ∧ 1 ≤ st.2 ∧ st.2 ≤ 1125899906842624)
  | m + 1, st => decide (0 ≤ st.1 ∧ st.1 ≤ st.2 ∧ 1 ≤ st.2 ∧ st.2 ≤ 1125899906842624) && decide (st.2 * (dayC (m + 1) l).2.2.2 ≤ 1125899906842624) &&
      planOk l m (rat (st.1 * ((dayC (m + 1) l).2.2.2 - (dayC (m + 1) l).2.2.1)) (st.2 * (dayC (m + 1) l).2.2.2))
def planC (d l : Nat) : List (Int × Int) := planFrom l d (1, 1)
theorem planOk_all : all15 (fun d l => planOk l d (1, 1)) = true := by decide +kernel
theorem dayOk_all : all15 dayOk = true := by decide +kernel

theorem dayC_facts {d l : Nat} (hd : d ≤ 14) (hl : l ≤ 14) : isPart 32768 (gainC d l) = true ∧ (dayC d l).1 = gainC d l ∧ isPart 1073741824 (dayC d l).2.1 = true ∧ isPart 1073741824 (dayC d l).2.2 = true ∧
    (l < d → 0 < l → (gainC (d - 1) l).1 * (gainC (d - 1) (l - 1)).2 ≤ (gainC (d - 1) (l - 1)).1 * (gainC (d - 1) l).2) := by
  have h := all15_at dayOk_all hd hl
  unfold dayOk at h
  simp only [Bool.and_eq_true, Bool.or_eq_true, decide_eq_true_eq, beq_iff_eq] at h
  obtain ⟨⟨⟨⟨h1, h2⟩, h3⟩, h4⟩, h5⟩ := h
  refine ⟨h1, h2, h3, h4, fun a b => ?_⟩
  rcases h5 with (h5 | h5) | h5
  · have := Nat.le_of_ble_eq_true h5; omega
  · have := Nat.eq_of_beq_eq_true h5; omega
  · exact h5
theorem isPart_iff {B : Int} {x : Int × Int} (h : isPart B x = true) : 0 ≤ x.1 ∧ x.1 ≤ x.2 ∧ 1 ≤ x.2 ∧ x.2 ≤ B ∧ Nat.gcd x.1.natAbs x.2.natAbs = 1 := by
  unfold isPart at h
  simp only [Bool.and_eq_true, decide_eq_true_eq] at h
  exact ⟨h.1.1, h.1.2.1, h.1.2.2.1, h.1.2.2.2, Nat.eq_of_beq_eq_true h.2⟩
/-- What a fraction in lowest terms is. -/
theorem rat_facts {n d : Int} (hd : 0 < d) : 0 < (rat n d).2 ∧ Nat.gcd (rat n d).1.natAbs (rat n d).2.natAbs = 1 ∧ (rat n d).1 * d = n * (rat n d).2 ∧ (rat n d).2 ≤ d ∧ (rat n d).1.natAbs ≤ n.natAbs ∧ (0 ≤ n → 0 ≤ (rat n d).1) := by
  unfold rat
  have hgp : 0 < Nat.gcd d.natAbs n.natAbs := Nat.gcd_pos_of_pos_left _ (by omega)
  have hdx : ((Nat.gcd d.natAbs n.natAbs : Nat) : Int) ∣ n := Int.ofNat_dvd_left.2 (Nat.gcd_dvd_right _ _)
  have hdy : ((Nat.gcd d.natAbs n.natAbs : Nat) : Int) ∣ d := Int.ofNat_dvd_left.2 (Nat.gcd_dvd_left _ _)
  have h1 : Nat.gcd (n / ((Nat.gcd d.natAbs n.natAbs : Nat) : Int)).natAbs (d / ((Nat.gcd d.natAbs n.natAbs : Nat) : Int)).natAbs = 1 := by
    rw [Int.natAbs_ediv_of_dvd hdx, Int.natAbs_ediv_of_dvd hdy, Int.natAbs_natCast, Nat.gcd_comm d.natAbs]
    rw [Nat.gcd_comm] at hgp
    exact Nat.coprime_div_gcd_div_gcd hgp
  have h2 : 0 < d / ((Nat.gcd d.natAbs n.natAbs : Nat) : Int) := Int.ediv_pos_of_pos_of_dvd hd (by omega) hdy
  refine ⟨h2, h1, ?_, ?_, ?_, fun h => Int.ediv_nonneg h (by omega)⟩
  · generalize ((Nat.gcd d.natAbs n.natAbs : Nat) : Int) = G at *
    obtain ⟨p, rfl⟩ := hdx
    obtain ⟨q, rfl⟩ := hdy
    have hG : G ≠ 0 := fun h0 => by subst h0; omega
    rw [Int.mul_ediv_cancel_left _ hG, Int.mul_ediv_cancel_left _ hG, ← Int.mul_assoc, Int.mul_comm p G]
  · exact Int.ediv_le_self _ (by omega)
  · rw [Int.natAbs_ediv_of_dvd hdx]
    exact Nat.div_le_self _ _
end Go.Proofs.YtnbhjbelgmkpeaaDoor
