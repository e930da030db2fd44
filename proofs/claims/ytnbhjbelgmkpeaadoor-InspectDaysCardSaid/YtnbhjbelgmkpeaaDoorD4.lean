/- Days and looks, as numbers: what the law of plans asks. -/
import Derived.Test.YtnbhjbelgmkpeaaDoorQP
import Derived.Test.YtnbhjbelgmkpeaaDoorP4
set_option linter.unusedVariables false
set_option linter.unusedSimpArgs false
set_option linter.unusedSectionVars false

namespace Go.Proofs.YtnbhjbelgmkpeaaDoor
set_option maxRecDepth 10000

def sumStep (s x : Int × Int) : Int × Int := rat (qadd s x).1 (qadd s x).2
def inSum (s : Int × Int) : Bool := decide (0 ≤ s.1 ∧ s.1 ≤ s.2 ∧ 1 ≤ s.2 ∧ s.2 < 10000 ^ 15)
def sumOkL : List (Int × Int) → Int × Int → Bool
  | [], s => inSum s
  | x :: xs, s => inSum s && (decide (0 ≤ x.1 ∧ x.1 ≤ x.2 ∧ 1 ≤ x.2 ∧ x.2 ≤ 1125899906842624) && sumOkL xs (sumStep s x))
def eqQ (x y : Int × Int) : Bool := decide (x.1 * y.2 = y.1 * x.2)
def goingC (a : Int × Int) : Int × Int := qsub (1, 1) (qmul (2, 1) a)
def stayingC (a h k : Int × Int) : Int × Int := qadd (qmul a h) (qmul (qsub (1, 1) a) k)
def lookedC (b h : Int × Int) : Int × Int := qsub (qmul (qsub (1, 1) b) h) b
def missedC (b k : Int × Int) : Int × Int := qadd (qmul (qsub (1, 1) b) k) b
def plansOk (d l : Nat) : Bool := Nat.beq d 0 || (sumOkL (planC d l) (0, 1) && (planC d l).getD 0 default == (dayC d l).2.2 && (Nat.beq l 0 || Nat.ble d l ||
  (eqQ (goingC (dayC d l).2.1) (gainC d l) && eqQ (stayingC (dayC d l).2.1 (gainC (d - 1) (l - 1)) (gainC (d - 1) l)) (gainC d l) &&
    eqQ (lookedC (dayC d l).2.2 (gainC (d - 1) (l - 1))) (gainC d l) && eqQ (missedC (dayC d l).2.2 (gainC (d - 1) l)) (gainC d l))))
theorem plansOk_all : all15 plansOk = true := by decide +kernel
theorem plans_facts {d l : Nat} (hd : d ≤ 14) (hl : l ≤ 14) (h0 : 0 < d) : sumOkL (planC d l) (0, 1) = true ∧ (planC d l).getD 0 default = (dayC d l).2.2 ∧ (0 < l → l < d →
    (goingC (dayC d l).2.1).1 * (gainC d l).2 = (gainC d l).1 * (goingC (dayC d l).2.1).2 ∧
    (stayingC (dayC d l).2.1 (gainC (d - 1) (l - 1)) (gainC (d - 1) l)).1 * (gainC d l).2 = (gainC d l).1 * (stayingC (dayC d l).2.1 (gainC (d - 1) (l - 1)) (gainC (d - 1) l)).2 ∧
    (lookedC (dayC d l).2.2 (gainC (d - 1) (l - 1))).1 * (gainC d l).2 = (gainC d l).1 * (lookedC (dayC d l).2.2 (gainC (d - 1) (l - 1))).2 ∧
    (missedC (dayC d l).2.2 (gainC (d - 1) l)).1 * (gainC d l).2 = (gainC d l).1 * (missedC (dayC d l).2.2 (gainC (d - 1) l)).2) := by
  have h := all15_at plansOk_all hd hl
  unfold plansOk eqQ at h
  simp only [Bool.or_eq_true, Bool.and_eq_true, decide_eq_true_eq, beq_iff_eq] at h
  rcases h with h | h
  · have := Nat.eq_of_beq_eq_true h; omega
  · refine ⟨h.1.1, h.1.2, fun a b => ?_⟩
    rcases h.2 with (h2 | h2) | h2
    · have := Nat.eq_of_beq_eq_true h2; omega
    · have := Nat.le_of_ble_eq_true h2; omega
    · exact ⟨h2.1.1.1, h2.1.1.2, h2.1.2, h2.2⟩
end Go.Proofs.YtnbhjbelgmkpeaaDoor
