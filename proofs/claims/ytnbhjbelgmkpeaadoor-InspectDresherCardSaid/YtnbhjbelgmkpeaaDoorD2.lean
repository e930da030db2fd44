/- Fractions in lowest terms as numbers of the model. -/
import Derived.Test.YtnbhjbelgmkpeaaDoorD1
import Derived.Test.YtnbhjbelgmkpeaaDoorBD2
set_option linter.unusedVariables false
set_option linter.unusedSimpArgs false
set_option linter.unusedSectionVars false

namespace Go.Proofs.YtnbhjbelgmkpeaaDoor
open Go Go.AM
set_option maxRecDepth 10000
set_option linter.unusedSimpArgs false

theorem qvRat {H : Heap} {v : Value} {n d : Int} (h : QV H v n d) (hd : 0 < d) : QV H v (rat n d).1 (rat n d).2 := h.as hd (rat_facts hd).2.2.1.symm
theorem qvRatL {H : Heap} {v : Value} {n d : Int} (h : QV H v n d) (hd : 0 < d) : QIs H v (rat n d).1 (rat n d).2 400 := (qvRat h hd).low (rat_facts hd).1 (rat_facts hd).2.1
/-- The gain, as the reference computes it. -/
theorem mix_gain (n1 d1 n2 d2 : Int) : ((n1 * d2 + n2 * d1) * (1 * (d1 * d2))) * (2 * (d1 * d2) + n1 * d2 - n2 * d1) = (n1 * d2 + n2 * d1) * ((d1 * d2) * (2 * (d1 * d2) + (n1 * d2 - n2 * d1) * 1)) := by
  rw [Int.one_mul, Int.mul_one, Int.mul_assoc, show 2 * (d1 * d2) + n1 * d2 - n2 * d1 = 2 * (d1 * d2) + (n1 * d2 - n2 * d1) by omega]
theorem mix_look (n1 d1 n2 d2 : Int) : ((1 * d2 - n2 * 1) * (1 * (d1 * d2))) * (2 * (d1 * d2) + n1 * d2 - n2 * d1) = (d1 * d2 - n2 * d1) * ((1 * d2) * (2 * (d1 * d2) + (n1 * d2 - n2 * d1) * 1)) := by
  have h1 : d1 * d2 - n2 * d1 = (d2 - n2) * d1 := by rw [Int.sub_mul, Int.mul_comm d1 d2]
  rw [Int.one_mul, Int.one_mul, Int.mul_one, Int.mul_one, show 2 * (d1 * d2) + n1 * d2 - n2 * d1 = 2 * (d1 * d2) + (n1 * d2 - n2 * d1) by omega, h1]
  generalize 2 * (d1 * d2) + (n1 * d2 - n2 * d1) = A
  generalize d2 - n2 = B
  ac_rfl
theorem mix_going (n1 d1 n2 d2 : Int) : ((n1 * d2 - n2 * d1) * (1 * (d1 * d2))) * (2 * (d1 * d2) + n1 * d2 - n2 * d1) = (n1 * d2 - n2 * d1) * ((d1 * d2) * (2 * (d1 * d2) + (n1 * d2 - n2 * d1) * 1)) := by
  rw [Int.one_mul, Int.mul_one, Int.mul_assoc, show 2 * (d1 * d2) + n1 * d2 - n2 * d1 = 2 * (d1 * d2) + (n1 * d2 - n2 * d1) by omega]
end Go.Proofs.YtnbhjbelgmkpeaaDoor
