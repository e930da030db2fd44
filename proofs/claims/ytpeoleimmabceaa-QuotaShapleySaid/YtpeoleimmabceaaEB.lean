/- Sets of claimants as numbers; what comes of the orders: the recursion. -/
import Derived.Test.YtpeoleimmabceaaEA
set_option linter.unusedVariables false
set_option linter.unusedSimpArgs false
set_option linter.unusedSectionVars false

namespace Go.Proofs.Ytpeoleimmabceaa
open Go Go.AM
set_option maxRecDepth 10000

def cnt (came n : Nat) : Nat := ((List.range n).filter fun j => !came.testBit j).length
theorem cnt_zero : ∀ n, n < 8 → ∀ came, came < 2 ^ n → (cnt came n = 0 ↔ came = 2 ^ n - 1) := by decide +kernel
theorem cnt_or : ∀ n, n < 8 → ∀ came, came < 2 ^ n → ∀ j, j < n → came.testBit j = false → cnt (came ||| 2 ^ j) n + 1 = cnt came n ∧ came ||| 2 ^ j < 2 ^ n := by decide +kernel
theorem bit_and : ∀ came : Nat, came < 128 → ∀ j, j < 7 → (BitVec.ofInt 64 (came : Int) &&& BitVec.ofInt 64 ((2 ^ j : Nat) : Int)).toNat = if came.testBit j then 2 ^ j else 0 := by decide +kernel
theorem bit_or : ∀ came : Nat, came < 128 → ∀ j, j < 7 → (BitVec.ofInt 64 (came : Int) ||| BitVec.ofInt 64 ((2 ^ j : Nat) : Int)).toNat = came ||| 2 ^ j := by decide +kernel
theorem pow_small : ∀ j, j < 8 → 2 ^ j ≤ 128 := by decide
theorem or_bit (came i j : Nat) : (came ||| 2 ^ j).testBit i = (came.testBit i || decide (j = i)) := by
  rw [Nat.testBit_or, Nat.testBit_two_pow]

def VR (c : List Int) : Nat → Nat → Int → List Int → Nat → Int
  | 0, _, _, tk, i => tk.getD i 0
  | m + 1, came, left, tk, i => ((List.range c.length).map fun j => if came.testBit j then 0 else VR c m (came ||| 2 ^ j) (left - min (c.getD j 0) left) (tk.set j (min (c.getD j 0) left)) i).sum
def DR (n : Nat) : Nat → Nat → Int
  | 0, _ => 1
  | m + 1, came => ((List.range n).map fun j => if came.testBit j then 0 else DR n m (came ||| 2 ^ j)).sum
theorem sum_nonneg {l : List Int} (h : ∀ x ∈ l, 0 ≤ x) : 0 ≤ l.sum := by
  induction l with
  | nil => simp
  | cons a l ih => rw [List.sum_cons]; have := h a (List.mem_cons_self ..); have := ih fun x hx => h x (List.mem_cons_of_mem _ hx); omega
theorem range_take_sum (f : Nat → Int) {n k : Nat} (hf : ∀ j, j < n → 0 ≤ f j) (hk : k < n) : ((List.range (k + 1)).map f).sum = ((List.range k).map f).sum + f k ∧ ((List.range (k + 1)).map f).sum ≤ ((List.range n).map f).sum := by
  refine ⟨by rw [List.range_succ, List.map_append, List.sum_append]; simp, ?_⟩
  obtain ⟨d, rfl⟩ : ∃ d, n = (k + 1) + d := ⟨n - (k + 1), by omega⟩
  rw [List.range_add (n := k + 1) (m := d), List.map_append, List.sum_append]
  have := sum_nonneg (l := ((List.range d).map fun x => k + 1 + x).map f) (fun x hx => by
    obtain ⟨y, hy, rfl⟩ := List.mem_map.1 hx
    obtain ⟨z, hz, rfl⟩ := List.mem_map.1 hy
    exact hf _ (by have := List.mem_range.1 hz; omega))
  omega
theorem VR_agree (c : List Int) (h7 : c.length < 8) : ∀ (m came : Nat) (left : Int) (t1 t2 : List Int) (i : Nat), came < 2 ^ c.length → cnt came c.length = m → i < c.length → t1.length = c.length → t2.length = c.length → (∀ j, j < c.length → came.testBit j = true → t1.getD j 0 = t2.getD j 0) → VR c m came left t1 i = VR c m came left t2 i
  | 0, came, left, t1, t2, i, hc, hm, hi, l1, l2, h => by
    have h1 := (cnt_zero _ h7 came hc).1 hm
    refine h i hi ?_
    rw [h1, Nat.testBit_two_pow_sub_one]
    exact decide_eq_true hi
  | m + 1, came, left, t1, t2, i, hc, hm, hi, l1, l2, h => by
    unfold VR
    refine sum_congr fun j hj => ?_
    cases hb : came.testBit j with
    | true => rfl
    | false =>
      obtain ⟨k1, k2⟩ := cnt_or _ h7 came hc j hj hb
      simp only [Bool.false_eq_true, if_false]
      refine VR_agree c h7 m _ _ _ _ i k2 (by omega) hi (by simp [l1]) (by simp [l2]) fun k hk hkb => ?_
      rw [set_getD (by omega), set_getD (by omega)]
      by_cases hkj : k = j
      · rw [if_pos hkj, if_pos hkj]
      · rw [if_neg hkj, if_neg hkj]
        rw [or_bit] at hkb
        refine h k hk ?_
        cases hq : came.testBit k with
        | true => rfl
        | false => rw [hq] at hkb; simp at hkb; omega
theorem VR_nonneg (c : List Int) (h7 : c.length < 8) (hp : ∀ x ∈ c, 0 ≤ x) : ∀ (m came : Nat) (left : Int) (t : List Int) (i : Nat), came < 2 ^ c.length → cnt came c.length = m → i < c.length → t.length = c.length → 0 ≤ left → (∀ j, j < c.length → came.testBit j = true → 0 ≤ t.getD j 0) → 0 ≤ VR c m came left t i
  | 0, came, left, t, i, hc, hm, hi, l1, hl, h => by
    have h1 := (cnt_zero _ h7 came hc).1 hm
    refine h i hi ?_
    rw [h1, Nat.testBit_two_pow_sub_one]
    exact decide_eq_true hi
  | m + 1, came, left, t, i, hc, hm, hi, l1, hl, h => by
    unfold VR
    refine sum_nonneg fun x hx => ?_
    obtain ⟨j, hj, rfl⟩ := List.mem_map.1 hx
    have hj := List.mem_range.1 hj
    cases hb : came.testBit j with
    | true => simp
    | false =>
      obtain ⟨k1, k2⟩ := cnt_or _ h7 came hc j hj hb
      simp only [Bool.false_eq_true, if_false]
      have hcj := hp _ (getD_mem (d := 0) hj)
      refine VR_nonneg c h7 hp m _ _ _ i k2 (by omega) hi (by simp [l1]) (by omega) fun k hk hkb => ?_
      rw [set_getD (by omega)]
      by_cases hkj : k = j
      · rw [if_pos hkj]; omega
      · rw [if_neg hkj]
        rw [or_bit] at hkb
        refine h k hk ?_
        cases hq : came.testBit k with
        | true => rfl
        | false => rw [hq] at hkb; simp at hkb; omega
theorem DR_nonneg (n : Nat) : ∀ m came, 0 ≤ DR n m came
  | 0, _ => by unfold DR; omega
  | m + 1, came => by
    unfold DR
    refine sum_nonneg fun x hx => ?_
    obtain ⟨j, _, rfl⟩ := List.mem_map.1 hx
    split
    · omega
    · exact DR_nonneg n m _

theorem wrapN {x : Nat} (h : x ≤ 1000) : IntKind.i64.wrap (x : Int) = (x : Int) := IntWalk.i64_in _ (by omega)
variable {S : AM.Sys} (hS : Only S 11)
include hS

theorem only_runs (j : Nat) (hj : j < 7) (H : Heap) : Runs Try.prog S (.fn 75) [.int .i64 (j : Int)] H (.int .i64 ((2 ^ j : Nat) : Int)) H := by
  suffices h : WCall Try.prog S (.fn 75) [.int .i64 (j : Int)] H (fun v H' => v = .int .i64 ((2 ^ j : Nat) : Int) ∧ H' = H) by
    obtain ⟨_, _, hr, rfl, rfl⟩ := h; exact hr
  have hp := pow_small j (by omega)
  have h0 : (0 : Int) ≤ (j : Int) := Int.natCast_nonneg _
  have hw : IntKind.i64.wrap (1 * 2 ^ min j IntKind.i64.bits) = ((2 ^ j : Nat) : Int) := by
    rw [show min j IntKind.i64.bits = j from Nat.min_eq_left (by show j ≤ 64; omega), Int.one_mul, Int.natCast_pow]
    have : ((2 : Int) ^ j) = ((2 ^ j : Nat) : Int) := by rw [Int.natCast_pow]; rfl
    show IntKind.i64.wrap ((2 : Int) ^ j) = (2 : Int) ^ j
    rw [this]
    exact wrapN (by omega)
  refine Zaav Try.func75 rfl (Nat.le_of_ble_eq_true rfl) (hS.no rfl _ _) ?_
  rw [Try.ntmps75, Try.results75]
  repeat' (first | simp only [↓Zabm, ↓Zabo, ↓Zabn, ↓Zacg, ↓Zacf, ↓Zacl, ↓Zaaq, ↓Zaai, ↓Zaaj, ↓bxPut, ↓Zabi, ↓Zabg, ↓Zacj, ↓Zack, ↓Zacm, ↓Zaaz, ↓Zaax, Zach, Zaab, Zabb, Zabe, ↓reduceIte, Nat.reduceEqDiff, Nat.reduceLT, and_self, Int.toNat_natCast, *, argF, List.getD_cons_zero])
theorem has_runs (came j : Nat) (hc : came < 128) (hj : j < 7) (H : Heap) : Runs Try.prog S (.fn 74) [.int .i64 (came : Int), .int .i64 (j : Int)] H (.bool (came.testBit j)) H := by
  suffices h : WCall Try.prog S (.fn 74) [.int .i64 (came : Int), .int .i64 (j : Int)] H (fun v H' => v = .bool (came.testBit j) ∧ H' = H) by
    obtain ⟨_, _, hr, rfl, rfl⟩ := h; exact hr
  have f1 := (only_runs hS j hj H).bx
  have hp := pow_small j (by omega)
  have hpos : 0 < 2 ^ j := Nat.two_pow_pos j
  have ha : IntKind.i64.wrap (((BitVec.ofInt IntKind.i64.bits (came : Int) &&& BitVec.ofInt IntKind.i64.bits ((2 ^ j : Nat) : Int)).toNat : Nat) : Int) = if came.testBit j then ((2 ^ j : Nat) : Int) else 0 := by
    rw [show (BitVec.ofInt IntKind.i64.bits (came : Int) &&& BitVec.ofInt IntKind.i64.bits ((2 ^ j : Nat) : Int)).toNat = _ from bit_and came hc j hj]
    split
    · exact wrapN (by omega)
    · rfl
  have hd : decide (¬ (if came.testBit j then ((2 ^ j : Nat) : Int) else 0) = 0) = came.testBit j := by
    cases came.testBit j with
    | true =>
      simp only [if_true]
      refine decide_eq_true fun h => ?_
      have h : 2 ^ j = 0 := Int.ofNat.inj h
      omega
    | false => simp
  refine Zaav Try.func74 rfl (Nat.le_of_ble_eq_true rfl) (hS.no rfl _ _) ?_
  rw [Try.ntmps74, Try.results74]
  repeat' (first | simp only [↓Zabm, ↓Zabo, ↓Zabn, ↓Zacg, ↓Zacf, ↓Zacl, ↓Zaaq, ↓Zaai, ↓Zaaj, ↓Zaat, ↓bxPut, ↓Zabi, ↓Zabg, ↓Zacj, ↓Zack, ↓Zacm, ↓Zaaz, ↓Zaax, ↓Zaay, Zach, Zaab, Zabb, Zabq, Zabe, List.map_cons, List.map_nil, List.nil_append, List.append_nil, ↓reduceIte, Nat.reduceEqDiff, Nat.reduceLT, and_self, *, argF, List.getD_cons_zero, List.getD_cons_succ, Zabb])
theorem every_runs (n : Nat) (hn : n ≤ 7) (H : Heap) : Runs Try.prog S (.fn 57) [.int .i64 (n : Int)] H (.int .i64 ((2 ^ n - 1 : Nat) : Int)) H := by
  suffices h : WCall Try.prog S (.fn 57) [.int .i64 (n : Int)] H (fun v H' => v = .int .i64 ((2 ^ n - 1 : Nat) : Int) ∧ H' = H) by
    obtain ⟨_, _, hr, rfl, rfl⟩ := h; exact hr
  have hp := pow_small n (by omega)
  have hpos : 0 < 2 ^ n := Nat.two_pow_pos n
  have h0 : (0 : Int) ≤ (n : Int) := Int.natCast_nonneg _
  have hw : IntKind.i64.wrap (1 * 2 ^ min n IntKind.i64.bits) = ((2 ^ n : Nat) : Int) := by
    rw [show min n IntKind.i64.bits = n from Nat.min_eq_left (by show n ≤ 64; omega), Int.one_mul]
    have : ((2 : Int) ^ n) = ((2 ^ n : Nat) : Int) := by rw [Int.natCast_pow]; rfl
    rw [this]
    exact wrapN (by omega)
  have hw2 : IntKind.i64.wrap (((2 ^ n : Nat) : Int) - 1) = ((2 ^ n - 1 : Nat) : Int) := by
    obtain ⟨q, hq⟩ : ∃ q, q = 2 ^ n := ⟨_, rfl⟩
    rw [← hq] at hp hpos ⊢
    rw [IntWalk.i64_in _ (by omega)]; omega
  refine Zaav Try.func57 rfl (Nat.le_of_ble_eq_true rfl) (hS.no rfl _ _) ?_
  rw [Try.ntmps57, Try.results57]
  repeat' (first | simp only [↓Zabm, ↓Zabo, ↓Zabn, ↓Zacg, ↓Zacf, ↓Zacl, ↓Zaaq, ↓Zaai, ↓Zaaj, ↓bxPut, ↓Zabi, ↓Zabg, ↓Zacj, ↓Zack, ↓Zacm, ↓Zaaz, ↓Zaax, Zach, Zaab, Zabb, Zabe, ↓reduceIte, Nat.reduceEqDiff, Nat.reduceLT, and_self, Int.toNat_natCast, *, argF, List.getD_cons_zero])
end Go.Proofs.Ytpeoleimmabceaa
