/- A part as a fraction; two compared. What one gets of more. -/
import Derived.Test.YtpeoleimmabceaaEF
import Derived.Test.YtpeoleimmabceaaBK
set_option linter.unusedVariables false
set_option linter.unusedSimpArgs false
set_option linter.unusedSectionVars false

namespace Go.Proofs.Ytpeoleimmabceaa
open Go Go.AM
set_option maxRecDepth 10000

theorem all_eq {n : Nat} {f g : Nat → Int} (h : ∀ i, i < n → f i ≤ g i) (hs : ((List.range n).map g).sum ≤ ((List.range n).map f).sum) {i : Nat} (hi : i < n) : f i = g i := by
  have h1 := range_take_sum (fun i => g i - f i) (n := n) (k := i) (fun j hj => by have := h j hj; omega) hi
  have h2 : 0 ≤ ((List.range i).map fun i => g i - f i).sum := sum_nonneg fun x hx => by
    obtain ⟨j, hj, rfl⟩ := List.mem_map.1 hx
    have := h j (by have := List.mem_range.1 hj; omega)
    omega
  have h3 := sum_sub (List.range n) g f
  have h1b : ((List.range (i + 1)).map fun i => g i - f i).sum = ((List.range i).map fun i => g i - f i).sum + (g i - f i) := h1.1
  have h1c : ((List.range (i + 1)).map fun i => g i - f i).sum ≤ ((List.range n).map fun i => g i - f i).sum := h1.2
  have := h i hi
  omega
theorem cea_grow {e e' : Int} {c w w' : List Int} {d d' : Int} (h : CEA e c w d) (h' : CEA e' c w' d') (hl : w.length = c.length) (hl' : w'.length = c.length) (hd : 1 ≤ d) (hd' : 1 ≤ d') (hle : e ≤ e') {i : Nat} (hi : i < c.length) : w.getD i 0 * d' ≤ w'.getD i 0 * d := by
  obtain ⟨L, k, h1, h2, h3, h4⟩ := h
  obtain ⟨L', k', g1, g2, g3, g4⟩ := h'
  have hkk : 0 < k * k' := Int.mul_pos (by omega) (by omega)
  have e1 : ∀ j, j < c.length → w.getD j 0 * d' * (k * k') = d * d' * min (c.getD j 0 * (k * k')) (L * k') := fun j hj => by
    have a := h3 j hj
    have b : min (c.getD j 0 * (k * k')) (L * k') = min (c.getD j 0 * k) L * k' := by
      rw [← Int.mul_assoc]
      rcases Int.le_total (c.getD j 0 * k) L with q | q
      · rw [Int.min_eq_left q, Int.min_eq_left (Int.mul_le_mul_of_nonneg_right q (by omega))]
      · rw [Int.min_eq_right q, Int.min_eq_right (Int.mul_le_mul_of_nonneg_right q (by omega))]
    rw [b, Int.mul_right_comm d d', ← Int.mul_assoc d, ← a]
    simp only [Int.mul_comm, Int.mul_left_comm, Int.mul_assoc]
  have e2 : ∀ j, j < c.length → w'.getD j 0 * d * (k * k') = d * d' * min (c.getD j 0 * (k * k')) (L' * k) := fun j hj => by
    have a := g3 j hj
    have b : min (c.getD j 0 * (k * k')) (L' * k) = min (c.getD j 0 * k') L' * k := by
      rw [Int.mul_comm k k', ← Int.mul_assoc]
      rcases Int.le_total (c.getD j 0 * k') L' with q | q
      · rw [Int.min_eq_left q, Int.min_eq_left (Int.mul_le_mul_of_nonneg_right q (by omega))]
      · rw [Int.min_eq_right q, Int.min_eq_right (Int.mul_le_mul_of_nonneg_right q (by omega))]
    rw [b, Int.mul_assoc d d', ← Int.mul_assoc d', ← a]
    simp only [Int.mul_comm, Int.mul_left_comm, Int.mul_assoc]
  have hdd : 0 ≤ d * d' := Int.mul_nonneg (by omega) (by omega)
  rcases Int.le_total (L * k') (L' * k) with hL | hL
  · refine Int.le_of_mul_le_mul_right (a := k * k') ?_ hkk
    rw [e1 i hi, e2 i hi]
    exact Int.mul_le_mul_of_nonneg_left (by omega) hdd
  · have hall : ∀ j, j < c.length → w'.getD j 0 * d ≤ w.getD j 0 * d' := fun j hj => by
      refine Int.le_of_mul_le_mul_right (a := k * k') ?_ hkk
      rw [e1 j hj, e2 j hj]
      exact Int.mul_le_mul_of_nonneg_left (by omega) hdd
    have hs1 : ((List.range c.length).map fun j => w'.getD j 0 * d).sum = e' * d' * d := by rw [sum_mul_right, ← hl', ← sum_range, g4]
    have hs2 : ((List.range c.length).map fun j => w.getD j 0 * d').sum = e * d * d' := by rw [sum_mul_right, ← hl, ← sum_range, h4]
    have hs3 : e * d * d' ≤ e' * d' * d := by
      rw [Int.mul_right_comm e', Int.mul_assoc, Int.mul_assoc]
      exact Int.mul_le_mul_of_nonneg_right hle hdd
    exact Int.le_of_eq (all_eq hall (by rw [hs1, hs2]; exact hs3) hi).symm
theorem cea_le {e : Int} {c w : List Int} {d : Int} (h : CEA e c w d) (hd : 1 ≤ d) {i : Nat} (hi : i < c.length) : w.getD i 0 ≤ c.getD i 0 * d := by
  obtain ⟨L, k, h1, h2, h3, h4⟩ := h
  refine Int.le_of_mul_le_mul_right (a := k) ?_ (by omega)
  rw [h3 i hi, Int.mul_right_comm, Int.mul_comm (c.getD i 0 * k)]
  exact Int.mul_le_mul_of_nonneg_left (by omega) (by omega)
theorem dbl_len (w : List Int) : (dbl w).length = w.length := by simp [dbl]
theorem awd_grow' {rule e e' : Int} {c w w' : List Int} {d d' : Int} (hp : Q.Prob e c) (hp' : Q.Prob e' c) (hl : w.length = c.length) (hl' : w'.length = c.length) (hd : 1 ≤ d) (hd' : 1 ≤ d') (h : Awd RunR rule e c w d) (h' : Awd RunR rule e' c w' d') (hle : e ≤ e') {i : Nat} (hi : i < c.length) : w.getD i 0 * d' ≤ w'.getD i 0 * d := by
  have cross : ∀ {x y : Int}, (c.getD i 0 * d' - y) * d ≤ (c.getD i 0 * d - x) * d' → x * d' ≤ y * d := fun {x y} q => by
    rw [Int.sub_mul, Int.sub_mul, Int.mul_right_comm _ d' d] at q
    omega
  unfold Awd at h h'
  by_cases h0 : rule = 0
  · rw [if_pos h0] at h h'; exact cea_grow h h' hl hl' hd hd' hle hi
  rw [if_neg h0] at h h'
  by_cases h1 : rule = 1
  · rw [if_pos h1] at h h'
    have q := cea_grow h' h (zipL_len _ _ _) (zipL_len _ _ _) hd' hd (by omega) hi
    rw [zipL_at hi, zipL_at hi] at q
    exact cross q
  rw [if_neg h1] at h h'
  by_cases h2 : rule = 2
  · rw [if_pos h2] at h h'
    have a := h i hi
    have b := h' i hi
    have hc := (hp.2.2.1 _ (getD_mem (d := 0) hi)).1
    obtain ⟨T, hT⟩ : ∃ T, T = max 1 c.sum := ⟨_, rfl⟩
    rw [← hT] at a b
    refine Int.le_of_mul_le_mul_right (a := T) ?_ (by omega)
    rw [Int.mul_right_comm, a, Int.mul_right_comm _ d T, b, Int.mul_right_comm _ d' d]
    exact Int.mul_le_mul_of_nonneg_right (Int.mul_le_mul_of_nonneg_right (Int.mul_le_mul_of_nonneg_right hle hc) (by omega)) (by omega)
  rw [if_neg h2] at h h'
  by_cases h3 : rule = 3
  · rw [if_pos h3] at h h'
    by_cases h4 : e ≤ c.sum - e
    · rw [if_pos h4] at h
      by_cases h5 : e' ≤ c.sum - e'
      · rw [if_pos h5] at h'
        have q := cea_grow h h' ((dbl_len _).trans hl) ((dbl_len _).trans hl') hd hd' (by omega) hi
        rw [dbl_at (by omega), dbl_at (by omega), Int.mul_assoc, Int.mul_assoc] at q
        omega
      · rw [if_neg h5] at h'
        have q1 := cea_le h hd hi
        have q2 := cea_le h' hd' hi
        rw [dbl_at (by omega)] at q1
        rw [dbl_at (by rw [zipL_len]; exact hi), zipL_at hi] at q2
        have m1 := Int.mul_le_mul_of_nonneg_right q1 (show 0 ≤ d' by omega)
        have m2 := Int.mul_le_mul_of_nonneg_right q2 (show 0 ≤ d by omega)
        rw [Int.mul_assoc] at m1
        rw [Int.mul_assoc, Int.sub_mul, Int.mul_right_comm _ d' d] at m2
        omega
    · rw [if_neg h4] at h
      by_cases h5 : e' ≤ c.sum - e'
      · omega
      · rw [if_neg h5] at h'
        have q := cea_grow h' h ((dbl_len _).trans (zipL_len _ _ _)) ((dbl_len _).trans (zipL_len _ _ _)) hd' hd (by omega) hi
        rw [dbl_at (by rw [zipL_len]; exact hi), dbl_at (by rw [zipL_len]; exact hi), zipL_at hi, zipL_at hi, Int.mul_assoc, Int.mul_assoc] at q
        exact cross (by omega)
  rw [if_neg h3] at h h'
  have h7 : c.length < 8 := by have := hp.2.1; omega
  have hN := (DR_fact _ h7).1
  have a := h i hi
  have b := h' i hi
  have hm : RunV e c i ≤ RunV e' c i := by
    rw [(runV_eq h7 hi).1, (runV_eq h7 hi).1]
    exact UR_mono (fun x hx => (hp.2.2.1 x hx).1) _ _ hp.1.1 hle (Int.le_refl _)
  refine Int.le_of_mul_le_mul_right (a := DR c.length c.length 0) ?_ (by omega)
  rw [Int.mul_right_comm (w.getD i 0), a, Int.mul_right_comm (w'.getD i 0), b, Int.mul_right_comm _ d' d]
  exact Int.mul_le_mul_of_nonneg_right (Int.mul_le_mul_of_nonneg_right hm (by omega)) (by omega)

theorem awd_same {rule e : Int} {c w w' : List Int} {d d' : Int} (hp : Q.Prob e c) (hl : w.length = c.length) (hl' : w'.length = c.length) (hd : 1 ≤ d) (hd' : 1 ≤ d') (h : Awd RunR rule e c w d) (h' : Awd RunR rule e c w' d') {i : Nat} (hi : i < c.length) : w.getD i 0 * d' = w'.getD i 0 * d :=
  Int.le_antisymm (awd_grow' hp hp hl hl' hd hd' h h' (Int.le_refl _) hi) (awd_grow' hp hp hl' hl hd' hd h' h (Int.le_refl _) hi)

variable {S : AM.Sys} (hS : Only S 11)
include hS

theorem part_runs (v : Value) (w : List Int) (z : Int) (r : Nat) (i : Nat) (H : Heap) (hg : Grp H) (hL : H.low ≤ H.size) (hl : SlI .i64 H v w r 0) (hi : i < w.length) (hw : 0 ≤ w.getD i 0) (hz : 0 < z ∧ z ≤ 1000000) :
    QOut S 16 [.agg ⟨[v, .int .i64 z]⟩, .int .i64 (i : Int)] H (w.getD i 0) z := by
  suffices h : WCall Try.prog S (.fn 16) [.agg ⟨[v, .int .i64 z]⟩, .int .i64 (i : Int)] H (fun v H' => Keep H H' ∧ Grp H' ∧ QV H' v (w.getD i 0) z) by
    obtain ⟨v, H', hr, h1, h2, h3⟩ := h; exact ⟨H', v, h1, h2, h3, hr⟩
  obtain ⟨a, cp, rfl⟩ := hl.v0
  obtain ⟨H1, e1, k1, s1, rd2, rd0, rd1⟩ := Q.boxP H (.slice a w.length cp) (.int .i64 z)
  obtain ⟨H2, e2, k2, s2, -, -⟩ := box1 H1 [.bool false, .slice none 0 0, .bool false, .slice none 0 0] 38
  have ow2 : Own H2 H1.size 38 [.bool false, .slice none 0 0, .bool false, .slice none 0 0] := e2 ▸ Own.new H1 _ _
  have al2 : aAlloc Try.prog H1 38 = some (.pointer (some ⟨H1.size, 0, none⟩), H2) := by rw [alQ, e2]
  have K2 := k1.trans k2
  have L2 := K2.low hL
  have g2 := K2.grp hg
  have l2 := hl.keep K2
  have hix := SlI_ix l2 hi
  rw [Nat.zero_add] at hix
  have hrd := (l2.rdI hi).1
  rw [Nat.zero_add] at hrd
  have hrg := (l2.rdI hi).2
  have hmx : IntKind.i64.max = 9223372036854775807 := rfl
  have y0 := k2.read s1 rd0
  have y1 := k2.read s1 rd1
  have hob : QOut S 18 [.int .i64 (w.getD i 0), .int .i64 z] (H2.relow H2.size) (w.getD i 0) z := by
    obtain ⟨H', v', q1, q2, q3, q4⟩ := Frac_all hS (w.getD i 0) z (H2.relow H2.size) g2 (Nat.le_refl _) hw hz.1 (by omega) (by omega)
    exact ⟨H', v', q1, q2, q3, q4⟩
  obtain ⟨v9, Hm, Hn, Ho, fm, fn, ps, hld, hLn, hK9, hg9, hq9⟩ := endQ K2 k1.size L2 hg ow2 hob
  clear hob hl l2 hrg ow2 rd0 rd1 rd2 e2
  refine Zaau Try.func16 rfl (Nat.le_of_ble_eq_true rfl) (hS.no rfl _ _) ?_
  rw [Try.ntmps16, Try.results16]
  repeat' (first | simp only [↓sxC_draw, ↓Zabl, ↓Zabn, ↓Zabm, ↓Zacf, ↓Zace, ↓Zabz, ↓Zaag, ↓Zabx, ↓Zabw, ↓Zabu, ↓Zabv, ↓sxD_same, ↓Zack, ↓Zaap, ↓Zaah, ↓bxOp_box, ↓Zaao, ↓Zaar, ↓Zaal, ↓Zaam, ↓Zaas, ↓Zach, ↓bxPut, ↓Zabh, ↓Zabf, ↓Zaci, ↓bxRes_cell, ↓Zacl, ↓Zaay, ↓Zaax, Zacg, Zabp, Zabd, List.map_cons, List.map_nil, List.nil_append, List.append_nil, ↓reduceIte, Nat.reduceEqDiff, Nat.reduceLT, and_self, aLoad_relow, Nat.add_zero, one1, Option.bind_some, *, argF, List.getD_cons_zero, List.getD_cons_succ, Q.cells_agg, paG0, paG1, ldIs, ldI, one1] | (with_reducible first | refine Zabr (by assumption) (by decide +kernel) ?_ | refine Zabq (by decide +kernel) ?_ | refine Zaby (by decide +kernel) ?_ | refine Zabt ?_))
end Go.Proofs.Ytpeoleimmabceaa
