/- Two parts, their sum and a number. -/
import Derived.Test.YtpeoleimmabceaaEP
import Derived.Test.YtpeoleimmabceaaEJ
set_option linter.unusedVariables false
set_option linter.unusedSimpArgs false
set_option linter.unusedSectionVars false

namespace Go.Proofs.Ytpeoleimmabceaa
open Go Go.AM
set_option maxRecDepth 10000

theorem big20 : (10000 : Int) ^ 20 = 100000000000000000000000000000000000000000000000000000000000000000000000000000000 := by decide +kernel
def TS (c : List Int) (k : Nat) : Int := ((List.range k).map fun i => c.getD i 0).sum
theorem TS_succ (c : List Int) (k : Nat) : TS c (k + 1) = TS c k + c.getD k 0 := by
  unfold TS
  rw [List.range_succ, List.map_append, List.sum_append]
  simp
theorem TS_all (c : List Int) : TS c c.length = c.sum := (sum_range c).symm
theorem other_way (rule : Int) : (decide (rule = 0) = true ∧ other rule = 1) ∨ (decide (rule = 0) = false ∧ decide (rule = 1) = true ∧ other rule = 0) ∨ (decide (rule = 0) = false ∧ decide (rule = 1) = false ∧ other rule = rule) := by
  unfold other
  by_cases h : rule = 0
  · exact .inl ⟨decide_eq_true h, if_pos h⟩
  · by_cases h1 : rule = 1
    · exact .inr (.inl ⟨decide_eq_false h, decide_eq_true h1, by rw [if_neg h, if_pos h1]⟩)
    · exact .inr (.inr ⟨decide_eq_false h, decide_eq_false h1, by rw [if_neg h, if_neg h1]⟩)
variable {S : AM.Sys} (hS : Only S 11)
include hS

theorem sumD (v1 v2 : Value) (w1 w2 : List Int) (z1 z2 x : Int) (r1 r2 i1 i2 : Nat) (H : Heap) (hg : Grp H) (hL : H.low ≤ H.size) (l1 : SlI .i64 H v1 w1 r1 0) (l2 : SlI .i64 H v2 w2 r2 0) (hi1 : i1 < w1.length) (hi2 : i2 < w2.length) (p1 : 0 ≤ w1.getD i1 0 ∧ w1.getD i1 0 ≤ 100000000000) (p2 : 0 ≤ w2.getD i2 0 ∧ w2.getD i2 0 ≤ 100000000000) (q1 : 0 < z1 ∧ z1 ≤ 1000000) (q2 : 0 < z2 ∧ z2 ≤ 1000000) (hx : 0 ≤ x ∧ x ≤ 100000) :
    ∃ x1 Ha Hb x2 Hc Hd x3 He Hf x4 Hg Hh Hi Hj, Keep H Hb ∧ Hb.low ≤ Hb.size ∧ Keep H Hd ∧ Hd.low ≤ Hd.size ∧ Keep H Hf ∧ Hf.low ≤ Hf.size ∧ Keep H Hh ∧ Hh.low ≤ Hh.size ∧ Keep H Hj ∧ Hj.low ≤ Hj.size ∧
      (∀ (K : Value → Heap → Prop) (b : Blk K), sxCallB Try.prog S (.fn 16) [.agg ⟨[v1, .int .i64 z1]⟩, .int .i64 (i1 : Int)] (H.relow H.size) K b = K x1 Ha) ∧ (∀ (all : List Oper) (n : Nat) (k : Heap → Prop), sxD all n H Ha k = k Hb) ∧
      (∀ (K : Value → Heap → Prop) (b : Blk K), sxCallB Try.prog S (.fn 16) [.agg ⟨[v2, .int .i64 z2]⟩, .int .i64 (i2 : Int)] (Hb.relow Hb.size) K b = K x2 Hc) ∧ (∀ (all : List Oper) (n : Nat) (k : Heap → Prop), sxD all n Hb Hc k = k Hd) ∧
      (∀ (K : Value → Heap → Prop) (b : Blk K), sxCallB Try.prog S (.fn 17) [x1, x2] (Hd.relow Hd.size) K b = K x3 He) ∧ (∀ (all : List Oper) (n : Nat) (k : Heap → Prop), sxD all n Hd He k = k Hf) ∧
      (∀ (K : Value → Heap → Prop) (b : Blk K), sxCallB Try.prog S (.fn 18) [.int .i64 x, .int .i64 1] (Hf.relow Hf.size) K b = K x4 Hg) ∧ (∀ (all : List Oper) (n : Nat) (k : Heap → Prop), sxD all n Hf Hg k = k Hh) ∧
      (∀ (K : Value → Heap → Prop) (b : Blk K), sxCallB Try.prog S (.fn 15) [x3, x4] (Hh.relow Hh.size) K b = K (.int .i64 (sgn3 ((w1.getD i1 0 * z2 + w2.getD i2 0 * z1) * 1) (x * (z1 * z2)))) Hi) ∧ (∀ (all : List Oper) (n : Nat) (k : Heap → Prop), sxD all n Hh Hi k = k Hj) := by
  have hr1 := Keep.relowS H
  obtain ⟨x1, Ha, Hb, kb, lb, fa, da, qa⟩ := drawnQ hL (part_runs hS v1 w1 z1 r1 i1 (H.relow H.size) (hr1.grp hg) (Nat.le_refl _) (l1.keep hr1) hi1 p1.1 q1)
  have hr2 := Keep.relowS Hb
  obtain ⟨x2, Hc, Hd, kd, ld, fc, dc, qc⟩ := drawnQ lb (part_runs hS v2 w2 z2 r2 i2 (Hb.relow Hb.size) (hr2.grp (kb.grp hg)) (Nat.le_refl _) ((l2.keep kb).keep hr2) hi2 p2.1 q2)
  have hr3 := Keep.relowS Hd
  have kbd := kb.trans kd
  obtain ⟨x3, He, Hf, kf, lf, fe, de, qe⟩ := drawnQ ld (Add_all hS x1 x2 _ _ _ _ (Hd.relow Hd.size) (hr3.grp (kbd.grp hg)) (Nat.le_refl _) ((qa.keep kd).keep hr3) (qc.keep hr3) q1.1 q2.1 (by rw [big20]; omega) (by rw [big20]; omega) (by rw [big20]; omega) (by rw [big20]; omega))
  have hr4 := Keep.relowS Hf
  have kbf := kbd.trans kf
  obtain ⟨x4, Hg, Hh, kh, lh, fg, dg, qg⟩ := drawnQ lf (show QOut S 18 [.int .i64 x, .int .i64 1] (Hf.relow Hf.size) x 1 from by
    obtain ⟨H', v', t1, t2, t3, t4⟩ := Frac_all hS x 1 (Hf.relow Hf.size) (hr4.grp (kbf.grp hg)) (Nat.le_refl _) hx.1 (by omega) (by omega) (by omega)
    exact ⟨H', v', t1, t2, t3, t4⟩)
  have hr5 := Keep.relowS Hh
  have kbh := kbf.trans kh
  have hob := drawn lh (Cmp_all hS x3 x4 _ _ _ _ (Hh.relow Hh.size) (hr5.grp (kbh.grp hg)) (Nat.le_refl _) ((qe.keep kh).keep hr5) (qg.keep hr5) (Int.mul_pos q1.1 q2.1) (by omega))
  obtain ⟨Hi, Hj, kj, lj, fi, di⟩ := hob
  exact ⟨x1, Ha, Hb, x2, Hc, Hd, x3, He, Hf, x4, Hg, Hh, Hi, Hj, kb, lb, kbd, ld, kbf, lf, kbh, lh, kbh.trans kj, lj, fa, da, fc, dc, fe, de, fg, dg, fi, di⟩

end Go.Proofs.Ytpeoleimmabceaa
