/- The law QuotaRules on the canonical machine. -/
import Derived.Test.YtpeoleimmabceaaEE
set_option linter.unusedVariables false
set_option linter.unusedSimpArgs false
set_option linter.unusedSectionVars false

namespace Go.Proofs.Ytpeoleimmabceaa
open Go Go.AM
set_option maxRecDepth 10000

def Op (c w : List Int) (d : Int) : Prop := ∀ i j, i < c.length → j < c.length → c.getD i 0 ≤ c.getD j 0 → w.getD i 0 ≤ w.getD j 0 ∧ c.getD i 0 * d - w.getD i 0 ≤ c.getD j 0 * d - w.getD j 0
theorem CEA.op {e : Int} {c w : List Int} {d : Int} (h : CEA e c w d) (hd : 1 ≤ d) : Op c w d := fun i j hi hj hle => by
  obtain ⟨L, k, h1, h2, h3, _⟩ := h
  have ei := h3 i hi
  have ej := h3 j hj
  have hk : c.getD i 0 * k ≤ c.getD j 0 * k := Int.mul_le_mul_of_nonneg_right hle (by omega)
  have m1 : d * min (c.getD i 0 * k) L ≤ d * min (c.getD j 0 * k) L := Int.mul_le_mul_of_nonneg_left (by omega) (by omega)
  have m2 : d * (c.getD i 0 * k - min (c.getD i 0 * k) L) ≤ d * (c.getD j 0 * k - min (c.getD j 0 * k) L) := Int.mul_le_mul_of_nonneg_left (by omega) (by omega)
  rw [Int.mul_sub, Int.mul_sub, ← ei, ← ej] at m2
  rw [← ei, ← ej] at m1
  refine ⟨Int.le_of_mul_le_mul_right m1 (by omega), Int.le_of_mul_le_mul_right (a := k) ?_ (by omega)⟩
  rw [Int.sub_mul, Int.sub_mul, Int.mul_right_comm, Int.mul_right_comm _ d, Int.mul_comm _ d, Int.mul_comm (c.getD j 0 * k) d]
  exact m2
theorem runV_eq {e : Int} {c : List Int} (h7 : c.length < 8) {i : Nat} (hi : i < c.length) : RunV e c i = UR c (c.length - 1) (2 ^ i) e (c.getD i 0) ∧ DR c.length c.length 0 = WR c.length (c.length - 1) (2 ^ i) := by
  have hpow : 0 < 2 ^ c.length := Nat.two_pow_pos _
  obtain ⟨m, hm⟩ : ∃ m, c.length = m + 1 := ⟨c.length - 1, by omega⟩
  have h1 := VU h7 m 0 e (zeros c.length) i hpow (by rw [cnt_all]; exact hm) hi (by simp [zeros]) (by simp)
  have h2 := WU h7 m 0 i hpow (by rw [cnt_all]; exact hm) hi (by simp)
  rw [Nat.zero_or] at h1 h2
  have hm1 : c.length - 1 = m := by omega
  refine ⟨?_, ?_⟩
  · unfold RunV
    rw [hm1, ← h1, ← hm]
  · rw [hm1, ← h2, ← hm]
variable {S : AM.Sys} (hS : Only S 11)
include hS

theorem few_runs (a : Option Addr) (n c : Nat) (H : Heap) : Runs Try.prog S (.fn 10) [.slice a n c] H (.bool (decide ((n : Int) ≤ 40))) H := by
  suffices h : WCall Try.prog S (.fn 10) [.slice a n c] H (fun v H' => v = .bool (decide ((n : Int) ≤ 40)) ∧ H' = H) by
    obtain ⟨_, _, hr, rfl, rfl⟩ := h; exact hr
  refine Zaav Try.func10 rfl (Nat.le_of_ble_eq_true rfl) (hS.no rfl _ _) ?_
  rw [Try.ntmps10, Try.results10]
  repeat' (first | simp only [↓Zabm, ↓Zabo, ↓Zabn, ↓Zacg, ↓Zacf, ↓Zacl, ↓Zaaq, ↓Zaai, ↓Zaaj, ↓Zaao, ↓bxPut, ↓Zabi, ↓Zabg, ↓Zacj, ↓Zack, ↓Zacm, ↓Zaaz, ↓Zaax, Zach, Zaab, Zabb, Zabe, ↓reduceIte, Nat.reduceEqDiff, Nat.reduceLT, and_self, *, argF, List.getD_cons_zero, lenI])
theorem shaped_runs (a : Option Addr) (n cp : Nat) (z : Int) (hz : 0 < z) (H : Heap) : ∃ H', Keep H H' ∧ Runs Try.prog S (.fn 14) [.agg ⟨[.slice a n cp, .int .i64 z]⟩, .int .i64 (n : Int)] H (.bool true) H' := by
  suffices h : WCall Try.prog S (.fn 14) [.agg ⟨[.slice a n cp, .int .i64 z]⟩, .int .i64 (n : Int)] H (fun v H' => v = .bool true ∧ Keep H H') by
    obtain ⟨_, H', hr, rfl, h⟩ := h; exact ⟨H', h, hr⟩
  obtain ⟨H1, e1, k1, s1, rd2, rd0, rd1⟩ := Q.boxP H (.slice a n cp) (.int .i64 z)
  have d0 : decide ((n : Int) = (n : Int)) = true := decide_eq_true rfl
  refine Zaav Try.func14 rfl (Nat.le_of_ble_eq_true rfl) (hS.no rfl _ _) ?_
  rw [Try.ntmps14, Try.results14]
  repeat' (first | simp only [↓Zabm, ↓Zabo, ↓Zabn, ↓Zacg, ↓Zacf, ↓Zacl, ↓Zaau, ↓Zaaq, ↓Zaai, ↓Zaar, ↓bxOp_box, ↓Zaap, ↓Zaaj, ↓Zaam, ↓Zaao, ↓bxPut, ↓Zabi, ↓Zabg, ↓Zacj, ↓Zack, ↓Zacm, ↓Zaaz, ↓Zaax, ↓dstAt, ↓Zaba, Zach, Zaab, Zabb, aPick_true, sxGuardB_tt, Zabe, ↓reduceIte, Nat.reduceEqDiff, Nat.reduceLT, dec_T, and_self, Nat.add_zero, one1, Option.bind_some, *, argF, List.getD_cons_zero, List.getD_cons_succ, lenI, Q.cells_agg, paG0, paG1, ldIs, ldI, one1, Nat.zero_add])
theorem ShareR_runs (rule e : Int) (v : Value) (c : List Int) (r o : Nat) (H : Heap) (hg : Grp H) (hL : H.low ≤ H.size) (hl : SlI .i64 H v c r o) :
    ∃ u H', Runs Try.prog S (.fn 12) [.int .i64 rule, .int .i64 e, v] H u H' ∧ PostSh RunR H rule e c u H' :=
  Share_runs hS RunR (fun h1 h2 h3 => runR_sc h1 h2 h3) rule e v c r o H hg hL hl fun hp _ H1 k1 => run_runs hS e v c r o H1 (k1.grp hg) (k1.low hL) (hl.keep k1) hp

end Go.Proofs.Ytpeoleimmabceaa
