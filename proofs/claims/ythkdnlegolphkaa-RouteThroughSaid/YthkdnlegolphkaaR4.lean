/- The timetable's own functions. -/
import Derived.Test.YthkdnlegolphkaaR2
import Derived.Test.YthkdnlegolphkaaSDI
set_option linter.unusedVariables false
set_option linter.unusedSimpArgs false
set_option linter.unusedSectionVars false

namespace Go.Proofs.Ythkdnlegolphkaa
open Go Go.AM
set_option maxRecDepth 10000

def tv (a : Option Addr) (n c : Nat) (ch : Int) (v : Value) : Value := .agg ⟨[.slice a n c, .int .i64 ch, v]⟩
def wv (fr to at' by' : Int) : Value := .agg ⟨[.int .i64 fr, .int .i64 to, .int .i64 at', .int .i64 by']⟩
theorem boxT (H : Heap) (a : Option Addr) (n c : Nat) (ch : Int) (v : Value) : ∃ H1, H.newExact [.slice a n c, .int .i64 ch, v] 56 = H1 ∧ Keep H H1 ∧ H1.read H.size 0 3 = some [.slice a n c, .int .i64 ch, v] ∧ H1.read H.size 0 1 = some [.slice a n c] ∧ H1.read H.size 1 1 = some [.int .i64 ch] ∧ H1.read H.size 2 1 = some [v] := by
  obtain ⟨H1, e1, hK1, hz1, hr1, hrs⟩ := boxS H [.slice a n c, .int .i64 ch, v] 56
  exact ⟨H1, e1, hK1, hr1, hrs 0 1 (by simp), hrs 1 1 (by simp), hrs 2 1 (by simp)⟩
theorem boxW (H : Heap) (fr to at' by' : Int) : ∃ H1, H.newExact [.int .i64 fr, .int .i64 to, .int .i64 at', .int .i64 by'] 64 = H1 ∧ Keep H H1 ∧ H1.read H.size 0 4 = some [.int .i64 fr, .int .i64 to, .int .i64 at', .int .i64 by'] ∧ H1.read H.size 0 1 = some [.int .i64 fr] ∧ H1.read H.size 1 1 = some [.int .i64 to] ∧ H1.read H.size 2 1 = some [.int .i64 at'] ∧ H1.read H.size 3 1 = some [.int .i64 by'] := by
  obtain ⟨H1, e1, hK1, hz1, hr1, hrs⟩ := boxS H [.int .i64 fr, .int .i64 to, .int .i64 at', .int .i64 by'] 64
  exact ⟨H1, e1, hK1, hr1, hrs 0 1 (by simp), hrs 1 1 (by simp), hrs 2 1 (by simp), hrs 3 1 (by simp)⟩

variable {S : AM.Sys} (hS : Only S 10)
include hS

theorem isNaN_runs (x : Int) (H : Heap) : Runs Try.prog S (.fn 58) [.int .i64 x] H (.bool false) H := by
  suffices h : WCall Try.prog S (.fn 58) [.int .i64 x] H (fun v H' => v = .bool false ∧ H' = H) by
    obtain ⟨_, _, hr, rfl, rfl⟩ := h; exact hr
  have d : decide (¬ x = x) = false := decide_eq_false fun h => h rfl
  refine Zaaz Try.func58 rfl (Nat.le_of_ble_eq_true rfl) (hS.no rfl _ _) ?_
  rw [Try.ntmps58, Try.results58]
  repeat' (first | simp only [↓Zabv, ↓Zabx, ↓Zabw, ↓Zacs, ↓Zacr, ↓Zacx, ↓Zaat, ↓Zaam, ↓Zaan, ↓bxPut, ↓Zabq, ↓Zabo, ↓Zacv, ↓Zacw, ↓Zacy, ↓Zabe, ↓Zabc, Zact, Zaae, Zabg, Zabk, ↓reduceIte, Nat.reduceEqDiff, Nat.reduceLT, dec_F, and_self, not_true_eq_false, *, argF, List.getD_cons_zero])
theorem cmpC_runs (x y : Int) (H : Heap) : ∃ z, (z < 0 ↔ x < y) ∧ Runs Try.prog S (.fn 39) [.int .i64 x, .int .i64 y] H (.int .i64 z) H := by
  suffices h : WCall Try.prog S (.fn 39) [.int .i64 x, .int .i64 y] H (fun v H' => ∃ z, (z < 0 ↔ x < y) ∧ v = .int .i64 z ∧ H' = H) by
    obtain ⟨_, _, hr, z, h, rfl, rfl⟩ := h; exact ⟨z, h, hr⟩
  have f1 := (isNaN_runs hS x H).bx
  have f2 := (isNaN_runs hS y H).bx
  refine Zaaz Try.func39 rfl (Nat.le_of_ble_eq_true rfl) (hS.no rfl _ _) ?_
  rw [Try.ntmps39, Try.results39]
  by_cases h1 : x < y
  · repeat' (first | simp only [↓Zaby, ↓Zabv, ↓Zabx, ↓Zaai, ↓Zabw, ↓Zacs, ↓Zacr, ↓Zacx, ↓Zaat, ↓Zaam, ↓Zaan, ↓Zaax, ↓bxPut, ↓Zabq, ↓Zabr, ↓Zabo, ↓Zacv, ↓Zacw, ↓Zacy, ↓Zabe, ↓Zabc, ↓Zabd, Zact, Zaae, Zabg, Zabz, Zacq, Zacp, Zabk, List.map_cons, List.map_nil, List.nil_append, List.append_nil, ↓reduceIte, Nat.reduceEqDiff, Nat.reduceLT, dec_T, and_true, *, argF, List.getD_cons_zero, List.getD_cons_succ])
    exact ⟨-1, (by first | omega | (constructor <;> intro hh <;> first | trivial | (revert hh; decide) | (exact absurd hh (by decide)))), rfl⟩
  · by_cases h2 : y < x
    · repeat' (first | simp only [↓Zaby, ↓Zabv, ↓Zabx, ↓Zaai, ↓Zabw, ↓Zacs, ↓Zacr, ↓Zacx, ↓Zaat, ↓Zaam, ↓Zaan, ↓Zaax, ↓bxPut, ↓Zabq, ↓Zabr, ↓Zabo, ↓Zacv, ↓Zacw, ↓Zacy, ↓Zabe, ↓Zabc, ↓Zabd, Zact, Zaae, Zabg, Zabz, Zacq, Zacp, Zabk, List.map_cons, List.map_nil, List.nil_append, List.append_nil, ↓reduceIte, Nat.reduceEqDiff, Nat.reduceLT, dec_T, dec_F, and_true, *, argF, List.getD_cons_zero, List.getD_cons_succ])
      exact ⟨1, (by first | omega | (constructor <;> intro hh <;> first | trivial | (revert hh; decide) | (exact absurd hh (by decide)))), rfl⟩
    · repeat' (first | simp only [↓Zaby, ↓Zabv, ↓Zabx, ↓Zaai, ↓Zabw, ↓Zacs, ↓Zacr, ↓Zacx, ↓Zaat, ↓Zaam, ↓Zaan, ↓Zaax, ↓bxPut, ↓Zabq, ↓Zabr, ↓Zabo, ↓Zacv, ↓Zacw, ↓Zacy, ↓Zabe, ↓Zabc, ↓Zabd, Zact, Zaae, Zabg, Zabz, Zacp, Zabk, List.map_cons, List.map_nil, List.nil_append, List.append_nil, ↓reduceIte, Nat.reduceEqDiff, Nat.reduceLT, dec_F, and_true, *, argF, List.getD_cons_zero, List.getD_cons_succ])
      exact ⟨0, (by first | omega | (constructor <;> intro hh <;> first | trivial | (revert hh; decide) | (exact absurd hh (by decide)))), rfl⟩

theorem cmpDep_runs (ls : List Lg) (a : Option Addr) (c r o : Nat) (ch : Int) (v : Value) (H : Heap) (hL : H.low ≤ H.size) (hl : SlG H (.slice a ls.length c) ls r o) (i j : Nat) (hi : i < ls.length) (hj : j < ls.length) :
    ∃ z H', Keep H H' ∧ (z < 0 ↔ (ls.getD i default).d < (ls.getD j default).d) ∧ Runs Try.prog S (.fn 36) [tv a ls.length c ch v, .int .i64 (i : Int), .int .i64 (j : Int)] H (.int .i64 z) H' := by
  suffices h : WCall Try.prog S (.fn 36) [tv a ls.length c ch v, .int .i64 (i : Int), .int .i64 (j : Int)] H (fun u H' => ∃ z, Keep H H' ∧ (z < 0 ↔ (ls.getD i default).d < (ls.getD j default).d) ∧ u = .int .i64 z) by
    obtain ⟨_, H', hr, z, hk, h, rfl⟩ := h; exact ⟨z, H', hk, h, hr⟩
  obtain ⟨H1, e1, hK1, r3, r0, r1, r2⟩ := boxT H a ls.length c ch v
  obtain ⟨q, hix, _, _, _, g2, _⟩ := SlG_at (hl.keep hK1) hi
  obtain ⟨q', hix', _, _, _, g2', _⟩ := SlG_at (hl.keep hK1) hj
  have hL1 := hK1.low hL
  obtain ⟨z, hz, hR⟩ := cmpC_runs hS (ls.getD i default).d (ls.getD j default).d (H1.relow H1.size)
  have f1 := hR.bx
  clear hR hl
  refine Zaaz Try.func36 rfl (Nat.le_of_ble_eq_true rfl) (hS.no rfl _ _) ?_
  rw [Try.ntmps36, Try.results36]
  repeat' (first | simp only [↓Zabt, ↓Zabv, ↓Zabx, ↓Zabw, ↓Zacs, ↓Zacr, ↓Zacm, ↓Zaak, ↓Zach, ↓sxDL_assign, ↓Zacg, ↓Zace, ↓Zacf, ↓Zacl, ↓Zacx, ↓Zaat, ↓Zaam, ↓bxOp_box, ↓Zaas, ↓Zaaq, ↓Zaar, ↓Zaax, ↓bxPut, ↓Zabq, ↓Zabo, ↓Zacv, ↓Zacw, ↓Zacy, ↓Zabe, ↓Zabc, ↓Zabd, Zact, Zabz, Zabk, List.map_cons, List.map_nil, List.nil_append, List.append_nil, ↓reduceIte, Nat.reduceEqDiff, Nat.reduceLT, true_and, Zaab, Nat.add_zero, one1, Option.bind_some, *, argF, List.getD_cons_zero, List.getD_cons_succ, cells_agg, tv, faT0, faG2, ldLs, ldC, one1] | (with_reducible first | refine Zacb (by assumption) (by decide +kernel) ?_ | refine Zaca (by decide +kernel) ?_ | refine Zack (by decide +kernel) ?_ | refine Zacd ?_))
  exact ⟨z, hz, rfl⟩
end Go.Proofs.Ythkdnlegolphkaa
