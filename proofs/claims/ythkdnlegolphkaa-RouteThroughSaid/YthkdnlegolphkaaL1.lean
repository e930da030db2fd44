/- slices.Backward of numbers: the function that is ranged over. -/
import Derived.Test.YthkdnlegolphkaaR5
import Derived.Test.YthkdnlegolphkaaGj
set_option linter.unusedVariables false
set_option linter.unusedSimpArgs false
set_option linter.unusedSectionVars false

namespace Go.Proofs.Ythkdnlegolphkaa
open Go Go.AM
set_option maxRecDepth 10000

variable {S : AM.Sys} (hS : Only S 10)
include hS

theorem backI_runs (a : Option Addr) (n c : Nat) (H : Heap) : Runs Try.prog S (.fn 59) [.slice a n c] H (.func (.func 74) ⟨[]⟩ ⟨[.pointer (some ⟨H.size, 0, none⟩)]⟩) (H.newExact [.slice a n c] 23) := by
  suffices h : WCall Try.prog S (.fn 59) [.slice a n c] H (fun u H' => u = .func (.func 74) ⟨[]⟩ ⟨[.pointer (some ⟨H.size, 0, none⟩)]⟩ ∧ H' = H.newExact [.slice a n c] 23) by
    obtain ⟨_, _, hr, rfl, rfl⟩ := h; exact hr
  have e1 : H.newExact [.slice a n c] 23 = H.newExact [.slice a n c] 23 := rfl
  have ce : (Value.slice a n c).cells.toList = [.slice a n c] := rfl
  have ny : notYield (.func 74) = true := rfl
  refine Zaaz Try.func59 rfl (Nat.le_of_ble_eq_true rfl) (hS.no rfl _ _) ?_
  rw [Try.ntmps59, Try.results59]
  repeat' (first | simp only [↓Zabv, ↓Zabx, ↓Zabw, ↓Zacs, ↓Zacr, ↓Zacx, ↓Zaam, ↓bxOp_box, ↓bxOp_makeFunc, ↓bxPut, ↓Zabq, ↓Zabo, ↓Zacv, ↓Zacw, ↓Zacy, ↓Zabe, ↓Zabc, Zabk, List.map_cons, List.map_nil, ↓reduceIte, Nat.reduceEqDiff, Nat.reduceLT, and_true, and_self, *, argF, List.getD_cons_zero])

set_option maxHeartbeats 2000000 in
theorem backIC_runs {l B : Nat} (a : Option Addr) (c : Nat) (ws : List Int) (J : Nat → Heap → Prop) (X : Heap → Prop) (H : Heap)
    (hrd : ∀ k H5, J k H5 → H5.read B 0 1 = some [.slice a ws.length c] ∧ ∃ r o, SlI .i64 H5 (.slice a ws.length c) ws r o)
    (hstep : ∀ k H5, k < ws.length → J (k + 1) H5 → WCall Try.prog S (.rnd l) [.int .i64 (k : Int), .int .i64 (ws.getD k 0)] H5 (fun u H6 => (u = .bool true ∧ J k H6) ∨ (u = .bool false ∧ X H6)))
    (h0 : J ws.length H) (hml : ws.length ≤ 1000000) :
    WCall Try.prog S (.fn 74) [.func (.yield l) ⟨[]⟩ ⟨[]⟩, .pointer (some ⟨B, 0, none⟩)] H (fun _ H' => J 0 H' ∨ X H') := by
  obtain ⟨r1, r2⟩ := hrd _ _ h0
  refine Zaaz Try.func74 rfl (Nat.le_of_ble_eq_true rfl) (hS.no rfl _ _) ?_
  rw [Try.ntmps74, Try.results74]
  have hwn : IntKind.i64.wrap ((ws.length : Int) - 1) = (ws.length : Int) - 1 := IntWalk.i64_in _ (by omega)
  have hJs : ∃ J', J' = J := ⟨_, rfl⟩
  clear r2
  repeat' (first | simp only [↓Zabv, ↓Zabx, ↓Zaaj, ↓Zabs, ↓Zacs, ↓Zacr, ↓Zacx, ↓Zaam, ↓Zaas, ↓Zaan, ↓bxOp_len, ↓bxPut, ↓Zabq, ↓Zacy, ↓Zabe, ↓Zabc, Zact, Zaae, Zabg, ↓reduceIte, Nat.reduceLT, one1, Option.bind_some, *, argF, List.getD_cons_zero, List.getD_cons_succ, lenIs, ldIs, one1])
  refine sxL_of (fun m ρ H5 => ∃ k : Nat, m = k ∧ k ≤ ws.length ∧ J k H5 ∧ ρ 0 = .func (.yield l) ⟨[]⟩ ⟨[]⟩ ∧ ρ 1 = .pointer (some ⟨B, 0, none⟩) ∧ ρ 3 = .int .i64 ((k : Int) - 1))
    ⟨ws.length, rfl, Nat.le_refl _, h0, rfl, rfl, rfl⟩ ?_
  clear r1 h0
  rintro k ρ H5 ⟨_, rfl, hk, hJ, e0, e1, e3⟩
  cases k with
  | zero =>
    have hn : ¬ (0 : Int) ≤ ((0 : Nat) : Int) - 1 := by omega
    have hp : J 0 H5 ∨ X H5 := .inl hJ
    clear hrd hstep hJ
    repeat' (first | simp only [↓Zaby, ↓Zabv, ↓Zabx, ↓Zaai, ↓Zabs, ↓Zabu, ↓Zabw, ↓Zacs, ↓Zacr, ↓Zacx, ↓Zaat, ↓Zaam, ↓Zaas, ↓Zaan, ↓Zaaw, ↓Zaar, ↓Zaax, ↓bxPut, ↓Zabq, ↓Zabp, ↓Zabr, ↓Zaag, ↓Zaah, ↓Zaaf, ↓Zabi, ↓Zabh, ↓Zabj, ↓Zabn, ↓Zabo, ↓Zacv, ↓Zacy, ↓Zabe, ↓Zabc, Zact, Zaae, Zabg, Zacp, ↓reduceIte, Nat.reduceLT, dec_F, *])
  | succ k =>
    have hkl : k < ws.length := by omega
    have hn : (0 : Int) ≤ ((k + 1 : Nat) : Int) - 1 := by omega
    have hwk : ((k + 1 : Nat) : Int) - 1 = (k : Int) := by omega
    have hwk2 : IntKind.i64.wrap ((k : Int) - 1) = (k : Int) - 1 := IntWalk.i64_in _ (by omega)
    rw [hwk] at e3 hn
    have hob := hrd _ _ hJ
    obtain ⟨r1, r, o, hs⟩ := hob
    have hob := SlI_at hs hkl
    obtain ⟨hix, hr⟩ := hob
    have hob := hstep k H5 hkl hJ
    obtain ⟨u, H6, hR, hu⟩ := hob
    have f1 := hR.bx
    have hms : k < k + 1 := by omega
    rcases hu with ⟨rfl, hJ6⟩ | ⟨rfl, hX⟩
    · clear hrd hstep hJ hR hs
      repeat' (first | simp only [↓Zaby, ↓Zabv, ↓Zabx, ↓Zaai, ↓Zabs, ↓Zabu, ↓Zabw, ↓Zacs, ↓Zacr, ↓Zacx, ↓Zaat, ↓Zaam, ↓Zaas, ↓Zaan, ↓Zaaw, ↓Zaar, ↓Zaax, ↓bxPut, ↓Zabq, ↓Zabp, ↓Zabr, ↓Zaag, ↓Zaah, ↓Zaaf, ↓Zabi, ↓Zabh, ↓Zabj, ↓Zabn, ↓Zabo, ↓Zacv, ↓Zacy, ↓Zabe, ↓Zabc, Zact, Zaae, Zabg, una_nt, sxCallVB_yield, Zacq, Zacp, List.map_cons, List.map_nil, ↓reduceIte, Nat.reduceEqDiff, Nat.reduceLT, dec_T, true_and, one1, Option.bind_some, *, ldIs, ldC, one1])
      exact ⟨k, hms, k, rfl, by omega, hJ6, rfl⟩
    · have hp : J 0 H6 ∨ X H6 := .inr hX
      clear hrd hstep hJ hR hs
      repeat' (first | simp only [↓Zaby, ↓Zabv, ↓Zabx, ↓Zaai, ↓Zabs, ↓Zabu, ↓Zabw, ↓Zacs, ↓Zacr, ↓Zacx, ↓Zaat, ↓Zaam, ↓Zaas, ↓Zaan, ↓Zaaw, ↓Zaar, ↓Zaax, ↓bxPut, ↓Zabq, ↓Zabp, ↓Zabr, ↓Zaag, ↓Zaah, ↓Zaaf, ↓Zabi, ↓Zabh, ↓Zabj, ↓Zabn, ↓Zabo, ↓Zacv, ↓Zacy, ↓Zabe, ↓Zabc, Zact, Zaae, Zabg, una_nf, sxCallVB_yield, Zacq, List.map_cons, List.map_nil, ↓reduceIte, Nat.reduceEqDiff, Nat.reduceLT, dec_T, or_true, one1, Option.bind_some, *, ldIs, ldC, one1])
end Go.Proofs.Ythkdnlegolphkaa
