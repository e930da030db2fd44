/- The law RouteJourneys where the journeys have legs. -/
import Derived.Test.YtagnifngnpgilaaR8
set_option linter.unusedVariables false
set_option linter.unusedSimpArgs false
set_option linter.unusedSectionVars false

namespace Go.Proofs.Ytagnifngnpgilaa
open Go Go.AM
set_option maxRecDepth 10000
variable {S : AM.Sys} (hS : Only S 10)
include hS
set_option maxHeartbeats 16000000 in
theorem jour_leaf1 (n ch fr to at' x4 x6 : Int) (ls : List Lg) (a a0 a1 a4 : Option Addr) (c c0' c1 c4 r o r0 o0 r1 r4 : Nat) (js0 : List Int) (js1 js4 : List Nat) (bI : Bool) (v6 : Value) (H H1 H2 H3 H4 H5 H6 : Heap)
    (hO : ∀ H', S.O 10 [] H') (h80 : (ls.length : Int) ≤ 80) (h100 : ¬ 100 < (js0.length : Int))
    (hR1 : Runs Try.prog S (.fn 11) [.int .i64 n, .slice a ls.length c, .int .i64 ch, .int .i64 fr, .int .i64 to, .int .i64 at'] H (.tuple ⟨[.int .i64 x6, .slice a1 js1.length c1, .int .i64 0]⟩) H1)
    (hR2 : Runs Try.prog S (.fn 12) [.int .i64 n, .slice a ls.length c, .int .i64 ch, .int .i64 fr, .int .i64 to, .int .i64 at', .slice a0 js0.length c0'] H1 (.tuple ⟨[.bool bI, .int .i64 0]⟩) H2)
    (hR3 : Runs Try.prog S (.fn 12) [.int .i64 n, .slice a ls.length c, .int .i64 ch, .int .i64 fr, .int .i64 to, .int .i64 at', .slice a1 js1.length c1] H2 (.tuple ⟨[.bool true, .int .i64 0]⟩) H3)
    (hR4 : Runs Try.prog S (.fn 13) [.int .i64 n, .slice a ls.length c, .int .i64 ch, .int .i64 fr, .int .i64 to, .int .i64 x6] H3 (.tuple ⟨[.int .i64 x4, .slice a4 js4.length c4, .int .i64 0]⟩) H4)
    (hR5 : Runs Try.prog S (.fn 12) [.int .i64 n, .slice a ls.length c, .int .i64 ch, .int .i64 fr, .int .i64 to, .int .i64 x4, .slice a4 js4.length c4] H4 (.tuple ⟨[.bool true, .int .i64 0]⟩) H5)
    (hR6 : Runs Try.prog S (.fn 11) [.int .i64 n, .slice a ls.length c, .int .i64 ch, .int .i64 fr, .int .i64 to, .int .i64 x4] H5 (.tuple ⟨[.int .i64 x6, v6, .int .i64 0]⟩) H6)
    (hm1 : js1.length ≤ 10001) (hm4 : js4.length ≤ 10001)
    (sl3 : SlI .i64 H3 (.slice a1 (castL js1).length c1) (castL js1) r1 0) (sj3 : SlI .i64 H3 (.slice a0 js0.length c0') js0 r0 o0) (sG3 : SlG H3 (.slice a ls.length c) ls r o) (sl5 : SlI .i64 H5 (.slice a4 (castL js4).length c4) (castL js4) r4 0) (sG5 : SlG H5 (.slice a ls.length c) ls r o)
    (r0a : ¬ (10000 : Int) < x6) (r0b : ¬ x4 < at')
    (hq0 : bI = false ∨ (bI = true ∧ js0.length = 0) ∨ (bI = true ∧ 0 < js0.length ∧ ∃ q : Nat, q < ls.length ∧ js0.getD (js0.length - 1) 0 = (q : Int) ∧ ¬ (ls.getD q default).a < x6))
    (hq : 0 < js1.length ∧ 0 < js4.length ∧ ∃ q p q' : Nat, q < ls.length ∧ (castL js1).getD (js1.length - 1) 0 = (q : Int) ∧ (ls.getD q default).a = x6 ∧ p < ls.length ∧ q' < ls.length ∧ (castL js4).getD 0 0 = (p : Int) ∧ (castL js4).getD (js4.length - 1) 0 = (q' : Int) ∧ (ls.getD p default).d = x4 ∧ (ls.getD q' default).a ≤ x6) :
    WCall Try.prog S (.fn 3) [.int .i64 n, .slice a ls.length c, .int .i64 ch, .int .i64 fr, .int .i64 to, .int .i64 at', .slice a0 js0.length c0'] H (fun v H' => v = .bool true) := by
  have hk1 : ∀ (H' : Heap) (K : Value → Heap → Prop) (b : Blk K), sxCallB Try.prog S (.fn 10) [] H' K b = K (.bool true) H' := fun H' K b => known_bx (hO H')
  clear hO
  have f0 := (few_runs hS a ls.length c H).bx
  rw [decide_eq_true h80] at f0
  have g1 := hR1.bx
  have g2 := hR2.bx
  have g3 := hR3.bx
  have g4 := hR4.bx
  have g5 := hR5.bx
  have g6 := hR6.bx
  have hln1 : (castL js1).length = js1.length := castL_len js1
  have hln4 : (castL js4).length = js4.length := castL_len js4
  have dxx : decide (x6 = x6) = true := decide_eq_true rfl
  have hnb : ∀ k : Nat, 0 < k → k ≤ 20000 → IntKind.i64.wrap ((k : Int) - 1) = ((k - 1 : Nat) : Int) := fun k h1 h2 => by rw [IntWalk.i64_in _ (by omega)]; omega
  have ex0 : ∀ x y : Value, aExtract (.tuple ⟨[x, y]⟩) 0 = some x := fun x y => by kernel_rfl
  have ex1 : ∀ x y : Value, aExtract (.tuple ⟨[x, y]⟩) 1 = some y := fun x y => by kernel_rfl
  have ey0 : ∀ x y z : Value, aExtract (.tuple ⟨[x, y, z]⟩) 0 = some x := fun x y z => by kernel_rfl
  have ey1 : ∀ x y z : Value, aExtract (.tuple ⟨[x, y, z]⟩) 1 = some y := fun x y z => by kernel_rfl
  have ey2 : ∀ x y z : Value, aExtract (.tuple ⟨[x, y, z]⟩) 2 = some z := fun x y z => by kernel_rfl
  have c0 : ((0 : Nat) : Int) = 0 := rfl
  have l0_0 : decide ((0 : Int) = 0) = true := rfl
  have m0_0 : decide (¬ (0 : Int) = 0) = false := rfl
  have l0_10 : decide ((0 : Int) = 10) = false := rfl
  have m0_10 : decide (¬ (0 : Int) = 10) = true := rfl
  have l10_0 : decide ((10 : Int) = 0) = false := rfl
  have m10_0 : decide (¬ (10 : Int) = 0) = true := rfl
  have l10_10 : decide ((10 : Int) = 10) = true := rfl
  have m10_10 : decide (¬ (10 : Int) = 10) = false := rfl
  obtain ⟨h1, h4, q, p, q', hql, hqe, hqa, hpl, hql', hpe, hqe', hpd, hqa'⟩ := hq
  have h1n : (0 : Int) < ((js1.length : Nat) : Int) := by omega
  have hw1 := hnb js1.length h1 (by omega)
  have hob := SlI_at sl3 (k := js1.length - 1) (by omega)
  obtain ⟨hix1, hrd1⟩ := hob
  rw [hqe] at hrd1
  rw [hln1] at hix1
  have hob := SlG_at sG3 hql
  obtain ⟨y1, hiy1, _, _, _, _, hra1, _⟩ := hob
  rw [hqa] at hra1
  have dne : decide (¬ x6 = x6) = false := decide_eq_false fun h => h rfl
  have h4n : (0 : Int) < ((js4.length : Nat) : Int) := by omega
  have hw4 := hnb js4.length h4 (by omega)
  have hob := SlI_at sl5 (k := js4.length - 1) (by omega)
  obtain ⟨hix4, hrd4⟩ := hob
  rw [hqe'] at hrd4
  rw [hln4] at hix4
  have hob := SlI_at sl5 (k := 0) (by omega)
  obtain ⟨hix40, hrd40⟩ := hob
  rw [hpe] at hrd40
  rw [hln4] at hix40
  have hob := SlG_at sG5 hql'
  obtain ⟨y4, hiy4, _, _, _, _, hra4, _⟩ := hob
  have hob := SlG_at sG5 hpl
  obtain ⟨y5, hiy5, _, _, _, hra5, _, _⟩ := hob
  rw [hpd] at hra5
  have h4le : ¬ x6 < (ls.getD q' default).a := by omega
  have hix40 : Zaaa Try.prog 23 (.slice a4 js4.length c4) (.int .i64 0) = _ := hix40
  have dn4 : decide (¬ x4 = x4) = false := decide_eq_false fun h => h rfl
  clear hR1 hR2 hR3 hR4 hR5 hR6 h80
  rcases hq0 with hb | ⟨hb, h0⟩ | ⟨hb, h0, q0, hq0l, hq0e, hq0a⟩
  · subst hb
    clear sl3 sj3 sG3 sl5 sG5 hnb hln1 hln4 hm1 hm4
    refine Zaba Try.func3 rfl (Nat.le_of_ble_eq_true rfl) (hS.no rfl _ _) ?_
    rw [Try.ntmps3, Try.results3]
    repeat' (first | (with_reducible refine Zacr (fun h => ?_) (fun h => ?_)) | (with_reducible refine Zacp (fun h => ?_) (fun h => ?_)) | (with_reducible refine sxIfB_sp (fun h => ?_) (fun h => ?_)) | simp only [↓Zabz, ↓Zabw, ↓Zaby, ↓Zaai, ↓Zabx, ↓Zacw, ↓Zacv, ↓Zadb, ↓Zaaz, ↓Zaau, ↓Zaam, ↓Zaav, ↓Zaat, ↓Zaan, ↓Zaax, ↓Zaaq, ↓Zaar, ↓Zaap, ↓Zaay, ↓Zaas, ↓bxPut, ↓Zabr, ↓Zabs, ↓Zabp, ↓Zacz, ↓Zada, ↓Zadc, ↓Zabf, ↓Zabd, ↓Zabe, ↓dstAt, ↓Zabg, Zacx, Zaae, Zabh, una_nt, Zaad, Zaac, Zaca, Zacs, Zacq, Zaco, Zact, Zabl, List.map_cons, List.map_nil, List.nil_append, List.append_nil, ↓reduceIte, Nat.reduceEqDiff, Nat.reduceLT, dec_T, dec_F, Nat.add_zero, one1, Option.bind_some, not_true_eq_false, *, argF, List.getD_cons_zero, List.getD_cons_succ, lenIs, ldC, one1, faG2, faG3])
  · subst hb
    have h0n : ¬ (0 : Int) < ((js0.length : Nat) : Int) := by omega
    clear h0
    clear sl3 sj3 sG3 sl5 sG5 hnb hln1 hln4 hm1 hm4
    refine Zaba Try.func3 rfl (Nat.le_of_ble_eq_true rfl) (hS.no rfl _ _) ?_
    rw [Try.ntmps3, Try.results3]
    repeat' (first | (with_reducible refine Zacr (fun h => ?_) (fun h => ?_)) | (with_reducible refine Zacp (fun h => ?_) (fun h => ?_)) | (with_reducible refine sxIfB_sp (fun h => ?_) (fun h => ?_)) | simp only [↓Zabz, ↓Zabw, ↓Zaby, ↓Zaai, ↓Zabx, ↓Zacw, ↓Zacv, ↓Zadb, ↓Zaaz, ↓Zaau, ↓Zaam, ↓Zaav, ↓Zaat, ↓Zaan, ↓Zaax, ↓Zaaq, ↓Zaar, ↓Zaap, ↓Zaay, ↓Zaas, ↓bxPut, ↓Zabr, ↓Zabs, ↓Zabp, ↓Zacz, ↓Zada, ↓Zadc, ↓Zabf, ↓Zabd, ↓Zabe, ↓dstAt, ↓Zabg, Zacx, Zaae, Zabh, una_nt, Zaad, Zaac, Zaca, Zacs, Zacq, Zaco, Zact, Zabl, List.map_cons, List.map_nil, List.nil_append, List.append_nil, ↓reduceIte, Nat.reduceEqDiff, Nat.reduceLT, dec_T, dec_F, Nat.add_zero, one1, Option.bind_some, not_true_eq_false, *, argF, List.getD_cons_zero, List.getD_cons_succ, lenIs, ldC, one1, faG2, faG3])
  · subst hb
    have h0n : (0 : Int) < ((js0.length : Nat) : Int) := by omega
    have hw0 := hnb js0.length h0 (by omega)
    have hob := SlI_at sj3 (k := js0.length - 1) (by omega)
    obtain ⟨hix0, hrd0⟩ := hob
    rw [hq0e] at hrd0
    have hob := SlG_at sG3 hq0l
    obtain ⟨y0, hiy0, _, _, _, _, hra0, _⟩ := hob
    clear sl3 sj3 sG3 sl5 sG5 hnb hln1 hln4 hm1 hm4
    refine Zaba Try.func3 rfl (Nat.le_of_ble_eq_true rfl) (hS.no rfl _ _) ?_
    rw [Try.ntmps3, Try.results3]
    repeat' (first | (with_reducible refine Zacr (fun h => ?_) (fun h => ?_)) | (with_reducible refine Zacp (fun h => ?_) (fun h => ?_)) | (with_reducible refine sxIfB_sp (fun h => ?_) (fun h => ?_)) | simp only [↓Zabz, ↓Zabw, ↓Zaby, ↓Zaai, ↓Zabx, ↓Zacw, ↓Zacv, ↓Zadb, ↓Zaaz, ↓Zaau, ↓Zaam, ↓Zaav, ↓Zaat, ↓Zaan, ↓Zaax, ↓Zaaq, ↓Zaar, ↓Zaap, ↓Zaay, ↓Zaas, ↓bxPut, ↓Zabr, ↓Zabs, ↓Zabp, ↓Zacz, ↓Zada, ↓Zadc, ↓Zabf, ↓Zabd, ↓Zabe, ↓dstAt, ↓Zabg, Zacx, Zaae, Zabh, una_nt, Zaad, Zaac, Zaca, Zacs, Zaco, Zact, Zabl, List.map_cons, List.map_nil, List.nil_append, List.append_nil, ↓reduceIte, Nat.reduceEqDiff, Nat.reduceLT, dec_T, dec_F, Nat.add_zero, one1, Option.bind_some, not_true_eq_false, *, argF, List.getD_cons_zero, List.getD_cons_succ, lenIs, ldC, one1, faG2, faG3])
end Go.Proofs.Ytagnifngnpgilaa
