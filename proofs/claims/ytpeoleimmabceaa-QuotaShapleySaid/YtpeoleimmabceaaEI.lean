/- A part as a fraction; two compared. What one gets of more. -/
import Derived.Test.YtpeoleimmabceaaEF
import Derived.Test.YtpeoleimmabceaaBK
set_option linter.unusedVariables false
set_option linter.unusedSimpArgs false
set_option linter.unusedSectionVars false

namespace Go.Proofs.Ytpeoleimmabceaa
open Go Go.AM
set_option maxRecDepth 10000

variable {S : AM.Sys} (hS : Only S 11)
include hS

theorem part_runs (v : Value) (w : List Int) (z : Int) (r : Nat) (i : Nat) (H : Heap) (hg : Grp H) (hL : H.low ≤ H.size) (hl : SlI .i64 H v w r 0) (hi : i < w.length) (hw : 0 ≤ w.getD i 0) (hz : 0 < z ∧ z ≤ 1000000) :
    QOut S 16 [.agg ⟨[v, .int .i64 z]⟩, .int .i64 (i : Int)] H (w.getD i 0) z := by
  suffices h : WCall Try.prog S (.fn 16) [.agg ⟨[v, .int .i64 z]⟩, .int .i64 (i : Int)] H (fun v H' => Keep H H' ∧ Grp H' ∧ QV H' v (w.getD i 0) z) by
    obtain ⟨v, H', hr, h1, h2, h3⟩ := h; exact ⟨H', v, h1, h2, h3, hr⟩
  obtain ⟨a, cp, rfl⟩ := hl.v0
  obtain ⟨H1, e1, k1, s1, rd2, rd0, rd1⟩ := Q.boxP H (.slice a w.length cp) (.int .i64 z)
  obtain ⟨H2, e2, k2, s2, -, -⟩ := box1 H1 [.bool false, .slice none 0 0, .bool false, .slice none 0 0] 38
  have ow2 : Own H2 H1.size 38 [.bool false, .slice none 0 0, .bool false, .slice none 0 0] := e2 ▸ Own.new H1 _ _
  have al2 : aAlloc Try.prog H1 38 = some (.pointer (some ⟨H1.size, 0, none⟩), H2) := by rw [alQ, e2]
  have K2 := k1.trans k2
  have L2 := K2.low hL
  have g2 := K2.grp hg
  have l2 := hl.keep K2
  have hix := SlI_ix l2 hi
  rw [Nat.zero_add] at hix
  have hrd := (l2.rdI hi).1
  rw [Nat.zero_add] at hrd
  have hrg := (l2.rdI hi).2
  have hmx : IntKind.i64.max = 9223372036854775807 := rfl
  have y0 := k2.read s1 rd0
  have y1 := k2.read s1 rd1
  have hob : QOut S 18 [.int .i64 (w.getD i 0), .int .i64 z] (H2.relow H2.size) (w.getD i 0) z := by
    obtain ⟨H', v', q1, q2, q3, q4⟩ := Frac_all hS (w.getD i 0) z (H2.relow H2.size) g2 (Nat.le_refl _) hw hz.1 (by omega) (by omega)
    exact ⟨H', v', q1, q2, q3, q4⟩
  obtain ⟨v9, Hm, Hn, Ho, fm, fn, ps, hld, hLn, hK9, hg9, hq9⟩ := endQ K2 k1.size L2 hg ow2 hob
  clear hob hl l2 hrg ow2 rd0 rd1 rd2 e2
  refine Zaav Try.func16 rfl (Nat.le_of_ble_eq_true rfl) (hS.no rfl _ _) ?_
  rw [Try.ntmps16, Try.results16]
  repeat' (first | simp only [↓sxC_draw, ↓Zabm, ↓Zabo, ↓Zabn, ↓Zacg, ↓Zacf, ↓Zaca, ↓Zaag, ↓Zaby, ↓Zabx, ↓Zabv, ↓Zabw, ↓sxD_same, ↓Zacl, ↓Zaaq, ↓Zaah, ↓bxOp_box, ↓Zaap, ↓Zaas, ↓Zaam, ↓Zaan, ↓Zaat, ↓Zaci, ↓bxPut, ↓Zabi, ↓Zabg, ↓Zacj, ↓bxRes_cell, ↓Zacm, ↓Zaaz, ↓Zaay, Zach, Zabq, Zabe, List.map_cons, List.map_nil, List.nil_append, List.append_nil, ↓reduceIte, Nat.reduceEqDiff, Nat.reduceLT, and_self, aLoad_relow, Nat.add_zero, one1, Option.bind_some, *, argF, List.getD_cons_zero, List.getD_cons_succ, Q.cells_agg, paG0, paG1, ldIs, ldI, one1] | (with_reducible first | refine Zabs (by assumption) (by decide +kernel) ?_ | refine Zabr (by decide +kernel) ?_ | refine Zabz (by decide +kernel) ?_ | refine Zabu ?_))
end Go.Proofs.Ytpeoleimmabceaa
