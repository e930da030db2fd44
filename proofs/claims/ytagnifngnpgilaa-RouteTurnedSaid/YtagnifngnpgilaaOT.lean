/- The law RouteTurned on the canonical machine. -/
import Derived.Test.YtagnifngnpgilaaOM
set_option linter.unusedVariables false
set_option linter.unusedSimpArgs false
set_option linter.unusedSectionVars false

namespace Go.Proofs.Ytagnifngnpgilaa
set_option linter.unusedSectionVars false
open Go Go.AM
set_option maxRecDepth 10000
set_option linter.unusedSimpArgs false
set_option linter.unusedVariables false

theorem elemOkG : ElemOk Try.prog #[22, 22] 32 legE.sz := ⟨⟨22, 22, _, Try.t32, .agg ⟨[.int .i64 0, .int .i64 0, .int .i64 0, .int .i64 0, .int .i64 0]⟩, rfl, rfl, Try.underlying22, Try.underlying22, rfl, by kernel_rfl, by kernel_rfl, by kernel_rfl, by kernel_rfl, of_decide_eq_true (by kernel_rfl)⟩, by show 0 < 5; decide⟩
theorem stableG (L : Nat) : Stable legE L := stable_map (stable_prod (stable_int _ _) (stable_prod (stable_int _ _) (stable_prod (stable_int _ _) (stable_prod (stable_int _ _) (stable_int _ _)))))
theorem legE_at {H : Heap} {x : Lg} (h1 : R64 x.f) (h2 : R64 x.t) (h3 : R64 x.d) (h4 : R64 x.a) (h5 : R64 x.l) : legE.At H x (lc x) := ⟨_, _, rfl, ⟨rfl, h1⟩, _, _, rfl, ⟨rfl, h2⟩, _, _, rfl, ⟨rfl, h3⟩, _, _, rfl, ⟨rfl, h4⟩, rfl, h5⟩
theorem bs1G (H : Heap) (x : Lg) : aBuildSlice Try.prog H 22 1 [(0, .agg ⟨lc x⟩)] = some (.slice (some ⟨H.size, 0, none⟩) 1 1, H.newExact (lc x) 32) := by kernel_rfl
theorem bdG (f t d a l : Int) : aBuild Try.prog 32 [(0, .int .i64 f), (1, .int .i64 t), (2, .int .i64 d), (3, .int .i64 a), (4, .int .i64 l)] = some (.agg ⟨[.int .i64 f, .int .i64 t, .int .i64 d, .int .i64 a, .int .i64 l]⟩) := by kernel_rfl
theorem newGt (H : Heap) (x : Lg) : ∃ H2, aStore Try.prog (H.newExact [.int .i64 0, .int .i64 0, .int .i64 0, .int .i64 0, .int .i64 0] 32) 32 (.pointer (some ⟨H.size, 0, none⟩)) (.agg ⟨lc x⟩) = some H2 ∧ Keep H H2 ∧
    H2.read H.size 0 1 = some [.int .i64 x.f] ∧ H2.read H.size 1 1 = some [.int .i64 x.t] ∧ H2.read H.size 2 1 = some [.int .i64 x.d] ∧ H2.read H.size 3 1 = some [.int .i64 x.a] ∧ H2.read H.size 4 1 = some [.int .i64 x.l] := by
  obtain ⟨H2, h1, h2, h3⟩ := newG H x
  have hs := fun j (hj : j + 1 ≤ 5) => read_sub h3 hj
  have hs' : ∀ j, j + 1 ≤ 5 → H2.read H.size j 1 = some (((lc x).drop j).take 1) := fun j hj => by have := hs j hj; rwa [Nat.zero_add] at this
  exact ⟨H2, h1, h2, hs' 0 (by omega), hs' 1 (by omega), hs' 2 (by omega), hs' 3 (by omega), hs' 4 (by omega)⟩
/-- The ranges of a leg that came in. -/
theorem SlG.rng {H : Heap} {v : Value} {w : List Lg} {r o : Nat} (h : SlG H v w r o) {k : Nat} (hk : k < w.length) : R64 (w.getD k default).f ∧ R64 (w.getD k default).t ∧ R64 (w.getD k default).d ∧ R64 (w.getD k default).a ∧ R64 (w.getD k default).l := by
  obtain ⟨es, _, h3⟩ := h.rd k hk
  exact (legE_inv h3).2

variable {S : AM.Sys} (hS : Only S 10)
include hS

set_option maxHeartbeats 16000000 in
/-- THE LAW, on the canonical machine. -/
theorem lawTurn_runs (n : Int) (ls : List Lg) (lv : Value) (r o : Nat) (ch fr to by' : Int) (H : Heap) (hL : H.low ≤ H.size) (hg : Grp H) (hl : SlG H lv ls r o) (hby : R64 by')
    (hO : ∀ H', S.O 10 [] H') : ∃ H', Runs Try.prog S (.fn 6) [.int .i64 n, lv, .int .i64 ch, .int .i64 fr, .int .i64 to, .int .i64 by'] H (.bool true) H' := by
  suffices h : WCall Try.prog S (.fn 6) [.int .i64 n, lv, .int .i64 ch, .int .i64 fr, .int .i64 to, .int .i64 by'] H (fun v H' => v = .bool true) by
    obtain ⟨_, H', hr, rfl⟩ := h; exact ⟨H', hr⟩
  have hk1 : ∀ (H' : Heap) (K : Value → Heap → Prop) (b : Blk K), sxCallB Try.prog S (.fn 10) [] H' K b = K (.bool true) H' := fun H' K b => known_bx (hO H')
  have hlv := hl.v0
  obtain ⟨a, c, rfl⟩ := hlv
  have f0 := (few_runs hS a ls.length c H).bx
  clear hO
  by_cases h80 : (ls.length : Int) ≤ 80
  case neg =>
    rw [decide_eq_false h80] at f0
    clear hl h80
    refine Zaaz Try.func6 rfl (Nat.le_of_ble_eq_true rfl) (hS.no rfl _ _) ?_
    rw [Try.ntmps6, Try.results6]
    repeat' (first | simp only [↓Zaby, ↓Zabv, ↓Zabx, ↓Zaai, ↓Zaaj, ↓Zabs, ↓Zabw, ↓Zacu, ↓Zact, ↓Zacz, ↓Zaay, ↓Zaat, ↓Zaam, ↓Zaau, ↓Zaan, ↓Zaaw, ↓Zaap, ↓Zaax, ↓bxOp_len, ↓bxPut, ↓Zabq, ↓Zabr, ↓Zabo, ↓Zacx, ↓Zacy, ↓Zada, ↓Zabe, ↓Zabc, ↓Zabd, ↓dstAt, ↓Zabf, Zacv, una_nf, Zabz, Zacs, Zabk, List.map_cons, List.map_nil, List.nil_append, List.append_nil, ↓reduceIte, Nat.reduceEqDiff, Nat.reduceLT, *, argF, List.getD_cons_zero, List.getD_cons_succ])
  rw [decide_eq_true h80] at f0
  have ex0 : ∀ x y z : Value, aExtract (.tuple ⟨[x, y, z]⟩) 0 = some x := fun x y z => by kernel_rfl
  have ex1 : ∀ x y z : Value, aExtract (.tuple ⟨[x, y, z]⟩) 1 = some y := fun x y z => by kernel_rfl
  have ex2 : ∀ x y z : Value, aExtract (.tuple ⟨[x, y, z]⟩) 2 = some z := fun x y z => by kernel_rfl
  refine Zaaz Try.func6 rfl (Nat.le_of_ble_eq_true rfl) (hS.no rfl _ _) ?_
  rw [Try.ntmps6, Try.results6]
  repeat' (first | simp only [↓Zaby, ↓Zabv, ↓Zabx, ↓Zaai, ↓Zaaj, ↓Zabs, ↓Zabw, ↓Zacu, ↓Zact, ↓Zacz, ↓Zaay, ↓Zaat, ↓Zaam, ↓Zaau, ↓Zaan, ↓Zaaw, ↓Zaap, ↓Zaax, ↓bxOp_len, ↓bxPut, ↓Zabq, ↓Zabr, ↓Zabo, ↓Zacx, ↓Zacy, ↓Zada, ↓Zabe, ↓Zabc, ↓Zabd, ↓dstAt, ↓Zabf, Zacv, una_nt, Zabz, Zacr, Zabk, List.map_cons, List.map_nil, List.nil_append, List.append_nil, ↓reduceIte, Nat.reduceEqDiff, Nat.reduceLT, *, argF, List.getD_cons_zero, List.getD_cons_succ])
  clear f0
  refine sxL_of (fun m ρ H5 => ∃ (k : Nat) (bv : Value), m = ls.length - k ∧ k ≤ ls.length ∧ Keep H H5 ∧ Grp H5 ∧ LstG legE 32 H.size H5 bv ((ls.take k).map turn) ∧ (∀ j, j < k → (0 ≤ (ls.getD j default).d ∧ (ls.getD j default).d ≤ 10000) ∧ (0 ≤ (ls.getD j default).a ∧ (ls.getD j default).a ≤ 10000)) ∧
      ρ 0 = .int .i64 n ∧ ρ 1 = .slice a ls.length c ∧ ρ 2 = .int .i64 ch ∧ ρ 3 = .int .i64 fr ∧ ρ 4 = .int .i64 to ∧ ρ 5 = .int .i64 by' ∧ ρ 13 = bv ∧ ρ 14 = .int .i64 (k : Int))
    ⟨0, .slice none 0 0, rfl, Nat.zero_le _, Keep.refl _, hg, LstG.nil, (fun j hj => absurd hj (Nat.not_lt_zero j)), rfl, rfl, rfl, rfl, rfl, rfl, rfl, rfl⟩ ?_
  rintro m ρ H5 ⟨k, bv, rfl, hk, hK5, hg5, hlst, hbd, e0, e1, e2, e3, e4, e5, e13, e14⟩
  by_cases hlt : k < ls.length
  · have hlt' : (k : Int) < (ls.length : Int) := by omega
    have hw := wrap_succ hlt hl.ml
    have hob := SlG_at (hl.keep hK5) hlt
    obtain ⟨q, hix, hrd, _⟩ := hob
    have hrg := hl.rng hlt
    obtain ⟨rg1, rg2, _, _, rg5⟩ := hrg
    have htk : (ls.take k).map turn ++ [turn (ls.getD k default)] = (ls.take (k + 1)).map turn := by
      rw [List.take_add_one, List.map_append, List.getD_eq_getElem?_getD, List.getElem?_eq_getElem hlt]
      rfl
    have hbs := fun h => (show ∀ j, j < k + 1 → (0 ≤ (ls.getD j default).d ∧ (ls.getD j default).d ≤ 10000) ∧ (0 ≤ (ls.getD j default).a ∧ (ls.getD j default).a ≤ 10000) from fun j hj => by
      rcases Nat.lt_or_ge j k with h1 | h1
      · exact hbd j h1
      · rw [show j = k by omega]; exact h)
    have hgx : ∃ x, x = ls.getD k default := ⟨_, rfl⟩
    obtain ⟨x, hx⟩ := hgx
    rw [← hx] at hrd rg1 rg2 rg5 htk hbs
    have hal := alG H5
    have hng := newGt H5 x
    obtain ⟨H6, s6, hK6, y0, y1, y2, y3, y4⟩ := hng
    have hK56 := hK5.trans hK6
    by_cases c1 : x.d < 0
    · clear hlst hbd hbs htk hl hx hK5 hK6 hK56
      repeat' (first | simp only [↓Zaby, ↓Zabv, ↓Zabx, ↓Zaai, ↓Zabs, ↓Zabu, ↓Zabw, ↓Zacu, ↓Zact, ↓Zacz, ↓Zaay, ↓Zaat, ↓Zaam, ↓Zaau, ↓Zaal, ↓bxOp_build, ↓Zaao, ↓Zaas, ↓Zaav, ↓Zaan, ↓Zaaq, ↓Zaar, ↓Zaax, ↓bxOp_len, ↓bxOp_append, ↓Zacw, ↓bxPut, ↓Zabq, ↓Zabp, ↓Zabr, ↓Zaag, ↓Zaah, ↓Zaaf, ↓Zabi, ↓Zabh, ↓Zabj, ↓Zabo, ↓Zacx, ↓Zacy, ↓Zada, ↓Zabe, ↓Zabc, ↓Zabd, ↓dstAt, ↓Zabf, Zacv, Zaae, Zabg, Zaad, Zabz, sxGuardB_ft, Zacs, Zabk, List.map_nil, List.nil_append, List.append_nil, ↓reduceIte, Nat.reduceEqDiff, Nat.reduceLT, dec_T, one1, Option.bind_some, Option.map_some, *, lenG, ldG, ldC, one1, faG2])
    by_cases c2 : 10000 < x.d
    · clear hlst hbd hbs htk hl hx hK5 hK6 hK56
      repeat' (first | simp only [↓Zaby, ↓Zabv, ↓Zabx, ↓Zaai, ↓Zabs, ↓Zabu, ↓Zabw, ↓Zacu, ↓Zact, ↓Zacz, ↓Zaay, ↓Zaat, ↓Zaam, ↓Zaau, ↓Zaal, ↓bxOp_build, ↓Zaao, ↓Zaas, ↓Zaav, ↓Zaan, ↓Zaaq, ↓Zaar, ↓Zaax, ↓bxOp_len, ↓bxOp_append, ↓Zacw, ↓bxPut, ↓Zabq, ↓Zabp, ↓Zabr, ↓Zaag, ↓Zaah, ↓Zaaf, ↓Zabi, ↓Zabh, ↓Zabj, ↓Zabo, ↓Zacx, ↓Zacy, ↓Zada, ↓Zabe, ↓Zabc, ↓Zabd, ↓dstAt, ↓Zabf, Zacv, Zaae, Zabg, Zaad, Zaac, Zabz, sxGuardB_ft, sxGuardB_ff, Zacs, Zabk, List.map_nil, List.nil_append, List.append_nil, ↓reduceIte, Nat.reduceEqDiff, Nat.reduceLT, dec_T, dec_F, one1, Option.bind_some, Option.map_some, *, lenG, ldG, ldC, one1, faG2])
    by_cases c3 : x.a < 0
    · clear hlst hbd hbs htk hl hx hK5 hK6 hK56
      repeat' (first | simp only [↓Zaby, ↓Zabv, ↓Zabx, ↓Zaai, ↓Zabs, ↓Zabu, ↓Zabw, ↓Zacu, ↓Zact, ↓Zacz, ↓Zaay, ↓Zaat, ↓Zaam, ↓Zaau, ↓Zaal, ↓bxOp_build, ↓Zaao, ↓Zaas, ↓Zaav, ↓Zaan, ↓Zaaq, ↓Zaar, ↓Zaax, ↓bxOp_len, ↓bxOp_append, ↓Zacw, ↓bxPut, ↓Zabq, ↓Zabp, ↓Zabr, ↓Zaag, ↓Zaah, ↓Zaaf, ↓Zabi, ↓Zabh, ↓Zabj, ↓Zabo, ↓Zacx, ↓Zacy, ↓Zada, ↓Zabe, ↓Zabc, ↓Zabd, ↓dstAt, ↓Zabf, Zacv, Zaae, Zabg, Zaad, Zaac, Zabz, sxGuardB_ft, sxGuardB_ff, Zacs, Zabk, List.map_nil, List.nil_append, List.append_nil, ↓reduceIte, Nat.reduceEqDiff, Nat.reduceLT, dec_T, dec_F, one1, Option.bind_some, Option.map_some, *, lenG, ldG, ldC, one1, faG2, faG3])
    by_cases c4 : 10000 < x.a
    · clear hlst hbd hbs htk hl hx hK5 hK6 hK56
      repeat' (first | simp only [↓Zaby, ↓Zabv, ↓Zabx, ↓Zaai, ↓Zabs, ↓Zabu, ↓Zabw, ↓Zacu, ↓Zact, ↓Zacz, ↓Zaay, ↓Zaat, ↓Zaam, ↓Zaau, ↓Zaal, ↓bxOp_build, ↓Zaao, ↓Zaas, ↓Zaav, ↓Zaan, ↓Zaaq, ↓Zaar, ↓Zaax, ↓bxOp_len, ↓bxOp_append, ↓Zacw, ↓bxPut, ↓Zabq, ↓Zabp, ↓Zabr, ↓Zaag, ↓Zaah, ↓Zaaf, ↓Zabi, ↓Zabh, ↓Zabj, ↓Zabo, ↓Zacx, ↓Zacy, ↓Zada, ↓Zabe, ↓Zabc, ↓Zabd, ↓dstAt, ↓Zabf, Zacv, Zaae, Zabg, Zaac, Zabz, sxGuardB_ff, Zacs, Zabk, List.map_nil, List.nil_append, List.append_nil, ↓reduceIte, Nat.reduceEqDiff, Nat.reduceLT, dec_T, dec_F, one1, Option.bind_some, Option.map_some, *, lenG, ldG, ldC, one1, faG2, faG3])
    have hbs := hbs ⟨⟨by omega, by omega⟩, by omega, by omega⟩
    have hg6 := hK6.grp hg5
    have hpu := (hlst.keep hK6).push (t := 32) elemOkG (stableG 0) hg6 hK56.size (x := turn x) (es := lc (turn x)) (legE_at rg2 rg1 ⟨by show _ ≤ 10000 - x.a; omega, by show 10000 - x.a ≤ _; omega⟩ ⟨by show _ ≤ 10000 - x.d; omega, by show 10000 - x.d ≤ _; omega⟩ rg5) rfl (by rw [List.length_map, List.length_take]; omega)
    obtain ⟨v8, H8, ap8, hl8, gr8⟩ := hpu
    rw [htk] at hl8
    have bs8 := bs1G H6 (turn x)
    have bd8 := bdG x.t x.f (10000 - x.a) (10000 - x.d) x.l
    have wa : IntKind.i64.wrap (10000 - x.a) = 10000 - x.a := IntWalk.i64_in _ (by omega)
    have wd : IntKind.i64.wrap (10000 - x.d) = 10000 - x.d := IntWalk.i64_in _ (by omega)
    have hK58 := gr8.base H hg hK56 (Nat.le_refl _)
    have hg8 := gr8.grp hg6
    have bs8 : aBuildSlice Try.prog H6 22 1 [(0, .agg ⟨[.int .i64 x.t, .int .i64 x.f, .int .i64 (10000 - x.a), .int .i64 (10000 - x.d), .int .i64 x.l]⟩)] = _ := bs8
    clear hlst hbd htk hl hx hK5 hK6 hK56 gr8
    repeat' (first | simp only [↓Zaby, ↓Zabv, ↓Zabx, ↓Zaai, ↓Zabs, ↓Zabu, ↓Zabw, ↓Zacu, ↓Zact, ↓Zacz, ↓Zaay, ↓Zaat, ↓Zaam, ↓Zaau, ↓Zaal, ↓bxOp_build, ↓Zaao, ↓Zaas, ↓Zaav, ↓Zaan, ↓Zaaq, ↓Zaar, ↓Zaax, ↓bxOp_len, ↓bxOp_append, ↓Zacw, ↓bxPut, ↓Zabq, ↓Zabp, ↓Zabr, ↓Zaag, ↓Zaah, ↓Zaaf, ↓Zabi, ↓Zabh, ↓Zabj, ↓Zabo, ↓Zacx, ↓Zacy, ↓Zada, ↓Zabe, ↓Zabc, ↓Zabd, ↓dstAt, ↓Zabf, Zacv, Zaae, Zabg, Zaac, Zabz, sxGuardB_ff, Zacs, Zacr, Zabk, List.map_cons, List.map_nil, List.nil_append, ↓reduceIte, Nat.reduceEqDiff, Nat.reduceLT, dec_T, dec_F, true_and, Nat.add_zero, one1, Option.bind_some, Option.map_some, *, lenG, ldG, ldC, one1, faG0, faG1, faG2, faG3, faG4])
    exact ⟨ls.length - (k + 1), by omega, k + 1, v8, rfl, by omega, hl8, hbs, rfl, rfl⟩
  have hke : k = ls.length := by omega
  subst hke
  have hlt' : ¬ (((ls.length : Nat) : Int) < ((ls.length : Nat) : Int)) := by omega
  rw [List.take_length] at hlst
  by_cases b1 : by' < 0
  · clear hlst hbd hl hK5
    repeat' (first | simp only [↓Zaby, ↓Zabv, ↓Zabx, ↓Zaai, ↓Zabs, ↓Zabu, ↓Zabw, ↓Zacu, ↓Zact, ↓Zacz, ↓Zaay, ↓Zaat, ↓Zaam, ↓Zaau, ↓Zaal, ↓bxOp_build, ↓Zaao, ↓Zaas, ↓Zaav, ↓Zaan, ↓Zaaq, ↓Zaar, ↓Zaax, ↓bxOp_len, ↓bxOp_append, ↓Zacw, ↓bxPut, ↓Zabq, ↓Zabp, ↓Zabr, ↓Zaag, ↓Zaah, ↓Zaaf, ↓Zabi, ↓Zabh, ↓Zabj, ↓Zabo, ↓Zacx, ↓Zacy, ↓Zada, ↓Zabe, ↓Zabc, ↓Zabd, ↓dstAt, ↓Zabf, Zacv, Zaae, Zabg, Zaad, Zabz, sxGuardB_ft, Zacs, Zacr, Zabk, List.map_nil, List.nil_append, List.append_nil, ↓reduceIte, Nat.reduceEqDiff, Nat.reduceLT, dec_T, dec_F, *, lenG])
  by_cases b2 : 10000 < by'
  · clear hlst hbd hl hK5
    repeat' (first | simp only [↓Zaby, ↓Zabv, ↓Zabx, ↓Zaai, ↓Zabs, ↓Zabu, ↓Zabw, ↓Zacu, ↓Zact, ↓Zacz, ↓Zaay, ↓Zaat, ↓Zaam, ↓Zaau, ↓Zaal, ↓bxOp_build, ↓Zaao, ↓Zaas, ↓Zaav, ↓Zaan, ↓Zaaq, ↓Zaar, ↓Zaax, ↓bxOp_len, ↓bxOp_append, ↓Zacw, ↓bxPut, ↓Zabq, ↓Zabp, ↓Zabr, ↓Zaag, ↓Zaah, ↓Zaaf, ↓Zabi, ↓Zabh, ↓Zabj, ↓Zabo, ↓Zacx, ↓Zacy, ↓Zada, ↓Zabe, ↓Zabc, ↓Zabd, ↓dstAt, ↓Zabf, Zacv, Zaae, Zabg, Zaac, Zabz, sxGuardB_ff, Zacs, Zacr, Zabk, List.map_nil, List.nil_append, List.append_nil, ↓reduceIte, Nat.reduceEqDiff, Nat.reduceLT, dec_T, dec_F, *, lenG])
  have hml : (ls.map turn).length = ls.length := by simp
  have hs5 := hlst.sl (by rw [hml]; exact hl.ml)
  obtain ⟨r5, s5, _⟩ := hs5
  have hL5 := hK5.low hL
  have hob := Late_runs hS n ls _ r o ch fr to by' hby H5 hL5 hg5 (hl.keep hK5)
  obtain ⟨u6, H6, hR6, x6, e6, j6, js6, rfl, hK6, hn6, hl6, p1, p2, p3⟩ := hob
  have hob := Earl_runs hS n (ls.map turn) _ r5 0 ch to fr (10000 - by') ⟨by omega, by omega⟩ H6 (hK6.low hL5) (hK6.grp hg5) (s5.keep hK6)
  obtain ⟨u7, H7, hR7, x7, e7, j7, js7, rfl, hK7, hn7, hl7, t1, t2, t3⟩ := hob
  have hec := errC_turn (n := n) (ls := ls) (ch := ch) (fr := fr) (to := to) (by' := by') (all_of hbd) ⟨by omega, by omega⟩
  rw [hec] at t1 t2 t3
  have g6 := hR6.bx
  have g7 := hR7.bx
  have wb : IntKind.i64.wrap (10000 - by') = 10000 - by' := IntWalk.i64_in _ (by omega)
  have hge : ∃ e, e = errC n ls ch fr to [by'] := ⟨_, rfl⟩
  obtain ⟨e0, he0⟩ := hge
  rw [← he0] at p1 p2 p3 t1 t2 t3
  -- both answers, side by side
  have hall : e6 = e7 ∧ (e6 = 0 → x6 = 10000 - x7 ∧ js6.length = js7.length ∧ js6.length ≤ 20000) ∧ (e6 = 0 → 0 ≤ x7 ∧ x7 ≤ 10000) ∧ (js6.length = 0 ∨ JL H5.size H6 j6 js6) ∧ (js7.length = 0 ∨ JL H6.size H7 j7 js7) := by
    have k1 : js6.length = 0 ∨ JL H5.size H6 j6 js6 := by
      by_cases h : js6 = []
      · exact .inl (by rw [h]; rfl)
      · exact .inr (hl6 h)
    have k2 : js7.length = 0 ∨ JL H6.size H7 j7 js7 := by
      by_cases h : js7 = []
      · exact .inl (by rw [h]; rfl)
      · exact .inr (hl7 h)
    by_cases hz : e0 = 0
    · have hz0 := errC_zero (he0.symm.trans hz)
      obtain ⟨q1, q2, q3, _⟩ := hz0
      have hlk := LOk.of q2 q3
      by_cases hft : fr = to
      · have h1 := p2 hz hft
        have h2 := t2 hz hft.symm
        exact ⟨by omega, fun _ => ⟨by omega, by rw [h1.2.2, h2.2.2], by rw [h1.2.2]; exact Nat.zero_le _⟩, fun _ => by omega, k1, k2⟩
      · have h1 := late_turned (Tur.map ls) (p3 hz hft) (t3 hz (Ne.symm hft))
        refine ⟨h1.1, fun h => ⟨(h1.2 h).1, (h1.2 h).2, ?_⟩, fun h => ?_, k1, k2⟩
        · rcases p3 hz hft with ⟨hh, _⟩ | ⟨_, i, rr, hj, hs, _, _⟩
          · omega
          · rw [hj]; have := hs.is.len hlk; simp; omega
        · rcases p3 hz hft with ⟨hh, _⟩ | ⟨_, i, rr, hj, hs, hd, _⟩
          · omega
          · have := hlk.leg i hs.is.lt
            have := (h1.2 h).1
            omega
    · have h1 := p1 hz
      have h2 := t1 hz
      exact ⟨by omega, fun h => by omega, fun h => by omega, k1, k2⟩
  obtain ⟨hee, hx, hr7, hv6, hv7⟩ := hall
  have jv : ∀ {L : Nat} {X : Heap} {v : Value} {js : List Nat}, (js = [] → v = .slice none 0 0) → (js.length = 0 ∨ JL L X v js) → ∃ a c, v = .slice a js.length c := fun {L X v js} h1 h2 => by
    rcases h2 with h2 | ⟨i, r, rfl, _, rfl, _⟩ | ⟨_, h3⟩
    · have h3 : js = [] := List.length_eq_zero_iff.1 h2
      subst h3
      exact ⟨none, 0, h1 rfl⟩
    · exact ⟨_, _, rfl⟩
    · obtain ⟨a, h4⟩ := h3.isv
      rw [castL_len] at h4
      exact ⟨a, _, h4⟩
  have hob := jv hn6 hv6
  obtain ⟨a6, c6, rfl⟩ := hob
  have hob := jv hn7 hv7
  obtain ⟨a7, c7, rfl⟩ := hob
  subst hee
  have dee : decide (e6 = e6) = true := decide_eq_true rfl
  have hv7' : ∃ b7, bv = .slice b7 ls.length ls.length := by
    have := hlst.isv
    rw [hml] at this
    exact this
  obtain ⟨b7, hbv⟩ := hv7'
  rw [hbv] at e13
  rw [hbv] at g7
  clear hlst hbd hl hK5 hK6 hK7 p1 p2 p3 t1 t2 t3 hn6 hl6 hn7 hl7 hv6 hv7 jv hec he0 s5 hR6 hR7 hml h80 hbv
  by_cases hz6 : e6 = 0
  · have hh := hx hz6
    obtain ⟨h1, h2, _⟩ := hh
    have h3 := hr7 hz6
    subst hz6
    have w7 : IntKind.i64.wrap (10000 - x7) = x6 := by rw [IntWalk.i64_in _ (by omega)]; omega
    have dn : decide (¬ (0 : Int) = 0) = false := rfl
    have dx : decide (x6 = x6) = true := decide_eq_true rfl
    rw [← h2] at g7
    have dl : decide (((js6.length : Nat) : Int) = ((js6.length : Nat) : Int)) = true := decide_eq_true rfl
    clear hx hr7 h1 h2
    repeat' (first | simp only [↓Zaby, ↓Zabv, ↓Zabx, ↓Zaai, ↓Zabs, ↓Zabu, ↓Zabw, ↓Zacu, ↓Zact, ↓Zacz, ↓Zaay, ↓Zaat, ↓Zaam, ↓Zaau, ↓Zaal, ↓bxOp_build, ↓Zaao, ↓Zaas, ↓Zaav, ↓Zaan, ↓Zaaq, ↓Zaar, ↓Zaax, ↓bxOp_len, ↓bxOp_append, ↓Zacw, ↓bxPut, ↓Zabq, ↓Zabp, ↓Zabr, ↓Zaag, ↓Zaah, ↓Zaaf, ↓Zabi, ↓Zabh, ↓Zabj, ↓Zabo, ↓Zacx, ↓Zacy, ↓Zada, ↓Zabe, ↓Zabc, ↓Zabd, ↓dstAt, ↓Zabf, Zacv, Zaae, Zabg, Zaad, Zaac, Zabz, Zacq, sxGuardB_ff, Zacr, Zabk, List.map_cons, List.map_nil, List.nil_append, List.append_nil, ↓reduceIte, Nat.reduceEqDiff, Nat.reduceLT, dec_T, dec_F, not_true_eq_false, *, lenG, lenIs])
  · have dn : decide (¬ e6 = 0) = true := decide_eq_true hz6
    clear hx hr7
    repeat' (first | simp only [↓Zaby, ↓Zabv, ↓Zabx, ↓Zaai, ↓Zabs, ↓Zabu, ↓Zabw, ↓Zacu, ↓Zact, ↓Zacz, ↓Zaay, ↓Zaat, ↓Zaam, ↓Zaau, ↓Zaal, ↓bxOp_build, ↓Zaao, ↓Zaas, ↓Zaav, ↓Zaan, ↓Zaaq, ↓Zaar, ↓Zaax, ↓bxOp_len, ↓bxOp_append, ↓Zacw, ↓bxPut, ↓Zabq, ↓Zabp, ↓Zabr, ↓Zaag, ↓Zaah, ↓Zaaf, ↓Zabi, ↓Zabh, ↓Zabj, ↓Zabo, ↓Zacx, ↓Zacy, ↓Zada, ↓Zabe, ↓Zabc, ↓Zabd, ↓dstAt, ↓Zabf, Zacv, Zaae, Zabg, Zaad, Zaac, Zabz, sxGuardB_u, Zacq, sxGuardB_ft, sxGuardB_ff, Zacr, Zabk, List.map_cons, List.map_nil, List.nil_append, List.append_nil, ↓reduceIte, Nat.reduceEqDiff, Nat.reduceLT, dec_T, dec_F, not_false_eq_true, *, lenG])
end Go.Proofs.Ytagnifngnpgilaa
