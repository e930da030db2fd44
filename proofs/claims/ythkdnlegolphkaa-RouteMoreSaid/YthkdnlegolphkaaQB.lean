/- The law RouteMore on the canonical machine. -/
import Derived.Test.YthkdnlegolphkaaQA
import Derived.Test.YthkdnlegolphkaaGj
set_option linter.unusedVariables false
set_option linter.unusedSimpArgs false
set_option linter.unusedSectionVars false

namespace Go.Proofs.Ythkdnlegolphkaa
open Go Go.AM
set_option maxRecDepth 10000

theorem elemOkG : ElemOk Try.prog #[22, 22] 32 legE.sz := ⟨⟨22, 22, _, Try.t32, .agg ⟨[.int .i64 0, .int .i64 0, .int .i64 0, .int .i64 0, .int .i64 0]⟩, rfl, rfl, Try.underlying22, Try.underlying22, rfl, by kernel_rfl, by kernel_rfl, by kernel_rfl, by kernel_rfl, of_decide_eq_true (by kernel_rfl)⟩, by show 0 < 5; decide⟩
theorem stableG (L : Nat) : Stable legE L := stable_map (stable_prod (stable_int _ _) (stable_prod (stable_int _ _) (stable_prod (stable_int _ _) (stable_prod (stable_int _ _) (stable_int _ _)))))
theorem bs0G (H : Heap) : aBuildSlice Try.prog H 22 0 [] = some (.slice (some ⟨H.size, 0, none⟩) 0 0, H.newExact [] 32) := by kernel_rfl
theorem bs1G (H : Heap) (x : Lg) : aBuildSlice Try.prog H 22 1 [(0, .agg ⟨lc x⟩)] = some (.slice (some ⟨H.size, 0, none⟩) 1 1, H.newExact (lc x) 32) := by kernel_rfl

variable {S : AM.Sys} (hS : Only S 10)
include hS

set_option maxHeartbeats 16000000 in
theorem lawMore_runs (n : Int) (ls : List Lg) (lv : Value) (r o : Nat) (ch fr to at' : Int) (m : Lg) (H : Heap) (hL : H.low ≤ H.size) (hg : Grp H) (hl : SlG H lv ls r o) (hp0 : Plain0 lv) (hch : R64 ch) (hat : R64 at') (hm : legE.At H m (lc m))
    (hO : ∀ H', S.O 10 [] H') : ∃ H', Runs Try.prog S (.fn 7) [.int .i64 n, lv, .int .i64 ch, .int .i64 fr, .int .i64 to, .int .i64 at', .agg ⟨lc m⟩] H (.bool true) H' := by
  suffices h : WCall Try.prog S (.fn 7) [.int .i64 n, lv, .int .i64 ch, .int .i64 fr, .int .i64 to, .int .i64 at', .agg ⟨lc m⟩] H (fun v H' => v = .bool true) by
    obtain ⟨_, H', hr, rfl⟩ := h; exact ⟨H', hr⟩
  have hk1 : ∀ (H' : Heap) (K : Value → Heap → Prop) (b : Blk K), sxCallB Try.prog S (.fn 10) [] H' K b = K (.bool true) H' := fun H' K b => known_bx (hO H')
  have hlv := hl.v0
  obtain ⟨a, c, rfl⟩ := hlv
  clear hO
  have hob := boxS H (lc m) 32
  obtain ⟨H1, bx1, hK1, hz1, rd1, _⟩ := hob
  have bx1 : H.newExact (Value.agg ⟨lc m⟩).cells.toList 32 = H1 := bx1
  have rd1 : H1.read H.size 0 5 = some (lc m) := rd1
  by_cases h60 : 60 ≤ (ls.length : Int)
  · clear hl hp0 hm
    refine Zaay Try.func7 rfl (Nat.le_of_ble_eq_true rfl) (hS.no rfl _ _) ?_
    rw [Try.ntmps7, Try.results7]
    repeat' (first | simp only [↓Zabx, ↓Zabs, ↓Zabu, ↓Zabw, ↓Zaai, ↓Zabv, ↓Zacr, ↓Zacq, ↓Zacl, ↓Zaak, ↓Zacg, ↓sxDL_assign, ↓sxDL_buildSlice, ↓Zacf, ↓sxDL_extract, ↓Zacw, ↓Zaax, ↓Zaas, ↓Zaam, ↓Zaat, ↓bxOp_box, ↓Zaao, ↓Zaar, ↓Zaan, ↓bxOp_extract, ↓Zaaw, ↓bxOp_len, ↓bxOp_append, ↓bxPut, ↓Zabp, ↓Zabq, ↓Zabn, ↓Zacu, ↓Zacv, ↓Zacx, ↓Zabd, ↓Zabb, ↓Zabc, ↓dstAt, ↓Zabe, Zacs, Zaae, Zabf, Zaby, Zacp, Zabj, List.map_nil, List.nil_append, List.append_nil, ↓reduceIte, Nat.reduceEqDiff, Nat.reduceLT, dec_T, *, argF, List.getD_cons_zero, List.getD_cons_succ, lenG] | (with_reducible first | refine Zaca (by assumption) (by decide +kernel) ?_ | refine Zabz (by decide +kernel) ?_ | refine Zacj (by decide +kernel) ?_ | refine Zacc ?_))
  have h60' : ls.length < 60 := by omega
  have ey0 : ∀ x y z : Value, aExtract (.tuple ⟨[x, y, z]⟩) 0 = some x := fun x y z => by kernel_rfl
  have ey1 : ∀ x y z : Value, aExtract (.tuple ⟨[x, y, z]⟩) 1 = some y := fun x y z => by kernel_rfl
  have ey2 : ∀ x y z : Value, aExtract (.tuple ⟨[x, y, z]⟩) 2 = some z := fun x y z => by kernel_rfl
  have hL1 := hK1.low hL
  have hg1 := hK1.grp hg
  have hob := Earl_runs hS n ls _ r o ch fr to at' hat H1 hL1 hg1 (hl.keep hK1)
  obtain ⟨u2, H2, hR2, x2, e2, j2, js2, rfl, hK2, _, _, p1, p2, p3⟩ := hob
  have hK02 := hK1.trans hK2
  have hL2 := hK02.low hL
  have hg2 := hK02.grp hg
  have hob := newD H2 hL2 [] 32
  obtain ⟨H3, H4, bs3, fd3, hK4, hz4, hL4, ho4⟩ := hob
  have bs3' : aBuildSlice Try.prog (H2.relow H2.size) 22 0 [] = some (.slice (some ⟨H2.size, 0, none⟩) 0 0, H3) := by rw [← bs3]; exact bs0G (H2.relow H2.size)
  have hK04 := hK02.trans hK4
  have hob := Own.put0D (P := Try.prog) (ts := #[22, 22]) (E := legE) (L := H2.size) elemOkG (stableG 0) (hK4.grp hg2) hL4 ho4 (Nat.le_refl _) hK4.size (hl.keep hK04) hp0 (by omega)
  obtain ⟨v5, H5, H6, ap5, fd5, l6, hK6, hL6⟩ := hob
  have hK06 := hK04.trans hK6
  have hg6 := hK06.grp hg
  have hob := l6.pushD (P := Try.prog) (ts := #[22, 22]) (t := 32) elemOkG (stableG 0) hg6 hL6 (hK4.trans hK6).size (legE.keep hK06 hm) rfl (by omega)
  obtain ⟨H7, H8, v9, H9, H10, bs7, fd7, hz8, hL8, ap9, rl9, l10, hk10, hg10, _, hL10⟩ := hob
  have bs7' : aBuildSlice Try.prog (H6.relow H6.size) 22 1 [(0, .agg ⟨lc m⟩)] = some (.slice (some ⟨H6.size, 0, none⟩) 1 1, H7) := by rw [← bs7]; exact bs1G (H6.relow H6.size) m
  have hK210 := hk10 H2 hg2 (hK4.trans hK6) (Nat.le_refl _)
  have hK010 := hK02.trans hK210
  have hml : (ls ++ [m]).length = ls.length + 1 := by simp
  have hmx : Go.maxLen = 9223372036854775807 := rfl
  have hs10 := l10.sl (by rw [hml]; omega)
  obtain ⟨r10, s10, _⟩ := hs10
  have hv10 := l10.isv
  obtain ⟨b10, hv10⟩ := hv10
  rw [hml] at hv10
  subst hv10
  have hob := Earl_runs hS n (ls ++ [m]) _ r10 0 ch fr to at' hat (H10.relow H10.size) (Nat.le_refl _) hg10 (s10.keep (Keep.relowS H10))
  obtain ⟨u11, H11, hR11, x11, e11, j11, js11, rfl, hK11, _, _, q1, q2, q3⟩ := hob
  have hob := drawn hL10 ⟨H11, hK11, hR11⟩
  obtain ⟨H12, H13, hK13, hL13, f12, fd12⟩ := hob
  have hK013 := hK010.trans hK13
  have hob := Earl_runs hS n ls _ r o (IntKind.i64.wrap (ch + 1)) fr to at' hat H13 hL13 (hK013.grp hg) (hl.keep hK013)
  obtain ⟨u14, H14, hR14, x14, e14, j14, js14, rfl, hK14, _, _, t1, t2, t3⟩ := hob
  have c1 := more_ok h60' p1 p2 p3 q1 q2 q3
  have c2 := slow_ok hch rfl p1 p2 p3 t1 t2 t3
  have f2 := hR2.bx
  have f14 := hR14.bx
  have rd6 := (hK2.trans (hK4.trans hK6)).read (by omega : H.size < H1.size) rd1
  clear p1 p2 p3 q1 q2 q3 t1 t2 t3 hR2 hR11 hR14 hl hp0 hm hK1 hK2 hK02 hK4 hK04 hK6 hK06 hK210 hK010 hK11 hK13 hK013 hK14 s10 l10 l6 ho4 bs3 bs7 hz8 hz4 hk10 rd1 hmx
  have z0 : decide ((0 : Int) = 0) = true := rfl
  have z1 : decide (¬ (0 : Int) = 0) = false := rfl
  have z2 : decide (¬ (0 : Int) = 2) = true := rfl
  have z3 : decide ((2 : Int) = 0) = false := rfl
  have z4 : decide (¬ (2 : Int) = 0) = true := rfl
  have z5 : decide (¬ (2 : Int) = 2) = false := rfl
  rcases c1 with k1 | ⟨k1, k2⟩ | ⟨k1, k2, k3⟩
  all_goals rcases c2 with m1 | ⟨m1, m2⟩ | ⟨m1, m2, m3⟩
  all_goals first | (exfalso; omega) | skip
  all_goals (try subst k1)
  all_goals (try subst k2)
  all_goals (try subst m1)
  all_goals (try subst m2)
  all_goals refine Zaay Try.func7 rfl (Nat.le_of_ble_eq_true rfl) (hS.no rfl _ _) ?_
  all_goals rw [Try.ntmps7, Try.results7]
  all_goals (repeat' (first | simp only [↓Zabx, ↓Zabs, ↓Zabu, ↓Zabw, ↓Zaai, ↓Zabv, ↓Zacr, ↓Zacq, ↓Zacl, ↓Zaak, ↓Zacg, ↓sxDL_assign, ↓sxDL_buildSlice, ↓Zacf, ↓sxDL_extract, ↓Zack, ↓Zacw, ↓Zaax, ↓Zaas, ↓Zaam, ↓Zaat, ↓bxOp_box, ↓Zaao, ↓Zaar, ↓Zaan, ↓bxOp_extract, ↓Zaaw, ↓bxOp_len, ↓bxOp_append, ↓bxPut, ↓Zabp, ↓Zabq, ↓Zabn, ↓Zacu, ↓Zacv, ↓Zacx, ↓Zabd, ↓Zabb, ↓Zabc, ↓dstAt, ↓Zabe, Zacs, Zaae, Zabf, Zaad, Zaac, Zaby, sxGuardB_u, Zacn, Zacm, sxGuardB_ff, Zaco, Zabj, List.map_cons, List.map_nil, List.nil_append, List.append_nil, ↓reduceIte, Nat.reduceEqDiff, Nat.reduceLT, dec_T, dec_F, Zaab, not_true_eq_false, Option.map_some, *, argF, List.getD_cons_zero, List.getD_cons_succ, lenG, ldG] | (with_reducible first | refine Zaca (by assumption) (by decide +kernel) ?_ | refine Zabz (by decide +kernel) ?_ | refine Zacj (by decide +kernel) ?_ | refine Zacc ?_)))
end Go.Proofs.Ythkdnlegolphkaa
