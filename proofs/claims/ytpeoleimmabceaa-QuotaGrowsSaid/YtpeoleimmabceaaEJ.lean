/- The law QuotaGrows on the canonical machine. -/
import Derived.Test.YtpeoleimmabceaaEI
set_option linter.unusedVariables false
set_option linter.unusedSimpArgs false
set_option linter.unusedSectionVars false

namespace Go.Proofs.Ytpeoleimmabceaa
open Go Go.AM
set_option maxRecDepth 10000

theorem boxShare {H H1 : Heap} {rule e : Int} {c : List Int} {u : Value} (h : PostSh RunR H rule e c u H1) :
    ∃ a n cp z f H2 H3, u = .tuple ⟨[.agg ⟨[.slice a n cp, .int .i64 z]⟩, .int .i64 f]⟩ ∧ aAlloc Try.prog H1 26 = some (.pointer (some ⟨H1.size, 0, none⟩), H2) ∧ aStore Try.prog H2 26 (.pointer (some ⟨H1.size, 0, none⟩)) (.agg ⟨[.slice a n cp, .int .i64 z]⟩) = some H3 ∧
      Keep H H3 ∧ H1.size < H3.size ∧ Own H3 H1.size 26 [.slice a n cp, .int .i64 z] ∧ (¬ (Q.Prob e c ∧ isRule rule) → f = 2 ∧ n = 0 ∧ z = 0) ∧
      (Q.Prob e c ∧ isRule rule → f = 0 ∧ ∃ w r', n = c.length ∧ w.length = c.length ∧ Q.Shr e c w z ∧ Awd RunR rule e c w z ∧ SlI .i64 H3 (.slice a n cp) w r' 0) := by
  obtain ⟨a, n, cp, z, f, rfl, k1, hbad, hgood⟩ := h
  obtain ⟨H2, e2, k2, s2, -, -⟩ := box1 H1 [.slice none 0 0, .int .i64 0] 26
  have ow2 : Own H2 H1.size 26 [.slice none 0 0, .int .i64 0] := e2 ▸ Own.new H1 _ _
  have al2 : aAlloc Try.prog H1 26 = some (.pointer (some ⟨H1.size, 0, none⟩), H2) := by rw [alP, e2]
  obtain ⟨H3, st3, o3, z3, x3, k13⟩ := stPX ow2 rfl a n cp z k2 (Nat.le_refl _)
  refine ⟨a, n, cp, z, f, H2, H3, rfl, al2, st3, k1.trans k13, by omega, o3, hbad, fun hp => ?_⟩
  obtain ⟨rfl, w, rfl, hsh, haw, v', r', hv', sv, hr'⟩ := hgood hp
  cases hv'
  exact ⟨rfl, w, r', hsh.1, hsh.1, hsh, haw, sv.keep k13⟩

variable {S : AM.Sys} (hS : Only S 11)
include hS

set_option maxHeartbeats 8000000 in
theorem lawGrows_runs (rule e more : Int) (v : Value) (c : List Int) (r o : Nat) (H : Heap) (hg : Grp H) (hL : H.low ≤ H.size) (hl : SlI .i64 H v c r o)
    (hO : ∀ H', S.O 11 [] H') : ∃ H', Runs Try.prog S (.fn 4) [.int .i64 rule, .int .i64 e, .int .i64 more, v] H (.bool true) H' := by
  suffices h : WCall Try.prog S (.fn 4) [.int .i64 rule, .int .i64 e, .int .i64 more, v] H (fun v H' => v = .bool true) by
    obtain ⟨_, H', hr, rfl⟩ := h; exact ⟨H', hr⟩
  have hk1 : ∀ (H' : Heap) (K : Value → Heap → Prop) (b : Blk K), sxCallB Try.prog S (.fn 11) [] H' K b = K (.bool true) H' := fun H' K b => known_bx (hO H')
  clear hO
  have hml := hl.ml
  have hlv := hl.v0
  obtain ⟨va, vc, rfl⟩ := hlv
  have f0 := (few_runs hS va c.length vc H).bx
  by_cases h40 : (c.length : Int) ≤ 40
  case neg =>
    rw [decide_eq_false h40] at f0
    clear hl h40
    refine Zaar Try.func4 rfl (Nat.le_of_ble_eq_true rfl) (hS.no rfl _ _) ?_
    rw [Try.ntmps4, Try.results4]
    repeat' (first | simp only [↓Zabk, ↓Zabh, ↓Zabj, ↓Zaad, ↓bxC_loop, ↓Zabf, ↓Zabi, ↓Zabw, ↓Zabv, ↓Zacb, ↓Zaaq, ↓Zaan, ↓Zaag, ↓bxOp_pick, ↓Zaaf, ↓Zaam, ↓Zaao, ↓Zaah, ↓bxOp_un, ↓bxOp_extract, ↓Zaap, ↓Zaal, ↓Zaby, ↓bxPut, ↓Zabd, ↓Zabe, ↓Zabb, ↓Zabz, ↓Zaca, ↓Zacc, ↓Zaav, ↓Zaat, ↓Zaau, ↓dstAt, ↓gval_some, Zabx, una_nf, aPick_true, Zabl, sxGuardB_ft, sxIfB_t, Zaaz, List.map_cons, List.map_nil, List.nil_append, List.append_nil, ↓reduceIte, Nat.reduceEqDiff, Nat.reduceLT, *, argF, List.getD_cons_zero, List.getD_cons_succ])
  rw [decide_eq_true h40] at f0
  by_cases hme : more < e
  · clear hl h40
    refine Zaar Try.func4 rfl (Nat.le_of_ble_eq_true rfl) (hS.no rfl _ _) ?_
    rw [Try.ntmps4, Try.results4]
    repeat' (first | simp only [↓Zabk, ↓Zabh, ↓Zabj, ↓Zaad, ↓bxC_loop, ↓Zabf, ↓Zabi, ↓Zabw, ↓Zabv, ↓Zacb, ↓Zaaq, ↓Zaan, ↓Zaag, ↓bxOp_pick, ↓Zaaf, ↓Zaam, ↓Zaao, ↓Zaah, ↓bxOp_un, ↓bxOp_extract, ↓Zaap, ↓Zaal, ↓Zaby, ↓bxPut, ↓Zabd, ↓Zabe, ↓Zabb, ↓Zabz, ↓Zaca, ↓Zacc, ↓Zaav, ↓Zaat, ↓Zaau, ↓dstAt, ↓gval_some, Zabx, Zaaa, Zaaw, una_nt, aPick_false, Zabl, sxGuardB_ff, sxIfB_t, Zaaz, List.map_cons, List.map_nil, List.nil_append, List.append_nil, ↓reduceIte, Nat.reduceEqDiff, Nat.reduceLT, dec_T, *, argF, List.getD_cons_zero, List.getD_cons_succ])
  have ex0 : ∀ x y : Value, aExtract (.tuple ⟨[x, y]⟩) 0 = some x := fun x y => by kernel_rfl
  have ex1 : ∀ x y : Value, aExtract (.tuple ⟨[x, y]⟩) 1 = some y := fun x y => by kernel_rfl
  have hob := ShareR_runs hS rule e _ c r o H hg hL hl
  obtain ⟨u1, H1, hR1, hps1⟩ := hob
  have hob := boxShare hps1
  obtain ⟨a, n, cp, z, f, H2, H3, rfl, al2, st3, K3, s3, o3, hbad, hgood⟩ := hob
  have hob := ShareR_runs hS rule more _ c r o H3 (K3.grp hg) (K3.low hL) (hl.keep K3)
  obtain ⟨u4, H4, hR4, hps4⟩ := hob
  have hob := boxShare hps4
  obtain ⟨a', n', cp', z', f', H5, H6, rfl, al5, st6, K36, s6, o6, hbad', hgood'⟩ := hob
  have f1 := hR1.bx
  have f4 := hR4.bx
  have K6 := K3.trans K36
  have o36 := o3.keep K36
  have hob := ownP o36
  obtain ⟨y0, y1, y2⟩ := hob
  have hob := ownP o6
  obtain ⟨y3, y4, y5⟩ := hob
  have z0 : decide ((0 : Int) = 0) = true := rfl
  have z1 : decide (¬ (0 : Int) = 0) = false := rfl
  have z2 : decide ((2 : Int) = 2) = true := rfl
  have z3' : decide (¬ (2 : Int) = 0) = true := rfl
  have z4 : decide ((2 : Int) = 0) = false := rfl
  by_cases hp : Q.Prob e c ∧ isRule rule
  case neg =>
    have hb := hbad hp
    obtain ⟨rfl, rfl, rfl⟩ := hb
    have hff : f' = 0 ∨ f' = 2 := by
      by_cases hp' : Q.Prob more c ∧ isRule rule
      · exact .inl (hgood' hp').1
      · exact .inr (hbad' hp').1
    clear hl h40 hbad hgood hR1 hR4 hps1 hps4 K3 K36 K6 hp o3 o6 o36 hbad' hgood' hg s3 s6
    rcases hff with rfl | rfl
    · refine Zaar Try.func4 rfl (Nat.le_of_ble_eq_true rfl) (hS.no rfl _ _) ?_
      rw [Try.ntmps4, Try.results4]
      repeat' (first | simp only [↓Zabk, ↓Zabh, ↓Zabj, ↓Zaad, ↓bxC_loop, ↓Zabf, ↓Zabi, ↓Zabw, ↓Zabv, ↓Zacb, ↓Zaaq, ↓Zaan, ↓Zaag, ↓bxOp_pick, ↓Zaaf, ↓Zaam, ↓Zaao, ↓Zaah, ↓bxOp_un, ↓bxOp_extract, ↓Zaap, ↓Zaal, ↓Zaby, ↓bxPut, ↓Zabd, ↓Zabe, ↓Zabb, ↓Zabz, ↓Zaca, ↓Zacc, ↓Zaav, ↓Zaat, ↓Zaau, ↓dstAt, ↓gval_some, Zabx, Zaaa, Zaaw, una_nt, aPick_true, aPick_false, Zabl, sxGuardB_tt, sxGuardB_ft, sxGuardB_ff, sxIfB_t, Zabu, Zaaz, List.map_cons, List.map_nil, List.nil_append, List.append_nil, ↓reduceIte, Nat.reduceEqDiff, Nat.reduceLT, dec_T, dec_F, *, argF, List.getD_cons_zero, List.getD_cons_succ])
    · refine Zaar Try.func4 rfl (Nat.le_of_ble_eq_true rfl) (hS.no rfl _ _) ?_
      rw [Try.ntmps4, Try.results4]
      repeat' (first | simp only [↓Zabk, ↓Zabh, ↓Zabj, ↓Zaad, ↓bxC_loop, ↓Zabf, ↓Zabi, ↓Zabw, ↓Zabv, ↓Zacb, ↓Zaaq, ↓Zaan, ↓Zaag, ↓bxOp_pick, ↓Zaaf, ↓Zaam, ↓Zaao, ↓Zaah, ↓bxOp_un, ↓bxOp_extract, ↓Zaap, ↓Zaal, ↓Zaby, ↓bxPut, ↓Zabd, ↓Zabe, ↓Zabb, ↓Zabz, ↓Zaca, ↓Zacc, ↓Zaav, ↓Zaat, ↓Zaau, ↓dstAt, ↓gval_some, Zabx, Zaaa, Zaaw, una_nt, aPick_true, aPick_false, Zabl, sxGuardB_tt, sxGuardB_ft, sxGuardB_ff, sxIfB_t, Zabu, Zaaz, List.map_cons, List.map_nil, List.nil_append, List.append_nil, ↓reduceIte, Nat.reduceEqDiff, Nat.reduceLT, dec_T, dec_F, *, argF, List.getD_cons_zero, List.getD_cons_succ])
  have hgd := hgood hp
  obtain ⟨rfl, w, r', rfl, hwl, hsh, haw, sv⟩ := hgd
  by_cases hp' : Q.Prob more c ∧ isRule rule
  case neg =>
    have hb := hbad' hp'
    obtain ⟨rfl, rfl, rfl⟩ := hb
    clear hl h40 hbad hgood hR1 hR4 hps1 hps4 K3 K36 K6 hp o3 o6 o36 hbad' hgood' hg s3 s6 sv haw hsh hp' hwl
    refine Zaar Try.func4 rfl (Nat.le_of_ble_eq_true rfl) (hS.no rfl _ _) ?_
    rw [Try.ntmps4, Try.results4]
    repeat' (first | simp only [↓Zabk, ↓Zabh, ↓Zabj, ↓Zaad, ↓bxC_loop, ↓Zabf, ↓Zabi, ↓Zabw, ↓Zabv, ↓Zacb, ↓Zaaq, ↓Zaan, ↓Zaag, ↓bxOp_pick, ↓Zaaf, ↓Zaam, ↓Zaao, ↓Zaah, ↓bxOp_un, ↓bxOp_extract, ↓Zaap, ↓Zaal, ↓Zaby, ↓bxPut, ↓Zabd, ↓Zabe, ↓Zabb, ↓Zabz, ↓Zaca, ↓Zacc, ↓Zaav, ↓Zaat, ↓Zaau, ↓dstAt, ↓gval_some, Zabx, Zaaa, Zaaw, una_nt, aPick_true, aPick_false, Zabl, sxGuardB_tt, sxGuardB_ft, sxGuardB_ff, sxIfB_t, Zabu, Zaaz, List.map_cons, List.map_nil, List.nil_append, List.append_nil, ↓reduceIte, Nat.reduceEqDiff, Nat.reduceLT, dec_T, dec_F, not_true_eq_false, *, argF, List.getD_cons_zero, List.getD_cons_succ])
  have hgd := hgood' hp'
  obtain ⟨rfl, w', r2', rfl, hwl', hsh', haw', sv'⟩ := hgd
  have hgr := fun i (hi : i < c.length) => awd_grow hp.1 hp'.1 hsh hsh' haw haw' (by omega) hi
  have hdz := hsh.2.1
  have hdz' := hsh'.2.1
  have L6 := K6.low hL
  have hob := shaped_runs hS a c.length cp z (by omega) H6
  obtain ⟨H7, k7, hR7⟩ := hob
  have hob := shaped_runs hS a' c.length cp' z' (by omega) H7
  obtain ⟨H8, k8, hR8⟩ := hob
  have f7 := hR7.bx
  have f8 := hR8.bx
  have y37 := k7.read s6 y3
  have k68 := k7.trans k8
  have sv8 := (sv.keep K36).keep k68
  have sv8' := sv'.keep k68
  have o8 := o36.keep k68
  have o8' := o6.keep k68
  have hrng := hsh.2.2.1
  have hrng' := hsh'.2.2.1
  have K8 := K6.trans k68
  have g8 := K8.grp hg
  have L8 := K8.low hL
  clear hl h40 hbad hgood hR1 hR4 hps1 hps4 K3 K36 hp o3 o6 o36 hbad' hgood' hg sv sv' haw haw' hsh hsh' hp' hR7 hR8 k7 k8 k68 K6 K8
  refine Zaar Try.func4 rfl (Nat.le_of_ble_eq_true rfl) (hS.no rfl _ _) ?_
  rw [Try.ntmps4, Try.results4]
  repeat' (first | simp only [↓Zabk, ↓Zabh, ↓Zabj, ↓Zaad, ↓bxC_loop, ↓Zabf, ↓Zabi, ↓Zabw, ↓Zabv, ↓Zacb, ↓Zaaq, ↓Zaan, ↓Zaag, ↓bxOp_pick, ↓Zaaf, ↓Zaam, ↓Zaao, ↓Zaah, ↓bxOp_un, ↓bxOp_extract, ↓Zaap, ↓Zaal, ↓Zaby, ↓bxPut, ↓Zabd, ↓Zabe, ↓Zabb, ↓Zabz, ↓Zaca, ↓Zacc, ↓Zaav, ↓Zaat, ↓Zaau, ↓dstAt, ↓gval_some, Zabx, Zaaa, Zaaw, una_nt, aPick_false, Zabl, sxGuardB_ff, Zabu, Zaaz, List.map_cons, List.map_nil, List.nil_append, List.append_nil, ↓reduceIte, Nat.reduceEqDiff, Nat.reduceLT, dec_F, not_true_eq_false, Option.map_some, *, argF, List.getD_cons_zero, List.getD_cons_succ, lenI, ldP])
  clear f0 f1 f4 f7 f8 st3 st6 al2 al5 y0 y1 y2 y3 y4 y5 y37 s3 s6
  refine sxL_of (fun m ρ H9 => ∃ i : Nat, m = c.length - i ∧ i ≤ c.length ∧ Keep H8 H9 ∧ ρ 3 = .slice va c.length vc ∧ ρ 9 = .pointer (some ⟨H1.size, 0, none⟩) ∧ ρ 11 = .pointer (some ⟨H4.size, 0, none⟩) ∧ ρ 13 = .int .i64 (i : Int))
    ⟨0, rfl, Nat.zero_le _, Keep.refl _, rfl, rfl, rfl, rfl⟩ ?_
  rintro m ρ H9 ⟨i, rfl, hi, k9, e3, e9, e11, e13⟩
  by_cases hlt : i < c.length
  case neg =>
    have hlt' : ¬ (i : Int) < (c.length : Int) := by omega
    clear sv8 sv8' o8 o8' hrng hrng' hgr
    repeat' (first | simp only [↓Zabk, ↓sxC_draw, ↓Zabh, ↓Zabj, ↓Zaad, ↓Zabf, ↓Zabg, ↓Zabi, ↓Zabw, ↓Zabv, ↓Zabr, ↓Zaae, ↓sxDL_move, ↓sxDL_load, ↓sxDL_binOp, ↓Zacb, ↓Zaan, ↓Zaag, ↓Zaam, ↓Zaah, ↓Zaap, ↓Zaal, ↓bxPut, ↓Zabd, ↓Zabc, ↓Zabe, ↓Zaac, ↓blockQ_ret, ↓Zaab, ↓Zaay, ↓Zaax, ↓loopQ_ret, ↓Zabb, ↓Zabz, ↓Zaca, ↓Zacc, ↓Zaav, ↓Zaat, ↓Zaau, Zabx, Zaaa, Zaaw, Zabl, Zabu, Zaaz, List.map_nil, List.nil_append, List.append_nil, ↓reduceIte, Nat.reduceEqDiff, Nat.reduceLT, dec_F, *, lenI] | (with_reducible first | refine Zabn (by assumption) (by decide +kernel) ?_ | refine Zabm (by decide +kernel) ?_ | refine Zabq (by decide +kernel) ?_ | refine Zabo ?_))
  have hlt' : (i : Int) < (c.length : Int) := by omega
  have hwi := wrap_succ hlt hml
  have L9 := k9.low L8
  have hob := cmpD2 hS _ _ w w' z z' r' r2' i i H9 (k9.grp g8) L9 (sv8.keep k9) (sv8'.keep k9) (by omega) (by omega) (hrng i (by omega)).1 (hrng' i (by omega)).1 (by omega) (by omega)
  obtain ⟨x1, Ha, Hb, x2, Hc, Hd, He, Hf, kb, lb, kd, ld, kf, lf, fa, da, fc, dc, fe, de⟩ := hob
  have hob := ownP ((o8.keep k9))
  obtain ⟨y0, _, _⟩ := hob
  have hob := ownP ((o8'.keep (k9.trans kb)))
  obtain ⟨y1, _, _⟩ := hob
  have hg1 := hgr i hlt
  have hsg : ¬ 0 < sgn3 (w.getD i 0 * z') (w'.getD i 0 * z) := by
    unfold sgn3
    split
    · omega
    · split <;> omega
  have k9f := k9.trans kf
  have hgs : ∃ q, q = sgn3 (w.getD i 0 * z') (w'.getD i 0 * z) := ⟨_, rfl⟩
  obtain ⟨q, hq⟩ := hgs
  rw [← hq] at hsg fe
  clear sv8 sv8' o8 o8' hrng hrng' hgr hg1 hq kb kd kf k9 hwl hwl'
  repeat' (first | simp only [↓Zabk, ↓sxC_draw, ↓Zabh, ↓Zabj, ↓Zaad, ↓Zabf, ↓Zabg, ↓Zabi, ↓Zabw, ↓Zabv, ↓Zabr, ↓Zaae, ↓sxDL_move, ↓sxDL_load, ↓sxDL_binOp, ↓sxD_same, ↓Zacb, ↓Zaan, ↓Zaag, ↓Zaam, ↓Zaah, ↓Zaap, ↓Zaal, ↓bxPut, ↓Zabd, ↓Zabc, ↓Zabe, ↓Zaac, ↓blockQ_ret, ↓Zaab, ↓Zaay, ↓Zaax, ↓loopQ_ret, ↓Zabb, ↓Zabz, ↓Zaca, ↓Zacc, ↓Zaav, ↓Zaat, ↓Zaau, Zabx, Zaaa, Zaaw, Zabl, sxIfB_t, Zabu, Zaaz, List.map_cons, List.map_nil, List.nil_append, List.append_nil, ↓reduceIte, Nat.reduceEqDiff, Nat.reduceLT, dec_T, dec_F, true_and, aLoad_relow, Option.map_some, *, lenI, ldP] | (with_reducible first | refine Zabn (by assumption) (by decide +kernel) ?_ | refine Zabm (by decide +kernel) ?_ | refine Zabq (by decide +kernel) ?_ | refine Zabo ?_))
  exact ⟨c.length - (i + 1), by omega, i + 1, rfl, by omega, rfl⟩
end Go.Proofs.Ytpeoleimmabceaa
