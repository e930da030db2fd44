/- Greatest common divisors, shares and lowest terms, on the canonical machine. -/
import Derived.Test.YtpeoleimmabceaaE1
import Derived.Test.YtpeoleimmabceaaGj
set_option linter.unusedVariables false
set_option linter.unusedSimpArgs false
set_option linter.unusedSectionVars false

namespace Go.Proofs.Ytpeoleimmabceaa.Q
open Go Go.AM
set_option maxRecDepth 10000

def gcdAll (d : Int) (w : List Int) : Int := w.foldl (fun a b => ((Nat.gcd a.toNat b.toNat : Nat) : Int)) d
theorem gcdAll_take (d : Int) (w : List Int) {k : Nat} (h : k < w.length) : gcdAll d (w.take (k + 1)) = ((Nat.gcd (gcdAll d (w.take k)).toNat (w.getD k 0).toNat : Nat) : Int) := by
  unfold gcdAll
  rw [List.take_add_one, List.getElem?_eq_getElem h, List.getD_eq_getElem?_getD, List.getElem?_eq_getElem h]
  rw [List.foldl_append]
  rfl
theorem gcdAll_pos (d : Int) (w : List Int) (h : 0 < d) : 0 < gcdAll d w ∧ gcdAll d w ≤ d := by
  unfold gcdAll
  induction w generalizing d with
  | nil => exact ⟨h, Int.le_refl _⟩
  | cons a l ih =>
    have h1 : 0 < Nat.gcd d.toNat a.toNat := Nat.gcd_pos_of_pos_left _ (by omega)
    have h2 : Nat.gcd d.toNat a.toNat ≤ d.toNat := Nat.gcd_le_left _ (by omega)
    have := ih ((Nat.gcd d.toNat a.toNat : Nat) : Int) (by omega)
    exact ⟨this.1, by simp only [List.foldl_cons]; omega⟩

theorem fldP0 (r o : Nat) : aFieldAt Try.prog 26 0 (.pointer (some ⟨r, o, none⟩)) = some (.pointer (some ⟨r, o, none⟩)) := by kernel_rfl
theorem fldP1 (r o : Nat) : aFieldAt Try.prog 26 1 (.pointer (some ⟨r, o, none⟩)) = some (.pointer (some ⟨r, o + 1, none⟩)) := by kernel_rfl
theorem ldIs (H : Heap) (r o : Nat) : aLoad Try.prog H 22 (.pointer (some ⟨r, o, none⟩)) = (H.read r o 1).bind one1 := by kernel_rfl
theorem ldP (H : Heap) (r o : Nat) : aLoad Try.prog H 26 (.pointer (some ⟨r, o, none⟩)) = (H.read r o 2).map fun l => .agg ⟨l⟩ := by kernel_rfl
theorem cells_agg (l : List Value) : (Value.agg ⟨l⟩).cells.toList = l := rfl
theorem boxP (H : Heap) (v u : Value) : ∃ H1, H.newExact [v, u] 26 = H1 ∧ Keep H H1 ∧ H.size < H1.size ∧ H1.read H.size 0 2 = some [v, u] ∧ H1.read H.size 0 1 = some [v] ∧ H1.read H.size (0 + 1) 1 = some [u] := by
  obtain ⟨H1, e1, hK1, hz1, _, hr1⟩ := box1 H [v, u] 26
  exact ⟨H1, e1, hK1, hz1, hr1 0 2 (by show 0 + 2 ≤ 2; omega), hr1 0 1 (by show 0 + 1 ≤ 2; omega), hr1 (0 + 1) 1 (by show 0 + 1 + 1 ≤ 2; omega)⟩

variable {S : AM.Sys} (hS : Only S 11)
include hS

theorem cdiv_runs (v : Value) (w : List Int) (d : Int) (r o : Nat) (H : Heap) (hl : SlI .i64 H v w r o) (hp : ∀ x ∈ w, 0 ≤ x) (hd : 0 < d ∧ d ≤ 9223372036854775807) : ∃ H', Keep H H' ∧ Runs Try.prog S (.fn 48) [.agg ⟨[v, .int .i64 d]⟩] H (.int .i64 (gcdAll d w)) H' := by
  suffices h : WCall Try.prog S (.fn 48) [.agg ⟨[v, .int .i64 d]⟩] H (fun v H' => v = .int .i64 (gcdAll d w) ∧ Keep H H') by
    obtain ⟨_, H', hr, rfl, hk⟩ := h; exact ⟨H', hk, hr⟩
  obtain ⟨a, cap, rfl⟩ := hl.v0
  refine call_of Try.func48 rfl (Nat.le_of_ble_eq_true rfl) (hS.no rfl _ _) ?_
  rw [Try.ntmps48, Try.results48]
  obtain ⟨H1, e1, hK1, hz1, rd2, rd0, rd1⟩ := boxP H (.slice a w.length cap) (.int .i64 d)
  repeat' (first | (with_reducible refine Zabp (fun h => ?_) (fun h => ?_)) | (with_reducible refine Zabo (fun h => ?_) (fun h => ?_)) | (with_reducible refine sxIfB_sp (fun h => ?_) (fun h => ?_)) | simp only [↓Zabd, ↓Zabf, ↓bxC_loop, ↓Zabb, ↓Zabe, ↓Zabr, ↓Zabq, ↓Zabw, ↓Zaal, ↓Zaaf, ↓bxOp_box, ↓Zaak, ↓Zaah, ↓Zaaj, ↓bxPut, ↓Zaaz, ↓Zaax, ↓Zabu, ↓Zabv, ↓Zabx, ↓Zaar, ↓Zaaq, Zabs, Zaav, ↓reduceIte, Nat.reduceEqDiff, Nat.reduceLT, one1, Option.bind_some, *, argF, List.getD_cons_zero, lenI, cells_agg, fldP0, fldP1, ldI, ldIs])
  refine sxL_of (fun m ρ H2 => ∃ k : Nat, m = w.length - k ∧ k ≤ w.length ∧ Keep H H2 ∧ ρ 3 = .int .i64 (gcdAll d (w.take k)) ∧ ρ 9 = .slice a w.length cap ∧ ρ 10 = .int .i64 w.length ∧ ρ 11 = .int .i64 k)
    ⟨0, rfl, Nat.zero_le _, hK1, rfl, rfl, rfl, rfl⟩ ?_
  clear e1 rd0 rd1
  rintro m ρ H2 ⟨k, rfl, hk, hK, e3, e9, e10, e11⟩
  have hK0 := hK
  by_cases hlt : k < w.length
  · have hl2 := hl.keep hK
    have hix := SlI_ix hl2 hlt
    have hrd := (hl2.rdI hlt).1
    have hw := wrap_succ hlt hl.ml
    have hlt' : (k : Int) < (w.length : Int) := by omega
    have g1 := gcdAll_take d w hlt
    have g2 := gcdAll_pos d (w.take k) hd.1
    have g3 := hp _ (getD_mem (d := 0) hlt)
    have g4 : w.getD k 0 ≤ 9223372036854775807 := by have := hl.rng k; have h1 : IntKind.i64.max = 9223372036854775807 := rfl; omega
    generalize gcdAll d (w.take k) = D at *
    clear hl hl2
    repeat' (first | (with_reducible refine Zabp (fun h => ?_) (fun h => ?_)) | (with_reducible refine Zabo (fun h => ?_) (fun h => ?_)) | (with_reducible refine sxIfB_sp (fun h => ?_) (fun h => ?_)) | simp only [↓Zabg, ↓Zabd, ↓Zabf, ↓Zaad, ↓bxC_loop, ↓Zabb, ↓Zabc, ↓Zabr, ↓Zabq, ↓Zabw, ↓Zaal, ↓Zaaf, ↓Zaak, ↓Zaag, ↓Zaai, ↓bxPut, ↓Zaaz, ↓Zaay, ↓Zaab, ↓Zaau, ↓Zaat, ↓Zabx, ↓Zaar, ↓Zaaq, Zabs, Zaaa, Zaas, sxIfB_t, ↓reduceIte, Nat.reduceEqDiff, Nat.reduceLT, dec_T, one1, Option.bind_some, *, ldI])
    obtain ⟨G, hGd⟩ : ∃ G : Nat, G = Nat.gcd D.toNat (w.getD k 0).toNat := ⟨_, rfl⟩
    rw [← hGd] at g1
    refine sxL_of (fun m ρ H3 => ∃ x y : Int, m = y.toNat ∧ 0 ≤ x ∧ 0 ≤ y ∧ x ≤ 9223372036854775807 ∧ y ≤ 9223372036854775807 ∧ Nat.gcd x.toNat y.toNat = G ∧ Keep H H3 ∧ ρ 3 = .int .i64 x ∧ ρ 5 = .int .i64 y ∧ ρ 9 = .slice a w.length cap ∧ ρ 10 = .int .i64 w.length ∧ ρ 11 = .int .i64 k)
      ⟨D, w.getD k 0, rfl, by omega, g3, by omega, g4, hGd.symm, hK, by first | rfl | assumption, rfl, by first | rfl | assumption, by first | rfl | assumption, by first | rfl | assumption⟩ ?_
    clear e3 e9 e10 e11 hrd hix g3 g4 hK
    rintro m ρ H3 ⟨x, y, rfl, hx, hy, hx2, hy2, hG, hK, e3, e5, e9, e10, e11⟩
    clear hGd g2
    by_cases hb0 : y = 0
    · subst hb0
      have hG2 : gcdAll d (w.take (k + 1)) = x := by rw [g1, ← hG, show (0 : Int).toNat = 0 from rfl, Nat.gcd_zero_right]; omega
      clear g1 hG
      repeat' (first | (with_reducible refine Zabp (fun h => ?_) (fun h => ?_)) | (with_reducible refine Zabo (fun h => ?_) (fun h => ?_)) | (with_reducible refine sxIfB_sp (fun h => ?_) (fun h => ?_)) | simp only [↓Zabg, ↓sxC_draw, ↓Zabd, ↓Zabf, ↓Zaad, ↓Zabb, ↓Zabc, ↓Zabr, ↓Zabq, ↓Zabn, ↓Zaae, ↓Zabm, ↓sxDL_assign, ↓sxDL_binOp, ↓Zabw, ↓Zaal, ↓Zaaf, ↓Zaag, ↓bxPut, ↓Zaaz, ↓Zaay, ↓Zaac, ↓Zaab, ↓Zaau, ↓Zaat, ↓Zabx, ↓Zaar, ↓Zaaq, Zabs, Zaaa, Zaas, sxIfB_f, ↓reduceIte, Nat.reduceEqDiff, Nat.reduceLT, dec_F, true_and, not_true_eq_false, *] | (with_reducible first | refine Zabj (by assumption) (by decide +kernel) ?_ | refine Zabi (by decide +kernel) ?_ | refine sxD_bar (by decide +kernel) ?_ | refine Zabk ?_))
      exact ⟨_, by omega, k + 1, rfl, by omega, congrArg (Value.int .i64) hG2.symm, rfl⟩
    · have hm : x.tmod y = x % y := Int.tmod_eq_emod_of_nonneg hx
      have h1 := Int.emod_nonneg x hb0
      have h2 := Int.emod_lt_of_pos x (show 0 < y by omega)
      have f1 : IntKind.i64.wrap (x % y) = x % y := IntWalk.i64_in _ (by omega)
      have hg2 : Nat.gcd y.toNat (x % y).toNat = G := by
        rw [← hG, Int.toNat_emod hx hy, Nat.gcd_comm y.toNat (x.toNat % y.toNat), ← Nat.gcd_rec, Nat.gcd_comm]
      repeat' (first | (with_reducible refine Zabp (fun h => ?_) (fun h => ?_)) | (with_reducible refine Zabo (fun h => ?_) (fun h => ?_)) | (with_reducible refine sxIfB_sp (fun h => ?_) (fun h => ?_)) | simp only [↓Zabg, ↓sxC_draw, ↓Zabd, ↓Zabf, ↓Zaad, ↓Zabb, ↓Zabc, ↓Zabr, ↓Zabq, ↓Zabn, ↓Zaae, ↓Zabm, ↓sxDL_assign, ↓sxDL_binOp, ↓Zabw, ↓Zaal, ↓Zaaf, ↓Zaag, ↓bxPut, ↓Zaaz, ↓Zaay, ↓Zaac, ↓Zaab, ↓Zaau, ↓Zaat, ↓Zabx, ↓Zaar, ↓Zaaq, Zabs, Zaaa, Zaas, sxIfB_t, ↓reduceIte, Nat.reduceEqDiff, Nat.reduceLT, dec_T, and_true, and_self, size_relow, low_relow, relow_relow, ne_eq, not_false_eq_true, *] | (with_reducible first | refine Zabj (by assumption) (by decide +kernel) ?_ | refine Zabi (by decide +kernel) ?_ | refine sxD_bar (by decide +kernel) ?_ | refine Zabk ?_))
      refine ⟨_, ?_, y, x % y, rfl, hy, h1, hy2, by omega, hg2, ?_, rfl, rfl⟩
      · omega
      · have z1 : min H.low H.size ≤ H3.size := Nat.le_trans (Nat.min_le_right _ _) hK.size
        exact { size := hK.size, low := fun _ => Nat.min_le_right _ _, lo := by repeat' (first | exact hK.lo | exact z1 | refine Nat.le_min.2 ⟨?_, ?_⟩), row := hK.row, grp := hK.grp, mem := hK.mem }
  · have hlt' : ¬ (k : Int) < (w.length : Int) := by omega
    obtain rfl : k = w.length := by omega
    have g : gcdAll d (w.take w.length) = gcdAll d w := by rw [List.take_length]
    clear hl
    repeat' (first | (with_reducible refine Zabp (fun h => ?_) (fun h => ?_)) | (with_reducible refine Zabo (fun h => ?_) (fun h => ?_)) | (with_reducible refine sxIfB_sp (fun h => ?_) (fun h => ?_)) | simp only [↓Zabg, ↓Zabd, ↓Zabf, ↓Zaad, ↓bxC_loop, ↓Zabb, ↓Zabc, ↓Zabr, ↓Zabq, ↓Zabw, ↓Zaal, ↓Zaaf, ↓Zaak, ↓Zaag, ↓Zaai, ↓bxPut, ↓Zaaz, ↓Zaay, ↓Zaab, ↓Zaau, ↓Zaat, ↓Zabx, ↓Zaar, ↓Zaaq, Zabs, Zaaa, Zaas, sxIfB_f, ↓reduceIte, Nat.reduceEqDiff, Nat.reduceLT, dec_F, and_self, *])

def Shr (e : Int) (c : List Int) (w : List Int) (d : Int) : Prop := w.length = c.length ∧ (1 ≤ d ∧ d ≤ 1000000) ∧ (∀ i, i < w.length → 0 ≤ w.getD i 0 ∧ w.getD i 0 ≤ c.getD i 0 * d) ∧ w.sum = e * d ∧ gcdAll d w = 1
instance (e : Int) (c : List Int) (w : List Int) (d : Int) : Decidable (Shr e c w d) := by unfold Shr; infer_instance

theorem areShares_runs (e : Int) (v v2 : Value) (c w : List Int) (d : Int) (r o r2 o2 : Nat) (H : Heap) (hL : H.low ≤ H.size) (hc : SlI .i64 H v c r o) (hl : SlI .i64 H v2 w r2 o2) (hP : Prob e c) :
    ∃ H', Keep H H' ∧ Runs Try.prog S (.fn 28) [.int .i64 e, v, .agg ⟨[v2, .int .i64 d]⟩] H (.bool (decide (Shr e c w d))) H' := by
  suffices h : WCall Try.prog S (.fn 28) [.int .i64 e, v, .agg ⟨[v2, .int .i64 d]⟩] H (fun v H' => v = .bool (decide (Shr e c w d)) ∧ Keep H H') by
    obtain ⟨_, H', hr, rfl, hk⟩ := h; exact ⟨H', hk, hr⟩
  obtain ⟨a, cap, rfl⟩ := hc.v0
  obtain ⟨a2, cap2, rfl⟩ := hl.v0
  refine call_of Try.func28 rfl (Nat.le_of_ble_eq_true rfl) (hS.no rfl _ _) ?_
  rw [Try.ntmps28, Try.results28]
  obtain ⟨H1, e1, hK1, hz1, rd2, rd0, rd1⟩ := boxP H (.slice a2 w.length cap2) (.int .i64 d)
  have hb1 := fun n a b H => (isWithin_runs hS n a b H).bx
  have hL1 := hK1.low hL
  repeat' (first | (with_reducible refine Zabp (fun h => ?_) (fun h => ?_)) | (with_reducible refine Zabo (fun h => ?_) (fun h => ?_)) | (with_reducible refine sxIfB_sp (fun h => ?_) (fun h => ?_)) | simp only [↓Zabg, ↓sxC_draw, ↓Zabd, ↓Zabf, ↓Zaad, ↓bxC_loop, ↓Zabb, ↓Zabe, ↓Zabr, ↓Zabq, ↓Zabn, ↓Zaae, ↓Zabm, ↓sxDL_assign, ↓sxDL_pick, ↓sxDL_load, ↓sxDL_binOp, ↓sxDL_fieldAddr, ↓Zabw, ↓Zaao, ↓Zaal, ↓Zaaf, ↓bxOp_pick, ↓bxOp_box, ↓Zaak, ↓Zaag, ↓bxOp_un, ↓Zaah, ↓Zaan, ↓Zaaj, ↓bxPut, ↓Zaaz, ↓Zaba, ↓Zaax, ↓Zabu, ↓Zabv, ↓Zabx, ↓Zaar, ↓Zaaq, ↓ev_func, ↓dstAt, ↓gval_some, Zabs, Zaaa, Zaas, una_not_dec, aPick_true, aPick_false, Zabh, sxGuardB_ft, sxGuardB_ff, sxIfB_t, Zaav, List.map_cons, List.map_nil, List.nil_append, List.append_nil, ↓reduceIte, Nat.reduceEqDiff, Nat.reduceLT, dec_T, dec_F, and_true, one1, Option.bind_some, not_false_eq_true, *, argF, List.getD_cons_zero, List.getD_cons_succ, lenI, cells_agg, fldP0, fldP1, ldI, ldIs] | (with_reducible first | refine Zabj (by assumption) (by decide +kernel) ?_ | refine Zabi (by decide +kernel) ?_ | refine sxD_bar (by decide +kernel) ?_ | refine Zabk ?_))
  · exact bool_f fun hh => absurd hh.2.1 ‹_›
  · have hwc : w.length ≤ c.length ∧ c.length ≤ w.length := by omega
    have hd : 1 ≤ d ∧ d ≤ 1000000 := Decidable.not_not.1 ‹_›
    refine sxL_of (fun m ρ H3 => ∃ k : Nat, m = w.length - k ∧ k ≤ w.length ∧ Keep H1 H3 ∧ (∀ i, i < k → 0 ≤ w.getD i 0 ∧ w.getD i 0 ≤ c.getD i 0 * d) ∧ ρ 0 = .int .i64 e ∧ ρ 1 = .slice a c.length cap ∧ ρ 5 = .pointer (some ⟨H.size, 0, none⟩) ∧ ρ 22 = .slice a2 w.length cap2 ∧ ρ 23 = .int .i64 w.length ∧ ρ 24 = .int .i64 k)
      ⟨0, rfl, Nat.zero_le _, Keep.refl _, fun i hi => absurd hi (Nat.not_lt_zero i), rfl, rfl, rfl, rfl, rfl, rfl⟩ ?_
    clear h
    clear h
    rintro m ρ H3 ⟨k, rfl, hk, hK, hall, e0, e1', e5, e22, e23, e24⟩
    have hL3 := hK.low hL1
    have q2 := hK.read hz1 rd2
    have q0 := hK.read hz1 rd0
    have q1 := hK.read hz1 rd1
    have hcm : ∀ x ∈ c, 0 ≤ x ∧ x ≤ 100000 := hP.2.2.1
    have hn7 : (c.length : Int) ≤ 7 := hP.2.1.2
    by_cases hlt : k < w.length
    · have hl2 := hl.keep (hK1.trans hK)
      have hix := SlI_ix hl2 hlt
      have hrd := (hl2.rdI hlt).1
      have hc2 := hc.keep (hK1.trans hK)
      have hltc : k < c.length := by omega
      have hix2 := SlI_ix hc2 hltc
      have hrd2 := (hc2.rdI hltc).1
      have hw := wrap_succ hlt hl.ml
      have hlt' : (k : Int) < (w.length : Int) := by omega
      have hck := hcm _ (getD_mem (d := 0) hltc)
      have hm1 : 0 ≤ c.getD k 0 * d := Int.mul_nonneg hck.1 (by omega)
      have hm2 : c.getD k 0 * d ≤ 100000 * 1000000 := Int.mul_le_mul hck.2 hd.2 (by omega) (by omega)
      have hw2 : IntKind.i64.wrap (c.getD k 0 * d) = c.getD k 0 * d := IntWalk.i64_in _ (by omega)
      clear hl hc hl2 hc2 hP hm1 hm2 rd0 rd1 rd2 e1
      repeat' (first | (with_reducible refine Zabp (fun h => ?_) (fun h => ?_)) | (with_reducible refine Zabo (fun h => ?_) (fun h => ?_)) | (with_reducible refine sxIfB_sp (fun h => ?_) (fun h => ?_)) | simp only [↓Zabg, ↓sxC_draw, ↓Zabd, ↓Zabf, ↓Zaad, ↓Zabb, ↓Zabc, ↓Zabe, ↓Zabr, ↓Zabq, ↓Zabn, ↓Zaae, ↓Zabm, ↓sxDL_load, ↓sxDL_binOp, ↓sxDL_unOp, ↓sxDL_fieldAddr, ↓Zabl, ↓sxD_same, ↓Zabw, ↓Zaal, ↓Zaaf, ↓Zaak, ↓Zaag, ↓bxOp_un, ↓Zaah, ↓Zaai, ↓Zaan, ↓bxPut, ↓Zaaz, ↓Zaay, ↓Zaba, ↓Zaac, ↓blockQ_ret, ↓Zaab, ↓Zaau, ↓Zaat, ↓loopQ_ret, ↓Zaax, ↓Zabu, ↓Zabv, ↓Zabx, ↓Zaar, ↓Zaaq, ↓ev_func, Zabs, Zaaa, Zaas, una_not_dec, Zabh, sxIfB_t, Zaav, List.map_cons, List.map_nil, List.nil_append, List.append_nil, ↓reduceIte, Nat.reduceEqDiff, Nat.reduceLT, dec_T, true_and, aLoad_relow, one1, Option.bind_some, *, ldI, fldP1] | (with_reducible first | refine Zabj (by assumption) (by decide +kernel) ?_ | refine Zabi (by decide +kernel) ?_ | refine sxD_bar (by decide +kernel) ?_ | refine Zabk ?_))
      all_goals first
        | exact bool_f fun hh => absurd (hh.2.2.1 k hlt) ‹_›
        | exact ⟨bool_f fun hh => absurd (hh.2.2.1 k hlt) ‹_›, hK1.trans hK⟩
        | exact ⟨_, by omega, k + 1, rfl, by omega, (fun i hi => by
            rcases Nat.lt_or_ge i k with h | h
            · exact hall i h
            · rw [show i = k by omega]; exact Decidable.not_not.1 ‹_›), rfl⟩
    · have hlt' : ¬ (k : Int) < (w.length : Int) := by omega
      have hke : w.length ≤ k := by omega
      have hall' : ∀ i, i < w.length → 0 ≤ w.getD i 0 ∧ w.getD i 0 ≤ c.getD i 0 * d := fun i hi => hall i (by omega)
      have hl2 := (hl.keep (hK1.trans hK)).keep (Keep.relowS H3)
      have hp : ∀ x ∈ w, 0 ≤ x ∧ x ≤ 100000000000 := all_of (d := 0) fun j hj => by
        have h1 := hall' j hj
        have h2 := hcm _ (getD_mem (l := c) (k := j) (d := 0) (by omega))
        have h3 : c.getD j 0 * d ≤ 100000 * 1000000 := Int.mul_le_mul h2.2 hd.2 (by omega) (by omega)
        omega
      have hsum := sum_le 100000000000 w fun x hx => (hp x hx).2
      have he : 0 ≤ e ∧ e ≤ 100000 := hP.1
      have hm1 : 0 ≤ e * d := Int.mul_nonneg he.1 (by omega)
      have hm2 : e * d ≤ 100000 * 1000000 := Int.mul_le_mul he.2 hd.2 (by omega) (by omega)
      have hw2 : IntKind.i64.wrap (e * d) = e * d := IntWalk.i64_in _ (by omega)
      have hb2 := (total_runs hS _ w r2 o2 (H3.relow H3.size) hl2 (fun x hx => (hp x hx).1) (by omega)).bx
      have hob := drawn hL3 (cdiv_runs hS _ w d r2 o2 (H3.relow H3.size) hl2 (fun x hx => (hp x hx).1) (by omega))
      obtain ⟨H4, H5, hK5', hL5, hb3, hd4⟩ := hob
      have hK5 := (hK1.trans hK).trans hK5'
      clear hl hc hl2 hP hm1 hm2 rd0 rd1 rd2 e1 hsum hall hp
      repeat' (first | (with_reducible refine Zabp (fun h => ?_) (fun h => ?_)) | (with_reducible refine Zabo (fun h => ?_) (fun h => ?_)) | (with_reducible refine sxIfB_sp (fun h => ?_) (fun h => ?_)) | simp only [↓Zabg, ↓sxC_draw, ↓Zabd, ↓Zabf, ↓Zaad, ↓Zabb, ↓Zabc, ↓Zabe, ↓Zabr, ↓Zabq, ↓Zabn, ↓Zaae, ↓Zabm, ↓sxDL_load, ↓sxDL_binOp, ↓sxDL_unOp, ↓sxDL_fieldAddr, ↓Zabl, ↓sxD_same, ↓Zabw, ↓Zaal, ↓Zaaf, ↓Zaak, ↓Zaag, ↓bxOp_un, ↓Zaah, ↓Zaai, ↓Zaan, ↓bxPut, ↓Zaaz, ↓Zaay, ↓Zaba, ↓Zaac, ↓blockQ_ret, ↓Zaab, ↓Zaau, ↓Zaat, ↓loopQ_ret, ↓Zaax, ↓Zabu, ↓Zabv, ↓Zabx, ↓Zaar, ↓Zaaq, ↓ev_func, Zabs, Zaaa, Zaas, aPick_true, aPick_false, Zabh, sxGuardB_tt, sxGuardB_tf, sxIfB_f, Zaav, List.map_cons, List.map_nil, List.nil_append, List.append_nil, ↓reduceIte, Nat.reduceEqDiff, Nat.reduceLT, dec_T, dec_F, and_true, aLoad_relow, one1, Option.bind_some, Option.map_some, *, ldI, ldIs, ldP, fldP0, fldP1] | (with_reducible first | refine Zabj (by assumption) (by decide +kernel) ?_ | refine Zabi (by decide +kernel) ?_ | refine sxD_bar (by decide +kernel) ?_ | refine Zabk ?_))
      · exact bool_d ⟨fun hh => ⟨by omega, hd, hall', ‹_›, hh⟩, fun hh => hh.2.2.2.2⟩
      · exact ⟨bool_f fun hh => absurd hh.2.2.2.1 ‹_›, hK1.trans hK⟩
  · exact bool_f fun hh => absurd hh.1 (by omega)
end Go.Proofs.Ytpeoleimmabceaa.Q
