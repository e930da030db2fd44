/- The garment between two, and who is treated otherwise, by the program; are Parts the same. -/
import Derived.Test.YtpeoleimmabceaaEF
set_option linter.unusedVariables false
set_option linter.unusedSimpArgs false
set_option linter.unusedSectionVars false

namespace Go.Proofs.Ytpeoleimmabceaa
open Go Go.AM
set_option maxRecDepth 10000
theorem SlI_nilE {k : IntKind} (H : Heap) : SlI k H (.slice none 0 0) [] 0 0 := ⟨⟨none, 0, rfl, fun h => absurd h (Nat.lt_irrefl 0)⟩, fun i hi => absurd hi (Nat.not_lt_zero i), fun h => absurd h (Nat.lt_irrefl 0), Nat.zero_le _⟩
def halfN (F G : Int) : List Int := if F % 2 = 0 then [F / 2, G / 2] else [F, G]
def halfD (F : Int) : Int := if F % 2 = 0 then 1 else 2
theorem bs2 (H : Heap) (a b : Int) : aBuildSlice Try.prog H 22 2 [(0, .int .i64 a), (1, .int .i64 b)] = some (.slice (some ⟨H.size, 0, none⟩) 2 2, H.newExact [.int .i64 a, .int .i64 b] 3) := by kernel_rfl
theorem sl2 {H : Heap} {r : Nat} {e : TypeId} {a b : Int} (h : Own H r e [.int .i64 a, .int .i64 b]) (ha : -9223372036854775808 ≤ a ∧ a ≤ 9223372036854775807) (hb : -9223372036854775808 ≤ b ∧ b ≤ 9223372036854775807) : SlI .i64 H (.slice (some ⟨r, 0, none⟩) 2 2) [a, b] r 0 :=
  Own.sl (w := [a, b]) h (fun z hz => by
    rcases List.mem_cons.1 hz with rfl | hz
    · exact ha
    · rcases List.mem_cons.1 hz with rfl | hz
      · exact hb
      · cases hz) (by show 2 ≤ 9223372036854775807; omega) 2
theorem gcd_half (F G : Int) (hF : 0 ≤ F) (hG : 0 ≤ G) (hFG : (F + G) % 2 = 0) : (2 / Q.gcdAll 2 [F, G] = halfD F ∧ [F, G].map (fun x => x / Q.gcdAll 2 [F, G]) = halfN F G) := by
  have h1 : Q.gcdAll 2 [F, G] = ((Nat.gcd (Nat.gcd 2 F.toNat) G.toNat : Nat) : Int) := rfl
  have h2 : ∀ n : Nat, Nat.gcd 2 n = if n % 2 = 0 then 2 else 1 := fun n => by
    rw [Nat.gcd_rec]
    rcases (show n % 2 = 0 ∨ n % 2 = 1 by omega) with h | h
    · rw [h, if_pos rfl]; rfl
    · rw [h, if_neg (by omega)]; rfl
  unfold halfD halfN
  by_cases h3 : F % 2 = 0
  · rw [if_pos h3, if_pos h3, h1, h2, if_pos (by omega), h2, if_pos (by omega)]
    exact ⟨rfl, rfl⟩
  · rw [if_neg h3, if_neg h3, h1, h2, if_neg (by omega), Nat.gcd_one_left]
    simp
def Unf (c w : List Int) (d : Int) (i j : Nat) : Prop := twice (w.getD i 0 + w.getD j 0) (c.getD i 0 * d) (c.getD j 0 * d) ≠ 2 * w.getD i 0
instance (c w : List Int) (d : Int) (i j : Nat) : Decidable (Unf c w d i j) := by unfold Unf; infer_instance
def Before (c w : List Int) (d : Int) (i j : Nat) : Prop := (∀ i' j', i' < i → i' < j' → j' < c.length → ¬ Unf c w d i' j') ∧ ∀ j', i < j' → j' < j → ¬ Unf c w d i j'
def Res (c w : List Int) (d : Int) (u : List Int) : Prop :=
  (∃ i j : Nat, i < j ∧ j < c.length ∧ u = [(i : Int), (j : Int)] ∧ Unf c w d i j ∧ Before c w d i j) ∨ (u = [] ∧ ∀ i j, i < j → j < c.length → ¬ Unf c w d i j)
theorem Res.one {c w : List Int} {d : Int} {u u2 : List Int} (h : Res c w d u) (h2 : Res c w d u2) : u = u2 := by
  rcases h with ⟨i, j, a1, a2, rfl, a3, a4⟩ | ⟨rfl, a⟩
  · rcases h2 with ⟨i2, j2, b1, b2, rfl, b3, b4⟩ | ⟨rfl, b⟩
    · have hi : i = i2 := by
        rcases Nat.lt_trichotomy i i2 with h | h | h
        · exact absurd a3 (b4.1 i j h a1 a2)
        · exact h
        · exact absurd b3 (a4.1 i2 j2 h b1 b2)
      subst hi
      have hj : j = j2 := by
        rcases Nat.lt_trichotomy j j2 with h | h | h
        · exact absurd a3 (b4.2 j a1 h)
        · exact h
        · exact absurd b3 (a4.2 j2 b1 h)
      subst hj
      rfl
    · exact absurd a3 (b i j a1 a2)
  · rcases h2 with ⟨i2, j2, b1, b2, rfl, b3, b4⟩ | ⟨rfl, b⟩
    · exact absurd b3 (a i2 j2 b1 b2)
    · rfl
theorem shr_in {e : Int} {c w : List Int} {d : Int} (hP : Q.Prob e c) (hS : Q.Shr e c w d) {i : Nat} (hi : i < c.length) : (0 ≤ c.getD i 0 ∧ c.getD i 0 ≤ 100000) ∧ (0 ≤ w.getD i 0 ∧ w.getD i 0 ≤ 100000000000) ∧ (0 ≤ c.getD i 0 * d ∧ c.getD i 0 * d ≤ 100000000000) := by
  have h1 := hP.2.2.1 _ (getD_mem (d := 0) hi)
  have h2 := hS.2.1
  have h3 := hS.2.2.1 i (by rw [hS.1]; exact hi)
  have h4 : c.getD i 0 * d ≤ 100000 * 1000000 := Int.mul_le_mul h1.2 h2.2 (by omega) (by omega)
  have h5 := Int.mul_nonneg h1.1 (show 0 ≤ d by omega)
  exact ⟨h1, ⟨h3.1, by omega⟩, h5, by omega⟩

variable {S : AM.Sys} (hS : Only S 11)
include hS

theorem Contest_good (e a b : Int) (H : Heap) (hg : Grp H) (hL : H.low ≤ H.size) (hP : Q.Prob e [a, b]) :
    ∃ H' v r o, Keep H H' ∧ Grp H' ∧ SlI .i64 H' v (halfN (twice e a b) (2 * e - twice e a b)) r o ∧ H.size ≤ r ∧ Runs Try.prog S (.fn 21) [.int .i64 e, .int .i64 a, .int .i64 b] H (.tuple #[.agg ⟨[v, .int .i64 (halfD (twice e a b))]⟩, .int .i64 0]) H' := by
  suffices h : WCall Try.prog S (.fn 21) [.int .i64 e, .int .i64 a, .int .i64 b] H (fun u H' => ∃ v r o, u = .tuple #[.agg ⟨[v, .int .i64 (halfD (twice e a b))]⟩, .int .i64 0] ∧ Keep H H' ∧ Grp H' ∧ SlI .i64 H' v (halfN (twice e a b) (2 * e - twice e a b)) r o ∧ H.size ≤ r) by
    obtain ⟨_, H', hr, v, r, o, rfl, h1, h2, h3, h4⟩ := h; exact ⟨H', v, r, o, h1, h2, h3, h4, hr⟩
  have hpe := hP.1
  have hpa : 0 ≤ a ∧ a ≤ 100000 := hP.2.2.1 a (by simp)
  have hpb : 0 ≤ b ∧ b ≤ 100000 := hP.2.2.1 b (by simp)
  have hps : e ≤ a + b := by have := hP.2.2.2; simp at this; omega
  obtain ⟨Ha, e1, k1, s1, -, -⟩ := box1 H [.slice none 0 0, .int .i64 0] 26
  have ow : Own Ha H.size 26 [.slice none 0 0, .int .i64 0] := e1 ▸ Own.new H _ _
  obtain ⟨Hb, e2, k2, s2, -, -⟩ := box1 Ha [.int .i64 a, .int .i64 b] 3
  have ol : Own Hb Ha.size 3 [.int .i64 a, .int .i64 b] := e2 ▸ Own.new Ha _ _
  obtain ⟨Hc, k3, R3⟩ := Q.isProblem_runs hS e _ [a, b] Ha.size 0 Hb (sl2 ol (by omega) (by omega))
  have hprob := R3.bx
  rw [decide_eq_true hP] at hprob
  have k13 := (k1.trans k2).trans k3
  have f1 := (twice_runs hS e a b Hc (by omega) (by omega) (by omega)).bx
  have hF : 0 ≤ twice e a b ∧ twice e a b ≤ 2 * e := by unfold twice; omega
  generalize twice e a b = F at *
  have w1 : IntKind.i64.wrap (2 * e) = 2 * e := IntWalk.i64_in _ (by omega)
  have w2 : IntKind.i64.wrap (2 * e - F) = 2 * e - F := IntWalk.i64_in _ (by omega)
  obtain ⟨Hd, e4, k4, s4, -, -⟩ := box1 Hc [.int .i64 F, .int .i64 (2 * e - F)] 3
  have od : Own Hd Hc.size 3 [.int .i64 F, .int .i64 (2 * e - F)] := e4 ▸ Own.new Hc _ _
  obtain ⟨He, v, r, k5, g5, sl5, fr5, R5⟩ := qlow_runs hS _ [F, 2 * e - F] 2 Hc.size 0 Hd ((k13.trans k4).grp hg) ((k13.trans k4).low hL) (sl2 od (by omega) (by omega))
    (fun x hx => by
      rcases List.mem_cons.1 hx with rfl | hx
      · omega
      · rcases List.mem_cons.1 hx with rfl | hx
        · omega
        · cases hx) (by show 2 ≤ 1000; omega) (by omega)
  obtain ⟨hq1, hq2⟩ := gcd_half F (2 * e - F) hF.1 (by omega) (by omega)
  rw [hq2] at sl5
  rw [hq1] at R5
  have f5 := R5.bx
  have hl5 : (halfN F (2 * e - F)).length = 2 := by unfold halfN; split <;> rfl
  obtain ⟨a5, cp5, hv5⟩ := sl5.v0
  rw [hl5] at hv5
  subst hv5
  have ka5 := ((k2.trans k3).trans k4).trans k5
  obtain ⟨Hf, ps, ow', z, rr, kk⟩ := stP (ow.keep ka5) rfl a5 2 cp5 (halfD F)
  have k6 := kk H (k1.trans ka5) (Nat.le_refl _)
  have g6 := k6.grp hg
  have hz1 := ((k2.trans k3).trans k4).size
  have sl6 := SlE.other (ow.keep ka5) ps z sl5 (fun _ => by omega)
  obtain ⟨o1, o2, o3⟩ := ownP ow'
  have fr6 : H.size ≤ r := by omega
  have hnot : una UnOp.not (Value.bool true) = some (.bool false) := rfl
  refine call_of Try.func21 rfl (Nat.le_of_ble_eq_true rfl) (hS.no rfl _ _) ?_
  rw [Try.ntmps21, Try.results21]
  clear z rr kk hP hpe hpa hpb hps hq1 hq2 R3 R5 sl5 hl5 hF hz1 ow ol od
  repeat' (first | simp only [↓Zabg, ↓Zabd, ↓Zabf, ↓Zaad, ↓Zabe, ↓Zabr, ↓Zabq, ↓Zabw, ↓Zaal, ↓Zaaf, ↓bxOp_alloc, ↓bxOp_build, ↓bxOp_buildSlice, ↓Zaam, ↓Zaag, ↓bxOp_un, ↓Zaan, ↓Zabt, ↓bxPut, ↓Zaaz, ↓Zaba, ↓Zaax, ↓Zabu, ↓Zabv, ↓bxRes_cell, ↓Zabx, ↓Zaar, ↓Zaaq, ↓ev_func, Zabs, Zaaa, Zaas, Zabh, sxIfB_f, packRes_two, List.map_cons, List.map_nil, List.nil_append, List.append_nil, ↓reduceIte, Nat.reduceEqDiff, Nat.reduceLT, true_and, Option.map_some, *, argF, List.getD_cons_zero, List.getD_cons_succ, alP, bs2, bdP2, ldP])
  exact ⟨_, _, _, rfl, sl6, fr6⟩
theorem Fair_runs (e : Int) (v v2 : Value) (c w : List Int) (d : Int) (r o r2 o2 : Nat) (H : Heap) (hg : Grp H) (hL : H.low ≤ H.size) (hc : SlI .i64 H v c r o) (hl : SlI .i64 H v2 w r2 o2) (hP : Q.Prob e c) (hShr : Q.Shr e c w d) :
    ∃ H' v' u r' o', Res c w d u ∧ Keep H H' ∧ Grp H' ∧ SlI .i64 H' v' u r' o' ∧ Runs Try.prog S (.fn 19) [.int .i64 e, v, .agg ⟨[v2, .int .i64 d]⟩] H (.tuple #[v', .int .i64 0]) H' := by
  suffices h : WCall Try.prog S (.fn 19) [.int .i64 e, v, .agg ⟨[v2, .int .i64 d]⟩] H (fun z H' => ∃ v' u r' o', z = .tuple #[v', .int .i64 0] ∧ Res c w d u ∧ Keep H H' ∧ Grp H' ∧ SlI .i64 H' v' u r' o') by
    obtain ⟨_, H', hr, v', u, r', o', rfl, h1, h2, h3, h4⟩ := h; exact ⟨H', v', u, r', o', h1, h2, h3, h4, hr⟩
  obtain ⟨a, cap, rfl⟩ := hc.v0
  obtain ⟨a2, cap2, rfl⟩ := hl.v0
  obtain ⟨H1, e1, k1, z1, rd2, rd0, rd1⟩ := Q.boxP H (.slice a2 w.length cap2) (.int .i64 d)
  obtain ⟨H2, k2, R2⟩ := Q.isProblem_runs hS e _ c r o H1 (hc.keep k1)
  have f2 := R2.bx
  rw [decide_eq_true hP] at f2
  have k12 := k1.trans k2
  obtain ⟨H3, k3, R3⟩ := Q.areShares_runs hS e _ _ c w d r o r2 o2 H2 (k12.low hL) (hc.keep k12) (hl.keep k12) hP
  have f3 := R3.bx
  rw [decide_eq_true hShr] at f3
  have k13 := k12.trans k3
  have l3 := k13.low hL
  have g3 := k13.grp hg
  have m2 := k2.read z1 rd2
  have m3 := (k2.trans k3).read z1 rd0
  have m4 := (k2.trans k3).read z1 rd1
  have hc3 := hc.keep k13
  have hl3 := hl.keep k13
  have hnot : una UnOp.not (Value.bool true) = some (.bool false) := rfl
  have hml := hc.ml
  clear rd2 rd0 rd1 R2 R3 hc hl
  refine call_of Try.func19 rfl (Nat.le_of_ble_eq_true rfl) (hS.no rfl _ _) ?_
  rw [Try.ntmps19, Try.results19]
  repeat' (first | simp only [↓Zabg, ↓Zabd, ↓Zabf, ↓Zaad, ↓bxC_loop, ↓Zabb, ↓Zabe, ↓Zabr, ↓Zabq, ↓Zabw, ↓Zaao, ↓Zaal, ↓Zaaf, ↓bxOp_pick, ↓bxOp_box, ↓Zaak, ↓bxOp_un, ↓Zaan, ↓Zaaj, ↓bxPut, ↓Zaaz, ↓Zaba, ↓Zaax, ↓Zabu, ↓Zabv, ↓Zabx, ↓Zaar, ↓Zaaq, ↓ev_func, ↓dstAt, ↓gval_some, Zabs, aPick_false, Zabh, sxGuardB_ff, sxIfB_f, packRes_two, List.map_cons, List.map_nil, List.nil_append, List.append_nil, ↓reduceIte, Nat.reduceEqDiff, Nat.reduceLT, Option.map_some, *, argF, List.getD_cons_zero, List.getD_cons_succ, lenI, ldP, Q.cells_agg])
  refine sxL_of (fun m ρ H4 => ∃ k : Nat, m = c.length - k ∧ k ≤ c.length ∧ H4 = H3 ∧ (∀ i j, i < k → i < j → j < c.length → ¬ Unf c w d i j) ∧ ρ 1 = .slice a c.length cap ∧ ρ 5 = .pointer (some ⟨H.size, 0, none⟩) ∧ ρ 23 = .int .i64 c.length ∧ ρ 24 = .int .i64 k)
    ⟨0, rfl, Nat.zero_le _, rfl, (fun i j hi => absurd hi (Nat.not_lt_zero i)), rfl, rfl, rfl, rfl⟩ ?_
  rintro m ρ H4 ⟨k, rfl, hk, rfl, hall, e1, e5, e23, e24⟩
  by_cases hlt : k < c.length
  · have hlt' : (k : Int) < (c.length : Int) := by omega
    have hw := wrap_succ hlt hml
    repeat' (first | simp only [↓Zabg, ↓Zabd, ↓Zabf, ↓Zaad, ↓bxC_loop, ↓Zabb, ↓Zabc, ↓Zabr, ↓Zabq, ↓Zabw, ↓Zaal, ↓Zaaf, ↓Zaag, ↓bxPut, ↓Zaaz, ↓Zaay, ↓Zaab, ↓Zaau, ↓Zaat, ↓Zabx, ↓Zaar, ↓Zaaq, Zabs, Zaaa, Zaas, sxIfB_t, ↓reduceIte, Nat.reduceEqDiff, Nat.reduceLT, dec_T, *])
    refine sxL_of (fun m ρ H5 => ∃ l : Nat, m = c.length - l ∧ k < l ∧ l ≤ c.length ∧ H5 = H4 ∧ (∀ j, k < j → j < l → ¬ Unf c w d k j) ∧ ρ 1 = .slice a c.length cap ∧ ρ 5 = .pointer (some ⟨H.size, 0, none⟩) ∧ ρ 8 = .int .i64 k ∧ ρ 9 = .int .i64 l ∧ ρ 23 = .int .i64 c.length ∧ ρ 24 = .int .i64 k)
      ⟨k + 1, rfl, by omega, by omega, rfl, (fun j h1 h2 => by omega), by first | rfl | assumption, by first | rfl | assumption, rfl, rfl, by first | rfl | assumption, by first | rfl | assumption⟩ ?_
    clear e1 e5 e23 e24
    rintro m ρ H5 ⟨l, rfl, hkl, hl, rfl, hall2, e1, e5, e8, e9, e23, e24⟩
    by_cases hlt2 : l < c.length
    · have hlt2' : (l : Int) < (c.length : Int) := by omega
      have hw2 := wrap_succ hlt2 hml
      have hwl := hShr.1
      have hik := SlI_ix hc3 hlt
      have hil := SlI_ix hc3 hlt2
      have hjk := SlI_ix hl3 (show k < w.length by omega)
      have hjl := SlI_ix hl3 (show l < w.length by omega)
      have rik := (hc3.rdI hlt).1
      have ril := (hc3.rdI hlt2).1
      have rjk := (hl3.rdI (show k < w.length by omega)).1
      have rjl := (hl3.rdI (show l < w.length by omega)).1
      obtain ⟨b1, b2, b3⟩ := shr_in hP hShr hlt
      obtain ⟨b4, b5, b6⟩ := shr_in hP hShr hlt2
      have w1 : IntKind.i64.wrap (w.getD k 0 + w.getD l 0) = w.getD k 0 + w.getD l 0 := IntWalk.i64_in _ (by omega)
      have w2 : IntKind.i64.wrap (c.getD k 0 * d) = c.getD k 0 * d := IntWalk.i64_in _ (by omega)
      have w3 : IntKind.i64.wrap (c.getD l 0 * d) = c.getD l 0 * d := IntWalk.i64_in _ (by omega)
      have w4 : IntKind.i64.wrap (2 * w.getD k 0) = 2 * w.getD k 0 := IntWalk.i64_in _ (by omega)
      have ft := (twice_runs hS (w.getD k 0 + w.getD l 0) (c.getD k 0 * d) (c.getD l 0 * d) (H5.relow H5.size) (by omega) (by omega) (by omega)).bx
      by_cases hu : Unf c w d k l
      · have hres : Res c w d [(k : Int), (l : Int)] := .inl ⟨k, l, hkl, hlt2, rfl, hu, hall, hall2⟩
        unfold Unf at hu
        obtain ⟨H6, e6, k6, z6, -, -⟩ := box1 H5 [.int .i64 k, .int .i64 l] 3
        have ol : Own H6 H5.size 3 [.int .i64 k, .int .i64 l] := e6 ▸ Own.new H5 _ _
        have hmx : Go.maxLen = 9223372036854775807 := rfl
        have sl := sl2 ol (by omega) (by omega)
        have k06 := k13.trans k6
        have g06 := k06.grp hg
        clear hc3 hl3 hP hShr ol hall hall2 b1 b2 b3 b4 b5 b6 hmx hwl
        generalize twice (w.getD k 0 + w.getD l 0) (c.getD k 0 * d) (c.getD l 0 * d) = T at *
        generalize w.getD k 0 = wk at *
        repeat' (first | simp only [↓Zabg, ↓sxC_draw, ↓Zabd, ↓Zabf, ↓Zaad, ↓Zabb, ↓Zabc, ↓Zabe, ↓Zabr, ↓Zabq, ↓Zabn, ↓Zaae, ↓Zabm, ↓sxDL_assign, ↓sxDL_load, ↓sxDL_binOp, ↓sxDL_fieldAddr, ↓Zabl, ↓sxD_same, ↓Zabw, ↓Zaal, ↓Zaaf, ↓bxOp_buildSlice, ↓Zaak, ↓Zaag, ↓Zaah, ↓Zaai, ↓Zaan, ↓Zaaj, ↓bxPut, ↓Zaaz, ↓Zaay, ↓Zaba, ↓Zaac, ↓blockQ_ret, ↓Zaab, ↓Zaau, ↓Zaat, ↓loopQ_ret, ↓Zaax, ↓Zabu, ↓Zabv, ↓Zabx, ↓Zaar, ↓Zaaq, ↓ev_func, Zabs, Zaaa, Zaas, Zabh, sxIfB_t, packRes_two, List.map_cons, List.map_nil, List.nil_append, List.append_nil, ↓reduceIte, Nat.reduceEqDiff, Nat.reduceLT, dec_T, true_and, aLoad_relow, Nat.add_zero, one1, Option.bind_some, not_false_eq_true, *, lenI, ldI, ldIs, paG0, paG1, bs2, Nat.zero_add] | (with_reducible first | refine Zabj (by assumption) (by decide +kernel) ?_ | refine Zabi (by decide +kernel) ?_ | refine sxD_bar (by decide +kernel) ?_ | refine Zabk ?_))
        exact ⟨_, _, _, _, rfl, hres, sl⟩
      · have hall3 : ∀ j, k < j → j < l + 1 → ¬ Unf c w d k j := fun j h1 h2 => by
          rcases Nat.lt_or_ge j l with h | h
          · exact hall2 j h1 h
          · rw [show j = l by omega]; exact hu
        have hu2 : twice (w.getD k 0 + w.getD l 0) (c.getD k 0 * d) (c.getD l 0 * d) = 2 * w.getD k 0 := Decidable.not_not.1 hu
        clear hc3 hl3 hP hShr hall hall2 b1 b2 b3 b4 b5 b6 hwl hu
        repeat' (first | simp only [↓Zabg, ↓sxC_draw, ↓Zabd, ↓Zabf, ↓Zaad, ↓Zabb, ↓Zabc, ↓Zabe, ↓Zabr, ↓Zabq, ↓Zabn, ↓Zaae, ↓Zabm, ↓sxDL_assign, ↓sxDL_load, ↓sxDL_binOp, ↓sxDL_fieldAddr, ↓Zabl, ↓sxD_same, ↓Zabw, ↓Zaal, ↓Zaaf, ↓bxOp_buildSlice, ↓Zaak, ↓Zaag, ↓Zaah, ↓Zaai, ↓Zaan, ↓Zaaj, ↓bxPut, ↓Zaaz, ↓Zaay, ↓Zaba, ↓Zaac, ↓blockQ_ret, ↓Zaab, ↓Zaau, ↓Zaat, ↓loopQ_ret, ↓Zaax, ↓Zabu, ↓Zabv, ↓Zabx, ↓Zaar, ↓Zaaq, ↓ev_func, Zabs, Zaaa, Zaas, Zabh, sxIfB_t, sxIfB_f, packRes_two, List.map_cons, List.map_nil, List.nil_append, List.append_nil, ↓reduceIte, Nat.reduceEqDiff, Nat.reduceLT, dec_T, dec_F, true_and, and_true, and_self, aLoad_relow, Nat.add_zero, one1, Option.bind_some, not_true_eq_false, *, lenI, ldI, ldIs, paG0, paG1, Nat.zero_add] | (with_reducible first | refine Zabj (by assumption) (by decide +kernel) ?_ | refine Zabi (by decide +kernel) ?_ | refine sxD_bar (by decide +kernel) ?_ | refine Zabk ?_))
        exact ⟨_, by omega, l + 1, rfl, by omega, by omega, hall3, rfl⟩
    · have hlt2' : ¬ (l : Int) < (c.length : Int) := by omega
      have hall3 : ∀ i j, i < k + 1 → i < j → j < c.length → ¬ Unf c w d i j := fun i j h1 h2 h3 => by
        rcases Nat.lt_or_ge i k with h | h
        · exact hall i j h h2 h3
        · obtain rfl : i = k := by omega
          exact hall2 j h2 (by omega)
      clear hc3 hl3 hP hShr hall hall2
      repeat' (first | simp only [↓Zabg, ↓sxC_draw, ↓Zabd, ↓Zabf, ↓Zaad, ↓Zabb, ↓Zabc, ↓Zabe, ↓Zabr, ↓Zabq, ↓Zabn, ↓Zaae, ↓Zabm, ↓sxDL_assign, ↓sxDL_load, ↓sxDL_binOp, ↓sxDL_fieldAddr, ↓Zabl, ↓Zabw, ↓Zaal, ↓Zaaf, ↓bxOp_buildSlice, ↓Zaak, ↓Zaag, ↓Zaah, ↓Zaai, ↓Zaan, ↓Zaaj, ↓bxPut, ↓Zaaz, ↓Zaay, ↓Zaba, ↓Zaac, ↓blockQ_ret, ↓Zaab, ↓Zaau, ↓Zaat, ↓loopQ_ret, ↓Zaax, ↓Zabu, ↓Zabv, ↓Zabx, ↓Zaar, ↓Zaaq, ↓ev_func, Zabs, Zaaa, Zaas, Zabh, sxIfB_f, packRes_two, List.nil_append, ↓reduceIte, Nat.reduceEqDiff, Nat.reduceLT, dec_F, true_and, *, lenI] | (with_reducible first | refine Zabj (by assumption) (by decide +kernel) ?_ | refine Zabi (by decide +kernel) ?_ | refine sxD_bar (by decide +kernel) ?_ | refine Zabk ?_))
      exact ⟨_, by omega, k + 1, rfl, by omega, hall3, rfl⟩
  · have hlt' : ¬ (k : Int) < (c.length : Int) := by omega
    have hres : Res c w d [] := .inr ⟨rfl, fun i j h1 h2 => hall i j (by omega) h1 h2⟩
    have sl := SlI_nilE (k := .i64) H4
    clear hc3 hl3 hP hShr hall
    repeat' (first | simp only [↓Zabg, ↓Zabd, ↓Zabf, ↓Zaad, ↓bxC_loop, ↓Zabb, ↓Zabc, ↓Zabr, ↓Zabq, ↓Zabw, ↓Zaal, ↓Zaaf, ↓Zaag, ↓bxPut, ↓Zaaz, ↓Zaay, ↓Zaab, ↓Zaau, ↓Zaat, ↓Zabx, ↓Zaar, ↓Zaaq, Zabs, Zaaa, Zaas, sxIfB_f, ↓reduceIte, Nat.reduceEqDiff, Nat.reduceLT, dec_F, true_and, *])
    exact ⟨_, _, _, _, rfl, hres, sl⟩
theorem Fair_bad (e : Int) (v v2 : Value) (c w : List Int) (d : Int) (r o r2 o2 : Nat) (H : Heap) (hg : Grp H) (hL : H.low ≤ H.size) (hc : SlI .i64 H v c r o) (hl : SlI .i64 H v2 w r2 o2) (hB : ¬ (Q.Prob e c ∧ Q.Shr e c w d)) :
    ∃ H', Keep H H' ∧ Runs Try.prog S (.fn 19) [.int .i64 e, v, .agg ⟨[v2, .int .i64 d]⟩] H (.tuple #[.slice none 0 0, .int .i64 2]) H' := by
  suffices h : WCall Try.prog S (.fn 19) [.int .i64 e, v, .agg ⟨[v2, .int .i64 d]⟩] H (fun z H' => z = .tuple #[.slice none 0 0, .int .i64 2] ∧ Keep H H') by
    obtain ⟨_, H', hr, rfl, h1⟩ := h; exact ⟨H', h1, hr⟩
  obtain ⟨H1, e1, k1, z1, rd2, rd0, rd1⟩ := Q.boxP H v2 (.int .i64 d)
  obtain ⟨H2, k2, R2⟩ := Q.isProblem_runs hS e v c r o H1 (hc.keep k1)
  have f2 := R2.bx
  have k12 := k1.trans k2
  have m2 := k2.read z1 rd2
  have hnot : una UnOp.not (Value.bool true) = some (.bool false) := rfl
  have hnot2 : una UnOp.not (Value.bool false) = some (.bool true) := rfl
  refine call_of Try.func19 rfl (Nat.le_of_ble_eq_true rfl) (hS.no rfl _ _) ?_
  rw [Try.ntmps19, Try.results19]
  by_cases hP : Q.Prob e c
  · obtain ⟨H3, k3, R3⟩ := Q.areShares_runs hS e _ _ c w d r o r2 o2 H2 (k12.low hL) (hc.keep k12) (hl.keep k12) hP
    have f3 := R3.bx
    rw [decide_eq_false (fun h => hB ⟨hP, h⟩)] at f3
    rw [decide_eq_true hP] at f2
    have k13 := k12.trans k3
    clear rd2 rd0 rd1 R2 R3 hc hl hB hP
    repeat' (first | simp only [↓Zabg, ↓Zabd, ↓Zabf, ↓Zaad, ↓bxC_loop, ↓Zabb, ↓Zabe, ↓Zabr, ↓Zabq, ↓Zabw, ↓Zaao, ↓Zaal, ↓Zaaf, ↓bxOp_pick, ↓bxOp_box, ↓Zaak, ↓bxOp_un, ↓Zaan, ↓Zaaj, ↓bxPut, ↓Zaaz, ↓Zaba, ↓Zaax, ↓Zabu, ↓Zabv, ↓Zabx, ↓Zaar, ↓Zaaq, ↓ev_func, ↓dstAt, ↓gval_some, Zabs, aPick_false, Zabh, sxGuardB_ff, sxIfB_t, packRes_two, List.map_cons, List.map_nil, List.nil_append, List.append_nil, ↓reduceIte, Nat.reduceEqDiff, Nat.reduceLT, and_self, Option.map_some, *, argF, List.getD_cons_zero, List.getD_cons_succ, ldP, Q.cells_agg])
  · rw [decide_eq_false hP] at f2
    clear rd2 rd0 rd1 R2 hc hl hB hP
    repeat' (first | simp only [↓Zabg, ↓Zabd, ↓Zabf, ↓Zaad, ↓bxC_loop, ↓Zabb, ↓Zabe, ↓Zabr, ↓Zabq, ↓Zabw, ↓Zaao, ↓Zaal, ↓Zaaf, ↓bxOp_pick, ↓bxOp_box, ↓Zaak, ↓bxOp_un, ↓Zaan, ↓Zaaj, ↓bxPut, ↓Zaaz, ↓Zaba, ↓Zaax, ↓Zabu, ↓Zabv, ↓Zabx, ↓Zaar, ↓Zaaq, ↓ev_func, ↓dstAt, ↓gval_some, Zabs, aPick_true, Zabh, sxGuardB_ft, sxIfB_t, packRes_two, List.map_cons, List.map_nil, List.nil_append, List.append_nil, ↓reduceIte, Nat.reduceEqDiff, Nat.reduceLT, and_self, *, argF, List.getD_cons_zero, List.getD_cons_succ, Q.cells_agg])

theorem sameG_runs (v1 v2 : Value) (w u : List Int) (r1 o1 r2 o2 : Nat) (H : Heap) (hL : H.low ≤ H.size) (h1 : SlI .i64 H v1 w r1 o1) (h2 : SlI .i64 H v2 u r2 o2) : Runs Try.prog S (.fn 35) [v1, v2] H (.bool (decide (w = u))) H := by
  suffices h : WCall Try.prog S (.fn 35) [v1, v2] H (fun v H' => v = .bool (decide (w = u)) ∧ H' = H) by
    obtain ⟨_, _, hr, rfl, rfl⟩ := h; exact hr
  obtain ⟨a1, c1, rfl⟩ := h1.v0
  obtain ⟨a2, c2, rfl⟩ := h2.v0
  have hml := h1.ml
  by_cases hlen : (w.length : Int) = (u.length : Int)
  case neg =>
    have hne : ¬ w = u := fun h => hlen (by rw [h])
    have d0 : decide (¬ (w.length : Int) = (u.length : Int)) = true := decide_eq_true hlen
    rw [decide_eq_false hne]
    clear h1 h2 hne hlen
    refine call_of Try.func35 rfl (Nat.le_of_ble_eq_true rfl) (hS.no rfl _ _) ?_
    rw [Try.ntmps35, Try.results35]
    repeat' (first | simp only [↓Zabg, ↓Zabd, ↓Zabf, ↓Zaad, ↓bxC_loop, ↓Zabb, ↓Zabe, ↓Zabr, ↓Zabq, ↓Zabw, ↓Zaal, ↓Zaaf, ↓Zaag, ↓Zaaj, ↓bxPut, ↓Zaaz, ↓Zaba, ↓Zaax, ↓Zabu, ↓Zabv, ↓Zabx, ↓Zaar, ↓Zaaq, Zabs, Zaaa, Zaas, sxIfB_t, Zaav, ↓reduceIte, Nat.reduceEqDiff, Nat.reduceLT, and_self, *, argF, List.getD_cons_zero, List.getD_cons_succ, lenI])
  have d0 : decide (¬ (w.length : Int) = (u.length : Int)) = false := decide_eq_false fun h => h hlen
  have hl1 : u.length ≤ w.length ∧ w.length ≤ u.length := by omega
  clear hlen
  have hgb : ∃ b, b = decide (w = u) := ⟨_, rfl⟩
  obtain ⟨b, hb⟩ := hgb
  rw [← hb]
  refine call_of Try.func35 rfl (Nat.le_of_ble_eq_true rfl) (hS.no rfl _ _) ?_
  rw [Try.ntmps35, Try.results35]
  repeat' (first | simp only [↓Zabg, ↓Zabd, ↓Zabf, ↓Zaad, ↓bxC_loop, ↓Zabb, ↓Zabe, ↓Zabr, ↓Zabq, ↓Zabw, ↓Zaal, ↓Zaaf, ↓Zaag, ↓Zaaj, ↓bxPut, ↓Zaaz, ↓Zaba, ↓Zaax, ↓Zabu, ↓Zabv, ↓Zabx, ↓Zaar, ↓Zaaq, Zabs, Zaaa, Zaas, sxIfB_f, Zaav, ↓reduceIte, Nat.reduceEqDiff, Nat.reduceLT, *, argF, List.getD_cons_zero, List.getD_cons_succ, lenI])
  refine sxL_of (fun m ρ H1 => ∃ k : Nat, m = w.length - k ∧ k ≤ w.length ∧ H1 = H ∧ (∀ i, i < k → w.getD i 0 = u.getD i 0) ∧ ρ 0 = .slice a1 w.length c1 ∧ ρ 1 = .slice a2 u.length c2 ∧ ρ 5 = .int .i64 k)
    ⟨0, rfl, Nat.zero_le _, rfl, fun i hi => absurd hi (Nat.not_lt_zero i), rfl, rfl, rfl⟩ ?_
  rintro m ρ H1 ⟨k, rfl, hk, rfl, hall, e0, e1, e5⟩
  by_cases hlt : k < w.length
  · have hlt' : (k : Int) < (w.length : Int) := by omega
    have hw := wrap_succ hlt hml
    have p1 := SlI_ix h1 hlt
    have p2 := SlI_ix h2 (show k < u.length by omega)
    have q1 := (h1.rdI hlt).1
    have q2 := (h2.rdI (i := k) (by omega)).1
    by_cases hxy : w.getD k 0 = u.getD k 0
    · have hall2 : ∀ i, i < k + 1 → w.getD i 0 = u.getD i 0 := fun i hi => by
        rcases Nat.lt_or_ge i k with h | h
        · exact hall i h
        · rw [show i = k by omega]; exact hxy
      have d1 : decide (¬ u.getD k 0 = u.getD k 0) = false := decide_eq_false fun h => h rfl
      rw [hxy] at q1
      have hgx : ∃ x, x = u.getD k 0 := ⟨_, rfl⟩
      obtain ⟨x, hx⟩ := hgx
      rw [← hx] at q1 q2 d1
      clear h1 h2 hall hxy hb hx
      repeat' (first | simp only [↓Zabg, ↓sxC_draw, ↓Zabd, ↓Zabf, ↓Zaad, ↓Zabb, ↓Zabc, ↓Zabe, ↓Zabr, ↓Zabq, ↓Zabn, ↓Zaae, ↓Zabm, ↓sxDL_load, ↓sxDL_binOp, ↓Zabl, ↓sxD_same, ↓Zabw, ↓Zaal, ↓Zaaf, ↓Zaak, ↓Zaag, ↓Zaai, ↓Zaaj, ↓bxPut, ↓Zaaz, ↓Zaay, ↓Zaba, ↓Zaac, ↓blockQ_ret, ↓Zaab, ↓Zaau, ↓Zaat, ↓loopQ_ret, ↓Zaax, ↓Zabu, ↓Zabv, ↓Zabx, ↓Zaar, ↓Zaaq, Zabs, Zaaa, Zaas, sxIfB_t, sxIfB_f, Zaav, ↓reduceIte, Nat.reduceEqDiff, Nat.reduceLT, dec_T, dec_F, true_and, aLoad_relow, one1, Option.bind_some, not_true_eq_false, *, lenI, ldI] | (with_reducible first | refine Zabj (by assumption) (by decide +kernel) ?_ | refine Zabi (by decide +kernel) ?_ | refine sxD_bar (by decide +kernel) ?_ | refine Zabk ?_))
      exact ⟨_, by omega, k + 1, rfl, by omega, hall2, rfl⟩
    · have d1 : decide (¬ w.getD k 0 = u.getD k 0) = true := decide_eq_true hxy
      have hbf : b = false := by rw [hb]; exact decide_eq_false fun h => hxy (by rw [h])
      subst hbf
      clear h1 h2 hall hxy hb
      repeat' (first | simp only [↓Zabg, ↓sxC_draw, ↓Zabd, ↓Zabf, ↓Zaad, ↓Zabb, ↓Zabc, ↓Zabe, ↓Zabr, ↓Zabq, ↓Zabn, ↓Zaae, ↓Zabm, ↓sxDL_load, ↓sxDL_binOp, ↓Zabl, ↓sxD_same, ↓Zabw, ↓Zaal, ↓Zaaf, ↓Zaak, ↓Zaag, ↓Zaai, ↓Zaaj, ↓bxPut, ↓Zaaz, ↓Zaay, ↓Zaba, ↓Zaac, ↓blockQ_ret, ↓Zaab, ↓Zaau, ↓Zaat, ↓loopQ_ret, ↓Zaax, ↓Zabu, ↓Zabv, ↓Zabx, ↓Zaar, ↓Zaaq, Zabs, Zaaa, Zaas, sxIfB_t, Zaav, ↓reduceIte, Nat.reduceEqDiff, Nat.reduceLT, dec_T, and_self, aLoad_relow, one1, Option.bind_some, *, lenI, ldI] | (with_reducible first | refine Zabj (by assumption) (by decide +kernel) ?_ | refine Zabi (by decide +kernel) ?_ | refine sxD_bar (by decide +kernel) ?_ | refine Zabk ?_))
  · have hlt' : ¬ (k : Int) < (w.length : Int) := by omega
    have hbt : b = true := by
      rw [hb]
      exact decide_eq_true (list_is (fun i => u.getD i 0) rfl (by omega) (fun i hi => hall i (by omega)) (fun i hi => rfl))
    subst hbt
    clear h1 h2 hall hb
    repeat' (first | simp only [↓Zabg, ↓sxC_draw, ↓Zabd, ↓Zabf, ↓Zaad, ↓Zabb, ↓Zabc, ↓Zabe, ↓Zabr, ↓Zabq, ↓Zabn, ↓Zaae, ↓Zabm, ↓sxDL_load, ↓sxDL_binOp, ↓Zabl, ↓Zabw, ↓Zaal, ↓Zaaf, ↓Zaak, ↓Zaag, ↓Zaai, ↓Zaaj, ↓bxPut, ↓Zaaz, ↓Zaay, ↓Zaba, ↓Zaac, ↓blockQ_ret, ↓Zaab, ↓Zaau, ↓Zaat, ↓loopQ_ret, ↓Zaax, ↓Zabu, ↓Zabv, ↓Zabx, ↓Zaar, ↓Zaaq, Zabs, Zaaa, Zaas, sxIfB_f, Zaav, ↓reduceIte, Nat.reduceEqDiff, Nat.reduceLT, dec_F, and_self, *, lenI] | (with_reducible first | refine Zabj (by assumption) (by decide +kernel) ?_ | refine Zabi (by decide +kernel) ?_ | refine sxD_bar (by decide +kernel) ?_ | refine Zabk ?_))
theorem cpartsG_runs (v1 v2 : Value) (w u : List Int) (d x : Int) (r1 o1 r2 o2 : Nat) (H : Heap) (hL : H.low ≤ H.size) (h1 : SlI .i64 H v1 w r1 o1) (h2 : SlI .i64 H v2 u r2 o2) : ∃ H', Keep H H' ∧ Runs Try.prog S (.fn 20) [.agg ⟨[v1, .int .i64 d]⟩, .agg ⟨[v2, .int .i64 x]⟩] H (.bool (decide (d = x ∧ w = u))) H' := by
  suffices h : WCall Try.prog S (.fn 20) [.agg ⟨[v1, .int .i64 d]⟩, .agg ⟨[v2, .int .i64 x]⟩] H (fun v H' => v = .bool (decide (d = x ∧ w = u)) ∧ Keep H H') by
    obtain ⟨_, H', hr, rfl, hk⟩ := h; exact ⟨H', hk, hr⟩
  obtain ⟨a1, c1, rfl⟩ := h1.v0
  obtain ⟨a2, c2, rfl⟩ := h2.v0
  obtain ⟨H1, e1, k1, s1, rd2, rd0, rd1⟩ := Q.boxP H (.slice a1 w.length c1) (.int .i64 d)
  obtain ⟨H2, e2, k2, s2, re2, re0, re1⟩ := Q.boxP H1 (.slice a2 u.length c2) (.int .i64 x)
  have k12 := k1.trans k2
  have m0 := k2.read s1 rd0
  have m1 := k2.read s1 rd1
  have hL2 := k12.low hL
  have fs := (sameG_runs hS _ _ w u r1 o1 r2 o2 (H2.relow H2.size) (Nat.le_refl _) ((h1.keep k12).keep (Keep.relowS _)) ((h2.keep k12).keep (Keep.relowS _))).bx
  have fs2 := (sameG_runs hS _ _ w u r1 o1 r2 o2 H2 hL2 (h1.keep k12) (h2.keep k12)).bx
  have hgb : ∃ b, b = decide (w = u) := ⟨_, rfl⟩
  obtain ⟨b, hb⟩ := hgb
  have hres : decide (d = x ∧ w = u) = (decide (d = x) && b) := by rw [hb]; exact Bool.decide_and _ _
  rw [← hb] at fs fs2
  rw [hres]
  clear h1 h2 rd2 re2 hb hres
  by_cases hdx : d = x
  · have d0 : decide (d = x) = true := decide_eq_true hdx
    rw [d0, Bool.true_and]
    clear hdx
    refine call_of Try.func20 rfl (Nat.le_of_ble_eq_true rfl) (hS.no rfl _ _) ?_
    rw [Try.ntmps20, Try.results20]
    repeat' (first | simp only [↓Zabd, ↓Zabf, ↓Zabe, ↓Zabr, ↓Zabq, ↓Zabw, ↓Zaao, ↓Zaal, ↓Zaaf, ↓bxOp_pick, ↓bxOp_box, ↓Zaak, ↓Zaag, ↓Zaah, ↓Zaan, ↓bxPut, ↓Zaaz, ↓Zaax, ↓Zabu, ↓Zabv, ↓Zabx, ↓Zaar, ↓Zaaq, ↓ev_func, ↓dstAt, ↓gval_some, Zabs, Zaaa, Zaas, aPick_true, Zabh, sxGuardB_tt, Zaav, List.map_cons, List.map_nil, List.nil_append, List.append_nil, ↓reduceIte, Nat.reduceEqDiff, Nat.reduceLT, and_self, Nat.add_zero, one1, Option.bind_some, *, argF, List.getD_cons_zero, List.getD_cons_succ, ldI, ldIs, paG0, paG1, Q.cells_agg, Nat.zero_add])
  · have d0 : decide (d = x) = false := decide_eq_false hdx
    rw [d0, Bool.false_and]
    clear hdx
    refine call_of Try.func20 rfl (Nat.le_of_ble_eq_true rfl) (hS.no rfl _ _) ?_
    rw [Try.ntmps20, Try.results20]
    repeat' (first | simp only [↓Zabd, ↓Zabf, ↓Zabe, ↓Zabr, ↓Zabq, ↓Zabw, ↓Zaao, ↓Zaal, ↓Zaaf, ↓bxOp_pick, ↓bxOp_box, ↓Zaak, ↓Zaag, ↓Zaah, ↓Zaan, ↓bxPut, ↓Zaaz, ↓Zaax, ↓Zabu, ↓Zabv, ↓Zabx, ↓Zaar, ↓Zaaq, ↓ev_func, ↓dstAt, ↓gval_some, Zabs, Zaaa, Zaas, aPick_false, Zabh, sxGuardB_tf, Zaav, List.nil_append, ↓reduceIte, Nat.reduceEqDiff, Nat.reduceLT, and_self, one1, Option.bind_some, *, argF, List.getD_cons_zero, List.getD_cons_succ, ldI, paG1, Q.cells_agg, Nat.zero_add])
end Go.Proofs.Ytpeoleimmabceaa
