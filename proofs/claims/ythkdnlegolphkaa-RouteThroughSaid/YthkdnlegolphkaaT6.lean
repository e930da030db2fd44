/- Look and Then. -/
import Derived.Test.YthkdnlegolphkaaT5
set_option linter.unusedVariables false
set_option linter.unusedSimpArgs false
set_option linter.unusedSectionVars false

namespace Go.Proofs.Ythkdnlegolphkaa
open Go Go.AM
set_option maxRecDepth 10000

def LookQ (w : List Pt) (z v e : Int) : Prop :=
  (¬ (ProfOk w ∧ 0 ≤ z ∧ z ≤ 20000) → v = 0 ∧ e = 2) ∧
  (ProfOk w ∧ 0 ≤ z ∧ z ≤ 20000 → ∃ i, FirstP w z i ∧ (i < w.length → v = (w.getD i default).2 ∧ e = 0) ∧ (¬ i < w.length → v = 0 ∧ e = 10))
theorem LookQ.eq {w : List Pt} {z v e v' e' : Int} (h : LookQ w z v e) (k : LookQ w z v' e') : v = v' ∧ e = e' := by
  by_cases hg : ProfOk w ∧ 0 ≤ z ∧ z ≤ 20000
  · obtain ⟨i, h1, h2, h3⟩ := h.2 hg
    obtain ⟨j, k1, k2, k3⟩ := k.2 hg
    obtain rfl := h1.eq k1
    by_cases hi : i < w.length
    · have := h2 hi; have := k2 hi; omega
    · have := h3 hi; have := k3 hi; omega
  · have := h.1 hg; have := k.1 hg; omega
def ThenTo (A B : List Pt) (wait : Int) (n : Nat) (d a : Int) : Prop := ∃ k, k < n ∧ d = (A.getD k default).1 ∧ ∃ i, FirstP B ((A.getD k default).2 + wait) i ∧ i < B.length ∧ a = (B.getD i default).2
theorem ThenTo.succ {A B : List Pt} {wait : Int} {n : Nat} {d a : Int} : ThenTo A B wait (n + 1) d a ↔ ThenTo A B wait n d a ∨ (d = (A.getD n default).1 ∧ ∃ i, FirstP B ((A.getD n default).2 + wait) i ∧ i < B.length ∧ a = (B.getD i default).2) := by
  constructor
  · rintro ⟨k, hk, h⟩
    rcases Nat.lt_or_ge k n with h1 | h1
    · exact .inl ⟨k, h1, h⟩
    · rw [show k = n by omega] at h; exact .inr h
  · rintro (⟨k, hk, h⟩ | h)
    · exact ⟨k, by omega, h⟩
    · exact ⟨n, Nat.lt_succ_self n, h⟩
def GoodT (A B : List Pt) (wait : Int) : Prop := ProfOk A ∧ ProfOk B ∧ 0 ≤ wait ∧ wait ≤ 100
def PostThen (H : Heap) (A B : List Pt) (wait : Int) (u : Value) (H' : Heap) : Prop :=
  ∃ (x : Value) (e : Int) (R : List Pt), u = .tuple ⟨[x, .int .i64 e]⟩ ∧ PtsIn H H' x R.toArray ∧ R.length ≤ A.length ∧ (¬ GoodT A B wait → e = 2 ∧ R = []) ∧ (GoodT A B wait → e = 0 ∧ BestOf (ThenP A B wait) R)
theorem PtsIn.nil {H0 H : Heap} (hk : Keep H0 H) (hg : Grp H0) : PtsIn H0 H (.slice none 0 0) ([] : List Pt).toArray := ⟨(fun i hi => absurd hi (Nat.not_lt_zero i)), Nat.zero_le _, hg, hk, .inl ⟨rfl, rfl⟩⟩
theorem bdS (x y : Int) : aBuild Try.prog 40 [(0, .int .i64 x), (1, .int .i64 y)] = some (.agg ⟨[.int .i64 x, .int .i64 y]⟩) := by kernel_rfl

variable {S : AM.Sys} (hS : Only S 10)
include hS

set_option maxHeartbeats 2000000 in
theorem Look_runs (w : List Pt) (v : Value) (r o : Nat) (z : Int) (H : Heap) (hL : H.low ≤ H.size) (hl : SlP H v w r o) :
    ∃ x e H', Keep H H' ∧ LookQ w z x e ∧ Runs Try.prog S (.fn 15) [v, .int .i64 z] H (.tuple ⟨[.int .i64 x, .int .i64 e]⟩) H' := by
  suffices h : WCall Try.prog S (.fn 15) [v, .int .i64 z] H (fun u H' => ∃ x e, Keep H H' ∧ LookQ w z x e ∧ u = .tuple ⟨[.int .i64 x, .int .i64 e]⟩) by
    obtain ⟨_, H', hr, x, e, h1, h2, rfl⟩ := h; exact ⟨x, e, H', h1, h2, hr⟩
  obtain ⟨b, H1, hK1, hb, hR⟩ := isProf_runs hS w v r o H hL hl
  obtain ⟨a, c, rfl⟩ := hl.v0
  have f1 := hR.bx
  have f2 := (isWithin_runs hS z 0 20000 H1).bx
  refine Zaaz Try.func15 rfl (Nat.le_of_ble_eq_true rfl) (hS.no rfl _ _) ?_
  rw [Try.ntmps15, Try.results15]
  have hbad : ¬ (ProfOk w ∧ 0 ≤ z ∧ z ≤ 20000) → ∃ x e, Keep H H1 ∧ LookQ w z x e ∧ Value.tuple ⟨[.int .i64 0, .int .i64 2]⟩ = .tuple ⟨[.int .i64 x, .int .i64 e]⟩ := fun hn => ⟨0, 2, hK1, ⟨fun _ => ⟨rfl, rfl⟩, fun h => absurd h hn⟩, rfl⟩
  cases b with
  | false =>
    have hp := hbad (fun h => by have := hb.2 h.1; cases this)
    clear hbad hl hR hb hK1
    repeat' (first | simp only [↓Zaby, ↓Zabv, ↓Zabx, ↓Zaai, ↓Zabw, ↓Zacs, ↓Zacr, ↓Zacx, ↓Zaay, ↓Zaat, ↓Zaam, ↓Zaau, ↓Zaaw, ↓Zaap, ↓Zaax, ↓bxPut, ↓Zabq, ↓Zabr, ↓Zabo, ↓Zacv, ↓Zacw, ↓Zacy, ↓Zabe, ↓Zabc, ↓Zabd, ↓dstAt, ↓Zabf, Zact, una_nf, Zaad, Zabz, sxGuardB_ft, Zacq, Zabl, List.map_cons, List.map_nil, List.nil_append, List.append_nil, ↓reduceIte, Nat.reduceEqDiff, Nat.reduceLT, *, argF, List.getD_cons_zero, Zabl])
  | true =>
    have hpr := hb.1 rfl
    by_cases hz : 0 ≤ z ∧ z ≤ 20000
    case neg =>
      have hp := hbad (fun h => hz h.2)
      rw [decide_eq_false hz] at f2
      clear hbad hl hR hb hK1 hz
      repeat' (first | simp only [↓Zaby, ↓Zabv, ↓Zabx, ↓Zaai, ↓Zabw, ↓Zacs, ↓Zacr, ↓Zacx, ↓Zaay, ↓Zaat, ↓Zaam, ↓Zaau, ↓Zaaw, ↓Zaap, ↓Zaax, ↓bxPut, ↓Zabq, ↓Zabr, ↓Zabo, ↓Zacv, ↓Zacw, ↓Zacy, ↓Zabe, ↓Zabc, ↓Zabd, ↓dstAt, ↓Zabf, Zact, una_nt, una_nf, Zaac, Zabz, sxGuardB_ff, Zacq, Zabl, List.map_cons, List.map_nil, List.nil_append, List.append_nil, ↓reduceIte, Nat.reduceEqDiff, Nat.reduceLT, *, argF, List.getD_cons_zero, List.getD_cons_succ, Zabl])
    rw [decide_eq_true hz] at f2
    have hlo := look_runs hS w _ r o z H1 (hl.keep hK1) hpr
    obtain ⟨i, H2, hfp, hK2, hR2⟩ := hlo
    have f3 := hR2.bx
    have hK := hK1.trans hK2
    by_cases hi : i < w.length
    · rw [if_pos hi, decide_eq_true hi] at f3
      have hp : ∃ x e, Keep H H2 ∧ LookQ w z x e ∧ Value.tuple ⟨[.int .i64 (w.getD i default).2, .int .i64 0]⟩ = .tuple ⟨[.int .i64 x, .int .i64 e]⟩ := ⟨_, 0, hK, ⟨fun hn => absurd ⟨hpr, hz⟩ hn, fun _ => ⟨i, hfp, fun _ => ⟨rfl, rfl⟩, fun h => absurd hi h⟩⟩, rfl⟩
      have ex0 : ∀ x y : Value, aExtract (.tuple ⟨[x, y]⟩) 0 = some x := fun x y => by kernel_rfl
      have ex1 : ∀ x y : Value, aExtract (.tuple ⟨[x, y]⟩) 1 = some y := fun x y => by kernel_rfl
      clear hbad hl hR hb hK1 hz hR2 hK2 hK hfp hi
      repeat' (first | simp only [↓Zaby, ↓Zabv, ↓Zabx, ↓Zaai, ↓Zabw, ↓Zacs, ↓Zacr, ↓Zacx, ↓Zaay, ↓Zaat, ↓Zaam, ↓Zaau, ↓Zaaw, ↓Zaap, ↓Zaax, ↓bxPut, ↓Zabq, ↓Zabr, ↓Zabo, ↓Zacv, ↓Zacw, ↓Zacy, ↓Zabe, ↓Zabc, ↓Zabd, ↓dstAt, ↓Zabf, Zact, una_nt, Zaac, Zabz, sxGuardB_ff, Zacp, Zabl, List.map_cons, List.map_nil, List.nil_append, List.append_nil, ↓reduceIte, Nat.reduceEqDiff, Nat.reduceLT, *, argF, List.getD_cons_zero, List.getD_cons_succ, Zabl])
    · rw [if_neg hi, decide_eq_false hi] at f3
      have hp : ∃ x e, Keep H H2 ∧ LookQ w z x e ∧ Value.tuple ⟨[.int .i64 0, .int .i64 10]⟩ = .tuple ⟨[.int .i64 x, .int .i64 e]⟩ := ⟨0, 10, hK, ⟨fun hn => absurd ⟨hpr, hz⟩ hn, fun _ => ⟨i, hfp, fun h => absurd h hi, fun _ => ⟨rfl, rfl⟩⟩⟩, rfl⟩
      have ex0 : ∀ x y : Value, aExtract (.tuple ⟨[x, y]⟩) 0 = some x := fun x y => by kernel_rfl
      have ex1 : ∀ x y : Value, aExtract (.tuple ⟨[x, y]⟩) 1 = some y := fun x y => by kernel_rfl
      clear hbad hl hR hb hK1 hz hR2 hK2 hK hfp hi
      repeat' (first | simp only [↓Zaby, ↓Zabv, ↓Zabx, ↓Zaai, ↓Zabw, ↓Zacs, ↓Zacr, ↓Zacx, ↓Zaay, ↓Zaat, ↓Zaam, ↓Zaau, ↓Zaaw, ↓Zaap, ↓Zaax, ↓bxPut, ↓Zabq, ↓Zabr, ↓Zabo, ↓Zacv, ↓Zacw, ↓Zacy, ↓Zabe, ↓Zabc, ↓Zabd, ↓dstAt, ↓Zabf, Zact, una_nt, una_nf, Zaac, Zabz, sxGuardB_ff, Zacq, Zacp, Zabl, List.map_cons, List.map_nil, List.nil_append, List.append_nil, ↓reduceIte, Nat.reduceEqDiff, Nat.reduceLT, *, argF, List.getD_cons_zero, List.getD_cons_succ, Zabl])

set_option maxHeartbeats 4000000 in
theorem Then_runs (A B : List Pt) (v v2 : Value) (r o r2 o2 : Nat) (wait : Int) (H : Heap) (hL : H.low ≤ H.size) (hg : Grp H) (hA : SlP H v A r o) (hB : SlP H v2 B r2 o2) :
    ∃ u H', Runs Try.prog S (.fn 16) [v, v2, .int .i64 wait] H u H' ∧ PostThen H A B wait u H' := by
  suffices h : WCall Try.prog S (.fn 16) [v, v2, .int .i64 wait] H (fun u H' => PostThen H A B wait u H') by
    obtain ⟨u, H', hr, h⟩ := h; exact ⟨u, H', hr, h⟩
  obtain ⟨b1, H1, hK1, hb1, hR1⟩ := isProf_runs hS A v r o H hL hA
  obtain ⟨b2, H2, hK2, hb2, hR2⟩ := isProf_runs hS B v2 r2 o2 H1 (hK1.low hL) (hB.keep hK1)
  obtain ⟨a, c, rfl⟩ := hA.v0
  obtain ⟨a2, c2, rfl⟩ := hB.v0
  have hK12 := hK1.trans hK2
  have f1 := hR1.bx
  have f2 := hR2.bx
  have f3 := (isWithin_runs hS wait 0 100 H2).bx
  have hbad : ∀ H5, Keep H H5 → ¬ GoodT A B wait → PostThen H A B wait (.tuple ⟨[.slice none 0 0, .int .i64 2]⟩) H5 := fun H5 hk hn => ⟨_, 2, [], rfl, PtsIn.nil hk hg, Nat.zero_le _, fun _ => ⟨rfl, rfl⟩, fun h => absurd h hn⟩
  refine Zaaz Try.func16 rfl (Nat.le_of_ble_eq_true rfl) (hS.no rfl _ _) ?_
  rw [Try.ntmps16, Try.results16]
  cases b1 with
  | false =>
    have hp := hbad H1 hK1 (fun h => by have := hb1.2 h.1; cases this)
    clear hbad hA hB hR1 hR2 hb1 hb2 hK1 hK2 hK12 f2 f3
    repeat' (first | simp only [↓Zaby, ↓Zabv, ↓Zabx, ↓Zaai, ↓Zaaj, ↓Zabs, ↓Zabw, ↓Zacs, ↓Zacr, ↓Zacx, ↓Zaay, ↓Zaat, ↓Zaam, ↓Zaau, ↓Zaaw, ↓Zaax, ↓bxOp_len, ↓bxPut, ↓Zabq, ↓Zabr, ↓Zabo, ↓Zacv, ↓Zacw, ↓Zacy, ↓Zabe, ↓Zabc, ↓Zabd, ↓dstAt, ↓Zabf, Zact, una_nf, Zaad, Zabz, sxGuardB_ft, Zacq, Zabl, List.map_cons, List.map_nil, List.nil_append, List.append_nil, ↓reduceIte, Nat.reduceEqDiff, Nat.reduceLT, *, argF, List.getD_cons_zero, Zabl])
  | true =>
  have hpA := hb1.1 rfl
  cases b2 with
  | false =>
    have hp := hbad H2 hK12 (fun h => by have := hb2.2 h.2.1; cases this)
    clear hbad hA hB hR1 hR2 hb1 hb2 hK1 hK2 hK12 f3
    repeat' (first | simp only [↓Zaby, ↓Zabv, ↓Zabx, ↓Zaai, ↓Zaaj, ↓Zabs, ↓Zabw, ↓Zacs, ↓Zacr, ↓Zacx, ↓Zaay, ↓Zaat, ↓Zaam, ↓Zaau, ↓Zaaw, ↓Zaax, ↓bxOp_len, ↓bxPut, ↓Zabq, ↓Zabr, ↓Zabo, ↓Zacv, ↓Zacw, ↓Zacy, ↓Zabe, ↓Zabc, ↓Zabd, ↓dstAt, ↓Zabf, Zact, una_nt, una_nf, Zaad, Zaac, Zabz, sxGuardB_ft, sxGuardB_ff, Zacq, Zabl, List.map_cons, List.map_nil, List.nil_append, List.append_nil, ↓reduceIte, Nat.reduceEqDiff, Nat.reduceLT, *, argF, List.getD_cons_zero, List.getD_cons_succ, Zabl])
  | true =>
  have hpB := hb2.1 rfl
  by_cases hz : 0 ≤ wait ∧ wait ≤ 100
  case neg =>
    have hp := hbad H2 hK12 (fun h => hz h.2.2)
    rw [decide_eq_false hz] at f3
    clear hbad hA hB hR1 hR2 hb1 hb2 hK1 hK2 hK12
    repeat' (first | simp only [↓Zaby, ↓Zabv, ↓Zabx, ↓Zaai, ↓Zaaj, ↓Zabs, ↓Zabw, ↓Zacs, ↓Zacr, ↓Zacx, ↓Zaay, ↓Zaat, ↓Zaam, ↓Zaau, ↓Zaaw, ↓Zaax, ↓bxOp_len, ↓bxPut, ↓Zabq, ↓Zabr, ↓Zabo, ↓Zacv, ↓Zacw, ↓Zacy, ↓Zabe, ↓Zabc, ↓Zabd, ↓dstAt, ↓Zabf, Zact, una_nt, una_nf, Zaac, Zabz, sxGuardB_ff, Zacq, Zabl, List.map_cons, List.map_nil, List.nil_append, List.append_nil, ↓reduceIte, Nat.reduceEqDiff, Nat.reduceLT, *, argF, List.getD_cons_zero, List.getD_cons_succ, Zabl])
  rw [decide_eq_true hz] at f3
  have hL2 := hK12.low hL
  have hg2 := hK12.grp hg
  have hmA : A.length ≤ 1000 := hpA.1
  clear hbad hb1 hb2 hR1 hR2
  repeat' (first | simp only [↓Zaby, ↓Zabv, ↓Zabx, ↓Zaai, ↓Zaaj, ↓Zabs, ↓Zabw, ↓Zacs, ↓Zacr, ↓Zacx, ↓Zaay, ↓Zaat, ↓Zaam, ↓Zaau, ↓Zaaw, ↓Zaax, ↓bxOp_len, ↓bxPut, ↓Zabq, ↓Zabr, ↓Zabo, ↓Zacv, ↓Zacw, ↓Zacy, ↓Zabe, ↓Zabc, ↓Zabd, ↓dstAt, ↓Zabf, Zact, una_nt, Zaac, Zabz, sxGuardB_ff, Zacp, Zabl, List.map_cons, List.map_nil, List.nil_append, List.append_nil, ↓reduceIte, Nat.reduceEqDiff, Nat.reduceLT, *, argF, List.getD_cons_zero, List.getD_cons_succ, lenS])
  clear f1 f2 f3
  refine sxL_of (fun m ρ H5 => ∃ (k : Nat) (lv : Value) (xs : List Pt), m = A.length - k ∧ k ≤ A.length ∧ Keep H2 H5 ∧ Grp H5 ∧ LstG stE 40 H2.size H5 lv xs ∧ xs.length ≤ k ∧ (∀ d a, (d, a) ∈ xs ↔ ThenTo A B wait k d a) ∧
      ρ 1 = .slice a2 B.length c2 ∧ ρ 2 = .int .i64 wait ∧ ρ 8 = lv ∧ ρ 26 = .slice a A.length c ∧ ρ 27 = .int .i64 (A.length : Int) ∧ ρ 28 = .int .i64 (k : Int))
    ⟨0, .slice none 0 0, [], rfl, Nat.zero_le _, Keep.refl _, hg2, LstG.nil, Nat.le_refl _, (fun d a => ⟨fun h => (by cases h), fun ⟨k, hk, _⟩ => absurd hk (Nat.not_lt_zero k)⟩), rfl, rfl, rfl, rfl, rfl, rfl⟩ ?_
  rintro m ρ H5 ⟨k, lv, xs, rfl, hk, hK5, hg5, hlst, hxl, hmem, e1, e2, e8, e26, e27, e28⟩
  have hK05 := hK12.trans hK5
  by_cases hlt : k < A.length
  · have hlt' : (k : Int) < (A.length : Int) := by omega
    have hw : IntKind.i64.wrap ((k : Int) + 1) = ((k + 1 : Nat) : Int) := by rw [IntWalk.i64_in _ (by omega)]; omega
    have hob := SlP_at (hA.keep hK05) hlt
    obtain ⟨q0, hix, hrd, _, _, r1, r2'⟩ := hob
    have hpa := hpA.2 k hlt
    have hsu := fun d a => @ThenTo.succ A B wait k d a
    have hgx : ∃ x, x = A.getD k default := ⟨_, rfl⟩
    obtain ⟨x, hx⟩ := hgx
    have hpx : 0 ≤ x.1 ∧ x.1 < x.2 ∧ x.2 ≤ 20000 := by rw [hx]; exact hpa.1
    rw [← hx] at hrd r1 r2' hsu
    have hng := newS H5 x
    obtain ⟨H6, s6, hK6, hz6, g2, g0, g1⟩ := hng
    have hal := alS H5
    have hK26 := hK5.trans hK6
    have hww : IntKind.i64.wrap (x.2 + wait) = x.2 + wait := IntWalk.i64_in _ (by omega)
    have hlo := look_runs hS B _ r2 o2 (x.2 + wait) H6 (hB.keep (hK12.trans hK26)) hpB
    obtain ⟨i, H7, hfp, hK7, hR7⟩ := hlo
    have f7 := hR7.bx
    have hK27 := hK26.trans hK7
    have hg7 := (hK6.trans hK7).grp hg5
    have h70 := hK7.read hz6 g0
    have hl7 := hlst.keep (hK6.trans hK7)
    have ex0 : ∀ x y : Value, aExtract (.tuple ⟨[x, y]⟩) 0 = some x := fun x y => by kernel_rfl
    have ex1 : ∀ x y : Value, aExtract (.tuple ⟨[x, y]⟩) 1 = some y := fun x y => by kernel_rfl
    unfold pc at hrd s6
    by_cases hi : i < B.length
    · rw [if_pos hi, decide_eq_true hi] at f7
      have hobB := SlP_at (hB.keep (hK12.trans hK27)) hi
      obtain ⟨_, _, _, _, _, _, rB⟩ := hobB
      have hgy : ∃ y, y = (B.getD i default).2 := ⟨_, rfl⟩
      obtain ⟨y, hy⟩ := hgy
      rw [← hy] at f7 rB
      have hpu := hl7.push (t := 40) elemOkP (stableS 0) hg7 hK27.size (x := (x.1, y)) (stE_at r1 rB) rfl (by omega)
      obtain ⟨v8, H8, ap8, hl8, gr8⟩ := hpu
      have bs8 : aBuildSlice Try.prog H7 34 1 [(0, .agg ⟨[.int .i64 x.1, .int .i64 y]⟩)] = _ := bs1P H7 (x.1, y)
      have bd8 := bdS x.1 y
      have hK28 := gr8.base H2 hg2 hK27 (Nat.le_refl _)
      have hg8 := gr8.grp hg7
      have hmem' : ∀ d a, (d, a) ∈ xs ++ [(x.1, y)] ↔ ThenTo A B wait (k + 1) d a := fun d a => by
        rw [hsu, List.mem_append, hmem, List.mem_singleton]
        constructor
        · rintro (h | h)
          · exact .inl h
          · cases h; exact .inr ⟨rfl, i, hfp, hi, hy⟩
        · rintro (h | ⟨h1, j, h2, h3, h4⟩)
          · exact .inl h
          · obtain rfl := hfp.eq h2
            rw [h1, h4, hy]
            exact .inr rfl
      unfold pc at ap8 bs8
      clear hlst hmem hsu hA hB hl7 gr8 hK5 hK6 hK7 hK26 hK27 hK05 hfp hR7 hx hpa hy hpx hi
      repeat' (first | simp only [↓Zaby, ↓Zabv, ↓Zabx, ↓Zaai, ↓Zabs, ↓Zabu, ↓Zacs, ↓Zacr, ↓Zacx, ↓Zaat, ↓Zaam, ↓Zaal, ↓bxOp_build, ↓Zaao, ↓Zaas, ↓Zaav, ↓Zaan, ↓Zaaq, ↓Zaar, ↓Zaap, ↓Zaax, ↓bxOp_append, ↓Zacu, ↓bxPut, ↓Zabq, ↓Zabp, ↓Zaag, ↓Zaaf, ↓Zabi, ↓Zabh, ↓Zacy, ↓Zabe, ↓Zabc, ↓Zabd, Zact, Zaae, Zabg, Zabz, Zacq, List.map_cons, List.map_nil, List.nil_append, List.append_nil, ↓reduceIte, Nat.reduceEqDiff, Nat.reduceLT, dec_T, true_and, Nat.add_zero, one1, Option.bind_some, Option.map_some, *, ldS, ldC, one1, faS0, faS1])
      exact ⟨A.length - (k + 1), by omega, k + 1, _, _, rfl, by omega, hl8, by rw [List.length_append]; show _ + 1 ≤ _; omega, hmem', rfl, rfl⟩
    · rw [if_neg hi, decide_eq_false hi] at f7
      have hmem' : ∀ d a, (d, a) ∈ xs ↔ ThenTo A B wait (k + 1) d a := fun d a => by
        rw [hsu, hmem]
        constructor
        · exact .inl
        · rintro (h | ⟨h1, j, h2, h3, h4⟩)
          · exact h
          · obtain rfl := hfp.eq h2
            exact absurd h3 hi
      clear hlst hmem hsu hA hB hK5 hK6 hK7 hK26 hK05 hfp hR7 hx hpa hpx hi
      repeat' (first | simp only [↓Zaby, ↓Zabv, ↓Zabx, ↓Zaai, ↓Zabs, ↓Zabu, ↓Zacs, ↓Zacr, ↓Zacx, ↓Zaat, ↓Zaam, ↓Zaal, ↓bxOp_build, ↓Zaao, ↓Zaas, ↓Zaav, ↓Zaan, ↓Zaaq, ↓Zaar, ↓Zaap, ↓Zaax, ↓bxOp_append, ↓Zacu, ↓bxPut, ↓Zabq, ↓Zabp, ↓Zaag, ↓Zaaf, ↓Zabi, ↓Zabh, ↓Zacy, ↓Zabe, ↓Zabc, ↓Zabd, Zact, Zaae, Zabg, Zabz, Zacq, Zacp, List.map_cons, List.map_nil, List.nil_append, List.append_nil, ↓reduceIte, Nat.reduceEqDiff, Nat.reduceLT, dec_T, true_and, one1, Option.bind_some, Option.map_some, *, ldS, ldC, one1, faS1])
      exact ⟨A.length - (k + 1), by omega, k + 1, _, _, rfl, by omega, hl7, by omega, hmem', rfl, rfl⟩
  · have hke : k = A.length := by omega
    subst hke
    have hlt' : ¬ (((A.length : Nat) : Int) < ((A.length : Nat) : Int)) := by omega
    have hpi := PtsIn.lst hlst hK05 hg hK12.size (by omega)
    have hbe := best_runs hS H H5 lv xs.toArray hL hpi
    obtain ⟨u9, H9, hR9, R, hin9, hb9, hbl⟩ := hbe
    have hbl : R.length ≤ xs.length := hbl
    have hp : PostThen H A B wait (.tuple ⟨[u9, .int .i64 0]⟩) H9 := ⟨u9, 0, R, rfl, hin9, by omega, fun hn => absurd ⟨hpA, hpB, hz⟩ hn, fun _ => ⟨rfl, hb9.congr fun d a => by
      show (d, a) ∈ xs ↔ _
      exact hmem d a⟩⟩
    have f9 := hR9.bx
    clear hlst hmem hA hB hK5 hpi hR9 hin9 hK05 hb9
    repeat' (first | simp only [↓Zaby, ↓Zabv, ↓Zabx, ↓Zaai, ↓Zabs, ↓Zabu, ↓Zacs, ↓Zacr, ↓Zacx, ↓Zaat, ↓Zaam, ↓Zaal, ↓bxOp_build, ↓Zaao, ↓Zaas, ↓Zaav, ↓Zaan, ↓Zaaq, ↓Zaar, ↓Zaap, ↓Zaax, ↓bxOp_append, ↓Zacu, ↓bxPut, ↓Zabq, ↓Zabp, ↓Zaag, ↓Zaaf, ↓Zabi, ↓Zabh, ↓Zacy, ↓Zabe, ↓Zabc, ↓Zabd, Zact, Zaae, Zabg, Zabz, Zacp, List.map_cons, List.map_nil, List.nil_append, List.append_nil, ↓reduceIte, Nat.reduceEqDiff, Nat.reduceLT, dec_F, *])
end Go.Proofs.Ythkdnlegolphkaa
