/- Look and Then. -/
import Derived.Test.YtagnifngnpgilaaT5
set_option linter.unusedVariables false
set_option linter.unusedSimpArgs false
set_option linter.unusedSectionVars false

namespace Go.Proofs.Ytagnifngnpgilaa
set_option linter.unusedSectionVars false
open Go Go.AM
set_option maxRecDepth 10000
set_option linter.unusedSimpArgs false
set_option linter.unusedVariables false

def LookQ (w : List Pt) (z v e : Int) : Prop :=
  (¬ (ProfOk w ∧ 0 ≤ z ∧ z ≤ 20000) → v = 0 ∧ e = 2) ∧
  (ProfOk w ∧ 0 ≤ z ∧ z ≤ 20000 → ∃ i, FirstP w z i ∧ (i < w.length → v = (w.getD i default).2 ∧ e = 0) ∧ (¬ i < w.length → v = 0 ∧ e = 10))
theorem LookQ.eq {w : List Pt} {z v e v' e' : Int} (h : LookQ w z v e) (k : LookQ w z v' e') : v = v' ∧ e = e' := by
  by_cases hg : ProfOk w ∧ 0 ≤ z ∧ z ≤ 20000
  · obtain ⟨i, h1, h2, h3⟩ := h.2 hg
    obtain ⟨j, k1, k2, k3⟩ := k.2 hg
    obtain rfl := h1.eq k1
    by_cases hi : i < w.length
    · have := h2 hi; have := k2 hi; omega
    · have := h3 hi; have := k3 hi; omega
  · have := h.1 hg; have := k.1 hg; omega
def ThenTo (A B : List Pt) (wait : Int) (n : Nat) (d a : Int) : Prop := ∃ k, k < n ∧ d = (A.getD k default).1 ∧ ∃ i, FirstP B ((A.getD k default).2 + wait) i ∧ i < B.length ∧ a = (B.getD i default).2
theorem ThenTo.succ {A B : List Pt} {wait : Int} {n : Nat} {d a : Int} : ThenTo A B wait (n + 1) d a ↔ ThenTo A B wait n d a ∨ (d = (A.getD n default).1 ∧ ∃ i, FirstP B ((A.getD n default).2 + wait) i ∧ i < B.length ∧ a = (B.getD i default).2) := by
  constructor
  · rintro ⟨k, hk, h⟩
    rcases Nat.lt_or_ge k n with h1 | h1
    · exact .inl ⟨k, h1, h⟩
    · rw [show k = n by omega] at h; exact .inr h
  · rintro (⟨k, hk, h⟩ | h)
    · exact ⟨k, by omega, h⟩
    · exact ⟨n, Nat.lt_succ_self n, h⟩
def GoodT (A B : List Pt) (wait : Int) : Prop := ProfOk A ∧ ProfOk B ∧ 0 ≤ wait ∧ wait ≤ 100
def PostThen (H : Heap) (A B : List Pt) (wait : Int) (u : Value) (H' : Heap) : Prop :=
  ∃ (x : Value) (e : Int) (R : List Pt), u = .tuple ⟨[x, .int .i64 e]⟩ ∧ PtsIn H H' x R.toArray ∧ R.length ≤ A.length ∧ (¬ GoodT A B wait → e = 2 ∧ R = []) ∧ (GoodT A B wait → e = 0 ∧ BestOf (ThenP A B wait) R)
theorem PtsIn.nil {H0 H : Heap} (hk : Keep H0 H) (hg : Grp H0) : PtsIn H0 H (.slice none 0 0) ([] : List Pt).toArray := ⟨(fun i hi => absurd hi (Nat.not_lt_zero i)), Nat.zero_le _, hg, hk, .inl ⟨rfl, rfl⟩⟩
theorem bdS (x y : Int) : aBuild Try.prog 40 [(0, .int .i64 x), (1, .int .i64 y)] = some (.agg ⟨[.int .i64 x, .int .i64 y]⟩) := by kernel_rfl

variable {S : AM.Sys} (hS : Only S 10)
include hS

set_option maxHeartbeats 2000000 in
theorem Look_runs (w : List Pt) (v : Value) (r o : Nat) (z : Int) (H : Heap) (hL : H.low ≤ H.size) (hl : SlP H v w r o) :
    ∃ x e H', Keep H H' ∧ LookQ w z x e ∧ Runs Try.prog S (.fn 15) [v, .int .i64 z] H (.tuple ⟨[.int .i64 x, .int .i64 e]⟩) H' := by
  suffices h : WCall Try.prog S (.fn 15) [v, .int .i64 z] H (fun u H' => ∃ x e, Keep H H' ∧ LookQ w z x e ∧ u = .tuple ⟨[.int .i64 x, .int .i64 e]⟩) by
    obtain ⟨_, H', hr, x, e, h1, h2, rfl⟩ := h; exact ⟨x, e, H', h1, h2, hr⟩
  obtain ⟨b, H1, hK1, hb, hR⟩ := isProf_runs hS w v r o H hL hl
  obtain ⟨a, c, rfl⟩ := hl.v0
  have f1 := hR.bx
  have f2 := (isWithin_runs hS z 0 20000 H1).bx
  refine Zaaz Try.func15 rfl (Nat.le_of_ble_eq_true rfl) (hS.no rfl _ _) ?_
  rw [Try.ntmps15, Try.results15]
  have hbad : ¬ (ProfOk w ∧ 0 ≤ z ∧ z ≤ 20000) → ∃ x e, Keep H H1 ∧ LookQ w z x e ∧ Value.tuple ⟨[.int .i64 0, .int .i64 2]⟩ = .tuple ⟨[.int .i64 x, .int .i64 e]⟩ := fun hn => ⟨0, 2, hK1, ⟨fun _ => ⟨rfl, rfl⟩, fun h => absurd h hn⟩, rfl⟩
  cases b with
  | false =>
    have hp := hbad (fun h => by have := hb.2 h.1; cases this)
    clear hbad hl hR hb hK1
    repeat' (first | simp only [↓Zaby, ↓Zabv, ↓Zabx, ↓Zaai, ↓Zabw, ↓Zacu, ↓Zact, ↓Zacz, ↓Zaay, ↓Zaat, ↓Zaam, ↓Zaau, ↓Zaaw, ↓Zaap, ↓Zaax, ↓bxPut, ↓Zabq, ↓Zabr, ↓Zabo, ↓Zacx, ↓Zacy, ↓Zada, ↓Zabe, ↓Zabc, ↓Zabd, ↓dstAt, ↓Zabf, Zacv, una_nf, Zaad, Zabz, sxGuardB_ft, Zacs, Zabl, List.map_cons, List.map_nil, List.nil_append, List.append_nil, ↓reduceIte, Nat.reduceEqDiff, Nat.reduceLT, *, argF, List.getD_cons_zero, Zabl])
  | true =>
    have hpr := hb.1 rfl
    by_cases hz : 0 ≤ z ∧ z ≤ 20000
    case neg =>
      have hp := hbad (fun h => hz h.2)
      rw [decide_eq_false hz] at f2
      clear hbad hl hR hb hK1 hz
      repeat' (first | simp only [↓Zaby, ↓Zabv, ↓Zabx, ↓Zaai, ↓Zabw, ↓Zacu, ↓Zact, ↓Zacz, ↓Zaay, ↓Zaat, ↓Zaam, ↓Zaau, ↓Zaaw, ↓Zaap, ↓Zaax, ↓bxPut, ↓Zabq, ↓Zabr, ↓Zabo, ↓Zacx, ↓Zacy, ↓Zada, ↓Zabe, ↓Zabc, ↓Zabd, ↓dstAt, ↓Zabf, Zacv, una_nt, una_nf, Zaac, Zabz, sxGuardB_ff, Zacs, Zabl, List.map_cons, List.map_nil, List.nil_append, List.append_nil, ↓reduceIte, Nat.reduceEqDiff, Nat.reduceLT, *, argF, List.getD_cons_zero, List.getD_cons_succ, Zabl])
    rw [decide_eq_true hz] at f2
    have hlo := look_runs hS w _ r o z H1 (hl.keep hK1) hpr
    obtain ⟨i, H2, hfp, hK2, hR2⟩ := hlo
    have f3 := hR2.bx
    have hK := hK1.trans hK2
    by_cases hi : i < w.length
    · rw [if_pos hi, decide_eq_true hi] at f3
      have hp : ∃ x e, Keep H H2 ∧ LookQ w z x e ∧ Value.tuple ⟨[.int .i64 (w.getD i default).2, .int .i64 0]⟩ = .tuple ⟨[.int .i64 x, .int .i64 e]⟩ := ⟨_, 0, hK, ⟨fun hn => absurd ⟨hpr, hz⟩ hn, fun _ => ⟨i, hfp, fun _ => ⟨rfl, rfl⟩, fun h => absurd hi h⟩⟩, rfl⟩
      have ex0 : ∀ x y : Value, aExtract (.tuple ⟨[x, y]⟩) 0 = some x := fun x y => by kernel_rfl
      have ex1 : ∀ x y : Value, aExtract (.tuple ⟨[x, y]⟩) 1 = some y := fun x y => by kernel_rfl
      clear hbad hl hR hb hK1 hz hR2 hK2 hK hfp hi
      repeat' (first | simp only [↓Zaby, ↓Zabv, ↓Zabx, ↓Zaai, ↓Zabw, ↓Zacu, ↓Zact, ↓Zacz, ↓Zaay, ↓Zaat, ↓Zaam, ↓Zaau, ↓Zaaw, ↓Zaap, ↓Zaax, ↓bxPut, ↓Zabq, ↓Zabr, ↓Zabo, ↓Zacx, ↓Zacy, ↓Zada, ↓Zabe, ↓Zabc, ↓Zabd, ↓dstAt, ↓Zabf, Zacv, una_nt, Zaac, Zabz, sxGuardB_ff, Zacr, Zabl, List.map_cons, List.map_nil, List.nil_append, List.append_nil, ↓reduceIte, Nat.reduceEqDiff, Nat.reduceLT, *, argF, List.getD_cons_zero, List.getD_cons_succ, Zabl])
    · rw [if_neg hi, decide_eq_false hi] at f3
      have hp : ∃ x e, Keep H H2 ∧ LookQ w z x e ∧ Value.tuple ⟨[.int .i64 0, .int .i64 10]⟩ = .tuple ⟨[.int .i64 x, .int .i64 e]⟩ := ⟨0, 10, hK, ⟨fun hn => absurd ⟨hpr, hz⟩ hn, fun _ => ⟨i, hfp, fun h => absurd h hi, fun _ => ⟨rfl, rfl⟩⟩⟩, rfl⟩
      have ex0 : ∀ x y : Value, aExtract (.tuple ⟨[x, y]⟩) 0 = some x := fun x y => by kernel_rfl
      have ex1 : ∀ x y : Value, aExtract (.tuple ⟨[x, y]⟩) 1 = some y := fun x y => by kernel_rfl
      clear hbad hl hR hb hK1 hz hR2 hK2 hK hfp hi
      repeat' (first | simp only [↓Zaby, ↓Zabv, ↓Zabx, ↓Zaai, ↓Zabw, ↓Zacu, ↓Zact, ↓Zacz, ↓Zaay, ↓Zaat, ↓Zaam, ↓Zaau, ↓Zaaw, ↓Zaap, ↓Zaax, ↓bxPut, ↓Zabq, ↓Zabr, ↓Zabo, ↓Zacx, ↓Zacy, ↓Zada, ↓Zabe, ↓Zabc, ↓Zabd, ↓dstAt, ↓Zabf, Zacv, una_nt, una_nf, Zaac, Zabz, sxGuardB_ff, Zacs, Zacr, Zabl, List.map_cons, List.map_nil, List.nil_append, List.append_nil, ↓reduceIte, Nat.reduceEqDiff, Nat.reduceLT, *, argF, List.getD_cons_zero, List.getD_cons_succ, Zabl])

end Go.Proofs.Ytagnifngnpgilaa
