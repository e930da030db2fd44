/- Share and Is, by the program. -/
import Derived.Test.YtpeoleimmabceaaE9
set_option linter.unusedVariables false
set_option linter.unusedSimpArgs false
set_option linter.unusedSectionVars false

namespace Go.Proofs.Ytpeoleimmabceaa
open Go Go.AM
set_option maxRecDepth 10000

def PostSh (R : Int → List Int → List Int → Int → Prop) (H : Heap) (rule e : Int) (c : List Int) (u : Value) (H' : Heap) : Prop :=
  ∃ a n cp z f, u = .tuple ⟨[.agg ⟨[.slice a n cp, .int .i64 z]⟩, .int .i64 f]⟩ ∧ Keep H H' ∧ (¬ (Q.Prob e c ∧ isRule rule) → f = 2 ∧ n = 0 ∧ z = 0) ∧
    (Q.Prob e c ∧ isRule rule → f = 0 ∧ ∃ w, n = w.length ∧ Q.Shr e c w z ∧ Awd R rule e c w z ∧ PV H H' (.agg ⟨[.slice a n cp, .int .i64 z]⟩) w z)
def ScR (R : Int → List Int → List Int → Int → Prop) : Prop := ∀ {e c g w d w' d'}, Sc g w d w' d' → w'.length = c.length → R e c w d → R e c w' d'
theorem good_shr {e : Int} {c w : List Int} {d : Int} (h : Good e c w d) (hg : Q.gcdAll d w = 1) : Q.Shr e c w d := ⟨h.len, ⟨h.d1, h.d2⟩, fun i hi => h.rng i (by rw [← h.len]; exact hi), h.sum, hg⟩

variable {S : AM.Sys} (hS : Only S 11)
include hS

set_option maxHeartbeats 4000000 in
theorem Share_runs (R : Int → List Int → List Int → Int → Prop) (hR : ScR R) (rule e : Int) (v : Value) (c : List Int) (r o : Nat) (H : Heap) (hg : Grp H) (hL : H.low ≤ H.size) (hl : SlI .i64 H v c r o)
    (hrun : Q.Prob e c → RunOk S R rule e v c H) :
    ∃ u H', Runs Try.prog S (.fn 12) [.int .i64 rule, .int .i64 e, v] H u H' ∧ PostSh R H rule e c u H' := by
  suffices h : WCall Try.prog S (.fn 12) [.int .i64 rule, .int .i64 e, v] H (fun u H' => PostSh R H rule e c u H') by
    obtain ⟨u, H', hr, h⟩ := h; exact ⟨u, H', hr, h⟩
  obtain ⟨va, vc, rfl⟩ := hl.v0
  obtain ⟨H1, e1, k1, s1, -, -⟩ := box1 H [.slice none 0 0, .int .i64 0] 26
  have ow1 : Own H1 H.size 26 [.slice none 0 0, .int .i64 0] := e1 ▸ Own.new H _ _
  have al1 : aAlloc Try.prog H 26 = some (.pointer (some ⟨H.size, 0, none⟩), H1) := by rw [alP, e1]
  obtain ⟨H2, k2, hR2⟩ := Q.isProblem_runs hS e _ c r o H1 (hl.keep k1)
  have f2 := hR2.bx
  have K2 := k1.trans k2
  clear hR2
  by_cases hp : Q.Prob e c
  case neg =>
    have d0 : decide (Q.Prob e c) = false := decide_eq_false hp
    obtain ⟨H3, st3, o3, z3, x3, k03⟩ := stPX (ow1.keep k2) rfl none 0 0 0 K2 (Nat.le_refl _)
    have rd3 := (ownP o3).1
    have hpo : PostSh R H rule e c (.tuple ⟨[.agg ⟨[.slice none 0 0, .int .i64 0]⟩, .int .i64 2]⟩) H3 := ⟨none, 0, 0, 0, 2, rfl, k03, fun _ => ⟨rfl, rfl, rfl⟩, fun h => absurd h.1 hp⟩
    clear hl ow1 hrun hp o3 z3 x3 k03
    refine Zaav Try.func12 rfl (Nat.le_of_ble_eq_true rfl) (hS.no rfl _ _) ?_
    rw [Try.ntmps12, Try.results12]
    repeat' (first | simp only [↓Zabp, ↓Zabm, ↓Zabo, ↓Zaae, ↓Zabn, ↓Zacg, ↓Zacf, ↓Zacl, ↓Zaaq, ↓Zaai, ↓Zaah, ↓bxOp_build, ↓Zaap, ↓Zaas, ↓bxOp_un, ↓Zaal, ↓Zaat, ↓Zaci, ↓bxPut, ↓Zabi, ↓Zabj, ↓Zabg, ↓Zacj, ↓Zack, ↓bxRes_cell, ↓Zacm, ↓Zaaz, ↓Zaax, ↓Zaay, Zach, una_nf, Zabq, Zace, packRes_two, List.map_cons, List.map_nil, List.nil_append, List.append_nil, ↓reduceIte, Nat.reduceEqDiff, Nat.reduceLT, Option.map_some, *, argF, List.getD_cons_zero, List.getD_cons_succ, ldP, bdP0])
  have d0 : decide (Q.Prob e c) = true := decide_eq_true hp
  have hc := hp.2.2.1
  have h7 := hp.2.1
  have hrun' : RunOk S R rule e (.slice va c.length vc) c H2 := fun h4 H3 k3 => hrun hp h4 H3 (K2.trans k3)
  obtain ⟨u3, H3, hR3, a, n, cp, z, b, rfl, k3, hb, hbt⟩ := divided_runs hS R rule e _ c r o H2 (K2.grp hg) (K2.low hL) (hl.keep K2) (by omega) (by omega) hc hp.1 hp.2.2.2 hrun'
  have f3 := hR3.bx
  have K3 := K2.trans k3
  obtain ⟨H4, e4, k4, s4, -, -⟩ := box1 H3 [.slice none 0 0, .int .i64 0] 26
  have ow4 : Own H4 H3.size 26 [.slice none 0 0, .int .i64 0] := e4 ▸ Own.new H3 _ _
  have al4 : aAlloc Try.prog H3 26 = some (.pointer (some ⟨H3.size, 0, none⟩), H4) := by rw [alP, e4]
  obtain ⟨H5, st5, o5, z5, x5, k35⟩ := stPX ow4 rfl a n cp z k4 (Nat.le_refl _)
  have K5 := K3.trans k35
  have rd5 := (ownP o5).1
  have ex0 : ∀ x y : Value, aExtract (.tuple ⟨[x, y]⟩) 0 = some x := fun x y => by kernel_rfl
  have ex1 : ∀ x y : Value, aExtract (.tuple ⟨[x, y]⟩) 1 = some y := fun x y => by kernel_rfl
  have ow15 := ((ow1.keep k2).keep k3).keep k35
  by_cases hr : isRule rule
  case neg =>
    have hbf : b = false := by cases b with
      | false => rfl
      | true => exact absurd (hb.1 rfl) hr
    subst hbf
    obtain ⟨H6, st6, o6, z6, x6, k06⟩ := stPX ow15 rfl none 0 0 0 K5 (Nat.le_refl _)
    have rd6 := (ownP o6).1
    have hpo : PostSh R H rule e c (.tuple ⟨[.agg ⟨[.slice none 0 0, .int .i64 0]⟩, .int .i64 2]⟩) H6 := ⟨none, 0, 0, 0, 2, rfl, k06, fun _ => ⟨rfl, rfl, rfl⟩, fun h => absurd h.2 hr⟩
    clear hl ow1 hrun hrun' hp o5 o6 z5 z6 x5 x6 hb hbt hR3 hr ow4 ow15 e1 e4 hc h7
    refine Zaav Try.func12 rfl (Nat.le_of_ble_eq_true rfl) (hS.no rfl _ _) ?_
    rw [Try.ntmps12, Try.results12]
    repeat' (first | simp only [↓Zabp, ↓Zabm, ↓Zabo, ↓Zaae, ↓Zabn, ↓Zacg, ↓Zacf, ↓Zacl, ↓Zaaq, ↓Zaai, ↓Zaah, ↓bxOp_build, ↓Zaap, ↓Zaas, ↓bxOp_un, ↓Zaal, ↓Zaat, ↓Zaci, ↓bxPut, ↓Zabi, ↓Zabj, ↓Zabg, ↓Zacj, ↓Zack, ↓bxRes_cell, ↓Zacm, ↓Zaaz, ↓Zaax, ↓Zaay, Zach, una_nt, una_nf, Zabq, Zace, Zacd, packRes_two, List.map_cons, List.map_nil, List.nil_append, List.append_nil, ↓reduceIte, Nat.reduceEqDiff, Nat.reduceLT, Option.map_some, *, argF, List.getD_cons_zero, List.getD_cons_succ, ldP, bdP0])
  obtain rfl := hb.2 hr
  obtain ⟨w, d, hgd, haw, hpv⟩ := hbt rfl
  obtain ⟨v', r', hv', sv, hr'⟩ := hpv
  cases hv'
  have sv5 := sv.keep k35
  have hw0 : ∀ x ∈ w, 0 ≤ x := all_of (d := 0) fun i hi => (hgd.rng i (by rw [← hgd.len]; exact hi)).1
  obtain ⟨hsc, hg1⟩ := sc_low (d := z) hw0 (by have := hgd.d1; omega)
  have hnw : n = w.length := by obtain ⟨a1, c1, e', _⟩ := sv.isv; cases e'; rfl
  obtain ⟨H6, v6, r6, k6, _, sl6, hr6, hR6⟩ := qlow_runs hS _ w z r' 0 H5 (K5.grp hg) (K5.low hL) sv5 hw0 (by have := hgd.len; omega) (by have := hgd.d1; have := hgd.d2; omega)
  have f6 := hR6.bx
  have hv6 := sl6.v0
  obtain ⟨a6, c6, rfl⟩ := hv6
  have hgd2 := hsc.good hgd
  have haw2 := hsc.awd (fun h1 h2 h3 => hR h1 h2 h3) hgd2.len haw
  have K6 := K5.trans k6
  obtain ⟨w2, hw2⟩ : ∃ w2, w2 = w.map fun x => x / Q.gcdAll z w := ⟨_, rfl⟩
  obtain ⟨d2, hd2⟩ : ∃ d2, d2 = z / Q.gcdAll z w := ⟨_, rfl⟩
  rw [← hw2] at hgd2 haw2 sl6 hg1 hsc f6
  rw [← hd2] at hgd2 haw2 hg1 hsc f6
  have hpv6 : PV H5 H6 (.agg ⟨[.slice a6 w2.length c6, .int .i64 d2]⟩) w2 d2 := ⟨_, _, rfl, sl6, hr6⟩
  obtain ⟨H7, st7, o7, z7, x7, k07⟩ := stPX (ow15.keep k6) rfl a6 w2.length c6 d2 K6 (Nat.le_refl _)
  have rd7 := (ownP o7).1
  have hpv7 := (hpv6.x (Nat.lt_of_lt_of_le s1 (k2.trans (k3.trans k35)).size) x7).low (H0 := H) K5.size
  have hpo : PostSh R H rule e c (.tuple ⟨[.agg ⟨[.slice a6 w2.length c6, .int .i64 d2]⟩, .int .i64 0]⟩) H7 := ⟨_, _, _, _, 0, rfl, k07, fun h => absurd ⟨hp, hr⟩ h, fun _ => ⟨rfl, w2, rfl, good_shr hgd2 hg1, haw2, hpv7⟩⟩
  clear hl ow1 hrun hrun' hp o5 o7 z5 z7 x5 x7 hb hbt hR3 hr ow4 ow15 hpv6 hpv7 hgd hgd2 haw haw2 sv sv5 sl6 hw0 hsc hg1 hw2 hd2 hnw hR6 e1 e4 hc h7
  refine Zaav Try.func12 rfl (Nat.le_of_ble_eq_true rfl) (hS.no rfl _ _) ?_
  rw [Try.ntmps12, Try.results12]
  repeat' (first | simp only [↓Zabp, ↓Zabm, ↓Zabo, ↓Zaae, ↓Zabn, ↓Zacg, ↓Zacf, ↓Zacl, ↓Zaaq, ↓Zaai, ↓Zaah, ↓bxOp_build, ↓Zaap, ↓Zaas, ↓bxOp_un, ↓Zaal, ↓Zaat, ↓Zaci, ↓bxPut, ↓Zabi, ↓Zabj, ↓Zabg, ↓Zacj, ↓Zack, ↓bxRes_cell, ↓Zacm, ↓Zaaz, ↓Zaax, ↓Zaay, Zach, una_nt, Zabq, Zacd, packRes_two, List.map_cons, List.map_nil, List.nil_append, List.append_nil, ↓reduceIte, Nat.reduceEqDiff, Nat.reduceLT, Option.map_some, *, argF, List.getD_cons_zero, List.getD_cons_succ, ldP])
end Go.Proofs.Ytpeoleimmabceaa
