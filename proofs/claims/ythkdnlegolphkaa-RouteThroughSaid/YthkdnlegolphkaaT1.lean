/- Points of profiles: what lies in the memory; what is checked of them. -/
import Derived.Test.YthkdnlegolphkaaR1
import Derived.Test.YthkdnlegolphkaaM1
import Derived.Test.YthkdnlegolphkaaS1P
set_option linter.unusedVariables false
set_option linter.unusedSimpArgs false
set_option linter.unusedSectionVars false

namespace Go.Proofs.Ythkdnlegolphkaa
open Go Go.AM
set_option maxRecDepth 10000

def stE : Enc Pt := prodE (intE .i64) (intE .i64)
def pc (x : Pt) : List Value := [.int .i64 x.1, .int .i64 x.2]
theorem stE_inv {H : Heap} {x : Pt} {cs : List Value} (h : stE.At H x cs) : cs = pc x ∧ R64 x.1 ∧ R64 x.2 := by
  obtain ⟨c1, c2, rfl, ⟨rfl, h1⟩, rfl, h2⟩ := h
  exact ⟨rfl, h1, h2⟩
theorem stE_at {H : Heap} {x : Pt} (h1 : R64 x.1) (h2 : R64 x.2) : stE.At H x (pc x) := ⟨_, _, rfl, ⟨rfl, h1⟩, rfl, h2⟩
abbrev SlP (H : Heap) (v : Value) (w : List Pt) (r o : Nat) : Prop := SlE stE H v w r o
theorem ldS (H : Heap) (r o : Nat) : aLoad Try.prog H 40 (.pointer (some ⟨r, o, none⟩)) = (H.read r o 2).map fun l => .agg ⟨l⟩ := by kernel_rfl
theorem lenS (a : Option Addr) (n c : Nat) : aLen Try.prog #[34] (.slice a n c) = some (.int .i64 n) := by kernel_rfl
theorem faS0 (r o : Nat) : aFieldAt Try.prog 40 0 (.pointer (some ⟨r, o, none⟩)) = some (.pointer (some ⟨r, o + 0, none⟩)) := by kernel_rfl
theorem faS1 (r o : Nat) : aFieldAt Try.prog 40 1 (.pointer (some ⟨r, o, none⟩)) = some (.pointer (some ⟨r, o + 1, none⟩)) := by kernel_rfl
theorem alS (H : Heap) : aAlloc Try.prog H 40 = some (.pointer (some ⟨H.size, 0, none⟩), H.newExact [.int .i64 0, .int .i64 0] 40) := by kernel_rfl
theorem newS (H : Heap) (x : Pt) : ∃ H2, aStore Try.prog (H.newExact [.int .i64 0, .int .i64 0] 40) 40 (.pointer (some ⟨H.size, 0, none⟩)) (.agg ⟨pc x⟩) = some H2 ∧ Keep H H2 ∧ H.size < H2.size ∧ H2.read H.size 0 2 = some (pc x) ∧ H2.read H.size 0 1 = some [.int .i64 x.1] ∧ H2.read H.size 1 1 = some [.int .i64 x.2] := by
  obtain ⟨i, hi, hsz⟩ := infoP
  obtain ⟨H2, h1, h2, h3, h4, h5⟩ := (Own.new H [.int .i64 0, .int .i64 0] 40).store (t := 40) hi (v := .agg ⟨pc x⟩) (new := pc x) rfl (by rw [hsz]; rfl) rfl (o := 0) (by show 0 + 2 ≤ 2; decide)
  have h2 : Own H2 H.size 40 (pc x) := h2
  exact ⟨H2, h1, h5 H (Keep.newExact _ _ _) (Nat.le_refl _), h2.lt, h2.read (o := 0) (n := 2) (by show 0 + 2 ≤ 2; decide), h2.read (o := 0) (n := 1) (by show 0 + 1 ≤ 2; decide), h2.read (o := 1) (n := 1) (by show 1 + 1 ≤ 2; decide)⟩
theorem boxP (H : Heap) (x : Pt) : ∃ H1, H.newExact (pc x) 40 = H1 ∧ Keep H H1 ∧ H1.read H.size 0 2 = some (pc x) ∧ H1.read H.size 0 1 = some [.int .i64 x.1] ∧ H1.read H.size 1 1 = some [.int .i64 x.2] := by
  obtain ⟨H1, e1, hK1, hz1, hr1, hrs⟩ := boxS H (pc x) 40
  exact ⟨H1, e1, hK1, hr1, hrs 0 1 (by show _ ≤ 2; decide), hrs 1 1 (by show _ ≤ 2; decide)⟩
theorem SlP_at {H : Heap} {w : List Pt} {r o : Nat} {a : Option Addr} {cap : Nat} (h : SlP H (.slice a w.length cap) w r o) {k : Nat} (h1 : k < w.length) :
    ∃ q, Zaaa Try.prog 34 (.slice a w.length cap) (.int .i64 (k : Int)) = some (.pointer (some ⟨r, q, none⟩)) ∧ H.read r q 2 = some (pc (w.getD k default)) ∧
      H.read r q 1 = some [.int .i64 (w.getD k default).1] ∧ H.read r (q + 1) 1 = some [.int .i64 (w.getD k default).2] ∧ R64 (w.getD k default).1 ∧ R64 (w.getD k default).2 := by
  obtain ⟨a', cap', e, ha⟩ := h.isv
  cases e
  obtain ⟨es, h2, h3⟩ := h.rd k h1
  obtain ⟨rfl, h4, h5⟩ := stE_inv h3
  have h2 : H.read r (o + k * 2) 2 = some (pc (w.getD k default)) := h2
  have hs := fun j (hj : j + 1 ≤ 2) => read_sub h2 hj
  have hx : Zaaa Try.prog 34 (.slice (some ⟨r, o, none⟩) w.length cap) (.int .i64 (k : Int)) = if 0 ≤ (k : Int) ∧ (k : Int) < ((w.length : Nat) : Int) then some (.pointer (some ⟨r, o + ((k : Int)).toNat * 2, none⟩)) else none := by kernel_rfl
  refine ⟨o + k * 2, by rw [ha (by omega), hx, if_pos ⟨by omega, by omega⟩, Int.toNat_natCast], h2, ?_, hs 1 (by omega), h4, h5⟩
  exact hs 0 (by omega)
def PostB (H : Heap) (p : Prop) (u : Value) (H' : Heap) : Prop := ∃ b, u = .bool b ∧ (b = true ↔ p) ∧ Keep H H'

variable {S : AM.Sys} (hS : Only S 10)
include hS

set_option maxHeartbeats 2000000 in
theorem isProf_runs (w : List Pt) (v : Value) (r o : Nat) (H : Heap) (hL : H.low ≤ H.size) (hl : SlP H v w r o) :
    ∃ b H', Keep H H' ∧ (b = true ↔ ProfOk w) ∧ Runs Try.prog S (.fn 29) [v] H (.bool b) H' := by
  suffices h : WCall Try.prog S (.fn 29) [v] H (fun u H' => PostB H (ProfOk w) u H') by
    obtain ⟨_, H', hr, b, rfl, hb, h⟩ := h; exact ⟨b, H', h, hb, hr⟩
  obtain ⟨a, c, rfl⟩ := hl.v0
  refine Zaaz Try.func29 rfl (Nat.le_of_ble_eq_true rfl) (hS.no rfl _ _) ?_
  rw [Try.ntmps29, Try.results29]
  by_cases h0 : 1000 < w.length
  · have h0' : (1000 : Int) < (w.length : Int) := by omega
    have hpost : PostB H (ProfOk w) (.bool false) H := ⟨false, rfl, ⟨fun h => (by cases h), fun h => absurd h.1 (by omega)⟩, Keep.refl _⟩
    clear hl h0
    repeat' (first | simp only [↓Zaby, ↓Zabv, ↓Zabx, ↓Zaai, ↓Zaaj, ↓Zabs, ↓Zabw, ↓Zacs, ↓Zacr, ↓Zacx, ↓Zaat, ↓Zaam, ↓Zaan, ↓bxOp_len, ↓bxPut, ↓Zabq, ↓Zabr, ↓Zabo, ↓Zacv, ↓Zacw, ↓Zacy, ↓Zabe, ↓Zabc, Zact, Zaae, Zabg, Zacq, Zabk, ↓reduceIte, Nat.reduceEqDiff, Nat.reduceLT, dec_T, *, argF, List.getD_cons_zero, lenS])
  have h0' : ¬ (1000 : Int) < (w.length : Int) := by omega
  repeat' (first | simp only [↓Zaby, ↓Zabv, ↓Zabx, ↓Zaai, ↓Zaaj, ↓Zabs, ↓Zabw, ↓Zacs, ↓Zacr, ↓Zacx, ↓Zaat, ↓Zaam, ↓Zaan, ↓bxOp_len, ↓bxPut, ↓Zabq, ↓Zabr, ↓Zabo, ↓Zacv, ↓Zacw, ↓Zacy, ↓Zabe, ↓Zabc, Zact, Zaae, Zabg, Zacp, Zabk, ↓reduceIte, Nat.reduceEqDiff, Nat.reduceLT, dec_F, *, argF, List.getD_cons_zero, lenS])
  refine sxL_of (fun m ρ H1 => ∃ k : Nat, m = w.length - k ∧ k ≤ w.length ∧ Keep H H1 ∧ ProfTo w k ∧
      ρ 0 = .slice a w.length c ∧ ρ 8 = .slice a w.length c ∧ ρ 9 = .int .i64 (w.length : Int) ∧ ρ 10 = .int .i64 (k : Int))
    ⟨0, rfl, Nat.zero_le _, Keep.refl _, fun j hj => absurd hj (Nat.not_lt_zero j), rfl, rfl, rfl, rfl⟩ ?_
  rintro m ρ H1 ⟨k, rfl, hk, hK1, hall, e0, e8, e9, e10⟩
  by_cases hlt : k < w.length
  · have hlt' : (k : Int) < (w.length : Int) := by omega
    have hw := wrap_succ hlt hl.ml
    have hob := SlP_at (hl.keep hK1) hlt
    obtain ⟨q, hix, hrd, _, _, _, _⟩ := hob
    have hng := newS H1 (w.getD k default)
    obtain ⟨H2, s2, hK2, _, _, g0, g1⟩ := hng
    have hal := alS H1
    have hK12 := hK1.trans hK2
    have hL2 := hK12.low hL
    have hbad : ¬ ProfAt w k → PostB H (ProfOk w) (.bool false) H2 := fun hn => ⟨false, rfl, ⟨fun h => (by cases h), fun h => absurd (h.2 k hlt) hn⟩, hK12⟩
    have hgx : ∃ x, x = w.getD k default := ⟨_, rfl⟩
    obtain ⟨x, hx⟩ := hgx
    have hgo : ProfAt w k ↔ (0 ≤ x.1 ∧ x.1 < x.2 ∧ x.2 ≤ 20000) ∧ (0 < k → (w.getD (k - 1) default).1 < x.1 ∧ (w.getD (k - 1) default).2 < x.2) := by rw [hx]; exact Iff.rfl
    rw [← hx] at hrd s2 g0 g1
    unfold pc at hrd s2
    by_cases c1 : x.1 < 0
    · have hp := hbad (fun h => by have := (hgo.1 h).1; omega)
      clear hbad hall hgo hl hx
      repeat' (first | simp only [↓Zaby, ↓Zabt, ↓Zabv, ↓Zabx, ↓Zaai, ↓Zabs, ↓Zabu, ↓Zabw, ↓Zacs, ↓Zacr, ↓Zacm, ↓Zaak, ↓Zach, ↓Zaci, ↓Zacg, ↓Zacc, ↓Zace, ↓Zacf, ↓Zacx, ↓Zaay, ↓Zaat, ↓Zaam, ↓Zaau, ↓Zaal, ↓Zaas, ↓Zaav, ↓Zaan, ↓Zaaq, ↓Zaar, ↓Zacu, ↓bxPut, ↓Zabq, ↓Zabp, ↓Zabr, ↓Zaag, ↓Zaah, ↓Zaaf, ↓Zabi, ↓Zabh, ↓Zabj, ↓Zabo, ↓Zacv, ↓Zacw, ↓Zacy, ↓Zabe, ↓Zabc, ↓dstAt, ↓Zabf, Zact, Zaae, Zabg, Zaad, sxGuardB_ft, Zacq, Zabk, ↓reduceIte, Nat.reduceEqDiff, Nat.reduceLT, dec_T, Nat.add_zero, one1, Option.bind_some, Option.map_some, *, ldS, ldC, one1, faS0] | (with_reducible first | refine Zacb (by assumption) (by decide +kernel) ?_ | refine Zaca (by decide +kernel) ?_ | refine Zack (by decide +kernel) ?_ | refine Zacd ?_))
    by_cases c2 : x.2 ≤ x.1
    · have hp := hbad (fun h => by have := (hgo.1 h).1; omega)
      clear hbad hall hgo hl hx
      repeat' (first | simp only [↓Zaby, ↓Zabt, ↓Zabv, ↓Zabx, ↓Zaai, ↓Zabs, ↓Zabu, ↓Zabw, ↓Zacs, ↓Zacr, ↓Zacm, ↓Zaak, ↓Zach, ↓Zaci, ↓Zacg, ↓Zacc, ↓Zace, ↓Zacf, ↓Zacx, ↓Zaay, ↓Zaat, ↓Zaam, ↓Zaau, ↓Zaal, ↓Zaas, ↓Zaav, ↓Zaan, ↓Zaaq, ↓Zaar, ↓Zacu, ↓bxPut, ↓Zabq, ↓Zabp, ↓Zabr, ↓Zaag, ↓Zaah, ↓Zaaf, ↓Zabi, ↓Zabh, ↓Zabj, ↓Zabo, ↓Zacv, ↓Zacw, ↓Zacy, ↓Zabe, ↓Zabc, ↓dstAt, ↓Zabf, Zact, Zaae, Zabg, Zaad, Zaac, sxGuardB_ft, sxGuardB_ff, Zacq, Zabk, ↓reduceIte, Nat.reduceEqDiff, Nat.reduceLT, dec_T, dec_F, Nat.add_zero, one1, Option.bind_some, Option.map_some, *, ldS, ldC, one1, faS0, faS1] | (with_reducible first | refine Zacb (by assumption) (by decide +kernel) ?_ | refine Zaca (by decide +kernel) ?_ | refine Zack (by decide +kernel) ?_ | refine Zacd ?_))
    by_cases c3 : 20000 < x.2
    · have hp := hbad (fun h => by have := (hgo.1 h).1; omega)
      clear hbad hall hgo hl hx
      repeat' (first | simp only [↓Zaby, ↓Zabt, ↓Zabv, ↓Zabx, ↓Zaai, ↓Zabs, ↓Zabu, ↓Zabw, ↓Zacs, ↓Zacr, ↓Zacm, ↓Zaak, ↓Zach, ↓Zaci, ↓Zacg, ↓Zacc, ↓Zace, ↓Zacf, ↓Zacx, ↓Zaay, ↓Zaat, ↓Zaam, ↓Zaau, ↓Zaal, ↓Zaas, ↓Zaav, ↓Zaan, ↓Zaaq, ↓Zaar, ↓Zacu, ↓bxPut, ↓Zabq, ↓Zabp, ↓Zabr, ↓Zaag, ↓Zaah, ↓Zaaf, ↓Zabi, ↓Zabh, ↓Zabj, ↓Zabo, ↓Zacv, ↓Zacw, ↓Zacy, ↓Zabe, ↓Zabc, ↓dstAt, ↓Zabf, Zact, Zaae, Zabg, Zaac, sxGuardB_ff, Zacq, Zabk, ↓reduceIte, Nat.reduceEqDiff, Nat.reduceLT, dec_T, dec_F, Nat.add_zero, one1, Option.bind_some, Option.map_some, *, ldS, ldC, one1, faS0, faS1] | (with_reducible first | refine Zacb (by assumption) (by decide +kernel) ?_ | refine Zaca (by decide +kernel) ?_ | refine Zack (by decide +kernel) ?_ | refine Zacd ?_))
    by_cases ck : 0 < k
    · have ck' : (0 : Int) < (k : Int) := by omega
      have hob1 := SlP_at (hl.keep hK12) (show k - 1 < w.length by omega)
      obtain ⟨q', hix', _, p0, p1, _, _⟩ := hob1
      have hw1 : IntKind.i64.wrap ((k : Int) - 1) = ((k - 1 : Nat) : Int) := by rw [IntWalk.i64_in _ (by omega)]; omega
      by_cases c4 : x.1 ≤ (w.getD (k - 1) default).1
      · have hp := hbad (fun h => by have := (hgo.1 h).2 ck; omega)
        clear hbad hall hgo hl hx
        repeat' (first | simp only [↓Zaby, ↓Zabt, ↓Zabv, ↓Zabx, ↓Zaai, ↓Zabs, ↓Zabu, ↓Zabw, ↓Zacs, ↓Zacr, ↓Zacm, ↓Zaak, ↓Zach, ↓Zaci, ↓Zacg, ↓Zacc, ↓Zace, ↓Zacf, ↓Zacl, ↓Zacx, ↓Zaay, ↓Zaat, ↓Zaam, ↓Zaau, ↓Zaal, ↓Zaas, ↓Zaav, ↓Zaan, ↓Zaaq, ↓Zaar, ↓Zacu, ↓bxPut, ↓Zabq, ↓Zabp, ↓Zabr, ↓Zaag, ↓Zaah, ↓Zaaf, ↓Zabi, ↓Zabh, ↓Zabj, ↓Zabo, ↓Zacv, ↓Zacw, ↓Zacy, ↓Zabe, ↓Zabc, ↓dstAt, ↓Zabf, Zact, Zaae, Zabg, Zaad, Zaac, Zaco, sxGuardB_ft, sxGuardB_ff, Zacq, Zacp, Zabk, ↓reduceIte, Nat.reduceEqDiff, Nat.reduceLT, dec_T, dec_F, Zaab, Nat.add_zero, one1, Option.bind_some, Option.map_some, *, ldS, ldC, one1, faS0, faS1] | (with_reducible first | refine Zacb (by assumption) (by decide +kernel) ?_ | refine Zaca (by decide +kernel) ?_ | refine Zack (by decide +kernel) ?_ | refine Zacd ?_))
      by_cases c5 : x.2 ≤ (w.getD (k - 1) default).2
      · have hp := hbad (fun h => by have := (hgo.1 h).2 ck; omega)
        clear hbad hall hgo hl hx
        repeat' (first | simp only [↓Zaby, ↓Zabt, ↓Zabv, ↓Zabx, ↓Zaai, ↓Zabs, ↓Zabu, ↓Zabw, ↓Zacs, ↓Zacr, ↓Zacm, ↓Zaak, ↓Zach, ↓Zaci, ↓Zacg, ↓Zacc, ↓Zace, ↓Zacf, ↓Zacl, ↓Zacx, ↓Zaay, ↓Zaat, ↓Zaam, ↓Zaau, ↓Zaal, ↓Zaas, ↓Zaav, ↓Zaan, ↓Zaaq, ↓Zaar, ↓Zacu, ↓bxPut, ↓Zabq, ↓Zabp, ↓Zabr, ↓Zaag, ↓Zaah, ↓Zaaf, ↓Zabi, ↓Zabh, ↓Zabj, ↓Zabo, ↓Zacv, ↓Zacw, ↓Zacy, ↓Zabe, ↓Zabc, ↓dstAt, ↓Zabf, Zact, Zaae, Zabg, Zaad, Zaac, Zaco, sxGuardB_ff, Zacq, Zacp, Zabk, ↓reduceIte, Nat.reduceEqDiff, Nat.reduceLT, dec_T, dec_F, Zaab, Nat.add_zero, one1, Option.bind_some, Option.map_some, *, ldS, ldC, one1, faS0, faS1] | (with_reducible first | refine Zacb (by assumption) (by decide +kernel) ?_ | refine Zaca (by decide +kernel) ?_ | refine Zack (by decide +kernel) ?_ | refine Zacd ?_))
      have hall' := hall.succ (hgo.2 ⟨by omega, fun _ => by omega⟩)
      clear hbad hall hgo hl hx
      repeat' (first | simp only [↓Zaby, ↓Zabt, ↓Zabv, ↓Zabx, ↓Zaai, ↓Zabs, ↓Zabu, ↓Zabw, ↓Zacs, ↓Zacr, ↓Zacm, ↓Zaak, ↓Zach, ↓Zaci, ↓Zacg, ↓Zacc, ↓Zace, ↓Zacf, ↓Zacl, ↓Zacx, ↓Zaay, ↓Zaat, ↓Zaam, ↓Zaau, ↓Zaal, ↓Zaas, ↓Zaav, ↓Zaan, ↓Zaaq, ↓Zaar, ↓Zacu, ↓bxPut, ↓Zabq, ↓Zabp, ↓Zabr, ↓Zaag, ↓Zaah, ↓Zaaf, ↓Zabi, ↓Zabh, ↓Zabj, ↓Zabo, ↓Zacv, ↓Zacw, ↓Zacy, ↓Zabe, ↓Zabc, ↓dstAt, ↓Zabf, Zact, Zaae, Zabg, Zaad, Zaac, Zaco, sxGuardB_ff, Zacq, Zacp, Zabk, ↓reduceIte, Nat.reduceEqDiff, Nat.reduceLT, dec_T, dec_F, true_and, Zaab, Nat.add_zero, one1, Option.bind_some, Option.map_some, *, ldS, ldC, one1, faS0, faS1] | (with_reducible first | refine Zacb (by assumption) (by decide +kernel) ?_ | refine Zaca (by decide +kernel) ?_ | refine Zack (by decide +kernel) ?_ | refine Zacd ?_))
      exact ⟨w.length - (k + 1), by omega, k + 1, rfl, by omega, hall', rfl⟩
    · have ck' : ¬ (0 : Int) < (k : Int) := by omega
      have hall' := hall.succ (hgo.2 ⟨by omega, fun h => absurd h ck⟩)
      clear hbad hall hgo hl hx
      repeat' (first | simp only [↓Zaby, ↓Zabt, ↓Zabv, ↓Zabx, ↓Zaai, ↓Zabs, ↓Zabu, ↓Zabw, ↓Zacs, ↓Zacr, ↓Zacm, ↓Zaak, ↓Zach, ↓Zaci, ↓Zacg, ↓Zacc, ↓Zace, ↓Zacf, ↓Zacl, ↓Zacx, ↓Zaay, ↓Zaat, ↓Zaam, ↓Zaau, ↓Zaal, ↓Zaas, ↓Zaav, ↓Zaan, ↓Zaaq, ↓Zaar, ↓Zacu, ↓bxPut, ↓Zabq, ↓Zabp, ↓Zabr, ↓Zaag, ↓Zaah, ↓Zaaf, ↓Zabi, ↓Zabh, ↓Zabj, ↓Zabo, ↓Zacv, ↓Zacw, ↓Zacy, ↓Zabe, ↓Zabc, ↓dstAt, ↓Zabf, Zact, Zaae, Zabg, Zaac, sxGuardB_u, Zacn, sxGuardB_ff, Zacq, Zacp, Zabk, ↓reduceIte, Nat.reduceEqDiff, Nat.reduceLT, dec_T, dec_F, true_and, Nat.add_zero, one1, Option.bind_some, Option.map_some, *, ldS, ldC, one1, faS0, faS1] | (with_reducible first | refine Zacb (by assumption) (by decide +kernel) ?_ | refine Zaca (by decide +kernel) ?_ | refine Zack (by decide +kernel) ?_ | refine Zacd ?_))
      exact ⟨w.length - (k + 1), by omega, k + 1, rfl, by omega, hall', rfl⟩
  · have hke : k = w.length := by omega
    subst hke
    have hlt' : ¬ (((w.length : Nat) : Int) < ((w.length : Nat) : Int)) := by omega
    have hp : PostB H (ProfOk w) (.bool true) H1 := ⟨true, rfl, ⟨fun _ => ⟨by omega, hall⟩, fun _ => rfl⟩, hK1⟩
    clear hall hl
    repeat' (first | simp only [↓Zaby, ↓Zabt, ↓Zabv, ↓Zabx, ↓Zaai, ↓Zabs, ↓Zabu, ↓Zabw, ↓Zacs, ↓Zacr, ↓Zacm, ↓Zaak, ↓Zach, ↓Zaci, ↓Zacg, ↓Zacc, ↓Zace, ↓Zacf, ↓Zacx, ↓Zaay, ↓Zaat, ↓Zaam, ↓Zaau, ↓Zaal, ↓Zaas, ↓Zaav, ↓Zaan, ↓Zaaq, ↓Zaar, ↓Zacu, ↓bxPut, ↓Zabq, ↓Zabp, ↓Zabr, ↓Zaag, ↓Zaah, ↓Zaaf, ↓Zabi, ↓Zabh, ↓Zabj, ↓Zabo, ↓Zacv, ↓Zacw, ↓Zacy, ↓Zabe, ↓Zabc, ↓dstAt, ↓Zabf, Zact, Zaae, Zabg, Zacp, Zabk, ↓reduceIte, Nat.reduceLT, dec_F, *] | (with_reducible first | refine Zacb (by assumption) (by decide +kernel) ?_ | refine Zaca (by decide +kernel) ?_ | refine Zack (by decide +kernel) ?_ | refine Zacd ?_))

end Go.Proofs.Ythkdnlegolphkaa
