/- Fractions, continued: which one is greater. -/
import Derived.Test.YtpeoleimmabceaaBC
import Derived.Test.YtpeoleimmabceaaB3
import Derived.Test.YtpeoleimmabceaaB9
set_option linter.unusedVariables false
set_option linter.unusedSimpArgs false
set_option linter.unusedSectionVars false

namespace Go.Proofs.Ytpeoleimmabceaa
open Go Go.AM
set_option maxRecDepth 10000

theorem BigIs.addr {H : Heap} {v : Value} {z : Int} {lo l : Nat} (h : BigIs H v z lo) : BigIs (H.relow l) v z lo := by
  obtain ⟨v', w, r, o, h1, h2, h3⟩ := h
  exact ⟨v', w, r, o, h1, ⟨h2.isv, h2.rd, h2.lt, h2.ml⟩, h3⟩

variable {S : AM.Sys} (hS : Only S 11)
include hS

theorem Cmp_runs (v1 v2 : Value) (n1 d1 n2 d2 : Int) (lo : Nat) (H : Heap) (hg : Grp H) (hL : H.low ≤ H.size) (h1 : QIs H v1 n1 d1 lo) (h2 : QIs H v2 n2 d2 lo) (hlo : lo ≤ 400) : ∃ H', Keep H H' ∧ Runs Try.prog S (.fn 15) [v1, v2] H (.int .i64 (sgn3 (n1 * d2) (n2 * d1))) H' := by
  suffices h : WCall Try.prog S (.fn 15) [v1, v2] H (fun v H' => v = .int .i64 (sgn3 (n1 * d2) (n2 * d1)) ∧ Keep H H') by
    obtain ⟨_, H', hr, rfl, hk⟩ := h; exact ⟨H', hk, hr⟩
  obtain ⟨t1, t2, t3, t4, rfl, p1, p2⟩ := h1
  obtain ⟨t5, t6, t7, t8, rfl, p3, p4⟩ := h2
  obtain ⟨H1, b1, hK1, hs1, zz1, hr1⟩ := box1 H [t1, t2, t3, t4] 38
  obtain ⟨H2, b2, hK2, hs2, zz2, hr2⟩ := box1 H1 [t5, t6, t7, t8] 38
  clear zz1 zz2
  have q0 : H2.read H.size 0 2 = some [t1, t2] := hK2.read hs1 (hr1 0 2 (show 0 + 2 ≤ 4 by omega))
  have q1 : H2.read H.size 2 2 = some [t3, t4] := hK2.read hs1 (hr1 2 2 (show 2 + 2 ≤ 4 by omega))
  have q2 : H2.read H1.size 0 2 = some [t5, t6] := hr2 0 2 (show 0 + 2 ≤ 4 by omega)
  have q3 : H2.read H1.size 2 2 = some [t7, t8] := hr2 2 2 (show 2 + 2 ≤ 4 by omega)
  have hK02 := hK1.trans hK2
  have hL2 := hK02.low hL
  have hg2 := hK02.grp hg
  have hrl := Keep.relowS H2
  have hob := Times_runs hS _ _ n1 d2 lo lo (H2.relow H2.size) (hrl.grp hg2) (Nat.le_refl _) ((p1.keep hK02).keep hrl) ((p4.keep hK02).keep hrl) hlo hlo
  obtain ⟨H3, x1, hK3, hg3, e1, hR3⟩ := hob
  have f3 := hR3.bx
  have hd1 : ∀ (all : List Oper) (n : Nat) (k : Heap → Prop), sxD all n H2 H3 k = k (H3.relow (Nat.min H2.low H3.low)) := fun all n k => sxD_keep hK3 k
  have hK24 := Keep.draw hK3
  have e1' := e1.addr (l := Nat.min H2.low H3.low)
  generalize hH4 : H3.relow (Nat.min H2.low H3.low) = H4 at *
  have hg4 := hK24.grp hg2
  have hL4 := hK24.low hL2
  have hrl4 := Keep.relowS H4
  have hob2 := Times_runs hS _ _ n2 d1 lo lo (H4.relow H4.size) (hrl4.grp hg4) (Nat.le_refl _) ((p3.keep (hK02.trans hK24)).keep hrl4) ((p2.keep (hK02.trans hK24)).keep hrl4) hlo hlo
  obtain ⟨H5, x2, hK5, hg5, e2, hR5⟩ := hob2
  have f5 := hR5.bx
  have hd2 : ∀ (all : List Oper) (n : Nat) (k : Heap → Prop), sxD all n H4 H5 k = k (H5.relow (Nat.min H4.low H5.low)) := fun all n k => sxD_keep hK5 k
  have hK46 := Keep.draw hK5
  have e2' := e2.addr (l := Nat.min H4.low H5.low)
  generalize hH6 : H5.relow (Nat.min H4.low H5.low) = H6 at *
  have hL6 := hK46.low hL4
  have hrl6 := Keep.relowS H6
  have hob3 := Compare_runs hS x1 x2 (n1 * d2) (n2 * d1) _ _ (H6.relow H6.size) (Nat.le_refl _) ((e1'.keep hK46).keep hrl6) (e2'.keep hrl6)
  obtain ⟨H7, hK7, hR7⟩ := hob3
  have f7 := hR7.bx
  have hd3 : ∀ (all : List Oper) (n : Nat) (k : Heap → Prop), sxD all n H6 H7 k = k (H7.relow (Nat.min H6.low H7.low)) := fun all n k => sxD_keep hK7 k
  have hK68 := Keep.draw hK7
  have hK08 := ((hK02.trans hK24).trans hK46).trans hK68
  have q2' := hK24.read hs2 q2
  have q1' := hK24.read (Nat.lt_of_lt_of_le hs1 hK2.size) q1
  have hc1 : (Value.agg ⟨[t1, t2, t3, t4]⟩).cells.toList = [t1, t2, t3, t4] := rfl
  have hc2 : (Value.agg ⟨[t5, t6, t7, t8]⟩).cells.toList = [t5, t6, t7, t8] := rfl
  refine Zaau Try.func15 rfl (Nat.le_of_ble_eq_true rfl) (hS.no rfl _ _) ?_
  rw [Try.ntmps15, Try.results15]
  clear hR3 hR5 hR7 p1 p2 p3 p4 e1 e2 e1' e2'
  repeat' (first | simp only [↓sxC_draw, ↓Zabl, ↓Zabn, ↓Zabm, ↓Zacf, ↓Zace, ↓Zabz, ↓Zaag, ↓sxDL_assign, ↓Zabw, ↓Zabu, ↓sxD_same, ↓Zack, ↓Zaai, ↓bxOp_box, ↓Zaao, ↓Zaal, ↓Zaas, ↓bxPut, ↓Zabh, ↓Zabf, ↓Zaci, ↓Zacj, ↓Zacl, ↓Zaay, ↓Zaaw, ↓Zaax, Zacg, Zabp, Zabd, List.map_cons, List.map_nil, List.nil_append, List.append_nil, ↓reduceIte, Nat.reduceEqDiff, Nat.reduceLT, true_and, size_relow, low_relow, relow_relow, aLoad_relow, Nat.add_zero, Option.map_some, *, argF, List.getD_cons_zero, List.getD_cons_succ, qaG0, qaG1, ldBig, Nat.zero_add] | (with_reducible first | refine Zabr (by assumption) (by decide +kernel) ?_ | refine Zabq (by decide +kernel) ?_ | refine Zaby (by decide +kernel) ?_ | refine Zabt ?_))
  exact { size := hK08.size, low := fun _ => Nat.min_le_right _ _, lo := Nat.le_min.2 ⟨hK08.lo, Nat.le_trans (Nat.min_le_right _ _) hK08.size⟩, row := hK08.row, grp := hK08.grp, mem := hK08.mem }
end Go.Proofs.Ytpeoleimmabceaa

namespace Go.Proofs.Ytpeoleimmabceaa
open Go Go.AM
set_option maxRecDepth 10000

theorem QIs.addr {H : Heap} {v : Value} {n d : Int} {lo l : Nat} (h : QIs H v n d lo) : QIs (H.relow l) v n d lo := by
  obtain ⟨a, b, c, e, h1, h2, h3⟩ := h
  exact ⟨a, b, c, e, h1, h2.addr, h3.addr⟩

variable {S : AM.Sys} (hS : Only S 11)
include hS

end Go.Proofs.Ytpeoleimmabceaa

namespace Go.Proofs.Ytpeoleimmabceaa
open Go Go.AM
set_option maxRecDepth 10000

theorem val_split_all (a : List Int) (i : Nat) : val (a.take (i + 1)) = val (a.take i) + 10000 ^ i * a.getD i 0 := by
  by_cases h : i < a.length
  · exact val_split h
  · rw [List.take_of_length_le (by omega), List.take_of_length_le (by omega), List.getD_eq_getElem?_getD, List.getElem?_eq_none (by omega)]
    simp
theorem getD_past {a : List Int} {i : Nat} (h : ¬ i < a.length) : a.getD i 0 = 0 := by
  rw [List.getD_eq_getElem?_getD, List.getElem?_eq_none (by omega)]; rfl
variable {S : AM.Sys} (hS : Only S 11)
include hS

theorem addD_runs (v1 v2 : Value) (a b : List Int) (r1 o1 r2 o2 : Nat) (H : Heap) (hg : Grp H) (hL : H.low ≤ H.size) (h1 : SlI .i64 H v1 a r1 o1) (h2 : SlI .i64 H v2 b r2 o2) (ha : Digs a) (hb : Digs b) (hsa : a.length ≤ 3000) (hsb : b.length ≤ 3000) :
    ∃ w, Digs w ∧ val w = val a + val b ∧ w.length ≤ a.length + b.length + 1 ∧ Out S 55 [v1, v2] H w := by
  suffices h : WCall Try.prog S (.fn 55) [v1, v2] H (fun v H' => ∃ w r' o', Digs w ∧ val w = val a + val b ∧ w.length ≤ a.length + b.length + 1 ∧ Keep H H' ∧ Grp H' ∧ SlI .i64 H' v w r' o' ∧ Fine v ∧ (0 < w.length → H.size ≤ r')) by
    obtain ⟨v', H', hr, w, r', o', h1, h2, h2b, h3, h4, h5, h6, h7⟩ := h; exact ⟨w, h1, h2, h2b, H', v', r', o', h3, h4, h5, h6, h7, hr⟩
  obtain ⟨a1, c1, rfl⟩ := h1.v0
  obtain ⟨a2, c2, rfl⟩ := h2.v0
  refine Zaau Try.func55 rfl (Nat.le_of_ble_eq_true rfl) (hS.no rfl _ _) ?_
  rw [Try.ntmps55, Try.results55]
  repeat' (first | simp only [↓Zabl, ↓Zabn, ↓bxC_loop, ↓Zabj, ↓Zabm, ↓Zacf, ↓Zace, ↓Zack, ↓Zaap, ↓Zaai, ↓bxPut, ↓Zabh, ↓Zabf, ↓Zaci, ↓Zacj, ↓Zaay, ↓Zaaw, Zabd, Nat.reduceLT, *])
  refine sxL_of (fun m ρ H2 => ∃ (i : Nat) (out : List Int) (v' : Value) (c : Int), m = a.length + b.length + 1 - i ∧ out.length = i ∧ i ≤ a.length + b.length + 1 ∧ Digs out ∧ (c = 0 ∨ c = 1) ∧ (a.length < i ∧ b.length < i → c = 0) ∧ val out + 10000 ^ i * c = val (a.take i) + val (b.take i) ∧ Lst 3 .i64 H H2 v' out ∧
    ρ 0 = .slice a1 a.length c1 ∧ ρ 1 = .slice a2 b.length c2 ∧ ρ 5 = v' ∧ ρ 6 = .int .i64 c ∧ ρ 7 = .int .i64 i)
    ⟨0, [], _, 0, rfl, rfl, Nat.zero_le _, (fun x hx => absurd hx (List.not_mem_nil)), .inl rfl, (fun _ => rfl), (by simp [val]), Lst.nil (Keep.refl H) hg, rfl, rfl, rfl, rfl, rfl⟩ ?_
  rintro m ρ H2 ⟨i, out, v', c, rfl, hol, hi, hod, hc, hcz, hov, L, e0, e1, e5, e6, e7⟩
  have hL2 : H2.low ≤ H2.size := L.keep.low hL
  have hsa' := val_split_all a i
  have hsb' := val_split_all b i
  have hai := ha.getD i
  have hbi := hb.getD i
  have hc01 : 0 ≤ c ∧ c ≤ 1 := by rcases hc with h | h <;> omega
  have fin : ∀ s : Int, s = c + a.getD i 0 + b.getD i 0 → (Digs (out ++ [s.tmod 10000]) ∧ val (out ++ [s.tmod 10000]) + 10000 ^ (i + 1) * s.tdiv 10000 = val (a.take (i + 1)) + val (b.take (i + 1)) ∧ (s.tdiv 10000 = 0 ∨ s.tdiv 10000 = 1)) := fun s hs => by
    rw [Int.tmod_eq_emod_of_nonneg (by omega), Int.tdiv_eq_ediv_of_nonneg (by omega)]
    refine ⟨hod.append (Digs.one (by omega)), ?_, by omega⟩
    rw [val_append, hol, hsa', hsb', Int.pow_succ, Int.mul_assoc]
    simp only [val, Int.mul_zero, Int.add_zero]
    have h3 : (10000 : Int) ^ i * (s % 10000) + 10000 ^ i * (10000 * (s / 10000)) = 10000 ^ i * c + 10000 ^ i * a.getD i 0 + 10000 ^ i * b.getD i 0 := by
      rw [← Int.mul_add, ← Int.mul_add, ← Int.mul_add]
      congr 1
      omega
    omega
  by_cases hA : i < a.length
  · by_cases hB : i < b.length
    · have hlt1 : (i : Int) < (a.length : Int) := by omega
      have hlt2 : (i : Int) < (b.length : Int) := by omega
      have p1 := SlI_ix h1 hA
      have q1 := ((h1.keep L.keep).rdI hA).1
      have hwi := wrap_succ hA h1.ml
      have p2 := SlI_ix h2 hB
      have q2 := ((h2.keep L.keep).rdI hB).1
      have hwj := wrap_succ hB h2.ml
      have hf := fin (c + a.getD i 0 + b.getD i 0) (by omega)
      have hob1 := L.push okI hg (by omega) ((c + a.getD i 0 + b.getD i 0).tmod 10000)
      obtain ⟨v3, H3, p3, L3⟩ := hob1
      have b3 := bsI H2 ((c + a.getD i 0 + b.getD i 0).tmod 10000)
      have hcz' : a.length < i + 1 ∧ b.length < i + 1 → (c + a.getD i 0 + b.getD i 0).tdiv 10000 = 0 := fun hh => by rw [Int.tdiv_eq_ediv_of_nonneg (by omega)]; omega
      clear h1 h2 hsa' hsb' ha hb hov fin
      generalize a.getD i 0 = x at *
      generalize b.getD i 0 = y at *
      have f1 : IntKind.i64.wrap (c + x) = c + x := IntWalk.i64_in _ (by omega)
      have f2 : IntKind.i64.wrap (c + x + y) = c + x + y := IntWalk.i64_in _ (by omega)
      have hb0 : ¬ (10000 : Int) = 0 := by omega
      have hdv : IntKind.i64.wrap ((c + x + y).tdiv 10000) = (c + x + y).tdiv 10000 := IntWalk.i64_in _ (by rw [Int.tdiv_eq_ediv_of_nonneg (by omega)]; omega)
      repeat' (first | simp only [↓Zabo, ↓Zabl, ↓Zabn, ↓Zaaf, ↓Zabj, ↓Zabk, ↓Zacf, ↓Zace, ↓Zack, ↓Zaat, ↓Zaap, ↓Zaai, ↓Zaaq, ↓Zaak, ↓Zaao, ↓Zaaj, ↓Zaam, ↓Zaan, ↓bxOp_append, ↓bxPut, ↓Zabh, ↓Zabg, ↓Zaad, ↓Zaac, ↓Zabc, ↓Zabb, ↓Zacl, ↓Zaay, ↓Zaaw, ↓dstAt, ↓Zaaz, Zacg, Zaab, Zaba, aPick_true, sxGuardB_ft, Zacd, List.map_cons, List.map_nil, ↓reduceIte, Nat.reduceEqDiff, Nat.reduceLT, dec_T, true_and, one1, Option.bind_some, ne_eq, not_false_eq_true, *, lenI, ldI])
      exact ⟨_, by omega, i + 1, _, _, _, rfl, by simp [hol], by omega, hf.1, hf.2.2, hcz', hf.2.1, L3, rfl, rfl, rfl⟩
    · have hlt1 : (i : Int) < (a.length : Int) := by omega
      have hlt2 : ¬ (i : Int) < (b.length : Int) := by omega
      have p1 := SlI_ix h1 hA
      have q1 := ((h1.keep L.keep).rdI hA).1
      have hwi := wrap_succ hA h1.ml
      have gy := getD_past hB
      have hf := fin (c + a.getD i 0) (by omega)
      have hob1 := L.push okI hg (by omega) ((c + a.getD i 0).tmod 10000)
      obtain ⟨v3, H3, p3, L3⟩ := hob1
      have b3 := bsI H2 ((c + a.getD i 0).tmod 10000)
      have hcz' : a.length < i + 1 ∧ b.length < i + 1 → (c + a.getD i 0).tdiv 10000 = 0 := fun hh => by rw [Int.tdiv_eq_ediv_of_nonneg (by omega)]; omega
      clear h1 h2 hsa' hsb' ha hb hov fin
      generalize a.getD i 0 = x at *
      have f1 : IntKind.i64.wrap (c + x) = c + x := IntWalk.i64_in _ (by omega)
      have hb0 : ¬ (10000 : Int) = 0 := by omega
      have hdv : IntKind.i64.wrap ((c + x).tdiv 10000) = (c + x).tdiv 10000 := IntWalk.i64_in _ (by rw [Int.tdiv_eq_ediv_of_nonneg (by omega)]; omega)
      repeat' (first | simp only [↓Zabo, ↓Zabl, ↓Zabn, ↓Zaaf, ↓Zabj, ↓Zabk, ↓Zacf, ↓Zace, ↓Zack, ↓Zaat, ↓Zaap, ↓Zaai, ↓Zaaq, ↓Zaak, ↓Zaao, ↓Zaaj, ↓Zaam, ↓Zaan, ↓bxOp_append, ↓bxPut, ↓Zabh, ↓Zabg, ↓Zaad, ↓Zaac, ↓Zabc, ↓Zabb, ↓Zacl, ↓Zaay, ↓Zaaw, ↓dstAt, ↓Zaaz, Zacg, Zaab, Zaba, aPick_true, sxGuardB_ft, Zacd, Zacc, List.map_cons, List.map_nil, ↓reduceIte, Nat.reduceEqDiff, Nat.reduceLT, dec_T, dec_F, true_and, one1, Option.bind_some, ne_eq, not_false_eq_true, *, lenI, ldI])
      exact ⟨_, by omega, i + 1, _, _, _, rfl, by simp [hol], by omega, hf.1, hf.2.2, hcz', hf.2.1, L3, rfl, rfl, rfl⟩
  · by_cases hB : i < b.length
    · have hlt1 : ¬ (i : Int) < (a.length : Int) := by omega
      have hlt2 : (i : Int) < (b.length : Int) := by omega
      have gx := getD_past hA
      have p2 := SlI_ix h2 hB
      have q2 := ((h2.keep L.keep).rdI hB).1
      have hwj := wrap_succ hB h2.ml
      have hf := fin (c + b.getD i 0) (by omega)
      have hob1 := L.push okI hg (by omega) ((c + b.getD i 0).tmod 10000)
      obtain ⟨v3, H3, p3, L3⟩ := hob1
      have b3 := bsI H2 ((c + b.getD i 0).tmod 10000)
      have hcz' : a.length < i + 1 ∧ b.length < i + 1 → (c + b.getD i 0).tdiv 10000 = 0 := fun hh => by rw [Int.tdiv_eq_ediv_of_nonneg (by omega)]; omega
      clear h1 h2 hsa' hsb' ha hb hov fin
      generalize b.getD i 0 = y at *
      have f2 : IntKind.i64.wrap (c + y) = c + y := IntWalk.i64_in _ (by omega)
      have hb0 : ¬ (10000 : Int) = 0 := by omega
      have hdv : IntKind.i64.wrap ((c + y).tdiv 10000) = (c + y).tdiv 10000 := IntWalk.i64_in _ (by rw [Int.tdiv_eq_ediv_of_nonneg (by omega)]; omega)
      repeat' (first | simp only [↓Zabo, ↓Zabl, ↓Zabn, ↓Zaaf, ↓Zabj, ↓Zabk, ↓Zacf, ↓Zace, ↓Zack, ↓Zaat, ↓Zaap, ↓Zaai, ↓Zaaq, ↓Zaak, ↓Zaao, ↓Zaaj, ↓Zaam, ↓Zaan, ↓bxOp_append, ↓bxPut, ↓Zabh, ↓Zabg, ↓Zaad, ↓Zaac, ↓Zabc, ↓Zabb, ↓Zacl, ↓Zaay, ↓Zaaw, ↓dstAt, ↓Zaaz, Zacg, Zaab, Zaba, aPick_true, Zaaa, sxGuardB_ft, sxGuardB_ff, Zacd, Zacc, List.map_cons, List.map_nil, ↓reduceIte, Nat.reduceEqDiff, Nat.reduceLT, dec_T, dec_F, true_and, one1, Option.bind_some, ne_eq, not_false_eq_true, *, lenI, ldI])
      exact ⟨_, by omega, i + 1, _, _, _, rfl, by simp [hol], by omega, hf.1, hf.2.2, hcz', hf.2.1, L3, rfl, rfl, rfl⟩
    · by_cases hC : c = 1
      · have hlt1 : ¬ (i : Int) < (a.length : Int) := by omega
        have hlt2 : ¬ (i : Int) < (b.length : Int) := by omega
        have gx := getD_past hA
        have gy := getD_past hB
        have hcp : 0 < c := by omega
        clear hC
        have hil : i ≤ a.length + b.length := by
          rcases Nat.lt_or_ge (a.length + b.length) i with h | h
          · have := hcz ⟨by omega, by omega⟩; omega
          · exact h
        have hwi : IntKind.i64.wrap ((i : Int) + 1) = ((i + 1 : Nat) : Int) := by rw [IntWalk.i64_in _ (by omega)]; omega
        have hf := fin (c) (by omega)
        have hob1 := L.push okI hg (by omega) ((c).tmod 10000)
        obtain ⟨v3, H3, p3, L3⟩ := hob1
        have b3 := bsI H2 ((c).tmod 10000)
        have hcz' : a.length < i + 1 ∧ b.length < i + 1 → (c).tdiv 10000 = 0 := fun hh => by rw [Int.tdiv_eq_ediv_of_nonneg (by omega)]; omega
        clear h1 h2 hsa' hsb' ha hb hov fin
        have hb0 : ¬ (10000 : Int) = 0 := by omega
        have hdv : IntKind.i64.wrap ((c).tdiv 10000) = (c).tdiv 10000 := IntWalk.i64_in _ (by rw [Int.tdiv_eq_ediv_of_nonneg (by omega)]; omega)
        repeat' (first | simp only [↓Zabo, ↓Zabl, ↓Zabn, ↓Zaaf, ↓Zabj, ↓Zabk, ↓Zacf, ↓Zace, ↓Zack, ↓Zaat, ↓Zaap, ↓Zaai, ↓Zaaq, ↓Zaak, ↓Zaao, ↓Zaaj, ↓Zaam, ↓Zaan, ↓bxOp_append, ↓bxPut, ↓Zabh, ↓Zabg, ↓Zaad, ↓Zaac, ↓Zabc, ↓Zabb, ↓Zacl, ↓Zaay, ↓Zaaw, ↓dstAt, ↓Zaaz, Zacg, Zaab, Zaba, Zaaa, sxGuardB_ff, Zacd, Zacc, List.map_cons, List.map_nil, ↓reduceIte, Nat.reduceEqDiff, Nat.reduceLT, dec_T, dec_F, true_and, ne_eq, not_false_eq_true, *, lenI])
        exact ⟨_, by omega, i + 1, _, _, _, rfl, by simp [hol], by omega, hf.1, hf.2.2, hcz', hf.2.1, L3, rfl, rfl, rfl⟩
      · have hc0 : c = 0 := by omega
        have hlt1 : ¬ (i : Int) < (a.length : Int) := by omega
        have hlt2 : ¬ (i : Int) < (b.length : Int) := by omega
        have hcp : ¬ 0 < c := by omega
        rw [List.take_of_length_le (by omega), List.take_of_length_le (by omega), hc0, Int.mul_zero, Int.add_zero] at hov
        have hob1 := L.slF (fun z hz => by have := hod z hz; show -9223372036854775808 ≤ z ∧ z ≤ 9223372036854775807; omega) (by show out.length ≤ 9223372036854775807; omega)
        obtain ⟨rr, sl, hfr⟩ := hob1
        have hF := L.fine
        have hle : out.length ≤ a.length + b.length + 1 := by omega
        have hk := L.keep
        have hgg := L.grp
        clear h1 h2 ha hb L hol fin hc0 hc hcz hsa' hsb' hai hbi
        repeat' (first | simp only [↓Zabo, ↓Zabl, ↓Zabn, ↓Zaaf, ↓Zabj, ↓Zabk, ↓Zacf, ↓Zace, ↓Zack, ↓Zaat, ↓Zaap, ↓Zaai, ↓Zaaq, ↓Zaak, ↓Zaao, ↓Zaaj, ↓Zaam, ↓Zaan, ↓bxOp_append, ↓bxPut, ↓Zabh, ↓Zabg, ↓Zaad, ↓Zaac, ↓Zabc, ↓Zabb, ↓Zacl, ↓Zaay, ↓Zaaw, ↓dstAt, ↓Zaaz, Zacg, Zaab, Zaba, Zaaa, sxGuardB_ff, Zacc, ↓reduceIte, Nat.reduceEqDiff, Nat.reduceLT, dec_F, true_and, *, lenI])
        exact ⟨out, rr, 0, hod, hov, hle, sl, hfr⟩
end Go.Proofs.Ytpeoleimmabceaa

namespace Go.Proofs.Ytpeoleimmabceaa
open Go Go.AM
set_option maxRecDepth 10000

theorem BigIs.addr0 {H : Heap} {v : Value} {z : Int} {lo l : Nat} (h : BigIs H v z lo) : BigIs (H.relow l) v z lo := by
  obtain ⟨v', w, r, o, h1, h2, h3⟩ := h
  exact ⟨v', w, r, o, h1, ⟨h2.isv, h2.rd, h2.lt, h2.ml⟩, h3⟩
theorem BigIs.mono0 {H : Heap} {v : Value} {z : Int} {a b : Nat} (h : BigIs H v z a) (hab : a ≤ b) : BigIs H v z b := by
  obtain ⟨v', w, r', o', h1, h2, h3, h4, h5, h6⟩ := h
  exact ⟨v', w, r', o', h1, h2, h3, h4, h5, Nat.le_trans h6 hab⟩
theorem SlI.addr0 {k : IntKind} {H : Heap} {v : Value} {w : List Int} {r o l : Nat} (h : SlI k H v w r o) : SlI k (H.relow l) v w r o := ⟨h.isv, h.rd, h.lt, h.ml⟩
theorem ne_row2 {H : Heap} {r : Nat} {e : TypeId} (h : Own H r e [.bool false, .slice none 0 0]) {k : IntKind} {v : Value} {w : List Int} {r' o' : Nat} (hx : SlI k H v w r' o') (h0 : 0 < w.length) : r' ≠ r := by
  intro he
  subst he
  have h1 := (hx.rdI h0).1
  by_cases hle : o' + 0 + 1 ≤ 2
  · rw [h.read (o := o' + 0) (n := 1) hle] at h1
    rcases o' with _ | _ | o'
    all_goals first | (simp at h1; done) | omega
  · unfold Heap.read at h1
    rw [h.get] at h1
    simp only [] at h1
    rw [show Nat.ble (o' + 0 + 1) [Value.bool false, .slice none 0 0].length = false from Bool.eq_false_iff.2 (fun hb => hle (Nat.le_of_ble_eq_true hb))] at h1
    simp at h1
theorem retBig {H : Heap} {r : Nat} (h : Own H r 36 [.bool false, .slice none 0 0]) {v : Value} {z : Int} {lo : Nat} (hq : BigIs H v z lo) :
    ∃ H2, aStore Try.prog H 36 (.pointer (some ⟨r, 0, none⟩)) v = some H2 ∧ aLoad Try.prog H2 36 (.pointer (some ⟨r, 0, none⟩)) = some v ∧ BigIs H2 v z lo ∧ (∀ H0, Keep H0 H → H0.size ≤ r → Keep H0 H2) := by
  obtain ⟨v', w, r', o', rfl, s1, h3⟩ := hq
  obtain ⟨a1, c1, rfl⟩ := s1.v0
  obtain ⟨H2, ps, q8, hsz, hkp⟩ := stBig h rfl (decide (z < 0)) a1 w.length c1
  exact ⟨H2, ps, by rw [ldBig, q8]; rfl, ⟨_, w, r', o', rfl, SlE.other h ps hsz s1 (ne_row2 h s1), h3⟩, hkp⟩

theorem endBig {S : AM.Sys} {f : FuncId} {args : List Value} {H0 H : Heap} {r : Nat} (hk : Keep H0 H) (hr : H0.size ≤ r) (hL : H.low ≤ H.size) (hg0 : Grp H0) (ow : Own H r 36 [.bool false, .slice none 0 0]) {z : Int} {lo : Nat} (h : BigOut S f args (H.relow H.size) z lo) :
    ∃ v H6 H7 H8, (∀ (K : Value → Heap → Prop) (b : Blk K), sxCallB Try.prog S (.fn f) args (H.relow H.size) K b = K v H6) ∧ (∀ (all : List Oper) (n : Nat) (k : Heap → Prop), sxD all n H H6 k = k H7) ∧
      aStore Try.prog (H7.relow H7.size) 36 (.pointer (some ⟨r, 0, none⟩)) v = some H8 ∧ aLoad Try.prog H8 36 (.pointer (some ⟨r, 0, none⟩)) = some v ∧ H7.low ≤ H7.size ∧
      Keep H0 (H8.relow (Nat.min H7.low H8.low)) ∧ Grp (H8.relow (Nat.min H7.low H8.low)) ∧ BigIs (H8.relow (Nat.min H7.low H8.low)) v z lo := by
  obtain ⟨H6, v, hK6, hg6, hb, hR⟩ := h
  have hK67 := Keep.draw hK6
  have hK7 := hk.trans hK67
  have ow7 := (ow.keep hK67).addr (l := (H6.relow (Nat.min H.low H6.low)).size)
  obtain ⟨H8, ps, hld, hq, hkp⟩ := retBig ow7 (hb.addr0.addr0)
  have hK8 := Keep.lower hK7 (hkp H0 (hK7.trans (Keep.relowS _)) hr)
  exact ⟨v, H6, H6.relow (Nat.min H.low H6.low), H8, hR.bx, fun all n k => sxD_keep hK6 k, ps, hld, hK67.low hL, hK8, hK8.grp hg0, hq.addr0⟩

variable {S : AM.Sys} (hS : Only S 11)
include hS

theorem whole_big (sg : Bool) (v : Value) (w : List Int) (r o : Nat) (H : Heap) (hg : Grp H) (hL : H.low ≤ H.size) (hd : SlI .i64 H v w r o) (hdg : Digs w) (hs : w.length ≤ 100000) (z : Int) (hv : val w = z.natAbs) (hsg : z ≠ 0 → sg = decide (z < 0)) : BigOut S 50 [.bool sg, v] H z w.length := by
  have hob := whole_runs hS sg v w r o H hg hL hd hs
  obtain ⟨H', v', r', o', hK, hg', s', hF, hfr, hR⟩ := hob
  have hvt : val (trimL w) = z.natAbs := by rw [trimL_val, hv]
  have htd := trimL_digs hdg
  have htn := trimL_norm w
  have hpos := val_zero htd htn
  rw [hvt] at hpos
  have hsg2 : (sg && decide (0 < (trimL w).length)) = decide (z < 0) := by
    by_cases h0 : z = 0
    · have hl : ¬ 0 < (trimL w).length := fun h => by have := hpos.1 h; omega
      rw [decide_eq_false hl, decide_eq_false (show ¬ z < 0 by omega), Bool.and_false]
    · rw [decide_eq_true (hpos.2 (by omega)), Bool.and_true, hsg h0]
  rw [hsg2] at hR
  exact ⟨H', _, hK, hg', ⟨_, trimL w, r', o', rfl, s', htd, htn, hvt, trimL_le w⟩, hR⟩

theorem Plus_runs (v1 v2 : Value) (x y : Int) (l1 l2 : Nat) (H : Heap) (hg : Grp H) (hL : H.low ≤ H.size) (h1 : BigIs H v1 x l1) (h2 : BigIs H v2 y l2) (hl1 : l1 ≤ 400) (hl2 : l2 ≤ 400) : BigOut S 32 [v1, v2] H (x + y) (l1 + l2 + 1) := by
  suffices h : WCall Try.prog S (.fn 32) [v1, v2] H (fun v H' => Keep H H' ∧ Grp H' ∧ BigIs H' v (x + y) (l1 + l2 + 1)) by
    obtain ⟨v, H', hr, h1, h2, h3⟩ := h; exact ⟨H', v, h1, h2, h3, hr⟩
  obtain ⟨u1, w1, r1, o1, rfl, s1, d1, n1, e1, g1⟩ := h1
  obtain ⟨u2, w2, r2, o2, rfl, s2, d2, n2, e2, g2⟩ := h2
  obtain ⟨a1, c1, rfl⟩ := s1.v0
  obtain ⟨a2, c2, rfl⟩ := s2.v0
  obtain ⟨H1, b1, hK1, hs1, zz1, hr1⟩ := box1 H [.bool (decide (x < 0)), .slice a1 w1.length c1] 36
  obtain ⟨H2, b2, hK2, hs2, zz2, hr2⟩ := box1 H1 [.bool (decide (y < 0)), .slice a2 w2.length c2] 36
  obtain ⟨H3, b3, hK3, hs3, zz3, _⟩ := box1 H2 [.bool false, .slice none 0 0] 36
  have ow : Own H3 H2.size 36 [.bool false, .slice none 0 0] := b3 ▸ Own.new H2 _ _
  clear zz1 zz2 zz3
  have q0 := (hK2.trans hK3).read hs1 (hr1 0 1 (show 0 + 1 ≤ 2 by omega))
  have q1 := (hK2.trans hK3).read hs1 (hr1 1 1 (show 1 + 1 ≤ 2 by omega))
  have q2 := hK3.read hs2 (hr2 0 1 (show 0 + 1 ≤ 2 by omega))
  have q3 := hK3.read hs2 (hr2 1 1 (show 1 + 1 ≤ 2 by omega))
  replace q0 : H3.read H.size 0 1 = some [.bool (decide (x < 0))] := q0
  replace q1 : H3.read H.size 1 1 = some [.slice a1 w1.length c1] := q1
  replace q2 : H3.read H1.size 0 1 = some [.bool (decide (y < 0))] := q2
  replace q3 : H3.read H1.size 1 1 = some [.slice a2 w2.length c2] := q3
  have hc1 : (Value.agg ⟨[.bool (decide (x < 0)), .slice a1 w1.length c1]⟩).cells.toList = [.bool (decide (x < 0)), .slice a1 w1.length c1] := rfl
  have hc2 : (Value.agg ⟨[.bool (decide (y < 0)), .slice a2 w2.length c2]⟩).cells.toList = [.bool (decide (y < 0)), .slice a2 w2.length c2] := rfl
  have hK03 := (hK1.trans hK2).trans hK3
  have hL3 := hK03.low hL
  have hg3 := hK03.grp hg
  clear hr1 hr2
  refine Zaau Try.func32 rfl (Nat.le_of_ble_eq_true rfl) (hS.no rfl _ _) ?_
  rw [Try.ntmps32, Try.results32]
  have hrl := Keep.relowS H3
  have hgr := hrl.grp hg3
  have sa := (s1.keep hK03).keep hrl
  have sb := (s2.keep hK03).keep hrl
  have key : ∀ (f : FuncId) (args : List Value) (sg : Bool), (x + y ≠ 0 → sg = decide (x + y < 0)) → (∃ w, Digs w ∧ val w = ((x + y).natAbs : Int) ∧ w.length ≤ l1 + l2 + 1 ∧ Out S f args (H3.relow H3.size) w) →
      ∃ v4 H4 H5 v6 H6 H7 H8, (∀ (K : Value → Heap → Prop) (b : Blk K), sxCallB Try.prog S (.fn f) args (H3.relow H3.size) K b = K v4 H4) ∧ (∀ (all : List Oper) (n : Nat) (k : Heap → Prop), sxD all n H3 H4 k = k H5) ∧ H5.low ≤ H5.size ∧
        (∀ (K : Value → Heap → Prop) (b : Blk K), sxCallB Try.prog S (.fn 50) [.bool sg, v4] (H5.relow H5.size) K b = K v6 H6) ∧ (∀ (all : List Oper) (n : Nat) (k : Heap → Prop), sxD all n H5 H6 k = k H7) ∧
        aStore Try.prog (H7.relow H7.size) 36 (.pointer (some ⟨H2.size, 0, none⟩)) v6 = some H8 ∧ aLoad Try.prog H8 36 (.pointer (some ⟨H2.size, 0, none⟩)) = some v6 ∧ H7.low ≤ H7.size ∧
        Keep H (H8.relow (Nat.min H7.low H8.low)) ∧ Grp (H8.relow (Nat.min H7.low H8.low)) ∧ BigIs (H8.relow (Nat.min H7.low H8.low)) v6 (x + y) (l1 + l2 + 1) := by
    rintro f args sg hsg ⟨w, wd, wv, wl, H4, v4, r4, o4, hK4, hg4, s4, hF4, hfr4, hR4⟩
    have hK45 := Keep.draw hK4
    have hL5 := hK45.low hL3
    have hK05 := hK03.trans hK45
    have hw := whole_big hS sg v4 w r4 o4 ((H4.relow (Nat.min H3.low H4.low)).relow (H4.relow (Nat.min H3.low H4.low)).size) ((Keep.relowS _).grp (hK45.grp hg3)) (Nat.le_refl _) (SlI.addr0 (SlI.addr0 s4)) wd (by omega) (x + y) wv hsg
    obtain ⟨Hw, vw, k1, k2, k3, k4⟩ := hw
    obtain ⟨v6, H6, H7, H8, a1, a2, a3, a4, a5, a6, a7, a8⟩ := endBig hK05 (Nat.le_trans hK1.size hK2.size) hL5 hg (ow.keep hK45) ⟨Hw, vw, k1, k2, BigIs.mono0 k3 wl, k4⟩
    exact ⟨v4, H4, H4.relow (Nat.min H3.low H4.low), v6, H6, H7, H8, hR4.bx, fun all n k => sxD_keep hK4 k, hL5, a1, a2, a3, a4, a5, a6, a7, a8⟩
  by_cases hxy : decide (x < 0) = decide (y < 0)
  · have hb : (decide (x < 0) == decide (y < 0)) = true := by rw [hxy]; exact beq_self_eq_true _
    have hiff := decide_eq_decide.1 hxy
    have hob := key 55 [.slice a1 w1.length c1, .slice a2 w2.length c2] (decide (x < 0)) (fun _ => decide_eq_decide.2 (by omega)) (by
      obtain ⟨w, k1, k2, k3, k4⟩ := addD_runs hS _ _ w1 w2 r1 o1 r2 o2 (H3.relow H3.size) hgr (Nat.le_refl _) sa sb d1 d2 (by omega) (by omega)
      exact ⟨w, k1, by rw [k2, e1, e2]; omega, by omega, k4⟩)
    obtain ⟨v4, H4, H5, v6, H6, H7, H8, fa, fb, hL5, fc, fd, ps, hld, hL7, hK8, hg8, hbig⟩ := hob
    rw [ldBig] at hld
    clear hxy hiff key sa sb ow s1 s2 d1 d2 n1 n2 e1 e2
    repeat' (first | simp only [↓Zabo, ↓sxC_draw, ↓Zabl, ↓Zabn, ↓Zaaf, ↓Zabm, ↓Zacf, ↓Zace, ↓Zabz, ↓Zaag, ↓Zabw, ↓Zabu, ↓sxD_same, ↓Zack, ↓Zaah, ↓bxOp_box, ↓Zaao, ↓Zaar, ↓Zaaj, ↓Zaal, ↓Zaas, ↓Zach, ↓bxPut, ↓Zabh, ↓Zabi, ↓Zabf, ↓Zaci, ↓bxRes_cell, ↓Zacl, ↓Zaay, ↓Zaaw, ↓Zaax, Zacg, Zabp, Zacd, Zabd, List.map_cons, List.map_nil, List.nil_append, List.append_nil, ↓reduceIte, Nat.reduceEqDiff, Nat.reduceLT, and_self, read_relow, aLoad_relow, Nat.add_zero, one1, Option.bind_some, *, argF, List.getD_cons_zero, List.getD_cons_succ, alBig, ldBig, faG0, faG1, ldB4, ldIs, eqlB, Nat.zero_add] | (with_reducible first | refine Zabr (by assumption) (by decide +kernel) ?_ | refine Zabq (by decide +kernel) ?_ | refine Zaby (by decide +kernel) ?_ | refine Zabt ?_))
  · have hb : (decide (x < 0) == decide (y < 0)) = false := beq_false_of_ne hxy
    have hiff : ¬ ((x < 0) ↔ (y < 0)) := fun h => hxy (decide_eq_decide.2 h)
    have hcm := (cmpD_runs hS _ _ w1 w2 r1 o1 r2 o2 H3 hL3 (s1.keep hK03) (s2.keep hK03)).bx
    have hcv := cmpL_val d1 n1 d2 n2
    rw [e1, e2] at hcv
    by_cases hge : 0 ≤ cmpL w1 w2
    · have hle : y.natAbs ≤ x.natAbs := by
        rw [hcv] at hge
        split at hge
        · omega
        · omega
      have hob := key 56 [.slice a1 w1.length c1, .slice a2 w2.length c2] (decide (x < 0)) (fun hz => decide_eq_decide.2 (by omega)) (by
        obtain ⟨w, k1, k2, k3⟩ := subD_runs hS _ _ w1 w2 r1 o1 r2 o2 (H3.relow H3.size) hgr (Nat.le_refl _) sa sb d1 d2 (by omega) (len_le d2 n2 d1 (by rw [e1, e2]; omega)) (by rw [e1, e2]; omega)
        exact ⟨w, k1.1, by rw [k1.2.2, e1, e2]; omega, by omega, k3⟩)
      obtain ⟨v4, H4, H5, v6, H6, H7, H8, fa, fb, hL5, fc, fd, ps, hld, hL7, hK8, hg8, hbig⟩ := hob
      rw [ldBig] at hld
      clear hxy hiff key sa sb ow s1 s2 d1 d2 n1 n2 e1 e2 hcv hle
      repeat' (first | simp only [↓Zabo, ↓sxC_draw, ↓Zabl, ↓Zabn, ↓Zaaf, ↓Zabm, ↓Zacf, ↓Zace, ↓Zabz, ↓Zaag, ↓Zabw, ↓Zabu, ↓sxD_same, ↓Zack, ↓Zaah, ↓bxOp_box, ↓Zaao, ↓Zaar, ↓Zaaj, ↓Zaal, ↓Zaas, ↓Zach, ↓bxPut, ↓Zabh, ↓Zabi, ↓Zabf, ↓Zaci, ↓bxRes_cell, ↓Zacl, ↓Zaay, ↓Zaaw, ↓Zaax, Zacg, Zaab, Zaba, Zabp, Zacd, Zacc, Zabd, List.map_cons, List.map_nil, List.nil_append, List.append_nil, ↓reduceIte, Nat.reduceEqDiff, Nat.reduceLT, dec_T, and_self, read_relow, aLoad_relow, Nat.add_zero, one1, Option.bind_some, *, argF, List.getD_cons_zero, List.getD_cons_succ, alBig, ldBig, faG0, faG1, ldB4, ldIs, eqlB, Nat.zero_add] | (with_reducible first | refine Zabr (by assumption) (by decide +kernel) ?_ | refine Zabq (by decide +kernel) ?_ | refine Zaby (by decide +kernel) ?_ | refine Zabt ?_))
    · have hle : x.natAbs ≤ y.natAbs := by
        rw [hcv] at hge
        split at hge
        · omega
        · omega
      have hob := key 56 [.slice a2 w2.length c2, .slice a1 w1.length c1] (decide (y < 0)) (fun hz => decide_eq_decide.2 (by omega)) (by
        obtain ⟨w, k1, k2, k3⟩ := subD_runs hS _ _ w2 w1 r2 o2 r1 o1 (H3.relow H3.size) hgr (Nat.le_refl _) sb sa d2 d1 (by omega) (len_le d1 n1 d2 (by rw [e1, e2]; omega)) (by rw [e1, e2]; omega)
        exact ⟨w, k1.1, by rw [k1.2.2, e1, e2]; omega, by omega, k3⟩)
      obtain ⟨v4, H4, H5, v6, H6, H7, H8, fa, fb, hL5, fc, fd, ps, hld, hL7, hK8, hg8, hbig⟩ := hob
      rw [ldBig] at hld
      clear hxy hiff key sa sb ow s1 s2 d1 d2 n1 n2 e1 e2 hcv hle
      repeat' (first | simp only [↓Zabo, ↓sxC_draw, ↓Zabl, ↓Zabn, ↓Zaaf, ↓Zabm, ↓Zacf, ↓Zace, ↓Zabz, ↓Zaag, ↓Zabw, ↓Zabu, ↓sxD_same, ↓Zack, ↓Zaah, ↓bxOp_box, ↓Zaao, ↓Zaar, ↓Zaaj, ↓Zaal, ↓Zaas, ↓Zach, ↓bxPut, ↓Zabh, ↓Zabi, ↓Zabf, ↓Zaci, ↓bxRes_cell, ↓Zacl, ↓Zaay, ↓Zaaw, ↓Zaax, Zacg, Zaab, Zaba, Zabp, Zacc, Zabd, List.map_cons, List.map_nil, List.nil_append, List.append_nil, ↓reduceIte, Nat.reduceEqDiff, Nat.reduceLT, dec_F, and_self, read_relow, aLoad_relow, Nat.add_zero, one1, Option.bind_some, *, argF, List.getD_cons_zero, List.getD_cons_succ, alBig, ldBig, faG0, faG1, ldB4, ldIs, eqlB, Nat.zero_add] | (with_reducible first | refine Zabr (by assumption) (by decide +kernel) ?_ | refine Zabq (by decide +kernel) ?_ | refine Zaby (by decide +kernel) ?_ | refine Zabt ?_))
end Go.Proofs.Ytpeoleimmabceaa
