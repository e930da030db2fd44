/- Lists of points, sorted and turned around. -/
import Derived.Test.YthkdnlegolphkaaT2
import Derived.Test.YthkdnlegolphkaaSDP
import Derived.Sort.LotA
set_option linter.unusedVariables false
set_option linter.unusedSimpArgs false
set_option linter.unusedSectionVars false

namespace Go.Proofs.Ythkdnlegolphkaa
open Go Go.AM
set_option maxRecDepth 10000

def onH (H : Heap) : Base := { toHeap := H, side := [] }
def R2 (x : Pt) : Prop := R64 x.1 ∧ R64 x.2
def PtsIn (H0 H : Heap) (v : Value) (d : Array Pt) : Prop := AllP R2 d ∧ d.size ≤ 60000 ∧ Grp H0 ∧ Keep H0 H ∧
  ((d.size = 0 ∧ v = .slice none 0 0) ∨ (0 < d.size ∧ ∃ b r k, v = .slice (some ⟨r, 0, none⟩) d.size d.size ∧ SaP (onH H0) H b r k d))
theorem chunks_flat {H : Heap} : ∀ {xs : List Pt} {cells : List Value}, Chunks stE H xs cells → cells = xs.flatMap pc ∧ ∀ x ∈ xs, R2 x
  | [], cells, h => by
    have h1 := h.1
    simp at h1
    exact ⟨by simpa using h1, fun x hx => by cases hx⟩
  | x :: xs, cells, h => by
    have h1 : cells.length = (xs.length + 1) * 2 := h.1
    have h2 : stE.At H x ((cells.drop (0 * 2)).take 2) := h.2 0 (by simp)
    obtain ⟨h3, h4⟩ := stE_inv h2
    rw [Nat.zero_mul, List.drop_zero] at h3
    have hk : Chunks stE H xs (cells.drop 2) := ⟨by show _ = xs.length * 2; rw [List.length_drop]; omega, fun i hi => by
      have h5 : stE.At H ((x :: xs).getD (i + 1) default) ((cells.drop ((i + 1) * 2)).take 2) := h.2 (i + 1) (by simpa using hi)
      rw [List.getD_cons_succ] at h5
      show stE.At H _ (((cells.drop 2).drop (i * 2)).take 2)
      rw [List.drop_drop, show 2 + i * 2 = (i + 1) * 2 by omega]
      exact h5⟩
    obtain ⟨k1, k2⟩ := chunks_flat hk
    refine ⟨?_, fun y hy => ?_⟩
    · rw [List.flatMap_cons, ← h3, ← k1, List.take_append_drop]
    · rcases List.mem_cons.1 hy with e | hy
      · rw [e]; exact h4
      · exact k2 y hy
theorem allP_mem {V : Pt → Prop} {xs : List Pt} : AllP V xs.toArray ↔ ∀ x ∈ xs, V x := by
  constructor
  · intro h x hx
    obtain ⟨i, hi, rfl⟩ := List.getElem_of_mem hx
    have := h i (by simpa using hi)
    simpa [hi] using this
  · intro h i hi
    have hi' : i < xs.length := by simpa using hi
    have := h xs[i] (List.getElem_mem hi')
    simpa [hi'] using this
theorem PtsIn.lst {L : Nat} {H0 H : Heap} {v : Value} {xs : List Pt} (h : LstG stE 40 L H v xs) (hk : Keep H0 H) (hg : Grp H0) (hL : H0.size ≤ L) (hm : xs.length ≤ 60000) : PtsIn H0 H v xs.toArray := by
  rcases h with ⟨rfl, rfl⟩ | ⟨b, r, cells, hb, hl, ha, hf, rfl, hp, hc⟩
  · exact ⟨fun i hi => by simp at hi, by simp, hg, hk, .inl ⟨rfl, rfl⟩⟩
  · obtain ⟨h1, h2⟩ := chunks_flat hc
    have h3 : flat celTwo xs.toArray = cells := by rw [h1]; rfl
    refine ⟨allP_mem.2 h2, by simpa using hm, hg, hk, .inr ⟨by simpa using hp, b, r, false, by simp, ⟨hk, Nat.le_trans hL hb, ha.ge, hg, (fun x hx => by cases hx), .inr ⟨rfl, ?_, ?_⟩⟩⟩⟩
    · rw [h3]; exact ha
    · rw [h3]; exact hf
theorem PtsIn.sl {H0 H : Heap} {v : Value} {d : Array Pt} (h : PtsIn H0 H v d) : ∃ r, SlP H v d.toList r 0 ∧ (0 < d.size → H0.size ≤ r) := by
  obtain ⟨hV, hm, hg, hk, h | ⟨hp, b, r, k, rfl, ha⟩⟩ := h
  · obtain ⟨h1, rfl⟩ := h
    have h2 : d.toList = [] := List.length_eq_zero_iff.1 (by simpa using h1)
    rw [h2]
    exact ⟨0, ⟨⟨none, 0, rfl, fun h => absurd h (Nat.lt_irrefl 0)⟩, fun i hi => absurd hi (Nat.not_lt_zero i), fun h => absurd h (Nat.lt_irrefl 0), Nat.zero_le _⟩, fun h => by omega⟩
  · refine ⟨r, ⟨⟨_, _, by rw [Array.length_toList], fun _ => rfl⟩, fun i hi => ?_, fun _ => ha.lt, ?_⟩, fun _ => Nat.le_trans ha.le ha.ge⟩
    · have hi' : i < d.size := by simpa using hi
      have hle : i * 2 + 2 ≤ (flat celTwo d).length := by rw [flat_len]; show _ ≤ d.size * 2; omega
      have h1 := ha.read hle
      have h2 := flat_at (C := celTwo) d hi'
      have h2 : ((flat celTwo d).drop (i * 2)).take 2 = pc d[i]! := h2
      rw [h2] at h1
      have h3 : d.toList.getD i default = d[i]! := by
        rw [getElem!_pos _ i hi', List.getD_eq_getElem?_getD, List.getElem?_eq_getElem (by simpa using hi')]
        rfl
      refine ⟨pc d[i]!, by rw [Nat.zero_add]; exact h1, ?_⟩
      rw [h3]
      exact stE_at (hV i hi').1 (hV i hi').2
    · have : Go.maxLen = 9223372036854775807 := rfl
      rw [Array.length_toList]
      omega

variable {S : AM.Sys} (hS : Only S 10)
include hS

theorem insN_runs (f : Value) (H : Heap) : ∃ u, Runs Try.prog S (.fn 75) [.slice none 0 0, .int .i64 0, .int .i64 0, f] H u H := by
  suffices h : WCall Try.prog S (.fn 75) [.slice none 0 0, .int .i64 0, .int .i64 0, f] H (fun u H' => H' = H) by
    obtain ⟨u, _, hr, rfl⟩ := h; exact ⟨u, hr⟩
  have hw : IntKind.i64.wrap (0 + 1) = 1 := by decide
  have hn : ¬ (1 : Int) < 0 := by decide
  refine Zaaz Try.func75 rfl (Nat.le_of_ble_eq_true rfl) (hS.no rfl _ _) ?_
  rw [Try.ntmps75, Try.results75]
  repeat' (first | simp only [↓Zabv, ↓Zabx, ↓Zaaj, ↓Zabs, ↓Zacs, ↓Zacr, ↓Zacx, ↓Zaat, ↓Zaam, ↓Zaan, ↓bxPut, ↓Zabq, ↓Zacy, ↓Zabe, ↓Zabc, Zact, Zaae, Zabg, ↓reduceIte, Nat.reduceLT, *, argF, List.getD_cons_zero, List.getD_cons_succ])
  refine sxL_of (fun m ρ H1 => H1 = H ∧ ρ 2 = .int .i64 0 ∧ ρ 8 = .int .i64 1) (n := 0) ⟨rfl, rfl, rfl⟩ ?_
  rintro m ρ H1 ⟨rfl, e2, e4⟩
  repeat' (first | simp only [↓Zaby, ↓Zabv, ↓Zabx, ↓Zaai, ↓Zaaj, ↓Zabs, ↓Zabu, ↓Zacs, ↓Zacr, ↓Zacx, ↓Zaat, ↓Zaam, ↓Zaan, ↓bxPut, ↓Zabq, ↓Zabp, ↓Zaaf, ↓Zabi, ↓Zabh, ↓Zabn, ↓Zacv, ↓Zacy, ↓Zabe, ↓Zabc, Zact, Zaae, Zabg, Zacp, ↓reduceIte, Nat.reduceEqDiff, Nat.reduceLT, dec_F, *])

theorem pdqN_runs (f : Value) (H : Heap) : ∃ u, Runs Try.prog S (.fn 62) [.slice none 0 0, .int .i64 0, .int .i64 0, .int .i64 0, f] H u H := by
  suffices h : WCall Try.prog S (.fn 62) [.slice none 0 0, .int .i64 0, .int .i64 0, .int .i64 0, f] H (fun u H' => H' = H) by
    obtain ⟨u, _, hr, rfl⟩ := h; exact ⟨u, hr⟩
  obtain ⟨u, hR⟩ := insN_runs hS f H
  have f1 := hR.bx
  have hw : IntKind.i64.wrap (0 - 0) = 0 := by decide
  have hn : (0 : Int) ≤ 12 := by decide
  refine Zaaz Try.func62 rfl (Nat.le_of_ble_eq_true rfl) (hS.no rfl _ _) ?_
  rw [Try.ntmps62, Try.results62]
  repeat' (first | simp only [↓Zabv, ↓Zabx, ↓Zaaj, ↓Zabs, ↓Zacs, ↓Zacr, ↓Zacx, ↓Zaam, ↓bxPut, ↓Zabq, ↓Zabc, Nat.reduceLT, *])
  refine sxL_of (fun m ρ H1 => H1 = H ∧ ρ 0 = .slice none 0 0 ∧ ρ 1 = .int .i64 0 ∧ ρ 2 = .int .i64 0 ∧ ρ 4 = f) (n := 0) ⟨rfl, rfl, rfl, rfl, rfl⟩ ?_
  rintro m ρ H1 ⟨rfl, e0, e1, e2, e4⟩
  repeat' (first | simp only [↓Zaby, ↓Zabt, ↓Zabv, ↓Zabx, ↓Zaai, ↓Zabs, ↓Zabu, ↓Zabw, ↓Zacs, ↓Zacr, ↓Zacm, ↓Zaak, ↓Zach, ↓Zaci, ↓Zacg, ↓Zacc, ↓Zacj, ↓Zacf, ↓Zacx, ↓Zaay, ↓Zaat, ↓Zaam, ↓Zaau, ↓Zaas, ↓Zaan, ↓Zaaw, ↓Zaar, ↓Zaap, ↓Zaax, ↓bxPut, ↓Zabq, ↓Zabp, ↓Zabr, ↓Zaag, ↓Zaah, ↓Zaaf, ↓Zabi, ↓Zabh, ↓Zabj, ↓Zabn, ↓Zabo, ↓Zacv, ↓Zacy, ↓Zabe, ↓Zabc, ↓Zabd, ↓dstAt, ↓Zabf, Zact, Zaae, Zabg, Zabz, Zacq, List.map_cons, List.map_nil, List.nil_append, List.append_nil, ↓reduceIte, Nat.reduceEqDiff, Nat.reduceLT, dec_T, *] | (with_reducible first | refine Zacb (by assumption) (by decide +kernel) ?_ | refine Zaca (by decide +kernel) ?_ | refine Zack (by decide +kernel) ?_ | refine Zacd ?_))
theorem sortN_runs (f : Value) (H : Heap) : ∃ u, Runs Try.prog S (.fn 50) [.slice none 0 0, f] H u H := by
  suffices h : WCall Try.prog S (.fn 50) [.slice none 0 0, f] H (fun u H' => H' = H) by
    obtain ⟨u, _, hr, rfl⟩ := h; exact ⟨u, hr⟩
  obtain ⟨u, hR⟩ := pdqN_runs hS f H
  have f1 := hR.bx
  have f2 := (bLen_runs hS 0 (by omega) H).bx
  have f2' : ∀ (K : Value → Heap → Prop) (bl : Blk K), sxCallB Try.prog S (.fn 57) [.int .u64 0] H K bl = K (.int .i64 0) H := f2
  have hw : IntKind.u64.wrap ((0 : Nat) : Int) = 0 := by decide
  have hw2 : ((0 : Nat) : Int) = 0 := rfl
  have hw3 : IntKind.u64.wrap 0 = 0 := by decide
  clear f2
  refine Zaaz Try.func50 rfl (Nat.le_of_ble_eq_true rfl) (hS.no rfl _ _) ?_
  rw [Try.ntmps50, Try.results50]
  repeat' (first | simp only [↓Zabv, ↓Zabx, ↓Zacs, ↓Zacr, ↓Zacx, ↓Zaat, ↓Zaam, ↓Zaax, ↓bxOp_len, ↓bxOp_convert, ↓bxPut, ↓Zabq, ↓Zabn, ↓Zacv, ↓Zacy, ↓Zabe, ↓Zabc, ↓Zabd, aConvH_int, Zact, Zabz, List.map_cons, List.map_nil, List.nil_append, List.append_nil, ↓reduceIte, Nat.reduceEqDiff, Nat.reduceLT, *, argF, List.getD_cons_zero, List.getD_cons_succ, lenS, cvI2U])
theorem revN_runs (H : Heap) : ∃ u, Runs Try.prog S (.fn 53) [.slice none 0 0] H u H := by
  suffices h : WCall Try.prog S (.fn 53) [.slice none 0 0] H (fun u H' => H' = H) by
    obtain ⟨u, _, hr, rfl⟩ := h; exact ⟨u, hr⟩
  have hw : IntKind.i64.wrap (((0 : Nat) : Int) - 1) = -1 := by decide
  have hn : ¬ (0 : Int) < -1 := by decide
  refine Zaaz Try.func53 rfl (Nat.le_of_ble_eq_true rfl) (hS.no rfl _ _) ?_
  rw [Try.ntmps53, Try.results53]
  repeat' (first | simp only [↓Zabv, ↓Zabx, ↓Zaaj, ↓Zabs, ↓Zacs, ↓Zacr, ↓Zacx, ↓Zaat, ↓Zaam, ↓Zaan, ↓bxOp_len, ↓bxPut, ↓Zabq, ↓Zacy, ↓Zabe, ↓Zabc, Zact, Zaae, Zabg, ↓reduceIte, Nat.reduceEqDiff, Nat.reduceLT, *, argF, List.getD_cons_zero, lenS])
  refine sxL_of (fun m ρ H1 => H1 = H ∧ ρ 2 = .int .i64 0 ∧ ρ 3 = .int .i64 (-1)) (n := 0) ⟨rfl, rfl, rfl⟩ ?_
  rintro m ρ H1 ⟨rfl, e2, e4⟩
  repeat' (first | simp only [↓Zaby, ↓Zabt, ↓Zabv, ↓Zabx, ↓Zaai, ↓Zabs, ↓Zabu, ↓Zacs, ↓Zacr, ↓Zacm, ↓Zaak, ↓Zach, ↓Zacg, ↓Zacf, ↓Zacx, ↓Zaat, ↓Zaam, ↓Zaas, ↓Zaav, ↓Zaan, ↓Zaar, ↓Zacu, ↓bxPut, ↓Zabq, ↓Zabp, ↓Zaag, ↓Zaaf, ↓Zabi, ↓Zabh, ↓Zabn, ↓Zacv, ↓Zacy, ↓Zabe, ↓Zabc, Zact, Zaae, Zabg, Zacp, ↓reduceIte, Nat.reduceEqDiff, Nat.reduceLT, dec_F, *] | (with_reducible first | refine Zacb (by assumption) (by decide +kernel) ?_ | refine Zaca (by decide +kernel) ?_ | refine Zack (by decide +kernel) ?_ | refine Zacd ?_))

set_option maxHeartbeats 2000000 in
theorem revS_runs {HB : Base} (hLB : HB.low ≤ HB.size) {b r c : Nat} {k : Bool} (d : Array Pt) (H : Heap) (hd : SaP HB H b r k d) (h1 : 0 < d.size) (hm : d.size ≤ 100000000) :
    ∃ u H' R, Runs Try.prog S (.fn 53) [.slice (some ⟨r, 0, none⟩) d.size c] H u H' ∧ SaP HB H' b r k R ∧ R.size = d.size ∧ (∀ j, j < d.size → R[j]! = d[d.size - 1 - j]!) := by
  suffices h : WCall Try.prog S (.fn 53) [.slice (some ⟨r, 0, none⟩) d.size c] H (fun u H' => ∃ R, SaP HB H' b r k R ∧ R.size = d.size ∧ (∀ j, j < d.size → R[j]! = d[d.size - 1 - j]!)) by
    obtain ⟨u, H', hr, R, h⟩ := h; exact ⟨u, H', R, hr, h⟩
  refine Zaaz Try.func53 rfl (Nat.le_of_ble_eq_true rfl) (hS.no rfl _ _) ?_
  rw [Try.ntmps53, Try.results53]
  have hw0 : IntKind.i64.wrap ((d.size : Int) - 1) = ((d.size - 1 : Nat) : Int) := by rw [IntWalk.i64_in _ (by omega)]; omega
  repeat' (first | simp only [↓Zabv, ↓Zabx, ↓Zaaj, ↓Zabs, ↓Zacs, ↓Zacr, ↓Zacx, ↓Zaat, ↓Zaam, ↓Zaan, ↓bxOp_len, ↓bxPut, ↓Zabq, ↓Zacy, ↓Zabe, ↓Zabc, Zact, Zaae, Zabg, ↓reduceIte, Nat.reduceEqDiff, Nat.reduceLT, *, argF, List.getD_cons_zero, lenS])
  refine sxL_of (fun m ρ H1 => ∃ (i j : Nat) (d1 : Array Pt), m = j - i ∧ i + j = d.size - 1 ∧ i ≤ j + 1 ∧ SaP HB H1 b r k d1 ∧ d1.size = d.size ∧
      (∀ x, x < d.size → d1[x]! = if x < i ∨ j < x then d[d.size - 1 - x]! else d[x]!) ∧
      ρ 0 = .slice (some ⟨r, 0, none⟩) d.size c ∧ ρ 2 = .int .i64 (i : Int) ∧ ρ 3 = .int .i64 (j : Int))
    ⟨0, d.size - 1, d, rfl, by omega, by omega, hd, rfl, fun x hx => by rw [if_neg (by omega)], rfl, rfl, rfl⟩ ?_
  clear hd
  rintro m ρ H1 ⟨i, j, d1, rfl, hij, hij1, hd, hsz, hall, e0, e2, e3⟩
  by_cases hlt : i < j
  case neg =>
    have hn : ¬ (i : Int) < (j : Int) := by omega
    have hpost : ∃ R, SaP HB H1 b r k R ∧ R.size = d.size ∧ (∀ j, j < d.size → R[j]! = d[d.size - 1 - j]!) := ⟨d1, hd, hsz, fun x hx => by
      rw [hall x hx]
      split
      · rfl
      · congr 1; omega⟩
    clear hall
    repeat' (first | simp only [↓Zaby, ↓Zabt, ↓Zabv, ↓Zabx, ↓Zaai, ↓Zabs, ↓Zabu, ↓Zacs, ↓Zacr, ↓Zacm, ↓Zaak, ↓Zach, ↓Zacg, ↓Zacf, ↓Zacx, ↓Zaat, ↓Zaam, ↓Zaas, ↓Zaav, ↓Zaan, ↓Zaar, ↓Zacu, ↓bxPut, ↓Zabq, ↓Zabp, ↓Zaag, ↓Zaaf, ↓Zabi, ↓Zabh, ↓Zabn, ↓Zacv, ↓Zacy, ↓Zabe, ↓Zabc, Zact, Zaae, Zabg, Zacp, ↓reduceIte, Nat.reduceEqDiff, Nat.reduceLT, dec_F, *] | (with_reducible first | refine Zacb (by assumption) (by decide +kernel) ?_ | refine Zaca (by decide +kernel) ?_ | refine Zack (by decide +kernel) ?_ | refine Zacd ?_))
  have hp : (i : Int) < (j : Int) := by omega
  have hF0 : i < d1.size := by omega
  have hF1 : j < d1.size := by omega
  have hwi : IntKind.i64.wrap ((i : Int) + 1) = ((i + 1 : Nat) : Int) := by rw [IntWalk.i64_in _ (by omega)]; omega
  have hwj : IntKind.i64.wrap ((j : Int) - 1) = ((j - 1 : Nat) : Int) := by rw [IntWalk.i64_in _ (by omega)]; omega
  have hix0 : Zaaa Try.prog 34 (.slice (some ⟨r, 0, none⟩) d.size c) (.int .i64 (i : Int)) = _ := ixAtP (by omega)
  have hix1 : Zaaa Try.prog 34 (.slice (some ⟨r, 0, none⟩) d.size c) (.int .i64 (j : Int)) = _ := ixAtP (by omega)
  have l0 := ldAtP hd hF0
  have l1 := ldAtP hd hF1
  have hL1 := hd.lowS hLB
  have hsw := swDP hLB hd hF0 hF1
  obtain ⟨H6, H7, H8, H9, hs6, he6, hs7, he7, hd7, hz7, hL9, hL7⟩ := hsw
  have hsz7 := (swp_szP d1 i j).trans hsz
  have hall' : ∀ x, x < d.size → (Sort.swp d1 i j)[x]! = if x < i + 1 ∨ j - 1 < x then d[d.size - 1 - x]! else d[x]! := fun x hx => by
    rw [Sort.swp_get d1 hF0 hF1 x]
    by_cases x1 : x = j
    · subst x1
      rw [if_pos rfl, if_pos (by omega), hall i (by omega), if_neg (by omega)]
      congr 1; omega
    · rw [if_neg x1]
      by_cases x2 : x = i
      · subst x2
        rw [if_pos rfl, if_pos (by omega), hall j (by omega), if_neg (by omega)]
        congr 1; omega
      · rw [if_neg x2, hall x hx]
        by_cases x3 : x < i ∨ j < x
        · rw [if_pos x3, if_pos (by omega)]
        · rw [if_neg x3, if_neg (by omega)]
  clear hd hall
  repeat' (first | simp only [↓Zaby, ↓Zabt, ↓Zabv, ↓Zabx, ↓Zaai, ↓Zabs, ↓Zabu, ↓Zacs, ↓Zacr, ↓Zacm, ↓Zaak, ↓Zach, ↓Zacg, ↓Zacf, ↓Zacl, ↓Zacx, ↓Zaat, ↓Zaam, ↓Zaas, ↓Zaav, ↓Zaan, ↓Zaar, ↓Zacu, ↓bxPut, ↓Zabq, ↓Zabp, ↓Zaag, ↓Zaaf, ↓Zabi, ↓Zabh, ↓Zabn, ↓Zacv, ↓Zacy, ↓Zabe, ↓Zabc, Zact, Zaae, Zabg, Zacq, ↓reduceIte, Nat.reduceEqDiff, Nat.reduceLT, dec_T, true_and, Zaab, *] | (with_reducible first | refine Zacb (by assumption) (by decide +kernel) ?_ | refine Zaca (by decide +kernel) ?_ | refine Zack (by decide +kernel) ?_ | refine Zacd ?_))
  exact ⟨j - 1 - (i + 1), by omega, i + 1, j - 1, Sort.swp d1 i j, rfl, by omega, by omega, hd7, hsz7, hall', rfl, rfl⟩
end Go.Proofs.Ythkdnlegolphkaa

namespace Go.Proofs.Ythkdnlegolphkaa
open Go Go.AM
set_option maxRecDepth 10000

theorem bs2 (H : Heap) (x y : Int) : aBuildSlice Try.prog H 23 2 [(0, .int .i64 x), (1, .int .i64 y)] = some (.slice (some ⟨H.size, 0, none⟩) 2 2, H.newExact [.int .i64 x, .int .i64 y] 3) := by kernel_rfl
theorem bs1P (H : Heap) (x : Pt) : aBuildSlice Try.prog H 34 1 [(0, .agg ⟨[.int .i64 x.1, .int .i64 x.2]⟩)] = some (.slice (some ⟨H.size, 0, none⟩) 1 1, H.newExact (pc x) 40) := by kernel_rfl
theorem two_sl (H : Heap) (x y : Int) (hx : R64 x) (hy : R64 y) : SlI .i64 (H.newExact [.int .i64 x, .int .i64 y] 3) (.slice (some ⟨H.size, 0, none⟩) [x, y].length 2) [x, y] H.size 0 := by
  exact Own.sl (w := [x, y]) (Own.new H [.int .i64 x, .int .i64 y] 3) (fun z hz => by
    rcases List.mem_cons.1 hz with e | hz
    · rw [e]; exact hx
    · rw [List.mem_singleton.1 hz]; exact hy) (show 2 ≤ Go.maxLen by decide) 2
theorem elemOkP : ElemOk Try.prog #[34, 34] 40 stE.sz := ⟨⟨34, 34, _, Try.t40, .agg ⟨[.int .i64 0, .int .i64 0]⟩, rfl, rfl, Try.underlying34, Try.underlying34, rfl, by kernel_rfl, by kernel_rfl, by kernel_rfl, by kernel_rfl, of_decide_eq_true (by kernel_rfl)⟩, by show 0 < 2; decide⟩
def ltS (x y : Pt) : Bool := decide (y.1 < x.1 ∨ (x.1 = y.1 ∧ x.2 < y.2))
theorem swoS : Sort.SWO ltS where
  irrefl := fun x => by simp [ltS]
  trans := fun x y z h1 h2 => by simp only [ltS, decide_eq_true_eq] at *; omega
  ntrans := fun x y z h1 h2 => by simp only [ltS, decide_eq_false_iff_not] at *; omega
theorem cmp3_r (x y : Int) : R64 (cmp3 x y) := by unfold cmp3 R64; split <;> (try split) <;> decide

variable {S : AM.Sys} (hS : Only S 10)
include hS

theorem cmpOr_runs (x y : Int) (v : Value) (r o : Nat) (H : Heap) (hl : SlI .i64 H v [x, y] r o) : Runs Try.prog S (.fn 52) [v] H (.int .i64 (if x = 0 then y else x)) H := by
  suffices h : WCall Try.prog S (.fn 52) [v] H (fun u H' => u = .int .i64 (if x = 0 then y else x) ∧ H' = H) by
    obtain ⟨_, _, hr, rfl, rfl⟩ := h; exact hr
  obtain ⟨a, c, rfl⟩ := hl.v0
  have hz : ∃ z, z = if x = 0 then y else x := ⟨_, rfl⟩
  obtain ⟨z, hz⟩ := hz
  rw [← hz]
  have hl2 : ((([x, y] : List Int).length : Nat) : Int) = 2 := rfl
  refine Zaaz Try.func52 rfl (Nat.le_of_ble_eq_true rfl) (hS.no rfl _ _) ?_
  rw [Try.ntmps52, Try.results52]
  repeat' (first | simp only [↓Zabv, ↓Zabx, ↓Zaaj, ↓Zabs, ↓Zabw, ↓Zacs, ↓Zacr, ↓Zacx, ↓Zaat, ↓Zaam, ↓bxOp_len, ↓bxPut, ↓Zabq, ↓Zabo, ↓Zacv, ↓Zacw, ↓Zacy, ↓Zabe, ↓Zabc, Zact, Zabk, ↓reduceIte, Nat.reduceEqDiff, Nat.reduceLT, *, argF, List.getD_cons_zero, lenIs])
  refine sxL_of (fun m ρ H1 => ∃ k : Nat, m = 2 - k ∧ k ≤ 2 ∧ H1 = H ∧ (0 < k → x = 0) ∧ (1 < k → y = 0) ∧
      ρ 3 = .int .i64 0 ∧ ρ 6 = .slice a ([x, y] : List Int).length c ∧ ρ 7 = .int .i64 2 ∧ ρ 8 = .int .i64 (k : Int))
    ⟨0, rfl, Nat.zero_le _, rfl, fun h => absurd h (Nat.lt_irrefl 0), fun h => by omega, rfl, rfl, rfl, rfl⟩ ?_
  rintro m ρ H1 ⟨k, rfl, hk, rfl, hx, hy, e3, e6, e7, e8⟩
  by_cases hlt : k < 2
  · have hlt' : (k : Int) < 2 := by omega
    have hw : IntKind.i64.wrap ((k : Int) + 1) = ((k + 1 : Nat) : Int) := by rw [IntWalk.i64_in _ (by omega)]; omega
    have hob := SlI_at hl (show k < ([x, y] : List Int).length from hlt)
    obtain ⟨hix, hrd⟩ := hob
    have hgv : ∃ q, q = ([x, y] : List Int).getD k 0 := ⟨_, rfl⟩
    obtain ⟨q, hq⟩ := hgv
    rw [← hq] at hrd
    have hqv : (k = 0 ∧ q = x) ∨ (k = 1 ∧ q = y) := by
      rcases (show k = 0 ∨ k = 1 by omega) with e | e
      · exact .inl ⟨e, by rw [hq, e]; rfl⟩
      · exact .inr ⟨e, by rw [hq, e]; rfl⟩
    clear hq
    by_cases c1 : q = 0
    · have d1 : decide (¬ q = 0) = false := decide_eq_false fun h => h c1
      have hx' : 0 < k + 1 → x = 0 := fun _ => by
        rcases hqv with ⟨h1, h2⟩ | ⟨h1, h2⟩
        · omega
        · exact hx (by omega)
      have hy' : 1 < k + 1 → y = 0 := fun h => by
        rcases hqv with ⟨h1, h2⟩ | ⟨h1, h2⟩
        · omega
        · omega
      clear hx hy hqv c1 hl hz hl2
      repeat' (first | simp only [↓Zaby, ↓Zabv, ↓Zabx, ↓Zaai, ↓Zabs, ↓Zabu, ↓Zabw, ↓Zacs, ↓Zacr, ↓Zacx, ↓Zaat, ↓Zaam, ↓Zaas, ↓Zaan, ↓Zaar, ↓bxPut, ↓Zabq, ↓Zabp, ↓Zabr, ↓Zaag, ↓Zaah, ↓Zaaf, ↓Zabi, ↓Zabh, ↓Zabj, ↓Zabo, ↓Zacv, ↓Zacw, ↓Zacy, ↓Zabe, ↓Zabc, Zact, Zaae, Zabg, Zacq, Zacp, Zabk, ↓reduceIte, Nat.reduceEqDiff, Nat.reduceLT, dec_T, true_and, one1, Option.bind_some, *, ldC, one1])
      exact ⟨2 - (k + 1), by omega, k + 1, rfl, by omega, hx', hy', rfl⟩
    · have d1 : decide (¬ q = 0) = true := decide_eq_true c1
      have hzq : z = q := by
        rcases hqv with ⟨h1, h2⟩ | ⟨h1, h2⟩
        · rw [hz, if_neg (by omega)]; exact h2.symm
        · rw [hz, if_pos (hx (by omega))]; exact h2.symm
      subst hzq
      clear hx hy hqv c1 hl hz hl2
      repeat' (first | simp only [↓Zaby, ↓Zabv, ↓Zabx, ↓Zaai, ↓Zabs, ↓Zabu, ↓Zabw, ↓Zacs, ↓Zacr, ↓Zacx, ↓Zaat, ↓Zaam, ↓Zaas, ↓Zaan, ↓Zaar, ↓bxPut, ↓Zabq, ↓Zabp, ↓Zabr, ↓Zaag, ↓Zaah, ↓Zaaf, ↓Zabi, ↓Zabh, ↓Zabj, ↓Zabo, ↓Zacv, ↓Zacw, ↓Zacy, ↓Zabe, ↓Zabc, Zact, Zaae, Zabg, Zacq, Zabk, ↓reduceIte, Nat.reduceEqDiff, Nat.reduceLT, dec_T, and_self, one1, Option.bind_some, *, ldC, one1])
  · have hke : k = 2 := by omega
    subst hke
    have hlt' : ¬ (((2 : Nat) : Int) < 2) := by decide
    have h0 : z = 0 := by rw [hz, if_pos (hx (by omega))]; exact hy (by omega)
    subst h0
    clear hx hy hl hz hl2
    repeat' (first | simp only [↓Zaby, ↓Zabv, ↓Zabx, ↓Zaai, ↓Zabs, ↓Zabu, ↓Zabw, ↓Zacs, ↓Zacr, ↓Zacx, ↓Zaat, ↓Zaam, ↓Zaas, ↓Zaan, ↓Zaar, ↓bxPut, ↓Zabq, ↓Zabp, ↓Zabr, ↓Zaag, ↓Zaah, ↓Zaaf, ↓Zabi, ↓Zabh, ↓Zabj, ↓Zabo, ↓Zacv, ↓Zacw, ↓Zacy, ↓Zabe, ↓Zabc, Zact, Zaae, Zabg, Zacp, Zabk, ↓reduceIte, Nat.reduceEqDiff, Nat.reduceLT, dec_F, and_self, *])

set_option maxHeartbeats 2000000 in
theorem bestC_runs (x y : Pt) (H : Heap) (hL : H.low ≤ H.size) : ∃ z H', Keep H H' ∧ (z < 0 ↔ ltS x y = true) ∧ Runs Try.prog S (.fn 51) [.agg ⟨pc x⟩, .agg ⟨pc y⟩] H (.int .i64 z) H' := by
  suffices h : WCall Try.prog S (.fn 51) [.agg ⟨pc x⟩, .agg ⟨pc y⟩] H (fun v H' => v = .int .i64 (if cmp3 y.1 x.1 = 0 then cmp3 x.2 y.2 else cmp3 y.1 x.1) ∧ Keep H H') by
    obtain ⟨_, H', hr, rfl, hk⟩ := h
    refine ⟨_, H', hk, ?_, hr⟩
    unfold ltS cmp3
    rw [decide_eq_true_iff]
    split <;> split <;> (try split) <;> (try split) <;> omega
  obtain ⟨H1, e1, hK1, g2, g0, g1⟩ := boxP H x
  obtain ⟨H2, e2, hK2, p2, p0, p1⟩ := boxP H1 y
  have hz1 : H.size < H1.size := by rw [← e1, size_new]; omega
  have q0 := hK2.read hz1 g0
  have q1 := hK2.read hz1 g1
  have hK := hK1.trans hK2
  have hL2 := hK.low hL
  have f1 := (cmpV_runs hS y.1 x.1 (H2.relow H2.size)).bx
  have f2 := (cmpV_runs hS x.2 y.2 (H2.relow H2.size)).bx
  obtain ⟨z1, hz1'⟩ : ∃ z, z = cmp3 y.1 x.1 := ⟨_, rfl⟩
  obtain ⟨z2, hz2'⟩ : ∃ z, z = cmp3 x.2 y.2 := ⟨_, rfl⟩
  have r1 : R64 z1 := by rw [hz1']; exact cmp3_r _ _
  have r2 : R64 z2 := by rw [hz2']; exact cmp3_r _ _
  rw [← hz1'] at f1
  rw [← hz2'] at f2
  rw [← hz1', ← hz2']
  have bs := bs2 (H2.relow H2.size) z1 z2
  have k3 := Keep.newExact (H2.relow H2.size) [.int .i64 z1, .int .i64 z2] 3
  have s3 := two_sl (H2.relow H2.size) z1 z2 r1 r2
  obtain ⟨H3, hH3⟩ : ∃ H3, H3 = (H2.relow H2.size).newExact [.int .i64 z1, .int .i64 z2] 3 := ⟨_, rfl⟩
  rw [← hH3] at bs k3 s3
  have k4 := Keep.draw k3
  have fd3 : ∀ (all : List Oper) (n : Nat) (k : Heap → Prop), sxD all n H2 H3 k = k (H3.relow (Nat.min H2.low H3.low)) := fun all n k => sxD_keep k3 k
  obtain ⟨H4, hH4⟩ : ∃ H4, H4 = H3.relow (Nat.min H2.low H3.low) := ⟨_, rfl⟩
  have s4 : SlI .i64 (H4.relow H4.size) (.slice (some ⟨H2.size, 0, none⟩) ([z1, z2] : List Int).length 2) [z1, z2] H2.size 0 := by rw [hH4]; exact ⟨s3.isv, fun i hi => s3.rd i hi, s3.lt, s3.ml⟩
  rw [← hH4] at k4 fd3
  have f3 : ∀ (K : Value → Heap → Prop) (b : Blk K), sxCallB Try.prog S (.fn 52) [.slice (some ⟨H2.size, 0, none⟩) 2 2] (H4.relow H4.size) K b = K (.int .i64 (if z1 = 0 then z2 else z1)) (H4.relow H4.size) := (cmpOr_runs hS z1 z2 _ _ _ _ s4).bx
  have hL4 := k4.low hL2
  have hK4 := hK.trans k4
  obtain ⟨z, hz⟩ : ∃ z, z = if z1 = 0 then z2 else z1 := ⟨_, rfl⟩
  rw [← hz] at f3
  rw [← hz]
  clear hz hH3 hH4 s3 s4 k3 k4 hz1' hz2' r1 r2 hK hK1 hK2 hz1 g0 g1 g2 p2
  refine Zaaz Try.func51 rfl (Nat.le_of_ble_eq_true rfl) (hS.no rfl _ _) ?_
  rw [Try.ntmps51, Try.results51]
  repeat' (first | simp only [↓Zabt, ↓Zabv, ↓Zabx, ↓Zabw, ↓Zacs, ↓Zacr, ↓Zacm, ↓Zaak, ↓sxDL_assign, ↓sxDL_buildSlice, ↓Zacg, ↓Zace, ↓Zacl, ↓Zacx, ↓Zaam, ↓bxOp_box, ↓Zaao, ↓Zaas, ↓Zaaq, ↓Zaax, ↓bxPut, ↓Zabq, ↓Zabo, ↓Zacv, ↓Zacw, ↓Zacy, ↓Zabe, ↓Zabc, ↓Zabd, Zact, Zabz, Zabk, List.map_cons, List.map_nil, List.nil_append, List.append_nil, ↓reduceIte, Nat.reduceEqDiff, Nat.reduceLT, true_and, size_relow, Zaab, Nat.add_zero, one1, Option.bind_some, *, argF, List.getD_cons_zero, List.getD_cons_succ, cells_agg, faS0, faS1, ldC, one1] | (with_reducible first | refine Zacb (by assumption) (by decide +kernel) ?_ | refine Zaca (by decide +kernel) ?_ | refine Zack (by decide +kernel) ?_ | refine Zacd ?_))
end Go.Proofs.Ythkdnlegolphkaa
