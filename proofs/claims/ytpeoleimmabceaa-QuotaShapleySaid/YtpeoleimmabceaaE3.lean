/- Parts of one's own; lowest terms, by the program. -/
import Derived.Test.YtpeoleimmabceaaB2
import Derived.Test.YtpeoleimmabceaaE2
set_option linter.unusedVariables false
set_option linter.unusedSimpArgs false
set_option linter.unusedSectionVars false

namespace Go.Proofs.Ytpeoleimmabceaa
open Go Go.AM
set_option maxRecDepth 10000
theorem alP (H : Heap) : aAlloc Try.prog H 26 = some (.pointer (some ⟨H.size, 0, none⟩), H.newExact [.slice none 0 0, .int .i64 0] 26) := by kernel_rfl
theorem ldP (H : Heap) (r o : Nat) : aLoad Try.prog H 26 (.pointer (some ⟨r, o, none⟩)) = (H.read r o 2).map fun l => .agg ⟨l⟩ := by kernel_rfl
theorem paG0 (r o : Nat) : aFieldAt Try.prog 26 0 (.pointer (some ⟨r, o, none⟩)) = some (.pointer (some ⟨r, o + 0, none⟩)) := by kernel_rfl
theorem paG1 (r o : Nat) : aFieldAt Try.prog 26 1 (.pointer (some ⟨r, o, none⟩)) = some (.pointer (some ⟨r, o + 1, none⟩)) := by kernel_rfl
theorem stP {H : Heap} {r : Nat} {cells : List Value} (h : Own H r 26 cells) (hl : cells.length = 2) (a : Option Addr) (n c : Nat) (z : Int) :
    ∃ H2, aStore Try.prog H 26 (.pointer (some ⟨r, 0, none⟩)) (.agg ⟨[.slice a n c, .int .i64 z]⟩) = some H2 ∧ Own H2 r 26 [.slice a n c, .int .i64 z] ∧ H2.size = H.size ∧ (∀ r' e' c', r' ≠ r → Own H r' e' c' → Own H2 r' e' c') ∧ (∀ H0, Keep H0 H → H0.size ≤ r → Keep H0 H2) := by
  have hob := h.store (P := Try.prog) (t := 26) (i := Try.t26) (by kernel_rfl) (v := .agg ⟨[.slice a n c, .int .i64 z]⟩) (new := [.slice a n c, .int .i64 z]) rfl (by kernel_rfl) rfl (o := 0) (show 0 + 2 ≤ cells.length by omega)
  obtain ⟨H2, h1, h2, h3, h4, h5⟩ := hob
  refine ⟨H2, h1, ?_, h3, h4, h5⟩
  obtain ⟨x, y, rfl⟩ : ∃ x y, cells = [x, y] := by
    match cells, hl with
    | [x, y], _ => exact ⟨x, y, rfl⟩
  exact h2
theorem ownP {H : Heap} {r : Nat} {x y : Value} (h : Own H r 26 [x, y]) : H.read r 0 2 = some [x, y] ∧ H.read r 0 1 = some [x] ∧ H.read r (0 + 1) 1 = some [y] :=
  ⟨h.read (o := 0) (n := 2) (Nat.le_refl 2), h.read (o := 0) (n := 1) (show 0 + 1 ≤ 2 by omega), h.read (o := 0 + 1) (n := 1) (show 0 + 1 + 1 ≤ 2 by omega)⟩
def twice (e a b : Int) : Int := e + max 0 (e - b) - max 0 (e - a)
theorem allocD (l : List Value) (t : TypeId) {H : Heap} (hL : H.low ≤ H.size) :
    ∃ Ha Hb, (H.relow H.size).newExact l t = Ha ∧ (∀ (all : List Oper) (n : Nat) (k : Heap → Prop), sxD all n H Ha k = k Hb) ∧ Keep H Hb ∧ Hb.low ≤ Hb.size ∧ Own Hb H.size t l ∧ Hb.size = H.size + 1 := by
  obtain ⟨Ha, e1, k1, _, z1, _⟩ := box1 (H.relow H.size) l t
  have ow : Own Ha H.size t l := e1 ▸ Own.new (H.relow H.size) _ _
  exact ⟨Ha, Ha.relow (Nat.min H.low Ha.low), e1, fun all n k => sxD_keep k1 k, Keep.draw k1, (Keep.draw k1).low hL, ow.addr, z1⟩
theorem stPD {H0 H : Heap} {r : Nat} {cells : List Value} (hk : Keep H0 H) (hr : H0.size ≤ r) (hL : H.low ≤ H.size) (ow : Own H r 26 cells) (hl : cells.length = 2) (a : Option Addr) (n c : Nat) (z : Int) :
    ∃ Ha Hb, aStore Try.prog (H.relow H.size) 26 (.pointer (some ⟨r, 0, none⟩)) (.agg ⟨[.slice a n c, .int .i64 z]⟩) = some Ha ∧ Ha.relow (Nat.min H.low Ha.low) = Hb ∧ Keep H0 Hb ∧ Hb.size = H.size ∧ Hb.low ≤ Hb.size ∧ Own Hb r 26 [.slice a n c, .int .i64 z] ∧ (∀ r' e' c', r' ≠ r → Own H r' e' c' → Own Hb r' e' c') := by
  obtain ⟨Ha, h1, h2, h3, h4, h5⟩ := stP (ow.addr (l := H.size)) hl a n c z
  refine ⟨Ha, _, h1, rfl, Keep.lower hk (h5 H0 (hk.trans (Keep.relowS _)) hr), h3, ?_, h2.addr, fun r' e' c' hne ho => (h4 r' e' c' hne ho.addr).addr⟩
  show Nat.min H.low Ha.low ≤ Ha.size
  rw [h3]
  exact Nat.le_trans (Nat.min_le_left _ _) hL
theorem stID {H0 H : Heap} {r : Nat} {w : List Int} (hk : Keep H0 H) (hr : H0.size ≤ r) (hL : H.low ≤ H.size) (ow : Own H r 3 (w.map fun z => .int .i64 z)) (z : Int) {o : Nat} (ho : o < w.length) :
    ∃ Ha Hb, aStore Try.prog (H.relow H.size) 3 (.pointer (some ⟨r, o, none⟩)) (.int .i64 z) = some Ha ∧ Ha.relow (Nat.min H.low Ha.low) = Hb ∧ Keep H0 Hb ∧ Hb.size = H.size ∧ Hb.low ≤ Hb.size ∧ Own Hb r 3 ((w.set o z).map fun z => .int .i64 z) ∧ (∀ r' e' c', r' ≠ r → Own H r' e' c' → Own Hb r' e' c') := by
  obtain ⟨i, _, hi, hs, _⟩ := infoI
  obtain ⟨Ha, h1, h2, h3, h4, h5⟩ := (ow.addr (l := H.size)).store (t := 3) hi (v := .int .i64 z) (new := [.int .i64 z]) rfl (hs.trans rfl) rfl (o := o) (by rw [List.length_map]; exact ho)
  rw [splice_map ho] at h2
  refine ⟨Ha, _, h1, rfl, Keep.lower hk (h5 H0 (hk.trans (Keep.relowS _)) hr), h3, ?_, h2.addr, fun r' e' c' hne hw => (h4 r' e' c' hne hw.addr).addr⟩
  show Nat.min H.low Ha.low ≤ Ha.size
  rw [h3]
  exact Nat.le_trans (Nat.min_le_left _ _) hL
theorem bdP2 (a : Option Addr) (n c : Nat) (z : Int) : aBuild Try.prog 26 [(0, .slice a n c), (1, .int .i64 z)] = some (.agg ⟨[.slice a n c, .int .i64 z]⟩) := by kernel_rfl

variable {S : AM.Sys} (hS : Only S 11)
include hS

theorem qlow_runs (v : Value) (w : List Int) (d : Int) (r o : Nat) (H : Heap) (hg : Grp H) (hL : H.low ≤ H.size) (hl : SlI .i64 H v w r o) (hp : ∀ x ∈ w, 0 ≤ x) (hs : w.length ≤ 1000) (hd : 0 < d ∧ d ≤ 9223372036854775807) :
    ∃ H' v' r', Keep H H' ∧ Grp H' ∧ SlI .i64 H' v' (w.map fun x => x / Q.gcdAll d w) r' 0 ∧ H.size ≤ r' ∧ Runs Try.prog S (.fn 27) [.agg ⟨[v, .int .i64 d]⟩] H (.agg ⟨[v', .int .i64 (d / Q.gcdAll d w)]⟩) H' := by
  suffices h : WCall Try.prog S (.fn 27) [.agg ⟨[v, .int .i64 d]⟩] H (fun u H' => ∃ v' r', u = .agg ⟨[v', .int .i64 (d / Q.gcdAll d w)]⟩ ∧ Keep H H' ∧ Grp H' ∧ SlI .i64 H' v' (w.map fun x => x / Q.gcdAll d w) r' 0 ∧ H.size ≤ r') by
    obtain ⟨_, H', hr, v', r', rfl, h1, h2, h3, h4⟩ := h; exact ⟨H', v', r', h1, h2, h3, h4, hr⟩
  obtain ⟨a, cap, rfl⟩ := hl.v0
  have hml := hl.ml
  obtain ⟨H1, e1, k1, s1, rd2, rd0, rd1⟩ := Q.boxP H (.slice a w.length cap) (.int .i64 d)
  obtain ⟨H2, e2, k2, s2, -, -⟩ := box1 H1 [.slice none 0 0, .int .i64 0] 26
  have ow2 : Own H2 H1.size 26 [.slice none 0 0, .int .i64 0] := e2 ▸ Own.new H1 _ _
  have l2 := (k1.trans k2).low hL
  obtain ⟨H3, k3, R3⟩ := Q.cdiv_runs hS _ w d r o H2 (hl.keep (k1.trans k2)) hp hd
  have f3 := R3.bx
  have l3 := k3.low l2
  have hgp := Q.gcdAll_pos d w hd.1
  generalize hG : Q.gcdAll d w = G at *
  obtain ⟨H4', H4, e4, d4, k4, l4, o4, z4⟩ := allocD ((List.replicate w.length (0 : Int)).map fun z => .int .i64 z) 3 l3
  have hmk := mkI (H3.relow H3.size) (l := (w.length : Int)) (by omega) (by omega)
  rw [Int.toNat_natCast, e4] at hmk
  obtain ⟨H5', H5, e5, d5, k5, l5, o5, z5⟩ := allocD [.slice none 0 0, .int .i64 0] 26 l4
  have hr5 : H3.size ≤ H4.size := by omega
  have hne : H3.size ≠ H4.size := by omega
  have z35 : H3.size < H4.size := by omega
  obtain ⟨H6', H6, p6, q6, k6, z6, l6, o6, rr6⟩ := stPD (k4.trans k5) hr5 l5 o5 rfl (some ⟨H3.size, 0, none⟩) w.length w.length (d / G)
  have o46 := rr6 _ _ _ hne (o4.keep k5)
  clear z4 z5 z6 rr6
  have ks := (k2.trans k3).read s1 rd2
  have ks0 := (k2.trans k3).read s1 rd0
  have m2 := k2.read s1 rd2
  have m40 := ((k2.trans k3).trans k4).read s1 rd0
  have m41 := ((k2.trans k3).trans k4).read s1 rd1
  have m31 := (k2.trans k3).read s1 rd1
  have m60 := ((k2.trans k3).trans k6).read s1 rd0
  have hG0 : ¬ G = 0 := by omega
  have fdv : IntKind.i64.wrap (d.tdiv G) = d / G := by
    have h0 := Int.ediv_nonneg (show 0 ≤ d by omega) (show 0 ≤ G by omega)
    have h1 := Int.ediv_le_self G (show 0 ≤ d by omega)
    rw [Int.tdiv_eq_ediv_of_nonneg (by omega), IntWalk.i64_in _ (by omega)]
  refine Zaav Try.func27 rfl (Nat.le_of_ble_eq_true rfl) (hS.no rfl _ _) ?_
  rw [Try.ntmps27, Try.results27]
  have hlk := hl
  clear hl R3
  repeat' (first | simp only [↓sxC_draw, ↓Zabm, ↓Zabo, ↓Zaaf, ↓Zabk, ↓Zabn, ↓Zacg, ↓Zacf, ↓Zaca, ↓Zaag, ↓Zaby, ↓sxDL_alloc, ↓sxDL_build, ↓Zabx, ↓Zabt, ↓sxDL_makeSlice, ↓Zabv, ↓sxD_same, ↓Zacl, ↓Zaaq, ↓Zaai, ↓Zaah, ↓bxOp_box, ↓bxOp_build, ↓Zaap, ↓Zaas, ↓Zaaj, ↓bxOp_makeSlice, ↓Zaam, ↓Zaat, ↓Zaao, ↓Zaci, ↓bxPut, ↓Zabi, ↓Zabg, ↓Zacj, ↓bxRes_cell, ↓Zacm, ↓Zaaz, ↓Zaax, ↓Zaay, Zach, Zaab, Zabb, Zabq, Zabe, List.map_cons, List.map_nil, List.nil_append, List.append_nil, ↓reduceIte, Nat.reduceEqDiff, Nat.reduceLT, size_relow, aLoad_relow, Nat.add_zero, one1, Option.bind_some, ne_eq, not_false_eq_true, Option.map_some, *, argF, List.getD_cons_zero, lenI, alP, ldP, bdP2, paG0, paG1, ldI, ldIs, Q.cells_agg, Nat.zero_add] | (with_reducible first | refine Zabs (by assumption) (by decide +kernel) ?_ | refine Zabr (by decide +kernel) ?_ | refine Zabz (by decide +kernel) ?_ | refine Zabu ?_))
  refine sxL_of (fun m ρ H7 => ∃ (k : Nat) (u : List Int), m = w.length - k ∧ k ≤ w.length ∧ u.length = w.length ∧ (∀ i, i < k → u.getD i 0 = w.getD i 0 / G) ∧ Keep H3 H7 ∧ Own H7 H3.size 3 (u.map fun z => .int .i64 z) ∧ Own H7 H4.size 26 [.slice (some ⟨H3.size, 0, none⟩) w.length w.length, .int .i64 (d / G)] ∧
      ρ 2 = .pointer (some ⟨H1.size, 0, none⟩) ∧ ρ 3 = .int .i64 G ∧ ρ 4 = .pointer (some ⟨H4.size, 0, none⟩) ∧ ρ 19 = .slice a w.length cap ∧ ρ 20 = .int .i64 w.length ∧ ρ 21 = .int .i64 k)
    ⟨0, List.replicate w.length 0, rfl, Nat.zero_le _, by simp, (fun i hi => absurd hi (Nat.not_lt_zero i)), k6, o46, o6, rfl, rfl, rfl, rfl, rfl, rfl⟩ ?_
  clear e1 rd2 rd0 rd1 e2 ks ks0 m2 m40 m41 m31 m60 o4 o5 o6 o46 p6 q6 hmk e4 e5
  rintro m ρ H7 ⟨k, u, rfl, hk, hul, hu, k37, o7, p7, e2, e3, e4, e19, e20, e21⟩
  have l7 := k37.low l3
  have hk07 := (k1.trans k2).trans (k3.trans k37)
  obtain ⟨y0, y1, y2⟩ := ownP p7
  by_cases hlt : k < w.length
  · have hlt' : (k : Int) < (w.length : Int) := by omega
    have hwr := wrap_succ hlt hlk.ml
    have hl7 := hlk.keep hk07
    have hix := SlI_ix hl7 hlt
    have hrd := (hl7.rdI hlt).1
    have hrg := hl7.rng k
    have hxk := hp _ (getD_mem (d := 0) hlt)
    have hmx : IntKind.i64.max = 9223372036854775807 := rfl
    have fdv2 : IntKind.i64.wrap ((w.getD k 0).tdiv G) = w.getD k 0 / G := by
      have h0 := Int.ediv_nonneg (show 0 ≤ w.getD k 0 by omega) (show 0 ≤ G by omega)
      have h1 := Int.ediv_le_self G (show 0 ≤ w.getD k 0 by omega)
      rw [Int.tdiv_eq_ediv_of_nonneg (by omega), IntWalk.i64_in _ (by omega)]
    obtain ⟨H8', H8, p8, q8, k8, z8, l8, o8, rr8⟩ := stID k37 (Nat.le_refl _) l7 o7 (w.getD k 0 / G) (o := k) (by omega)
    have p8' := rr8 _ _ _ (Ne.symm hne) p7
    have hix2 : aIndexAt Try.prog 22 (.slice (some ⟨H3.size, 0, none⟩) w.length w.length) (.int .i64 (k : Int)) = some (.pointer (some ⟨H3.size, k, none⟩)) := by
      rw [ixI, if_pos ⟨by omega, by omega⟩, Int.toNat_natCast, Nat.zero_add, Nat.mul_one]
    have hu2 : ∀ i, i < k + 1 → (u.set k (w.getD k 0 / G)).getD i 0 = w.getD i 0 / G := fun i hi => by
      rw [set_getD (by omega)]
      by_cases hik : i = k
      · rw [if_pos hik, hik]
      · rw [if_neg hik]; exact hu i (by omega)
    have hul2 : (u.set k (w.getD k 0 / G)).length = w.length := by rw [List.length_set, hul]
    generalize u.set k (w.getD k 0 / G) = u2 at *
    generalize w.getD k 0 / G = wk at *
    clear hl7 hlk hp hrg hxk hu hul z8 rr8 o7 p7 hmx
    repeat' (first | simp only [↓Zabp, ↓sxC_draw, ↓Zabm, ↓Zabo, ↓Zaae, ↓Zabk, ↓Zabl, ↓Zacg, ↓Zacf, ↓Zaca, ↓Zaag, ↓Zaby, ↓Zabx, ↓Zabt, ↓Zabv, ↓Zabw, ↓sxD_same, ↓Zacl, ↓Zaaq, ↓Zaai, ↓Zaap, ↓Zaas, ↓Zaaj, ↓Zaam, ↓Zaan, ↓Zaci, ↓bxPut, ↓Zabi, ↓Zabh, ↓Zaad, ↓Zaac, ↓Zabd, ↓Zabc, ↓Zacm, ↓Zaaz, ↓Zaax, Zach, Zaab, Zabb, Zace, ↓reduceIte, Nat.reduceEqDiff, Nat.reduceLT, dec_T, true_and, aLoad_relow, Nat.add_zero, one1, Option.bind_some, ne_eq, not_false_eq_true, *, paG0, ldI, ldIs] | (with_reducible first | refine Zabs (by assumption) (by decide +kernel) ?_ | refine Zabr (by decide +kernel) ?_ | refine Zabz (by decide +kernel) ?_ | refine Zabu ?_))
    exact ⟨_, by omega, k + 1, u2, rfl, by omega, hul2, hu2, by assumption, rfl⟩
  · have hlt' : ¬ (k : Int) < (w.length : Int) := by omega
    obtain ⟨H8, p8, o8, z8, rr8, kk8⟩ := stP ((ow2.keep k3).keep k37) rfl (some ⟨H3.size, 0, none⟩) w.length w.length (d / G)
    have k08 := kk8 H hk07 k1.size
    have g08 := k08.grp hg
    have hsz : H1.size < H3.size := Nat.lt_of_lt_of_le s2 k3.size
    have o8n := rr8 _ _ _ (by omega) o7
    have hum : w.map (fun x => x / G) = u := by
      apply List.ext_getElem?
      intro i
      rw [List.getElem?_map]
      by_cases hi : i < w.length
      · have h1 := hu i (by omega)
        rw [List.getD_eq_getElem?_getD, List.getD_eq_getElem?_getD, List.getElem?_eq_getElem hi, List.getElem?_eq_getElem (by omega)] at h1
        rw [List.getElem?_eq_getElem hi, List.getElem?_eq_getElem (by omega)]
        simpa using h1.symm
      · rw [List.getElem?_eq_none (by omega), List.getElem?_eq_none (by omega)]; rfl
    have hrg : ∀ z ∈ u, IntKind.i64.min ≤ z ∧ z ≤ IntKind.i64.max := fun z hz => by
      rw [← hum] at hz
      obtain ⟨x, hx, rfl⟩ := List.mem_map.1 hz
      have h1 := hp x hx
      obtain ⟨j, hj, hxj⟩ := List.getElem_of_mem hx
      have h2 := (hlk.rdI hj).2
      rw [List.getD_eq_getElem?_getD, List.getElem?_eq_getElem hj] at h2
      simp only [Option.getD_some, hxj] at h2
      have h3 := Int.ediv_nonneg h1 (show 0 ≤ G by omega)
      have h4 := Int.ediv_le_self G h1
      have h5 : IntKind.i64.min = -9223372036854775808 := rfl
      omega
    have hsl := Own.sl o8n hrg (by rw [hul]; exact hml) w.length
    rw [hul] at hsl
    have hfr : H.size ≤ H3.size := by have := k1.size; omega
    obtain ⟨x0, x1, x2⟩ := ownP o8
    clear hlk hp hu hul z8 rr8 kk8 o7 p7 o8 o8n hrg ow2
    repeat' (first | simp only [↓Zabp, ↓sxC_draw, ↓Zabm, ↓Zabo, ↓Zaae, ↓Zabk, ↓Zabl, ↓Zacg, ↓Zacf, ↓Zaca, ↓Zaag, ↓Zaby, ↓Zabx, ↓Zabt, ↓Zabv, ↓Zabw, ↓Zacl, ↓Zaaq, ↓Zaai, ↓Zaap, ↓Zaas, ↓Zaaj, ↓Zaam, ↓Zaan, ↓Zaci, ↓bxPut, ↓Zabi, ↓Zabh, ↓Zaad, ↓Zaac, ↓Zabd, ↓Zabc, ↓Zacm, ↓Zaaz, ↓Zaax, Zach, Zaab, Zabb, Zacd, ↓reduceIte, Nat.reduceEqDiff, Nat.reduceLT, dec_F, true_and, Option.map_some, *, ldP] | (with_reducible first | refine Zabs (by assumption) (by decide +kernel) ?_ | refine Zabr (by decide +kernel) ?_ | refine Zabz (by decide +kernel) ?_ | refine Zabu ?_))
    exact ⟨_, _, rfl, hsl, hfr⟩
end Go.Proofs.Ytpeoleimmabceaa
