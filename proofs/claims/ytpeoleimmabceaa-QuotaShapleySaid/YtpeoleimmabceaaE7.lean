/- Shares in proportion; halves, by the program. -/
import Derived.Test.YtpeoleimmabceaaE6
set_option linter.unusedVariables false
set_option linter.unusedSimpArgs false
set_option linter.unusedSectionVars false

namespace Go.Proofs.Ytpeoleimmabceaa
open Go Go.AM
set_option maxRecDepth 10000

theorem stPX {H0 H : Heap} {r : Nat} {cells : List Value} (h : Own H r 26 cells) (hl : cells.length = 2) (a : Option Addr) (n c : Nat) (z : Int) (hk : Keep H0 H) (hr : H0.size ≤ r) :
    ∃ H2, aStore Try.prog H 26 (.pointer (some ⟨r, 0, none⟩)) (.agg ⟨[.slice a n c, .int .i64 z]⟩) = some H2 ∧ Own H2 r 26 [.slice a n c, .int .i64 z] ∧ H2.size = H.size ∧ KeepX r H H2 ∧ Keep H0 H2 := by
  obtain ⟨H2, h1, h2, h3, h4⟩ := h.storeX (P := Try.prog) (t := 26) (i := Try.t26) (by kernel_rfl) (v := .agg ⟨[.slice a n c, .int .i64 z]⟩) (new := [.slice a n c, .int .i64 z]) rfl (by kernel_rfl) rfl (o := 0) (show 0 + 2 ≤ cells.length by omega)
  obtain ⟨H3, k1, k2, k3, k4, k5⟩ := stP h hl a n c z
  obtain rfl : H2 = H3 := Option.some.inj (h1.symm.trans k1)
  exact ⟨H2, k1, k2, k3, h3, k5 H0 hk hr⟩
theorem PV.x {H0 H H' : Heap} {u : Value} {w : List Int} {d : Int} {r : Nat} (h : PV H0 H u w d) (hr : r < H0.size) (hk : KeepX r H H') : PV H0 H' u w d := by
  obtain ⟨v, r2, h1, h2, h3⟩ := h
  exact ⟨v, r2, h1, h2.ge (stable_int _ _) (fun _ => by omega) hk.ge, h3⟩

variable {S : AM.Sys} (hS : Only S 11)
include hS

set_option maxHeartbeats 4000000 in
theorem propo_runs (e : Int) (v : Value) (c : List Int) (r o : Nat) (H : Heap) (hg : Grp H) (hL : H.low ≤ H.size) (hl : SlI .i64 H v c r o) (h7 : c.length ≤ 7) (hc : ∀ x ∈ c, 0 ≤ x ∧ x ≤ 100000)
    (he : 0 ≤ e ∧ e ≤ 100000) :
    ∃ u H', Runs Try.prog S (.fn 45) [.int .i64 e, v] H u H' ∧ Keep H H' ∧ PV H H' u (c.map fun x => e * x) (max 1 c.sum) := by
  suffices h : WCall Try.prog S (.fn 45) [.int .i64 e, v] H (fun u H' => Keep H H' ∧ PV H H' u (c.map fun x => e * x) (max 1 c.sum)) by
    obtain ⟨u, H', hr, h⟩ := h; exact ⟨u, H', hr, h⟩
  have hml := hl.ml
  obtain ⟨va, vc, rfl⟩ := hl.v0
  have hsm := Q.sum_le 100000 c fun x hx => (hc x hx).2
  have hs0 := (Q.sum_take_le c (fun x hx => (hc x hx).1) 0).2
  obtain ⟨d, hd⟩ : ∃ d, d = max 1 c.sum := ⟨_, rfl⟩
  rw [← hd]
  have hs0 : 0 ≤ c.sum := by simpa using hs0
  have hmax : (if c.sum > 1 then c.sum else 1) = d := by rw [hd]; split <;> omega
  obtain ⟨H2, e2, k2, s2, -, -⟩ := box1 H [.slice none 0 0, .int .i64 0] 26
  have ow2 : Own H2 H.size 26 [.slice none 0 0, .int .i64 0] := e2 ▸ Own.new H _ _
  have al2 : aAlloc Try.prog H 26 = some (.pointer (some ⟨H.size, 0, none⟩), H2) := by rw [alP, e2]
  have K2 := k2
  have lw2 := K2.low hL
  obtain ⟨H4', H4, e4, d4, k4, l4, o4, z4⟩ := allocD ((List.replicate c.length (0 : Int)).map fun z => .int .i64 z) 3 lw2
  have hmk := mkI (H2.relow H2.size) (l := (c.length : Int)) (by omega) (by omega)
  rw [Int.toNat_natCast, e4] at hmk
  obtain ⟨H5', H5, e5, d5, k5, l5, o5, z5⟩ := allocD [.slice none 0 0, .int .i64 0] 26 l4
  have al5 : aAlloc Try.prog (H4.relow H4.size) 26 = some (.pointer (some ⟨H4.size, 0, none⟩), H5') := by rw [alP, e5]; rfl
  have hr5 : H2.size ≤ H4.size := by omega
  have hne : H2.size ≠ H4.size := by omega
  obtain ⟨H6', H6, p6, q6, k6, z6, l6, o6, rr6⟩ := stPD (k4.trans k5) hr5 l5 o5 rfl (some ⟨H2.size, 0, none⟩) c.length c.length d
  have o46 := rr6 _ _ _ hne (o4.keep k5)
  have ft := (Q.total_runs hS _ c r o (H4.relow H4.size) ((hl.keep (K2.trans k4)).keep (Keep.relowS H4)) (fun x hx => (hc x hx).1) (by omega)).bx
  have z12 : H.size < H2.size := s2
  clear z5 z6 rr6 z4 o5 o4 e4 e5 e2 hs0 hd
  refine Zaav Try.func45 rfl (Nat.le_of_ble_eq_true rfl) (hS.no rfl _ _) ?_
  rw [Try.ntmps45, Try.results45]
  repeat' (first | simp only [↓sxC_draw, ↓Zabm, ↓Zabo, ↓Zaaf, ↓Zabk, ↓Zabn, ↓Zacg, ↓Zacf, ↓Zaca, ↓Zaag, ↓Zaby, ↓sxDL_alloc, ↓sxDL_build, ↓sxDL_makeSlice, ↓sxD_same, ↓Zacl, ↓Zaaq, ↓Zaah, ↓bxOp_build, ↓Zaap, ↓Zaas, ↓bxOp_makeSlice, ↓Zaat, ↓Zaao, ↓bxOp_max, ↓Zaci, ↓bxPut, ↓Zabi, ↓Zabg, ↓Zacj, ↓bxRes_cell, ↓Zacm, ↓Zaaz, ↓Zaax, ↓Zaay, Zach, mm_max, Zabq, Zabe, List.map_cons, List.map_nil, List.nil_append, List.append_nil, ↓reduceIte, Nat.reduceEqDiff, Nat.reduceLT, size_relow, *, argF, List.getD_cons_zero, List.getD_cons_succ, lenI, bdP2] | (with_reducible first | refine Zabs (by assumption) (by decide +kernel) ?_ | refine Zabr (by decide +kernel) ?_ | refine Zabz (by decide +kernel) ?_ | refine Zabu ?_))
  refine sxL_of (fun m ρ H8 => ∃ (k : Nat) (u : List Int), m = c.length - k ∧ k ≤ c.length ∧ u.length = c.length ∧ (∀ i, i < k → u.getD i 0 = e * c.getD i 0) ∧ Keep H2 H8 ∧ H8.low ≤ H8.size ∧ Own H8 H2.size 3 (u.map fun z => .int .i64 z) ∧ Own H8 H4.size 26 [.slice (some ⟨H2.size, 0, none⟩) c.length c.length, .int .i64 d] ∧
      ρ 0 = .int .i64 e ∧ ρ 4 = .pointer (some ⟨H.size, 0, none⟩) ∧ ρ 5 = .pointer (some ⟨H4.size, 0, none⟩) ∧ ρ 15 = .slice va c.length vc ∧ ρ 16 = .int .i64 (c.length : Int) ∧ ρ 17 = .int .i64 (k : Int))
    ⟨0, List.replicate c.length 0, rfl, Nat.zero_le _, by simp, (fun i hi => absurd hi (Nat.not_lt_zero i)), k6, l6, o46, o6, rfl, rfl, rfl, rfl, rfl, rfl⟩ ?_
  clear hmk al2 al5 p6 q6 o46 o6 d4 d5 ft hmax
  rintro m ρ H8 ⟨k, u, rfl, hk, hul, hu, k28, lw8, o8, p8, e0, e4, e5, e15, e16, e17⟩
  have hk08 := K2.trans k28
  have hob := ownP p8
  obtain ⟨y0, y1, y2⟩ := hob
  by_cases hlt : k < c.length
  · have hlt' : (k : Int) < (c.length : Int) := by omega
    have hwr := wrap_succ hlt hml
    have hl8 := hl.keep hk08
    have hix := SlI_ix hl8 hlt
    have hrd := (hl8.rdI hlt).1
    have hx := hc _ (getD_mem (d := 0) hlt)
    have hgx : ∃ x, x = c.getD k 0 := ⟨_, rfl⟩
    obtain ⟨x, hxx⟩ := hgx
    have hu2 : ∀ z, z = e * x → ∀ i, i < k + 1 → (u.set k z).getD i 0 = e * c.getD i 0 := fun z hz i hi => by
      rw [set_getD (by omega)]
      by_cases hik : i = k
      · rw [if_pos hik, hik, ← hxx, hz]
      · rw [if_neg hik]; exact hu i (by omega)
    rw [← hxx] at hrd hx
    have hm1 : 0 ≤ e * x := Int.mul_nonneg he.1 hx.1
    have hm2 : e * x ≤ 100000 * 100000 := Int.mul_le_mul he.2 hx.2 (by omega) (by omega)
    have hwm : IntKind.i64.wrap (e * x) = e * x := IntWalk.i64_in _ (by omega)
    have hix2 : aIndexAt Try.prog 22 (.slice (some ⟨H2.size, 0, none⟩) c.length c.length) (.int .i64 (k : Int)) = some (.pointer (some ⟨H2.size, k, none⟩)) := by
      rw [ixI, if_pos ⟨by omega, by omega⟩, Int.toNat_natCast, Nat.zero_add, Nat.mul_one]
    have hob := stI1 k28 (Nat.le_refl _) o8 (e * x) (o := k) (by omega)
    obtain ⟨H9, st9, k9, z9, o9, rr9⟩ := hob
    have l9 := k9.low lw2
    have p9 := rr9 _ _ _ (Ne.symm hne) p8
    have hu2 := hu2 _ rfl
    have hul2 : (u.set k (e * x)).length = c.length := by rw [List.length_set, hul]
    have hgu : ∃ u2, u2 = u.set k (e * x) := ⟨_, rfl⟩
    obtain ⟨u2, hu2'⟩ := hgu
    rw [← hu2'] at hu2 hul2 o9
    clear hl8 hl hu hul rr9 o8 p8 z9 hu2' hxx hc
    repeat' (first | simp only [↓Zabp, ↓Zabm, ↓Zabo, ↓Zaae, ↓Zabk, ↓Zabl, ↓Zacg, ↓Zacf, ↓Zacl, ↓Zaaq, ↓Zaai, ↓Zaap, ↓Zaas, ↓Zaaj, ↓Zaam, ↓Zaan, ↓Zaci, ↓bxPut, ↓Zabi, ↓Zabh, ↓Zaad, ↓Zaac, ↓Zabd, ↓Zabc, ↓Zacm, ↓Zaaz, ↓Zaax, Zach, Zaab, Zabb, Zace, ↓reduceIte, Nat.reduceEqDiff, Nat.reduceLT, dec_T, true_and, Nat.add_zero, one1, Option.bind_some, *, paG0, ldI, ldIs])
    exact ⟨c.length - (k + 1), by omega, k + 1, u2, rfl, by omega, hul2, hu2, by assumption, rfl⟩
  · have hlt' : ¬ (k : Int) < (c.length : Int) := by omega
    have hob := stP (ow2.keep k28) rfl (some ⟨H2.size, 0, none⟩) c.length c.length d
    obtain ⟨H9, st9, o9, z9, rr9, kk9⟩ := hob
    have k09 := kk9 H hk08 (Nat.le_refl _)
    have o9n := rr9 _ _ _ (by omega) o8
    have hum : u = c.map (fun x => e * x) := list_is _ hul (by simp) (fun i hi => hu i (by omega)) (fun i hi => map_getD (f := fun x => e * x) hi)
    have hrg : ∀ z ∈ u, IntKind.i64.min ≤ z ∧ z ≤ IntKind.i64.max := all_of (d := 0) fun i hi => by
      rw [hu i (by omega)]
      have h1 := hc _ (getD_mem (l := c) (k := i) (d := 0) (by omega))
      have h2 : 0 ≤ e * c.getD i 0 := Int.mul_nonneg he.1 h1.1
      have h3 : e * c.getD i 0 ≤ 100000 * 100000 := Int.mul_le_mul he.2 h1.2 (by omega) (by omega)
      have h5 : IntKind.i64.min = -9223372036854775808 := rfl
      have h6 : IntKind.i64.max = 9223372036854775807 := rfl
      omega
    have hsl := Own.sl o9n hrg (by rw [hul]; exact hml) c.length
    rw [hul] at hsl
    rw [hum] at hsl
    have hob := ownP o9
    obtain ⟨w0, w1, w2⟩ := hob
    have hpv : PV H H9 (.agg ⟨[.slice (some ⟨H2.size, 0, none⟩) c.length c.length, .int .i64 d]⟩) (c.map fun x => e * x) d := ⟨_, _, rfl, hsl, by omega⟩
    clear hl hu hul rr9 kk9 o8 p8 o9 o9n hrg ow2 hum hsl z9
    repeat' (first | simp only [↓Zabp, ↓Zabm, ↓Zabo, ↓Zaae, ↓Zabk, ↓Zabl, ↓Zacg, ↓Zacf, ↓Zacl, ↓Zaaq, ↓Zaai, ↓Zaap, ↓Zaas, ↓Zaaj, ↓Zaam, ↓Zaan, ↓Zaci, ↓bxPut, ↓Zabi, ↓Zabh, ↓Zaad, ↓Zaac, ↓Zabd, ↓Zabc, ↓Zacm, ↓Zaaz, ↓Zaax, Zach, Zaab, Zabb, Zacd, ↓reduceIte, Nat.reduceEqDiff, Nat.reduceLT, dec_F, and_self, Option.map_some, *, ldP])

theorem halves_runs (e : Int) (v : Value) (c : List Int) (r o : Nat) (H : Heap) (hg : Grp H) (hL : H.low ≤ H.size) (hl : SlI .i64 H v c r o) (h0 : 0 < c.length) (h7 : c.length ≤ 7) (hc : ∀ x ∈ c, 0 ≤ x ∧ x ≤ 100000) (he : 0 ≤ e) (hs : 2 * e ≤ c.sum) :
    ∃ u H', Runs Try.prog S (.fn 46) [.int .i64 e, v] H u H' ∧ Keep H H' ∧ ∃ s L, Eqs (2 * e) c s L ∧ PV H H' u (c.map fun x => min (x * s) L) (s * 2) := by
  suffices h : WCall Try.prog S (.fn 46) [.int .i64 e, v] H (fun u H' => Keep H H' ∧ ∃ s L, Eqs (2 * e) c s L ∧ PV H H' u (c.map fun x => min (x * s) L) (s * 2)) by
    obtain ⟨u, H', hr, h⟩ := h; exact ⟨u, H', hr, h⟩
  have hsm := Q.sum_le 100000 c fun x hx => (hc x hx).2
  obtain ⟨H1, e1, k1, s1, -, -⟩ := box1 H [.slice none 0 0, .int .i64 0] 26
  have ow1 : Own H1 H.size 26 [.slice none 0 0, .int .i64 0] := e1 ▸ Own.new H _ _
  have al1 : aAlloc Try.prog H 26 = some (.pointer (some ⟨H.size, 0, none⟩), H1) := by rw [alP, e1]
  obtain ⟨u2, H2, hR2, k2, s, L, hq, v2, r2, rfl, hsl, hr2⟩ := equal_runs hS (2 * e) v c r o H1 (k1.grp hg) (k1.low hL) (hl.keep k1) h0 h7 hc (by omega) hs
  have hv2 := hsl.v0
  obtain ⟨va, vc, rfl⟩ := hv2
  rw [List.length_map] at hR2 hsl
  have f2 := hR2.bx
  have hq1 := hq.s1
  have hq2 := hq.s2
  have hw2 : IntKind.i64.wrap (2 * e) = 2 * e := IntWalk.i64_in _ (by omega)
  have hws : IntKind.i64.wrap (s * 2) = s * 2 := IntWalk.i64_in _ (by omega)
  obtain ⟨H3, e3, k3, s3, -, -⟩ := box1 H2 [.slice none 0 0, .int .i64 0] 26
  have ow3 : Own H3 H2.size 26 [.slice none 0 0, .int .i64 0] := e3 ▸ Own.new H2 _ _
  have al3 : aAlloc Try.prog H2 26 = some (.pointer (some ⟨H2.size, 0, none⟩), H3) := by rw [alP, e3]
  obtain ⟨H4, st4, o4, z4, rr4, kk4⟩ := stP ow3 rfl va c.length vc s
  have k24 := kk4 H2 k3 (Nat.le_refl _)
  obtain ⟨y0, y1, y2⟩ := ownP o4
  obtain ⟨H5, st5, o5, z5, k5⟩ : ∃ H5, aStore Try.prog H4 3 (.pointer (some ⟨H2.size, 0 + 1, none⟩)) (.int .i64 (s * 2)) = some H5 ∧ Own H5 H2.size 26 [.slice va c.length vc, .int .i64 (s * 2)] ∧ H5.size = H4.size ∧ ∀ H0, Keep H0 H4 → H0.size ≤ H2.size → Keep H0 H5 := by
    obtain ⟨i, _, hi, hsz, _⟩ := infoI
    obtain ⟨H5, h1, h2, h3, h4, h5⟩ := o4.store (t := 3) hi (v := .int .i64 (s * 2)) (new := [.int .i64 (s * 2)]) rfl (hsz.trans rfl) rfl (o := 1) (show 1 + 1 ≤ 2 by omega)
    exact ⟨H5, h1, h2, h3, h5⟩
  have k25 := k5 H2 k24 (Nat.le_refl _)
  obtain ⟨x0, x1, x2⟩ := ownP o5
  have z12 := k2.size
  obtain ⟨H6, st6, o6, z6, rr6, k06⟩ := stPX ((ow1.keep k2).keep k25) rfl va c.length vc (s * 2) ((k1.trans k2).trans k25) (Nat.le_refl _)
  have hpv : PV H H6 (.agg ⟨[.slice va c.length vc, .int .i64 (s * 2)]⟩) (c.map fun x => min (x * s) L) (s * 2) := ⟨_, _, rfl, (hsl.keep k25).ge (stable_int _ (H.size + 1)) (fun _ => by have := k1.size; omega) rr6.ge, by omega⟩
  have hfin : Keep H H6 ∧ ∃ s' L', Eqs (2 * e) c s' L' ∧ PV H H6 (.agg ⟨[.slice va c.length vc, .int .i64 (s * 2)]⟩) (c.map fun x => min (x * s') L') (s' * 2) := ⟨k06, s, L, hq, hpv⟩
  obtain ⟨w0, w1, w2⟩ := ownP o6
  clear hR2 hsl hpv hq o4 o5 o6 ow1 ow3 rr4 rr6 kk4 k5 hl z4 z5 z6 e1 e3
  refine Zaav Try.func46 rfl (Nat.le_of_ble_eq_true rfl) (hS.no rfl _ _) ?_
  rw [Try.ntmps46, Try.results46]
  repeat' (first | simp only [↓Zabm, ↓Zabo, ↓Zabn, ↓Zacg, ↓Zacf, ↓Zacl, ↓Zaaq, ↓Zaah, ↓Zaap, ↓Zaas, ↓Zaaj, ↓Zaam, ↓Zaat, ↓Zaci, ↓bxPut, ↓Zabi, ↓Zabg, ↓Zacj, ↓bxRes_cell, ↓Zacm, ↓Zaaz, ↓Zaax, ↓Zaay, Zach, Zaab, Zabb, Zabq, Zabe, List.map_cons, List.map_nil, List.nil_append, List.append_nil, ↓reduceIte, Nat.reduceEqDiff, Nat.reduceLT, and_self, one1, Option.bind_some, Option.map_some, *, argF, List.getD_cons_zero, List.getD_cons_succ, paG1, ldP, ldI])
end Go.Proofs.Ytpeoleimmabceaa
