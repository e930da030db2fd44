/- Latest: the function. -/
import Derived.Test.YtagnifngnpgilaaL7
import Derived.Test.YtagnifngnpgilaaR8a
set_option linter.unusedVariables false
set_option linter.unusedSimpArgs false
set_option linter.unusedSectionVars false

namespace Go.Proofs.Ytagnifngnpgilaa
open Go Go.AM
set_option maxRecDepth 10000

variable {ls : List Lg} {ch fr to : Int} {Q : List Pt}
theorem late_no {by' : Int} (h : BestOf (JP ls ch fr to) Q) (hn : ∀ j, j < Q.length → ¬ (Q.getD j default).2 ≤ by') : ∀ i r, Ch ls ch i r → (ls.getD i default).f = fr → ¬ EndsB to by' (ls.getD (lastN i r) default) := fun i r h1 h2 h3 => by
  obtain ⟨p, hp, p1, p2⟩ := h.dom _ _ ⟨i, r, h1, h2, rfl, h3.1, rfl⟩
  obtain ⟨j, hj, e⟩ := mem_at hp
  have h4 := hn j hj
  rw [← e] at h4
  have := h3.2
  omega
theorem late_yes {by' : Int} (h : BestOf (JP ls ch fr to) Q) {k : Nat} (hn : k < Q.length) (hk : (Q.getD k default).2 ≤ by') (hm : ∀ j, k < j → j < Q.length → ¬ (Q.getD j default).2 ≤ by') :
    (∃ i r, Ch ls ch i r ∧ BegB fr (Q.getD k default).1 (ls.getD i default) ∧ EndsB to by' (ls.getD (lastN i r) default)) ∧
    ∀ i r, Ch ls ch i r → (ls.getD i default).f = fr → EndsB to by' (ls.getD (lastN i r) default) → (ls.getD i default).d ≤ (Q.getD k default).1 := by
  constructor
  · obtain ⟨i, r, h1, h2, h3, h4, h5⟩ := h.mem _ (at_mem hn)
    exact ⟨i, r, h1, ⟨h2, by omega⟩, h4, by omega⟩
  · intro i r h1 h2 h3
    obtain ⟨p, hp, p1, p2⟩ := h.dom _ _ ⟨i, r, h1, h2, rfl, h3.1, rfl⟩
    obtain ⟨j, hj, e⟩ := mem_at hp
    have h3' := h3.2
    rcases Nat.lt_trichotomy k j with h4 | h4 | h4
    · have h5 := hm j h4 hj
      rw [← e] at h5
      omega
    · subst h4
      rw [← e]; exact p1
    · have := (h.asc.at h4 hn).1
      rw [← e] at this
      omega
theorem late_of {by' x : Int} (hm : ∀ i r, Ch ls ch i r → (ls.getD i default).f = fr → EndsB to by' (ls.getD (lastN i r) default) → (ls.getD i default).d ≤ x) {i : Nat} {r : List Nat} (hs : Short ls ch (BegB fr x) (EndsB to by') i r) : LateJ ls ch fr to by' x 0 (i :: r) :=
  .inr ⟨rfl, i, r, rfl, hs, by have h1 := hm i r hs.is hs.beg.1 hs.fin; have h2 := hs.beg.2; omega, hm⟩

variable {S : AM.Sys} (hS : Only S 10)
include hS

set_option maxHeartbeats 4000000 in
theorem Late_runs (n : Int) (ls : List Lg) (lv : Value) (r o : Nat) (ch fr to by' : Int) (hat : R64 by') (H : Heap) (hL : H.low ≤ H.size) (hg : Grp H) (hl : SlG H lv ls r o) :
    ∃ u H', Runs Try.prog S (.fn 13) [.int .i64 n, lv, .int .i64 ch, .int .i64 fr, .int .i64 to, .int .i64 by'] H u H' ∧ PostE (errC n ls ch fr to [by']) fr to by' (LateJ ls ch fr to by') H u H' := by
  suffices h : WCall Try.prog S (.fn 13) [.int .i64 n, lv, .int .i64 ch, .int .i64 fr, .int .i64 to, .int .i64 by'] H (fun u H' => PostE (errC n ls ch fr to [by']) fr to by' (LateJ ls ch fr to by') H u H') by
    obtain ⟨u, H', hr, h⟩ := h; exact ⟨u, H', hr, h⟩
  obtain ⟨a, c, rfl⟩ := hl.v0
  have k1 := Keep.newExact H [.int .i64 by'] 3
  have s1 := one_sl H by' hat
  have b1 := bsI H by'
  obtain ⟨H1, hH1⟩ : ∃ H1, H1 = H.newExact [.int .i64 by'] 3 := ⟨_, rfl⟩
  rw [← hH1] at k1 s1 b1
  obtain ⟨H2, k2, hR⟩ := check_runs hS n ls (.slice a ls.length c) r o ch fr to [by'] _ H.size 0 H1 (hl.keep k1) s1
  have f1 := hR.bx
  rw [show [by'].length = 1 from rfl] at f1
  have hK2 := k1.trans k2
  obtain ⟨e, he⟩ : ∃ e, e = errC n ls ch fr to [by'] := ⟨_, rfl⟩
  rw [← he] at f1 ⊢
  clear hH1 hR s1
  refine Zaba Try.func13 rfl (Nat.le_of_ble_eq_true rfl) (hS.no rfl _ _) ?_
  rw [Try.ntmps13, Try.results13]
  by_cases h0 : e = 0
  case neg =>
    have hp : PostE e fr to by' (LateJ ls ch fr to by') H (.tuple ⟨[.int .i64 0, .slice none 0 0, .int .i64 e]⟩) H2 := ⟨0, e, _, [], rfl, hK2, fun _ => rfl, fun h => absurd rfl h, fun _ => ⟨rfl, rfl, rfl⟩, fun h => absurd h h0, fun h => absurd h h0⟩
    have d0 : decide (¬ e = 0) = true := decide_eq_true h0
    clear hK2 k1 k2 hl he
    repeat' (first | simp only [↓Zabz, ↓Zabw, ↓Zaby, ↓Zaai, ↓Zabx, ↓Zacw, ↓Zacv, ↓Zadb, ↓Zaau, ↓Zaam, ↓Zaal, ↓bxOp_build, ↓Zaao, ↓Zaat, ↓Zaaw, ↓Zaan, ↓Zaax, ↓Zaap, ↓Zaay, ↓Zacy, ↓bxPut, ↓Zabr, ↓Zabs, ↓Zabp, ↓Zacz, ↓Zada, ↓Zadc, ↓Zabf, ↓Zabd, ↓Zabe, Zacx, Zaae, Zabh, Zaca, Zacu, Zabm, List.map_cons, List.map_nil, List.nil_append, List.append_nil, ↓reduceIte, Nat.reduceEqDiff, Nat.reduceLT, dec_T, not_false_eq_true, *, argF, List.getD_cons_zero, List.getD_cons_succ])
  subst h0
  have d0 : decide (¬ (0 : Int) = 0) = false := rfl
  obtain ⟨q1, q2, q3, q4⟩ := errC_zero he.symm
  have hlk := LOk.of q2 q3
  by_cases hft : fr = to
  · have hp : PostE 0 fr to by' (LateJ ls ch fr to by') H (.tuple ⟨[.int .i64 by', .slice none 0 0, .int .i64 0]⟩) H2 := ⟨by', 0, _, [], rfl, hK2, fun _ => rfl, fun h => absurd rfl h, fun h => absurd rfl h, fun _ _ => ⟨rfl, rfl, rfl⟩, fun _ h => absurd hft h⟩
    have d1 : decide (fr = to) = true := decide_eq_true hft
    clear hK2 k1 k2 hl he hft
    repeat' (first | simp only [↓Zabz, ↓Zabw, ↓Zaby, ↓Zaai, ↓Zabx, ↓Zacw, ↓Zacv, ↓Zadb, ↓Zaau, ↓Zaam, ↓Zaal, ↓bxOp_build, ↓Zaao, ↓Zaat, ↓Zaaw, ↓Zaan, ↓Zaax, ↓Zaap, ↓Zaay, ↓Zacy, ↓bxPut, ↓Zabr, ↓Zabs, ↓Zabp, ↓Zacz, ↓Zada, ↓Zadc, ↓Zabf, ↓Zabd, ↓Zabe, Zacx, Zaae, Zabh, Zaca, Zacu, Zact, Zabm, List.map_cons, List.map_nil, List.nil_append, List.append_nil, ↓reduceIte, Nat.reduceEqDiff, Nat.reduceLT, dec_F, not_true_eq_false, *, argF, List.getD_cons_zero, List.getD_cons_succ])
  have d1 : decide (fr = to) = false := decide_eq_false hft
  obtain ⟨u3, H3, hR3, hp3⟩ := newTT_runs hS ls a c r o ch H2 (hK2.low hL) (hK2.grp hg) (hl.keep hK2) q1
  obtain ⟨ro, R, rfl, k3, _, tt⟩ := TT.of hp3 (hl.keep hK2) q1 hlk
  have hK3 := hK2.trans k3
  have al4 := alT H3
  obtain ⟨H4, st4, k4, t4⟩ := newT H3 a ls.length c ch (some ⟨ro, 0, none⟩) ls.length ls.length
  have hz4 : H3.size < H4.size := by
    obtain ⟨row, h1, _⟩ := read_inv t4
    exact ((hK3.trans k4).grp hg).1 _ _ h1 |>.1
  have hK4 := hK3.trans k4
  obtain ⟨u5, H5, hR5, Q, hin, hbl, _, hb⟩ := prof_runs hS (tt.keep k4) fr to (hK4.low hL) (hK4.grp hg)
  have hb := hb hft
  have k5 := hin.2.2.2.1
  have hK5 := hK4.trans k5
  obtain ⟨r5, s5, _⟩ := hin.sl
  have s5 : SlP H5 u5 Q r5 0 := s5
  obtain ⟨x, b6, H6, k6, hbq, hR6⟩ := lookBack_runs hS Q u5 r5 0 by' H5 (hK5.low hL) (hK5.grp hg) s5 (by omega)
  have hK6 := hK5.trans k6
  have t6 := (k5.trans k6).read hz4 t4
  have f3 := hR3.bx
  have f5 := hR5.bx
  have f6 := hR6.bx
  unfold tvo tv at f3 f5
  have ex0 : ∀ x y : Value, aExtract (.tuple ⟨[x, y]⟩) 0 = some x := fun x y => by kernel_rfl
  have ex1 : ∀ x y : Value, aExtract (.tuple ⟨[x, y]⟩) 1 = some y := fun x y => by kernel_rfl
  rcases hbq with ⟨k, hn, hka, hkm, hkx, rfl⟩ | ⟨hno, rfl, rfl⟩
  case inr =>
    have hp : PostE 0 fr to by' (LateJ ls ch fr to by') H (.tuple ⟨[.int .i64 0, .slice none 0 0, .int .i64 10]⟩) H6 := ⟨0, 10, _, [], rfl, hK6, fun _ => rfl, fun h => absurd rfl h, fun h => absurd rfl h, fun _ h => absurd h hft, fun _ _ => .inl ⟨rfl, rfl, rfl, late_no hb hno⟩⟩
    clear hK2 hK3 hK4 hK5 hK6 k1 k2 k3 k4 k5 k6 hl he hft tt hin hb hR3 hR5 hR6 s5 hno q1 q2 q3 q4 hlk hp3
    repeat' (first | simp only [↓Zabz, ↓Zabw, ↓Zaby, ↓Zaai, ↓Zabx, ↓Zacw, ↓Zacv, ↓Zadb, ↓Zaau, ↓Zaam, ↓Zaal, ↓bxOp_build, ↓Zaao, ↓Zaat, ↓Zaaw, ↓Zaan, ↓Zaax, ↓Zaap, ↓Zaay, ↓Zacy, ↓bxPut, ↓Zabr, ↓Zabs, ↓Zabp, ↓Zacz, ↓Zada, ↓Zadc, ↓Zabf, ↓Zabd, ↓Zabe, Zacx, Zaae, Zabh, una_nf, Zaca, Zacu, Zact, Zabm, List.map_cons, List.map_nil, List.nil_append, List.append_nil, ↓reduceIte, Nat.reduceEqDiff, Nat.reduceLT, dec_F, not_true_eq_false, Option.map_some, *, argF, List.getD_cons_zero, List.getD_cons_succ, ldTt])
  have hly := late_yes hb hn hka hkm
  rw [← hkx] at hly
  obtain ⟨hex, hmin⟩ := hly
  obtain ⟨u7, H7, hR7, jv, b, js, rfl, k7, hj0, _, hsp⟩ := short_runs hS (tt.keep ((k4.trans k5).trans k6)) fr to x by' (hK6.low hL) (hK6.grp hg)
  have hsp := hsp hft
  rcases hsp with ⟨_, _, hno⟩ | ⟨rfl, hjl, i, rr, hji, hsh⟩
  · obtain ⟨i, rr, h1, h2, h3⟩ := hex
    exact absurd h3 (hno i rr h1 h2)
  have hK7 := hK6.trans k7
  have f7 := hR7.bx
  have bw := bdW fr to x by'
  have hp : PostE 0 fr to by' (LateJ ls ch fr to by') H (.tuple ⟨[.int .i64 x, jv, .int .i64 0]⟩) H7 := ⟨x, 0, jv, js, rfl, hK7, hj0, fun _ => hjl.mono hK6.size, fun h => absurd rfl h, fun _ h => absurd h hft, fun _ _ => by
    rw [hji]
    exact late_of hmin hsh⟩
  unfold tvo tv wv at f7
  clear hK2 hK3 hK4 hK5 hK6 hK7 k1 k2 k3 k4 k5 k6 k7 hl he hft tt hin hb hR3 hR5 hR6 hR7 s5 hka hkm hkx hn q1 q2 q3 q4 hlk hp3 hex hmin hj0 hjl hsh hji
  repeat' (first | simp only [↓Zabz, ↓Zabw, ↓Zaby, ↓Zaai, ↓Zabx, ↓Zacw, ↓Zacv, ↓Zadb, ↓Zaau, ↓Zaam, ↓Zaal, ↓bxOp_build, ↓Zaao, ↓Zaat, ↓Zaaw, ↓Zaan, ↓Zaax, ↓Zaap, ↓Zaay, ↓Zacy, ↓bxPut, ↓Zabr, ↓Zabs, ↓Zabp, ↓Zacz, ↓Zada, ↓Zadc, ↓Zabf, ↓Zabd, ↓Zabe, Zacx, Zaae, Zabh, una_nt, Zaca, Zact, Zabm, List.map_cons, List.map_nil, List.nil_append, List.append_nil, ↓reduceIte, Nat.reduceEqDiff, Nat.reduceLT, dec_F, not_true_eq_false, Option.map_some, *, argF, List.getD_cons_zero, List.getD_cons_succ, ldTt])
end Go.Proofs.Ytagnifngnpgilaa

namespace Go.Proofs.Ytagnifngnpgilaa
open Go Go.AM
set_option maxRecDepth 10000

theorem errC_nil {n : Int} {ls : List Lg} {ch fr to : Int} (ts : List Int) (h : errC n ls ch fr to [] ≠ 0) : errC n ls ch fr to ts = errC n ls ch fr to [] := by
  unfold errC at h ⊢
  by_cases h1 : ¬ (1 ≤ n ∧ n ≤ 8)
  · rw [if_pos h1, if_pos h1]
  rw [if_neg h1] at h ⊢
  rw [if_neg h1]
  by_cases h2 : 60 < ls.length
  · rw [if_pos h2, if_pos h2]
  rw [if_neg h2] at h ⊢
  rw [if_neg h2]
  by_cases h3 : ¬ ∀ x ∈ ls, LegOk n x
  · rw [if_pos h3, if_pos h3]
  rw [if_neg h3] at h ⊢
  rw [if_neg h3]
  by_cases h4 : ¬ (0 ≤ ch ∧ ch ≤ 100) ∨ ¬ (0 ≤ fr ∧ fr ≤ n - 1) ∨ ¬ (0 ≤ to ∧ to ≤ n - 1)
  · rw [if_pos h4, if_pos h4]
  rw [if_neg h4] at h
  exact absurd (by rw [if_neg]; simp) h
theorem errC_one {n : Int} {ls : List Lg} {ch fr to : Int} (t : Int) (h : errC n ls ch fr to [] = 0) : errC n ls ch fr to [t] = if 0 ≤ t ∧ t ≤ 10000 then 0 else 2 := by
  unfold errC at h ⊢
  by_cases h1 : ¬ (1 ≤ n ∧ n ≤ 8)
  · rw [if_pos h1] at h; exact absurd h (by decide)
  rw [if_neg h1] at h ⊢
  by_cases h2 : 60 < ls.length
  · rw [if_pos h2] at h; exact absurd h (by decide)
  rw [if_neg h2] at h ⊢
  by_cases h3 : ¬ ∀ x ∈ ls, LegOk n x
  · rw [if_pos h3] at h; exact absurd h (by decide)
  rw [if_neg h3] at h ⊢
  by_cases h4 : ¬ (0 ≤ ch ∧ ch ≤ 100) ∨ ¬ (0 ≤ fr ∧ fr ≤ n - 1) ∨ ¬ (0 ≤ to ∧ to ≤ n - 1)
  · rw [if_pos h4] at h; exact absurd h (by decide)
  rw [if_neg h4] at h ⊢
  by_cases ht : 0 ≤ t ∧ t ≤ 10000
  · rw [if_pos ht, if_neg (by simpa using ht)]
  · rw [if_neg ht, if_pos (by simpa using ht)]
theorem errC_all {n : Int} {ls : List Lg} {ch fr to : Int} {ts : List Int} (h : errC n ls ch fr to ts = 0) : errC n ls ch fr to [] = 0 := Classical.byContradiction fun hh => hh (by rw [← errC_nil ts hh]; exact h)
variable {S : AM.Sys} (hS : Only S 10)
include hS

theorem few_runs (a : Option Addr) (n c : Nat) (H : Heap) : Runs Try.prog S (.fn 9) [.slice a n c] H (.bool (decide ((n : Int) ≤ 80))) H := by
  suffices h : WCall Try.prog S (.fn 9) [.slice a n c] H (fun v H' => v = .bool (decide ((n : Int) ≤ 80)) ∧ H' = H) by
    obtain ⟨_, _, hr, rfl, rfl⟩ := h; exact hr
  refine Zaba Try.func9 rfl (Nat.le_of_ble_eq_true rfl) (hS.no rfl _ _) ?_
  rw [Try.ntmps9, Try.results9]
  repeat' (first | (with_reducible refine Zacr (fun h => ?_) (fun h => ?_)) | (with_reducible refine Zacp (fun h => ?_) (fun h => ?_)) | (with_reducible refine sxIfB_sp (fun h => ?_) (fun h => ?_)) | simp only [↓Zabw, ↓Zaby, ↓Zabx, ↓Zacw, ↓Zacv, ↓Zadb, ↓Zaau, ↓Zaam, ↓Zaan, ↓Zaas, ↓bxPut, ↓Zabr, ↓Zabp, ↓Zacz, ↓Zada, ↓Zadc, ↓Zabf, ↓Zabd, Zacx, Zaae, Zabh, Zabl, ↓reduceIte, Nat.reduceEqDiff, Nat.reduceLT, and_self, *, argF, List.getD_cons_zero, lenG])

end Go.Proofs.Ytagnifngnpgilaa
