/- The law RouteJourneys on the canonical machine. -/
import Derived.Test.YtagnifngnpgilaaON
import Derived.Test.YtagnifngnpgilaaOO
set_option linter.unusedVariables false
set_option linter.unusedSimpArgs false
set_option linter.unusedSectionVars false

namespace Go.Proofs.Ytagnifngnpgilaa
open Go Go.AM
set_option maxRecDepth 10000

variable {ls : List Lg} {ch fr to : Int}
theorem EarlJ.len (hk : LOk ls ch) {i : Nat} {r : List Nat} (h : Ch ls ch i r) : r.length < 10000 := h.len hk
theorem late_earl (hk : LOk ls ch) {at' a b e : Int} {js ks : List Nat} (h1 : EarlJ ls ch fr to at' a 0 js) (h2 : LateJ ls ch fr to a b e ks) : e = 0 ∧ at' ≤ b ∧ ∃ i r, ks = i :: r ∧ Ch ls ch i r ∧ BegB fr b (ls.getD i default) ∧ (ls.getD (lastN i r) default).t = to ∧ (ls.getD i default).d = b ∧ (ls.getD (lastN i r) default).a ≤ a := by
  rcases h1 with ⟨h, _⟩ | ⟨_, i, r, _, hs, ha, hm⟩
  · exact absurd h (by decide)
  rcases h2 with ⟨_, _, _, hno⟩ | ⟨he, i2, r2, hks, hs2, hd2, hm2⟩
  · exact absurd hs.fin (hno i r hs.is hs.beg.1)
  · have h3 := hm2 i r hs.is hs.beg.1 hs.fin
    have h4 := hs.beg.2
    exact ⟨he, by omega, i2, r2, hks, hs2.is, hs2.beg, hs2.fin.1, hd2, hs2.fin.2⟩
theorem earl_late {at' a b c e : Int} {js js' : List Nat} (h1 : EarlJ ls ch fr to at' a 0 js) (hb : at' ≤ b) {i : Nat} {r : List Nat} (hc : Ch ls ch i r) (hB : BegB fr b (ls.getD i default)) (ht : (ls.getD (lastN i r) default).t = to) (ha : (ls.getD (lastN i r) default).a ≤ a) (h2 : EarlJ ls ch fr to b c e js') : e = 0 ∧ c = a := by
  rcases h1 with ⟨h, _⟩ | ⟨_, i1, r1, _, hs, ha1, hm⟩
  · exact absurd h (by decide)
  rcases h2 with ⟨_, _, _, hno⟩ | ⟨he, i2, r2, _, hs2, ha2, hm2⟩
  · exact absurd ht (hno i r hc hB)
  · have h3 := hm2 i r hc hB ht
    have h4 := hm i2 r2 hs2.is ⟨hs2.beg.1, by have := hs2.beg.2; omega⟩ hs2.fin.1
    exact ⟨he, by omega⟩

variable {S : AM.Sys} (hS : Only S 10)
include hS

set_option maxHeartbeats 16000000 in
theorem lawJour_runs (n : Int) (ls : List Lg) (lv : Value) (r o : Nat) (ch fr to at' : Int) (js0 : List Int) (v0 : Value) (r0 o0 : Nat) (H : Heap) (hL : H.low ≤ H.size) (hg : Grp H) (hl : SlG H lv ls r o) (hj0 : SlI .i64 H v0 js0 r0 o0) (hat : R64 at')
    (hO : ∀ H', S.O 10 [] H') : ∃ H', Runs Try.prog S (.fn 3) [.int .i64 n, lv, .int .i64 ch, .int .i64 fr, .int .i64 to, .int .i64 at', v0] H (.bool true) H' := by
  suffices h : WCall Try.prog S (.fn 3) [.int .i64 n, lv, .int .i64 ch, .int .i64 fr, .int .i64 to, .int .i64 at', v0] H (fun v H' => v = .bool true) by
    obtain ⟨_, H', hr, rfl⟩ := h; exact ⟨H', hr⟩
  have hk1 : ∀ (H' : Heap) (K : Value → Heap → Prop) (b : Blk K), sxCallB Try.prog S (.fn 10) [] H' K b = K (.bool true) H' := fun H' K b => known_bx (hO H')
  have hlv := hl.v0
  obtain ⟨a, c, rfl⟩ := hlv
  have hlv := hj0.v0
  obtain ⟨a0, c0', rfl⟩ := hlv
  have f0 := (few_runs hS a ls.length c H).bx
  by_cases h80 : (ls.length : Int) ≤ 80
  case neg =>
    rw [decide_eq_false h80] at f0
    clear hl h80 hj0
    refine Zaba Try.func3 rfl (Nat.le_of_ble_eq_true rfl) (hS.no rfl _ _) ?_
    rw [Try.ntmps3, Try.results3]
    repeat' (first | (with_reducible refine Zacr (fun h => ?_) (fun h => ?_)) | (with_reducible refine Zacp (fun h => ?_) (fun h => ?_)) | (with_reducible refine sxIfB_sp (fun h => ?_) (fun h => ?_)) | simp only [↓Zabz, ↓Zabw, ↓Zaby, ↓Zaai, ↓Zabx, ↓Zacw, ↓Zacv, ↓Zadb, ↓Zaaz, ↓Zaau, ↓Zaam, ↓Zaav, ↓Zaat, ↓Zaan, ↓Zaax, ↓Zaaq, ↓Zaar, ↓Zaap, ↓Zaay, ↓Zaas, ↓bxPut, ↓Zabr, ↓Zabs, ↓Zabp, ↓Zacz, ↓Zada, ↓Zadc, ↓Zabf, ↓Zabd, ↓Zabe, ↓dstAt, ↓Zabg, Zacx, una_nf, Zaad, Zaca, sxGuardB_ft, Zacu, Zabl, List.map_cons, List.map_nil, List.nil_append, List.append_nil, ↓reduceIte, Nat.reduceEqDiff, Nat.reduceLT, *, argF, List.getD_cons_zero, List.getD_cons_succ])
  rw [decide_eq_true h80] at f0
  by_cases h100 : 100 < (js0.length : Int)
  · clear hl h80 hj0
    refine Zaba Try.func3 rfl (Nat.le_of_ble_eq_true rfl) (hS.no rfl _ _) ?_
    rw [Try.ntmps3, Try.results3]
    repeat' (first | (with_reducible refine Zacr (fun h => ?_) (fun h => ?_)) | (with_reducible refine Zacp (fun h => ?_) (fun h => ?_)) | (with_reducible refine sxIfB_sp (fun h => ?_) (fun h => ?_)) | simp only [↓Zabz, ↓Zabw, ↓Zaby, ↓Zaai, ↓Zabx, ↓Zacw, ↓Zacv, ↓Zadb, ↓Zaaz, ↓Zaau, ↓Zaam, ↓Zaav, ↓Zaat, ↓Zaan, ↓Zaax, ↓Zaaq, ↓Zaar, ↓Zaap, ↓Zaay, ↓Zaas, ↓bxPut, ↓Zabr, ↓Zabs, ↓Zabp, ↓Zacz, ↓Zada, ↓Zadc, ↓Zabf, ↓Zabd, ↓Zabe, ↓dstAt, ↓Zabg, Zacx, Zaae, Zabh, una_nt, Zaac, Zaca, Zaco, Zacu, Zabl, List.map_cons, List.map_nil, List.nil_append, List.append_nil, ↓reduceIte, Nat.reduceEqDiff, Nat.reduceLT, dec_T, *, argF, List.getD_cons_zero, List.getD_cons_succ, lenIs])
  obtain ⟨u1, H1, hR1, x1, e1, jv1, js1, rfl, hK1, hn1, hl1, p1, p2, p3⟩ := Earl_runs hS n ls _ r o ch fr to at' hat H hL hg hl
  obtain ⟨u2, H2, hR2, bI, rfl, hK2, i1, i2⟩ := Is_runs hS n ls _ r o ch fr to at' js0 _ r0 o0 H1 (hK1.low hL) (hK1.grp hg) (hl.keep hK1) (hj0.keep hK1) hat (by omega)
  have hK02 := hK1.trans hK2
  have g1 := hR1.bx
  have g2 := hR2.bx
  obtain ⟨e0, he0⟩ : ∃ e, e = errC n ls ch fr to [at'] := ⟨_, rfl⟩
  rw [← he0] at g2 p1 p2 p3 i1 i2
  have ex0 : ∀ x y : Value, aExtract (.tuple ⟨[x, y]⟩) 0 = some x := fun x y => by kernel_rfl
  have ex1 : ∀ x y : Value, aExtract (.tuple ⟨[x, y]⟩) 1 = some y := fun x y => by kernel_rfl
  have ey0 : ∀ x y z : Value, aExtract (.tuple ⟨[x, y, z]⟩) 0 = some x := fun x y z => by kernel_rfl
  have ey1 : ∀ x y z : Value, aExtract (.tuple ⟨[x, y, z]⟩) 1 = some y := fun x y z => by kernel_rfl
  have ey2 : ∀ x y z : Value, aExtract (.tuple ⟨[x, y, z]⟩) 2 = some z := fun x y z => by kernel_rfl
  have c0 : ((0 : Nat) : Int) = 0 := rfl
  have l0_0 : decide ((0 : Int) = 0) = true := rfl
  have m0_0 : decide (¬ (0 : Int) = 0) = false := rfl
  have l0_10 : decide ((0 : Int) = 10) = false := rfl
  have m0_10 : decide (¬ (0 : Int) = 10) = true := rfl
  have l10_0 : decide ((10 : Int) = 0) = false := rfl
  have m10_0 : decide (¬ (10 : Int) = 0) = true := rfl
  have l10_10 : decide ((10 : Int) = 10) = true := rfl
  have m10_10 : decide (¬ (10 : Int) = 10) = false := rfl
  by_cases hz : e0 = 0
  case neg =>
    obtain ⟨_, h2, h3⟩ := p1 hz
    have h4 := hn1 h3
    subst h2 h4
    have d1 : decide (¬ e1 = 0) = true := decide_eq_true hz
    have d2 : decide (e1 = e1) = true := decide_eq_true rfl
    clear hz hn1 hl1 p1 p2 p3 i1 i2 hR1 hR2 hK1 hK2 hK02 hl hj0 he0 h80 h3
    refine Zaba Try.func3 rfl (Nat.le_of_ble_eq_true rfl) (hS.no rfl _ _) ?_
    rw [Try.ntmps3, Try.results3]
    repeat' (first | (with_reducible refine Zacr (fun h => ?_) (fun h => ?_)) | (with_reducible refine Zacp (fun h => ?_) (fun h => ?_)) | (with_reducible refine sxIfB_sp (fun h => ?_) (fun h => ?_)) | simp only [↓Zabz, ↓Zabw, ↓Zaby, ↓Zaai, ↓Zabx, ↓Zacw, ↓Zacv, ↓Zadb, ↓Zaaz, ↓Zaau, ↓Zaam, ↓Zaav, ↓Zaat, ↓Zaan, ↓Zaax, ↓Zaaq, ↓Zaar, ↓Zaap, ↓Zaay, ↓Zaas, ↓bxPut, ↓Zabr, ↓Zabs, ↓Zabp, ↓Zacz, ↓Zada, ↓Zadc, ↓Zabf, ↓Zabd, ↓Zabe, ↓dstAt, ↓Zabg, Zacx, Zaae, Zabh, una_nt, Zaad, Zaac, Zaca, Zacs, Zaco, Zacu, Zact, Zabl, List.map_cons, List.map_nil, List.nil_append, List.append_nil, ↓reduceIte, Nat.reduceEqDiff, Nat.reduceLT, dec_T, dec_F, *, argF, List.getD_cons_zero, List.getD_cons_succ, lenIs])
  subst hz
  have hz0 := errC_zero he0.symm
  obtain ⟨q1, q2, q3, q4⟩ := hz0
  have hlk := LOk.of q2 q3
  have hatr := q4 at' (List.mem_singleton.2 rfl)
  have he00 := errC_all he0.symm
  have hI := i2 rfl
  have herr : ∀ t : Int, 0 ≤ t ∧ t ≤ 10000 → errC n ls ch fr to [t] = 0 := fun t ht => by rw [errC_one t he00, if_pos ht]
  by_cases hE0 : e1 = 0
  case neg =>
    have hft : fr ≠ to := fun h => hE0 (p2 rfl h).2.1
    rcases p3 rfl hft with ⟨rfl, _, _, hno⟩ | ⟨h, _⟩
    case inr => exact absurd h hE0
    have hbI : bI = false := by
      cases bI with
      | false => rfl
      | true =>
        by_cases hjn : js0 = []
        · have h1 := hI.1 (by rw [hjn]; rfl)
          have := of_decide_eq_true h1.symm
          exact absurd this.1 hft
        · obtain ⟨i, r, _, h2, h3, h4⟩ := isJ_imp hI hjn
          exact absurd h4 (hno i r h2 h3)
    subst hbI
    clear hn1 hl1 p1 p2 p3 i1 i2 hI hR1 hR2 hK1 hK2 hK02 hl hj0 he0 h80 hno herr hE0 hft q1 q2 q3 q4 hlk
    refine Zaba Try.func3 rfl (Nat.le_of_ble_eq_true rfl) (hS.no rfl _ _) ?_
    rw [Try.ntmps3, Try.results3]
    repeat' (first | (with_reducible refine Zacr (fun h => ?_) (fun h => ?_)) | (with_reducible refine Zacp (fun h => ?_) (fun h => ?_)) | (with_reducible refine sxIfB_sp (fun h => ?_) (fun h => ?_)) | simp only [↓Zabz, ↓Zabw, ↓Zaby, ↓Zaai, ↓Zabx, ↓Zacw, ↓Zacv, ↓Zadb, ↓Zaaz, ↓Zaau, ↓Zaam, ↓Zaav, ↓Zaat, ↓Zaan, ↓Zaax, ↓Zaaq, ↓Zaar, ↓Zaap, ↓Zaay, ↓Zaas, ↓bxPut, ↓Zabr, ↓Zabs, ↓Zabp, ↓Zacz, ↓Zada, ↓Zadc, ↓Zabf, ↓Zabd, ↓Zabe, ↓dstAt, ↓Zabg, Zacx, Zaae, Zabh, una_nt, una_nf, Zaad, Zaac, Zaca, Zacs, Zaco, Zacu, Zact, Zabl, List.map_cons, List.map_nil, List.nil_append, List.append_nil, ↓reduceIte, Nat.reduceEqDiff, Nat.reduceLT, dec_T, dec_F, not_true_eq_false, *, argF, List.getD_cons_zero, List.getD_cons_succ, lenIs])
  subst hE0
  have hxr : 0 ≤ x1 ∧ x1 ≤ 10000 := by
    by_cases hft : fr = to
    · have := (p2 rfl hft).1; omega
    · rcases p3 rfl hft with ⟨h, _⟩ | ⟨_, i, r, _, hs, ha, _⟩
      · exact absurd h (by decide)
      · have := hlk.leg _ hs.is.last_lt; omega
  have hsl : ∀ {H' : Heap} {v : Value} {js : List Nat}, (js = [] → v = .slice none 0 0) → (js ≠ [] → JL H'.size H' v js ∨ True) → True := fun _ _ => trivial
  have hlist : ∀ {L : Nat} {H' : Heap} {v : Value} {js : List Nat}, (js = [] → v = .slice none 0 0) → (js ≠ [] → JL L H' v js) → (∀ i r, js = i :: r → Ch ls ch i r) → ∃ r, SlI .i64 H' v (castL js) r 0 := fun {L H' v js} k1 k2 k3 => by
    cases js with
    | nil => rw [k1 rfl]; exact ⟨0, nilI H'⟩
    | cons i r =>
      have hc := k3 i r rfl
      have h1 := hc.len hlk
      exact (k2 (by simp)).sl (by simp; omega) fun j hj => by have := hc.mem_lt j hj; omega
  have hch1 : ∀ i r, js1 = i :: r → Ch ls ch i r := fun i r h => by
    by_cases hft : fr = to
    · have := (p2 rfl hft).2.2; rw [h] at this; cases this
    · rcases p3 rfl hft with ⟨hh, _⟩ | ⟨_, i2, r2, hj, hs, _, _⟩
      · exact absurd hh (by decide)
      · rw [h] at hj; cases hj; exact hs.is
  have hob := hlist hn1 hl1 hch1
  obtain ⟨r1, s1⟩ := hob
  have hv1 := s1.v0
  obtain ⟨a1, c1, rfl⟩ := hv1
  have hm1 : (castL js1).length ≤ 10001 := by
    rw [castL_len]
    cases js1 with
    | nil => simp
    | cons i r => have := (hch1 i r rfl).len hlk; simp; omega
  obtain ⟨u3, H3, hR3, b3, rfl, hK3, _, i3⟩ := Is_runs hS n ls _ r o ch fr to at' (castL js1) _ r1 0 H2 (hK02.low hL) (hK02.grp hg) (hl.keep hK02) (s1.keep hK2) hat (by omega)
  have hI3 := i3 he0.symm
  rw [← he0] at hR3
  have hK03 := hK02.trans hK3
  obtain ⟨u4, H4, hR4, x4, e4, jv4, js4, rfl, hK4, hn4, hl4, _, t2, t3⟩ := Late_runs hS n ls _ r o ch fr to x1 ⟨by omega, by omega⟩ H3 (hK03.low hL) (hK03.grp hg) (hl.keep hK03)
  rw [herr x1 hxr] at t2 t3
  have hK04 := hK03.trans hK4
  have hch4 : ∀ i r, js4 = i :: r → Ch ls ch i r := fun i r h => by
    by_cases hft : fr = to
    · have := (t2 rfl hft).2.2; rw [h] at this; cases this
    · rcases t3 rfl hft with ⟨_, _, hh, _⟩ | ⟨_, i2, r2, hj, hs, _, _⟩
      · rw [h] at hh; cases hh
      · rw [h] at hj; cases hj; exact hs.is
  have hob := hlist hn4 hl4 hch4
  obtain ⟨r4, s4⟩ := hob
  have hv4 := s4.v0
  obtain ⟨a4, c4, rfl⟩ := hv4
  have hm4 : (castL js4).length ≤ 10001 := by
    rw [castL_len]
    cases js4 with
    | nil => simp
    | cons i r => have := (hch4 i r rfl).len hlk; simp; omega
  have hx4r : e4 = 0 ∧ at' ≤ x4 ∧ 0 ≤ x4 ∧ x4 ≤ 10000 := by
    by_cases hft : fr = to
    · have h1 := (p2 rfl hft).1
      have h2 := t2 rfl hft
      omega
    · have h1 := late_earl hlk (p3 rfl hft) (t3 rfl hft)
      obtain ⟨h2, h3, i, r, _, h4, _, _, h5, _⟩ := h1
      have := hlk.leg _ h4.lt
      omega
  obtain ⟨he4, hx4a, hx40, hx41⟩ := hx4r
  subst he4
  obtain ⟨u5, H5, hR5, b5, rfl, hK5, _, i5⟩ := Is_runs hS n ls _ r o ch fr to x4 (castL js4) _ r4 0 H4 (hK04.low hL) (hK04.grp hg) (hl.keep hK04) s4 ⟨by omega, by omega⟩ (by omega)
  have hI5 := i5 (herr x4 ⟨hx40, hx41⟩)
  rw [herr x4 ⟨hx40, hx41⟩] at hR5
  have hK05 := hK04.trans hK5
  obtain ⟨u6, H6, hR6, x6, e6, jv6, js6, rfl, hK6, hn6, hl6, _, w2, w3⟩ := Earl_runs hS n ls _ r o ch fr to x4 ⟨by omega, by omega⟩ H5 (hK05.low hL) (hK05.grp hg) (hl.keep hK05)
  rw [herr x4 ⟨hx40, hx41⟩] at w2 w3
  have hx6 : e6 = 0 ∧ x6 = x1 ∧ b3 = true ∧ b5 = true := by
    by_cases hft : fr = to
    · have h1 := p2 rfl hft
      have h2 := t2 rfl hft
      have h3 := w2 rfl hft
      rw [h1.2.2] at hI3
      rw [h2.2.2] at hI5
      refine ⟨h3.2.1, by omega, ?_, ?_⟩
      · rw [hI3.1 rfl]; exact decide_eq_true ⟨hft, hatr.2⟩
      · rw [hI5.1 rfl]; exact decide_eq_true ⟨hft, hx41⟩
    · have h1 := late_earl hlk (p3 rfl hft) (t3 rfl hft)
      obtain ⟨_, h3, i, r, hk4, h4, h5, h6, h7, h8⟩ := h1
      have h9 := earl_late (p3 rfl hft) h3 h4 h5 h6 h8 (w3 rfl hft)
      refine ⟨h9.1, h9.2, ?_, ?_⟩
      · rcases p3 rfl hft with ⟨hh, _⟩ | ⟨_, i1, r1, hj, hs, _, _⟩
        · exact absurd hh (by decide)
        · rw [hj] at hI3
          exact isJ_true hI3 hlk hs.is hs.beg hs.fin.1
      · rw [hk4] at hI5
        exact isJ_true hI5 hlk h4 h5 h6
  obtain ⟨he6, hx6, hb3, hb5⟩ := hx6
  subst he6 hx6 hb3 hb5
  have hq0 : bI = false ∨ (bI = true ∧ js0.length = 0) ∨ (bI = true ∧ 0 < js0.length ∧ ∃ q : Nat, q < ls.length ∧ js0.getD (js0.length - 1) 0 = (q : Int) ∧ ¬ (ls.getD q default).a < x6) := by
    cases bI with
    | false => exact .inl rfl
    | true =>
      by_cases hjn : js0 = []
      · exact .inr (.inl ⟨rfl, by rw [hjn]; rfl⟩)
      · obtain ⟨i, r, rfl, h2, h3, h4⟩ := isJ_imp hI hjn
        refine .inr (.inr ⟨rfl, by simp [castL], lastN i r, h2.last_lt, ?_, ?_⟩)
        · rw [castL_len, List.length_cons, Nat.add_sub_cancel, castL_last]
        · by_cases hft : fr = to
          · have h5 := (p2 rfl hft).1
            have h6 := h2.dep hlk
            have h7 := hlk.leg _ h2.last_lt
            have h8 := h3.2
            omega
          · rcases p3 rfl hft with ⟨hh, _⟩ | ⟨_, _, _, _, _, _, hm⟩
            · exact absurd hh (by decide)
            · have := hm i r h2 h3 h4; omega
  have sl3 := (s1.keep hK2).keep hK3
  have sj3 := (hj0.keep hK02).keep hK3
  have sG3 := hl.keep hK03
  have sl5 := s4.keep hK5
  have sG5 := hl.keep hK05
  have r0a : ¬ (10000 : Int) < x6 := by omega
  have r0b : ¬ x4 < at' := by omega
  rw [← he0] at hR2
  rw [castL_len] at hR1 hR3 hR4 hR5 hm1 hm4
  by_cases hft : fr = to
  · exact jour_leaf0 hS n ch fr to at' x4 x6 ls a a0 a1 a4 c c0' c1 c4 r o r0 o0 r1 r4 js0 js1 js4 bI _ H H1 H2 H3 H4 H5 H6 hO h80 h100 hR1 hR2 hR3 hR4 hR5 hR6 hm1 hm4 sl3 sj3 sG3 sl5 sG5 r0a r0b hq0 ⟨by rw [(p2 rfl hft).2.2]; rfl, by rw [(t2 rfl hft).2.2]; rfl⟩
  · have h1 := late_earl hlk (p3 rfl hft) (t3 rfl hft)
    obtain ⟨_, h3, i, r', hk4, h4, h5, h6, h7, h8⟩ := h1
    rcases p3 rfl hft with ⟨hh, _⟩ | ⟨_, i', r'', hj, hs, ha, _⟩
    · exact absurd hh (by decide)
    · refine jour_leaf1 hS n ch fr to at' x4 x6 ls a a0 a1 a4 c c0' c1 c4 r o r0 o0 r1 r4 js0 js1 js4 bI _ H H1 H2 H3 H4 H5 H6 hO h80 h100 hR1 hR2 hR3 hR4 hR5 hR6 hm1 hm4 sl3 sj3 sG3 sl5 sG5 r0a r0b hq0 ⟨by rw [hj]; simp, by rw [hk4]; simp, lastN i' r'', i, lastN i r', hs.is.last_lt, ?_, ha, h4.lt, h4.last_lt, by rw [hk4]; rfl, ?_, h7, h8⟩
      · rw [hj, List.length_cons, Nat.add_sub_cancel, castL_last]
      · rw [hk4, List.length_cons, Nat.add_sub_cancel, castL_last]
end Go.Proofs.Ytagnifngnpgilaa
