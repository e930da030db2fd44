/- By way of a third place: the mathematics. -/
import Derived.Test.YthkdnlegolphkaaL7
import Derived.Test.YthkdnlegolphkaaOE
set_option linter.unusedVariables false
set_option linter.unusedSimpArgs false
set_option linter.unusedSectionVars false

namespace Go.Proofs.Ythkdnlegolphkaa
open Go Go.AM

theorem BestOf.eqw {P Q : Int → Int → Prop} {R S : List Pt} (h : BestOf P R) (k : BestOf Q S) (h1 : ∀ d a, P d a → ∃ d' a', Q d' a' ∧ d ≤ d' ∧ a' ≤ a) (h2 : ∀ d a, Q d a → ∃ d' a', P d' a' ∧ d ≤ d' ∧ a' ≤ a) : R = S := by
  have go : ∀ {P Q : Int → Int → Prop} {R S : List Pt}, BestOf P R → BestOf Q S → (∀ d a, P d a → ∃ d' a', Q d' a' ∧ d ≤ d' ∧ a' ≤ a) → (∀ d a, Q d a → ∃ d' a', P d' a' ∧ d ≤ d' ∧ a' ≤ a) → ∀ p, p ∈ R → p ∈ S := by
    intro P Q R S h k h1 h2 p hp
    obtain ⟨d1, a1, q1, q2, q3⟩ := h1 _ _ (h.mem p hp)
    obtain ⟨s, hs, s1, s2⟩ := k.dom _ _ q1
    obtain ⟨d2, a2, r1, r2, r3⟩ := h2 _ _ (k.mem s hs)
    obtain ⟨t, ht, t1, t2⟩ := h.dom _ _ r1
    have hpt : p = t := by
      rcases h.asc.tri hp ht with e | e | e
      · exact e
      · omega
      · omega
    have hsp : s = p := Prod.ext (by rw [← hpt] at t1 t2; omega) (by rw [← hpt] at t1 t2; omega)
    rw [← hsp]; exact hs
  exact AscP.ext h.asc k.asc fun p => ⟨go h k h1 h2 p, go k h h2 h1 p⟩
theorem ThenP.pt {A B : List Pt} {w d a : Int} (h : ThenP A B w d a) : ∃ p ∈ A, ∃ q ∈ B, d = p.1 ∧ a = q.2 ∧ p.2 + w ≤ q.1 := by
  obtain ⟨k, hk, rfl, i, hf, hi, rfl⟩ := h
  exact ⟨_, at_mem hk, _, at_mem hi, rfl, rfl, hf.2.2 hi⟩
theorem firstP_ex (B : List Pt) (z : Int) : ∃ i, FirstP B z i := by
  induction B with
  | nil => exact ⟨0, Nat.le_refl _, fun j hj => absurd hj (Nat.not_lt_zero j), fun h => absurd h (Nat.not_lt_zero 0)⟩
  | cons x B ih =>
    by_cases hx : z ≤ x.1
    · exact ⟨0, Nat.zero_le _, fun j hj => absurd hj (Nat.not_lt_zero j), fun _ => hx⟩
    · obtain ⟨i, h1, h2, h3⟩ := ih
      refine ⟨i + 1, by simp; omega, fun j hj => ?_, fun h => h3 (by simp at h; omega)⟩
      cases j with
      | zero => show x.1 < z; omega
      | succ j => exact h2 j (by omega)
theorem ThenP.of {A B : List Pt} {w : Int} (hb : AscP B) {p q : Pt} (hp : p ∈ A) (hq : q ∈ B) (h : p.2 + w ≤ q.1) : ∃ a, ThenP A B w p.1 a ∧ a ≤ q.2 := by
  obtain ⟨k, hk, rfl⟩ := mem_at hp
  obtain ⟨j, hj, rfl⟩ := mem_at hq
  obtain ⟨i, hf⟩ := firstP_ex B ((A.getD k default).2 + w)
  have hij : i ≤ j := by
    rcases Nat.lt_or_ge j i with h1 | h1
    · have := hf.2.1 j h1; omega
    · exact h1
  refine ⟨_, ⟨k, hk, rfl, i, hf, by omega, rfl⟩, ?_⟩
  rcases Nat.lt_or_ge i j with h1 | h1
  · have := (hb.at h1 hj).2; omega
  · rw [show i = j by omega]; omega
theorem then_assoc {A B C T U V W : List Pt} {w : Int} (hB : AscP B) (hC : AscP C) (hT : BestOf (ThenP A B w) T) (hU : BestOf (ThenP B C w) U) (hV : BestOf (ThenP T C w) V) (hW : BestOf (ThenP A U w) W) : V = W := by
  refine hV.eqw hW (fun d a h => ?_) (fun d a h => ?_)
  · obtain ⟨t, ht, c, hc, rfl, rfl, h1⟩ := h.pt
    obtain ⟨p, hp, q, hq, e1, e2, h2⟩ := (hT.mem t ht).pt
    obtain ⟨a', k1, k2⟩ := ThenP.of (w := w) hC hq hc (by omega)
    obtain ⟨u, hu, u1, u2⟩ := hU.dom _ _ k1
    obtain ⟨a'', m1, m2⟩ := ThenP.of (w := w) hU.asc hp hu (by omega)
    exact ⟨_, _, m1, by omega, by omega⟩
  · obtain ⟨p, hp, u, hu, rfl, rfl, h1⟩ := h.pt
    obtain ⟨q, hq, c, hc, e1, e2, h2⟩ := (hU.mem u hu).pt
    obtain ⟨a', k1, k2⟩ := ThenP.of (w := w) hB hp hq (by omega)
    obtain ⟨t, ht, t1, t2⟩ := hT.dom _ _ k1
    obtain ⟨a'', m1, m2⟩ := ThenP.of (w := w) hC ht hc (by omega)
    exact ⟨_, _, m1, by omega, by omega⟩
variable {ls : List Lg} {ch : Int}
theorem Ch.join : ∀ {r : List Nat} {i j : Nat} {s : List Nat}, Ch ls ch i r → Ch ls ch j s → jn ls ch (lastN i r) j → Ch ls ch i (r ++ j :: s) ∧ lastN i (r ++ j :: s) = lastN j s
  | [], i, j, s, h1, h2, h3 => ⟨⟨h1, h3, h2⟩, rfl⟩
  | k :: r, i, j, s, h1, h2, h3 => by
    obtain ⟨k1, k2⟩ := Ch.join (r := r) h1.2.2 h2 h3
    exact ⟨⟨h1.1, h1.2.1, k1⟩, k2⟩
theorem JP.join (hc : 0 ≤ ch) {a b c d1 m d2 x : Int} (h1 : JP ls ch a b d1 m) (h2 : JP ls ch b c d2 x) (h : m + ch ≤ d2) : JP ls ch a c d1 x := by
  obtain ⟨i, r, e1, e2, e3, e4, e5⟩ := h1
  obtain ⟨j, s, f1, f2, f3, f4, f5⟩ := h2
  have hj : jn ls ch (lastN i r) j := by
    unfold jn joinB
    refine decide_eq_true ⟨by rw [f2, e4], ?_⟩
    split <;> omega
  obtain ⟨k1, k2⟩ := Ch.join e1 f1 hj
  exact ⟨i, _, k1, e2, e3, by rw [k2]; exact f4, by rw [k2]; exact f5⟩
theorem thr_earl (hk : LOk ls ch) {a b c at' x y g : Int} {A B T : List Pt} {js : List Nat} (hA : BestOf (JP ls ch a b) A) (hB : BestOf (JP ls ch b c) B) (hT : BestOf (ThenP A B ch) T) (hl : LookQ T at' x 0) (he : EarlJ ls ch a c at' y g js) : g = 0 ∧ y ≤ x := by
  have hg : ProfOk T ∧ 0 ≤ at' ∧ at' ≤ 20000 := Classical.byContradiction fun h => by have := (hl.1 h).2; omega
  obtain ⟨i, h1, h2, h3⟩ := hl.2 hg
  have hi : i < T.length := Classical.byContradiction fun h => by have := (h3 h).2; omega
  obtain ⟨p, hp, q, hq, e1, e2, h4⟩ := (hT.mem _ (at_mem hi)).pt
  obtain ⟨j, s, k1, k2, k3, k4, k5⟩ := JP.join hk.ch.1 (hA.mem p hp) (hB.mem q hq) h4
  have hx := (h2 hi).1
  have hz := h1.2.2 hi
  have hBg : BegB a at' (ls.getD j default) := ⟨k2, by omega⟩
  rcases he with ⟨_, _, _, hno⟩ | ⟨h, _, _, _, _, _, hm⟩
  · exact absurd k4 (hno j s k1 hBg)
  · have := hm j s k1 hBg k4
    exact ⟨h, by omega⟩
theorem then_ok (hk : LOk ls ch) {a b c : Int} {A B T : List Pt} (hA : BestOf (JP ls ch a b) A) (hB : BestOf (JP ls ch b c) B) (hT : BestOf (ThenP A B ch) T) (hl : T.length ≤ 60) : ProfOk T := ⟨by omega, fun k hk' => by
  obtain ⟨p, hp, q, hq, e1, e2, h4⟩ := (hT.mem _ (at_mem hk')).pt
  have h1 := (hA.mem p hp).rng hk
  have h2 := (hB.mem q hq).rng hk
  have h3 := hk.ch
  exact ⟨⟨by omega, by omega, by omega⟩, fun h0 => hT.asc.at (by omega) hk'⟩⟩
theorem errC_three {n a b c : Int} (h1 : errC n ls ch a b [] = 0) (h2 : errC n ls ch b c [] = 0) : errC n ls ch c a [] = 0 ∧ errC n ls ch a c [] = 0 := by
  unfold errC at h1 h2 ⊢
  by_cases k1 : ¬ (1 ≤ n ∧ n ≤ 8)
  · rw [if_pos k1] at h1; exact absurd h1 (by decide)
  rw [if_neg k1] at h1 h2 ⊢
  rw [if_neg k1]
  by_cases k2 : 60 < ls.length
  · rw [if_pos k2] at h1; exact absurd h1 (by decide)
  rw [if_neg k2] at h1 h2 ⊢
  rw [if_neg k2]
  by_cases k3 : ¬ ∀ x ∈ ls, LegOk n x
  · rw [if_pos k3] at h1; exact absurd h1 (by decide)
  rw [if_neg k3] at h1 h2 ⊢
  rw [if_neg k3]
  by_cases k4 : ¬ (0 ≤ ch ∧ ch ≤ 100) ∨ ¬ (0 ≤ a ∧ a ≤ n - 1) ∨ ¬ (0 ≤ b ∧ b ≤ n - 1)
  · rw [if_pos k4] at h1; exact absurd h1 (by decide)
  by_cases k5 : ¬ (0 ≤ ch ∧ ch ≤ 100) ∨ ¬ (0 ≤ b ∧ b ≤ n - 1) ∨ ¬ (0 ≤ c ∧ c ≤ n - 1)
  · rw [if_pos k5] at h2; exact absurd h2 (by decide)
  refine ⟨?_, ?_⟩ <;> rw [if_neg (by omega), if_neg (by simp)]
end Go.Proofs.Ythkdnlegolphkaa
