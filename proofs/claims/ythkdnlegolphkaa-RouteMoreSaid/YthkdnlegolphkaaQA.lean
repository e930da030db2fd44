/- More legs, and a shorter time to change: the mathematics. -/
import Derived.Test.YthkdnlegolphkaaL7
import Derived.Test.YthkdnlegolphkaaOE
set_option linter.unusedVariables false
set_option linter.unusedSimpArgs false
set_option linter.unusedSectionVars false

namespace Go.Proofs.Ythkdnlegolphkaa
open Go Go.AM

variable {ls : List Lg} {ch fr to at' : Int}
structure Sub (ls ls' : List Lg) (ch ch' : Int) : Prop where
  len : ls.length ≤ ls'.length
  at' : ∀ i, i < ls.length → ls'.getD i default = ls.getD i default
  le : ch' ≤ ch
theorem joinB_le {c c' : Int} (h : c' ≤ c) {x y : Lg} (k : joinB c x y = true) : joinB c' x y = true := by
  unfold joinB at k ⊢
  have k := of_decide_eq_true k
  refine decide_eq_true ⟨k.1, ?_⟩
  have k2 := k.2
  by_cases hl : x.l = y.l
  · rw [if_pos hl] at k2 ⊢; exact k2
  · rw [if_neg hl] at k2 ⊢; omega
theorem Sub.chain {ls ls' : List Lg} {ch ch' : Int} (hs : Sub ls ls' ch ch') : ∀ {r : List Nat} {i : Nat}, Ch ls ch i r → Ch ls' ch' i r
  | [], i, h => Nat.lt_of_lt_of_le h hs.len
  | j :: r, i, h => by
    refine ⟨Nat.lt_of_lt_of_le h.1 hs.len, ?_, hs.chain (r := r) h.2.2⟩
    have h2 := h.2.1
    unfold jn at h2 ⊢
    rw [hs.at' i h.1, hs.at' j h.2.2.lt]
    exact joinB_le hs.le h2
theorem earl_sub {ls ls' : List Lg} {ch ch' : Int} (hs : Sub ls ls' ch ch') {a b e : Int} {js ks : List Nat} (h1 : EarlJ ls ch fr to at' a 0 js) (h2 : EarlJ ls' ch' fr to at' b e ks) : e = 0 ∧ b ≤ a := by
  rcases h1 with ⟨h, _⟩ | ⟨_, i, r, _, hsh, ha, _⟩
  · exact absurd h (by decide)
  have hc := hs.chain hsh.is
  have e1 := hs.at' i hsh.is.lt
  have e2 := hs.at' _ hsh.is.last_lt
  have hB : BegB fr at' (ls'.getD i default) := by rw [e1]; exact hsh.beg
  have hE : (ls'.getD (lastN i r) default).t = to := by rw [e2]; exact hsh.fin.1
  rcases h2 with ⟨_, _, _, hno⟩ | ⟨h, _, _, _, _, _, hm⟩
  · exact absurd hE (hno i r hc hB)
  · have := hm i r hc hB hE
    rw [e2] at this
    exact ⟨h, by omega⟩
theorem sub_more (ls : List Lg) (m : Lg) (ch : Int) : Sub ls (ls ++ [m]) ch ch := ⟨by simp, fun i hi => by
  rw [List.getD_eq_getElem?_getD, List.getD_eq_getElem?_getD, List.getElem?_append_left hi], Int.le_refl _⟩
theorem sub_change (ls : List Lg) (ch : Int) : Sub ls ls (ch + 1) ch := ⟨Nat.le_refl _, fun i hi => rfl, by omega⟩
theorem errC_more {n : Int} {m : Lg} {ts : List Int} (h : errC n ls ch fr to ts = 0) (hl : ls.length < 60) : errC n (ls ++ [m]) ch fr to ts = 0 ∨ errC n (ls ++ [m]) ch fr to ts = 2 := by
  unfold errC at h ⊢
  by_cases h1 : ¬ (1 ≤ n ∧ n ≤ 8)
  · rw [if_pos h1]; exact .inr rfl
  rw [if_neg h1] at h ⊢
  rw [if_neg (show ¬ 60 < (ls ++ [m]).length by simp; omega)]
  split
  · exact .inr rfl
  split
  · exact .inr rfl
  split
  · exact .inr rfl
  · exact .inl rfl
theorem errC_change {n c : Int} {ts : List Int} (h : errC n ls c fr to ts = 0) : errC n ls ch fr to ts = 2 ∨ (errC n ls ch fr to ts = 0 ∧ 0 ≤ ch ∧ ch ≤ 100) := by
  unfold errC at h ⊢
  by_cases h1 : ¬ (1 ≤ n ∧ n ≤ 8)
  · rw [if_pos h1]; exact .inl rfl
  rw [if_neg h1] at h ⊢
  by_cases h2 : 60 < ls.length
  · rw [if_pos h2] at h; exact absurd h (by decide)
  rw [if_neg h2]
  split
  · exact .inl rfl
  split
  · exact .inl rfl
  split
  · exact .inl rfl
  · rename_i k _; exact .inr ⟨rfl, by omega⟩
theorem more_ok {n a b e f : Int} {m : Lg} {js ks : List Nat} (hl : ls.length < 60)
    (p1 : errC n ls ch fr to [at'] ≠ 0 → a = 0 ∧ e = errC n ls ch fr to [at'] ∧ js = []) (p2 : errC n ls ch fr to [at'] = 0 → fr = to → a = at' ∧ e = 0 ∧ js = []) (p3 : errC n ls ch fr to [at'] = 0 → fr ≠ to → EarlJ ls ch fr to at' a e js)
    (q1 : errC n (ls ++ [m]) ch fr to [at'] ≠ 0 → b = 0 ∧ f = errC n (ls ++ [m]) ch fr to [at'] ∧ ks = []) (q2 : errC n (ls ++ [m]) ch fr to [at'] = 0 → fr = to → b = at' ∧ f = 0 ∧ ks = []) (q3 : errC n (ls ++ [m]) ch fr to [at'] = 0 → fr ≠ to → EarlJ (ls ++ [m]) ch fr to at' b f ks) :
    ¬ e = 0 ∨ (e = 0 ∧ f = 2) ∨ (e = 0 ∧ f = 0 ∧ ¬ a < b) := by
  by_cases he : e = 0
  case neg => exact .inl he
  have h0 : errC n ls ch fr to [at'] = 0 := Classical.byContradiction fun h => by have := p1 h; omega
  rcases errC_more (m := m) h0 hl with h1 | h1
  · by_cases hft : fr = to
    · have h2 := p2 h0 hft
      have h3 := q2 h1 hft
      exact .inr (.inr ⟨he, h3.2.1, by omega⟩)
    · have h2 := p3 h0 hft
      rw [he] at h2
      have h3 := earl_sub (sub_more ls m ch) h2 (q3 h1 hft)
      exact .inr (.inr ⟨he, h3.1, by omega⟩)
  · have h2 := q1 (by omega)
    exact .inr (.inl ⟨he, by omega⟩)
theorem slow_ok {n a c e g c1 : Int} {js ks : List Nat} (hch : -9223372036854775808 ≤ ch ∧ ch ≤ 9223372036854775807) (hw : c1 = IntKind.i64.wrap (ch + 1))
    (p1 : errC n ls ch fr to [at'] ≠ 0 → a = 0 ∧ e = errC n ls ch fr to [at'] ∧ js = []) (p2 : errC n ls ch fr to [at'] = 0 → fr = to → a = at' ∧ e = 0 ∧ js = []) (p3 : errC n ls ch fr to [at'] = 0 → fr ≠ to → EarlJ ls ch fr to at' a e js)
    (q1 : errC n ls c1 fr to [at'] ≠ 0 → c = 0 ∧ g = errC n ls c1 fr to [at'] ∧ ks = []) (q2 : errC n ls c1 fr to [at'] = 0 → fr = to → c = at' ∧ g = 0 ∧ ks = []) (q3 : errC n ls c1 fr to [at'] = 0 → fr ≠ to → EarlJ ls c1 fr to at' c g ks) :
    ¬ g = 0 ∨ (g = 0 ∧ e = 2) ∨ (g = 0 ∧ e = 0 ∧ ¬ c < a) := by
  by_cases hg : g = 0
  case neg => exact .inl hg
  have h0 : errC n ls c1 fr to [at'] = 0 := Classical.byContradiction fun h => by have := q1 h; omega
  rcases errC_change (ch := ch) h0 with h1 | ⟨h1, h2⟩
  · have h2 := p1 (by omega)
    exact .inr (.inl ⟨hg, by omega⟩)
  have hc1 : c1 = ch + 1 := by rw [hw, IntWalk.i64_in _ (by omega)]
  subst hc1
  by_cases hft : fr = to
  · have h2 := p2 h1 hft
    have h3 := q2 h0 hft
    exact .inr (.inr ⟨hg, h2.2.1, by omega⟩)
  · have h2 := q3 h0 hft
    rw [hg] at h2
    have h3 := earl_sub (sub_change ls ch) h2 (p3 h1 hft)
    exact .inr (.inr ⟨hg, h3.1, by omega⟩)
end Go.Proofs.Ythkdnlegolphkaa
