/- Points of which none is as good as another one: there is but one list of them. -/
import Derived.Test.YthkdnlegolphkaaR0s
set_option linter.unusedVariables false
set_option linter.unusedSimpArgs false
set_option linter.unusedSectionVars false

namespace Go.Proofs.Ythkdnlegolphkaa

abbrev Pt := Int × Int
def AscP (R : List Pt) : Prop := R.Pairwise fun p q => p.1 < q.1 ∧ p.2 < q.2
structure BestOf (P : Int → Int → Prop) (R : List Pt) : Prop where
  mem : ∀ p ∈ R, P p.1 p.2
  asc : AscP R
  dom : ∀ d a, P d a → ∃ p ∈ R, d ≤ p.1 ∧ p.2 ≤ a
theorem AscP.tri : ∀ {R : List Pt}, AscP R → ∀ {p q}, p ∈ R → q ∈ R → p = q ∨ (p.1 < q.1 ∧ p.2 < q.2) ∨ (q.1 < p.1 ∧ q.2 < p.2)
  | [], _, p, q, hp, _ => by cases hp
  | x :: R, h, p, q, hp, hq => by
    obtain ⟨h1, h2⟩ := List.pairwise_cons.1 h
    rcases List.mem_cons.1 hp with e1 | k1
    · rcases List.mem_cons.1 hq with e2 | k2
      · exact .inl (e1.trans e2.symm)
      · exact .inr (.inl (by rw [e1]; exact h1 q k2))
    · rcases List.mem_cons.1 hq with e2 | k2
      · exact .inr (.inr (by rw [e2]; exact h1 p k1))
      · exact AscP.tri h2 k1 k2
theorem AscP.ext : ∀ {R S : List Pt}, AscP R → AscP S → (∀ p, p ∈ R ↔ p ∈ S) → R = S
  | [], [], _, _, _ => rfl
  | [], q :: S, _, _, h => by cases (h q).2 (List.mem_cons_self ..)
  | p :: R, [], _, _, h => by cases (h p).1 (List.mem_cons_self ..)
  | p :: R, q :: S, hR, hS, h => by
    obtain ⟨r1, r2⟩ := List.pairwise_cons.1 hR
    obtain ⟨s1, s2⟩ := List.pairwise_cons.1 hS
    have hpq : p = q := by
      rcases List.mem_cons.1 ((h p).1 (List.mem_cons_self ..)) with e | hp
      · exact e
      rcases List.mem_cons.1 ((h q).2 (List.mem_cons_self ..)) with e | hq
      · exact e.symm
      have := (s1 p hp).1
      have := (r1 q hq).1
      omega
    subst hpq
    have : R = S := AscP.ext r2 s2 fun x => by
      constructor
      · intro hx
        rcases List.mem_cons.1 ((h x).1 (List.mem_cons_of_mem _ hx)) with e | hs
        · subst e; have := (r1 x hx).1; omega
        · exact hs
      · intro hx
        rcases List.mem_cons.1 ((h x).2 (List.mem_cons_of_mem _ hx)) with e | hs
        · subst e; have := (s1 x hx).1; omega
        · exact hs
    rw [this]
theorem BestOf.sub {P : Int → Int → Prop} {R S : List Pt} (h : BestOf P R) (k : BestOf P S) : ∀ p, p ∈ R → p ∈ S := fun p hp => by
  obtain ⟨q, hq, h1, h2⟩ := k.dom p.1 p.2 (h.mem p hp)
  obtain ⟨s, hs, h3, h4⟩ := h.dom q.1 q.2 (k.mem q hq)
  have : p = s := by
    rcases h.asc.tri hp hs with e | e | e
    · exact e
    · omega
    · omega
  subst this
  have : q = p := Prod.ext (by omega) (by omega)
  rw [← this]; exact hq
theorem BestOf.eq {P : Int → Int → Prop} {R S : List Pt} (h : BestOf P R) (k : BestOf P S) : R = S := AscP.ext h.asc k.asc fun p => ⟨h.sub k p, k.sub h p⟩
theorem BestOf.congr {P Q : Int → Int → Prop} {R : List Pt} (h : BestOf P R) (hpq : ∀ d a, P d a ↔ Q d a) : BestOf Q R := ⟨fun p hp => (hpq _ _).1 (h.mem p hp), h.asc, fun d a hq => h.dom d a ((hpq _ _).2 hq)⟩
theorem AscP.nil : AscP [] := List.Pairwise.nil

def FirstP (R : List Pt) (z : Int) (i : Nat) : Prop := i ≤ R.length ∧ (∀ j, j < i → (R.getD j default).1 < z) ∧ (i < R.length → z ≤ (R.getD i default).1)
theorem FirstP.eq {R : List Pt} {z : Int} {i j : Nat} (h : FirstP R z i) (k : FirstP R z j) : i = j := by
  rcases Nat.lt_trichotomy i j with hlt | e | hlt
  · have h1 := k.2.1 i hlt
    have h2 := h.2.2 (Nat.lt_of_lt_of_le hlt k.1)
    omega
  · exact e
  · have h1 := h.2.1 j hlt
    have h2 := k.2.2 (Nat.lt_of_lt_of_le hlt h.1)
    omega
def ProfAt (R : List Pt) (k : Nat) : Prop := (0 ≤ (R.getD k default).1 ∧ (R.getD k default).1 < (R.getD k default).2 ∧ (R.getD k default).2 ≤ 20000) ∧ (0 < k → (R.getD (k - 1) default).1 < (R.getD k default).1 ∧ (R.getD (k - 1) default).2 < (R.getD k default).2)
def ProfTo (R : List Pt) (n : Nat) : Prop := ∀ k, k < n → ProfAt R k
def ProfOk (R : List Pt) : Prop := R.length ≤ 1000 ∧ ProfTo R R.length
theorem ProfTo.succ {R : List Pt} {n : Nat} (h : ProfTo R n) (k : ProfAt R n) : ProfTo R (n + 1) := fun j hj => by
  rcases Nat.lt_or_ge j n with h2 | h2
  · exact h j h2
  · rw [show j = n by omega]; exact k
theorem ProfTo.lt {R : List Pt} {n : Nat} (h : ProfTo R n) {i j : Nat} (hij : i < j) (hj : j < n) : (R.getD i default).1 < (R.getD j default).1 ∧ (R.getD i default).2 < (R.getD j default).2 := by
  induction j with
  | zero => omega
  | succ j ih =>
    have h1 := (h (j + 1) hj).2 (Nat.succ_pos j)
    rw [Nat.add_sub_cancel] at h1
    rcases Nat.lt_or_ge i j with h2 | h2
    · have := ih h2 (by omega)
      exact ⟨by omega, by omega⟩
    · rw [show i = j by omega]; exact h1
def ThenP (A B : List Pt) (wait : Int) (d a : Int) : Prop := ∃ k, k < A.length ∧ d = (A.getD k default).1 ∧ ∃ i, FirstP B ((A.getD k default).2 + wait) i ∧ i < B.length ∧ a = (B.getD i default).2
end Go.Proofs.Ythkdnlegolphkaa
