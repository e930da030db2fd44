/- Legs turned around, in place and in time: the mathematics. -/
import Derived.Test.YtagnifngnpgilaaL9
import Derived.Test.YtagnifngnpgilaaOE
set_option linter.unusedVariables false
set_option linter.unusedSimpArgs false
set_option linter.unusedSectionVars false

namespace Go.Proofs.Ytagnifngnpgilaa
set_option linter.unusedSectionVars false
open Go Go.AM
set_option linter.unusedVariables false

def turn (x : Lg) : Lg := ⟨x.t, x.f, 10000 - x.a, 10000 - x.d, x.l⟩
theorem turn_turn (x : Lg) : turn (turn x) = x := by
  obtain ⟨f, t, d, a, l⟩ := x
  simp only [turn]
  congr 1 <;> omega
/-- One list of legs is the other one turned around. -/
structure Tur (ls ls' : List Lg) : Prop where
  len : ls'.length = ls.length
  at' : ∀ i, i < ls.length → ls'.getD i default = turn (ls.getD i default)
theorem Tur.symm {ls ls' : List Lg} (h : Tur ls ls') : Tur ls' ls := ⟨h.len.symm, fun i hi => by rw [h.at' i (by have := h.len; omega), turn_turn]⟩
theorem Tur.map (ls : List Lg) : Tur ls (ls.map turn) := ⟨by simp, fun i hi => by
  rw [List.getD_eq_getElem?_getD, List.getD_eq_getElem?_getD, List.getElem?_map, List.getElem?_eq_getElem hi]
  rfl⟩
variable {ls ls' : List Lg} {ch fr to by' : Int}
theorem joinB_turn (x y : Lg) : joinB ch (turn y) (turn x) = joinB ch x y := by
  unfold joinB turn
  simp only
  refine decide_eq_decide.2 ?_
  by_cases h : x.l = y.l
  · rw [if_pos h, if_pos h.symm]
    constructor <;> rintro ⟨h1, h2⟩ <;> exact ⟨h1.symm, by omega⟩
  · rw [if_neg h, if_neg (Ne.symm h)]
    constructor <;> rintro ⟨h1, h2⟩ <;> exact ⟨h1.symm, by omega⟩
theorem Tur.chain (ht : Tur ls ls') : ∀ {r : List Nat} {i : Nat}, Ch ls ch i r → ∃ r', Ch ls' ch (lastN i r) r' ∧ lastN (lastN i r) r' = i ∧ r'.length = r.length
  | [], i, h => ⟨[], by show i < ls'.length; rw [ht.len]; exact h, rfl, rfl⟩
  | j :: r, i, h => by
    obtain ⟨r', h1, h2, h3⟩ := ht.chain (r := r) h.2.2
    refine ⟨r' ++ [i], Ch.snoc.2 ⟨h1, ?_, by rw [ht.len]; exact h.1⟩, lastN_snoc, by rw [List.length_append, h3]; rfl⟩
    show jn ls' ch (lastN (lastN j r) r') i
    rw [h2]
    unfold jn
    rw [ht.at' j h.2.2.lt, ht.at' i h.1, joinB_turn]
    exact h.2.1
/-- Latest and Earliest of what is turned around. -/
theorem late_turned (ht : Tur ls ls') {a b e f : Int} {js ks : List Nat} (h1 : LateJ ls ch fr to by' a e js) (h2 : EarlJ ls' ch to fr (10000 - by') b f ks) : e = f ∧ (e = 0 → a = 10000 - b ∧ js.length = ks.length) := by
  have hs := ht.symm
  -- a journey of the one kind is one of the other kind
  have go : ∀ i r, Ch ls ch i r → (ls.getD i default).f = fr → EndsB to by' (ls.getD (lastN i r) default) → ∃ j s, Ch ls' ch j s ∧ BegB to (10000 - by') (ls'.getD j default) ∧ (ls'.getD (lastN j s) default).t = fr ∧ (ls'.getD (lastN j s) default).a = 10000 - (ls.getD i default).d ∧ s.length = r.length := fun i r k1 k2 k3 => by
    obtain ⟨r', m1, m2, m3⟩ := ht.chain k1
    refine ⟨_, r', m1, ?_, ?_, ?_, m3⟩
    · rw [ht.at' _ k1.last_lt]; exact ⟨k3.1, by have := k3.2; show 10000 - by' ≤ 10000 - _; omega⟩
    · rw [m2, ht.at' _ k1.lt]; exact k2
    · rw [m2, ht.at' _ k1.lt]; rfl
  have back : ∀ j s, Ch ls' ch j s → BegB to (10000 - by') (ls'.getD j default) → (ls'.getD (lastN j s) default).t = fr → ∃ i r, Ch ls ch i r ∧ (ls.getD i default).f = fr ∧ EndsB to by' (ls.getD (lastN i r) default) ∧ (ls.getD i default).d = 10000 - (ls'.getD (lastN j s) default).a ∧ r.length = s.length := fun j s k1 k2 k3 => by
    obtain ⟨r', m1, m2, m3⟩ := hs.chain k1
    refine ⟨_, r', m1, ?_, ?_, ?_, m3⟩
    · rw [hs.at' _ k1.last_lt]; exact k3
    · rw [m2, hs.at' _ k1.lt]; exact ⟨k2.1, by have := k2.2; show 10000 - _ ≤ by'; omega⟩
    · rw [hs.at' _ k1.last_lt]; rfl
  rcases h1 with ⟨he, _, _, hno⟩ | ⟨he, i, r, hj, hsh, hd, hm⟩
  · rcases h2 with ⟨hf, _, _, _⟩ | ⟨_, i2, r2, _, hsh2, _, _⟩
    · exact ⟨by omega, fun h => by omega⟩
    · obtain ⟨i3, r3, k1, k2, k3, _⟩ := back i2 r2 hsh2.is hsh2.beg hsh2.fin.1
      exact absurd k3 (hno i3 r3 k1 k2)
  · rcases h2 with ⟨_, _, _, hno⟩ | ⟨hf, i2, r2, hk, hsh2, ha2, hm2⟩
    · obtain ⟨j, s, k1, k2, k3, _⟩ := go i r hsh.is hsh.beg.1 hsh.fin
      exact absurd k3 (hno j s k1 k2)
    · refine ⟨by omega, fun _ => ?_⟩
      obtain ⟨j, s, k1, k2, k3, k4, k5⟩ := go i r hsh.is hsh.beg.1 hsh.fin
      obtain ⟨i3, r3, m1, m2, m3, m4, m5⟩ := back i2 r2 hsh2.is hsh2.beg hsh2.fin.1
      have n1 := hm2 j s k1 k2 k3
      have n2 := hm i3 r3 m1 m2 m3
      have hab : a = 10000 - b := by omega
      refine ⟨hab, ?_⟩
      have l1 := hsh.le i3 r3 m1 ⟨m2, by omega⟩ m3
      have l2 := hsh2.le j s k1 k2 ⟨k3, by omega⟩
      have l1' : r.length ≤ r3.length := by rcases l1 with h | ⟨h, _⟩ <;> simp at h <;> omega
      have l2' : r2.length ≤ s.length := by rcases l2 with h | ⟨h, _⟩ <;> simp at h <;> omega
      rw [hj, hk, List.length_cons, List.length_cons]
      omega
theorem legOk_turn {n : Int} {x : Lg} (h1 : 0 ≤ x.d ∧ x.d ≤ 10000) (h2 : 0 ≤ x.a ∧ x.a ≤ 10000) : LegOk n (turn x) ↔ LegOk n x := by
  unfold LegOk turn
  simp only
  constructor
  · rintro ⟨k1, k2, k3, k4, k5, k6, k7⟩; exact ⟨k2, k1, Ne.symm k3, by omega, by omega, by omega, k7⟩
  · rintro ⟨k1, k2, k3, k4, k5, k6, k7⟩; exact ⟨k2, k1, Ne.symm k3, by omega, by omega, by omega, k7⟩
theorem errC_turn {n : Int} (hb : ∀ x ∈ ls, (0 ≤ x.d ∧ x.d ≤ 10000) ∧ (0 ≤ x.a ∧ x.a ≤ 10000)) (h : 0 ≤ by' ∧ by' ≤ 10000) : errC n (ls.map turn) ch to fr [10000 - by'] = errC n ls ch fr to [by'] := by
  have e1 : (∀ x ∈ ls.map turn, LegOk n x) ↔ ∀ x ∈ ls, LegOk n x := by
    constructor
    · intro k x hx; exact (legOk_turn (hb x hx).1 (hb x hx).2).1 (k _ (List.mem_map_of_mem hx))
    · intro k x hx
      obtain ⟨y, hy, rfl⟩ := List.mem_map.1 hx
      exact (legOk_turn (hb y hy).1 (hb y hy).2).2 (k y hy)
  have t1 : (∀ z ∈ [10000 - by'], 0 ≤ z ∧ z ≤ 10000) := fun z hz => by rw [List.mem_singleton.1 hz]; omega
  have t2 : (∀ z ∈ [by'], 0 ≤ z ∧ z ≤ 10000) := fun z hz => by rw [List.mem_singleton.1 hz]; omega
  have p1 := propext e1
  have p2 : (¬ (0 ≤ ch ∧ ch ≤ 100) ∨ ¬ (0 ≤ to ∧ to ≤ n - 1) ∨ ¬ (0 ≤ fr ∧ fr ≤ n - 1)) = (¬ (0 ≤ ch ∧ ch ≤ 100) ∨ ¬ (0 ≤ fr ∧ fr ≤ n - 1) ∨ ¬ (0 ≤ to ∧ to ≤ n - 1)) := propext (or_congr_right Or.comm)
  have p3 : (∀ z ∈ [10000 - by'], 0 ≤ z ∧ z ≤ 10000) = (∀ z ∈ [by'], 0 ≤ z ∧ z ≤ 10000) := propext ⟨fun _ => t2, fun _ => t1⟩
  unfold errC
  rw [List.length_map]
  simp only [p1, p2, p3]
end Go.Proofs.Ytagnifngnpgilaa
