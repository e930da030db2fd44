/- Fractions side by side, and the Parts that they make, by the reference. -/
import Derived.Test.YtmcomjgebcemdaaGreatBP
import Derived.Test.YtmcomjgebcemdaaGreatBG
import Derived.Test.YtmcomjgebcemdaaGreatGj
set_option linter.unusedVariables false
set_option linter.unusedSimpArgs false
set_option linter.unusedSectionVars false

namespace Go.Proofs.YtmcomjgebcemdaaGreat
open Go Go.AM
set_option maxRecDepth 10000
set_option linter.unusedSimpArgs false

/-- A fraction in lowest terms, by these terms. -/
def QL (H : Heap) (v : Value) (n d : Int) : Prop := QIs H v n d 400 ∧ 0 < d ∧ n.natAbs.gcd d.natAbs = 1
theorem QL.qv {H : Heap} {v : Value} {n d : Int} (h : QL H v n d) : QV H v n d := ⟨n, d, h.1, h.2.1, h.2.2, rfl⟩
theorem QV.ql {H : Heap} {v : Value} {n d : Int} (h : QV H v n d) : ∃ n' d', QL H v n' d' ∧ n' * d = n * d' := by
  obtain ⟨n', d', h1, h2, h3, h4⟩ := h; exact ⟨n', d', ⟨h1, h2, h3⟩, h4⟩
theorem QL.keep {H H' : Heap} {v : Value} {n d : Int} (h : QL H v n d) (hk : Keep H H') : QL H' v n d := by
  obtain ⟨⟨s1, w1, s2, w2, h1, h2, h3⟩, h4⟩ := h
  exact ⟨⟨s1, w1, s2, w2, h1, h2.keep hk, h3.keep hk⟩, h4⟩
/-- A whole number, by its terms. -/
theorem QV.whole {H : Heap} {v : Value} {m : Int} (h : QV H v m 1) : QL H v m 1 := by
  obtain ⟨n', d', h1, h2, h3, h4⟩ := h
  have h5 := (low_le (by omega) h2 h3 h4).1
  obtain rfl : d' = 1 := by omega
  obtain rfl : n' = m := by omega
  exact ⟨h1, h2, h3⟩
def qE : Enc (Int × Int) where
  sz := 4
  At := fun H x cs => QL H (.agg ⟨cs⟩) x.1 x.2
  len := fun h => by
    obtain ⟨⟨s1, w1, s2, w2, h1, _⟩, _⟩ := h
    cases h1; rfl
  keep := fun hk h => h.keep hk
/-- The least common multiple of the denominators. -/
def lcmOf (xs : List (Int × Int)) : Nat := xs.foldl (fun a x => Nat.lcm a x.2.toNat) 1
theorem lcmOf_take {xs : List (Int × Int)} {k : Nat} (h : k < xs.length) : lcmOf (xs.take (k + 1)) = Nat.lcm (lcmOf (xs.take k)) (xs.getD k default).2.toNat := by
  unfold lcmOf
  rw [List.take_add_one, List.getElem?_eq_getElem h, List.getD_eq_getElem?_getD, List.getElem?_eq_getElem h, List.foldl_append]
  rfl
theorem lcmOf_dvd (xs : List (Int × Int)) (k : Nat) : lcmOf (xs.take k) ∣ lcmOf xs ∧ ∀ i, i < k → i < xs.length → (xs.getD i default).2.toNat ∣ lcmOf (xs.take k) := by
  have h1 : ∀ (l : List (Int × Int)) (a : Nat), a ∣ l.foldl (fun a x => Nat.lcm a x.2.toNat) a := by
    intro l
    induction l with
    | nil => intro a; exact Nat.dvd_refl a
    | cons x l ih => intro a; exact Nat.dvd_trans (Nat.dvd_lcm_left _ _) (ih _)
  have h2 : ∀ (l m : List (Int × Int)), lcmOf l ∣ lcmOf (l ++ m) := fun l m => by
    unfold lcmOf; rw [List.foldl_append]; exact h1 _ _
  refine ⟨?_, ?_⟩
  · have := h2 (xs.take k) (xs.drop k)
    rwa [List.take_append_drop] at this
  · intro i hi hl
    have h3 : (xs.getD i default).2.toNat ∣ lcmOf (xs.take (i + 1)) := by rw [lcmOf_take hl]; exact Nat.dvd_lcm_right _ _
    have h4 := h2 (xs.take (i + 1)) ((xs.take k).drop (i + 1))
    have h5 : xs.take (i + 1) = (xs.take k).take (i + 1) := by rw [List.take_take, Nat.min_eq_left (by omega)]
    rw [h5, List.take_append_drop] at h4
    rw [h5] at h3
    exact Nat.dvd_trans h3 h4
theorem lcmOf_pos {xs : List (Int × Int)} (h : ∀ x ∈ xs, 0 < x.2) : 0 < lcmOf xs := by
  have h1 : ∀ (l : List (Int × Int)) (a : Nat), 0 < a → (∀ x ∈ l, 0 < x.2) → 0 < l.foldl (fun a x => Nat.lcm a x.2.toNat) a := by
    intro l
    induction l with
    | nil => intro a h0 _; exact h0
    | cons x l ih =>
      intro a h0 hl
      exact ih _ (Nat.lcm_pos h0 (by have := hl x List.mem_cons_self; omega)) fun y hy => hl y (List.mem_cons_of_mem _ hy)
  exact h1 xs 1 (by omega) h

theorem lenQ (a : Option Addr) (n c : Nat) : aLen Tryz.prog #[47] (.slice a n c) = some (.int .i64 n) := by kernel_rfl
theorem ixQ (r o n c : Nat) (k : IntKind) (i : Int) : aIndexAt Tryz.prog 47 (.slice (some ⟨r, o, none⟩) n c) (.int k i) = if 0 ≤ i ∧ i < (n : Int) then some (.pointer (some ⟨r, o + i.toNat * 4, none⟩)) else none := by kernel_rfl
theorem bdP1 (z : Int) : aBuild Tryz.prog 24 [(1, .int .i64 z)] = some (.agg ⟨[.slice none 0 0, .int .i64 z]⟩) := by kernel_rfl
theorem alP (H : Heap) : aAlloc Tryz.prog H 24 = some (.pointer (some ⟨H.size, 0, none⟩), H.newExact [.slice none 0 0, .int .i64 0] 24) := by kernel_rfl
theorem ldP (H : Heap) (r o : Nat) : aLoad Tryz.prog H 24 (.pointer (some ⟨r, o, none⟩)) = (H.read r o 2).map fun l => .agg ⟨l⟩ := by kernel_rfl
theorem paG0 (r o : Nat) : aFieldAt Tryz.prog 24 0 (.pointer (some ⟨r, o, none⟩)) = some (.pointer (some ⟨r, o + 0, none⟩)) := by kernel_rfl
theorem paG1 (r o : Nat) : aFieldAt Tryz.prog 24 1 (.pointer (some ⟨r, o, none⟩)) = some (.pointer (some ⟨r, o + 1, none⟩)) := by kernel_rfl
theorem afN (s1 s2 : Bool) (a1 a2 : Option Addr) (n1 c1 n2 c2 : Nat) : aField Tryz.prog 42 (.agg ⟨[.bool s1, .slice a1 n1 c1, .bool s2, .slice a2 n2 c2]⟩) 0 = some (.agg ⟨[.bool s1, .slice a1 n1 c1]⟩) := by kernel_rfl
/-- The whole of a row of Parts of one's own is written. -/
theorem stP {H : Heap} {r : Nat} {cells : List Value} (h : Own H r 24 cells) (hl : cells.length = 2) (a : Option Addr) (n c : Nat) (z : Int) :
    ∃ H2, aStore Tryz.prog H 24 (.pointer (some ⟨r, 0, none⟩)) (.agg ⟨[.slice a n c, .int .i64 z]⟩) = some H2 ∧ Own H2 r 24 [.slice a n c, .int .i64 z] ∧ H2.size = H.size ∧ (∀ r' e' c', r' ≠ r → Own H r' e' c' → Own H2 r' e' c') ∧ (∀ H0, Keep H0 H → H0.size ≤ r → Keep H0 H2) := by
  have hob := h.store (P := Tryz.prog) (t := 24) (i := Tryz.t24) (by kernel_rfl) (v := .agg ⟨[.slice a n c, .int .i64 z]⟩) (new := [.slice a n c, .int .i64 z]) rfl (by kernel_rfl) rfl (o := 0) (show 0 + 2 ≤ cells.length by omega)
  obtain ⟨H2, h1, h2, h3, h4, h5⟩ := hob
  refine ⟨H2, h1, ?_, h3, h4, h5⟩
  obtain ⟨x, y, rfl⟩ : ∃ x y, cells = [x, y] := by
    match cells, hl with
    | [x, y], _ => exact ⟨x, y, rfl⟩
  exact h2
/-- The list in a row of Parts of one's own is written. -/
theorem stP0 {H : Heap} {r : Nat} {x y : Value} (h : Own H r 24 [x, y]) (a : Option Addr) (n c : Nat) :
    ∃ H2, aStore Tryz.prog H 22 (.pointer (some ⟨r, 0, none⟩)) (.slice a n c) = some H2 ∧ Own H2 r 24 [.slice a n c, y] ∧ H2.size = H.size ∧ (∀ r' e' c', r' ≠ r → Own H r' e' c' → Own H2 r' e' c') ∧ (∀ H0, Keep H0 H → H0.size ≤ r → Keep H0 H2) := by
  have hob := h.store (P := Tryz.prog) (t := 22) (i := Tryz.t22) (by kernel_rfl) (v := .slice a n c) (new := [.slice a n c]) rfl (by kernel_rfl) rfl (o := 0) (show 0 + 1 ≤ 2 by omega)
  obtain ⟨H2, h1, h2, h3, h4, h5⟩ := hob
  exact ⟨H2, h1, h2, h3, h4, h5⟩
theorem ownP {H : Heap} {r : Nat} {x y : Value} (h : Own H r 24 [x, y]) : H.read r 0 2 = some [x, y] ∧ H.read r 0 1 = some [x] ∧ H.read r (0 + 1) 1 = some [y] :=
  ⟨h.read (o := 0) (n := 2) (Nat.le_refl 2), h.read (o := 0) (n := 1) (show 0 + 1 ≤ 2 by omega), h.read (o := 0 + 1) (n := 1) (show 0 + 1 + 1 ≤ 2 by omega)⟩
theorem qs_at {H : Heap} {v : Value} {xs : List (Int × Int)} {r o : Nat} (h : SlE qE H v xs r o) {i : Nat} (hi : i < xs.length) :
    ∃ b1 a1 n1 c1 b2 a2 n2 c2, H.read r (o + i * 4) 4 = some [.bool b1, .slice a1 n1 c1, .bool b2, .slice a2 n2 c2] ∧ H.read r (o + i * 4 + 2) 2 = some [.bool b2, .slice a2 n2 c2] ∧
      QL H (.agg ⟨[.bool b1, .slice a1 n1 c1, .bool b2, .slice a2 n2 c2]⟩) (xs.getD i default).1 (xs.getD i default).2 ∧ BigIs H (.agg ⟨[.bool b2, .slice a2 n2 c2]⟩) (xs.getD i default).2 400 := by
  obtain ⟨es, h1, h2⟩ := h.rd i hi
  have h3 : QL H (.agg ⟨es⟩) (xs.getD i default).1 (xs.getD i default).2 := h2
  obtain ⟨_, b1, a1, n1, c1, b2, a2, n2, c2, hes⟩ := h3.qv.shape
  replace hes : es = [.bool b1, .slice a1 n1 c1, .bool b2, .slice a2 n2 c2] := hes
  subst hes
  have h4 := read_sub h1 (j := 2) (k := 2) (show 2 + 2 ≤ 4 by omega)
  refine ⟨b1, a1, n1, c1, b2, a2, n2, c2, h1, h4, h3, ?_⟩
  obtain ⟨⟨s1, w1, s2, w2, hh, _, h5⟩, _⟩ := h3
  cases hh
  exact h5
end Go.Proofs.YtmcomjgebcemdaaGreat
