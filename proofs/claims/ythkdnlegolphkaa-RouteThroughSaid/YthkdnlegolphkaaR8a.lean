/- Wishes and timetables as values; what no error says. -/
import Derived.Test.YthkdnlegolphkaaR5
set_option linter.unusedVariables false
set_option linter.unusedSimpArgs false
set_option linter.unusedSectionVars false

namespace Go.Proofs.Ythkdnlegolphkaa
open Go Go.AM
set_option maxRecDepth 10000

theorem bsI (H : Heap) (z : Int) : aBuildSlice Try.prog H 23 1 [(0, .int .i64 z)] = some (.slice (some ⟨H.size, 0, none⟩) 1 1, H.newExact [.int .i64 z] 3) := by kernel_rfl
theorem bdW (fr to at' by' : Int) : aBuild Try.prog 64 [(0, .int .i64 fr), (1, .int .i64 to), (2, .int .i64 at'), (3, .int .i64 by')] = some (.agg ⟨[.int .i64 fr, .int .i64 to, .int .i64 at', .int .i64 by']⟩) := by kernel_rfl
theorem newT (H : Heap) (a : Option Addr) (n c : Nat) (ch : Int) (a2 : Option Addr) (n2 c2 : Nat) : ∃ H2, aStore Try.prog (H.newExact [.slice none 0 0, .int .i64 0, .slice none 0 0] 56) 56 (.pointer (some ⟨H.size, 0, none⟩)) (.agg ⟨[.slice a n c, .int .i64 ch, .slice a2 n2 c2]⟩) = some H2 ∧ Keep H H2 ∧ H2.read H.size 0 3 = some [.slice a n c, .int .i64 ch, .slice a2 n2 c2] := by
  obtain ⟨i, hi, hsz⟩ := infoT
  obtain ⟨H2, h1, h2, h3, h4, h5⟩ := (Own.new H [.slice none 0 0, .int .i64 0, .slice none 0 0] 56).store (t := 56) hi (v := .agg ⟨[.slice a n c, .int .i64 ch, .slice a2 n2 c2]⟩) (new := [.slice a n c, .int .i64 ch, .slice a2 n2 c2]) rfl (by rw [hsz]; rfl) rfl (o := 0) (by show 0 + 3 ≤ 3; decide)
  refine ⟨H2, h1, h5 H (Keep.newExact _ _ _) (Nat.le_refl _), ?_⟩
  have h2 : Own H2 H.size 56 [.slice a n c, .int .i64 ch, .slice a2 n2 c2] := h2
  exact h2.read (o := 0) (n := 3) (by show 0 + 3 ≤ 3; decide)
theorem one_sl (H : Heap) (z : Int) (hz : R64 z) : SlI .i64 (H.newExact [.int .i64 z] 3) (.slice (some ⟨H.size, 0, none⟩) [z].length 1) [z] H.size 0 := by
  exact Own.sl (w := [z]) (Own.new H [.int .i64 z] 3) (fun x hx => by rw [List.mem_singleton.1 hx]; exact hz) (show 1 ≤ Go.maxLen by decide) 1
theorem errC_zero {n : Int} {ls : List Lg} {ch fr to : Int} {ts : List Int} (h : errC n ls ch fr to ts = 0) : ls.length ≤ 60 ∧ (∀ x ∈ ls, LegOk n x) ∧ (0 ≤ ch ∧ ch ≤ 100) ∧ (∀ z ∈ ts, 0 ≤ z ∧ z ≤ 10000) := by
  unfold errC at h
  by_cases h1 : ¬ (1 ≤ n ∧ n ≤ 8)
  · rw [if_pos h1] at h; exact absurd h (by decide)
  rw [if_neg h1] at h
  by_cases h2 : 60 < ls.length
  · rw [if_pos h2] at h; exact absurd h (by decide)
  rw [if_neg h2] at h
  by_cases h3 : ¬ ∀ x ∈ ls, LegOk n x
  · rw [if_pos h3] at h; exact absurd h (by decide)
  rw [if_neg h3] at h
  by_cases h4 : ¬ (0 ≤ ch ∧ ch ≤ 100) ∨ ¬ (0 ≤ fr ∧ fr ≤ n - 1) ∨ ¬ (0 ≤ to ∧ to ≤ n - 1)
  · rw [if_pos h4] at h; exact absurd h (by decide)
  rw [if_neg h4] at h
  by_cases h5 : ¬ ∀ z ∈ ts, 0 ≤ z ∧ z ≤ 10000
  · rw [if_pos h5] at h; exact absurd h (by decide)
  exact ⟨by omega, Classical.not_not.1 h3, Classical.not_not.1 fun hh => h4 (.inl hh), Classical.not_not.1 h5⟩

end Go.Proofs.Ythkdnlegolphkaa
