/- Feeds between segments play no part. -/
import Derived.Test.YtifnmlocblanbaaMC
set_option linter.unusedVariables false
set_option linter.unusedSimpArgs false
set_option linter.unusedSectionVars false

namespace Go.Proofs.Ytifnmlocblanbaa
open Go Go.AM
set_option linter.unusedSimpArgs false
set_option linter.unusedVariables false

def nls (n : Nat) : Txt := List.replicate n 10
/-- How many feeds stand ahead of a segment. -/
def fd (fs : List Int) (i : Nat) : Nat := if i < fs.length then (fs.getD i 0).toNat % 4 else 0
def ft (fs : List Int) : Nat → List Segm → Txt
  | i, [] => nls (fd fs i)
  | i, s :: w => nls (fd fs i) ++ (encSeg s ++ ft fs (i + 1) w)
theorem nls_succ (n : Nat) : nls (n + 1) = nls n ++ [10] := by unfold nls; rw [List.replicate_succ', ]
theorem nls_len (n : Nat) : (nls n).length = n := List.length_replicate
theorem fd_lt (fs : List Int) (i : Nat) : fd fs i < 4 := by unfold fd; split <;> omega
theorem skip_nls (n : Nat) (t : Txt) : skipP (nls n ++ t) = skipP t := by
  induction n with
  | zero => rfl
  | succ n ih =>
    have : nls (n + 1) = 10 :: nls n := rfl
    rw [this]
    unfold skipP at ih ⊢
    rw [List.cons_append, List.dropWhile_cons]
    have h : feed 10 = true := by decide
    rw [h, if_pos rfl, ih]
theorem parse_ft (fs : List Int) : ∀ (w m : List Segm) (i : Nat), (∀ s ∈ w, SegOk s) → m.length ≤ 60 → parseP m (ft fs i w) = if m.length + w.length ≤ 60 then (m ++ w, 0, 0) else ([], 60, 2)
  | [], m, i, _, hm => by
    have h0 : skipP (ft fs i []) = [] := by
      have := skip_nls (fd fs i) []
      rwa [List.append_nil] at this
    rw [parseP_eq, h0, if_pos rfl, List.length_nil, Nat.add_zero, if_pos hm, List.append_nil]
  | s :: w, m, i, h, hm => by
    have hs := h s (by simp)
    obtain ⟨h1, h2, h3⟩ := encSeg_read hs (ft fs (i + 1) w)
    have h0 : skipP (ft fs i (s :: w)) = encSeg s ++ ft fs (i + 1) w := by
      show skipP (nls (fd fs i) ++ (encSeg s ++ ft fs (i + 1) w)) = _
      rw [skip_nls, h1]
    have hne : ¬ encSeg s ++ ft fs (i + 1) w = [] := by
      unfold encSeg; simp
    have hf : formP (encSeg s ++ ft fs (i + 1) w) := ⟨by rw [h3]; rfl, by have := hs.1; rw [← h2] at this; exact this⟩
    rw [parseP_eq, h0, if_neg hne, if_pos hf, h2, h3]
    by_cases h6 : m.length = 60
    · rw [if_pos (.inl h6), List.length_cons, if_neg (by omega), h6]
    · have ih := parse_ft fs w (m ++ [s]) (i + 1) (fun x hx => h x (by simp [hx])) (by rw [List.length_append]; show m.length + 1 ≤ 60; omega)
      rw [if_neg (by rintro (h | h); exact h6 h; exact h hs)]
      show parseP (m ++ [s]) (ft fs (i + 1) w) = _
      rw [ih]
      have e1 : (m ++ [s]).length + w.length = m.length + (s :: w).length := by simp; omega
      have e2 : m ++ [s] ++ w = m ++ s :: w := by simp
      rw [e1, e2]
end Go.Proofs.Ytifnmlocblanbaa
