/- What is read is what is printed, without line feeds. -/
import Derived.Test.YtifnmlocblanbaaMA
import Derived.Test.YtifnmlocblanbaaP8
set_option linter.unusedVariables false
set_option linter.unusedSimpArgs false
set_option linter.unusedSectionVars false

namespace Go.Proofs.Ytifnmlocblanbaa
open Go Go.AM
set_option linter.unusedSimpArgs false
set_option linter.unusedVariables false

theorem partP_dec : ∀ (n : Nat) (l : Txt), l.length ≤ n → okR (partP l).2 = true → l = encPart (partP l).1 ++ (partP l).2 ∧ ∀ b ∈ (partP l).1, Pl b
  | _, [], _, h => by simp [partP, okR, startsWith] at h
  | 0, b :: t, hn, _ => by simp at hn
  | n + 1, b :: t, hn, h => by
    by_cases hp : Pl b
    case neg =>
      rw [partP_stop (.inl hp)]
      exact ⟨rfl, fun b hb => by cases hb⟩
    by_cases hs : Sg b
    · cases hm : markP (b :: t) with
      | false =>
        rw [partP_stop (.inr ⟨hs, hm⟩)]
        exact ⟨rfl, fun b hb => by cases hb⟩
      | true =>
        obtain ⟨c, t', rfl⟩ := mark_inv hm
        have h63 : b = 63 ∧ Sg c := by
          unfold markP at hm
          simp only [Bool.and_eq_true, beq_iff_eq, decide_eq_true_eq] at hm
          exact ⟨UInt8.toNat_inj.1 hm.1, hm.2⟩
        rw [partP_mark hm] at h ⊢
        obtain ⟨h1, h2⟩ := partP_dec n t' (by simp at hn; omega) h
        obtain ⟨rfl, hc⟩ := h63
        refine ⟨?_, ?_⟩
        · have he : encPart (c :: (partP t').1) = [63, c] ++ encPart (partP t').1 := by unfold encPart; simp [hc]
          show 63 :: c :: t' = encPart (c :: (partP t').1) ++ (partP t').2
          rw [he, List.append_assoc, ← h1]; rfl
        · intro b hb
          rcases List.mem_cons.1 hb with rfl | hb
          · unfold Sg at hc; unfold Pl; omega
          · exact h2 b hb
    · rw [partP_plain hp hs] at h ⊢
      obtain ⟨h1, h2⟩ := partP_dec n t (by simp at hn; omega) h
      refine ⟨?_, ?_⟩
      · have he : encPart (b :: (partP t).1) = [b] ++ encPart (partP t).1 := by unfold encPart; simp [hs]
        show b :: t = encPart (b :: (partP t).1) ++ (partP t).2
        rw [he, List.append_assoc, ← h1]; rfl
      · intro c hb
        rcases List.mem_cons.1 hb with rfl | hb
        · exact hp
        · exact h2 c hb
theorem okR_of {c : Nat} {r : Txt} (h : startsWith c r = true) (hc : c = 43 ∨ c = 58 ∨ c = 39) : okR r = true := by
  unfold okR
  rcases hc with rfl | rfl | rfl <;> simp [h]
theorem start_tail {c : UInt8} {r : Txt} (h : startsWith c.toNat r = true) : r = c :: r.tail := by
  cases r with
  | nil => cases h
  | cons b u =>
    have : b.toNat == c.toNat := h
    rw [beq_iff_eq] at this
    rw [UInt8.toNat_inj.1 this]; rfl
theorem elemP_dec : ∀ (n : Nat) (l : Txt), l.length ≤ n → okR (elemP l).2 = true → ∃ p ps, (elemP l).1 = p :: ps ∧ l = encPart p ++ encParts 58 ps ++ (elemP l).2 ∧ ∀ q ∈ p :: ps, ∀ b ∈ q, Pl b := by
  intro n
  induction n with
  | zero =>
    intro l hn h
    obtain rfl : l = [] := by cases l with
      | nil => rfl
      | cons b t => simp at hn
    rw [elemP_eq] at h
    simp [partP, okR, startsWith] at h
  | succ n ih =>
    intro l hn h
    rw [elemP_eq] at h ⊢
    by_cases h58 : startsWith 58 (partP l).2 = true
    · rw [if_pos h58] at h ⊢
      obtain ⟨h1, h2⟩ := partP_dec l.length l (Nat.le_refl _) (okR_of h58 (by omega))
      have h3 := start_tail (c := 58) h58
      have h4 := partP_len l.length l (Nat.le_refl _)
      have h5 : (partP l).2.tail.length + 1 = (partP l).2.length := by rw [h3]; simp
      obtain ⟨p, ps, e1, e2, e3⟩ := ih (partP l).2.tail (by omega) h
      refine ⟨(partP l).1, p :: ps, by rw [e1], ?_, ?_⟩
      · show l = encPart (partP l).1 ++ encParts 58 (p :: ps) ++ (elemP (partP l).2.tail).2
        rw [encParts_cons]
        conv => lhs; rw [h1, h3, e2]
        simp
      · intro q hq
        rcases List.mem_cons.1 hq with rfl | hq
        · exact h2
        · exact e3 q hq
    · rw [if_neg h58] at h ⊢
      obtain ⟨h1, h2⟩ := partP_dec l.length l (Nat.le_refl _) h
      refine ⟨(partP l).1, [], rfl, ?_, fun q hq => by
        rcases List.mem_cons.1 hq with rfl | hq
        · exact h2
        · cases hq⟩
      have h0 : encParts 58 [] = [] := rfl
      rw [h0, List.append_nil]
      exact h1
end Go.Proofs.Ytifnmlocblanbaa
