/- What is read is what is printed, without line feeds: messages. -/
import Derived.Test.YtifnmlocblanbaaMB
set_option linter.unusedVariables false
set_option linter.unusedSimpArgs false
set_option linter.unusedSectionVars false

namespace Go.Proofs.Ytifnmlocblanbaa
open Go Go.AM
set_option linter.unusedSimpArgs false
set_option linter.unusedVariables false

theorem elemsP_dec : ∀ (n : Nat) (l : Txt), l.length ≤ n → startsWith 39 (elemsP l).2 = true → l = (elemsP l).1.flatMap encElem ++ (elemsP l).2 := by
  intro n
  induction n with
  | zero =>
    intro l hn h
    obtain rfl : l = [] := by cases l with
      | nil => rfl
      | cons b t => simp at hn
    rw [elemsP_eq] at h
    simp [startsWith] at h
  | succ n ih =>
    intro l hn h
    rw [elemsP_eq] at h ⊢
    by_cases h43 : startsWith 43 l = true
    · rw [if_pos h43] at h ⊢
      have h3 := start_tail (c := 43) h43
      have h4 := elemP_len l.tail
      have h5 : l.tail.length + 1 = l.length := by conv => rhs; rw [h3]
                                                   simp
      have hok : okR (elemP l.tail).2 = true := by
        by_cases h6 : startsWith 43 (elemP l.tail).2 = true
        · exact okR_of h6 (by omega)
        · have : elemsP (elemP l.tail).2 = ([], (elemP l.tail).2) := by rw [elemsP_eq, if_neg h6]
          rw [this] at h
          exact okR_of h (by omega)
      obtain ⟨p, ps, e1, e2, _⟩ := elemP_dec l.tail.length l.tail (Nat.le_refl _) hok
      have e3 := ih (elemP l.tail).2 (by omega) h
      show l = ((elemP l.tail).1 :: (elemsP (elemP l.tail).2).1).flatMap encElem ++ (elemsP (elemP l.tail).2).2
      rw [List.flatMap_cons, e1, List.append_assoc, ← e3]
      conv => lhs; rw [h3, e2]
      simp [encElem]
    · rw [if_neg h43]
      simp
theorem seg_dec {l : Txt} (h : formP l) : l = encSeg (segP l) ++ (restP l).tail := by
  obtain ⟨h1, _⟩ := h
  have h2 := start_tail (c := 39) h1
  have h3 := elemsP_dec _ (l.dropWhile upB) (Nat.le_refl _) h1
  have h4 := List.takeWhile_append_dropWhile (p := upB) (l := l)
  unfold encSeg segP tagP
  conv => lhs; rw [← h4, h3]
  show l.takeWhile upB ++ ((elemsP (l.dropWhile upB)).1.flatMap encElem ++ restP l) = _
  conv => lhs; rw [h2]
  simp
def nl (b : UInt8) : Bool := !feed b
theorem filter_part : ∀ {p : Txt}, (∀ b ∈ p, Pl b) → (encPart p).filter nl = encPart p := by
  intro p hp
  rw [List.filter_eq_self]
  intro b hb
  unfold encPart at hb
  obtain ⟨c, hc, hb⟩ := List.mem_flatMap.1 hb
  have hcp := hp c hc
  have : Pl b := by
    split at hb
    · simp at hb
      rcases hb with rfl | rfl
      · decide
      · exact hcp
    · simp at hb
      rw [hb]; exact hcp
  unfold nl feed
  unfold Pl at this
  simp; omega
theorem filter_seg {s : Segm} (h : SegOk s) : (encSeg s).filter nl = encSeg s := by
  rw [List.filter_eq_self]
  intro b hb
  obtain ⟨h1, h2, h3⟩ := h
  unfold encSeg at hb
  rw [List.mem_append, List.mem_append] at hb
  rcases hb with (hb | hb) | hb
  · have := h1.2.2 b hb
    unfold nl feed
    unfold Up at this
    simp; omega
  · obtain ⟨e, he, hb⟩ := List.mem_flatMap.1 hb
    have h4 := (h3 e he).2.2
    have hq : ∀ q ∈ e, ∀ c ∈ encPart q, nl c = true := fun q hq c hc => (List.filter_eq_self.1 (filter_part (h4 q hq).2)) c hc
    cases e with
    | nil => cases hb
    | cons p ps =>
      have hee : encElem (p :: ps) = 43 :: (encPart p ++ encParts 58 ps) := by simp [encElem]
      rw [hee] at hb
      rcases List.mem_cons.1 hb with rfl | hb
      · decide
      rcases List.mem_append.1 hb with hb | hb
      · exact hq p (by simp) b hb
      · unfold encParts at hb
        obtain ⟨q, hqm, hb⟩ := List.mem_flatMap.1 hb
        rcases List.mem_cons.1 hb with rfl | hb
        · decide
        · exact hq q (by simp [hqm]) b hb
  · simp at hb
    rw [hb]; decide
theorem skip_filter (l : Txt) : (skipP l).filter nl = l.filter nl := by
  unfold skipP
  induction l with
  | nil => rfl
  | cons b l ih =>
    rw [List.dropWhile_cons]
    cases hb : feed b with
    | true =>
      rw [List.filter_cons]
      have : nl b = false := by unfold nl; rw [hb]; rfl
      rw [this]; simpa using ih
    | false => simp
theorem parse_dec : ∀ (n : Nat) (l : Txt) (m : List Segm), l.length ≤ n → (parseP m l).2.2 = 0 → encMsg (parseP m l).1 = encMsg m ++ l.filter nl := by
  intro n
  induction n with
  | zero =>
    intro l m hn h
    obtain rfl : l = [] := by cases l with
      | nil => rfl
      | cons b t => simp at hn
    rw [parseP_eq, if_pos (show skipP [] = [] from rfl)]; simp
  | succ n ih =>
    intro l m hn h
    rw [parseP_eq] at h ⊢
    rw [← skip_filter l]
    have hsl := skipP_len l
    by_cases h0 : skipP l = []
    · rw [if_pos h0, h0]; simp
    rw [if_neg h0] at h ⊢
    by_cases hf : formP (skipP l)
    case neg => rw [if_neg hf] at h; cases h
    rw [if_pos hf] at h ⊢
    by_cases hb : m.length = 60 ∨ ¬ SegOk (segP (skipP l))
    · rw [if_pos hb] at h; cases h
    rw [if_neg hb] at h ⊢
    have hrl := rest_lt hf
    have hs : SegOk (segP (skipP l)) := Decidable.not_not.1 fun hh => hb (.inr hh)
    rw [ih _ _ (by omega) h]
    have hd := seg_dec hf
    conv => rhs; rw [hd]
    rw [List.filter_append, filter_seg hs]
    unfold encMsg
    simp
/-- What is read is a message. -/
theorem parse_ok : ∀ (n : Nat) (l : Txt) (m : List Segm), l.length ≤ n → MsgOk m → MsgOk (parseP m l).1 := by
  intro n
  induction n with
  | zero =>
    intro l m hn hm
    obtain rfl : l = [] := by cases l with
      | nil => rfl
      | cons b t => simp at hn
    rw [parseP_eq, if_pos (show skipP [] = [] from rfl)]; exact hm
  | succ n ih =>
    intro l m hn hm
    have hnil : MsgOk [] := ⟨Nat.zero_le _, fun s hs => by cases hs⟩
    have hsl := skipP_len l
    rw [parseP_eq]
    by_cases h0 : skipP l = []
    · rw [if_pos h0]; exact hm
    rw [if_neg h0]
    by_cases hf : formP (skipP l)
    case neg => rw [if_neg hf]; exact hnil
    rw [if_pos hf]
    by_cases hb : m.length = 60 ∨ ¬ SegOk (segP (skipP l))
    · rw [if_pos hb]; exact hnil
    rw [if_neg hb]
    have hrl := rest_lt hf
    refine ih _ _ (by omega) ⟨?_, fun s hs => ?_⟩
    · have := hm.1; rw [List.length_append]; show m.length + 1 ≤ 60; omega
    · rcases List.mem_append.1 hs with h | h
      · exact hm.2 s h
      · rw [List.mem_singleton.1 h]; exact Decidable.not_not.1 fun hh => hb (.inr hh)
end Go.Proofs.Ytifnmlocblanbaa
