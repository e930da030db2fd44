/- What is printed is read back. -/
import Derived.Test.YtifnmlocblanbaaP6
set_option linter.unusedVariables false
set_option linter.unusedSimpArgs false
set_option linter.unusedSectionVars false

namespace Go.Proofs.Ytifnmlocblanbaa
open Go Go.AM
set_option linter.unusedSimpArgs false
set_option linter.unusedVariables false

/-- A part that is printed, and something behind it that ends a part. -/
theorem partP_enc : ∀ (p : Txt) (t : Txt), (∀ b ∈ p, Pl b) → (t = [] ∨ ∃ c u, t = c :: u ∧ (c.toNat = 43 ∨ c.toNat = 58 ∨ c.toNat = 39)) → partP (encPart p ++ t) = (p, t)
  | [], t, _, ht => by
    have h0 : encPart [] = [] := rfl
    rw [h0, List.nil_append]
    rcases ht with rfl | ⟨c, u, rfl, hc⟩
    · rfl
    · rw [partP_stop (.inr ⟨by unfold Sg; omega, by cases u with
        | nil => rfl
        | cons d u => unfold markP; simp; omega⟩)]
  | b :: p, t, hp, ht => by
    have ih := partP_enc p t (fun x hx => hp x (by simp [hx])) ht
    have he : encPart (b :: p) = (if Sg b then [63, b] else [b]) ++ encPart p := by unfold encPart; simp
    rw [he]
    by_cases hs : Sg b
    · rw [if_pos hs]
      show partP (63 :: b :: (encPart p ++ t)) = _
      rw [partP_mark (by unfold markP; simp [hs]), ih]
    · rw [if_neg hs]
      show partP (b :: (encPart p ++ t)) = _
      rw [partP_plain (hp b (by simp)) hs, ih]

theorem encParts_cons (c : UInt8) (p : Txt) (ps : List Txt) : encParts c (p :: ps) = c :: (encPart p ++ encParts c ps) := by unfold encParts; simp
theorem elemP_enc : ∀ (ps : List Txt) (p t : Txt), (∀ q ∈ p :: ps, ∀ b ∈ q, Pl b) → (t = [] ∨ ∃ c u, t = c :: u ∧ (c.toNat = 43 ∨ c.toNat = 39)) → elemP (encPart p ++ (encParts 58 ps ++ t)) = (p :: ps, t)
  | [], p, t, hp, ht => by
    have h0 : encParts 58 [] = [] := rfl
    rw [h0, List.nil_append, elemP_eq, partP_enc p t (hp p (by simp)) (ht.imp id fun ⟨c, u, h1, h2⟩ => ⟨c, u, h1, by omega⟩)]
    have : startsWith 58 t = false := by
      rcases ht with rfl | ⟨c, u, rfl, hc⟩
      · rfl
      · show (c.toNat == 58) = false
        simp; omega
    show (if startsWith 58 t = true then _ else _) = _
    rw [this]; rfl
  | q :: ps, p, t, hp, ht => by
    have ih := elemP_enc ps q t (fun x hx => hp x (List.mem_cons_of_mem _ hx)) ht
    rw [encParts_cons, elemP_eq]
    rw [show encPart p ++ (58 :: (encPart q ++ encParts 58 ps) ++ t) = encPart p ++ (58 :: (encPart q ++ (encParts 58 ps ++ t))) by simp]
    rw [partP_enc p _ (hp p (by simp)) (.inr ⟨58, _, rfl, by decide⟩)]
    show (if startsWith 58 (58 :: (encPart q ++ (encParts 58 ps ++ t))) = true then _ else _) = _
    rw [if_pos (show startsWith 58 (58 :: (encPart q ++ (encParts 58 ps ++ t))) = true from rfl)]
    show (p :: (elemP (encPart q ++ (encParts 58 ps ++ t))).1, (elemP (encPart q ++ (encParts 58 ps ++ t))).2) = _
    rw [ih]
theorem elemsP_enc : ∀ (es : List (List Txt)) (t : Txt), (∀ e ∈ es, e ≠ [] ∧ ∀ q ∈ e, ∀ b ∈ q, Pl b) → elemsP (es.flatMap encElem ++ 39 :: t) = (es, 39 :: t)
  | [], t, _ => by
    rw [List.flatMap_nil, List.nil_append, elemsP_eq]
    rfl
  | e :: es, t, h => by
    have ih := elemsP_enc es t fun x hx => h x (by simp [hx])
    obtain ⟨hne, hpl⟩ := h e (by simp)
    cases e with
    | nil => exact absurd rfl hne
    | cons p ps =>
      have he : encElem (p :: ps) = 43 :: (encPart p ++ encParts 58 ps) := by simp [encElem]
      rw [List.flatMap_cons, he]
      rw [show (43 :: (encPart p ++ encParts 58 ps) ++ es.flatMap encElem) ++ 39 :: t = 43 :: (encPart p ++ (encParts 58 ps ++ (es.flatMap encElem ++ 39 :: t))) by simp]
      rw [elemsP_eq, if_pos (show startsWith 43 (43 :: _) = true from rfl)]
      show ((elemP (encPart p ++ (encParts 58 ps ++ (es.flatMap encElem ++ 39 :: t)))).1 :: _, _) = _
      have hend : (es.flatMap encElem ++ 39 :: t) = [] ∨ ∃ c u, (es.flatMap encElem ++ 39 :: t) = c :: u ∧ (c.toNat = 43 ∨ c.toNat = 39) := by
        right
        cases es with
        | nil => exact ⟨39, t, rfl, by decide⟩
        | cons e2 es2 =>
          have h2 := h e2 (by simp)
          cases e2 with
          | nil => exact absurd rfl h2.1
          | cons p2 ps2 => exact ⟨43, _, by rw [List.flatMap_cons]; simp [encElem]; rfl, by decide⟩
      have h3 := elemP_enc ps p _ hpl hend
      show ((elemP (encPart p ++ (encParts 58 ps ++ (es.flatMap encElem ++ 39 :: t)))).1 :: (elemsP (elemP (encPart p ++ (encParts 58 ps ++ (es.flatMap encElem ++ 39 :: t)))).2).1, (elemsP (elemP (encPart p ++ (encParts 58 ps ++ (es.flatMap encElem ++ 39 :: t)))).2).2) = _
      rw [h3, ih]

theorem encSeg_read {s : Segm} (h : SegOk s) (t : Txt) : skipP (encSeg s ++ t) = encSeg s ++ t ∧ segP (encSeg s ++ t) = s ∧ restP (encSeg s ++ t) = 39 :: t := by
  obtain ⟨⟨h1, h2, h3⟩, h4, h5⟩ := h
  have he : encSeg s ++ t = s.1 ++ (s.2.flatMap encElem ++ 39 :: t) := by unfold encSeg; simp
  have hup : ∀ b ∈ s.1, upB b = true := fun b hb => decide_eq_true (h3 b hb)
  have hnx : ∃ c u, s.2.flatMap encElem ++ 39 :: t = c :: u ∧ upB c = false := by
    cases hs : s.2 with
    | nil => exact ⟨39, t, rfl, by decide⟩
    | cons e es =>
      have h6 := h5 e (by rw [hs]; simp)
      cases e with
      | nil => have := h6.1; simp at this
      | cons p ps => exact ⟨43, _, by rw [List.flatMap_cons]; simp [encElem]; rfl, by decide⟩
  obtain ⟨c, u, hcu, hc⟩ := hnx
  have htk : (encSeg s ++ t).takeWhile upB = s.1 := by
    rw [he, List.takeWhile_append_of_pos hup, hcu, List.takeWhile_cons, hc]; simp
  have hdr : (encSeg s ++ t).dropWhile upB = s.2.flatMap encElem ++ 39 :: t := by
    rw [he, List.dropWhile_append_of_pos hup, hcu, List.dropWhile_cons, hc]; simp
  have hel := elemsP_enc s.2 t fun e hm => ⟨by
    have := (h5 e hm).1
    intro h0; rw [h0] at this; simp at this, fun q hq => ((h5 e hm).2.2 q hq).2⟩
  refine ⟨?_, ?_, ?_⟩
  · cases hs : s.1 with
    | nil => rw [hs] at h1; simp at h1
    | cons b r =>
      have hb := h3 b (by rw [hs]; simp)
      rw [he, hs]
      unfold skipP feed
      rw [List.cons_append, List.dropWhile_cons]
      have : (b.toNat == 10) = false := by unfold Up at hb; simp; omega
      rw [this]; simp
  · unfold segP tagP
    rw [htk, hdr, hel]
  · unfold restP
    rw [hdr, hel]
theorem parseP_enc : ∀ (w m : List Segm), (∀ s ∈ w, SegOk s) → m.length + w.length ≤ 60 → parseP m (encMsg w) = (m ++ w, 0, 0)
  | [], m, _, _ => by
    rw [parseP_eq, if_pos (show skipP (encMsg []) = [] from rfl), List.append_nil]
  | s :: w, m, h, hl => by
    have hs := h s (by simp)
    have ih := parseP_enc w (m ++ [s]) (fun x hx => h x (by simp [hx])) (by simp at hl ⊢; omega)
    have he : encMsg (s :: w) = encSeg s ++ encMsg w := by unfold encMsg; simp
    obtain ⟨h1, h2, h3⟩ := encSeg_read hs (encMsg w)
    rw [he, parseP_eq, h1]
    have hne : ¬ encSeg s ++ encMsg w = [] := by
      unfold encSeg; simp
    have hf : formP (encSeg s ++ encMsg w) := ⟨by rw [h3]; rfl, by have := hs.1; rw [← h2] at this; exact this⟩
    rw [if_neg hne, if_pos hf, h2, h3, if_neg (by rintro (h | h); · simp at hl; omega
                                                  · exact h hs)]
    show parseP (m ++ [s]) (encMsg w) = _
    rw [ih]; simp
end Go.Proofs.Ytifnmlocblanbaa
