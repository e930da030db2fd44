/- Messages as lists of bytes: what is read, what is printed. -/
import Derived.Test.YtifnmlocblanbaaGj
set_option linter.unusedVariables false
set_option linter.unusedSimpArgs false
set_option linter.unusedSectionVars false

namespace Go.Proofs.Ytifnmlocblanbaa
open Go Go.AM
set_option maxRecDepth 10000
set_option linter.unusedSimpArgs false
set_option linter.unusedVariables false

def Up (b : UInt8) : Prop := 65 ≤ b.toNat ∧ b.toNat ≤ 90
instance (b : UInt8) : Decidable (Up b) := by unfold Up; infer_instance
def Pl (b : UInt8) : Prop := 32 ≤ b.toNat ∧ b.toNat ≤ 126
instance (b : UInt8) : Decidable (Pl b) := by unfold Pl; infer_instance
def Sg (b : UInt8) : Prop := b.toNat = 43 ∨ b.toNat = 58 ∨ b.toNat = 39 ∨ b.toNat = 63
instance (b : UInt8) : Decidable (Sg b) := by unfold Sg; infer_instance

abbrev Txt := List UInt8
abbrev Segm := Txt × List (List Txt)

/-- How many at the beginning are so. -/
def cnt (p : UInt8 → Bool) (l : Txt) : Nat := (l.takeWhile p).length

/-- A part, and what is behind it. -/
def partP : Txt → Txt × Txt
  | [] => ([], [])
  | c :: l => if Pl c then
      (if Sg c then
        (if c.toNat = 63 then
          (match l with
          | [] => ([], [c])
          | d :: l' => if Sg d then (d :: (partP l').1, (partP l').2) else ([], c :: d :: l'))
        else ([], c :: l))
      else (c :: (partP l).1, (partP l).2))
    else ([], c :: l)

theorem partP_len : ∀ (n : Nat) (l : Txt), l.length ≤ n → (partP l).2.length ≤ l.length
  | _, [], _ => by simp [partP]
  | 0, c :: l, h => by simp at h
  | n + 1, c :: l, h => by
    unfold partP
    split
    · split
      · split
        · split
          · simp
          · rename_i d l'
            split
            · have := partP_len n l' (by simp at h; omega)
              simp; omega
            · simp
        · simp
      · have := partP_len n l (by simp at h; omega)
        simp; omega
    · simp

def startsWith (c : Nat) : Txt → Bool
  | [] => false
  | b :: _ => b.toNat == c

/-- An element, and what is behind it. -/
def elemP (l : Txt) : List Txt × Txt :=
  if h : startsWith 58 (partP l).2 = true then ((partP l).1 :: (elemP (partP l).2.tail).1, (elemP (partP l).2.tail).2) else ([(partP l).1], (partP l).2)
termination_by l.length
decreasing_by
  all_goals
    have h1 := partP_len l.length l (Nat.le_refl _)
    cases hp : (partP l).2 with
    | nil => rw [hp] at h; cases h
    | cons b r => rw [hp] at h1; simp at h1 ⊢; omega

theorem elemP_len (l : Txt) : (elemP l).2.length ≤ l.length := by
  induction hn : l.length using Nat.strongRecOn generalizing l with
  | _ n ih =>
    have h1 := partP_len l.length l (Nat.le_refl _)
    rw [elemP]
    split
    · rename_i h
      cases hp : (partP l).2 with
      | nil => rw [hp] at h; cases h
      | cons b r =>
        rw [hp] at h1
        have := ih r.length (by simp at h1; omega) r rfl
        simp at h1 ⊢
        omega
    · simp; omega

/-- The elements, and what is behind them. -/
def elemsP (l : Txt) : List (List Txt) × Txt :=
  if h : startsWith 43 l = true then ((elemP l.tail).1 :: (elemsP (elemP l.tail).2).1, (elemsP (elemP l.tail).2).2) else ([], l)
termination_by l.length
decreasing_by
  all_goals
    have h1 := elemP_len l.tail
    cases l with
    | nil => cases h
    | cons b r => simp at h1 ⊢; omega

theorem elemsP_len (l : Txt) : (elemsP l).2.length ≤ l.length := by
  induction hn : l.length using Nat.strongRecOn generalizing l with
  | _ n ih =>
    rw [elemsP]
    split
    · rename_i h
      cases l with
      | nil => cases h
      | cons b r =>
        have h1 := elemP_len r
        have := ih (elemP r).2.length (by simp at hn; omega) (elemP r).2 rfl
        simp at hn ⊢
        omega
    · simp; omega

def upB (b : UInt8) : Bool := decide (Up b)
def plB (b : UInt8) : Bool := decide (Pl b)
def TagOk (t : Txt) : Prop := 2 ≤ t.length ∧ t.length ≤ 3 ∧ ∀ b ∈ t, Up b
instance (t : Txt) : Decidable (TagOk t) := by unfold TagOk; infer_instance
def PartOk (p : Txt) : Prop := p.length ≤ 20 ∧ ∀ b ∈ p, Pl b
instance (t : Txt) : Decidable (PartOk t) := by unfold PartOk; infer_instance
def ElemOkP (e : List Txt) : Prop := 1 ≤ e.length ∧ e.length ≤ 5 ∧ ∀ p ∈ e, PartOk p
instance (t : List Txt) : Decidable (ElemOkP t) := by unfold ElemOkP; infer_instance
def SegOk (s : Segm) : Prop := TagOk s.1 ∧ s.2.length ≤ 8 ∧ ∀ e ∈ s.2, ElemOkP e
instance (t : Segm) : Decidable (SegOk t) := by unfold SegOk; infer_instance
def MsgOk (m : List Segm) : Prop := m.length ≤ 60 ∧ ∀ s ∈ m, SegOk s
instance (t : List Segm) : Decidable (MsgOk t) := by unfold MsgOk; infer_instance

/-- A segment: its tag and elements; whether it has the form; what is behind. -/
def tagP (l : Txt) : Txt := l.takeWhile upB
def segP (l : Txt) : Segm := (tagP l, (elemsP (l.dropWhile upB)).1)
def restP (l : Txt) : Txt := (elemsP (l.dropWhile upB)).2
def formP (l : Txt) : Prop := startsWith 39 (restP l) = true ∧ TagOk (tagP l)
instance (l : Txt) : Decidable (formP l) := by unfold formP; infer_instance

theorem restP_len (l : Txt) : (restP l).length ≤ l.length := by
  have h1 := elemsP_len (l.dropWhile upB)
  have h2 : (l.dropWhile upB).length ≤ l.length := (List.dropWhile_sublist _).length_le
  unfold restP
  omega
theorem rest_lt {l : Txt} (h : formP l) : (restP l).tail.length < l.length := by
  have h1 := restP_len l
  obtain ⟨h, _⟩ := h
  cases hp : restP l with
  | nil => rw [hp] at h; cases h
  | cons b r => rw [hp] at h1; simp at h1 ⊢; omega

def feed (b : UInt8) : Bool := b.toNat == 10
def skipP (l : Txt) : Txt := l.dropWhile feed
theorem skipP_len (l : Txt) : (skipP l).length ≤ l.length := (List.dropWhile_sublist _).length_le

/-- What is read of a text: the segments; or none, the number of segments and the error (1: form, 2: limit). -/
def parseP (m : List Segm) (l : Txt) : List Segm × Nat × Nat :=
  if skipP l = [] then (m, 0, 0)
  else if h : formP (skipP l) then
    (if m.length = 60 ∨ ¬ SegOk (segP (skipP l)) then ([], m.length, 2) else parseP (m ++ [segP (skipP l)]) (restP (skipP l)).tail)
  else ([], m.length, 1)
termination_by l.length
decreasing_by
  have h1 := rest_lt h
  have h2 := skipP_len l
  omega

/-! What is printed. -/
def encPart (p : Txt) : Txt := p.flatMap fun b => if Sg b then [63, b] else [b]
def encParts (c : UInt8) (ps : List Txt) : Txt := ps.flatMap fun p => c :: encPart p
def encElem : List Txt → Txt
  | [] => []
  | p :: ps => 43 :: encPart p ++ encParts 58 ps
def encSeg (s : Segm) : Txt := s.1 ++ s.2.flatMap encElem ++ [39]
def encMsg (m : List Segm) : Txt := m.flatMap encSeg
end Go.Proofs.Ytifnmlocblanbaa
