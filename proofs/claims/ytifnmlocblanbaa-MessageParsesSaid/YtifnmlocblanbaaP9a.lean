/- The reference scans a segment: words and facts. -/
import Derived.Test.YtifnmlocblanbaaP8
set_option linter.unusedVariables false
set_option linter.unusedSimpArgs false
set_option linter.unusedSectionVars false

namespace Go.Proofs.Ytifnmlocblanbaa
open Go Go.AM
set_option maxRecDepth 10000
set_option linter.unusedSimpArgs false
set_option linter.unusedVariables false

theorem alS (H : Heap) : aAlloc Try.prog H 55 = some (.pointer (some ⟨H.size, 0, none⟩), H.newExact [str [], .slice none 0 0, .int .i64 0, .bool false] 55) := by kernel_rfl
theorem bdS (l : Txt) (a : Option Addr) (n c : Nat) : aBuild Try.prog 55 [(0, .agg ⟨[str l, .slice a n c]⟩)] = some (.agg ⟨[str l, .slice a n c, .int .i64 0, .bool false]⟩) := by kernel_rfl
theorem ldSc (H : Heap) (r o : Nat) : aLoad Try.prog H 55 (.pointer (some ⟨r, o, none⟩)) = (H.read r o 4).map fun l => .agg ⟨l⟩ := by kernel_rfl
theorem faS0 (r o : Nat) : aFieldAt Try.prog 55 0 (.pointer (some ⟨r, o, none⟩)) = some (.pointer (some ⟨r, o + 0, none⟩)) := by kernel_rfl
theorem faS1 (r o : Nat) : aFieldAt Try.prog 55 1 (.pointer (some ⟨r, o, none⟩)) = some (.pointer (some ⟨r, o + 2, none⟩)) := by kernel_rfl
theorem faS2 (r o : Nat) : aFieldAt Try.prog 55 2 (.pointer (some ⟨r, o, none⟩)) = some (.pointer (some ⟨r, o + 3, none⟩)) := by kernel_rfl
theorem infoSc : ∃ i, Try.prog.info? 55 = some i ∧ i.size = 4 := Option.map_eq_some_iff.1 (show (Try.prog.info? 55).map (·.size) = some 4 by kernel_rfl)
theorem infoI : ∃ i, Try.prog.info? 3 = some i ∧ i.size = 1 := Option.map_eq_some_iff.1 (show (Try.prog.info? 3).map (·.size) = some 1 by kernel_rfl)
theorem infoBo : ∃ i, Try.prog.info? 4 = some i ∧ i.size = 1 := Option.map_eq_some_iff.1 (show (Try.prog.info? 4).map (·.size) = some 1 by kernel_rfl)
theorem sliceFT {l : Txt} {i j : Nat} (h : i ≤ j) (hj : j ≤ l.length) : aSliceS Try.prog 9 ⟨⟨l⟩⟩ (some (.int .i64 (i : Int))) (some (.int .i64 (j : Int))) = some (str ((l.drop i).take (j - i))) := by
  have := slice_str Try.underlying9 (l := l) (k := .i64) (k' := .i64) (i := (i : Int)) (j := (j : Int)) (by omega) (by omega) (by omega)
  rwa [Int.toNat_natCast, Int.toNat_natCast] at this
theorem take_up {l w t : Txt} (h : l = w ++ t) (hw : ∀ b ∈ w, Up b) (ht : ∀ b u, t = b :: u → ¬ Up b) : l.takeWhile upB = w ∧ l.dropWhile upB = t := by
  subst h
  have hw' : ∀ b ∈ w, upB b = true := fun b hb => decide_eq_true (hw b hb)
  rw [List.takeWhile_append_of_pos hw', List.dropWhile_append_of_pos hw']
  cases t with
  | nil => simp
  | cons b u =>
    have : upB b = false := decide_eq_false (ht b u rfl)
    rw [List.takeWhile_cons, List.dropWhile_cons, this]; simp

def UpTo (l : Txt) (k n : Nat) : Prop := ∀ b ∈ (l.drop k).take (n - k), Up b
def EndAt (l : Txt) (n : Nat) : Prop := ∀ b u, l.drop n = b :: u → ¬ Up b
/-- What the scan comes to. -/
def ScanPost (l : Txt) (k : Nat) (H : Heap) (u : Value) (H' : Heap) : Prop := ∃ (tg : Txt) (a : Option Addr) (n c z : Nat), u = .agg ⟨[str tg, .slice a n c, .int .i64 (z : Int), .bool (decide (formP (l.drop k)))]⟩ ∧ Keep H H' ∧
  (formP (l.drop k) → tg = tagP (l.drop k) ∧ (elemsE.from H.size).At H' (elemsP ((l.drop k).dropWhile upB)).1 [.slice a n c] ∧ z ≤ l.length ∧ l.drop z = (restP (l.drop k)).tail ∧ k < z)
/-- The elements up to here. -/
def Elems (l : Txt) (n n' : Nat) (es : List (List Txt)) : Prop := elemsP (l.drop n) = (es ++ (elemsP (l.drop n')).1, (elemsP (l.drop n')).2)
def ElemsEnd (l : Txt) (n n' : Nat) (es : List (List Txt)) : Prop := elemsP (l.drop n) = (es, l.drop n')
/-- The parts up to here; more of them or not. -/
def Parts (l : Txt) (n n' : Nat) (ps : List Txt) (b : Bool) : Prop := (b = true ∧ elemP (l.drop n) = (ps ++ (elemP (l.drop (n' + 1))).1, (elemP (l.drop (n' + 1))).2)) ∨ (b = false ∧ elemP (l.drop n) = (ps, l.drop n'))
theorem ok_of_start {r : Txt} {c : Nat} (h : startsWith c r = true) (hc : c = 43 ∨ c = 58 ∨ c = 39) : okR r = true := by
  unfold okR; rcases hc with rfl | rfl | rfl <;> rw [h] <;> simp
/-- A part that does not end as it must: the segment has not the form. -/
theorem scan_bad {l : Txt} {k n n' n2 : Nat} {es : List (List Txt)} {ps : List Txt} (hf : decide (formP (l.drop k)) = startsWith 39 (elemsP (l.drop n)).2) (he : Elems l n n' es) (h43 : startsWith 43 (l.drop n') = true)
    (htl : (l.drop n').tail = l.drop (n' + 1)) (hp : Parts l (n' + 1) n2 ps true) (hb : okR (partP (l.drop (n2 + 1))).2 = false) : decide (formP (l.drop k)) = false := by
  have h58 : startsWith 58 (partP (l.drop (n2 + 1))).2 = false := by
    cases h : startsWith 58 (partP (l.drop (n2 + 1))).2 with
    | false => rfl
    | true => rw [ok_of_start h (by omega)] at hb; cases hb
  have h39 : startsWith 39 (partP (l.drop (n2 + 1))).2 = false := by
    cases h : startsWith 39 (partP (l.drop (n2 + 1))).2 with
    | false => rfl
    | true => rw [ok_of_start h (by omega)] at hb; cases hb
  have h433 : startsWith 43 (partP (l.drop (n2 + 1))).2 = false := by
    cases h : startsWith 43 (partP (l.drop (n2 + 1))).2 with
    | false => rfl
    | true => rw [ok_of_start h (by omega)] at hb; cases hb
  rcases hp with ⟨_, hp⟩ | ⟨h, _⟩
  case inr => cases h
  have e1 : (elemP (l.drop (n2 + 1))).2 = (partP (l.drop (n2 + 1))).2 := by rw [elemP_eq, h58]; rfl
  have e2 : (elemsP (l.drop n')).2 = (partP (l.drop (n2 + 1))).2 := by
    rw [elemsP_eq, if_pos h43, htl, hp]
    show (elemsP (elemP (l.drop (n2 + 1))).2).2 = _
    rw [e1, elemsP_eq, h433]
    rfl
  unfold Elems at he
  rw [hf, he]
  show startsWith 39 (elemsP (l.drop n')).2 = false
  rw [e2, h39]
theorem parts_step {l : Txt} {n n2 z : Nat} {ps : List Txt} (hp : Parts l n n2 ps true) (hz : l.drop z = (partP (l.drop (n2 + 1))).2) (htl : (l.drop z).tail = l.drop (z + 1)) : Parts l n z (ps ++ [(partP (l.drop (n2 + 1))).1]) (startsWith 58 (l.drop z)) := by
  rcases hp with ⟨_, hp⟩ | ⟨h, _⟩
  case inr => cases h
  rw [elemP_eq (l.drop (n2 + 1)), ← hz] at hp
  cases h58 : startsWith 58 (l.drop z) with
  | true =>
    rw [h58, if_pos rfl, htl] at hp
    exact .inl ⟨rfl, by rw [hp]; simp⟩
  | false =>
    rw [h58] at hp
    exact .inr ⟨rfl, by rw [hp]; rfl⟩
theorem elems_step {l : Txt} {n n' n2 : Nat} {es : List (List Txt)} {ps : List Txt} (he : Elems l n n' es) (h43 : startsWith 43 (l.drop n') = true) (htl : (l.drop n').tail = l.drop (n' + 1)) (hp : Parts l (n' + 1) n2 ps false) : Elems l n n2 (es ++ [ps]) := by
  rcases hp with ⟨h, _⟩ | ⟨_, hp⟩
  case inl => cases h
  unfold Elems at he ⊢
  rw [elemsP_eq (l.drop n'), if_pos h43, htl, hp] at he
  rw [he]; simp
theorem elems_end {l : Txt} {n n' : Nat} {es : List (List Txt)} (he : Elems l n n' es) (h43 : startsWith 43 (l.drop n') = false) : ElemsEnd l n n' es := by
  unfold Elems at he
  unfold ElemsEnd
  rw [elemsP_eq (l.drop n'), h43] at he
  rw [he]; simp
theorem tail_drop {l : Txt} {n : Nat} : (l.drop n).tail = l.drop (n + 1) := by rw [List.tail_drop]
/-- The result is laid into its cell. -/
theorem scan_fin {H Hb H6 : Heap} {r1 : Nat} {w : Txt} {a : Option Addr} {n c : Nat} {z : Int} {b : Bool} (hg : Grp H) (hkH : Keep H Hb) (hk : KeepX r1 Hb H6) (hr : H.size ≤ r1) (ho : Own H6 r1 55 [str w, .slice a n c, .int .i64 z, .bool b]) (hoa : Own H6 H.size 55 [str [], .slice none 0 0, .int .i64 0, .bool false]) :
    ∃ H7, aStore Try.prog H6 55 (.pointer (some ⟨H.size, 0, none⟩)) (.agg ⟨[str w, .slice a n c, .int .i64 z, .bool b]⟩) = some H7 ∧ H6.read r1 0 4 = some [str w, .slice a n c, .int .i64 z, .bool b] ∧ H7.read H.size 0 4 = some [str w, .slice a n c, .int .i64 z, .bool b] ∧ Keep H H7 ∧ KeepX H.size H6 H7 := by
  obtain ⟨isc, hisc, hssc⟩ := infoSc
  obtain ⟨H7, f7, ho7, hk7, _⟩ := hoa.storeX (o := 0) (t := 55) hisc (v := .agg ⟨[str w, .slice a n c, .int .i64 z, .bool b]⟩) (new := [str w, .slice a n c, .int .i64 z, .bool b]) rfl hssc rfl (by simp)
  refine ⟨H7, f7, ?_, ?_, hk7.base H hg (hk.base H hg hkH hr) (Nat.le_refl _), hk7⟩
  · have := ho.read (o := 0) (n := 4) (by simp)
    simpa using this
  · have := ho7.read (o := 0) (n := 4) (by simp [splice])
    simpa [splice] using this
end Go.Proofs.Ytifnmlocblanbaa
