/- A general tool, which names no program: a canonical machine for the model's own code (rows of cells by number, no world, no open order), proved: what it comes to is what every run comes to. -/
import Derived.Test.YtimbciadadjhiaaDoorAm4
import Derived.Laws.Build
set_option linter.unusedVariables false
set_option linter.unusedSimpArgs false
set_option linter.unusedSectionVars false
namespace Go.AM
open Go.RowKit (Below)

variable {P : Program} {n0 : Nat} {m : Map} {H : Heap} {w : World}

theorem VR.int_inv {k : IntKind} {i : Int} {v' : Value} (h : VR m (.int k i) v') : v' = .int k i := h.eq_of_plain rfl
theorem VR.bool_inv {b : Bool} {v' : Value} (h : VR m (.bool b) v') : v' = .bool b := h.eq_of_plain rfl
theorem VR.int {k : IntKind} {i : Int} : VR m (.int k i) (.int k i) := .plain rfl
theorem VR.bool {b : Bool} : VR m (.bool b) (.bool b) := .plain rfl

/-! Addresses of elements. -/

def aIndexAt (P : Program) (t : TypeId) (x ix : Value) : Option Value := match ix with
  | .int _ i => match P.underlying t, x with
    | some (.array n e), .pointer (some ⟨r, o, none⟩) => (P.info? e).bind fun inf => if 0 ≤ i ∧ i < (n : Int) then some (.pointer (some ⟨r, o + i.toNat * inf.size, none⟩)) else none
    | some (.slice e), .slice (some ⟨r, o, none⟩) n _ => (P.info? e).bind fun inf => if 0 ≤ i ∧ i < (n : Int) then some (.pointer (some ⟨r, o + i.toNat * inf.size, none⟩)) else none
    | _, _ => none
  | _ => none

theorem aIndexAt_sound {t : TypeId} {x x' ix ix' v : Value} (hx : VR m x x') (hi : VR m ix ix') (e : aIndexAt P t x ix = some v) :
    ∃ v', (Instr.indexAt t x' ix').run P w = .ok v' w ∧ VR m v v' := by
  unfold aIndexAt at e
  split at e
  · rename_i k i
    rw [hi.int_inv]
    split at e
    · rename_i n e' r o hu
      obtain ⟨rm, hm, rfl⟩ := hx.ptr_inv
      simp only [Option.bind_eq_some_iff] at e
      obtain ⟨inf, hinf, e⟩ := e
      split at e
      · rename_i hb
        cases e
        refine ⟨.pointer (some ⟨rm.blk, rm.sh + (o + i.toNat * inf.size), none⟩), ?_, .ptr hm⟩
        simp [Instr.indexAt, asIntOf, run_underlying' hu, Instr.sureAddr, hb, run_sizeOf' hinf, addr_add, Nat.add_assoc]
      · cases e
    · rename_i e' r o n c hu
      obtain ⟨rm, o', c', hm, rfl, hc⟩ := hx.slice_inv
      simp only [Option.bind_eq_some_iff] at e
      obtain ⟨inf, hinf, e⟩ := e
      split at e
      · rename_i hb
        cases e
        have ho : o' = rm.sh + o := by
          rcases hc with ⟨_, h1, _⟩ | ⟨_, h1, h2, ⟨h3, _⟩ | h3⟩
          · exact h1
          · exact h3
          · omega
        refine ⟨.pointer (some ⟨rm.blk, rm.sh + (o + i.toNat * inf.size), none⟩), ?_, .ptr hm⟩
        simp [Instr.indexAt, asIntOf, run_underlying' hu, hb, run_sizeOf' hinf, addr_add, Nat.add_assoc, ho]
      · cases e
    · cases e
  · cases e

/-! Slices of slices and of arrays. -/

def aBound (x : Value) (y : Nat) : Option Nat := match x with
  | .int _ i => if 0 ≤ i ∧ i ≤ (y : Int) then some i.toNat else none
  | _ => none

def aBounds (len cap : Nat) (low high max : Option Value) : Option (Nat × Nat × Nat) :=
  match (match max with | some v => aBound v cap | none => some cap) with
  | none => none
  | some mm => match (match high, max with | some v, _ => aBound v mm | none, none => some len | none, some _ => none) with
    | none => none
    | some hh => match (match low with | some v => aBound v hh | none => some 0) with
      | none => none
      | some ll => some (ll, hh, mm)

theorem aBound_run {x x' : Value} {y y' n : Nat} {c : BoundsCode} (hx : VR m x x') (e : aBound x y = some n) (hy : y ≤ y') : (Instr.sliceBound x' y' c).run P w = .ok n w ∧ n ≤ y := by
  unfold aBound at e
  split at e
  · rename_i k i
    rw [hx.int_inv]
    split at e
    · rename_i hb
      cases e
      have h2 : 0 ≤ i ∧ i ≤ (y' : Int) := by omega
      refine ⟨by simp [Instr.sliceBound, asIntOf, h2], by omega⟩
    · cases e
  · cases e

inductive OR (m : Map) : Option Value → Option Value → Prop
  | none : OR m none none
  | some {v v'} : VR m v v' → OR m (some v) (some v')

theorem aBounds_run {len cap cap' l h mm : Nat} {low low' high high' max max' : Option Value} {s : Bool} (hlow : OR m low low') (hhigh : OR m high high') (hmax : OR m max max')
    (hlc : len ≤ cap) (hcc : cap ≤ cap') (e : aBounds len cap low high max = some (l, h, mm)) :
    ∃ mm', (Instr.sliceBounds s len cap' low' high' max').run P w = .ok (l, h, mm') w ∧ l ≤ h ∧ h ≤ mm ∧ mm ≤ cap ∧ mm ≤ mm' ∧ mm' ≤ cap' ∧ (max = none → mm' = cap' ∧ mm = cap) ∧ (max ≠ none → mm' = mm) ∧ (cap = cap' → mm' = mm) := by
  unfold aBounds at e
  cases hmax with
  | none =>
    simp only [] at e
    cases hhigh with
    | none =>
      simp only [] at e
      cases hlow with
      | none =>
        cases e
        refine ⟨cap', ?_, by omega, by omega, by omega, by omega, by omega, by simp, by simp, by omega⟩
        simp [Instr.sliceBounds]
      | some hv =>
        simp only [] at e
        split at e
        · cases e
        · rename_i ll hll
          cases e
          obtain ⟨hr, hle⟩ := aBound_run (P := P) (w := w) (c := if Option.isSome (none : Option Value) then .slice3C else .sliceB) hv hll (Nat.le_refl _)
          refine ⟨cap', ?_, by omega, by omega, by omega, by omega, by omega, by simp, by simp, by omega⟩
          simp at hr
          simp [Instr.sliceBounds, hr]
    | some hv2 =>
      simp only [] at e
      split at e
      · cases e
      · rename_i hh hhh
        have hr2 := fun c => aBound_run (P := P) (w := w) (c := c) hv2 hhh hcc
        have hle2 := (hr2 .index).2
        cases hlow with
        | none =>
          cases e
          refine ⟨cap', ?_, by omega, by omega, by omega, by omega, by omega, by simp, by simp, by omega⟩
          simp [Instr.sliceBounds, (hr2 _).1]
        | some hv =>
          simp only [] at e
          split at e
          · cases e
          · rename_i ll hll
            cases e
            obtain ⟨hr, hle⟩ := aBound_run (P := P) (w := w) (c := .sliceB) hv hll (Nat.le_refl _)
            refine ⟨cap', ?_, by omega, by omega, by omega, by omega, by omega, by simp, by simp, by omega⟩
            simp [Instr.sliceBounds, (hr2 _).1, hr]
  | some hv3 =>
    simp only [] at e
    split at e
    · cases e
    · rename_i mm0 hmm
      have hr3 := fun c => aBound_run (P := P) (w := w) (c := c) hv3 hmm hcc
      have hle3 := (hr3 .index).2
      cases hhigh with
      | none => simp only [] at e; cases e
      | some hv2 =>
        simp only [] at e
        split at e
        · cases e
        · rename_i hh hhh
          have hr2 := fun c => aBound_run (P := P) (w := w) (c := c) hv2 hhh (Nat.le_refl _)
          have hle2 := (hr2 .index).2
          cases hlow with
          | none =>
            cases e
            refine ⟨mm, ?_, by omega, by omega, by omega, by omega, by omega, by simp, by simp, by omega⟩
            simp [Instr.sliceBounds, (hr2 _).1, (hr3 _).1]
          | some hv =>
            simp only [] at e
            split at e
            · cases e
            · rename_i ll hll
              cases e
              obtain ⟨hr, hle⟩ := aBound_run (P := P) (w := w) (c := .slice3C) hv hll (Nat.le_refl _)
              refine ⟨mm, ?_, by omega, by omega, by omega, by omega, by omega, by simp, by simp, by omega⟩
              simp [Instr.sliceBounds, (hr2 _).1, hr, (hr3 _).1]

def aSlice (P : Program) (H : Heap) (t : TypeId) (x : Value) (low high max : Option Value) : Option Value :=
  match P.underlying t, x with
  | some (.slice e), .slice (some ⟨r, o, none⟩) n c => match P.info? e, H.rows.get r with
    | some inf, some row => cond (Nat.ble n c) (match aBounds n c low high max with
      | some (l, h, mm) => cond row.exact
          (some (.slice (some ⟨r, cond (Nat.beq mm l) o (o + l * inf.size), none⟩) (h - l) (mm - l)))
          (cond (Nat.beq inf.size row.esz) (some (.slice (some ⟨r, o + l * inf.size, none⟩) (h - l) (mm - l))) none)
      | none => none) none
    | _, _ => none
  | some (.array n e), .pointer (some ⟨r, o, none⟩) => match P.info? e, H.rows.get r with
    | some inf, some row => cond row.exact (match aBounds n n low high max with
      | some (l, h, mm) => some (.slice (some ⟨r, cond (Nat.beq mm l) o (o + l * inf.size), none⟩) (h - l) (mm - l))
      | none => none) none
    | _, _ => none
  | _, _ => none

theorem if_eq_addr {b o l s mm : Nat} : (if mm = l then (⟨b, o, none⟩ : Addr) else ⟨b, o + l * s, none⟩) = ⟨b, cond (Nat.beq mm l) o (o + l * s), none⟩ := by
  split
  · rename_i h; rw [Trie.beq_tt h]; rfl
  · rename_i h; rw [Trie.beq_ff h]; rfl
theorem cond_add {b : Bool} {a x y : Nat} : cond b (a + x) (a + y) = a + cond b x y := by cases b <;> rfl

theorem aSlice_sound (h : HR n0 m H w) {t : TypeId} {x x' v : Value} {low low' high high' max max' : Option Value} (hx : VR m x x')
    (hlow : OR m low low') (hhigh : OR m high high') (hmax : OR m max max') (e : aSlice P H t x low high max = some v) :
    ∃ v', (Instr.sliceAt t x' low' high' max').run P w = .ok v' w ∧ VR m v v' := by
  unfold aSlice at e
  split at e
  · rename_i e' r o n c hu
    obtain ⟨rm, o', c', hm, rfl, hc⟩ := hx.slice_inv
    split at e
    · rename_i inf row hinf hrow
      have hf := h.rowOf hm hrow
      cases hnc : Nat.ble n c with
      | false => rw [hnc] at e; cases e
      | true =>
        rw [hnc, cond_true] at e
        have hnc := Nat.le_of_ble_eq_true hnc
        have hcc : c ≤ c' := by rcases hc with ⟨_, _, h1⟩ | ⟨_, _, h1, _⟩ <;> omega
        split at e
        · rename_i l hh mm hbo
          obtain ⟨mm', hr, h1, h2, h3, h4, h5, h6, h7, h8⟩ := aBounds_run (P := P) (w := w) (s := true) hlow hhigh hmax hnc hcc hbo
          have hrun : (Instr.sliceAt t (.slice (some ⟨rm.blk, o', none⟩) n c') low' high' max').run P w = .ok (.slice (some (if mm' = l then ⟨rm.blk, o', none⟩ else ⟨rm.blk, o' + l * inf.size, none⟩)) (hh - l) (mm' - l)) w := by
            simp only [Instr.sliceAt, Instr.slice, Sem.run_bind, run_underlying' hu, Result.andThen_ok, hr, run_sizeOf' hinf, Sem.run_pure]
            congr 2
            split <;> simp [addr_add]
          refine ⟨_, hrun, ?_⟩
          cases hre : row.exact with
          | true =>
            rw [hre, cond_true] at e
            cases e
            rcases hc with ⟨he, rfl, rfl⟩ | ⟨he, _⟩
            · have hmm := h8 rfl
              subst hmm
              rw [if_eq_addr]
              rw [show rm.sh + o + l * inf.size = rm.sh + (o + l * inf.size) by omega, cond_add]
              exact .sliceE hm he
            · rw [hf.ex, hre] at he; cases he
          | false =>
            rw [hre, cond_false] at e
            cases hes : Nat.beq inf.size row.esz with
            | false => rw [hes] at e; cases e
            | true =>
              rw [hes, cond_true] at e
              cases e
              have hes := Nat.eq_of_beq_eq_true hes
              rcases hc with ⟨he, _⟩ | ⟨he, ha, hb, hd⟩
              · rw [hf.ex, hre] at he; cases he
              · have hres : rm.esz = inf.size := by rw [hf.es, hes]
                by_cases hml : mm' = l
                · rw [if_pos hml]
                  exact .sliceL hm he (by omega) (by omega) (.inr (by omega))
                · rw [if_neg hml]
                  refine .sliceL hm he (by omega) (by omega) ?_
                  rcases hd with ⟨hd1, hd2⟩ | hd
                  · left
                    refine ⟨by omega, ?_⟩
                    rw [hres] at hd2 ⊢
                    have : l * inf.size + (mm' - l) * inf.size = mm' * inf.size := by rw [← Nat.add_mul]; congr 1; omega
                    have : mm' * inf.size ≤ c' * inf.size := Nat.mul_le_mul_right _ h5
                    omega
                  · exact absurd (by omega : mm' = l) hml
        · cases e
    · cases e
  · rename_i n e' r o hu
    obtain ⟨rm, hm, rfl⟩ := hx.ptr_inv
    split at e
    · rename_i inf row hinf hrow
      have hf := h.rowOf hm hrow
      cases hre : row.exact with
      | false => rw [hre] at e; cases e
      | true =>
        rw [hre, cond_true] at e
        split at e
        · rename_i l hh mm hbo
          cases e
          obtain ⟨mm', hr, h1, h2, h3, h4, h5, h6, h7, h8⟩ := aBounds_run (P := P) (w := w) (s := false) hlow hhigh hmax (Nat.le_refl n) (Nat.le_refl n) hbo
          have hmm := h8 rfl
          subst hmm
          refine ⟨.slice (some ⟨rm.blk, rm.sh + cond (Nat.beq mm' l) o (o + l * inf.size), none⟩) (hh - l) (mm' - l), ?_, .sliceE hm (by rw [hf.ex, hre])⟩
          simp only [Instr.sliceAt, Sem.run_bind, run_underlying' hu, Result.andThen_ok, Instr.sureAddr, Sem.run_pure, hr, run_sizeOf' hinf, addr_add]
          rw [if_eq_addr, show rm.sh + o + l * inf.size = rm.sh + (o + l * inf.size) by omega, cond_add]
        · cases e
    · cases e
  · cases e

end Go.AM
