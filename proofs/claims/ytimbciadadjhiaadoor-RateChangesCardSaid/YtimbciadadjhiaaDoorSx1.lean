/- A general tool, which names no program: what must be shown of a piece of code for symbolic values, on the canonical machine; each rule proved. -/
import Derived.Test.YtimbciadadjhiaaDoorAm19
set_option linter.unusedVariables false
set_option linter.unusedSimpArgs false
set_option linter.unusedSectionVars false
namespace Go.AM

variable {P : Program} {S : Sys}

/-! More fuel comes to the same. -/

def CallLe (c c' : CallF) : Prop := ∀ t args H r, c t args H = some r → c' t args H = some r
theorem CallLe.refl (c : CallF) : CallLe c c := fun _ _ _ _ h => h

theorem aOpRun_le {c c' : CallF} (h : CallLe c c') {ρ : Operand → Value} {o : Oper} {H : Heap} {r : Value × Heap} (e : aOpRun P c ρ o H = some r) : aOpRun P c' ρ o H = some r := by
  unfold aOpRun at e ⊢
  cases ho : aOp P ρ o H with
  | none => rw [ho] at e; cases e
  | some s =>
    rw [ho] at e
    cases s with
    | val v H' => exact e
    | enter f args => exact h _ _ _ _ e
    | round l args => exact h _ _ _ _ e

theorem aStep_le {c c' : CallF} (h : CallLe c c') {ops : Array Oper} {o : Oper} {a : Act} {H : Heap} {r : Value × Heap} (e : aStep P c ops o a H = some r) : aStep P c' ops o a H = some r := by
  unfold aStep at e ⊢
  cases hw : Region.wanted o (yielded ops a.tmps) with
  | true => rw [hw, cond_true] at e; rw [cond_true]; exact aOpRun_le h e
  | false => rw [hw, cond_false] at e; rw [cond_false]; exact e

theorem aOps_le {c c' : CallF} (h : CallLe c c') {ops : Array Oper} : ∀ {l : List Oper} {a : Act} {H : Heap} {r : Act × Heap}, aOps P c ops l a H = some r → aOps P c' ops l a H = some r
  | [], _, _, _, e => e
  | o :: l, a, H, r, e => by
    unfold aOps at e ⊢
    cases hs : aStep P c ops o a H with
    | none => rw [hs] at e; cases e
    | some p =>
      rw [hs] at e
      rw [aStep_le h hs]
      exact aOps_le h e

theorem aDraw_le {c c' : CallF} (h : CallLe c c') {ops : Array Oper} : ∀ {k i : Nat} {a : Act} {H : Heap} {r : Act × Heap}, aDraw P c ops k i a H = some r → aDraw P c' ops k i a H = some r
  | 0, _, _, _, _, e => e
  | k + 1, i, a, H, r, e => by
    unfold aDraw at e ⊢
    cases ho : ops[i]? with
    | none => rw [ho] at e; cases e
    | some o =>
      rw [ho] at e
      simp only [] at e ⊢
      cases hs : aStep P c ops o a (H.relow H.size) with
      | none => rw [hs] at e; cases e
      | some p =>
        obtain ⟨v, H1⟩ := p
        rw [hs] at e
        rw [aStep_le h hs]
        simp only [] at e ⊢
        obtain ⟨hb, e⟩ := cond_some e
        rw [hb, cond_true]
        exact aDraw_le h e

theorem thenN_le {r r' : ARes} {k k' : Act → Heap → ARes} (hr : ∀ x, r = some x → r' = some x) (hk : ∀ a H x, k a H = some x → k' a H = some x) {x : AExit × Act × Heap} (e : thenN r k = some x) : thenN r' k' = some x := by
  cases h : r with
  | none => rw [h] at e; cases e
  | some y =>
    rw [hr y h]
    rw [h] at e
    obtain ⟨ex, a, H⟩ := y
    cases ex with
    | normal => exact hk _ _ _ e
    | _ => exact e

theorem aCode_le {c c' : CallF} (h : CallLe c c') : ∀ {n n' : Nat} {x : Code} {a : Act} {H : Heap} {r : AExit × Act × Heap}, n ≤ n' → aCode P c n x a H = some r → aCode P c' n' x a H = some r
  | 0, _, _, _, _, _, _, e => by cases e
  | n + 1, 0, _, _, _, _, hn, _ => by omega
  | n + 1, n' + 1, x, a, H, r, hn, e => by
    have hn' : n ≤ n' := by omega
    unfold aCode at e ⊢
    cases x with
    | skip => exact e
    | label _ => exact e
    | region id ops dr =>
      simp only [] at e ⊢
      cases dr with
      | true =>
        simp only [cond_true] at e ⊢
        cases hd : aDraw P c ops ops.size 0 a H with
        | none => rw [hd] at e; cases e
        | some y => rw [hd] at e; rw [aDraw_le h hd]; exact e
      | false =>
        simp only [cond_false] at e ⊢
        cases hd : aOps P c ops ops.toList a H with
        | none => rw [hd] at e; cases e
        | some y => rw [hd] at e; rw [aOps_le h hd]; exact e
    | seq x y => exact thenN_le (fun _ => aCode_le h hn') (fun _ _ _ => aCode_le h hn') e
    | cond o x y =>
      simp only [] at e ⊢
      split at e
      · rename_i t ht
        exact aCode_le h hn' e
      · cases e
    | block id x =>
      simp only [] at e ⊢
      cases hx : aCode P c n x a H with
      | none => rw [hx] at e; cases e
      | some y => rw [hx] at e; rw [aCode_le h hn' hx]; exact e
    | loop x => exact thenN_le (fun _ => aCode_le h hn') (fun _ _ _ => aCode_le h hn') e
    | rangeFunc g ps as bd =>
      simp only [] at e ⊢
      split at e
      · rename_i f fa fb hf
        obtain ⟨v, H1, row, lr, hc, _⟩ := endL_some e
        rw [hc] at e
        rw [h _ _ _ _ hc]
        exact e
      · cases e
    | exit id => exact e
    | scope x =>
      simp only [] at e ⊢
      cases hx : aCode P c n x a H with
      | none => rw [hx] at e; cases e
      | some y => rw [hx] at e; rw [aCode_le h hn' hx]; exact e
    | goto l => exact e
    | ret => exact e
    | refuse w => exact e

theorem aFun_le {c c' : CallF} (h : CallLe c c') {n n' : Nat} (hn : n ≤ n') {f : FuncId} {args : List Value} {H : Heap} {r : Value × Heap} (e : aFun P c n f args H = some r) : aFun P c' n' f args H = some r := by
  unfold aFun at e ⊢
  split at e
  · rename_i fn hf
    split at e
    · rename_i b hb
      split at e
      · rename_i a H' hc
        rw [aCode_le h hn hc]; exact e
      · rename_i a H' hc
        rw [aCode_le h hn hc]; exact e
      · cases e
    · cases e
  · cases e

theorem aRound_le {c c' : CallF} {G : Nat} (h : CallLe c c') {n n' : Nat} (hn : n ≤ n') {l : Nat} {args : List Value} {H : Heap} {r : Value × Heap} (e : aRound P G c n l args H = some r) : aRound P G c' n' l args H = some r := by
  unfold aRound at e ⊢
  split at e
  · rename_i row hrow
    split at e
    · rename_i lr hl
      obtain ⟨hb, e⟩ := cond_some e
      rw [hb, cond_true]
      cases h1 : aCode P c n lr.assign { tmps := putAll lr.params.toList args lr.tmps, defers := [] } H with
      | none => rw [h1] at e; cases e
      | some y =>
        rw [h1] at e
        rw [aCode_le h hn h1]
        obtain ⟨ex, a, H1⟩ := y
        cases ex with
        | normal =>
          unfold beginR at e ⊢
          simp only [] at e ⊢
          cases hr : H1.rows.get l with
          | none => rw [hr] at e; cases e
          | some row1 =>
            rw [hr] at e
            simp only [] at e ⊢
            cases hl1 : row1.loop with
            | none => rw [hl1] at e; cases e
            | some lr1 =>
              rw [hl1] at e
              simp only [] at e ⊢
              cases hb1 : (ready lr1.state && !row1.ro) with
              | false => rw [hb1] at e; cases e
              | true =>
                rw [hb1, cond_true] at e
                rw [cond_true]
                cases h2 : aCode P c n lr.body a (H1.setLoop l row1 .busy lr1.pending) with
                | none => rw [h2] at e; cases e
                | some z => rw [h2] at e; rw [aCode_le h hn h2]; exact e
        | _ => exact e
    · cases e
  · cases e

theorem oCallN_le {P : Program} {S : Sys} : ∀ {D D' d d' : Nat}, D ≤ D' → d ≤ d' → CallLe (oCallN P S D d) (oCallN P S D' d')
  | _, _, 0, _, _, _ => fun _ _ _ _ e => by cases e
  | _, _, d + 1, 0, _, h => by omega
  | D, D', d + 1, d' + 1, hD, hd => fun t args H r e => by
    have ih : CallLe (oCallN P S D d) (oCallN P S D' d') := oCallN_le hD (Nat.le_of_succ_le_succ hd)
    cases t with
    | fn f =>
      unfold oCallN at e ⊢
      split at e
      · rename_i ho; rw [if_pos ho]; exact e
      · rename_i ho; rw [if_neg ho]; exact aFun_le ih hD e
    | rnd l => exact aRound_le ih hD e

/-! A call that comes to something. -/

def Runs (P : Program) (S : Sys) (t : Tgt) (args : List Value) (H : Heap) (v : Value) (H' : Heap) : Prop := ∃ D d, oCallN P S D d t args H = some (v, H')
def WCall (P : Program) (S : Sys) (t : Tgt) (args : List Value) (H : Heap) (K : Value → Heap → Prop) : Prop := ∃ v H', Runs P S t args H v H' ∧ K v H'

theorem Runs.unique {t : Tgt} {args : List Value} {H : Heap} {v v' : Value} {H1 H2 : Heap} (h : Runs P S t args H v H1) (k : Runs P S t args H v' H2) : v' = v ∧ H2 = H1 := by
  obtain ⟨D, d, e⟩ := h
  obtain ⟨D', d', e'⟩ := k
  have e1 := oCallN_le (P := P) (S := S) (Nat.le_max_left D D') (Nat.le_max_left d d') t args H _ e
  have e2 := oCallN_le (P := P) (S := S) (Nat.le_max_right D D') (Nat.le_max_right d d') t args H _ e'
  rw [e1] at e2
  cases e2
  exact ⟨rfl, rfl⟩

theorem Runs.sx {t : Tgt} {args : List Value} {H : Heap} {v : Value} {H' : Heap} (h : Runs P S t args H v H') (K : Value → Heap → Prop) : WCall P S t args H K = K v H' := by
  refine propext ⟨?_, fun k => ⟨v, H', h, k⟩⟩
  rintro ⟨v', H2, h2, k⟩
  obtain ⟨rfl, rfl⟩ := h.unique h2
  exact k

theorem WCall.mono {t : Tgt} {args : List Value} {H : Heap} {K K' : Value → Heap → Prop} (h : WCall P S t args H K) (hk : ∀ v H', K v H' → K' v H') : WCall P S t args H K' := by
  obtain ⟨v, H', hr, k⟩ := h
  exact ⟨v, H', hr, hk _ _ k⟩

end Go.AM
