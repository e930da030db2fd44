/- A general tool, which names no program: what must be shown of a piece of code for symbolic values, on the canonical machine; each rule proved. -/
import Derived.Test.YtimbciadadjhiaaDoorSx1
set_option linter.unusedVariables false
set_option linter.unusedSimpArgs false
set_option linter.unusedSectionVars false
namespace Go.AM

/-! What must be shown of a piece of code: a function of the code, for symbolic values. -/

abbrev F := Nat → Value
def upd (ρ : F) (d : Nat) (v : Value) : F := fun t => if t = d then v else ρ t
theorem upd_apply (ρ : F) (d : Nat) (v : Value) (t : Nat) : upd ρ d v t = if t = d then v else ρ t := rfl

def ev (ρ : F) : Operand → Value
  | .tmp t => ρ t
  | .const v => v
  | .global g => .pointer (some ⟨g, 0, none⟩)
  | .func f => .func (.func f) #[] #[]
theorem ev_tmp (ρ : F) (t : Nat) : ev ρ (.tmp t) = ρ t := rfl
theorem ev_const (ρ : F) (v : Value) : ev ρ (.const v) = v := rfl
theorem ev_global (ρ : F) (g : Nat) : ev ρ (.global g) = .pointer (some ⟨g, 0, none⟩) := rfl
theorem ev_func (ρ : F) (f : FuncId) : ev ρ (.func f) = .func (.func f) #[] #[] := rfl

structure Fr (N : Nat) (ρ : F) (a : Act) : Prop where
  n : a.tmps.size = N
  get : ∀ t, a.tmps.getD t undef = ρ t

theorem Fr.eval {N : Nat} {ρ : F} {a : Act} (h : Fr N ρ a) : a.eval = ev ρ := by
  funext x
  cases x with
  | tmp t => exact h.get t
  | _ => rfl

theorem Fr.put {N : Nat} {ρ : F} {a : Act} (h : Fr N ρ a) {d : Nat} (hd : d < N) (v : Value) : Fr N (upd ρ d v) (a.put (some d) v) := by
  refine ⟨by rw [put_size]; exact h.n, fun t => ?_⟩
  rw [put_getD, upd_apply]
  by_cases ht : t = d
  · subst ht
    rw [if_pos ⟨rfl, by rw [h.n]; exact hd⟩, if_pos rfl]
  · rw [if_neg (fun hc => ht (by cases hc.1; rfl)), if_neg ht]
    exact h.get t

/-! Words of a step. -/

def sxOpt {α : Type} (x : Option α) (K : α → Prop) : Prop := ∃ v, x = some v ∧ K v
theorem sxOpt_some {α : Type} (v : α) (K : α → Prop) : sxOpt (some v) K = K v := by
  refine propext ⟨?_, fun h => ⟨v, rfl, h⟩⟩
  rintro ⟨u, hu, h⟩
  cases hu; exact h
theorem sxOpt_ite {α : Type} (c : Prop) [Decidable c] (v : α) (K : α → Prop) : sxOpt (if c then some v else none) K = (c ∧ K v) := by
  by_cases h : c
  · rw [if_pos h, sxOpt_some]; simp [h]
  · rw [if_neg h]
    refine propext ⟨?_, fun k => absurd k.1 h⟩
    rintro ⟨u, hu, _⟩; cases hu
@[congr] theorem sxOpt_congr {α : Type} {x y : Option α} {K : α → Prop} (h : x = y) : sxOpt x K = sxOpt y K := by rw [h]

def intBin (op : BinOp) (k : IntKind) (a b : Int) : Option Value := match op with
  | .add => some (.int k (k.wrap (a + b)))
  | .sub => some (.int k (k.wrap (a - b)))
  | .mul => some (.int k (k.wrap (a * b)))
  | .quo => if b ≠ 0 then some (.int k (k.wrap (a.tdiv b))) else none
  | .rem => if b ≠ 0 then some (.int k (a.tmod b)) else none
  | .eql => some (.bool (decide (a = b)))
  | .neq => some (.bool (decide (¬ a = b)))
  | .lss => some (.bool (decide (a < b)))
  | .leq => some (.bool (decide (a ≤ b)))
  | .gtr => some (.bool (decide (b < a)))
  | .geq => some (.bool (decide (b ≤ a)))
  | _ => none

def bin (op : BinOp) (x y : Value) : Option Value := match x, y with
  | .int k a, .int k' b => if k = k' then intBin op k a b else none
  | _, _ => none
theorem bin_int (op : BinOp) (k : IntKind) (a b : Int) : bin op (.int k a) (.int k b) = intBin op k a b := if_pos rfl

theorem bin_ok {P : Program} {op : BinOp} {t yt : TypeId} {x y : Operand} {ρ : Operand → Value} {o : Oper} {H : Heap} {v : Value} (ho : o.op = .binOp op t x y yt) (h : bin op (ρ x) (ρ y) = some v) :
    aOp P ρ o H = some (.val v H) := by
  obtain ⟨dst, op', type, pos, after, guard⟩ := o
  cases ho
  show kBinSlow P op t x y ρ ⟨dst, .binOp op t x y yt, type, pos, after, guard⟩ H = some (.val v H)
  unfold bin at h
  split at h
  case h_2 => cases h
  rename_i k a k' b ha hb
  split at h
  case isFalse => cases h
  rename_i hk
  subst hk
  unfold kBinSlow
  have hnil : aIsNilCmp P t (ρ x) (ρ y) = false := by
    rw [ha, hb]; unfold aIsNilCmp; cases P.underlying t with
    | none => rfl
    | some d => cases d <;> rfl
  have h1 : aCmpNil P op t (ρ x) (ρ y) = none := by unfold aCmpNil; rw [hnil]; cases op <;> rfl
  rw [h1]
  show aPlain P ρ _ H = _
  unfold aPlain
  have h2 : allPlain ρ (Op.binOp op t x y yt).operands.toList = true := by simp [Op.operands, allPlain, ha, hb, plain]
  rw [h2, cond_true]
  have h3 : pureRun P (execOp ρ ⟨dst, .binOp op t x y yt, type, pos, after, guard⟩) = some (.value v) ∧ plain v = true := by
    have hx : execOp ρ ⟨dst, .binOp op t x y yt, type, pos, after, guard⟩ = (do pure (.value (← (do eqGuard op t x y (.int k a) (.int k b); binOp op t (.int k a) (.int k b))))) := by
      unfold execOp
      simp only [ha, hb]
    have hg : eqGuard op t x y (.int k a) (.int k b) = pure () := by unfold eqGuard; cases op <;> rfl
    have hv : plain v = true ∧ Go.binOp op t (.int k a) (.int k b) = pure v := by
      unfold intBin at h
      cases op <;> simp only [] at h <;> first
        | (cases h; done)
        | (have h' := Option.some.inj h; subst h'; refine ⟨rfl, ?_⟩; simp [Go.binOp, Op.intArith, Op.intCmp]; done)
        | (have h' := Option.some.inj h; subst h'; refine ⟨rfl, ?_⟩; simp only [Go.binOp, ne_eq, not_true_eq_false, if_false, Op.intCmp, bne, decide_not]; rfl)
        | (by_cases hb0 : b = 0
           · rw [if_neg (fun hc => hc hb0)] at h; cases h
           · rw [if_pos hb0] at h
             have h' := Option.some.inj h
             subst h'
             refine ⟨rfl, ?_⟩
             simp [Go.binOp, Op.intDiv, hb0])
    rw [hx, hg, hv.2]
    exact ⟨rfl, hv.1⟩
  rw [h3.1]
  simp only [h3.2, cond_true]

end Go.AM
