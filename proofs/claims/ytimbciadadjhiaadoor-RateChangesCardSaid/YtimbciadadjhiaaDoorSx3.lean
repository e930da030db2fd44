/- A general tool, which names no program: what must be shown of a piece of code for symbolic values, on the canonical machine; each rule proved. -/
import Derived.Test.YtimbciadadjhiaaDoorSx2
set_option linter.unusedVariables false
set_option linter.unusedSimpArgs false
set_option linter.unusedSectionVars false
namespace Go.AM

variable {P : Program} {S : Sys} {N : Nat}

def una (op : UnOp) (x : Value) : Option Value := match op, x with
  | .not, .bool b => some (.bool (!b))
  | .neg, .int k n => some (.int k (k.wrap (0 - n)))
  | _, _ => none
theorem una_not (b : Bool) : una .not (.bool b) = some (.bool (!b)) := rfl
theorem una_not_dec (p : Prop) [Decidable p] : una .not (.bool (decide p)) = some (.bool (decide (¬ p))) := by rw [una_not, decide_not]
theorem una_neg (k : IntKind) (n : Int) : una .neg (.int k n) = some (.int k (k.wrap (0 - n))) := rfl

theorem una_ok {op : UnOp} {t : TypeId} {x : Operand} {ρ : Operand → Value} {o : Oper} {H : Heap} {v : Value} (ho : o.op = .unOp op t x) (h : una op (ρ x) = some v) : aOp P ρ o H = some (.val v H) := by
  obtain ⟨dst, op', type, pos, after, guard⟩ := o
  cases ho
  show aPlain P ρ ⟨dst, .unOp op t x, type, pos, after, guard⟩ H = _
  have hx : execOp ρ ⟨dst, .unOp op t x, type, pos, after, guard⟩ = (do pure (.value (← Op.unary op (ρ x)))) := rfl
  have hu : Op.unary op (ρ x) = pure v ∧ plain (ρ x) = true ∧ plain v = true := by
    unfold una at h
    split at h
    · rename_i b hb; cases h; rw [hb]; exact ⟨rfl, rfl, rfl⟩
    · rename_i k n hb; cases h; rw [hb]; exact ⟨rfl, rfl, rfl⟩
    · cases h
  unfold aPlain
  have h2 : allPlain ρ (Op.unOp op t x).operands.toList = true := by simp [Op.operands, allPlain, hu.2.1]
  rw [h2, cond_true, hx, hu.1]
  show (match (some (Next.value v) : Option Next) with
    | some (.value v) => cond (plain v) (some (AStep.val v H)) none
    | _ => none) = some (AStep.val v H)
  simp only [hu.2.2, cond_true]

def aPick (c a b : Value) : Option Value := match c with
  | .bool t => some (cond t a b)
  | _ => none
theorem aPick_true (a b : Value) : aPick (.bool true) a b = some a := rfl
theorem aPick_false (a b : Value) : aPick (.bool false) a b = some b := rfl

/-! A call. -/
def sxCallV (P : Program) (S : Sys) (f : Value) (args : List Value) (H : Heap) (K : Value → Heap → Prop) : Prop := match f with
  | .func (.func k) ⟨a⟩ ⟨b⟩ => WCall P S (.fn k) (a ++ args ++ b) H K
  | .func (.yield l) ⟨[]⟩ ⟨[]⟩ => WCall P S (.rnd l) args H K
  | _ => False
theorem sxCallV_fn (k : FuncId) (a b args : List Value) (H : Heap) (K : Value → Heap → Prop) : sxCallV P S (.func (.func k) ⟨a⟩ ⟨b⟩) args H K = WCall P S (.fn k) (a ++ args ++ b) H K := rfl
theorem sxCallV_yield (l : Nat) (args : List Value) (H : Heap) (K : Value → Heap → Prop) : sxCallV P S (.func (.yield l) ⟨[]⟩ ⟨[]⟩) args H K = WCall P S (.rnd l) args H K := rfl
@[congr] theorem sxCallV_congr {f f' : Value} {args args' : List Value} {H H' : Heap} {K : Value → Heap → Prop} (h1 : f = f') (h2 : args = args') (h3 : H = H') : sxCallV P S f args H K = sxCallV P S f' args' H' K := by rw [h1, h2, h3]
@[congr] theorem WCall_congr {t : Tgt} {args args' : List Value} {H H' : Heap} {K : Value → Heap → Prop} (h2 : args = args') (h3 : H = H') : WCall P S t args H K = WCall P S t args' H' K := by rw [h2, h3]

def sxCall (P : Program) (S : Sys) (c : Call) (ρ : F) (H : Heap) (K : Value → Heap → Prop) : Prop := match c.callee with
  | .builtin b => match b, c.args.toList with
    | .len, [x] => sxOpt (aLen P c.argTypes (ev ρ x)) fun v => K v H
    | .cap, [x] => sxOpt (aCap P H c.argTypes (ev ρ x)) fun v => K v H
    | .append, [s, x] => sxOpt (aAppend P H c.argTypes (ev ρ s) (ev ρ x)) fun r => K r.1 r.2
    | .copy, [s, x] => sxOpt (aCopy P H c.argTypes (ev ρ s) (ev ρ x)) fun r => K r.1 r.2
    | _, _ => False
  | .value f => sxCallV P S (ev ρ f) (c.args.toList.map (ev ρ)) H K
  | .invoke _ _ => False

def sxOp (P : Program) (S : Sys) (o : Oper) (ρ : F) (H : Heap) (K : Value → Heap → Prop) : Prop := match o.op with
  | .move x => K (ev ρ x) H
  | .assign x => K (ev ρ x) H
  | .pick c a b => sxOpt (aPick (ev ρ c) (ev ρ a) (ev ρ b)) fun v => K v H
  | .alloc t => sxOpt (aAlloc P H t) fun r => K r.1 r.2
  | .box t x => K (.pointer (some ⟨H.size, 0, none⟩)) (H.newExact (ev ρ x).cells.toList t)
  | .build t parts => sxOpt (aBuild P t (parts.toList.map fun p => (p.1, ev ρ p.2))) fun v => K v H
  | .buildSlice t n parts => sxOpt (aBuildSlice P H t n (parts.toList.map fun p => (p.1, ev ρ p.2))) fun r => K r.1 r.2
  | .load t a => sxOpt (aLoad P H t (ev ρ a)) fun v => K v H
  | .store t a x => sxOpt (aStore P H t (ev ρ a) (ev ρ x)) fun H' => K undef H'
  | .nilCheck x => sxOpt (aNilCheck (ev ρ x)) fun v => K v H
  | .binOp op _ x y _ => sxOpt (bin op (ev ρ x) (ev ρ y)) fun v => K v H
  | .unOp op _ x => sxOpt (una op (ev ρ x)) fun v => K v H
  | .makeInterface t x => sxOpt (aMakeI P t (ev ρ x)) fun v => K v H
  | .makeFunc fn first captured => notYield fn = true ∧ K (.func fn ⟨first.toList.map (ev ρ)⟩ ⟨captured.toList.map (ev ρ)⟩) H
  | .makeSlice t l c => sxOpt (aMakeSlice P H t (ev ρ l) (ev ρ c)) fun r => K r.1 r.2
  | .slice t x lo hi mx => sxOpt (aSlice P H t (ev ρ x) (lo.map (ev ρ)) (hi.map (ev ρ)) (mx.map (ev ρ))) fun v => K v H
  | .fieldAddr s x f => sxOpt (aFieldAt P s f (ev ρ x)) fun v => K v H
  | .field t x f => sxOpt (aField P t (ev ρ x) f) fun v => K v H
  | .indexAddr t x ix => sxOpt (aIndexAt P t (ev ρ x) (ev ρ ix)) fun v => K v H
  | .index t x ix => sxOpt (aIndex P t (ev ρ x) (ev ρ ix)) fun v => K v H
  | .typeAssert x _ t ok => sxOpt (aAssert P (ev ρ x) t ok) fun v => K v H
  | .extract x i => sxOpt (aExtract (ev ρ x) i) fun v => K v H
  | .call c => sxCall P S c ρ H K
  | _ => False

section eqs
variable {d : Option Tmp} {ty : TypeId} {pos : String} {af : Array Edge} {g : Option (Nat × Bool)} {ρ : F} {H : Heap} {K : Value → Heap → Prop}
theorem sxOp_move {x} : sxOp P S ⟨d, .move x, ty, pos, af, g⟩ ρ H K = K (ev ρ x) H := rfl
theorem sxOp_assign {x} : sxOp P S ⟨d, .assign x, ty, pos, af, g⟩ ρ H K = K (ev ρ x) H := rfl
theorem sxOp_pick {c a b} : sxOp P S ⟨d, .pick c a b, ty, pos, af, g⟩ ρ H K = sxOpt (aPick (ev ρ c) (ev ρ a) (ev ρ b)) fun v => K v H := rfl
theorem sxOp_alloc {t} : sxOp P S ⟨d, .alloc t, ty, pos, af, g⟩ ρ H K = sxOpt (aAlloc P H t) fun r => K r.1 r.2 := rfl
theorem sxOp_box {t x} : sxOp P S ⟨d, .box t x, ty, pos, af, g⟩ ρ H K = K (.pointer (some ⟨H.size, 0, none⟩)) (H.newExact (ev ρ x).cells.toList t) := rfl
theorem sxOp_build {t ps} : sxOp P S ⟨d, .build t ps, ty, pos, af, g⟩ ρ H K = sxOpt (aBuild P t (ps.toList.map fun p => (p.1, ev ρ p.2))) fun v => K v H := rfl
theorem sxOp_buildSlice {t n ps} : sxOp P S ⟨d, .buildSlice t n ps, ty, pos, af, g⟩ ρ H K = sxOpt (aBuildSlice P H t n (ps.toList.map fun p => (p.1, ev ρ p.2))) fun r => K r.1 r.2 := rfl
theorem sxOp_load {t a} : sxOp P S ⟨d, .load t a, ty, pos, af, g⟩ ρ H K = sxOpt (aLoad P H t (ev ρ a)) fun v => K v H := rfl
theorem sxOp_store {t a x} : sxOp P S ⟨d, .store t a x, ty, pos, af, g⟩ ρ H K = sxOpt (aStore P H t (ev ρ a) (ev ρ x)) fun H' => K undef H' := rfl
theorem sxOp_nilCheck {x} : sxOp P S ⟨d, .nilCheck x, ty, pos, af, g⟩ ρ H K = sxOpt (aNilCheck (ev ρ x)) fun v => K v H := rfl
theorem sxOp_bin {op t x y yt} : sxOp P S ⟨d, .binOp op t x y yt, ty, pos, af, g⟩ ρ H K = sxOpt (bin op (ev ρ x) (ev ρ y)) fun v => K v H := rfl
theorem sxOp_un {op t x} : sxOp P S ⟨d, .unOp op t x, ty, pos, af, g⟩ ρ H K = sxOpt (una op (ev ρ x)) fun v => K v H := rfl
theorem sxOp_makeI {t x} : sxOp P S ⟨d, .makeInterface t x, ty, pos, af, g⟩ ρ H K = sxOpt (aMakeI P t (ev ρ x)) fun v => K v H := rfl
theorem sxOp_makeFunc {fn a b} : sxOp P S ⟨d, .makeFunc fn a b, ty, pos, af, g⟩ ρ H K = (notYield fn = true ∧ K (.func fn ⟨a.toList.map (ev ρ)⟩ ⟨b.toList.map (ev ρ)⟩) H) := rfl
theorem sxOp_makeSlice {t l c} : sxOp P S ⟨d, .makeSlice t l c, ty, pos, af, g⟩ ρ H K = sxOpt (aMakeSlice P H t (ev ρ l) (ev ρ c)) fun r => K r.1 r.2 := rfl
theorem sxOp_slice {t x lo hi mx} : sxOp P S ⟨d, .slice t x lo hi mx, ty, pos, af, g⟩ ρ H K = sxOpt (aSlice P H t (ev ρ x) (lo.map (ev ρ)) (hi.map (ev ρ)) (mx.map (ev ρ))) fun v => K v H := rfl
theorem sxOp_fieldAddr {s x f} : sxOp P S ⟨d, .fieldAddr s x f, ty, pos, af, g⟩ ρ H K = sxOpt (aFieldAt P s f (ev ρ x)) fun v => K v H := rfl
theorem sxOp_field {s x f} : sxOp P S ⟨d, .field s x f, ty, pos, af, g⟩ ρ H K = sxOpt (aField P s (ev ρ x) f) fun v => K v H := rfl
theorem sxOp_indexAddr {t x ix} : sxOp P S ⟨d, .indexAddr t x ix, ty, pos, af, g⟩ ρ H K = sxOpt (aIndexAt P t (ev ρ x) (ev ρ ix)) fun v => K v H := rfl
theorem sxOp_index {t x ix} : sxOp P S ⟨d, .index t x ix, ty, pos, af, g⟩ ρ H K = sxOpt (aIndex P t (ev ρ x) (ev ρ ix)) fun v => K v H := rfl
theorem sxOp_assert {x xt t ok} : sxOp P S ⟨d, .typeAssert x xt t ok, ty, pos, af, g⟩ ρ H K = sxOpt (aAssert P (ev ρ x) t ok) fun v => K v H := rfl
theorem sxOp_extract {x i} : sxOp P S ⟨d, .extract x i, ty, pos, af, g⟩ ρ H K = sxOpt (aExtract (ev ρ x) i) fun v => K v H := rfl
theorem sxOp_value {f as ts} : sxOp P S ⟨d, .call { callee := .value f, args := as, argTypes := ts }, ty, pos, af, g⟩ ρ H K = sxCallV P S (ev ρ f) (as.toList.map (ev ρ)) H K := rfl
theorem sxOp_len {x ts} : sxOp P S ⟨d, .call { callee := .builtin .len, args := ⟨[x]⟩, argTypes := ts }, ty, pos, af, g⟩ ρ H K = sxOpt (aLen P ts (ev ρ x)) fun v => K v H := rfl
theorem sxOp_cap {x ts} : sxOp P S ⟨d, .call { callee := .builtin .cap, args := ⟨[x]⟩, argTypes := ts }, ty, pos, af, g⟩ ρ H K = sxOpt (aCap P H ts (ev ρ x)) fun v => K v H := rfl
theorem sxOp_append {s x ts} : sxOp P S ⟨d, .call { callee := .builtin .append, args := ⟨[s, x]⟩, argTypes := ts }, ty, pos, af, g⟩ ρ H K = sxOpt (aAppend P H ts (ev ρ s) (ev ρ x)) fun r => K r.1 r.2 := rfl
theorem sxOp_copy {s x ts} : sxOp P S ⟨d, .call { callee := .builtin .copy, args := ⟨[s, x]⟩, argTypes := ts }, ty, pos, af, g⟩ ρ H K = sxOpt (aCopy P H ts (ev ρ s) (ev ρ x)) fun r => K r.1 r.2 := rfl
end eqs

/-- An operation comes to something. -/
def OpRuns (P : Program) (S : Sys) (o : Oper) (ρ : Operand → Value) (H : Heap) (K : Value → Heap → Prop) : Prop :=
  ∃ D d v H', aOpRun P (oCallN P S D d) ρ o H = some (v, H') ∧ K v H'

theorem opRuns_val {o : Oper} {ρ : Operand → Value} {H H' : Heap} {K : Value → Heap → Prop} {v : Value} (h : aOp P ρ o H = some (.val v H')) (k : K v H') : OpRuns P S o ρ H K :=
  ⟨0, 0, v, H', by unfold aOpRun; rw [h], k⟩

theorem opRuns_valH {o : Oper} {ρ : Operand → Value} {H : Heap} {K : Value → Heap → Prop} {x : Option Value} (h : aOp P ρ o H = valH H x) (k : sxOpt x fun v => K v H) : OpRuns P S o ρ H K := by
  obtain ⟨v, rfl, k⟩ := k
  exact opRuns_val h k
theorem opRuns_orH {o : Oper} {ρ : Operand → Value} {H : Heap} {K : Value → Heap → Prop} {x : Option Value} {y : Option AStep} (h : aOp P ρ o H = orP (valH H x) y) (k : sxOpt x fun v => K v H) : OpRuns P S o ρ H K := by
  obtain ⟨v, rfl, k⟩ := k
  exact opRuns_val h k
theorem opRuns_valP {o : Oper} {ρ : Operand → Value} {H : Heap} {K : Value → Heap → Prop} {x : Option (Value × Heap)} (h : aOp P ρ o H = valP x) (k : sxOpt x fun r => K r.1 r.2) : OpRuns P S o ρ H K := by
  obtain ⟨⟨v, H'⟩, rfl, k⟩ := k
  exact opRuns_val h k
theorem opRuns_orPP {o : Oper} {ρ : Operand → Value} {H : Heap} {K : Value → Heap → Prop} {x : Option (Value × Heap)} {y : Option AStep} (h : aOp P ρ o H = orP (valP x) y) (k : sxOpt x fun r => K r.1 r.2) : OpRuns P S o ρ H K := by
  obtain ⟨⟨v, H'⟩, rfl, k⟩ := k
  exact opRuns_val h k

theorem sxCall_sound {c : Call} {o : Oper} (ho : o.op = .call c) {ρ : F} {H : Heap} {K : Value → Heap → Prop} (h : sxCall P S c ρ H K) : OpRuns P S o (ev ρ) H K := by
  obtain ⟨dst, op', type, pos, after, guard⟩ := o
  cases ho
  have e0 : aOp P (ev ρ) ⟨dst, .call c, type, pos, after, guard⟩ H = aCall P (ev ρ) ⟨dst, .call c, type, pos, after, guard⟩ c H := rfl
  unfold sxCall at h
  cases hc : c.callee with
  | builtin b =>
    rw [hc] at h
    simp only [] at h
    split at h
    · rename_i x hargs
      exact opRuns_orH (y := aPlain P (ev ρ) ⟨dst, .call c, type, pos, after, guard⟩ H) (by rw [e0]; unfold aCall argL; rw [hc, hargs]; rfl) h
    · rename_i x hargs
      exact opRuns_orH (y := aPlain P (ev ρ) ⟨dst, .call c, type, pos, after, guard⟩ H) (by rw [e0]; unfold aCall argL; rw [hc, hargs]; rfl) h
    · rename_i s x hargs
      exact opRuns_valP (by rw [e0]; unfold aCall argL; rw [hc, hargs]; rfl) h
    · rename_i s x hargs
      exact opRuns_orPP (y := aPlain P (ev ρ) ⟨dst, .call c, type, pos, after, guard⟩ H) (by rw [e0]; unfold aCall argL; rw [hc, hargs]; rfl) h
    · exact h.elim
  | value f =>
    rw [hc] at h
    simp only [] at h
    unfold sxCallV at h
    split at h
    · rename_i k a b hf
      obtain ⟨v, H', ⟨D, d, hr⟩, k2⟩ := h
      refine ⟨D, d, v, H', ?_, k2⟩
      unfold aOpRun
      rw [e0]
      unfold aCall argL
      rw [hc]
      simp only [hf]
      exact hr
    · rename_i l hf
      obtain ⟨v, H', ⟨D, d, hr⟩, k2⟩ := h
      refine ⟨D, d, v, H', ?_, k2⟩
      unfold aOpRun
      rw [e0]
      unfold aCall argL
      rw [hc]
      simp only [hf]
      exact hr
    · exact h.elim
  | invoke r m => rw [hc] at h; exact h.elim

theorem sxOp_sound {o : Oper} {ρ : F} {H : Heap} {K : Value → Heap → Prop} (h : sxOp P S o ρ H K) : OpRuns P S o (ev ρ) H K := by
  obtain ⟨dst, op, type, pos, after, guard⟩ := o
  cases op
  case move x => exact opRuns_val rfl h
  case assign x => exact opRuns_val rfl h
  case pick c a b =>
    obtain ⟨v, hv, k⟩ := (show sxOpt (aPick (ev ρ c) (ev ρ a) (ev ρ b)) fun v => K v H from h)
    refine opRuns_val (v := v) ?_ k
    show (match ev ρ c with
      | .bool t => some (AStep.val (cond t (ev ρ a) (ev ρ b)) H)
      | _ => none) = some (AStep.val v H)
    unfold aPick at hv
    split at hv
    · cases hv; rfl
    · cases hv
  case alloc t => exact opRuns_valP rfl h
  case box t x => exact opRuns_val rfl h
  case build t ps => exact opRuns_valH rfl h
  case buildSlice t n ps => exact opRuns_valP rfl h
  case load t a => exact opRuns_valH rfl h
  case store t a x =>
    obtain ⟨H', hv, k⟩ := (show sxOpt (aStore P H t (ev ρ a) (ev ρ x)) fun H' => K undef H' from h)
    refine opRuns_val (v := undef) (H' := H') ?_ k
    show (match aStore P H t (ev ρ a) (ev ρ x) with
      | some H' => some (AStep.val undef H')
      | none => none) = some (AStep.val undef H')
    rw [hv]
  case nilCheck x => exact opRuns_orH rfl h
  case binOp op t x y yt =>
    obtain ⟨v, hv, k⟩ := (show sxOpt (bin op (ev ρ x) (ev ρ y)) fun v => K v H from h)
    exact opRuns_val (bin_ok rfl hv) k
  case unOp op t x =>
    obtain ⟨v, hv, k⟩ := (show sxOpt (una op (ev ρ x)) fun v => K v H from h)
    exact opRuns_val (una_ok rfl hv) k
  case makeInterface t x => exact opRuns_valH rfl h
  case makeFunc fn a b =>
    obtain ⟨hn, k⟩ := (show notYield fn = true ∧ K (.func fn ⟨a.toList.map (ev ρ)⟩ ⟨b.toList.map (ev ρ)⟩) H from h)
    refine opRuns_val ?_ k
    show cond (notYield fn) _ none = _
    rw [hn]; rfl
  case makeSlice t l c => exact opRuns_valP rfl h
  case slice t x lo hi mx => exact opRuns_orH rfl h
  case fieldAddr s x f => exact opRuns_valH rfl h
  case field s x f => exact opRuns_valH rfl h
  case indexAddr t x ix => exact opRuns_valH rfl h
  case index t x ix => exact opRuns_valH rfl h
  case typeAssert x xt t ok => exact opRuns_orH rfl h
  case extract x i => exact opRuns_valH rfl h
  case call c => exact sxCall_sound rfl h
  all_goals exact False.elim h

end Go.AM
