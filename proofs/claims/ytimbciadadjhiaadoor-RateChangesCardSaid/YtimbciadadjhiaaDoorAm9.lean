/- A general tool, which names no program: a canonical machine for the model's own code (rows of cells by number, no world, no open order), proved: what it comes to is what every run comes to. -/
import Derived.Test.YtimbciadadjhiaaDoorAm8
set_option linter.unusedVariables false
set_option linter.unusedSimpArgs false
set_option linter.unusedSectionVars false
namespace Go.AM
open Go.RowKit (Below)

variable {P : Program} {n0 : Nat} {m : Map} {H : Heap} {w : World}

/-- A reckoning that asks nothing of the memory. -/
def pureRun (P : Program) {α : Type} : Sem α → Option α
  | .pure a => some a
  | .program k => pureRun P (k P)
  | .mark _ k => pureRun P k
  | .choose q k => cond q.forced (pureRun P (k 0)) none
  | _ => none

theorem pureRun_sound {α : Type} : ∀ {s : Sem α} {a : α} (w : World), pureRun P s = some a → s.run P w = .ok a w
  | .pure a, _, w, h => by cases h; rfl
  | .program k, a, w, h => by simpa [Sem.run] using pureRun_sound w (s := k P) h
  | .mark _ k, a, w, h => by simpa [Sem.run] using pureRun_sound w (s := k) h
  | .choose q k, a, w, h => by
    simp only [pureRun] at h
    cases hq : q.forced with
    | true => rw [hq, cond_true] at h; simp only [Sem.run, hq, if_true]; exact pureRun_sound w h
    | false => rw [hq] at h; cases h

def allPlain (ρ : Operand → Value) : List Operand → Bool
  | [] => true
  | x :: l => plain (ρ x) && allPlain ρ l

theorem allPlain_mem {ρ : Operand → Value} : ∀ {l}, allPlain ρ l = true → ∀ x ∈ l, plain (ρ x) = true
  | y :: l, h, x, hx => by
    simp only [allPlain, Bool.and_eq_true] at h
    rcases List.mem_cons.1 hx with rfl | hx
    · exact h.1
    · exact allPlain_mem h.2 x hx

inductive AStep where
  | val (v : Value) (H : Heap)
  | enter (f : FuncId) (args : List Value)
  | round (l : Nat) (args : List Value)

def aPlain (P : Program) (ρ : Operand → Value) (o : Oper) (H : Heap) : Option AStep :=
  cond (allPlain ρ o.op.operands.toList)
    (match pureRun P (execOp ρ o) with
     | some (.value v) => cond (plain v) (some (.val v H)) none
     | _ => none) none

def valH (H : Heap) : Option Value → Option AStep
  | some v => some (.val v H)
  | none => none
def valP : Option (Value × Heap) → Option AStep
  | some (v, H) => some (.val v H)
  | none => none
def orP (x : Option AStep) (y : Option AStep) : Option AStep := match x with
  | some s => some s
  | none => y

def aNilCheck : Value → Option Value
  | .pointer (some a) => some (.pointer (some a))
  | .iface t v => some (.iface t v)
  | .func (.func f) a b => some (.func (.func f) a b)
  | .slice (some a) n c => some (.slice (some a) n c)
  | _ => none

def argL (ρ : Operand → Value) (c : Call) : List Value := c.args.toList.map ρ

def aCall (P : Program) (ρ : Operand → Value) (o : Oper) (c : Call) (H : Heap) : Option AStep := match c.callee with
  | .builtin b => match b, argL ρ c with
    | .append, [s, x] => valP (aAppend P H c.argTypes s x)
    | .len, [x] => orP (valH H (aLen P c.argTypes x)) (aPlain P ρ o H)
    | .cap, [x] => orP (valH H (aCap P H c.argTypes x)) (aPlain P ρ o H)
    | .copy, [d, s] => orP (valP (aCopy P H c.argTypes d s)) (aPlain P ρ o H)
    | _, _ => aPlain P ρ o H
  | .value f => match ρ f with
    | .func (.func k) ⟨a⟩ ⟨b⟩ => some (.enter k (a ++ argL ρ c ++ b))
    | .func (.yield l) ⟨[]⟩ ⟨[]⟩ => some (.round l (argL ρ c))
    | _ => none
  | .invoke _ _ => none

def aOp (P : Program) (ρ : Operand → Value) (o : Oper) (H : Heap) : Option AStep := match o.op with
  | .move x | .assign x => some (.val (ρ x) H)
  | .pick c a b => match ρ c with
    | .bool t => some (.val (cond t (ρ a) (ρ b)) H)
    | _ => none
  | .alloc t => valP (aAlloc P H t)
  | .box t x => some (.val (.pointer (some ⟨H.size, 0, none⟩)) (H.newExact (ρ x).cells.toList t))
  | .build t parts => valH H (aBuild P t (parts.toList.map fun p => (p.1, ρ p.2)))
  | .buildSlice t n parts => valP (aBuildSlice P H t n (parts.toList.map fun p => (p.1, ρ p.2)))
  | .load t a => valH H (aLoad P H t (ρ a))
  | .store t a x => match aStore P H t (ρ a) (ρ x) with
    | some H' => some (.val undef H')
    | none => none
  | .nilCheck x => orP (valH H (aNilCheck (ρ x))) (aPlain P ρ o H)
  | .binOp op t x y _ => orP (valH H (aCmpNil P op t (ρ x) (ρ y))) (aPlain P ρ o H)
  | .makeInterface t x => valH H (aMakeI P t (ρ x))
  | .makeFunc fn first captured => cond (notYield fn) (some (.val (.func fn ⟨first.toList.map ρ⟩ ⟨captured.toList.map ρ⟩) H)) none
  | .makeSlice t l c => valP (aMakeSlice P H t (ρ l) (ρ c))
  | .slice t x lo hi mx => orP (valH H (aSlice P H t (ρ x) (lo.map ρ) (hi.map ρ) (mx.map ρ))) (aPlain P ρ o H)
  | .fieldAddr s x f => valH H (aFieldAt P s f (ρ x))
  | .field t x f => valH H (aField P t (ρ x) f)
  | .indexAddr t x ix => valH H (aIndexAt P t (ρ x) (ρ ix))
  | .index t x ix => valH H (aIndex P t (ρ x) (ρ ix))
  | .typeAssert x _ t ok => orP (valH H (aAssert P (ρ x) t ok)) (aPlain P ρ o H)
  | .extract x i => valH H (aExtract (ρ x) i)
  | .call c => aCall P ρ o c H
  | .select _ _ => none
  | .defer _ => none
  | _ => aPlain P ρ o H

/-- What may be called: a function, a round of a loop over a function. -/
inductive Tgt where
  | fn (f : FuncId)
  | rnd (l : Nat)

abbrev CallF := Tgt → List Value → Heap → Option (Value × Heap)

def aOpRun (P : Program) (call : CallF) (ρ : Operand → Value) (o : Oper) (H : Heap) : Option (Value × Heap) :=
  match aOp P ρ o H with
  | some (.val v H') => some (v, H')
  | some (.enter f args) => call (.fn f) args H
  | some (.round l args) => call (.rnd l) args H
  | none => none

/-- An operation that comes to a value. -/
def OpGoes (P : Program) (n0 : Nat) (m : Map) (H : Heap) (w : World) (A : Act) (o : Oper) (v : Value) (H' : Heap) : Prop :=
  HF H H' ∧ ∃ v' m' w', ((execOp A.eval o).run P w = .ok (.value v') w' ∨ ((execOp A.eval o).run P w = .ok .skip w' ∧ v' = undef)) ∧ Ext n0 m H w m' H' w' ∧ VR m' v v'

theorem goes_of_sim {A : Act} {o : Oper} {s : Sem Value} {v : Value} {H' : Heap} (hs : execOp A.eval o = (do pure (.value (← s)))) (h : Sim P n0 m H w s v H') : OpGoes P n0 m H w A o v H' := by
  obtain ⟨v', m', w', hr, hext, hv, hf⟩ := h
  refine ⟨hf, v', m', w', .inl ?_, hext, hv⟩
  rw [hs, Sem.run_bind, hr]
  rfl

theorem goes_of_pure {A : Act} {o : Oper} {s : Sem Value} {v v' : Value} (h : HR n0 m H w) (hs : execOp A.eval o = (do pure (.value (← s)))) (hr : s.run P w = .ok v' w) (hv : VR m v v') :
    OpGoes P n0 m H w A o v H := goes_of_sim hs (Sim.same h hr hv)

theorem goes_of_simU {A : Act} {o : Oper} {s : Sem Unit} {H' : Heap} (hs : execOp A.eval o = (do s; pure .skip)) (h : SimU P n0 m H w s H') : OpGoes P n0 m H w A o undef H' := by
  obtain ⟨m', w', hr, hext, hf⟩ := h
  refine ⟨hf, undef, m', w', .inr ⟨?_, rfl⟩, hext, .plain rfl⟩
  rw [hs, Sem.run_bind, hr]
  rfl

theorem goes_of_value {A : Act} {o : Oper} {v v' : Value} (h : HR n0 m H w) (hs : (execOp A.eval o).run P w = .ok (.value v') w) (hv : VR m v v') : OpGoes P n0 m H w A o v H :=
  ⟨HF.refl _, v', m, w, .inl hs, .refl h, hv⟩

theorem aPlain_sound {ρ : Operand → Value} {A : Act} {o : Oper} {v : Value} {H' : Heap} (h : HR n0 m H w) (hop : ∀ x ∈ o.op.operands, VR m (ρ x) (A.eval x)) (hsel : ∀ cs b, o.op ≠ .select cs b)
    (e : aPlain P ρ o H = some (.val v H')) : OpGoes P n0 m H w A o v H' := by
  unfold aPlain at e
  cases hp : allPlain ρ o.op.operands.toList with
  | false => rw [hp] at e; cases e
  | true =>
    rw [hp, cond_true] at e
    have heq : execOp ρ o = execOp A.eval o := execOp_congr o hsel fun x hx =>
      ((hop x hx).eq_of_plain (allPlain_mem hp x (Array.mem_toList_iff.2 hx))).symm
    split at e
    · rename_i u hu
      cases hpu : plain u with
      | false => rw [hpu] at e; cases e
      | true =>
        rw [hpu, cond_true] at e
        cases e
        rw [heq] at hu
        exact goes_of_value h (pureRun_sound w hu) (.plain hpu)
    · cases e

theorem aPlain_val {ρ : Operand → Value} {o : Oper} {s : AStep} (e : aPlain P ρ o H = some s) : ∃ v H', s = .val v H' := by
  unfold aPlain at e
  cases hp : allPlain ρ o.op.operands.toList with
  | false => rw [hp] at e; cases e
  | true =>
    rw [hp, cond_true] at e
    split at e
    · rename_i u hu
      cases hpu : plain u with
      | false => rw [hpu] at e; cases e
      | true => rw [hpu, cond_true] at e; cases e; exact ⟨_, _, rfl⟩
    · cases e

theorem valH_inv {x : Option Value} {s : AStep} (e : valH H x = some s) : ∃ v, x = some v ∧ s = .val v H := by
  cases x with
  | none => cases e
  | some v => cases e; exact ⟨v, rfl, rfl⟩
theorem valP_inv {x : Option (Value × Heap)} {s : AStep} (e : valP x = some s) : ∃ v H', x = some (v, H') ∧ s = .val v H' := by
  cases x with
  | none => cases e
  | some p => obtain ⟨v, H'⟩ := p; cases e; exact ⟨v, H', rfl, rfl⟩
theorem orP_inv {x y : Option AStep} {s : AStep} (e : orP x y = some s) : x = some s ∨ y = some s := by
  cases x with
  | none => exact .inr e
  | some p => exact .inl e

theorem PR.of_map {ρ : Operand → Value} {A : Act} : ∀ {parts : List (Nat × Operand)}, (∀ p ∈ parts, VR m (ρ p.2) (A.eval p.2)) → PR m (parts.map fun p => (p.1, ρ p.2)) (parts.map fun p => (p.1, A.eval p.2))
  | [], _ => .nil
  | p :: l, h => .cons (h p (by simp)) (PR.of_map fun q hq => h q (by simp [hq]))

theorem VRs.of_map {ρ : Operand → Value} {A : Act} : ∀ {l : List Operand}, (∀ x ∈ l, VR m (ρ x) (A.eval x)) → VRs m (l.map ρ) (l.map A.eval)
  | [], _ => .nil
  | x :: l, h => .cons (h x (by simp)) (VRs.of_map fun y hy => h y (by simp [hy]))

theorem or_map {ρ : Operand → Value} {A : Act} {x : Option Operand} (h : ∀ y, x = Option.some y → VR m (ρ y) (A.eval y)) : OR m (x.map ρ) (x.map A.eval) := by
  cases x with
  | none => exact .none
  | some y => exact .some (h y rfl)

/-- Each operation that comes to a value. -/
theorem aOp_sound {ρ : Operand → Value} {A : Act} {o : Oper} {v : Value} {H' : Heap} (h : HR n0 m H w) (hop : ∀ x ∈ o.op.operands, VR m (ρ x) (A.eval x))
    (e : aOp P ρ o H = some (.val v H')) : OpGoes P n0 m H w A o v H' := by
  obtain ⟨dst, op, type, pos, after, guard⟩ := o
  have plainCase : (∀ cs b, op ≠ .select cs b) → aPlain P ρ ⟨dst, op, type, pos, after, guard⟩ H = some (.val v H') → OpGoes P n0 m H w A ⟨dst, op, type, pos, after, guard⟩ v H' :=
    fun hs he => aPlain_sound h hop hs he
  cases op <;> simp only [aOp] at e <;> simp only [Op.operands] at hop
  case move x => cases e; exact goes_of_value h rfl (hop x (by simp))
  case assign x => cases e; exact goes_of_value h rfl (hop x (by simp))
  case pick c a b =>
    split at e
    · rename_i t ht
      cases e
      have hc := hop c (by simp)
      rw [ht] at hc
      have hA := hc.bool_inv
      refine goes_of_value h (v' := cond t (A.eval a) (A.eval b)) ?_ ?_
      · simp only [execOp, hA, asBool, Sem.run_bind, Sem.run_pure, Result.andThen_ok]
        cases t <;> rfl
      · cases t
        · exact hop b (by simp)
        · exact hop a (by simp)
    · cases e
  case alloc t =>
    obtain ⟨u, H2, he, hs⟩ := valP_inv e
    cases hs
    exact goes_of_sim rfl (aAlloc_sound h he)
  case box t x =>
    cases e
    refine goes_of_sim rfl ?_
    exact newVar_sim h (hop x (by simp)) t
  case build t parts =>
    obtain ⟨u, he, hs⟩ := valH_inv e
    cases hs
    have hp : PR m (parts.toList.map fun p => (p.1, ρ p.2)) (parts.map fun (i, x) => (i, A.eval x)).toList := by
      rw [Array.toList_map]
      exact PR.of_map fun p hp => hop p.2 (by simp; exact ⟨p.1, by simpa using hp⟩)
    obtain ⟨v', hr, hv⟩ := aBuild_sound (w := w) hp he
    exact goes_of_pure h rfl hr hv
  case buildSlice t n parts =>
    obtain ⟨u, H2, he, hs⟩ := valP_inv e
    cases hs
    have hp : PR m (parts.toList.map fun p => (p.1, ρ p.2)) (parts.map fun (i, x) => (i, A.eval x)).toList := by
      rw [Array.toList_map]
      exact PR.of_map fun p hp => hop p.2 (by simp; exact ⟨p.1, by simpa using hp⟩)
    exact goes_of_sim rfl (aBuildSlice_sound h hp he)
  case load t a =>
    obtain ⟨u, he, hs⟩ := valH_inv e
    cases hs
    obtain ⟨v', hr, hv⟩ := aLoad_sound (P := P) h (hop a (by simp)) he
    exact goes_of_pure h rfl hr hv
  case store t a x =>
    split at e
    · rename_i H2 he
      cases e
      exact goes_of_simU rfl (aStore_sound h (hop a (by simp)) (hop x (by simp)) he)
    · cases e
  case nilCheck x =>
    rcases orP_inv e with e | e
    · obtain ⟨u, he, hs⟩ := valH_inv e
      cases hs
      have hx := hop x (by simp)
      generalize ρ x = y at hx he
      unfold aNilCheck at he
      refine goes_of_value h (v' := A.eval x) ?_ ?_
      · simp only [execOp]
        split at he <;> first | (cases he; done) | skip
        · generalize A.eval x = z at hx ⊢
          cases hx with
          | plain hp => simp [AM.plain] at hp
          | ptr _ => rfl
        · generalize A.eval x = z at hx ⊢
          cases hx <;> rfl
        · generalize A.eval x = z at hx ⊢
          cases hx <;> rfl
        · generalize A.eval x = z at hx ⊢
          cases hx <;> rfl
      · split at he <;> first | (cases he; done) | (cases he; exact hx)
    · exact plainCase (by simp) e
  case binOp op t x y yt =>
    rcases orP_inv e with e | e
    · obtain ⟨u, he, hs⟩ := valH_inv e
      cases hs
      obtain ⟨v', hr, hv⟩ := aCmpNil_sound (w := w) (a := x) (b := y) (hop x (by simp)) (hop y (by simp)) he
      exact goes_of_pure h rfl hr hv
    · exact plainCase (by simp) e
  case makeInterface t x =>
    obtain ⟨u, he, hs⟩ := valH_inv e
    cases hs
    obtain ⟨v', hr, hv⟩ := aMakeI_sound (w := w) (hop x (by simp)) he
    exact goes_of_pure h rfl hr hv
  case makeFunc fn first captured =>
    cases hn : notYield fn with
    | false => rw [hn] at e; cases e
    | true =>
      rw [hn, cond_true] at e
      cases e
      refine goes_of_pure h (v' := .func fn (first.map A.eval) (captured.map A.eval)) rfl rfl ?_
      have h1 : VRs m (first.toList.map ρ) (first.map A.eval).toList := by rw [Array.toList_map]; exact VRs.of_map fun x hx => hop x (by simp; left; simpa using hx)
      have h2 : VRs m (captured.toList.map ρ) (captured.map A.eval).toList := by rw [Array.toList_map]; exact VRs.of_map fun x hx => hop x (by simp; right; simpa using hx)
      exact VR.func (a' := (first.map A.eval).toList) (b' := (captured.map A.eval).toList) hn h1 h2
  case makeSlice t l c =>
    obtain ⟨u, H2, he, hs⟩ := valP_inv e
    cases hs
    exact goes_of_sim rfl (aMakeSlice_sound h (hop l (by simp)) (hop c (by simp)) he)
  case slice t x lo hi mx =>
    rcases orP_inv e with e | e
    · obtain ⟨u, he, hs⟩ := valH_inv e
      cases hs
      obtain ⟨v', hr, hv⟩ := aSlice_sound (P := P) h (hop x (by simp)) (or_map (x := lo) fun y hy => hop y (by subst hy; simp)) (or_map (x := hi) fun y hy => hop y (by subst hy; simp))
        (or_map (x := mx) fun y hy => hop y (by subst hy; simp)) he
      exact goes_of_pure h rfl hr hv
    · exact plainCase (by simp) e
  case fieldAddr s x f =>
    obtain ⟨u, he, hs⟩ := valH_inv e
    cases hs
    obtain ⟨v', hr, hv⟩ := aFieldAt_sound (w := w) (hop x (by simp)) he
    exact goes_of_pure h rfl hr hv
  case field t x f =>
    obtain ⟨u, he, hs⟩ := valH_inv e
    cases hs
    obtain ⟨v', hr, hv⟩ := aField_sound (w := w) (hop x (by simp)) he
    exact goes_of_pure h rfl hr hv
  case indexAddr t x ix =>
    obtain ⟨u, he, hs⟩ := valH_inv e
    cases hs
    obtain ⟨v', hr, hv⟩ := aIndexAt_sound (w := w) (hop x (by simp)) (hop ix (by simp)) he
    exact goes_of_pure h rfl hr hv
  case index t x ix =>
    obtain ⟨u, he, hs⟩ := valH_inv e
    cases hs
    obtain ⟨v', hr, hv⟩ := aIndex_sound (w := w) (hop x (by simp)) (hop ix (by simp)) he
    exact goes_of_pure h rfl hr hv
  case typeAssert x xT t ok =>
    rcases orP_inv e with e | e
    · obtain ⟨u, he, hs⟩ := valH_inv e
      cases hs
      obtain ⟨v', hr, hv⟩ := aAssert_sound (w := w) (xT := xT) (hop x (by simp)) he
      exact goes_of_pure h rfl hr hv
    · exact plainCase (by simp) e
  case extract x i =>
    obtain ⟨u, he, hs⟩ := valH_inv e
    cases hs
    obtain ⟨v', hr, hv⟩ := aExtract_sound (P := P) (w := w) (hop x (by simp)) he
    exact goes_of_pure h rfl hr hv
  case call c =>
    unfold aCall at e
    split at e
    · rename_i b hcal
      have hex : execOp A.eval ⟨dst, .call c, type, pos, after, guard⟩ = builtin b c.argTypes type (c.args.map fun | .const _ => true | _ => false) (c.args.map A.eval) := by
        simp only [execOp, resolve, hcal]; rfl
      have hargs : VRs m (argL ρ c) (c.args.map A.eval).toList := by
        unfold argL
        rw [Array.toList_map]
        exact VRs.of_map fun x hx => hop x (by simp [Call.operands, hcal]; simpa using hx)
      have hto : ∀ l, (c.args.map A.eval).toList = l → c.args.map A.eval = l.toArray := fun l hl => by rw [← hl]
      split at e
      · rename_i s x hl
        obtain ⟨u, H2, he, hs⟩ := valP_inv e
        cases hs
        rw [hl] at hargs
        generalize hg : (c.args.map A.eval).toList = l' at hargs
        match l', hargs with
        | [s', x'], .cons h1 (.cons h2 .nil) =>
          refine goes_of_sim ?_ (aAppend_sound (ty := type) h h1 h2 he)
          rw [hex, hto _ hg]; rfl
      · rename_i x hl
        rcases orP_inv e with e | e
        · obtain ⟨u, he, hs⟩ := valH_inv e
          cases hs
          rw [hl] at hargs
          generalize hg : (c.args.map A.eval).toList = l' at hargs
          match l', hargs with
          | [x'], .cons h1 .nil =>
            obtain ⟨v', hr, hv⟩ := aLen_sound (w := w) (ty := type) h1 he
            refine goes_of_pure h ?_ hr hv
            rw [hex, hto _ hg]; rfl
        · exact plainCase (by simp) e
      · rename_i x hl
        rcases orP_inv e with e | e
        · obtain ⟨u, he, hs⟩ := valH_inv e
          cases hs
          rw [hl] at hargs
          generalize hg : (c.args.map A.eval).toList = l' at hargs
          match l', hargs with
          | [x'], .cons h1 .nil =>
            obtain ⟨v', hr, hv⟩ := aCap_sound (P := P) (ty := type) h h1 he
            refine goes_of_pure h ?_ hr hv
            rw [hex, hto _ hg]; rfl
        · exact plainCase (by simp) e
      · rename_i d s hl
        rcases orP_inv e with e | e
        · obtain ⟨u, H2, he, hs⟩ := valP_inv e
          cases hs
          rw [hl] at hargs
          generalize hg : (c.args.map A.eval).toList = l' at hargs
          match l', hargs with
          | [s', x'], .cons h1 (.cons h2 .nil) =>
            refine goes_of_sim ?_ (aCopy_sound (ty := type) h h1 h2 he)
            rw [hex, hto _ hg]; rfl
        · exact plainCase (by simp) e
      · exact plainCase (by simp) e
    · split at e <;> cases e
    · cases e
  all_goals first
    | (cases e; done)
    | exact plainCase (by simp) e

end Go.AM
