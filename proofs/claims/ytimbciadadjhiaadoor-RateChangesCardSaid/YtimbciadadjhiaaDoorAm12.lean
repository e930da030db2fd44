/- A general tool, which names no program: a canonical machine for the model's own code (rows of cells by number, no world, no open order), proved: what it comes to is what every run comes to. -/
import Derived.Test.YtimbciadadjhiaaDoorAm11
set_option linter.unusedVariables false
set_option linter.unusedSimpArgs false
set_option linter.unusedSectionVars false
namespace Go.AM
open Go.RowKit (Below)

variable {P : Program} {n0 : Nat} {m : Map} {H : Heap} {w : World}

/-! Which operations stand ahead of which. -/

def bindsAny (e : Edge) : Bool := Region.binds .any e

inductive Reach (ops : Array Oper) : Nat → Nat → Prop
  | edge {j o e} : ops[j]? = some o → e ∈ o.after.toList → bindsAny e = true → Reach ops e.on j
  | trans {i k j} : Reach ops i k → Reach ops k j → Reach ops i j

def maskStep (acc : List Nat) (s : Nat) (e : Edge) : Nat := cond (bindsAny e) (s ||| (2 ^ e.on ||| acc.getD e.on 0)) s
def maskOf (acc : List Nat) (o : Oper) : Nat := o.after.toList.foldl (maskStep acc) 0
def masksGo : List Oper → List Nat → List Nat
  | [], acc => acc
  | o :: l, acc => masksGo l (acc ++ [maskOf acc o])
def masks (ops : Array Oper) : List Nat := masksGo ops.toList []

theorem maskOf_spec {acc : List Nat} {i : Nat} : ∀ {es : List Edge} {s : Nat}, (es.foldl (maskStep acc) s).testBit i = true →
    s.testBit i = true ∨ ∃ e ∈ es, bindsAny e = true ∧ (i = e.on ∨ (acc.getD e.on 0).testBit i = true)
  | [], s, h => .inl h
  | e :: es, s, h => by
    rw [List.foldl_cons] at h
    rcases maskOf_spec h with h | ⟨e', he', h⟩
    · unfold maskStep at h
      cases hb : bindsAny e with
      | false => rw [hb, cond_false] at h; exact .inl h
      | true =>
        rw [hb, cond_true, Nat.testBit_or, Nat.testBit_or, Bool.or_eq_true, Bool.or_eq_true] at h
        rcases h with h | h | h
        · exact .inl h
        · refine .inr ⟨e, by simp, hb, .inl ?_⟩
          rw [Nat.testBit_two_pow] at h
          exact (of_decide_eq_true h).symm
        · exact .inr ⟨e, by simp, hb, .inr h⟩
    · exact .inr ⟨e', by simp [he'], h⟩

theorem masksGo_spec {ops : Array Oper} : ∀ (l : List Oper) (pre : List Oper) (acc : List Nat), ops.toList = pre ++ l → acc.length = pre.length →
    (∀ j, ∀ i, (acc.getD j 0).testBit i = true → Reach ops i j) → ∀ j i, ((masksGo l acc).getD j 0).testBit i = true → Reach ops i j
  | [], pre, acc, _, _, h => h
  | o :: l, pre, acc, he, hl, h => by
    refine masksGo_spec l (pre ++ [o]) (acc ++ [maskOf acc o]) (by simp [he]) (by simp [hl]) ?_
    intro j i hb
    by_cases hj : j < acc.length
    · rw [List.getD_eq_getElem?_getD, List.getElem?_append_left hj, ← List.getD_eq_getElem?_getD] at hb
      exact h j i hb
    · by_cases hj2 : j = acc.length
      · subst hj2
        rw [List.getD_eq_getElem?_getD, List.getElem?_append_right (Nat.le_refl _)] at hb
        simp only [Nat.sub_self, List.getElem?_cons_zero, Option.getD_some] at hb
        have ho : ops[acc.length]? = some o := by
          rw [← Array.getElem?_toList, he, hl, List.getElem?_append_right (Nat.le_refl _)]; simp
        rcases maskOf_spec hb with hb | ⟨e, hem, hbi, hb⟩
        · simp at hb
        · rcases hb with rfl | hb
          · exact .edge ho hem hbi
          · exact .trans (h _ _ hb) (.edge ho hem hbi)
      · rw [List.getD_eq_getElem?_getD, List.getElem?_eq_none (by simp; omega)] at hb
        simp at hb

theorem masks_spec {ops : Array Oper} {j i : Nat} (h : ((masks ops).getD j 0).testBit i = true) : Reach ops i j :=
  masksGo_spec ops.toList [] [] (by simp) rfl (by intro j i h; simp at h) j i h

def dstIs (ops : Array Oper) (i t : Nat) : Bool := match (ops[i]?).bind (·.dst) with
  | some d => Nat.beq d t
  | none => false
def namesOf (ops : Array Oper) (j : Nat) : List Tmp := match ops[j]? with
  | some o => o.dst.toList ++ o.looksAt ops
  | none => []

def okDraw (ops : Array Oper) : Bool :=
  ((List.range ops.size).all fun j => match ops[j]? with
    | some o => o.after.toList.all fun e => !bindsAny e || Nat.blt e.on j
    | none => true) &&
  (let M := masks ops
   (List.range ops.size).all fun j => (namesOf ops j).all fun t => (List.range ops.size).all fun i =>
    Nat.beq i j || (!dstIs ops i t || cond (Nat.blt i j) ((M.getD j 0).testBit i) ((M.getD i 0).testBit j)))

structure DrawOk (ops : Array Oper) : Prop where
  back : ∀ j o, ops[j]? = some o → ∀ e ∈ o.after.toList, bindsAny e = true → e.on < j
  names : ∀ j, j < ops.size → ∀ t ∈ namesOf ops j, ∀ i, i < ops.size → i ≠ j → dstIs ops i t = true → (i < j → Reach ops i j) ∧ (j < i → Reach ops j i)

theorem drawOk_of {ops : Array Oper} (h : okDraw ops = true) : DrawOk ops := by
  unfold okDraw at h
  rw [Bool.and_eq_true, List.all_eq_true, List.all_eq_true] at h
  obtain ⟨h1, h2⟩ := h
  refine ⟨fun j o ho e he hb => ?_, fun j hj t ht i hi hne hd => ?_⟩
  · have hj : j < ops.size := (Array.getElem?_eq_some_iff.1 ho).1
    have := h1 j (List.mem_range.2 hj)
    rw [ho] at this
    simp only [List.all_eq_true] at this
    have := this e he
    rw [hb] at this
    simp only [Bool.not_true, Bool.false_or] at this
    exact Nat.le_of_ble_eq_true this
  · have := h2 j (List.mem_range.2 hj)
    simp only [List.all_eq_true] at this
    have := this t ht i (List.mem_range.2 hi)
    rw [Trie.beq_ff hne, hd] at this
    simp only [Bool.not_true, Bool.false_or] at this
    refine ⟨fun hlt => ?_, fun hlt => ?_⟩
    · rw [show Nat.blt i j = true from Nat.ble_eq_true_of_le hlt, cond_true] at this
      exact masks_spec this
    · have hbf : Nat.blt i j = false := by
        cases hb : Nat.blt i j with
        | false => rfl
        | true => have := Nat.le_of_ble_eq_true hb; omega
      rw [hbf, cond_false] at this
      exact masks_spec this

/-- An operation that neither reads the memory nor turns it. -/
def freeOp : Op → Bool
  | .alloc _ | .box _ _ | .buildSlice _ _ _ | .load _ _ | .store _ _ _ | .makeSlice _ _ _ | .slice _ _ _ _ _ | .call _ | .select _ _ | .defer _ => false
  | _ => true
def freeAt (ops : Array Oper) (k : Nat) : Bool := match ops[k]? with
  | some o => freeOp o.op
  | none => false

def HFree (F : Heap → Option AStep) : Prop := ∀ H s, F H = some s → ∃ v, s = .val v H ∧ ∀ H', F H' = some (.val v H')
theorem HFree.valH (x : Option Value) : HFree fun H => valH H x := fun H s h => by
  cases x with
  | none => cases h
  | some v => cases h; exact ⟨v, rfl, fun _ => rfl⟩
theorem HFree.val (v : Value) : HFree fun H => some (.val v H) := fun H s h => by cases h; exact ⟨v, rfl, fun _ => rfl⟩
theorem HFree.none : HFree fun _ => Option.none := fun H s h => by cases h
theorem HFree.aPlain {ρ : Operand → Value} {o : Oper} : HFree fun H => aPlain P ρ o H := fun H s h => by
  simp only [AM.aPlain] at h ⊢
  cases hp : allPlain ρ o.op.operands.toList with
  | false => rw [hp] at h; cases h
  | true =>
    rw [hp] at h
    simp only [cond_true] at h ⊢
    split at h
    · rename_i v hr
      cases hv : plain v with
      | false => rw [hv] at h; cases h
      | true =>
        rw [hv] at h
        cases h
        exact ⟨v, rfl, fun H' => by simp only [cond_true]⟩
    · cases h
theorem HFree.orP {F G : Heap → Option AStep} (hF : HFree F) (hG : HFree G) : HFree fun H => orP (F H) (G H) := fun H s h => by
  simp only [AM.orP] at h
  cases hf : F H with
  | some s' =>
    rw [hf] at h; cases h
    obtain ⟨v, rfl, hv⟩ := hF H _ hf
    exact ⟨v, rfl, fun H' => by simp only [AM.orP, hv H']⟩
  | none =>
    rw [hf] at h
    obtain ⟨v, rfl, hv⟩ := hG H _ h
    refine ⟨v, rfl, fun H' => ?_⟩
    cases hf' : F H' with
    | some s' =>
      obtain ⟨v', _, hv'⟩ := hF H' _ hf'
      rw [hv' H] at hf; cases hf
    | none => simp only [AM.orP, hf', hv H']
theorem HFree.cond {b : Bool} {F : Heap → Option AStep} (hF : HFree F) : HFree fun H => cond b (F H) Option.none := by
  cases b
  · exact HFree.none
  · exact hF

theorem aOp_free {ρ : Operand → Value} {o : Oper} (hf : freeOp o.op = true) : HFree fun H => aOp P ρ o H := by
  obtain ⟨dst, op, type, pos, after, guard⟩ := o
  cases op
  case pick c a b =>
    show HFree fun H => match ρ c with
      | .bool t => some (.val (_root_.cond t (ρ a) (ρ b)) H)
      | _ => Option.none
    cases ρ c <;> first | exact HFree.val _ | exact HFree.none
  all_goals first
    | (simp [freeOp] at hf; done)
    | exact HFree.aPlain
    | exact HFree.aPlain (P := P) (ρ := ρ) (o := ⟨dst, _, type, pos, after, guard⟩)
    | exact HFree.val _
    | exact HFree.valH _
    | exact (HFree.valH _).orP HFree.aPlain
    | exact HFree.none
    | exact (HFree.val _).cond

theorem aOpRun_free {call : CallF} {ρ : Operand → Value} {o : Oper} (hf : freeOp o.op = true) {H H1 : Heap} {v : Value} (e : aOpRun P call ρ o H = some (v, H1)) :
    H1 = H ∧ ∀ H', aOpRun P call ρ o H' = some (v, H') := by
  unfold aOpRun at e
  cases hs : aOp P ρ o H with
  | none => rw [hs] at e; cases e
  | some s =>
    obtain ⟨v', rfl, hv'⟩ := aOp_free (P := P) (ρ := ρ) hf H s hs
    rw [hs] at e
    cases e
    exact ⟨rfl, fun H' => by unfold aOpRun; rw [show aOp P ρ o H' = _ from hv' H']⟩

theorem aStep_free {call : CallF} {ops : Array Oper} {o : Oper} (hf : freeOp o.op = true) {a : Act} {H H1 : Heap} {v : Value} (e : aStep P call ops o a H = some (v, H1)) :
    H1 = H ∧ ∀ H', aStep P call ops o a H' = some (v, H') := by
  unfold aStep at e ⊢
  cases hw : Region.wanted o (yielded ops a.tmps) with
  | true => rw [hw, cond_true] at e; simp only [cond_true]; exact aOpRun_free hf e
  | false => rw [hw, cond_false] at e; cases e; simp only [cond_false]; exact ⟨trivial, fun _ => trivial⟩

/-- A load that may come late: behind a store to another row. -/
def addrRow : Value → Option Nat
  | .pointer (some ⟨r, _, none⟩) => some r
  | _ => none
def stable (ops : Array Oper) (x : Operand) (k i : Nat) : Bool := match x with
  | .tmp t => (List.range i).all fun l => Nat.blt l k || !dstIs ops l t
  | _ => true
def otherRow (H : Heap) (r r' : Option Nat) : Bool := match r, r' with
  | some r, some r' => !(Nat.beq r r') && (match H.rows.get r' with
    | some row => row.exact
    | none => false)
  | _, _ => false
def lateOk (ops : Array Oper) (ρ : Operand → Value) (H : Heap) (k i : Nat) : Bool := match ops[k]?, ops[i]? with
  | some ok, some oi => match ok.op, ok.guard, oi.op with
    | .load _ x, none, .store _ y _ => stable ops x k i && otherRow H (addrRow (ρ x)) (addrRow (ρ y))
    | _, _, _ => false
  | _, _ => false

def barrier (ops : Array Oper) (ρ : Operand → Value) (H : Heap) (i : Nat) : Bool :=
  let M := masks ops
  ((List.range i).all fun k => freeAt ops k || ((M.getD i 0).testBit k || lateOk ops ρ H k i)) && ((List.range ops.size).all fun k => Nat.ble k i || (freeAt ops k || (M.getD k 0).testBit i))

theorem barrier_spec {ops : Array Oper} {ρ : Operand → Value} {H : Heap} {i : Nat} (h : barrier ops ρ H i = true) :
    (∀ k, k < i → freeAt ops k = true ∨ Reach ops k i ∨ lateOk ops ρ H k i = true) ∧ (∀ k, i < k → k < ops.size → freeAt ops k = true ∨ Reach ops i k) := by
  unfold barrier at h
  simp only [Bool.and_eq_true, List.all_eq_true, List.mem_range, Bool.or_eq_true] at h
  refine ⟨fun k hk => (h.1 k hk).imp id fun h => h.imp masks_spec id, fun k hk hn => ?_⟩
  rcases h.2 k hn with h | h
  · have := Nat.le_of_ble_eq_true h; omega
  · exact h.imp id masks_spec

theorem aLoad_congr {H H' : Heap} {t : TypeId} {a v : Value} (hc : ∀ r row, addrRow a = some r → H.rows.get r = some row → H'.rows.get r = some row ∧ H'.alive r row = H.alive r row)
    (e : aLoad P H t a = some v) : aLoad P H' t a = some v := by
  unfold aLoad at e ⊢
  split at e
  · rename_i r o
    have hr : ∀ n l, H.read r o n = some l → H'.read r o n = some l := fun n l hl => by
      obtain ⟨row, h1, h2, h3, h4⟩ := read_inv hl
      obtain ⟨h5, h6⟩ := hc r row rfl h1
      unfold Heap.read at hl ⊢
      rw [h1] at hl
      rw [h5]
      simp only [h6] at hl ⊢
      exact hl
    cases hi : P.info? t with
    | none => rw [hi] at e; cases e
    | some i =>
      cases hu : P.underlying t with
      | none => rw [hi, hu] at e; cases e
      | some d =>
        rw [hi, hu] at e
        simp only [] at e ⊢
        cases hd : isAggD d with
        | true =>
          rw [hd, cond_true, Option.map_eq_some_iff] at e
          obtain ⟨l, h1, h2⟩ := e
          rw [cond_true, hr _ _ h1, Option.map_some, h2]
        | false =>
          rw [hd, cond_false, Option.bind_eq_some_iff] at e
          obtain ⟨l, h1, h2⟩ := e
          rw [cond_false, hr _ _ h1, Option.bind_some, h2]
  · cases e

theorem aOpRun_load {call : CallF} {ρ : Operand → Value} {o : Oper} {t : TypeId} {x : Operand} (ho : o.op = .load t x) {H : Heap} : aOpRun P call ρ o H = (aLoad P H t (ρ x)).map fun v => (v, H) := by
  obtain ⟨dst, op, type, pos, after, guard⟩ := o
  cases ho
  show (match valH H (aLoad P H t (ρ x)) with
    | some (.val v H') => some (v, H')
    | some (.enter f args) => call (.fn f) args H
    | some (.round l args) => call (.rnd l) args H
    | none => none) = _
  cases aLoad P H t (ρ x) <;> rfl

theorem aStep_load {call : CallF} {ops : Array Oper} {o : Oper} {t : TypeId} {x : Operand} (ho : o.op = .load t x) (hg : o.guard = none) {a : Act} {H : Heap} :
    aStep P call ops o a H = (aLoad P H t (a.eval x)).map fun v => (v, H) := by
  unfold aStep
  rw [show Region.wanted o (yielded ops a.tmps) = true from by unfold Region.wanted; rw [hg]]
  exact aOpRun_load ho

/-! The region, in the order of the text. -/

def Heap.relow (H : Heap) (l : Nat) : Heap := { H with low := l }

def aDraw (P : Program) (call : CallF) (ops : Array Oper) : Nat → Nat → Act → Heap → Option (Act × Heap)
  | 0, _, a, H => some (a, H)
  | k + 1, i, a, H => match ops[i]? with
    | none => none
    | some o => match aStep P call ops o a (H.relow H.size) with
      | none => none
      | some (v, H1) => cond (Nat.ble H.size H1.low || barrier ops a.eval H i) (aDraw P call ops k (i + 1) (a.put o.dst v) (H1.relow (Nat.min H.low H1.low))) none

structure Trace (P : Program) (call : CallF) (ops : Array Oper) (i0 n : Nat) (as : Nat → Act) (hs h1 : Nat → Heap) (vs : Nat → Value) : Prop where
  step : ∀ i, i0 ≤ i → i < n → ∃ o, ops[i]? = some o ∧ aStep P call ops o (as i) ((hs i).relow (hs i).size) = some (vs i, h1 i) ∧ as (i + 1) = (as i).put o.dst (vs i) ∧
    hs (i + 1) = (h1 i).relow (Nat.min (hs i).low (h1 i).low) ∧ ((hs i).size ≤ (h1 i).low ∨ barrier ops (as i).eval (hs i) i = true)

theorem aDraw_trace {call : CallF} {ops : Array Oper} : ∀ (k i : Nat) {a a' : Act} {H H' : Heap}, aDraw P call ops k i a H = some (a', H') →
    ∃ as hs h1 vs, Trace P call ops i (i + k) as hs h1 vs ∧ as i = a ∧ hs i = H ∧ as (i + k) = a' ∧ hs (i + k) = H'
  | 0, i, a, a', H, H', e => by
    cases e
    exact ⟨fun _ => a, fun _ => H, fun _ => H, fun _ => undef, ⟨fun j h1 h2 => by omega⟩, rfl, rfl, rfl, rfl⟩
  | k + 1, i, a, a', H, H', e => by
    unfold aDraw at e
    split at e
    · cases e
    · rename_i o ho
      split at e
      · cases e
      · rename_i v H1 hst
        obtain ⟨hb, e⟩ := cond_some e
        rw [Bool.or_eq_true] at hb
        obtain ⟨as, hs, h1, vs, ht, e1, e2, e3, e4⟩ := aDraw_trace k (i + 1) e
        refine ⟨fun j => if j = i then a else as j, fun j => if j = i then H else hs j, fun j => if j = i then H1 else h1 j, fun j => if j = i then v else vs j, ⟨fun j hj hjn => ?_⟩, by simp, by simp, ?_, ?_⟩
        · by_cases hji : j = i
          · subst hji
            refine ⟨o, ho, by simpa using hst, ?_, ?_, ?_⟩
            · simp [e1]
            · simp [e2]
            · simpa using hb.imp Nat.le_of_ble_eq_true id
          · obtain ⟨o', h⟩ := ht.step j (by omega) (by omega)
            refine ⟨o', ?_⟩
            simpa [hji, show j + 1 ≠ i by omega] using h
        · simp only [show i + (k + 1) ≠ i by omega, if_false]; rw [← e3]; congr 1; omega
        · simp only [show i + (k + 1) ≠ i by omega, if_false]; rw [← e4]; congr 1; omega

theorem relow_alive (H : Heap) (l r : Nat) (row : Row) : (H.relow l).alive r row = H.alive r row := rfl
theorem HInv.relow {H : Heap} (h : HInv H) (l : Nat) : HInv (H.relow l) := h

/-- Rows below 'N' read the same. -/
def Same (N : Nat) (H H' : Heap) : Prop := ∀ r, r < N → H'.rows.get r = H.rows.get r ∧ ∀ row, H.rows.get r = some row → H'.alive r row = H.alive r row
theorem Same.refl (N : Nat) (H : Heap) : Same N H H := fun _ _ => ⟨rfl, fun _ _ => rfl⟩
theorem Same.trans {N N' : Nat} {A B C : Heap} (h : Same N A B) (k : Same N' B C) (hN : N ≤ N') : Same N A C := fun r hr => by
  obtain ⟨e1, a1⟩ := h r hr
  obtain ⟨e2, a2⟩ := k r (by omega)
  exact ⟨e2.trans e1, fun row hrow => (a2 row (e1.trans hrow)).trans (a1 row hrow)⟩

def Map.lt (m : Map) (N : Nat) : Map := fun r => if r < N then m r else none
theorem Map.lt_le (m : Map) (N : Nat) : (m.lt N).le m := fun r rm h => by
  unfold Map.lt at h; split at h
  · exact h
  · cases h
theorem Map.lt_mono {m m' : Map} {N N' : Nat} (h : m.le m') (hN : N ≤ N') : (m.lt N).le (m'.lt N') := fun r rm e => by
  unfold Map.lt at *
  split at e
  · rw [if_pos (by omega)]; exact h r rm e
  · cases e
theorem Map.lt_some {m : Map} {N r : Nat} {rm : RowMap} (h : m.lt N r = some rm) : r < N ∧ m r = some rm := by
  unfold Map.lt at h; split at h
  · rename_i hr; exact ⟨hr, h⟩
  · cases h
theorem Map.lt_of {m : Map} {N r : Nat} {rm : RowMap} (hr : r < N) (h : m r = some rm) : m.lt N r = some rm := by unfold Map.lt; rw [if_pos hr]; exact h

/-- The relation carried over to another memory of the canonical machine that reads the same where the map is. -/
theorem HR.swap {H' : Heap} (h : HR n0 m H w) (hi : HInv H') (hd : ∀ r rm, m r = some rm → r < H'.size ∧ (∀ row, H.rows.get r = some row → H'.rows.get r = some row ∧ H'.alive r row = H.alive r row)) : HR n0 m H' w where
  base := h.base
  row := fun r rm hm => by
    obtain ⟨row, hr, hlt, hf⟩ := h.row r rm hm
    obtain ⟨h1, h2⟩ := hd r rm hm
    obtain ⟨h3, h4⟩ := h2 row hr
    exact ⟨row, h3, h1, by rw [h4]; exact hf⟩
  apart := fun r r' rm rm' x x' hm hm' hx hx' hb => by
    obtain ⟨y, hy, _, _⟩ := h.row r rm hm
    obtain ⟨y', hy', _, _⟩ := h.row r' rm' hm'
    have e1 := ((hd r rm hm).2 y hy).1
    have e2 := ((hd r' rm' hm').2 y' hy').1
    rw [hx] at e1; cases e1
    rw [hx'] at e2; cases e2
    exact h.apart r r' rm rm' x x' hm hm' hy hy' hb
  inv := hi

theorem Map.lt_eq {m : Map} {N : Nat} (h : ∀ r rm, m r = some rm → r < N) : m.lt N = m := by
  funext r
  unfold Map.lt
  split
  · rfl
  · rename_i hr
    cases e : m r with
    | none => rfl
    | some rm => exact absurd (h r rm e) hr

theorem HR.world {w' : World} (h : HR n0 m H w) (hb : ∀ b, b < w.heap.size → w'.heap[b]? = w.heap[b]?) (hs : w.heap.size ≤ w'.heap.size) : HR n0 m H w' where
  base := Nat.le_trans h.base hs
  row := fun r rm hm => by
    obtain ⟨row, h1, h2, hf⟩ := h.row r rm hm
    exact ⟨row, h1, h2, hf.later (Map.le_refl _) (hb _ hf.lt) id⟩
  apart := h.apart
  inv := h.inv

/-- Two maps over one world, joined: the second one's own rows lie in blocks of their own. -/
theorem HR.merge {ma mb mm : Map} {B : Nat} (ha : HR n0 ma H w) (hb : HR n0 mb H w) (hma : ma.le mm) (hmb : mb.le mm) (hmm : ∀ r rm, mm r = some rm → ma r = some rm ∨ (mb r = some rm ∧ rm.ro = false ∧ B ≤ rm.blk))
    (hB : ∀ r rm, ma r = some rm → rm.blk < B) : HR n0 mm H w where
  base := ha.base
  row := fun r rm hm => by
    rcases hmm r rm hm with h | ⟨h, _, _⟩
    · obtain ⟨row, h1, h2, hf⟩ := ha.row r rm h
      exact ⟨row, h1, h2, hf.later hma rfl id⟩
    · obtain ⟨row, h1, h2, hf⟩ := hb.row r rm h
      exact ⟨row, h1, h2, hf.later hmb rfl id⟩
  apart := fun r r' rm rm' x x' hm hm' hx hx' he => by
    rcases hmm r rm hm with h | ⟨h, _, hl⟩ <;> rcases hmm r' rm' hm' with h' | ⟨h', _, hl'⟩
    · exact ha.apart r r' rm rm' x x' h h' hx hx' he
    · have := hB r rm h; omega
    · have := hB r' rm' h'; omega
    · exact hb.apart r r' rm rm' x x' h h' hx hx' he
  inv := ha.inv

section draw
variable {G : Nat} {call : CallF} {ops : Array Oper} {as : Nat → Act} {hs h1 : Nat → Heap} {vs : Nat → Value}

structure Setting (P : Program) (G : Nat) (call : CallF) (ops : Array Oper) (as : Nat → Act) (hs h1 : Nat → Heap) (vs : Nat → Value) : Prop where
  ht : Trace P call ops 0 ops.size as hs h1 vs
  hd : DrawOk ops
  hc : CallOk P G call
  hi : HInv (hs 0)
  hok : okOpers G ops.toList = true

def nt (hs h1 : Nat → Heap) (i : Nat) : Prop := (hs i).size ≤ (h1 i).low

theorem Setting.inv (T : Setting P G call ops as hs h1 vs) : ∀ i, i ≤ ops.size → HInv (hs i) := by
  intro i
  induction i with
  | zero => intro _; exact T.hi
  | succ i ih =>
    intro hi
    obtain ⟨o, _, hst, _, e, _⟩ := T.ht.step i (Nat.zero_le _) (by omega)
    rw [e]
    exact (aStep_go T.hc ((ih (by omega)).relow _) hst).2

theorem Setting.hf (T : Setting P G call ops as hs h1 vs) (i : Nat) (hi : i < ops.size) : HF ((hs i).relow (hs i).size) (h1 i) := by
  obtain ⟨o, _, hst, _⟩ := T.ht.step i (Nat.zero_le _) hi
  exact (aStep_go T.hc ((T.inv i (by omega)).relow _) hst).1

theorem Setting.size1 (T : Setting P G call ops as hs h1 vs) (i : Nat) (hi : i < ops.size) : (hs (i + 1)).size = (h1 i).size := by
  obtain ⟨o, _, _, _, e, _⟩ := T.ht.step i (Nat.zero_le _) hi
  rw [e]; rfl

theorem Setting.sizes (T : Setting P G call ops as hs h1 vs) : ∀ i k, i ≤ k → k ≤ ops.size → (hs i).size ≤ (hs k).size := by
  intro i k hik
  induction k with
  | zero => intro _; rw [Nat.le_zero.1 hik]; exact Nat.le_refl _
  | succ k ih =>
    intro hk
    by_cases h : i = k + 1
    · rw [h]; exact Nat.le_refl _
    · refine Nat.le_trans (ih (by omega) (by omega)) ?_
      rw [T.size1 k (by omega)]
      exact (T.hf k (by omega)).size

theorem Setting.free (T : Setting P G call ops as hs h1 vs) {j : Nat} (hj : j < ops.size) (hf : freeAt ops j = true) {o : Oper} (ho : ops[j]? = some o) :
    h1 j = (hs j).relow (hs j).size ∧ ∀ H', aStep P call ops o (as j) H' = some (vs j, H') := by
  obtain ⟨o', ho', hst, _⟩ := T.ht.step j (Nat.zero_le _) hj
  rw [ho] at ho'; cases ho'
  unfold freeAt at hf
  rw [ho] at hf
  exact aStep_free hf hst

/-- A load that comes to the same at another memory. -/
def LateAt (P : Program) (ops : Array Oper) (as : Nat → Act) (vs : Nat → Value) (k : Nat) (H : Heap) : Prop :=
  ∃ o t x, ops[k]? = some o ∧ o.op = .load t x ∧ o.guard = none ∧ aLoad P H t ((as k).eval x) = some (vs k)

theorem LateAt.step {k : Nat} {H : Heap} (h : LateAt P ops as vs k H) {o : Oper} (ho : ops[k]? = some o) (l : Nat) : aStep P call ops o (as k) (H.relow l) = some (vs k, H.relow l) := by
  obtain ⟨o', t, x, ho', hop, hg, hl⟩ := h
  rw [ho] at ho'; cases ho'
  rw [aStep_load hop hg, show aLoad P (H.relow l) t ((as k).eval x) = some (vs k) from hl]
  rfl

theorem LateAt.same {k : Nat} {H H' : Heap} (h : LateAt P ops as vs k H) (hi : HInv H) (hs : Same H.size H H') : LateAt P ops as vs k H' := by
  obtain ⟨o, t, x, ho, hop, hg, hl⟩ := h
  refine ⟨o, t, x, ho, hop, hg, aLoad_congr (fun r row _ hrow => ?_) hl⟩
  obtain ⟨h1, h2⟩ := hs r (hi r row hrow).2
  exact ⟨h1.trans hrow, h2 row hrow⟩

theorem Setting.low1 (T : Setting P G call ops as hs h1 vs) (i : Nat) (hi : i < ops.size) : (hs (i + 1)).low ≤ (hs i).low ∧ (hs (i + 1)).low ≤ (h1 i).low := by
  obtain ⟨o, _, _, _, e, _⟩ := T.ht.step i (Nat.zero_le _) hi
  rw [e]
  exact ⟨Nat.min_le_left _ _, Nat.min_le_right _ _⟩

theorem Setting.lows (T : Setting P G call ops as hs h1 vs) : ∀ i k, i ≤ k → k ≤ ops.size → (hs k).low ≤ (hs i).low := by
  intro i k hik
  induction k with
  | zero => intro _; rw [Nat.le_zero.1 hik]; exact Nat.le_refl _
  | succ k ih =>
    intro hk
    by_cases h : i = k + 1
    · rw [h]; exact Nat.le_refl _
    · exact Nat.le_trans (T.low1 k (by omega)).1 (ih (by omega) (by omega))

theorem Setting.same (T : Setting P G call ops as hs h1 vs) : ∀ i k, i ≤ k → k ≤ ops.size → (∀ l, i ≤ l → l < k → nt hs h1 l) → Same (hs i).size (hs i) (hs k) := by
  intro i k hik
  induction k with
  | zero => intro _ _; rw [Nat.le_zero.1 hik]; exact Same.refl _ _
  | succ k ih =>
    intro hk hnt
    by_cases h : i = k + 1
    · rw [h]; exact Same.refl _ _
    · refine (ih (by omega) (by omega) fun l a b => hnt l a (by omega)).trans (N' := (hs k).size) ?_ (T.sizes i k (by omega) (by omega))
      intro r hr
      obtain ⟨o, _, _, _, e, _⟩ := T.ht.step k (Nat.zero_le _) (by omega)
      have hn := hnt k (by omega) (by omega)
      obtain ⟨e1, e2⟩ := (T.hf k (by omega)).keep r hr (Nat.lt_of_lt_of_le hr hn)
      rw [e]
      exact ⟨e1, e2⟩

theorem Setting.asSize (T : Setting P G call ops as hs h1 vs) : ∀ i, i ≤ ops.size → (as i).tmps.size = (as 0).tmps.size := by
  intro i
  induction i with
  | zero => intro _; rfl
  | succ i ih =>
    intro hi
    obtain ⟨o, _, _, e, _⟩ := T.ht.step i (Nat.zero_le _) (by omega)
    rw [e, put_size, ih (by omega)]

theorem dstIs_of {i t : Nat} {o : Oper} (ho : ops[i]? = some o) : dstIs ops i t = true ↔ o.dst = some t := by
  unfold dstIs
  rw [ho]
  cases h : o.dst with
  | none => simp [h]
  | some d =>
    simp only [Option.bind_some, h, Option.some.injEq]
    exact ⟨fun e => Nat.eq_of_beq_eq_true e, fun e => Trie.beq_tt e⟩

theorem Setting.asKeep (T : Setting P G call ops as hs h1 vs) (t : Nat) : ∀ i k, i ≤ k → k ≤ ops.size → (∀ l, i ≤ l → l < k → dstIs ops l t = false) → (as k).tmps.getD t undef = (as i).tmps.getD t undef := by
  intro i k hik
  induction k with
  | zero => intro _ _; rw [Nat.le_zero.1 hik]
  | succ k ih =>
    intro hk hn
    by_cases h : i = k + 1
    · rw [h]
    · obtain ⟨o, ho, _, e, _⟩ := T.ht.step k (Nat.zero_le _) (by omega)
      rw [e, put_getD, if_neg, ih (by omega) (by omega) fun l a b => hn l a (by omega)]
      rintro ⟨hd, _⟩
      have := hn k (by omega) (by omega)
      rw [(dstIs_of ho).2 hd] at this
      cases this

/-- A load that stands open when a store to another row goes. -/
theorem Setting.late (T : Setting P G call ops as hs h1 vs) {k j : Nat} (hkj : k < j) (hj : j < ops.size) (hlt : lateOk ops (as j).eval (hs j) k j = true)
    (h : LateAt P ops as vs k (hs j)) : LateAt P ops as vs k (hs (j + 1)) := by
  obtain ⟨o, t, x, ho, hop, hg, hl⟩ := h
  obtain ⟨oj, hoj, hst, _, hhs, _⟩ := T.ht.step j (Nat.zero_le _) hj
  unfold lateOk at hlt
  rw [ho, hoj] at hlt
  simp only [hop, hg] at hlt
  split at hlt
  · rename_i t0 x0 t' y v' he1 _ hjop
    cases he1
    rw [Bool.and_eq_true] at hlt
    obtain ⟨hstb, hoth⟩ := hlt
    have hev : (as j).eval x = (as k).eval x := by
      cases x with
      | tmp u =>
        refine T.asKeep u k j (by omega) (by omega) fun l h1 h2 => ?_
        unfold stable at hstb
        simp only [List.all_eq_true, List.mem_range, Bool.or_eq_true] at hstb
        rcases hstb l h2 with h3 | h3
        · have := Nat.le_of_ble_eq_true h3; omega
        · simpa using h3
      | _ => rfl
    rw [hev] at hoth
    refine ⟨o, t, x, ho, hop, hg, ?_⟩
    unfold otherRow at hoth
    split at hoth
    · rename_i r r' hr hr'
      rw [Bool.and_eq_true] at hoth
      obtain ⟨hne, hex⟩ := hoth
      have hne : r ≠ r' := fun e => by rw [Trie.beq_tt e] at hne; cases hne
      cases hrow' : (hs j).rows.get r' with
      | none => rw [hrow'] at hex; cases hex
      | some row' =>
        rw [hrow'] at hex
        have hex : row'.exact = true := hex
        refine aLoad_congr (fun r2 row hr2 hrow => ?_) hl
        rw [hr] at hr2; cases hr2
        rw [hhs]
        show (h1 j).rows.get r = some row ∧ (h1 j).alive r row = (hs j).alive r row
        unfold aStep at hst
        rcases cond_or hst with hst | hst
        · unfold aOpRun aOp at hst
          rw [hjop] at hst
          simp only [] at hst
          cases ha : aStore P ((hs j).relow (hs j).size) t' ((as j).eval y) ((as j).eval v') with
          | none => rw [ha] at hst; cases hst
          | some H' =>
            rw [ha] at hst
            have hh : H' = h1 j := congrArg Prod.snd (Option.some.inj hst)
            rw [← hh]
            clear hst hh
            unfold aStore at ha
            split at ha
            · rename_i b o2 hab
              rw [hab] at hr'
              cases hr'
              split at ha
              · rename_i i row2 hi2 hrow2
                have hrow2 : (hs j).rows.get r' = some row2 := hrow2
                rw [hrow'] at hrow2; cases hrow2
                obtain ⟨_, ha⟩ := cond_some ha
                cases ha
                refine ⟨?_, ?_⟩
                · rw [Heap.store_get, if_neg hne]; exact hrow
                · unfold Heap.alive
                  cases row.loop with
                  | some _ => rfl
                  | none =>
                    simp only []
                    rw [Heap.store_eq]
                    simp only [hex, cond_true]
                    rfl
              · cases ha
            · cases ha
        · have hh : (hs j).relow (hs j).size = h1 j := congrArg Prod.snd (Option.some.inj hst)
          rw [← hh]
          exact ⟨hrow, rfl⟩
    · cases hoth
  · cases hlt

theorem nt_first (n : Nat) : ∀ d p, p + d = n → ∃ q, p ≤ q ∧ q ≤ n ∧ (∀ i, p ≤ i → i < q → nt hs h1 i) ∧ (q < n → ¬ nt hs h1 q)
  | 0, p, h => ⟨p, Nat.le_refl _, by omega, fun i a b => by omega, fun hq => by omega⟩
  | d + 1, p, h => by
    by_cases hp : nt hs h1 p
    · obtain ⟨q, h1', h2, h3, h4⟩ := nt_first n d (p + 1) (by omega)
      refine ⟨q, by omega, h2, fun i a b => ?_, h4⟩
      by_cases hi : i = p
      · rw [hi]; exact hp
      · exact h3 i (by omega) b
    · exact ⟨p, Nat.le_refl _, by omega, fun i a b => by omega, fun _ => hp⟩

end draw

end Go.AM
