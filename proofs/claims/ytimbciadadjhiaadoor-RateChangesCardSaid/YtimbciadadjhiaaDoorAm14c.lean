/- A general tool, which names no program: a canonical machine for the model's own code (rows of cells by number, no world, no open order), proved: what it comes to is what every run comes to. -/
import Derived.Test.YtimbciadadjhiaaDoorAm14b
set_option linter.unusedVariables false
set_option linter.unusedSimpArgs false
set_option linter.unusedSectionVars false
namespace Go.AM
open Go.RowKit (Below)

variable {P : Program} {G : Nat} {call : CallF} {n0 : Nat} {m : Map} {H : Heap} {w : World}

/-! Code. -/

theorem wpIn_scope_straight {F : Fence} {n : Nat} {Q : Exit → Act → World → Prop} {a : Act} {c : Code} (h : c.wpIn F n P (Exit.noGoto Q) a w) : (Code.scope c).wpIn F n P Q a w := by
  intro b k cs hro hb hr
  have s0 : step P (lone (b.atR a (.code (.scope c) :: k)) cs w) = .next (lone (b.atR a (.code c :: .inScope c :: k)) cs w) := step_lone_go (by simp [stepG, stepG.exec, Frame.atR])
  have s1 : ∀ a w, step P (lone (b.atR a (.inScope c :: k)) cs w) = .next (lone (b.atR a k) cs w) := fun a w => step_lone_go (by simp [stepG, stepG.exec, Frame.atR])
  have h0 : (lone (b.atR a (.code (.scope c) :: k)) cs w).fenced P F := fenced_calm hb hr rfl
  obtain ⟨e, a₁, w₁, hq, harr⟩ := h b (.inScope c :: k) cs hro hb hr
  cases e with
  | normal => exact ⟨.normal, a₁, w₁, hq, .head h0 s0 (StepsIn.trans harr (.one (fenced_calm hb hr rfl) (s1 _ _)))⟩
  | exit id =>
    refine ⟨.exit id, a₁, w₁, hq, fun k' hk => .head h0 s0 (harr.1 k' (by simp [exitTo, hk])), fun hr' hk => ?_⟩
    obtain ⟨k₁, h1, h2⟩ := harr.2 hr' (by simp [exitTo, hk])
    exact ⟨k₁, h1, .head h0 s0 h2⟩
  | goto l => exact hq.elim
  | ret => exact ⟨_, a₁, w₁, hq, .of_steps (.one h0 s0) harr⟩
  | panic ch => exact ⟨_, a₁, w₁, hq, .of_steps (.one h0 s0) harr⟩
  | outgrown => exact ⟨_, a₁, w₁, hq, .of_steps (.one h0 s0) harr⟩

inductive AExit where
  | normal
  | exit (id : Nat)
  | goto (l : Nat)
  | ret

def AExit.real : AExit → Exit
  | .normal => .normal
  | .exit id => .exit id
  | .goto l => .goto l
  | .ret => .ret

def AExit.jump : AExit → Option Code
  | .normal => none
  | .exit id => some (.exit id)
  | .goto l => some (.goto l)
  | .ret => some .ret

def exitOf : Option Code → Option AExit
  | none => some .normal
  | some (.exit id) => some (.exit id)
  | some (.goto l) => some (.goto l)
  | some .ret => some .ret
  | _ => none

theorem exitOf_some {j : Option Code} {e : AExit} (h : exitOf j = some e) : j = e.jump := by
  unfold exitOf at h
  split at h <;> first | (cases h; rfl) | cases h

def okCode (G : Nat) : Code → Bool
  | .region _ ops dr => okOpers G ops.toList && (!dr || okDraw ops)
  | .seq a b => okCode G a && okCode G b
  | .cond c a b => okOpnd G c && (okCode G a && okCode G b)
  | .block _ c => okCode G c
  | .loop c => okCode G c
  | .scope c => okCode G c
  | .rangeFunc g _ _ _ => okOpnd G g
  | _ => true

abbrev ARes := Option (AExit × Act × Heap)

def thenN (r : ARes) (k : Act → Heap → ARes) : ARes := match r with
  | some (.normal, a, H) => k a H
  | r => r
def outOf (id : Nat) (r : ARes) : ARes := match r with
  | some (.exit i, a, H) => cond (Nat.beq i id) (some (.normal, a, H)) (some (.exit i, a, H))
  | r => r
def noGo (r : ARes) : ARes := match r with
  | some (.goto _, _, _) => none
  | r => r
def asN (r : Option (Act × Heap)) : ARes := match r with
  | some (a, H) => some (.normal, a, H)
  | none => none

def busy : LoopState → Bool
  | .busy => true
  | _ => false

def endL {α : Type} (l : Nat) (a : α) (r : Option (Value × Heap)) : Option (AExit × α × Heap) := match r with
  | some (_, H) => match H.rows.get l with
    | some row => match row.loop with
      | some lr => match exitOf lr.pending with
        | some e => cond (!busy lr.state && !row.ro) (some (e, a, H.setLoop l row .exhausted lr.pending)) none
        | none => none
      | none => none
    | none => none
  | none => none

theorem endL_some {α : Type} {l : Nat} {a a' : α} {r : Option (Value × Heap)} {e : AExit} {H' : Heap} (h : endL l a r = some (e, a', H')) :
    ∃ v H1 row lr, r = some (v, H1) ∧ H1.rows.get l = some row ∧ row.loop = some lr ∧ exitOf lr.pending = some e ∧ busy lr.state = false ∧ row.ro = false ∧ a' = a ∧ H' = H1.setLoop l row .exhausted lr.pending := by
  unfold endL at h
  split at h
  case h_2 => cases h
  rename_i v H1
  split at h
  case h_2 => cases h
  rename_i row hrow
  split at h
  case h_2 => cases h
  rename_i lr hl
  split at h
  case h_2 => cases h
  rename_i e' he
  obtain ⟨hb, h⟩ := cond_some h
  cases h
  simp only [Bool.and_eq_true, Bool.not_eq_true'] at hb
  exact ⟨v, H1, row, lr, rfl, hrow, hl, he, hb.1, hb.2, rfl, rfl⟩

def loopOf (a : Act) (ps : Array Tmp) (assign body : Code) : LoopRec := { tmps := a.tmps, params := ps, assign := assign, body := body, state := .ready, pending := none }

theorem endL_swap {α β : Type} {l : Nat} {a a' : α} (b : β) {r : Option (Value × Heap)} {e : AExit} {H' : Heap} (h : endL l a r = some (e, a', H')) : a' = a ∧ endL l b r = some (e, b, H') := by
  obtain ⟨v, H1, row, lr, rfl, hrow, hl, he, hb, hro, rfl, rfl⟩ := endL_some h
  refine ⟨rfl, ?_⟩
  unfold endL
  simp only [hrow, hl, he, hb, hro, Bool.not_false, Bool.and_true, cond_true]

def aCode (P : Program) (call : CallF) : Nat → Code → Act → Heap → ARes
  | 0, _, _, _ => none
  | n + 1, c, a, H => match c with
    | .skip | .label _ => some (.normal, a, H)
    | .region _ ops dr => asN (cond dr (aDraw P call ops ops.size 0 a H) (aOps P call ops ops.toList a H))
    | .seq x y => thenN (aCode P call n x a H) (aCode P call n y)
    | .cond c x y => match a.eval c with
      | .bool t => aCode P call n (cond t x y) a H
      | _ => none
    | .block id x => outOf id (aCode P call n x a H)
    | .loop x => thenN (aCode P call n x a H) (aCode P call n (.loop x))
    | .exit id => some (.exit id, a, H)
    | .goto l => some (.goto l, a, H)
    | .ret => some (.ret, a, H)
    | .scope x => noGo (aCode P call n x a H)
    | .rangeFunc g ps as bd => match a.eval g with
      | .func (.func f) ⟨fa⟩ ⟨fb⟩ => endL H.size a (call (.fn f) (fa ++ [.func (.yield H.size) ⟨[]⟩ ⟨[]⟩] ++ fb) (H.addLoop (loopOf a ps as bd)))
      | _ => none
    | _ => none

def RoOk (ro : Option Nat) (w : World) : Prop := ∀ l, ro = some l → ∃ L, w.heap[l]? = some (Obj.loop L)

def Goes (P : Program) (G : Nat) (a : Act) (H : Heap) (e : AExit) (a' : Act) (H' : Heap) (W : Fence → (Exit → Act → World → Prop) → Act → World → Prop) : Prop :=
  ∀ (ro : Option Nat) (n0 B : Nat) (m : Map) (w : World) (A : Act) (Q : Exit → Act → World → Prop), HR n0 m H w → Glob m G → AR m a A → Marks B m w A.defers → B ≤ w.heap.size → RoOk ro w →
    (∀ A' m' w', Ext n0 m H w m' H' w' → AR m' a' A' → Marks B m' w' A'.defers → Q e.real A' w') → W (fenceOf ro) Q A w

def CodeOk (P : Program) (G : Nat) (c : Code) (a : Act) (H : Heap) (e : AExit) (a' : Act) (H' : Heap) : Prop :=
  (HInv H → HGo H H') ∧ Goes P G a H e a' H' fun F Q A w => c.wpIn F 0 P Q A w

theorem RoOk.ext {ro : Option Nat} {m' : Map} {H' : Heap} {w' : World} (h : RoOk ro w) (hx : Ext n0 m H w m' H' w') : RoOk ro w' := fun l hl => by
  obtain ⟨L, hL⟩ := h l hl
  exact hx.loops l L hL

theorem thenN_inv {r : ARes} {k : Act → Heap → ARes} {e : AExit} {a' : Act} {H' : Heap} (h : thenN r k = some (e, a', H')) :
    (∃ a1 H1, r = some (.normal, a1, H1) ∧ k a1 H1 = some (e, a', H')) ∨ (r = some (e, a', H') ∧ e ≠ .normal) := by
  unfold thenN at h
  split at h
  · exact .inl ⟨_, _, rfl, h⟩
  · rename_i hne
    refine .inr ⟨h, fun he => ?_⟩
    subst he
    exact hne _ _ h

theorem exit_then {e : AExit} {next : Act → World → Prop} {Q : Exit → Act → World → Prop} {a : Act} {w : World} (he : e ≠ .normal) (h : Q e.real a w) : Exit.then next Q e.real a w := by
  cases e <;> first | exact absurd rfl he | exact h

theorem jump_walk {F : Fence} {n : Nat} {e : AExit} {Q : Exit → Act → World → Prop} {a : Act} (h : Q e.real a w) :
    (match e.jump with | none => Q .normal a w | some c => c.wpIn F n P Q a w) := by
  cases e with
  | normal => exact h
  | exit id => exact wpIn_exit h
  | goto l => exact wpIn_goto h
  | ret => exact wpIn_ret h

theorem enterLoop_none {fn : FuncId} {tmps : Array Value} {ps : Array Tmp} {assign body : Code} :
    (Instr.enterLoop fn tmps ps assign body none).run P w = .ok (w.heap.size + 1, [markOf w.heap.size])
      { w with heap := (w.heap.push (.deferred (some []))).push (.loop { state := .ready, pending := none, fn, tmps, params := ps, assign, body, defers := w.heap.size }) } := by
  simp [Instr.enterLoop, newObj, Sem.run, markOf]; rfl

theorem enterLoop_some {fn : FuncId} {tmps : Array Value} {ps : Array Tmp} {assign body : Code} {l0 : Nat} {L : Loop} (h : w.heap[l0]? = some (.loop L)) :
    (Instr.enterLoop fn tmps ps assign body (some l0)).run P w = .ok (w.heap.size, [])
      { w with heap := w.heap.push (.loop { state := .ready, pending := none, fn, tmps, params := ps, assign, body, defers := L.defers }) } := by
  simp [Instr.enterLoop, Instr.getLoop, getObj, newObj, Sem.run, h]

theorem endLoop_run {l : Nat} {L : Loop} (h : w.heap[l]? = some (.loop L)) (hb : busy L.state = false) :
    (Instr.endLoop l).run P w = .ok L.pending (World.setObjAt w l (.loop { L with state := .exhausted, pending := L.pending })) := by
  have : ¬ L.state = LoopState.busy := fun hs => by rw [hs] at hb; cases hb
  simp [Instr.endLoop, Instr.getLoop, getObj, setObj, Sem.run, h, this, World.setObjAt]

theorem setLoop_id_pending {lr : LoopRec} {L : Loop} (hR : RecOk m lr L) : (Obj.loop { L with state := .exhausted, pending := L.pending }) = Obj.loop { L with state := .exhausted, pending := lr.pending } := by
  rw [hR.pd]

theorem Marks.cons {B : Nat} {w' : World} {ds : List Deferred} {m' : Map} (h : Marks B m w ds) (hB : B ≤ w.heap.size)
    (hnew : w'.heap[w.heap.size]? = some (.deferred (some []))) (hold : ∀ b, b < w.heap.size → w'.heap[b]? = w.heap[b]?)
    (hmap : ∀ l rm, m' l = some rm → m l = some rm ∨ rm.blk = w.heap.size + 1) (hlt : ∀ l rm, m l = some rm → rm.blk < w.heap.size) : Marks B m' w' (markOf w.heap.size :: ds) := by
  obtain ⟨rs, e, hn, ha⟩ := h
  have hrs : ∀ r, r ∈ rs → r < w.heap.size := fun r hr => (Array.getElem?_eq_some_iff.1 (ha r hr).1).1
  refine ⟨w.heap.size :: rs, by rw [e]; rfl, List.nodup_cons.2 ⟨fun hh => by have := hrs _ hh; omega, hn⟩, fun r hr => ?_⟩
  rcases List.mem_cons.1 hr with rfl | hr
  · refine ⟨hnew, hB, fun l rm hm => ?_⟩
    rcases hmap l rm hm with h1 | h1
    · have := hlt l rm h1; omega
    · omega
  · obtain ⟨h1, h2, h3⟩ := ha r hr
    have := hrs r hr
    refine ⟨by rw [hold r this]; exact h1, h2, fun l rm hm => ?_⟩
    rcases hmap l rm hm with h4 | h4
    · exact h3 l rm h4
    · omega

theorem Marks.same {B : Nat} {w' : World} {ds : List Deferred} {m' : Map} (h : Marks B m w ds) (hold : ∀ b, b < w.heap.size → w'.heap[b]? = w.heap[b]?)
    (hmap : ∀ l rm, m' l = some rm → m l = some rm ∨ w.heap.size ≤ rm.blk) : Marks B m' w' ds := by
  obtain ⟨rs, e, hn, ha⟩ := h
  refine ⟨rs, e, hn, fun r hr => ?_⟩
  obtain ⟨h1, h2, h3⟩ := ha r hr
  have := (Array.getElem?_eq_some_iff.1 h1).1
  refine ⟨by rw [hold r this]; exact h1, h2, fun l rm hm => ?_⟩
  rcases hmap l rm hm with h4 | h4
  · exact h3 l rm h4
  · omega

theorem HR.blk_lt (h : HR n0 m H w) {l : Nat} {rm : RowMap} (hm : m l = some rm) : rm.blk < w.heap.size := by
  obtain ⟨row, _, _, hf⟩ := h.row l rm hm
  exact hf.lt

theorem push2 (xs : Array Obj) (x y : Obj) : ((xs.push x).push y)[xs.size + 1]? = some y := by
  have h : ((xs.push x).push y)[(xs.push x).size]? = some y := Array.getElem?_push_size
  rw [Array.size_push] at h
  exact h

theorem loopOf_rec {a A : Act} (hA : AR m a A) (ps : Array Tmp) (assign body : Code) (fn : FuncId) (d : Nat) :
    RecOk m (loopOf a ps assign body) { state := .ready, pending := none, fn, tmps := A.tmps, params := ps, assign, body, defers := d } :=
  ⟨rfl, rfl, rfl, rfl, rfl, hA.tm⟩

/-- The statement's entry: the record is laid, the function called. -/
theorem rangeFunc_sound (hc : CallOk P G call) {g : Operand} {ps : Array Tmp} {assign body : Code} {a a' : Act} {e : AExit} {H' : Heap} {f : FuncId} {fa fb : List Value} (hok : okOpnd G g = true)
    (hg : a.eval g = .func (.func f) ⟨fa⟩ ⟨fb⟩) (h : endL H.size a (call (.fn f) (fa ++ [.func (.yield H.size) ⟨[]⟩ ⟨[]⟩] ++ fb) (H.addLoop (loopOf a ps assign body))) = some (e, a', H')) :
    CodeOk P G (.rangeFunc g ps assign body) a H e a' H' := by
  obtain ⟨v, H1, row, lr, hcall, hrow, hl, he, hb, hro, rfl, rfl⟩ := endL_some h
  have hgo : HInv H → HGo H (H1.setLoop H.size row .exhausted lr.pending) := fun hi => by
    obtain ⟨g1, i1⟩ := addLoop_go hi (loopOf a' ps assign body)
    obtain ⟨g2, i2⟩ := hc.go _ _ _ _ _ hcall i1
    obtain ⟨g3, i3⟩ := setLoop_go i2 hrow hl .exhausted lr.pending
    exact ⟨(g1.trans g2).trans g3, i3⟩
  refine ⟨hgo, ?_⟩
  intro ro n0 B m w A Q hHR hG hA hM hB hRo hQ
  have hgv := hA.eval hG hok
  rw [hg] at hgv
  obtain ⟨fa', fb', hAg, hfa, hfb⟩ := hgv.func_inv rfl
  -- what stands once the record is laid
  have key : ∀ (fn : FuncId) (w1 : World) (Bk d : Nat) (mark : List Deferred), w.heap.size ≤ Bk →
      (Instr.enterLoop fn A.tmps ps assign body (fenceOf ro).round).run P w = .ok (Bk, mark) w1 →
      w1.heap[Bk]? = some (.loop { state := .ready, pending := none, fn, tmps := A.tmps, params := ps, assign, body, defers := d }) →
      (∀ b, b < w.heap.size → w1.heap[b]? = w.heap[b]?) → Below n0 w w1 → Marks B (m.put H.size ⟨Bk, 0, 0, 0, true, false⟩) w1 (mark ++ A.defers) →
      ∃ (l : Nat) (mark : List Deferred) (w₁ : World) (dd : Deferred) (w₁' : World) (f : FuncId) (args : Array Value) (w₂ : World),
      (Instr.enterLoop fn A.tmps ps assign body (fenceOf ro).round).run P w = .ok (l, mark) w₁ ∧
      (resolve A.eval (rangeCall g l) 0).run P w₁ = .ok dd w₁' ∧
      (∀ f', Target.leads P w₁' dd.target dd.args = some f' → (fenceOf ro).fn f') ∧
      (invoke dd.target dd.args).run P w₁' = .ok (.enter f args) w₂ ∧
      ((fenceOf ro).depth.isSome = true → 1 ≤ 0) ∧
      CallsIn (fenceOf ro) (0 - 1) P f args w₂ (rangePost (fenceOf ro) 0 P l Q { A with defers := mark ++ A.defers }) := by
    intro fn w1 Bk d mark hBk hent hblk hold hbel hmarks
    have hx1 : Ext n0 m H w (m.put H.size ⟨Bk, 0, 0, 0, true, false⟩) (H.addLoop (loopOf a' ps assign body)) w1 := Ext.addLoop hHR _ hBk hblk (loopOf_rec hA ps assign body fn d) hold hbel
    have hm1 : (m.put H.size ⟨Bk, 0, 0, 0, true, false⟩) H.size = some ⟨Bk, 0, 0, 0, true, false⟩ := by simp [Map.put]
    have hyv : VR (m.put H.size ⟨Bk, 0, 0, 0, true, false⟩) (.func (.yield H.size) ⟨[]⟩ ⟨[]⟩) (.func (.yield Bk) ⟨[]⟩ ⟨[]⟩) := VR.yield hm1
    have hargs := ((hfa.mono hx1.mono).append (VRs.cons hyv VRs.nil)).append (hfb.mono hx1.mono)
    refine ⟨Bk, mark, w1, { target := .fn (.func f) ⟨fb'⟩, args := ⟨fa'⟩ ++ #[.func (.yield Bk) #[] #[]] }, w1, f, ⟨fa'⟩ ++ #[.func (.yield Bk) #[] #[]] ++ ⟨fb'⟩, w1, hent, ?_, fun _ _ => fence_fn _ _, ?_, by rw [fence_depth]; simp, ?_⟩
    · have hev : (#[Operand.const (.func (.yield Bk) #[] #[])]).map A.eval = #[Value.func (.yield Bk) #[] #[]] := by simp [Act.eval]
      simp only [resolve, rangeCall, hAg, hev, Deferred.ofValue, Sem.run_pure]
    · simp only [invoke]
      exact run_callFunc (hc.ok _ _ _ _ _ hcall)
    · have hcs := hc.goes _ _ _ _ _ hcall n0 _ w1 _ hx1.hr (hG.mono hx1.mono) hargs
      have harr : (fa' ++ [Value.func (.yield Bk) ⟨[]⟩ ⟨[]⟩] ++ fb').toArray = (⟨fa'⟩ ++ #[Value.func (.yield Bk) #[] #[]] ++ ⟨fb'⟩ : Array Value) := by
        apply Array.ext'; simp
      rw [harr] at hcs
      refine callsIn_of (hcs.mono ?_)
      rintro en w3 ⟨v', m3, rfl, hx2, hv⟩
      have hm3 := hx2.mono _ _ hm1
      obtain ⟨L, hL, hR, hx3⟩ := Ext.setLoop hx2.hr hm3 hrow hro hl .exhausted lr.pending
      refine ⟨L.pending, _, endLoop_run hL (by rw [hR.st]; exact hb), ?_⟩
      rw [setLoop_id_pending hR, hR.pd, exitOf_some he]
      refine jump_walk ?_
      obtain ⟨g1, i1⟩ := addLoop_go hHR.inv (loopOf a' ps assign body)
      obtain ⟨g2, i2⟩ := hc.go _ _ _ _ _ hcall i1
      obtain ⟨g3, i3⟩ := setLoop_go i2 hrow hl .exhausted lr.pending
      have hx12 := hx1.trans hx2 g1 g2
      have hx123 := hx12.trans hx3 (g1.trans g2) g3
      rw [← exitOf_some he]
      exact hQ _ _ _ hx123 ⟨hA.tm.mono hx123.mono⟩ ((hmarks.ext hx2).ext hx3)
  refine wpIn_rangeFunc fun fn _ => ?_
  cases ro with
  | none =>
    have hold2 : ∀ (x y : Obj) (b : Nat), b < w.heap.size → ((w.heap.push x).push y)[b]? = w.heap[b]? := fun x y b hb => by
      simp [Array.getElem?_push, Nat.ne_of_lt hb, Nat.ne_of_lt (Nat.lt_succ_of_lt hb)]
    refine key fn _ (w.heap.size + 1) w.heap.size [markOf w.heap.size] (by omega) enterLoop_none ?_ ?_ ?_ ?_
    · exact push2 _ _ _
    · exact fun b hb => hold2 _ _ b hb
    · have := hHR.base
      exact ⟨rfl, rfl, rfl, by simp; omega, fun b hb => hold2 _ _ b (by omega)⟩
    · refine Marks.cons hM hB (by simp [Array.getElem?_push]) (fun b hb => hold2 _ _ b hb) (fun l rm hm => ?_) fun l rm hm => hHR.blk_lt hm
      rcases Map.put_inv hm with ⟨_, rfl⟩ | ⟨_, h1⟩
      · exact .inr rfl
      · exact .inl h1
  | some l0 =>
    obtain ⟨L0, hL0⟩ := hRo l0 rfl
    refine key fn _ w.heap.size L0.defers [] (Nat.le_refl _) (enterLoop_some hL0) ?_ ?_ ?_ ?_
    · simp
    · intro b hb
      simp [Array.getElem?_push, Nat.ne_of_lt hb]
    · have := hHR.base
      refine ⟨rfl, rfl, rfl, by simp, fun b hb => ?_⟩
      have hb' : b < w.heap.size := by omega
      simp [Array.getElem?_push, Nat.ne_of_lt hb']
    · refine Marks.same hM (fun b hb => by simp [Array.getElem?_push, Nat.ne_of_lt hb]) fun l rm hm => ?_
      rcases Map.put_inv hm with ⟨_, rfl⟩ | ⟨_, h1⟩
      · exact .inr (Nat.le_refl _)
      · exact .inl h1

theorem aCode_sound (hc : CallOk P G call) (hmix : P.follows .mixedOrders = true) : ∀ (n : Nat) (c : Code) (a : Act) (H : Heap) (e : AExit) (a' : Act) (H' : Heap), okCode G c = true → aCode P call n c a H = some (e, a', H') →
    CodeOk P G c a H e a' H' ∧ ∀ x, c = .loop x → Goes P G a H e a' H' fun F Q A w => Code.roundsIn F 0 P x Q n A w := by
  intro n
  induction n with
  | zero => intro c a H e a' H' _ h; cases h
  | succ n ih =>
    intro c a H e a' H' hok h
    cases c <;> simp only [aCode] at h <;> simp only [okCode, Bool.and_eq_true] at hok
    case loop x =>
      have hr : Goes P G a H e a' H' fun F Q A w => Code.roundsIn F 0 P x Q (n + 1) A w := by
        intro ro n0 B m w A Q hHR hG hA hM hB hRo hQ
        rw [roundsIn_succ]
        rcases thenN_inv h with ⟨a1, H1, hb, hl⟩ | ⟨hb, hne⟩
        · obtain ⟨⟨go1, ok1⟩, _⟩ := ih x a H _ _ _ hok hb
          obtain ⟨⟨go2, _⟩, ok2⟩ := ih (.loop x) a1 H1 _ _ _ (by simpa [okCode] using hok) hl
          refine ok1 ro n0 B m w A _ hHR hG hA hM hB hRo fun A1 m1 w1 hext hA1 hM1 => ?_
          show Code.roundsIn (fenceOf ro) 0 P x Q n A1 w1
          refine ok2 x rfl ro n0 B m1 w1 A1 Q hext.hr (hG.mono hext.mono) hA1 hM1 (Nat.le_trans hB hext.below.size) (hRo.ext hext) fun A2 m2 w2 hext2 hA2 hM2 => ?_
          have g1 := go1 hHR.inv
          exact hQ A2 m2 w2 (hext.trans hext2 g1.1 (go2 g1.2).1) hA2 hM2
        · obtain ⟨⟨_, ok1⟩, _⟩ := ih x a H _ _ _ hok hb
          exact ok1 ro n0 B m w A _ hHR hG hA hM hB hRo fun A1 m1 w1 hext hA1 hM1 => exit_then hne (hQ A1 m1 w1 hext hA1 hM1)
      refine ⟨⟨fun hi => ?_, fun ro n0 B m w A Q hHR hG hA hM hB hRo hQ => wpIn_loop_rounds (n + 1) (hr ro n0 B m w A Q hHR hG hA hM hB hRo hQ)⟩, fun y hy => ?_⟩
      · rcases thenN_inv h with ⟨a1, H1, hb, hl⟩ | ⟨hb, hne⟩
        · obtain ⟨⟨go1, _⟩, _⟩ := ih x a H _ _ _ hok hb
          obtain ⟨⟨go2, _⟩, _⟩ := ih (.loop x) a1 H1 _ _ _ (by simpa [okCode] using hok) hl
          exact ⟨(go1 hi).1.trans (go2 (go1 hi).2).1, (go2 (go1 hi).2).2⟩
        · exact (ih x a H _ _ _ hok hb).1.1 hi
      · cases hy; exact hr
    all_goals refine ⟨?_, fun y hy => by cases hy⟩
    case skip =>
      cases h
      exact ⟨fun hi => .refl hi, fun ro n0 B m w A Q hHR _ hA hM _ _ hQ => wpIn_skip (hQ A m w (.refl hHR) hA hM)⟩
    case label l =>
      cases h
      exact ⟨fun hi => .refl hi, fun ro n0 B m w A Q hHR _ hA hM _ _ hQ => wpIn_label (hQ A m w (.refl hHR) hA hM)⟩
    case exit id =>
      cases h
      exact ⟨fun hi => .refl hi, fun ro n0 B m w A Q hHR _ hA hM _ _ hQ => wpIn_exit (hQ A m w (.refl hHR) hA hM)⟩
    case goto l =>
      cases h
      exact ⟨fun hi => .refl hi, fun ro n0 B m w A Q hHR _ hA hM _ _ hQ => wpIn_goto (hQ A m w (.refl hHR) hA hM)⟩
    case ret =>
      cases h
      exact ⟨fun hi => .refl hi, fun ro n0 B m w A Q hHR _ hA hM _ _ hQ => wpIn_ret (hQ A m w (.refl hHR) hA hM)⟩
    case region id ops dr =>
      unfold asN at h
      split at h
      · rename_i a1 H1 hr
        cases h
        cases dr with
        | true =>
          rw [cond_true] at hr
          simp only [Bool.not_true, Bool.false_or] at hok
          exact ⟨fun hi => aDraw_go hc _ _ hi hr, fun ro n0 B m w A Q hHR hG hA hM _ _ hQ => aDraw_sound ro hc hmix hok.2 hok.1 hHR hG hA hr fun A' m' w' hext hA' hD => hQ A' m' w' hext hA' (by rw [hD]; exact hM.ext hext)⟩
        | false =>
          rw [cond_false] at hr
          refine ⟨fun hi => aOps_go hc hi hr, fun ro n0 B m w A Q hHR hG hA hM _ _ hQ => wpIn_region ?_⟩
          have := aOps_sound (i := 0) ro hc (by simp) hok.1 hHR hG hA hr fun A' m' w' hext hA' hD => hQ A' m' w' hext hA' (by rw [hD]; exact hM.ext hext)
          rw [Array.length_toList, ← List.range_eq_range'] at this
          exact this
      · cases h
    case seq x y =>
      rcases thenN_inv h with ⟨a1, H1, hb, hl⟩ | ⟨hb, hne⟩
      · obtain ⟨⟨go1, ok1⟩, _⟩ := ih x a H _ _ _ hok.1 hb
        obtain ⟨⟨go2, ok2⟩, _⟩ := ih y a1 H1 _ _ _ hok.2 hl
        refine ⟨fun hi => ⟨(go1 hi).1.trans (go2 (go1 hi).2).1, (go2 (go1 hi).2).2⟩, fun ro n0 B m w A Q hHR hG hA hM hB hRo hQ => wpIn_seq ?_⟩
        refine ok1 ro n0 B m w A _ hHR hG hA hM hB hRo fun A1 m1 w1 hext hA1 hM1 => ?_
        show y.wpIn (fenceOf ro) 0 P Q A1 w1
        refine ok2 ro n0 B m1 w1 A1 Q hext.hr (hG.mono hext.mono) hA1 hM1 (Nat.le_trans hB hext.below.size) (hRo.ext hext) fun A2 m2 w2 hext2 hA2 hM2 => ?_
        have g1 := go1 hHR.inv
        exact hQ A2 m2 w2 (hext.trans hext2 g1.1 (go2 g1.2).1) hA2 hM2
      · obtain ⟨⟨go1, ok1⟩, _⟩ := ih x a H _ _ _ hok.1 hb
        exact ⟨go1, fun ro n0 B m w A Q hHR hG hA hM hB hRo hQ => wpIn_seq (ok1 ro n0 B m w A _ hHR hG hA hM hB hRo fun A1 m1 w1 hext hA1 hM1 => exit_then hne (hQ A1 m1 w1 hext hA1 hM1))⟩
    case cond c x y =>
      split at h
      · rename_i t ht
        have hx : okCode G (cond t x y) = true := by cases t; exact hok.2.2; exact hok.2.1
        obtain ⟨⟨go1, ok1⟩, _⟩ := ih _ a H _ _ _ hx h
        refine ⟨go1, fun ro n0 B m w A Q hHR hG hA hM hB hRo hQ => ?_⟩
        have hv := hA.eval hG hok.1
        rw [ht] at hv
        refine wpIn_cond (t := t) hv.bool_inv ?_
        have := ok1 ro n0 B m w A Q hHR hG hA hM hB hRo hQ
        cases t <;> exact this
      · cases h
    case block id x =>
      unfold outOf at h
      split at h
      · rename_i i a1 H1 hr
        obtain ⟨⟨go1, ok1⟩, _⟩ := ih x a H _ _ _ hok hr
        cases hb : Nat.beq i id with
        | true =>
          rw [hb, cond_true] at h
          cases h
          refine ⟨go1, fun ro n0 B m w A Q hHR hG hA hM hB hRo hQ => wpIn_block (ok1 ro n0 B m w A _ hHR hG hA hM hB hRo fun A1 m1 w1 hext hA1 hM1 => ?_)⟩
          show (if i = id then Q .normal A1 w1 else Q (.exit i) A1 w1)
          rw [if_pos (Nat.eq_of_beq_eq_true hb)]
          exact hQ A1 m1 w1 hext hA1 hM1
        | false =>
          rw [hb, cond_false] at h
          cases h
          refine ⟨go1, fun ro n0 B m w A Q hHR hG hA hM hB hRo hQ => wpIn_block (ok1 ro n0 B m w A _ hHR hG hA hM hB hRo fun A1 m1 w1 hext hA1 hM1 => ?_)⟩
          show (if i = id then Q .normal A1 w1 else Q (.exit i) A1 w1)
          rw [if_neg (fun he => by rw [he] at hb; simp at hb)]
          exact hQ A1 m1 w1 hext hA1 hM1
      · rename_i hne
        obtain ⟨⟨go1, ok1⟩, _⟩ := ih x a H _ _ _ hok h
        refine ⟨go1, fun ro n0 B m w A Q hHR hG hA hM hB hRo hQ => wpIn_block (ok1 ro n0 B m w A _ hHR hG hA hM hB hRo fun A1 m1 w1 hext hA1 hM1 => ?_)⟩
        have := hQ A1 m1 w1 hext hA1 hM1
        cases e with
        | exit i => exact absurd h (hne _ _ _)
        | _ => exact this
    case scope x =>
      unfold noGo at h
      split at h
      · cases h
      · rename_i hne
        obtain ⟨⟨go1, ok1⟩, _⟩ := ih x a H _ _ _ hok h
        refine ⟨go1, fun ro n0 B m w A Q hHR hG hA hM hB hRo hQ => wpIn_scope_straight (ok1 ro n0 B m w A _ hHR hG hA hM hB hRo fun A1 m1 w1 hext hA1 hM1 => ?_)⟩
        have := hQ A1 m1 w1 hext hA1 hM1
        cases e with
        | goto l => exact absurd h (hne _ _ _)
        | _ => exact this
    case rangeFunc g ps as bd =>
      split at h
      · rename_i f fa fb hg
        exact rangeFunc_sound hc hok hg h
      · cases h
    all_goals cases h

end Go.AM
