/- A general tool, which names no program: a canonical machine for the model's own code (rows of cells by number, no world, no open order), proved: what it comes to is what every run comes to. -/
import Derived.Test.YtimbciadadjhiaaDoorAm10
import Derived.LoopN
import Derived.Scope
set_option linter.unusedVariables false
set_option linter.unusedSimpArgs false
set_option linter.unusedSectionVars false
namespace Go.AM
open Go.RowKit (Below)

variable {P : Program} {n0 : Nat} {m : Map} {H : Heap} {w : World}

structure AR (m : Map) (a A : Act) : Prop where
  tm : VRs m a.tmps.toList A.tmps.toList

theorem AR.mono {m m' : Map} {a A : Act} (h : AR m a A) (hm : m.le m') : AR m' a A := ⟨h.tm.mono hm⟩

theorem AR.size {a A : Act} (h : AR m a A) : a.tmps.size = A.tmps.size := by simpa using h.tm.length

theorem AR.getD {a A : Act} (h : AR m a A) (t : Nat) : VR m (a.tmps.getD t undef) (A.tmps.getD t undef) := by
  have hs := h.size
  by_cases ht : t < a.tmps.size
  · obtain ⟨v', e, hv⟩ := h.tm.get t a.tmps[t] (by simp [ht])
    have ht' : t < A.tmps.size := hs ▸ ht
    simp [ht'] at e
    simp only [Array.getD_eq_getD_getElem?, Array.getElem?_eq_getElem ht, Array.getElem?_eq_getElem ht', Option.getD_some]
    rw [e]; exact hv
  · have ht' : ¬ t < A.tmps.size := hs ▸ ht
    simp only [Array.getD_eq_getD_getElem?, Array.getElem?_eq_none (Nat.le_of_not_lt ht), Array.getElem?_eq_none (Nat.le_of_not_lt ht'), Option.getD_none]
    exact .plain rfl

theorem AR.of_getD {a A : Act} (hs : a.tmps.size = A.tmps.size) (h : ∀ t, VR m (a.tmps.getD t undef) (A.tmps.getD t undef)) : AR m a A := by
  refine ⟨VRs.of_get (by simpa using hs) fun j v hj => ?_⟩
  have hlt : j < a.tmps.size := by simpa using (List.getElem?_eq_some_iff.1 hj).1
  have hlt' : j < A.tmps.size := hs ▸ hlt
  have := h j
  simp only [Array.getD_eq_getD_getElem?, Array.getElem?_eq_getElem hlt, Array.getElem?_eq_getElem hlt', Option.getD_some] at this
  simp [hlt] at hj
  subst hj
  exact ⟨A.tmps[j], by simp [hlt'], this⟩

theorem put_size (a : Act) (d : Option Tmp) (v : Value) : (a.put d v).tmps.size = a.tmps.size := by cases d <;> simp [Act.put]
theorem put_defers (a : Act) (d : Option Tmp) (v : Value) : (a.put d v).defers = a.defers := by cases d <;> rfl
theorem put_getD (a : Act) (d : Option Tmp) (v : Value) (t : Nat) : (a.put d v).tmps.getD t undef = if d = some t ∧ t < a.tmps.size then v else a.tmps.getD t undef := by
  cases d with
  | none => simp [Act.put]
  | some d =>
    simp only [Act.put, Array.getD_eq_getD_getElem?, Array.getElem?_setIfInBounds, Option.some.injEq]
    by_cases hd : d = t
    · subst hd
      by_cases hlt : d < a.tmps.size
      · simp [hlt]
      · simp [hlt]
    · simp [hd]

theorem AR.put {a A : Act} (h : AR m a A) (d : Option Tmp) {v v' : Value} (hv : VR m v v') : AR m (a.put d v) (A.put d v') := by
  refine AR.of_getD (by rw [put_size, put_size, h.size]) (fun t => ?_)
  rw [put_getD, put_getD, ← h.size]
  split
  · exact hv
  · exact h.getD t

/-! What is asked of the code. -/

def okOpnd (G : Nat) : Operand → Bool
  | .const v => plain v
  | .global g => Nat.blt g G
  | _ => true
def okOpnds (G : Nat) : List Operand → Bool
  | [] => true
  | x :: l => okOpnd G x && okOpnds G l
def okOper (G : Nat) (o : Oper) : Bool := okOpnds G o.op.operands.toList
def okOpers (G : Nat) : List Oper → Bool
  | [] => true
  | o :: l => okOper G o && okOpers G l

theorem okOpnds_mem {G : Nat} : ∀ {l}, okOpnds G l = true → ∀ x ∈ l, okOpnd G x = true
  | y :: l, h, x, hx => by
    simp only [okOpnds, Bool.and_eq_true] at h
    rcases List.mem_cons.1 hx with rfl | hx
    · exact h.1
    · exact okOpnds_mem h.2 x hx
theorem okOpers_mem {G : Nat} {l : List Oper} (h : okOpers G l = true) : ∀ o ∈ l, okOper G o = true := by
  induction l with
  | nil => intro o ho; cases ho
  | cons y l ih =>
    intro o ho
    have h1 : (okOper G y && okOpers G l) = true := h
    rw [Bool.and_eq_true] at h1
    rcases List.mem_cons.1 ho with e | ho
    · rw [e]; exact h1.1
    · exact ih h1.2 o ho

theorem eval_of {G : Nat} (hG : Glob m G) {a A : Act} {x : Operand} (hx : okOpnd G x = true) (ht : ∀ t, x = .tmp t → VR m (a.tmps.getD t undef) (A.tmps.getD t undef)) : VR m (a.eval x) (A.eval x) := by
  cases x with
  | tmp t => exact ht t rfl
  | const v => exact .plain hx
  | global g =>
    have hg : g < G := Nat.le_of_ble_eq_true hx
    obtain ⟨rm, h1, h2, h3⟩ := hG g hg
    have := VR.ptr (o := 0) h1
    rw [h2, h3] at this
    exact this
  | func f => exact .plain rfl

theorem AR.eval {G : Nat} (hG : Glob m G) {a A : Act} (h : AR m a A) {x : Operand} (hx : okOpnd G x = true) : VR m (a.eval x) (A.eval x) :=
  eval_of hG hx fun t _ => h.getD t

theorem okOper_mem {G : Nat} {o : Oper} (h : okOper G o = true) {x : Operand} (hx : x ∈ o.op.operands) : okOpnd G x = true := okOpnds_mem h x (Array.mem_toList_iff.2 hx)


def yB : Option Value → Option Bool
  | some (.bool b) => some b
  | _ => none
theorem yB_eq {x y : Value} (h : VR m x y) : yB (some x) = yB (some y) := by
  cases h with
  | plain _ => rfl
  | _ => rfl
theorem yielded_eq (ops : Array Oper) (tmps : Array Value) (g : Nat) : yielded ops tmps g = yB (((ops[g]?).bind (·.dst)).bind (tmps[·]?)) := by
  unfold yielded yB
  rfl

theorem getElem?_of_getD {a A : Act} {t : Nat} (hs : a.tmps.size = A.tmps.size) (h : VR m (a.tmps.getD t undef) (A.tmps.getD t undef)) : yB (a.tmps[t]?) = yB (A.tmps[t]?) := by
  by_cases hlt : t < a.tmps.size
  · have hlt' : t < A.tmps.size := hs ▸ hlt
    simp only [Array.getD_eq_getD_getElem?, Array.getElem?_eq_getElem hlt, Array.getElem?_eq_getElem hlt', Option.getD_some] at h ⊢
    exact yB_eq h
  · have hlt' : ¬ t < A.tmps.size := hs ▸ hlt
    simp only [Array.getElem?_eq_none (Nat.le_of_not_lt hlt), Array.getElem?_eq_none (Nat.le_of_not_lt hlt')]

theorem wanted_of {ops : Array Oper} {o : Oper} {a A : Act} (hs : a.tmps.size = A.tmps.size) (ht : ∀ t, t ∈ o.looksAt ops → VR m (a.tmps.getD t undef) (A.tmps.getD t undef)) :
    Region.wanted o (yielded ops a.tmps) = Region.wanted o (yielded ops A.tmps) := by
  unfold Region.wanted
  cases hg : o.guard with
  | none => rfl
  | some gw =>
    obtain ⟨g, want⟩ := gw
    have hy : yielded ops a.tmps g = yielded ops A.tmps g := by
      rw [yielded_eq, yielded_eq]
      cases hd : (ops[g]?).bind (·.dst) with
      | none => rfl
      | some t => exact getElem?_of_getD hs (ht t (by simp [Oper.looksAt, hg, hd]))
    simp only [hy]

/-! A region in the order of the text. -/

def aStep (P : Program) (call : CallF) (ops : Array Oper) (o : Oper) (a : Act) (H : Heap) : Option (Value × Heap) :=
  cond (Region.wanted o (yielded ops a.tmps)) (aOpRun P call a.eval o H) (some (undef, H))

def aOps (P : Program) (call : CallF) (ops : Array Oper) : List Oper → Act → Heap → Option (Act × Heap)
  | [], a, H => some (a, H)
  | o :: rest, a, H => match aStep P call ops o a H with
    | some (v, H') => aOps P call ops rest (a.put o.dst v) H'
    | none => none

theorem aStep_go {G : Nat} {call : CallF} (hc : CallOk P G call) {ops : Array Oper} {o : Oper} {a : Act} {v : Value} {H' : Heap} (h : HInv H)
    (e : aStep P call ops o a H = some (v, H')) : HGo H H' := by
  unfold aStep at e
  rcases cond_or e with e | e
  · exact aOpRun_go hc h e
  · cases e; exact .refl h

theorem aStep_sound {G : Nat} {call : CallF} (ro : Option Nat) (hc : CallOk P G call) {ops : Array Oper} {o : Oper} {a A : Act} {v : Value} {H' : Heap} (h : HR n0 m H w)
    (hG : Glob m G) (hok : okOper G o = true) (hs : a.tmps.size = A.tmps.size) (ht : ∀ t, t ∈ o.looksAt ops → VR m (a.tmps.getD t undef) (A.tmps.getD t undef))
    (e : aStep P call ops o a H = some (v, H')) (K : Act → World → Prop) (Q : Exit → Act → World → Prop)
    (hK : ∀ v' m' w', Ext n0 m H w m' H' w' → VR m' v v' → K (A.put o.dst v') w') :
    if Region.wanted o (yielded ops A.tmps) then o.wpIn (fenceOf ro) 0 P A w K Q else (∀ f, o.about P w A.eval = some f → (fenceOf ro).fn f) ∧ K (A.put o.dst undef) w := by
  rw [← wanted_of (m := m) hs ht]
  unfold aStep at e
  cases hw : Region.wanted o (yielded ops a.tmps) with
  | true =>
    rw [hw, cond_true] at e
    rw [if_pos rfl]
    refine aOpRun_sound hc ro h hG (fun x hx => eval_of hG (okOper_mem hok hx) fun t hxt => ht t ?_) e K Q hK
    subst hxt
    exact List.mem_append_left _ (List.mem_filterMap.2 ⟨.tmp t, by simpa using hx, rfl⟩)
  | false =>
    rw [hw, cond_false] at e
    cases e
    rw [if_neg (by simp)]
    exact ⟨fun f _ => fence_fn ro f, hK undef m w (.refl h) (.plain rfl)⟩

theorem aOps_go {G : Nat} {call : CallF} (hc : CallOk P G call) {ops : Array Oper} : ∀ {l : List Oper} {a a' : Act} {H H' : Heap}, HInv H → aOps P call ops l a H = some (a', H') → HGo H H'
  | [], a, a', H, H', h, e => by cases e; exact .refl h
  | o :: l, a, a', H, H', h, e => by
    unfold aOps at e
    split at e
    · rename_i v H1 h1
      obtain ⟨g1, i1⟩ := aStep_go hc h h1
      obtain ⟨g2, i2⟩ := aOps_go hc i1 e
      exact ⟨g1.trans g2, i2⟩
    · cases e

theorem aOps_sound {G : Nat} {call : CallF} (ro : Option Nat) (hc : CallOk P G call) {ops : Array Oper} {Q : Exit → Act → World → Prop} : ∀ {l : List Oper} {i : Nat} {a a' A : Act} {m : Map} {H H' : Heap} {w : World},
    ops.toList.drop i = l → okOpers G l = true → HR n0 m H w → Glob m G → AR m a A → aOps P call ops l a H = some (a', H') →
    (∀ A' m' w', Ext n0 m H w m' H' w' → AR m' a' A' → A'.defers = A.defers → Q .normal A' w') → wpOpsIn (fenceOf ro) 0 P ops Q (List.range' i l.length) A w
  | [], i, a, a', A, m, H, H', w, _, _, h, hG, hA, e, hQ => by cases e; exact hQ A m w (.refl h) hA rfl
  | o :: l, i, a, a', A, m, H, H', w, hl, hok, h, hG, hA, e, hQ => by
    simp only [okOpers, Bool.and_eq_true] at hok
    have ho : ops[i]? = some o := by
      rw [← Array.getElem?_toList]
      have := congrArg (fun l => l[0]?) hl
      simpa using this
    have hl' : ops.toList.drop (i + 1) = l := by
      have := congrArg (fun l => l.drop 1) hl
      simpa using this
    unfold aOps at e
    split at e
    · rename_i v H1 h1
      simp only [List.length_cons, List.range'_succ, wpOpsIn, ho]
      refine aStep_sound ro hc h hG hok.1 hA.size (fun t _ => hA.getD t) h1 _ Q fun v' m' w' hext hv => ?_
      obtain ⟨g1, i1⟩ := aStep_go hc h.inv h1
      obtain ⟨g2, i2⟩ := aOps_go hc i1 e
      exact aOps_sound ro hc hl' hok.2 hext.hr (hG.mono hext.mono) ((hA.mono hext.mono).put o.dst hv) e fun A' m'' w'' hext' hA' hd =>
        hQ A' m'' w'' (hext.trans hext' g1 g2) hA' (by rw [hd, put_defers])
    · cases e

end Go.AM
