/- A general tool, which names no program: a canonical machine for the model's own code (rows of cells by number, no world, no open order), proved: what it comes to is what every run comes to. -/
import Derived.Test.YtimbciadadjhiaaDoorAm9
import Derived.OrdersIn
import Derived.RangeFuncLeaves
import Derived.LoopNIn
set_option linter.unusedVariables false
set_option linter.unusedSimpArgs false
set_option linter.unusedSectionVars false
namespace Go.AM
open Go.RowKit (Below)

variable {P : Program} {n0 : Nat} {m : Map} {H : Heap} {w : World}

/-! What steps of the canonical machine leave, without any world. -/

def HInv (H : Heap) : Prop := ∀ r x, H.rows.get r = some x → (x.exact = true ∨ x.grp < 2 * H.size) ∧ r < H.size

def HGo (H H' : Heap) : Prop := HF H H' ∧ HInv H'

theorem HInv.add {H : Heap} (h : HInv H) (row : Row) (hg : row.exact = true ∨ row.grp = 2 * H.size + 1) : HInv (H.add row) := by
  intro r x hx
  rw [Heap.add_get] at hx
  rw [Heap.add_size]
  split at hx
  · cases hx
    refine ⟨hg.imp id fun h1 => ?_, by omega⟩
    rw [h1]; omega
  · refine ⟨(h r x hx).1.imp id fun hlt => ?_, ?_⟩
    · omega
    · have := (h r x hx).2; omega

theorem HInv.store {H : Heap} (h : HInv H) {r : Nat} {row : Row} (hrow : H.rows.get r = some row) (off : Nat) (vs : List Value) : HInv (H.store r row off vs) := by
  intro k x hx
  rw [Heap.store_get] at hx
  rw [Heap.store_size]
  split at hx
  · rename_i hk; cases hx; rw [hk]; exact h r row hrow
  · exact h k x hx

theorem HInv.grow {H : Heap} (h : HInv H) {r : Nat} {row : Row} (hrow : H.rows.get r = some row) (off n : Nat) (vs : List Value) : HInv (H.grow r row off n vs) := by
  intro k x hx
  rw [grow_get] at hx
  have hsz : ∀ g, g < 2 * H.size → g < 2 * (H.grow r row off n vs).size := fun g hg => by rw [Heap.grow_size]; omega
  split at hx
  · rename_i hk; cases hx; exact ⟨(h r row hrow).1.imp id (hsz _), by rw [Heap.grow_size]; omega⟩
  · exact ⟨(h k x hx).1.imp id (hsz _), by have := (h k x hx).2; rw [Heap.grow_size]; omega⟩

theorem HGo.add {H : Heap} (h : HInv H) (row : Row) (hg : row.exact = true ∨ row.grp = 2 * H.size + 1) : HGo H (H.add row) := ⟨HF.add H row hg h, h.add row hg⟩
theorem HGo.exact {H : Heap} (h : HInv H) (l : List Value) (e : TypeId) : HGo H (H.newExact l e) := HGo.add h _ (.inl rfl)
theorem HGo.store {H : Heap} (h : HInv H) {r : Nat} {row : Row} (hrow : H.rows.get r = some row) (off : Nat) (vs : List Value) : HGo H (H.store r row off vs) := ⟨HF.store H r row off vs, h.store hrow off vs⟩
theorem HGo.grow {H : Heap} (h : HInv H) {r : Nat} {row : Row} (hrow : H.rows.get r = some row) (off n : Nat) (vs : List Value) : HGo H (H.grow r row off n vs) := ⟨HF.grow H r row off n vs, h.grow hrow off n vs⟩
theorem HGo.refl {H : Heap} (h : HInv H) : HGo H H := ⟨HF.refl H, h⟩

theorem cond_some {α : Type} {b : Bool} {x : Option α} {y : α} (h : cond b x none = some y) : b = true ∧ x = some y := by
  cases b
  · cases h
  · exact ⟨rfl, h⟩

theorem cond_or {α : Type} {b : Bool} {x z : Option α} {y : α} (h : cond b x z = some y) : x = some y ∨ z = some y := by
  cases b
  · exact .inr h
  · exact .inl h

theorem aStore_go {t : TypeId} {a v : Value} {H' : Heap} (h : HInv H) (e : aStore P H t a v = some H') : HGo H H' := by
  unfold aStore at e
  split at e
  · split at e
    · rename_i i row hi hrow
      obtain ⟨_, e⟩ := cond_some e
      cases e
      exact .store h hrow _ _
    · cases e
  · cases e

theorem aAlloc_go {t : TypeId} {v : Value} {H' : Heap} (h : HInv H) (e : aAlloc P H t = some (v, H')) : HGo H H' := by
  unfold aAlloc at e
  split at e
  · obtain ⟨_, e⟩ := cond_some e
    cases e
    exact .exact h _ _
  · cases e

theorem aMakeSlice_go {t : TypeId} {l c v : Value} {H' : Heap} (h : HInv H) (e : aMakeSlice P H t l c = some (v, H')) : HGo H H' := by
  unfold aMakeSlice at e
  split at e
  · split at e
    · split at e
      · split at e
        · obtain ⟨_, e⟩ := cond_some e
          cases e
          exact .exact h _ _
        · cases e
      · cases e
    · cases e
  · cases e

theorem aBuildSlice_go {t : TypeId} {n : Nat} {parts : List (Nat × Value)} {v : Value} {H' : Heap} (h : HInv H) (e : aBuildSlice P H t n parts = some (v, H')) : HGo H H' := by
  unfold aBuildSlice at e
  split at e
  · split at e
    · split at e
      · obtain ⟨_, e⟩ := cond_some e
        rw [Option.map_eq_some_iff] at e
        obtain ⟨l, _, e⟩ := e
        cases e
        exact .exact h _ _
      · cases e
    · cases e
  · cases e

theorem aAppend_go {ts : Array TypeId} {s x v : Value} {H' : Heap} (h : HInv H) (e : aAppend P H ts s x = some (v, H')) : HGo H H' := by
  unfold aAppend at e
  split at e
  case h_2 => cases e
  split at e
  case h_2 => cases e
  split at e
  case h_2 => cases e
  split at e
  case h_2 => cases e
  obtain ⟨_, e⟩ := cond_some e
  split at e
  · obtain ⟨_, e⟩ := cond_some e
    rcases cond_or e with e | e
    · cases e; exact .refl h
    · cases e; exact .add h _ (.inr rfl)
  · obtain ⟨_, e⟩ := cond_some e
    unfold aAppendSome at e
    split at e
    case h_2 => cases e
    rename_i row hrow
    rcases cond_or e with e | e
    · obtain ⟨_, e⟩ := cond_some e
      cases e; exact .refl h
    · rcases cond_or e with e | e
      · obtain ⟨_, e⟩ := cond_some e
        cases e
        exact .store h hrow _ _
      · rcases cond_or e with e | e
        · rw [Option.map_eq_some_iff] at e
          obtain ⟨_, _, e⟩ := e
          cases e
          exact .add h _ (.inr rfl)
        · obtain ⟨_, e⟩ := cond_some e
          cases e
          exact .grow h hrow _ _ _
  · cases e

theorem aCopy_go {ts : Array TypeId} {d s v : Value} {H' : Heap} (h : HInv H) (e : aCopy P H ts d s = some (v, H')) : HGo H H' := by
  unfold aCopy at e
  split at e
  case h_2 => cases e
  split at e
  case h_2 => cases e
  rename_i hrow
  split at e
  case h_2 => cases e
  split at e
  case h_2 => cases e
  rcases cond_or e with e | e
  · cases e; exact .refl h
  · obtain ⟨_, e⟩ := cond_some e
    cases e
    exact .store h hrow _ _

theorem aPlain_go {ρ : Operand → Value} {o : Oper} {v : Value} {H' : Heap} (h : HInv H) (e : aPlain P ρ o H = some (.val v H')) : HGo H H' := by
  unfold aPlain at e
  obtain ⟨_, e⟩ := cond_some e
  split at e
  · obtain ⟨_, e⟩ := cond_some e
    cases e; exact .refl h
  · cases e

theorem valH_go {x : Option Value} {v : Value} {H' : Heap} (h : HInv H) (e : valH H x = some (.val v H')) : HGo H H' := by
  obtain ⟨u, _, hs⟩ := valH_inv e
  cases hs; exact .refl h

theorem valP_go {x : Option (Value × Heap)} {v : Value} {H' : Heap} (hx : ∀ v H', x = some (v, H') → HGo H H') (e : valP x = some (.val v H')) : HGo H H' := by
  obtain ⟨u, H2, he, hs⟩ := valP_inv e
  cases hs; exact hx _ _ he

theorem aOp_go {ρ : Operand → Value} {o : Oper} {v : Value} {H' : Heap} (h : HInv H) (e : aOp P ρ o H = some (.val v H')) : HGo H H' := by
  obtain ⟨dst, op, type, pos, after, guard⟩ := o
  cases op <;> simp only [aOp] at e
  case pick c a b => split at e <;> first | (cases e; done) | (cases e; exact .refl h)
  case move x => cases e; exact .refl h
  case assign x => cases e; exact .refl h
  case alloc t => exact valP_go (fun _ _ he => aAlloc_go h he) e
  case box t x => cases e; exact .exact h _ _
  case buildSlice t n parts => exact valP_go (fun _ _ he => aBuildSlice_go h he) e
  case store t a x =>
    split at e
    · rename_i he; cases e; exact aStore_go h he
    · cases e
  case makeFunc => obtain ⟨_, e⟩ := cond_some e; cases e; exact .refl h
  case makeSlice => exact valP_go (fun _ _ he => aMakeSlice_go h he) e
  case call c =>
    unfold aCall at e
    split at e
    · split at e
      · exact valP_go (fun _ _ he => aAppend_go h he) e
      · rcases orP_inv e with e | e
        · exact valH_go h e
        · exact aPlain_go h e
      · rcases orP_inv e with e | e
        · exact valH_go h e
        · exact aPlain_go h e
      · rcases orP_inv e with e | e
        · exact valP_go (fun _ _ he => aCopy_go h he) e
        · exact aPlain_go h e
      · exact aPlain_go h e
    · split at e <;> cases e
    · cases e
  all_goals first
    | exact valH_go h e
    | exact aPlain_go h e
    | (rcases orP_inv e with e | e
       · exact valH_go h e
       · exact aPlain_go h e)
    | cases e

/-! Calls. -/

def EnterOk (P : Program) (f : FuncId) : Prop := ∃ fn, P.funcs[f]? = some fn ∧ fn.body.isSome = true ∧ (fn.name == "runtime.NumGoroutine") = false

def Glob (m : Map) (G : Nat) : Prop := ∀ g, g < G → ∃ rm, m g = some rm ∧ rm.blk = g ∧ rm.sh = 0
theorem Glob.mono {m m' : Map} {G : Nat} (h : Glob m G) (hm : m.le m') : Glob m' G := fun g hg => by
  obtain ⟨rm, h1, h2⟩ := h g hg
  exact ⟨rm, hm _ _ h1, h2⟩

def fenceOf : Option Nat → Fence
  | none => Fence.wide
  | some l => Fence.wide.inRound l
theorem fence_fn (ro : Option Nat) (f : FuncId) : (fenceOf ro).fn f := by cases ro <;> trivial
theorem fence_round (ro : Option Nat) : (fenceOf ro).round = ro := by cases ro <;> rfl
theorem fence_depth (ro : Option Nat) : (fenceOf ro).depth = none := by cases ro <;> rfl

theorem callsIn_of {ro : Option Nat} {n : Nat} {f : FuncId} {args : Array Value} {R : Ending → World → Prop} (h : Calls P f args w R) : CallsIn (fenceOf ro) n P f args w R := by
  cases ro with
  | none => exact callsIn_wide.2 h
  | some l => exact (callsIn_wide.2 h : CallsIn Fence.wide n P f args w R)

structure CallOk (P : Program) (G : Nat) (call : CallF) : Prop where
  go : ∀ t args H v H', call t args H = some (v, H') → HInv H → HGo H H'
  ok : ∀ f args H v H', call (.fn f) args H = some (v, H') → EnterOk P f
  goes : ∀ f args H v H', call (.fn f) args H = some (v, H') → ∀ n0 m w (args' : List Value), HR n0 m H w → Glob m G → VRs m args args' →
    Calls P f args'.toArray w fun e w' => ∃ v' m', e = .returned v' ∧ Ext n0 m H w m' H' w' ∧ VR m' v v'
  rounds : ∀ l args H v H', call (.rnd l) args H = some (v, H') → ∀ n0 m w (args' : List Value) rm, HR n0 m H w → Glob m G → VRs m args args' → m l = some rm →
    ∃ f tmps assign body, (Instr.yield rm.blk args'.toArray).run P w = .ok (.round rm.blk f tmps assign body) w ∧
      RoundIn Fence.wide 0 P rm.blk f tmps assign body w fun e w' => ∃ v' m', e = .returned v' ∧ Ext n0 m H w m' H' w' ∧ VR m' v v'

theorem HR.hinv (h : HR n0 m H w) : HInv H := h.inv

theorem run_callFunc {f : FuncId} {args : Array Value} (h : EnterOk P f) : (callFunc f args).run P w = .ok (.enter f args) w := by
  obtain ⟨fn, hf, hb, hn⟩ := h
  cases hbo : fn.body with
  | none => rw [hbo] at hb; cases hb
  | some c =>
    have hn' : ¬ fn.name = "runtime.NumGoroutine" := by simpa using hn
    simp [callFunc, hf, hn', hbo]

theorem aOpRun_go {G : Nat} {call : CallF} (hc : CallOk P G call) {ρ : Operand → Value} {o : Oper} {v : Value} {H' : Heap} (h : HInv H)
    (e : aOpRun P call ρ o H = some (v, H')) : HGo H H' := by
  unfold aOpRun at e
  split at e
  · rename_i he; cases e; exact aOp_go h he
  · exact hc.go _ _ _ _ _ e h
  · exact hc.go _ _ _ _ _ e h
  · cases e

theorem step_valH {x : Option Value} {s : AStep} (he : valH H x = some s) (hs : ∀ v H', s ≠ .val v H') : False := by
  obtain ⟨_, _, h2⟩ := valH_inv he; exact hs _ _ h2
theorem step_valP {x : Option (Value × Heap)} {s : AStep} (he : valP x = some s) (hs : ∀ v H', s ≠ .val v H') : False := by
  obtain ⟨_, _, _, h2⟩ := valP_inv he; exact hs _ _ h2
theorem step_plain {ρ : Operand → Value} {o : Oper} {s : AStep} (he : aPlain P ρ o H = some s) (hs : ∀ v H', s ≠ .val v H') : False := by
  obtain ⟨_, _, h2⟩ := aPlain_val he; exact hs _ _ h2
theorem step_orH {x : Option Value} {ρ : Operand → Value} {o : Oper} {s : AStep} (he : orP (valH H x) (aPlain P ρ o H) = some s) (hs : ∀ v H', s ≠ .val v H') : False := by
  rcases orP_inv he with he | he
  · exact step_valH he hs
  · exact step_plain he hs

theorem aOp_step {ρ : Operand → Value} {o : Oper} {s : AStep} (he : aOp P ρ o H = some s) (hs : ∀ v H', s ≠ .val v H') : ∃ c, o.op = .call c ∧ aCall P ρ o c H = some s := by
  obtain ⟨dst, op, type, pos, after, guard⟩ := o
  cases op <;> simp only [aOp] at he
  case call c => exact ⟨c, rfl, he⟩
  all_goals exfalso
  case pick => split at he <;> first | (cases he; done) | (cases he; exact hs _ _ rfl)
  case store => split at he <;> first | (cases he; done) | (cases he; exact hs _ _ rfl)
  case makeFunc => obtain ⟨_, he⟩ := cond_some he; cases he; exact hs _ _ rfl
  case move => cases he; exact hs _ _ rfl
  case assign => cases he; exact hs _ _ rfl
  case box => cases he; exact hs _ _ rfl
  all_goals first
    | exact step_plain he hs
    | exact step_valH he hs
    | exact step_valP he hs
    | exact step_orH he hs
    | cases he

theorem aCall_step {ρ : Operand → Value} {o : Oper} {c : Call} {s : AStep} (he : aCall P ρ o c H = some s) (hs : ∀ v H', s ≠ .val v H') :
    ∃ g, c.callee = .value g ∧ ((∃ k a b, ρ g = .func (.func k) ⟨a⟩ ⟨b⟩ ∧ s = .enter k (a ++ argL ρ c ++ b)) ∨ (∃ l, ρ g = .func (.yield l) ⟨[]⟩ ⟨[]⟩ ∧ s = .round l (argL ρ c))) := by
  unfold aCall at he
  split at he
  · exfalso
    split at he
    · obtain ⟨_, _, _, h2⟩ := valP_inv he; exact hs _ _ h2
    · rcases orP_inv he with he | he
      · obtain ⟨_, _, h2⟩ := valH_inv he; exact hs _ _ h2
      · obtain ⟨_, _, h2⟩ := aPlain_val he; exact hs _ _ h2
    · rcases orP_inv he with he | he
      · obtain ⟨_, _, h2⟩ := valH_inv he; exact hs _ _ h2
      · obtain ⟨_, _, h2⟩ := aPlain_val he; exact hs _ _ h2
    · rcases orP_inv he with he | he
      · obtain ⟨_, _, _, h2⟩ := valP_inv he; exact hs _ _ h2
      · obtain ⟨_, _, h2⟩ := aPlain_val he; exact hs _ _ h2
    · obtain ⟨_, _, h2⟩ := aPlain_val he; exact hs _ _ h2
  · rename_i g hcal
    refine ⟨g, hcal, ?_⟩
    split at he
    · rename_i k a b hg
      cases he
      exact .inl ⟨k, a, b, hg, rfl⟩
    · rename_i l hg
      cases he
      exact .inr ⟨l, hg, rfl⟩
    · cases he
  · cases he

theorem aOp_notDefer {ρ : Operand → Value} {o : Oper} {s : AStep} (e : aOp P ρ o H = some s) : ∀ c, o.op ≠ .defer c := by
  intro c hc
  obtain ⟨dst, op, type, pos, after, guard⟩ := o
  simp only at hc
  subst hc
  simp [aOp] at e

theorem aOpRun_sound {G : Nat} {call : CallF} (hc : CallOk P G call) {ρ : Operand → Value} {A : Act} {o : Oper} {v : Value} {H' : Heap} (ro : Option Nat) (h : HR n0 m H w)
    (hG : Glob m G) (hop : ∀ x ∈ o.op.operands, VR m (ρ x) (A.eval x)) (e : aOpRun P call ρ o H = some (v, H')) (K : Act → World → Prop) (Q : Exit → Act → World → Prop)
    (hK : ∀ v' m' w', Ext n0 m H w m' H' w' → VR m' v v' → K (A.put o.dst v') w') : o.wpIn (fenceOf ro) 0 P A w K Q := by
  refine ⟨fun f _ => fence_fn ro f, ?_⟩
  unfold aOpRun at e
  split at e
  · rename_i he
    cases e
    rw [Oper.semAt_eq _ _ _ (aOp_notDefer he)]
    obtain ⟨_, v', m', w', hr, hext, hv⟩ := aOp_sound h hop he
    rcases hr with hr | ⟨hr, rfl⟩
    · rw [hr]; exact hK v' m' w' hext hv
    · rw [hr]; exact hK undef m' w' hext hv
  · rename_i f args he
    rw [Oper.semAt_eq _ _ _ (aOp_notDefer he)]
    obtain ⟨c, hco, he⟩ := aOp_step he (by simp)
    obtain ⟨g, hcal, ⟨k, a, b, hg, hs⟩ | ⟨l, hg, hs⟩⟩ := aCall_step he (by simp)
    case inr => cases hs
    cases hs
    rw [hco] at hop
    simp only [Op.operands] at hop
    have hgv := hop g (by simp [Call.operands, hcal])
    rw [hg] at hgv
    obtain ⟨a', b', hA, ha, hb⟩ := hgv.func_inv rfl
    have hargs : VRs m (argL ρ c) (c.args.map A.eval).toList := by
      unfold argL
      rw [Array.toList_map]
      exact VRs.of_map fun x hx => hop x (by simp [Call.operands, hcal]; right; simpa using hx)
    have hcs := hc.goes _ _ _ _ _ e n0 m w (a' ++ (c.args.map A.eval).toList ++ b') h hG ((ha.append hargs).append hb)
    have hrun : (execOp A.eval o).run P w = .ok (.enter f (a' ++ (c.args.map A.eval).toList ++ b').toArray) w := by
      unfold execOp
      rw [hco]
      simp only [resolve, hcal, hA, Deferred.ofValue, invoke, Sem.run_bind, Sem.run_pure, Result.andThen_ok]
      rw [run_callFunc (hc.ok _ _ _ _ _ e)]
      congr 2
      apply Array.ext'
      simp
    rw [hrun, Oper.uponIn_enter]
    refine ⟨by rw [fence_depth]; simp, callsIn_of (hcs.mono ?_)⟩
    rintro e w' ⟨v', m', rfl, hext, hv⟩
    exact hK v' m' w' hext hv
  · rename_i l args he
    rw [Oper.semAt_eq _ _ _ (aOp_notDefer he)]
    obtain ⟨c, hco, he⟩ := aOp_step he (by simp)
    obtain ⟨g, hcal, ⟨k, a, b, hg, hs⟩ | ⟨l', hg, hs⟩⟩ := aCall_step he (by simp)
    case inl => cases hs
    cases hs
    rw [hco] at hop
    simp only [Op.operands] at hop
    have hgv := hop g (by simp [Call.operands, hcal])
    rw [hg] at hgv
    obtain ⟨rm, hm, hA⟩ := hgv.yield_inv
    have hargs : VRs m (argL ρ c) (c.args.map A.eval).toList := by
      unfold argL
      rw [Array.toList_map]
      exact VRs.of_map fun x hx => hop x (by simp [Call.operands, hcal]; right; simpa using hx)
    obtain ⟨f, tmps, assign, body, hy, hR⟩ := hc.rounds _ _ _ _ _ e n0 m w _ rm h hG hargs hm
    have hrun : (execOp A.eval o).run P w = .ok (.round rm.blk f tmps assign body) w := by
      unfold execOp
      rw [hco]
      simp only [resolve, hcal, hA, Deferred.ofValue, invoke, Sem.run_bind, Sem.run_pure, Result.andThen_ok]
      rw [Array.toArray_toList] at hy
      simpa using hy
    rw [hrun, Oper.uponIn_round]
    refine ⟨by rw [fence_depth]; simp, ?_⟩
    have hR' : RoundIn (fenceOf ro) 0 P rm.blk f tmps assign body w fun e w' => ∃ v' m', e = .returned v' ∧ Ext n0 m H w m' H' w' ∧ VR m' v v' := by
      cases ro with
      | none => exact hR
      | some l => exact hR
    refine hR'.mono ?_
    rintro e w' ⟨v', m', rfl, hext, hv⟩
    exact hK v' m' w' hext hv
  · cases e

end Go.AM
