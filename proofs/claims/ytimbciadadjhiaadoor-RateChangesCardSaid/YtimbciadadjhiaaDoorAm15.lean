/- A general tool, which names no program: a canonical machine for the model's own code (rows of cells by number, no world, no open order), proved: what it comes to is what every run comes to. -/
import Derived.Test.YtimbciadadjhiaaDoorAm14c
set_option linter.unusedVariables false
set_option linter.unusedSimpArgs false
set_option linter.unusedSectionVars false
namespace Go.AM
open Go.RowKit (Below)

variable {P : Program} {n0 : Nat}
variable {G : Nat} {call : CallF}

/-! Functions. -/

def aRes (P : Program) (H : Heap) (tmps : Array Value) : List ResultVar → Option (List Value)
  | [] => some []
  | .tmp t :: l => (aRes P H tmps l).map fun vs => tmps.getD t undef :: vs
  | .cell a t :: l => match aLoad P H t (tmps.getD a undef) with
    | some v => (aRes P H tmps l).map fun vs => v :: vs
    | none => none

def packRes : List Value → Value
  | [v] => v
  | vs => .tuple ⟨vs⟩

def resOne (tmps : Array Value) : ResultVar → Sem Value
  | .tmp t => pure (tmps.getD t undef)
  | .cell b t => do loadVar t (← asAddr (tmps.getD b undef))

theorem resOne_cell {m : Map} {H : Heap} {w : World} {a A : Act} (h : HR n0 m H w) (hA : AR m a A) {b : Tmp} {t : TypeId} {v : Value} (hl : aLoad P H t (a.tmps.getD b undef) = some v) :
    ∃ v', (resOne A.tmps (.cell b t)).run P w = .ok v' w ∧ VR m v v' := by
  obtain ⟨v', hrl, hvl⟩ := aLoad_sound (P := P) h (hA.getD b) hl
  refine ⟨v', ?_, hvl⟩
  have hp := hA.getD b
  unfold aLoad at hl
  split at hl
  · rename_i r o hab
    rw [hab] at hp
    obtain ⟨rm, _, hA2⟩ := hp.ptr_inv
    show (do loadVar t (← asAddr (A.tmps.getD b undef)) : Sem Value).run P w = _
    rw [hA2] at hrl ⊢
    simpa [Instr.loadAt, Instr.sureAddr, asAddr] using hrl
  · cases hl

theorem aRes_sound {m : Map} {H : Heap} {w : World} {a A : Act} (h : HR n0 m H w) (hA : AR m a A) : ∀ {l : List ResultVar} {vs : List Value}, aRes P H a.tmps l = some vs →
    ∃ vs', (l.mapM (resOne A.tmps)).run P w = .ok vs' w ∧ VRs m vs vs'
  | [], vs, e => by cases e; exact ⟨[], by simp, .nil⟩
  | .tmp t :: l, vs, e => by
    unfold aRes at e
    rw [Option.map_eq_some_iff] at e
    obtain ⟨us, hu, rfl⟩ := e
    obtain ⟨us', hr, hv⟩ := aRes_sound h hA hu
    have h1 : (resOne A.tmps (.tmp t)).run P w = .ok (A.tmps.getD t undef) w := rfl
    exact ⟨A.tmps.getD t undef :: us', by simp only [List.mapM_cons, Sem.run_bind, h1, Result.andThen_ok, hr, Sem.run_pure], .cons (hA.getD t) hv⟩
  | .cell b t :: l, vs, e => by
    unfold aRes at e
    split at e
    · rename_i v hl
      rw [Option.map_eq_some_iff] at e
      obtain ⟨us, hu, rfl⟩ := e
      obtain ⟨us', hr, hv⟩ := aRes_sound h hA hu
      obtain ⟨v', h1, hvl⟩ := resOne_cell (P := P) h hA hl
      exact ⟨v' :: us', by simp only [List.mapM_cons, Sem.run_bind, h1, Result.andThen_ok, hr, Sem.run_pure], .cons hvl hv⟩
    · cases e

theorem results_eq (fn : Func) (tmps : Array Value) : results fn tmps = (do
    let vs ← fn.results.mapM (resOne tmps)
    pure (if h : vs.size = 1 then vs[0] else .tuple vs)) := by
  unfold results
  congr 1

theorem results_run {fn : Func} {m : Map} {H : Heap} {w : World} {a A : Act} (h : HR n0 m H w) (hA : AR m a A) {vs : List Value} (e : aRes P H a.tmps fn.results.toList = some vs) :
    ∃ v', (results fn A.tmps).run P w = .ok v' w ∧ VR m (packRes vs) v' := by
  obtain ⟨vs', hr, hv⟩ := aRes_sound h hA e
  have hrun : (results fn A.tmps).run P w = .ok (if h : vs'.toArray.size = 1 then vs'.toArray[0] else .tuple vs'.toArray) w := by
    rw [results_eq, Array.mapM_eq_mapM_toList]
    simp only [Sem.run_bind, Sem.run_map, hr, Result.andThen_ok, Sem.run_pure]
  refine ⟨_, hrun, ?_⟩
  match vs, vs', hv with
  | [], [], .nil => exact .tuple .nil
  | [x], [x'], .cons hx .nil => exact hx
  | x :: y :: l, x' :: y' :: l', hv => exact .tuple hv

def aFun (P : Program) (call : CallF) (n : Nat) (f : FuncId) (args : List Value) (H : Heap) : Option (Value × Heap) := match P.funcs[f]? with
  | some fn => match fn.body with
    | some c => match aCode P call n c { tmps := args.toArray ++ Array.replicate (fn.ntmps - args.toArray.size) undef, defers := [] } H with
      | some (.normal, a, H') => (aRes P H' a.tmps fn.results.toList).map fun vs => (packRes vs, H')
      | some (.ret, a, H') => (aRes P H' a.tmps fn.results.toList).map fun vs => (packRes vs, H')
      | _ => none
    | none => none
  | none => none

/-! One round. -/

def putAll : List Tmp → List Value → Array Value → Array Value
  | t :: ts, v :: vs, A => putAll ts vs (A.setIfInBounds t v)
  | _, _, A => A

theorem putAll_eq : ∀ (ts : List Tmp) (vs : List Value) (A : Array Value), (ts.zip vs).foldl (fun tmps (x : Tmp × Value) => tmps.setIfInBounds x.1 x.2) A = putAll ts vs A
  | [], vs, A => by simp [putAll]
  | t :: ts, [], A => by simp [putAll]
  | t :: ts, v :: vs, A => by simp [putAll, putAll_eq ts vs]

theorem putAll_VRs {m : Map} : ∀ (ts : List Tmp) {vs vs' : List Value} {A A' : Array Value}, VRs m vs vs' → VRs m A.toList A'.toList → VRs m (putAll ts vs A).toList (putAll ts vs' A').toList
  | [], _, _, A, A', _, h => h
  | t :: ts, _, _, A, A', .nil, h => h
  | t :: ts, _, _, A, A', .cons hv hvs, h => by
    refine putAll_VRs ts hvs ?_
    have := (AR.mk (a := { tmps := A, defers := [] }) (A := { tmps := A', defers := [] }) h).put (some t) hv
    exact this.tm

def ready : LoopState → Bool
  | .ready => true
  | _ => false

def stOf (e : AExit) : LoopState := match e with
  | .normal => .ready
  | _ => .done
def goOn (e : AExit) : Bool := match e with
  | .normal => true
  | _ => false

def lenEq : List Tmp → List Value → Bool
  | [], [] => true
  | _ :: a, _ :: b => lenEq a b
  | _, _ => false
theorem lenEq_eq : ∀ {a : List Tmp} {b : List Value}, lenEq a b = true → a.length = b.length
  | [], [], _ => rfl
  | _ :: a, _ :: b, h => by simpa using lenEq_eq (a := a) (b := b) h

def endR {α : Type} (l : Nat) (r : Option (AExit × α × Heap)) : Option (Value × Heap) := match r with
  | some (e, _, H) => match H.rows.get l with
    | some row => match row.loop with
      | some _ => cond (!row.ro) (some (.bool (goOn e), H.setLoop l row (stOf e) e.jump)) none
      | none => none
    | none => none
  | none => none

def beginR {α : Type} (l : Nat) (r : Option (AExit × α × Heap)) (k : α → Heap → Option (AExit × α × Heap)) : Option (AExit × α × Heap) := match r with
  | some (.normal, a, H) => match H.rows.get l with
    | some row => match row.loop with
      | some lr => cond (ready lr.state && !row.ro) (k a (H.setLoop l row .busy lr.pending)) none
      | none => none
    | none => none
  | _ => none

def aRound (P : Program) (G : Nat) (call : CallF) (n : Nat) (l : Nat) (args : List Value) (H : Heap) : Option (Value × Heap) := match H.rows.get l with
  | some row => match row.loop with
    | some lr => cond (lenEq lr.params.toList args && (okCode G lr.assign && okCode G lr.body))
        (endR l (beginR l (aCode P call n lr.assign { tmps := putAll lr.params.toList args lr.tmps, defers := [] } H) (aCode P call n lr.body))) none
    | none => none
  | none => none

structure RoundSteps (P : Program) (G : Nat) (call : CallF) (n : Nat) (l : Nat) (args : List Value) (H : Heap) (v : Value) (H' : Heap) where
  row : Row
  lr : LoopRec
  row1 : Row
  lr1 : LoopRec
  row2 : Row
  lr2 : LoopRec
  a1 : Act
  a2 : Act
  H1 : Heap
  H2 : Heap
  e : AExit
  hrow : H.rows.get l = some row
  hl : row.loop = some lr
  len : lr.params.toList.length = args.length
  ok1 : okCode G lr.assign = true
  ok2 : okCode G lr.body = true
  c1 : aCode P call n lr.assign { tmps := putAll lr.params.toList args lr.tmps, defers := [] } H = some (.normal, a1, H1)
  hrow1 : H1.rows.get l = some row1
  hl1 : row1.loop = some lr1
  hst : ready lr1.state = true
  hro1 : row1.ro = false
  c2 : aCode P call n lr.body a1 (H1.setLoop l row1 .busy lr1.pending) = some (e, a2, H2)
  hrow2 : H2.rows.get l = some row2
  hl2 : row2.loop = some lr2
  hro2 : row2.ro = false
  hv : v = .bool (goOn e)
  hH : H' = H2.setLoop l row2 (stOf e) e.jump

theorem aRound_steps {n l : Nat} {args : List Value} {H H' : Heap} {v : Value} (h : aRound P G call n l args H = some (v, H')) : Nonempty (RoundSteps P G call n l args H v H') := by
  unfold aRound at h
  split at h
  case h_2 => cases h
  rename_i row hrow
  split at h
  case h_2 => cases h
  rename_i lr hl
  obtain ⟨hc, h⟩ := cond_some h
  simp only [Bool.and_eq_true] at hc
  unfold endR at h
  split at h
  case h_2 => cases h
  rename_i e a2 H2 hb
  split at h
  case h_2 => cases h
  rename_i row2 hrow2
  split at h
  case h_2 => cases h
  rename_i lr2 hl2
  obtain ⟨hro2, h⟩ := cond_some h
  cases h
  unfold beginR at hb
  split at hb
  case h_2 => cases hb
  rename_i a1 H1 hc1
  split at hb
  case h_2 => cases hb
  rename_i row1 hrow1
  split at hb
  case h_2 => cases hb
  rename_i lr1 hl1
  obtain ⟨hst, hb⟩ := cond_some hb
  simp only [Bool.and_eq_true, Bool.not_eq_true'] at hst hro2
  exact ⟨⟨row, lr, row1, lr1, row2, lr2, a1, a2, H1, H2, e, hrow, hl, lenEq_eq hc.1, hc.2.1, hc.2.2, hc1, hrow1, hl1, hst.1, hst.2, hb, hrow2, hl2, hro2, rfl, rfl⟩⟩

theorem yield_run {b : Nat} {L : Loop} {w : World} (h : w.heap[b]? = some (.loop L)) {args : List Value} (hn : L.params.toList.length = args.length) :
    (Instr.yield b args.toArray).run P w = .ok (.round b L.fn (putAll L.params.toList args L.tmps) L.assign L.body) w := by
  have hs : args.toArray.size = L.params.size := by simp only [List.size_toArray]; rw [← hn]; simp
  have hz : (L.params.zip args.toArray).foldl (fun tmps (x : Tmp × Value) => tmps.setIfInBounds x.1 x.2) L.tmps = putAll L.params.toList args L.tmps := by
    rw [← putAll_eq, ← Array.foldl_toList, Array.toList_zip]
  simp only [Instr.yield, Instr.getLoop, getObj, Sem.run_bind, Sem.run, h, Result.andThen_ok, Sem.run_pure, hs, ne_eq, not_true_eq_false, if_false]
  rw [← hz]

theorem beginRound_run {b : Nat} {L : Loop} {w : World} (h : w.heap[b]? = some (.loop L)) (hs : ready L.state = true) :
    (Instr.beginRound b).run P w = .ok () (World.setObjAt w b (.loop { L with state := .busy, pending := L.pending })) := by
  have : L.state = .ready := by cases hh : L.state <;> first | rfl | (rw [hh] at hs; cases hs)
  simp [Instr.beginRound, Instr.getLoop, getObj, setObj, Sem.run, h, this, World.setObjAt]

theorem endRound_run {b : Nat} {L : Loop} {w : World} (h : w.heap[b]? = some (.loop L)) (e : AExit) :
    (Instr.endRound b e.jump).run P w = .ok (.bool (goOn e)) (World.setObjAt w b (.loop { L with state := stOf e, pending := e.jump })) := by
  cases e <;> simp [Instr.endRound, Instr.getLoop, getObj, setObj, Sem.run, h, World.setObjAt, stOf, goOn, AExit.jump]

theorem roundPost_of {l : Nat} {R : Ending → World → Prop} {e : AExit} {a : Act} {w : World} (h : ∃ v w', (Instr.endRound l e.jump).run P w = .ok v w' ∧ R (.returned v) w') : roundPost P l R e.real a w := by
  cases e <;> exact h

theorem RoundSteps.go (hc : CallOk P G call) (hmix : P.follows .mixedOrders = true) {n l : Nat} {args : List Value} {H H' : Heap} {v : Value} (S : RoundSteps P G call n l args H v H') (hi : HInv H) : HGo H H' := by
  obtain ⟨g1, i1⟩ := (aCode_sound hc hmix n _ _ _ _ _ _ S.ok1 S.c1).1.1 hi
  obtain ⟨g2, i2⟩ := setLoop_go i1 S.hrow1 S.hl1 .busy S.lr1.pending
  obtain ⟨g3, i3⟩ := (aCode_sound hc hmix n _ _ _ _ _ _ S.ok2 S.c2).1.1 i2
  obtain ⟨g4, i4⟩ := setLoop_go i3 S.hrow2 S.hl2 (stOf S.e) S.e.jump
  rw [S.hH]
  exact ⟨((g1.trans g2).trans g3).trans g4, i4⟩

theorem RoundSteps.sound (hc : CallOk P G call) (hmix : P.follows .mixedOrders = true) {n l : Nat} {args : List Value} {H H' : Heap} {v : Value} (S : RoundSteps P G call n l args H v H')
    {m : Map} {w : World} {args' : List Value} {rm : RowMap} (hHR : HR n0 m H w) (hG : Glob m G) (hargs : VRs m args args') (hm : m l = some rm) :
    ∃ f tmps assign body, (Instr.yield rm.blk args'.toArray).run P w = .ok (.round rm.blk f tmps assign body) w ∧
      RoundIn Fence.wide 0 P rm.blk f tmps assign body w fun e w' => ∃ v' m', e = .returned v' ∧ Ext n0 m H w m' H' w' ∧ VR m' v v' := by
  obtain ⟨_, L, hL, hR⟩ := (hHR.rowOf hm S.hrow).loopRec S.hl
  refine ⟨L.fn, _, _, _, yield_run hL (by rw [hR.ps, S.len]; exact hargs.length), ?_⟩
  obtain ⟨⟨go1, ok1⟩, _⟩ := aCode_sound hc hmix n _ _ _ _ _ _ S.ok1 S.c1
  obtain ⟨⟨go2, ok2⟩, _⟩ := aCode_sound hc hmix n _ _ _ _ _ _ S.ok2 S.c2
  obtain ⟨g1, i1⟩ := go1 hHR.inv
  obtain ⟨g2, i2⟩ := setLoop_go i1 S.hrow1 S.hl1 .busy S.lr1.pending
  obtain ⟨g3, i3⟩ := go2 i2
  obtain ⟨g4, i4⟩ := setLoop_go i3 S.hrow2 S.hl2 (stOf S.e) S.e.jump
  refine roundIn_of_wpIn trivial ?_
  rw [hR.ps, hR.as, hR.bd]
  have hRo : RoOk (some rm.blk) w := fun b hb => by cases hb; exact ⟨L, hL⟩
  refine ok1 (some rm.blk) n0 w.heap.size m w _ _ hHR hG ⟨putAll_VRs _ hargs hR.tm⟩ (Marks.nil _ _ _) (Nat.le_refl _) hRo fun A1 m1 w1 hx1 hA1 hM1 => ?_
  obtain ⟨L1, hL1, hR1, hx2⟩ := Ext.setLoop hx1.hr (hx1.mono _ _ hm) S.hrow1 S.hro1 S.hl1 .busy S.lr1.pending
  have hx12 := hx1.trans hx2 g1 g2
  refine ⟨_, beginRound_run hL1 (by rw [hR1.st]; exact S.hst), ?_⟩
  rw [hR1.pd]
  refine ok2 (some rm.blk) n0 w.heap.size m1 _ _ _ hx2.hr (hG.mono hx1.mono) (hA1.mono hx2.mono) (hM1.ext hx2) hx12.below.size (hRo.ext hx12) fun A2 m2 w2 hx3 hA2 hM2 => ?_
  have hx123 := hx12.trans hx3 (g1.trans g2) g3
  obtain ⟨L2, hL2, _, hx4⟩ := Ext.setLoop hx3.hr (hx123.mono _ _ hm) S.hrow2 S.hro2 S.hl2 (stOf S.e) S.e.jump
  have hx := hx123.trans hx4 ((g1.trans g2).trans g3) g4
  refine roundPost_of ⟨_, _, endRound_run hL2 S.e, .bool (goOn S.e), m2, rfl, ?_, ?_⟩
  · have key : ∀ X, X = S.H2.setLoop l S.row2 (stOf S.e) S.e.jump → Ext n0 m H w m2 X (World.setObjAt w2 rm.blk (.loop { L2 with state := stOf S.e, pending := S.e.jump })) := fun X hX => by rw [hX]; exact hx
    exact key _ S.hH
  · have key : ∀ X, X = Value.bool (goOn S.e) → VR m2 X (.bool (goOn S.e)) := fun X hX => by rw [hX]; exact .plain rfl
    exact key _ S.hv

/-- The canonical machine: 'D' bounds the rounds and the depth of the code of each call, the first number the depth of calls. -/
def aCallN (P : Program) (G D : Nat) : Nat → CallF
  | 0, _, _, _ => none
  | d + 1, .fn f, args, H => aFun P (aCallN P G D d) D f args H
  | d + 1, .rnd l, args, H => aRound P G (aCallN P G D d) D l args H

def okFn (G : Nat) (fn : Func) : Bool := !(fn.name == "runtime.NumGoroutine") && match fn.body with
  | some c => okCode G c
  | none => true
def okProg (P : Program) (G : Nat) : Bool := P.funcs.toList.all (okFn G)

theorem aFun_key {n : Nat} {f : FuncId} {args : List Value} {H H' : Heap} {v : Value} (h : aFun P call n f args H = some (v, H')) : ∃ fn c e a', P.funcs[f]? = some fn ∧ fn.body = some c ∧ (e = .normal ∨ e = .ret) ∧
      aCode P call n c { tmps := args.toArray ++ Array.replicate (fn.ntmps - args.toArray.size) undef, defers := [] } H = some (e, a', H') ∧
      ∃ vs, aRes P H' a'.tmps fn.results.toList = some vs ∧ v = packRes vs := by
  unfold aFun at h
  split at h
  · rename_i fn hf
    split at h
    · rename_i c hb
      split at h
      · rename_i a' H2 hcode
        rw [Option.map_eq_some_iff] at h
        obtain ⟨vs, h1, h2⟩ := h
        cases h2
        exact ⟨fn, c, .normal, a', hf, hb, .inl rfl, hcode, vs, h1, rfl⟩
      · rename_i a' H2 hcode
        rw [Option.map_eq_some_iff] at h
        obtain ⟨vs, h1, h2⟩ := h
        cases h2
        exact ⟨fn, c, .ret, a', hf, hb, .inr rfl, hcode, vs, h1, rfl⟩
      · cases h
    · cases h
  · cases h

theorem okProg_fn (hp : okProg P G = true) {f : FuncId} {fn : Func} (h : P.funcs[f]? = some fn) : okFn G fn = true := by
  unfold okProg at hp
  rw [List.all_eq_true] at hp
  exact hp fn (Array.mem_toList_iff.2 (Array.mem_of_getElem? h))

theorem aFun_go (hp : okProg P G = true) (hmix : P.follows .mixedOrders = true) (hc : CallOk P G call) {n : Nat} {f : FuncId} {args : List Value} {H H' : Heap} {v : Value} (h : aFun P call n f args H = some (v, H')) (hi : HInv H) : HGo H H' := by
  obtain ⟨fn, c, e, a', hf, hb, _, hcode, _⟩ := aFun_key h
  have hok := okProg_fn hp hf
  unfold okFn at hok
  rw [hb, Bool.and_eq_true] at hok
  exact (aCode_sound hc hmix n c _ H e a' H' hok.2 hcode).1.1 hi

theorem aFun_enter (hp : okProg P G = true) {n : Nat} {f : FuncId} {args : List Value} {H H' : Heap} {v : Value} (h : aFun P call n f args H = some (v, H')) : EnterOk P f := by
  obtain ⟨fn, c, e, a', hf, hb, _⟩ := aFun_key h
  have hok := okProg_fn hp hf
  unfold okFn at hok
  rw [Bool.and_eq_true, Bool.not_eq_true'] at hok
  exact ⟨fn, hf, by rw [hb]; rfl, hok.1⟩

theorem aFun_goes (hp : okProg P G = true) (hmix : P.follows .mixedOrders = true) (hc : CallOk P G call) {n : Nat} {f : FuncId} {args : List Value} {H H' : Heap} {v : Value} (h : aFun P call n f args H = some (v, H'))
    {m : Map} {w : World} {args' : List Value} (hHR : HR n0 m H w) (hG : Glob m G) (hargs : VRs m args args') :
    Calls P f args'.toArray w fun e w' => ∃ v' m', e = .returned v' ∧ Ext n0 m H w m' H' w' ∧ VR m' v v' := by
  obtain ⟨fn, c, e, a', hf, hb, he, hcode, vs, hres, rfl⟩ := aFun_key h
  have hok := okProg_fn hp hf
  unfold okFn at hok
  rw [hb, Bool.and_eq_true] at hok
  refine (callsIn_wide (n := 0)).1 (callsIn_of_wp_marks hf hb trivial ?_)
  refine (aCode_sound hc hmix n c _ H e a' H' hok.2 hcode).1.2 none n0 w.heap.size m w _ _ hHR hG ⟨?_⟩ (Marks.nil _ _ _) (Nat.le_refl _) (fun l hl => by cases hl) fun A' m' w' hext hA hM => ?_
  · have hl := hargs.length
    simp only [Array.toList_append, Array.toList_replicate, List.size_toArray]
    rw [hl]
    refine hargs.append ?_
    exact VRs.of_plain (plains_of fun v hv => by rw [List.eq_of_mem_replicate hv]; rfl)
  · obtain ⟨rs, hrs, hnd, hall⟩ := hM
    have : LeavesInM Fence.wide 0 P fn A'.tmps (fun e w' => ∃ v' m', e = .returned v' ∧ Ext n0 m H w m' H' w' ∧ VR m' (packRes vs) v') A'.defers .returning w' := by
      rw [hrs]
      refine leave_marks rs w' hnd (fun r hr => (hall r hr).1) fun w2 e1 e2 e3 e4 e5 => ?_
      have hx2 := hext.left (fun r hr => (hall r hr).2) e1 e2 e3 e4 e5
      obtain ⟨v', hrun, hv⟩ := results_run (fn := fn) hx2.hr hA hres
      exact ⟨v', hrun, v', m', rfl, hx2, hv⟩
    rcases he with rfl | rfl <;> exact this

theorem aCallN_ok (hp : okProg P G = true) (hmix : P.follows .mixedOrders = true) (D : Nat) : ∀ d, CallOk P G (aCallN P G D d)
  | 0 => ⟨fun t args H v H' h => by simp [aCallN] at h, fun f args H v H' h => by simp [aCallN] at h, fun f args H v H' h => by simp [aCallN] at h, fun f args H v H' h => by simp [aCallN] at h⟩
  | d + 1 => by
    have ih := aCallN_ok hp hmix D d
    refine ⟨fun t args H v H' h hi => ?_, fun f args H v H' h => aFun_enter (n := D) (call := aCallN P G D d) hp h, fun f args H v H' h n0 m w args' hHR hG hargs => aFun_goes hp hmix ih h hHR hG hargs, fun l args H v H' h n0 m w args' rm hHR hG hargs hm => ?_⟩
    · cases t with
      | fn f => exact aFun_go hp hmix ih h hi
      | rnd l =>
        obtain ⟨S⟩ := aRound_steps h
        exact S.go ih hmix hi
    · obtain ⟨S⟩ := aRound_steps h
      exact S.sound ih hmix hHR hG hargs hm

/-! A call whose arguments hold no address, with no variable of the package level on the road. -/

def emptyH : Heap := { size := 0, rows := .leaf, grps := .leaf, low := 0 }

theorem empty_hr (w : World) : HR w.heap.size (fun _ => none) emptyH w where
  base := Nat.le_refl _
  row := fun r rm h => by cases h
  apart := fun r r' rm rm' x x' h => by cases h
  inv := fun r x h => by cases h

/-- WHAT THE CANONICAL MACHINE COMES TO IS WHAT EVERY RUN COMES TO: for arguments and a result that hold no address. -/
theorem calls_of_canonical (hp : okProg P 0 = true) (hmix : P.follows .mixedOrders = true) {D d : Nat} {f : FuncId} {args : List Value} {v : Value} {H' : Heap}
    (e : aCallN P 0 D d (.fn f) args emptyH = some (v, H')) (hargs : plains args = true) (hv : plain v = true) (w : World) :
    Calls P f args.toArray w fun e w' => e = .returned v ∧ Below w.heap.size w w' := by
  refine ((aCallN_ok hp hmix D d).goes f args emptyH v H' e w.heap.size (fun _ => none) w args (empty_hr w) (fun g hg => absurd hg (Nat.not_lt_zero g)) (VRs.of_plain hargs)).mono ?_
  rintro e w' ⟨v', m', rfl, hext, hvr⟩
  exact ⟨by rw [hvr.eq_of_plain hv], hext.below⟩

end Go.AM
