/- A general tool, which names no program: a canonical machine for the model's own code (rows of cells by number, no world, no open order), proved: what it comes to is what every run comes to. -/
import Derived.Test.YtimbciadadjhiaaDoorAm5
import Derived.IntWalk
set_option linter.unusedVariables false
set_option linter.unusedSimpArgs false
set_option linter.unusedSectionVars false
namespace Go.AM
open Go.RowKit (Below)

variable {P : Program} {n0 : Nat} {m : Map} {H : Heap} {w : World}

theorem plain_agg {l : List Value} (h : plain (.agg ⟨l⟩) = true) : plains l = true := by simpa [plain, plainA] using h
theorem plain_tuple {l : List Value} (h : plain (.tuple ⟨l⟩) = true) : plains l = true := by simpa [plain, plainA] using h

theorem VR.agg_inv {l : List Value} {v' : Value} (h : VR m (.agg ⟨l⟩) v') : ∃ l', v' = .agg ⟨l'⟩ ∧ VRs m l l' := by
  cases h with
  | plain h => exact ⟨l, rfl, VRs.of_plain (plain_agg h)⟩
  | agg h => exact ⟨_, rfl, h⟩
theorem VR.tuple_inv {l : List Value} {v' : Value} (h : VR m (.tuple ⟨l⟩) v') : ∃ l', v' = .tuple ⟨l'⟩ ∧ VRs m l l' := by
  cases h with
  | plain h => exact ⟨l, rfl, VRs.of_plain (plain_tuple h)⟩
  | tuple h => exact ⟨_, rfl, h⟩
theorem VR.iface_inv {t : TypeId} {v v' : Value} (h : VR m (.iface t v) v') : ∃ u, v' = .iface t u ∧ VR m v u := by
  cases h with
  | plain h => exact ⟨v, rfl, .plain (by simpa [AM.plain] using h)⟩
  | iface h => exact ⟨_, rfl, h⟩
theorem VR.yield_inv {l : Nat} {v' : Value} (h : VR m (.func (.yield l) ⟨[]⟩ ⟨[]⟩) v') : ∃ rm, m l = some rm ∧ v' = .func (.yield rm.blk) ⟨[]⟩ ⟨[]⟩ := by
  cases h with
  | plain h => simp [AM.plain, notYield] at h
  | yield h => exact ⟨_, h, rfl⟩
  | func h _ _ => simp [notYield] at h
theorem VR.func_inv {fn : Fn} (hfn : notYield fn = true) {a b : List Value} {v' : Value} (h : VR m (.func fn ⟨a⟩ ⟨b⟩) v') : ∃ a' b', v' = .func fn ⟨a'⟩ ⟨b'⟩ ∧ VRs m a a' ∧ VRs m b b' := by
  cases h with
  | plain h =>
    simp only [AM.plain, plainA, Bool.and_eq_true] at h
    exact ⟨a, b, rfl, VRs.of_plain h.2.1, VRs.of_plain h.2.2⟩
  | func _ h k => exact ⟨_, _, rfl, h, k⟩
  | yield _ => simp [notYield] at hfn

/-! Parts of aggregates. -/

def aPart (P : Program) (t : TypeId) (l : List Value) (off : Nat) : Option Value := match P.underlying t, P.info? t with
  | some d, some i => cond (isAggD d) (some (.agg ⟨(l.drop off).take i.size⟩)) l[off]?
  | _, _ => none

theorem aPart_sound {t : TypeId} {l l' : List Value} {off : Nat} {v : Value} (hl : VRs m l l') (e : aPart P t l off = some v) :
    ∃ v', (part t ⟨l'⟩ off).run P w = .ok v' w ∧ VR m v v' := by
  unfold aPart at e
  split at e
  · rename_i d i hd hi
    cases hg : isAggD d with
    | true =>
      rw [hg, cond_true] at e
      cases e
      refine ⟨.agg ⟨(l'.drop off).take i.size⟩, ?_, .agg ((hl.drop off).take i.size)⟩
      simp only [part, Sem.run_bind, run_isAgg' hd, hg, Result.andThen_ok, if_true, run_sizeOf' hi, Sem.run_pure]
      congr 2
      apply Array.ext'
      simp [List.take_drop]
    | false =>
      rw [hg, cond_false] at e
      obtain ⟨v', hv', hv⟩ := hl.get _ _ e
      refine ⟨v', ?_, hv⟩
      simp [part, run_isAgg' hd, hg, hv']
  · cases e

def aField (P : Program) (t : TypeId) (x : Value) (f : Nat) : Option Value := match P.underlying t, x with
  | some (.struct fields), .agg ⟨l⟩ => (fields[f]?).bind fun fd => aPart P fd.type l fd.offset
  | _, _ => none

theorem aField_sound {t : TypeId} {x x' v : Value} {f : Nat} (hx : VR m x x') (e : aField P t x f = some v) :
    ∃ v', (Instr.field t x' f).run P w = .ok v' w ∧ VR m v v' := by
  unfold aField at e
  split at e
  · rename_i fields l hu
    obtain ⟨l', rfl, hl⟩ := hx.agg_inv
    simp only [Option.bind_eq_some_iff] at e
    obtain ⟨fd, hfd, e⟩ := e
    obtain ⟨v', hr, hv⟩ := aPart_sound (w := w) hl e
    exact ⟨v', by simp [Instr.field, run_underlying' hu, hfd, asAgg, hr], hv⟩
  · cases e

def aIndex (P : Program) (t : TypeId) (x ix : Value) : Option Value := match P.underlying t, x, ix with
  | some (.array n e), .agg ⟨l⟩, .int _ i => (P.info? e).bind fun inf => if 0 ≤ i ∧ i < (n : Int) then aPart P e l (i.toNat * inf.size) else none
  | some .string, .string s, .int _ i => if 0 ≤ i then (s[i.toNat]?).map fun b => .int .u8 b.toNat else none
  | _, _, _ => none

theorem aIndex_sound {t : TypeId} {x x' ix ix' v : Value} (hx : VR m x x') (hi : VR m ix ix') (e : aIndex P t x ix = some v) :
    ∃ v', (Instr.index t x' ix').run P w = .ok v' w ∧ VR m v v' := by
  unfold aIndex at e
  split at e
  · rename_i n e' l k i hu
    obtain ⟨l', rfl, hl⟩ := hx.agg_inv
    rw [hi.int_inv]
    simp only [Option.bind_eq_some_iff] at e
    obtain ⟨inf, hinf, e⟩ := e
    split at e
    · rename_i hb
      obtain ⟨v', hr, hv⟩ := aPart_sound (w := w) hl e
      exact ⟨v', by simp [Instr.index, asIntOf, run_underlying' hu, hb, run_sizeOf' hinf, hr], hv⟩
    · cases e
  · rename_i s k i hu
    rw [hi.int_inv, hx.eq_of_plain rfl]
    split at e
    · rename_i hb
      simp only [Option.map_eq_some_iff] at e
      obtain ⟨b, hb2, rfl⟩ := e
      exact ⟨_, by simp [Instr.index, asIntOf, run_underlying' hu, hb, hb2], .plain rfl⟩
    · cases e
  · cases e

def aExtract (x : Value) (i : Nat) : Option Value := match x with
  | .tuple ⟨l⟩ => l[i]?
  | _ => none

theorem aExtract_sound {x x' v : Value} {i : Nat} (hx : VR m x x') (e : aExtract x i = some v) : ∃ v', (Instr.extract x' i).run P w = .ok v' w ∧ VR m v v' := by
  unfold aExtract at e
  split at e
  · rename_i l
    obtain ⟨l', rfl, hl⟩ := hx.tuple_inv
    obtain ⟨v', hv', hv⟩ := hl.get _ _ e
    exact ⟨v', by simp [Instr.extract, hv'], hv⟩
  · cases e

/-! Interfaces. -/

def aMakeI (P : Program) (t : TypeId) (x : Value) : Option Value := match P.underlying t with
  | some (.interface _) => none
  | some _ => some (.iface t x)
  | none => none

theorem aMakeI_sound {t : TypeId} {x x' v : Value} (hx : VR m x x') (e : aMakeI P t x = some v) : ∃ v', (Instr.makeInterface t x').run P w = .ok v' w ∧ VR m v v' := by
  unfold aMakeI at e
  split at e
  · cases e
  · rename_i d hne hu
    cases e
    refine ⟨.iface t x', run_makeInterface w t x' ?_, .iface hx⟩
    unfold Program.concrete
    rw [hu]
    cases d <;> simp_all
  · cases e

def aAssert (P : Program) (x : Value) (asserted : TypeId) (ok : Bool) : Option Value := match x, P.underlying asserted with
  | .iface t v, some (.interface want) => match P.info? t with
    | some inf => match Instr.missingMethod want inf.methods with
      | none => some (cond ok (.tuple ⟨[x, .bool true]⟩) x)
      | some _ => cond ok (match (P.info? asserted).bind (·.zero) with
        | some z => cond (plain z) (some (.tuple ⟨[z, .bool false]⟩)) none
        | none => none) none
    | none => none
  | .iface t v, some _ => cond (Nat.beq t asserted) (some (cond ok (.tuple ⟨[v, .bool true]⟩) v))
      (cond ok (match (P.info? asserted).bind (·.zero) with
        | some z => cond (plain z) (some (.tuple ⟨[z, .bool false]⟩)) none
        | none => none) none)
  | _, _ => none

theorem aAssert_sound {x x' v : Value} {xT t : TypeId} {ok : Bool} (hx : VR m x x') (e : aAssert P x t ok = some v) :
    ∃ v', (Instr.typeAssert x' xT t ok).run P w = .ok v' w ∧ VR m v v' := by
  unfold aAssert at e
  split at e
  · rename_i tx u want hu
    obtain ⟨u', rfl, hu'⟩ := hx.iface_inv
    split at e
    · rename_i inf hinf
      split at e
      · rename_i hmm
        cases e
        cases ok
        · exact ⟨_, by simp [Instr.typeAssert, run_underlying' hu, run_typeInfo' hinf, hmm], hx⟩
        · exact ⟨.tuple ⟨[.iface tx u', .bool true]⟩, by simp [Instr.typeAssert, run_underlying' hu, run_typeInfo' hinf, hmm], .tuple (.cons hx (.cons .bool .nil))⟩
      · rename_i s hmm
        cases ok
        · cases e
        · rw [cond_true] at e
          split at e
          · rename_i z hz
            simp only [Option.bind_eq_some_iff] at hz
            obtain ⟨i, hi, hz⟩ := hz
            cases hp : plain z with
            | false => rw [hp] at e; cases e
            | true =>
              rw [hp, cond_true] at e
              cases e
              exact ⟨.tuple ⟨[z, .bool false]⟩, by simp [Instr.typeAssert, run_underlying' hu, run_typeInfo' hinf, hmm, run_zero' hi hz], .tuple (.cons (.plain hp) (.cons .bool .nil))⟩
          · cases e
    · cases e
  · rename_i tx u d hne hu
    obtain ⟨u', rfl, hu'⟩ := hx.iface_inv
    have hrun : ∀ ok, (Instr.typeAssert (.iface tx u') xT t ok).run P w = (if tx = t then (pure (if ok then .tuple #[u', .bool true] else u') : Sem Value)
        else (if ok then (do pure (.tuple #[← zeroValue t, .bool false])) else runtimePanic (.typeAssertion (some xT) (some tx) t ""))).run P w := by
      intro ok
      simp only [Instr.typeAssert, Sem.run_bind, run_underlying' hu, Result.andThen_ok]
    cases hb : Nat.beq tx t with
    | true =>
      have := Nat.eq_of_beq_eq_true hb
      rw [hb, cond_true] at e
      cases e
      cases ok
      · exact ⟨u', by rw [hrun, if_pos this]; rfl, hu'⟩
      · exact ⟨.tuple ⟨[u', .bool true]⟩, by rw [hrun, if_pos this]; rfl, .tuple (.cons hu' (.cons .bool .nil))⟩
    | false =>
      rw [hb, cond_false] at e
      have hne2 : tx ≠ t := fun q => by rw [q] at hb; simp at hb
      cases ok
      · cases e
      · rw [cond_true] at e
        split at e
        · rename_i z hz
          simp only [Option.bind_eq_some_iff] at hz
          obtain ⟨i, hi, hz⟩ := hz
          cases hp : plain z with
          | false => rw [hp] at e; cases e
          | true =>
            rw [hp, cond_true] at e
            cases e
            exact ⟨.tuple ⟨[z, .bool false]⟩, by rw [hrun, if_neg hne2]; simp [run_zero' hi hz], .tuple (.cons (.plain hp) (.cons .bool .nil))⟩
        · cases e
  · cases e

/-! Comparisons with nil. -/

def aIsNilCmp (P : Program) (t : TypeId) (x y : Value) : Bool := match P.underlying t, x, y with
  | some (.pointer _), .pointer (some _), .pointer none => true
  | some (.pointer _), .pointer none, .pointer (some _) => true
  | some (.slice _), .slice (some _) _ _, .slice none _ _ => true
  | some (.slice _), .slice none _ _, .slice (some _) _ _ => true
  | some (.func _ _ _), .func _ _ _, .nilFunc => true
  | some (.func _ _ _), .nilFunc, .func _ _ _ => true
  | some (.interface _), .iface _ _, .nilIface => true
  | some (.interface _), .nilIface, .iface _ _ => true
  | _, _, _ => false

def aCmpNil (P : Program) (op : BinOp) (t : TypeId) (x y : Value) : Option Value := match op with
  | .eql => cond (aIsNilCmp P t x y) (some (.bool false)) none
  | .neq => cond (aIsNilCmp P t x y) (some (.bool true)) none
  | _ => none

theorem isNil_run {t : TypeId} {x x' y y' : Value} (hx : VR m x x') (hy : VR m y y') (e : aIsNilCmp P t x y = true) (d : Nat) :
    (Op.equalIn (d + 1) t x' y').run P w = .ok false w ∧ (∀ op a b, (eqGuard op t a b x' y').run P w = .ok () w) ∧
    (∀ op, op = .eql ∨ op = .neq → binOp op t x' y' = (match op with | .eql => (do pure (.bool (← Op.equal t x' y'))) | _ => (do pure (.bool (!(← Op.equal t x' y')))))) := by
  unfold aIsNilCmp at e
  split at e
  all_goals first | (cases e; done) | skip
  all_goals
    rename_i hu
    cases hx with
    | plain hp => cases hy with
      | plain hq => simp [AM.plain] at hp hq <;> (refine ⟨by simp [Op.equalIn, run_underlying' hu], fun op a b => by cases op <;> simp [eqGuard], fun op ho => by rcases ho with rfl | rfl <;> rfl⟩)
      | _ => (refine ⟨by simp [Op.equalIn, run_underlying' hu], fun op a b => by cases op <;> simp [eqGuard], fun op ho => by rcases ho with rfl | rfl <;> rfl⟩)
    | _ => cases hy with
      | plain hq => (refine ⟨by simp [Op.equalIn, run_underlying' hu], fun op a b => by cases op <;> simp [eqGuard], fun op ho => by rcases ho with rfl | rfl <;> rfl⟩)

theorem aCmpNil_sound {op : BinOp} {t : TypeId} {x x' y y' v : Value} {a b : Operand} (hx : VR m x x') (hy : VR m y y') (e : aCmpNil P op t x y = some v) :
    ∃ v', (do eqGuard op t a b x' y'; binOp op t x' y' : Sem Value).run P w = .ok v' w ∧ VR m v v' := by
  unfold aCmpNil at e
  cases hb : aIsNilCmp P t x y with
  | false => rw [hb] at e; cases op <;> cases e
  | true =>
    rw [hb] at e
    obtain ⟨h1, h2, h3⟩ := isNil_run (w := w) hx hy hb 9999
    have h1' : (Op.equal t x' y').run P w = .ok false w := h1
    cases op <;> first | (cases e; done) | skip
    · cases e
      refine ⟨.bool false, ?_, .bool⟩
      rw [Sem.run_bind, h2]
      simp only [Result.andThen_ok]
      rw [h3 .eql (.inl rfl)]
      simp [h1']
    · cases e
      refine ⟨.bool true, ?_, .bool⟩
      rw [Sem.run_bind, h2]
      simp only [Result.andThen_ok]
      rw [h3 .neq (.inr rfl)]
      simp [h1']

end Go.AM
