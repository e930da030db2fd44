/- A general tool, which names no program: calls and regions in any order of a canonical machine for the model's own code, proved: what it comes to is what every run comes to. -/
import Derived.Test.YtcmaipijkjillaaDoorGb
import Derived.OrdersIn
import Derived.RangeFuncLeaves
import Derived.LoopNIn
import Derived.LoopN
import Derived.Scope
set_option linter.unusedVariables false
set_option linter.unusedSimpArgs false
set_option linter.unusedSectionVars false

namespace Go.AM
open Go.RowKit (Below)

variable {P:Program} {n0:Nat} {m:Map} {H:Heap} {w:World}

def allPlain (ρ:Operand → Value):List Operand → Bool
  | [] => true
  | x :: l => plain (ρ x) && allPlain ρ l

theorem allPlain_mem {ρ:Operand → Value}:∀ {l},allPlain ρ l = true → ∀ x ∈ l,plain (ρ x) = true
  | y :: l,h,x,hx => by
    simp only [allPlain,Bool.and_eq_true] at h;rcases List.mem_cons.1 hx with rfl | hx
    · exact h.1
    · exact allPlain_mem h.2 x hx

inductive AStep where
  | val (v:Value) (H:Heap)
  | enter (f:FuncId) (args:List Value)
  | round (l:Nat) (args:List Value)

def aPlain (P:Program) (ρ:Operand → Value) (o:Oper) (H:Heap):Option AStep:=
  cond (allPlain ρ o.op.operands.toList)
    (match Zabg P (execOp ρ o) with
     | some (.value v) => cond (plain v) (some (.val v H)) none
     | _ => none) none

def valH (H:Heap):Option Value → Option AStep
  | some v => some (.val v H)
  | none => none
def valP:Option (Value × Heap) → Option AStep
  | some (v,H) => some (.val v H)
  | none => none
def orP (x:Option AStep) (y:Option AStep):Option AStep:=match x with
  | some s => some s
  | none => y

def aNilCheck:Value → Option Value
  | .pointer (some a) => some (.pointer (some a))
  | .iface t v => some (.iface t v)
  | .func (.func f) a b => some (.func (.func f) a b)
  | .slice (some a) n c => some (.slice (some a) n c)
  | _ => none

def argL (ρ:Operand → Value) (c:Call):List Value:=c.args.toList.map ρ

def aCall (P:Program) (ρ:Operand → Value) (o:Oper) (c:Call) (H:Heap):Option AStep:=match c.callee with
  | .builtin b => match b,argL ρ c with
    | .append,[s,x] => orP (valP (aAppend P H c.argTypes s x)) (valP (aAppendZ P H c.argTypes s x))
    | .len,[x] => orP (orP (valH H (aLen P c.argTypes x)) (valH H (aMapLen P H c.argTypes x))) (aPlain P ρ o H)
    | .cap,[x] => orP (valH H (aCap P H c.argTypes x)) (aPlain P ρ o H)
    | .copy,[d,s] => orP (valP (aCopy P H c.argTypes d s)) (aPlain P ρ o H)
    | .clear,[d] => orP (valP (aClear P H c.argTypes d)) (aPlain P ρ o H)
    | _,_ => aPlain P ρ o H
  | .value f => match ρ f with
    | .func (.func k) ⟨a⟩ ⟨b⟩ => some (.enter k (a ++ argL ρ c ++ b))
    | .func (.yield l) ⟨[]⟩ ⟨[]⟩ => some (.round l (argL ρ c))
    | _ => none
  | .invoke _ _ => none

def aOp (P:Program) (ρ:Operand → Value) (o:Oper) (H:Heap):Option AStep:=match o.op with
  | .move x | .assign x => some (.val (ρ x) H)
  | .pick c a b => match ρ c with
    | .bool t => some (.val (cond t (ρ a) (ρ b)) H)
    | _ => none
  | .alloc t => valP (aAlloc P H t)
  | .box t x => some (.val (.pointer (some ⟨H.size,0,none⟩)) (H.newExact (ρ x).cells.toList t))
  | .build t parts => valH H (aBuild P t (parts.toList.map fun p => (p.1,ρ p.2)))
  | .buildSlice t n parts => valP (aBuildSlice P H t n (parts.toList.map fun p => (p.1,ρ p.2)))
  | .load t a => valH H (aLoad P H t (ρ a))
  | .store t a x => match aStore P H t (ρ a) (ρ x) with
    | some H' => some (.val undef H')
    | none => none
  | .nilCheck x => orP (valH H (aNilCheck (ρ x))) (aPlain P ρ o H)
  | .binOp op t x y _ => orP (valH H (aCmpNil P op t (ρ x) (ρ y))) (aPlain P ρ o H)
  | .makeInterface t x => valH H (aMakeI P t (ρ x))
  | .makeFunc fn first captured => cond (notYield fn) (some (.val (.func fn ⟨first.toList.map ρ⟩ ⟨captured.toList.map ρ⟩) H)) none
  | .makeSlice t l c => valP (aMakeSlice P H t (ρ l) (ρ c))
  | .slice t x lo hi mx => orP (valH H (aSlice P H t (ρ x) (lo.map ρ) (hi.map ρ) (mx.map ρ))) (aPlain P ρ o H)
  | .fieldAddr s x f => valH H (aFieldAt P s f (ρ x))
  | .field t x f => valH H (aField P t (ρ x) f)
  | .indexAddr t x ix => valH H (aIndexAt P t (ρ x) (ρ ix))
  | .index t x ix => valH H (aIndex P t (ρ x) (ρ ix))
  | .typeAssert x _ t ok => orP (valH H (aAssert P (ρ x) t ok)) (aPlain P ρ o H)
  | .extract x i => valH H (aExtract (ρ x) i)
  | .call c => aCall P ρ o c H
  | .select _ _ => none
  | .defer _ => none
  | .makeMap t r => valP (aMakeMap P H t (r.map ρ))
  | .range t x => valP (aRange P H t (ρ x))
  | .next it b => valP (aNext H (ρ it) b)
  | .entry it => valH H (aItEntry H (ρ it))
  | .lookup t x ix ok => orP (valH H (aLookup P H t (ρ x) (ρ ix) ok)) (aPlain P ρ o H)
  | .mapUpdate t x k v | .insert t x k v => match aMapUpdate P H t (ρ x) (ρ k) (ρ v) with
    | some H' => some (.val undef H')
    | none => none
  | .mapEntry t x k => valP (aMapEntry P H t (ρ x) (ρ k))
  | .entryStore _ x s v => match aEntryStore H (ρ x) (ρ s) (ρ v) with
    | some H' => some (.val undef H')
    | none => none
  | .convert s t x => orP (valH H (aText P H s t (ρ x))) (aPlain P ρ o H)
  | _ => aPlain P ρ o H

inductive Tgt where
  | fn (f:FuncId)
  | rnd (l:Nat)

abbrev CallF:=Tgt → List Value → Heap → Option (Value × Heap)

def aOpRun (P:Program) (call:CallF) (ρ:Operand → Value) (o:Oper) (H:Heap):Option (Value × Heap):=
  match aOp P ρ o H with
  | some (.val v H') => some (v,H')
  | some (.enter f args) => call (.fn f) args H
  | some (.round l args) => call (.rnd l) args H
  | none => none

def OpGoes (P:Program) (n0:Nat) (m:Map) (H:Heap) (w:World) (A:Act) (o:Oper) (v:Value) (H':Heap):Prop:=
  HF H H' ∧ ∃ v' m' w',((execOp A.eval o).run P w = .ok (.value v') w' ∨ ((execOp A.eval o).run P w = .ok .skip w' ∧ v' = undef)) ∧ Ext n0 m H w m' H' w' ∧ VR m' v v'

theorem goes_of_sim {A:Act} {o:Oper} {s:Sem Value} {v:Value} {H':Heap} (hs:execOp A.eval o = (do pure (.value (← s)))) (h:Sim P n0 m H w s v H'):OpGoes P n0 m H w A o v H':=by
  obtain ⟨v',m',w',hr,hext,hv,hf⟩:=h;refine ⟨hf,v',m',w',.inl ?_,hext,hv⟩;rw [hs,Sem.run_bind,hr];rfl

theorem goes_of_pure {A:Act} {o:Oper} {s:Sem Value} {v v':Value} (h:HR n0 m H w) (hs:execOp A.eval o = (do pure (.value (← s)))) (hr:s.run P w = .ok v' w) (hv:VR m v v') :
    OpGoes P n0 m H w A o v H:=goes_of_sim hs (Sim.same h hr hv)

theorem goes_of_simU {A:Act} {o:Oper} {s:Sem Unit} {H':Heap} (hs:execOp A.eval o = (do s; pure .skip)) (h:SimU P n0 m H w s H'):OpGoes P n0 m H w A o undef H':=by
  obtain ⟨m',w',hr,hext,hf⟩:=h;refine ⟨hf,undef,m',w',.inr ⟨?_,rfl⟩,hext,.plain rfl⟩;rw [hs,Sem.run_bind,hr];rfl

theorem goes_of_value {A:Act} {o:Oper} {v v':Value} (h:HR n0 m H w) (hs:(execOp A.eval o).run P w = .ok (.value v') w) (hv:VR m v v'):OpGoes P n0 m H w A o v H:=
  ⟨HF.refl _,v',m,w,.inl hs,.refl h,hv⟩

theorem aPlain_sound {ρ:Operand → Value} {A:Act} {o:Oper} {v:Value} {H':Heap} (h:HR n0 m H w) (hop:∀ x ∈ o.op.operands,VR m (ρ x) (A.eval x)) (hsel:∀ cs b,o.op ≠ .select cs b)
    (e:aPlain P ρ o H = some (.val v H')):OpGoes P n0 m H w A o v H':=by
  unfold aPlain at e;cases hp:allPlain ρ o.op.operands.toList with
  | false => rw [hp] at e; cases e
  | true =>
    rw [hp,cond_true] at e;have heq:execOp ρ o = execOp A.eval o:=execOp_congr o hsel fun x hx =>
      ((hop x hx).eq_of_plain (allPlain_mem hp x (Array.mem_toList_iff.2 hx))).symm
    split at e
    · rename_i u hu;cases hpu:plain u with
      | false => rw [hpu] at e; cases e
      | true =>
        rw [hpu,cond_true] at e;cases e;rw [heq] at hu;exact goes_of_value h (pureRun_sound w hu) (.plain hpu)
    · cases e

theorem aPlain_val {ρ:Operand → Value} {o:Oper} {s:AStep} (e:aPlain P ρ o H = some s):∃ v H',s = .val v H':=by
  unfold aPlain at e;cases hp:allPlain ρ o.op.operands.toList with
  | false => rw [hp] at e; cases e
  | true =>
    rw [hp,cond_true] at e;split at e
    · rename_i u hu;cases hpu:plain u with
      | false => rw [hpu] at e; cases e
      | true => rw [hpu,cond_true] at e; cases e; exact ⟨_,_,rfl⟩
    · cases e

theorem valH_inv {x:Option Value} {s:AStep} (e:valH H x = some s):∃ v,x = some v ∧ s = .val v H:=by
  cases x with
  | none => cases e
  | some v => cases e; exact ⟨v,rfl,rfl⟩
theorem valP_inv {x:Option (Value × Heap)} {s:AStep} (e:valP x = some s):∃ v H',x = some (v,H') ∧ s = .val v H':=by
  cases x with
  | none => cases e
  | some p => obtain ⟨v,H'⟩:=p; cases e; exact ⟨v,H',rfl,rfl⟩
theorem orP_inv {x y:Option AStep} {s:AStep} (e:orP x y = some s):x = some s ∨ y = some s:=by
  cases x with
  | none => exact .inr e
  | some p => exact .inl e

theorem PR.of_map {ρ:Operand → Value} {A:Act}:∀ {parts:List (Nat × Operand)},(∀ p ∈ parts,VR m (ρ p.2) (A.eval p.2)) → PR m (parts.map fun p => (p.1,ρ p.2)) (parts.map fun p => (p.1,A.eval p.2))
  | [],_ => .nil
  | p :: l,h => .cons (h p (by simp)) (PR.of_map fun q hq => h q (by simp [hq]))

theorem VRs.of_map {ρ:Operand → Value} {A:Act}:∀ {l:List Operand},(∀ x ∈ l,VR m (ρ x) (A.eval x)) → VRs m (l.map ρ) (l.map A.eval)
  | [],_ => .nil
  | x :: l,h => .cons (h x (by simp)) (VRs.of_map fun y hy => h y (by simp [hy]))

theorem or_map {ρ:Operand → Value} {A:Act} {x:Option Operand} (h:∀ y,x = Option.some y → VR m (ρ y) (A.eval y)):OR m (x.map ρ) (x.map A.eval):=by
  cases x with
  | none => exact .none
  | some y => exact .some (h y rfl)

theorem aOp_sound {ρ:Operand → Value} {A:Act} {o:Oper} {v:Value} {H':Heap} (h:HR n0 m H w) (hop:∀ x ∈ o.op.operands,VR m (ρ x) (A.eval x))
    (e:aOp P ρ o H = some (.val v H')):OpGoes P n0 m H w A o v H':=by
  obtain ⟨dst,op,type,pos,after,guard⟩:=o;have plainCase:(∀ cs b,op ≠ .select cs b) → aPlain P ρ ⟨dst,op,type,pos,after,guard⟩ H = some (.val v H') → OpGoes P n0 m H w A ⟨dst,op,type,pos,after,guard⟩ v H':=
    fun hs he => aPlain_sound h hop hs he
  cases op <;> simp only [aOp] at e <;> simp only [Op.operands] at hop
  case move x => cases e; exact goes_of_value h rfl (hop x (by simp))
  case assign x => cases e; exact goes_of_value h rfl (hop x (by simp))
  case pick c a b =>
    split at e
    · rename_i t ht;cases e;have hc:=hop c (by simp)
      rw [ht] at hc;have hA:=hc.bool_inv;refine goes_of_value h (v':=cond t (A.eval a) (A.eval b)) ?_ ?_
      · simp only [execOp,hA,asBool,Sem.run_bind,Sem.run_pure,Result.andThen_ok];cases t <;> rfl
      · cases t
        · exact hop b (by simp)
        · exact hop a (by simp)
    · cases e
  case alloc t =>
    obtain ⟨u,H2,he,hs⟩:=valP_inv e;cases hs;exact goes_of_sim rfl (aAlloc_sound h he)
  case box t x =>
    cases e;refine goes_of_sim rfl ?_
    exact newVar_sim h (hop x (by simp)) t
  case build t parts =>
    obtain ⟨u,he,hs⟩:=valH_inv e;cases hs;have hp:PR m (parts.toList.map fun p => (p.1,ρ p.2)) (parts.map fun (i,x) => (i,A.eval x)).toList:=by
      rw [Array.toList_map];exact PR.of_map fun p hp => hop p.2 (by simp; exact ⟨p.1,by simpa using hp⟩)
    obtain ⟨v',hr,hv⟩:=aBuild_sound (w:=w) hp he;exact goes_of_pure h rfl hr hv
  case buildSlice t n parts =>
    obtain ⟨u,H2,he,hs⟩:=valP_inv e;cases hs;have hp:PR m (parts.toList.map fun p => (p.1,ρ p.2)) (parts.map fun (i,x) => (i,A.eval x)).toList:=by
      rw [Array.toList_map];exact PR.of_map fun p hp => hop p.2 (by simp; exact ⟨p.1,by simpa using hp⟩)
    exact goes_of_sim rfl (aBuildSlice_sound h hp he)
  case load t a =>
    obtain ⟨u,he,hs⟩:=valH_inv e;cases hs;obtain ⟨v',hr,hv⟩:=aLoad_sound (P:=P) h (hop a (by simp)) he
    exact goes_of_pure h rfl hr hv
  case store t a x =>
    split at e
    · rename_i H2 he;cases e;exact goes_of_simU rfl (aStore_sound h (hop a (by simp)) (hop x (by simp)) he)
    · cases e
  case nilCheck x =>
    rcases orP_inv e with e | e
    · obtain ⟨u,he,hs⟩:=valH_inv e;cases hs;have hx:=hop x (by simp)
      generalize ρ x = y at hx he;unfold aNilCheck at he;refine goes_of_value h (v':=A.eval x) ?_ ?_
      · simp only [execOp];split at he <;> first | (cases he; done) | skip
        · generalize A.eval x = z at hx ⊢;cases hx with
          | plain hp => simp [AM.plain] at hp
          | ptr _ => rfl
        · generalize A.eval x = z at hx ⊢;cases hx <;> rfl
        · generalize A.eval x = z at hx ⊢;cases hx <;> rfl
        · generalize A.eval x = z at hx ⊢;cases hx <;> rfl
      · split at he <;> first | (cases he; done) | (cases he; exact hx)
    · exact plainCase (by simp) e
  case binOp op t x y yt =>
    rcases orP_inv e with e | e
    · obtain ⟨u,he,hs⟩:=valH_inv e;cases hs;obtain ⟨v',hr,hv⟩:=aCmpNil_sound (w:=w) (a:=x) (b:=y) (hop x (by simp)) (hop y (by simp)) he
      exact goes_of_pure h rfl hr hv
    · exact plainCase (by simp) e
  case makeInterface t x =>
    obtain ⟨u,he,hs⟩:=valH_inv e;cases hs;obtain ⟨v',hr,hv⟩:=aMakeI_sound (w:=w) (hop x (by simp)) he
    exact goes_of_pure h rfl hr hv
  case makeFunc fn first captured =>
    cases hn:notYield fn with
    | false => rw [hn] at e; cases e
    | true =>
      rw [hn,cond_true] at e;cases e;refine goes_of_pure h (v':=.func fn (first.map A.eval) (captured.map A.eval)) rfl rfl ?_
      have h1:VRs m (first.toList.map ρ) (first.map A.eval).toList:=by rw [Array.toList_map]; exact VRs.of_map fun x hx => hop x (by simp; left; simpa using hx)
      have h2:VRs m (captured.toList.map ρ) (captured.map A.eval).toList:=by rw [Array.toList_map]; exact VRs.of_map fun x hx => hop x (by simp; right; simpa using hx)
      exact VR.func (a':=(first.map A.eval).toList) (b':=(captured.map A.eval).toList) hn h1 h2
  case makeSlice t l c =>
    obtain ⟨u,H2,he,hs⟩:=valP_inv e;cases hs;exact goes_of_sim rfl (aMakeSlice_sound h (hop l (by simp)) (hop c (by simp)) he)
  case slice t x lo hi mx =>
    rcases orP_inv e with e | e
    · obtain ⟨u,he,hs⟩:=valH_inv e;cases hs;obtain ⟨v',hr,hv⟩:=aSlice_sound (P:=P) h (hop x (by simp)) (or_map (x:=lo) fun y hy => hop y (by subst hy; simp)) (or_map (x:=hi) fun y hy => hop y (by subst hy; simp))
        (or_map (x:=mx) fun y hy => hop y (by subst hy; simp)) he
      exact goes_of_pure h rfl hr hv
    · exact plainCase (by simp) e
  case fieldAddr s x f =>
    obtain ⟨u,he,hs⟩:=valH_inv e;cases hs;obtain ⟨v',hr,hv⟩:=aFieldAt_sound (w:=w) (hop x (by simp)) he
    exact goes_of_pure h rfl hr hv
  case field t x f =>
    obtain ⟨u,he,hs⟩:=valH_inv e;cases hs;obtain ⟨v',hr,hv⟩:=aField_sound (w:=w) (hop x (by simp)) he
    exact goes_of_pure h rfl hr hv
  case indexAddr t x ix =>
    obtain ⟨u,he,hs⟩:=valH_inv e;cases hs;obtain ⟨v',hr,hv⟩:=aIndexAt_sound (w:=w) (hop x (by simp)) (hop ix (by simp)) he
    exact goes_of_pure h rfl hr hv
  case index t x ix =>
    obtain ⟨u,he,hs⟩:=valH_inv e;cases hs;obtain ⟨v',hr,hv⟩:=aIndex_sound (w:=w) (hop x (by simp)) (hop ix (by simp)) he
    exact goes_of_pure h rfl hr hv
  case typeAssert x xT t ok =>
    rcases orP_inv e with e | e
    · obtain ⟨u,he,hs⟩:=valH_inv e;cases hs;obtain ⟨v',hr,hv⟩:=aAssert_sound (w:=w) (xT:=xT) (hop x (by simp)) he
      exact goes_of_pure h rfl hr hv
    · exact plainCase (by simp) e
  case extract x i =>
    obtain ⟨u,he,hs⟩:=valH_inv e;cases hs;obtain ⟨v',hr,hv⟩:=aExtract_sound (P:=P) (w:=w) (hop x (by simp)) he
    exact goes_of_pure h rfl hr hv
  case call c =>
    unfold aCall at e;split at e
    · rename_i b hcal;have hex:execOp A.eval ⟨dst,.call c,type,pos,after,guard⟩ = builtin b c.argTypes type (c.args.map fun | .const _ => true | _ => false) (c.args.map A.eval):=by
        simp only [execOp,resolve,hcal]; rfl
      have hargs:VRs m (argL ρ c) (c.args.map A.eval).toList:=by
        unfold argL;rw [Array.toList_map];exact VRs.of_map fun x hx => hop x (by simp [Call.operands,hcal]; simpa using hx)
      have hto:∀ l,(c.args.map A.eval).toList = l → c.args.map A.eval = l.toArray:=fun l hl => by rw [← hl]
      split at e
      · rename_i s x hl;rw [hl] at hargs;generalize hg:(c.args.map A.eval).toList = l' at hargs;rcases orP_inv e with e | e
        · obtain ⟨u,H2,he,hs⟩:=valP_inv e;cases hs
          match l',hargs with
          | [s',x'],.cons h1 (.cons h2 .nil) =>
            refine goes_of_sim ?_ (aAppend_sound (ty:=type) h h1 h2 he);rw [hex,hto _ hg]; rfl
        · obtain ⟨u,H2,he,hs⟩:=valP_inv e;cases hs
          match l',hargs with
          | [s',x'],.cons h1 (.cons h2 .nil) =>
            refine goes_of_sim ?_ (aAppendZ_sound (ty:=type) h h1 h2 he);rw [hex,hto _ hg]; rfl
      · rename_i x hl;rcases orP_inv e with e | e
        · rw [hl] at hargs;generalize hg:(c.args.map A.eval).toList = l' at hargs
          match l',hargs with
          | [x'],.cons h1 .nil =>
            rcases orP_inv e with e | e
            · obtain ⟨u,he,hs⟩:=valH_inv e;cases hs;obtain ⟨v',hr,hv⟩:=aLen_sound (w:=w) (ty:=type) h1 he;refine goes_of_pure h ?_ hr hv;rw [hex,hto _ hg]; rfl
            · obtain ⟨u,he,hs⟩:=valH_inv e;cases hs;obtain ⟨v',hr,hv⟩:=aMapLen_sound (ty:=type) h h1 he;refine goes_of_pure h ?_ hr hv;rw [hex,hto _ hg]; rfl
        · exact plainCase (by simp) e
      · rename_i x hl;rcases orP_inv e with e | e
        · obtain ⟨u,he,hs⟩:=valH_inv e;cases hs;rw [hl] at hargs;generalize hg:(c.args.map A.eval).toList = l' at hargs
          match l',hargs with
          | [x'],.cons h1 .nil =>
            obtain ⟨v',hr,hv⟩:=aCap_sound (P:=P) (ty:=type) h h1 he;refine goes_of_pure h ?_ hr hv;rw [hex,hto _ hg]; rfl
        · exact plainCase (by simp) e
      · rename_i d s hl;rcases orP_inv e with e | e
        · obtain ⟨u,H2,he,hs⟩:=valP_inv e;cases hs;rw [hl] at hargs;generalize hg:(c.args.map A.eval).toList = l' at hargs
          match l',hargs with
          | [s',x'],.cons h1 (.cons h2 .nil) =>
            refine goes_of_sim ?_ (aCopy_sound (ty:=type) h h1 h2 he);rw [hex,hto _ hg]; rfl
        · exact plainCase (by simp) e
      · rename_i d hl;rcases orP_inv e with e | e
        · obtain ⟨u,H2,he,hs⟩:=valP_inv e;cases hs;rw [hl] at hargs;generalize hg:(c.args.map A.eval).toList = l' at hargs
          match l',hargs with
          | [s'],.cons h1 .nil =>
            refine goes_of_sim ?_ (aClear_sound (ty:=type) h h1 he);rw [hex,hto _ hg]; rfl
        · exact plainCase (by simp) e
      · exact plainCase (by simp) e
    · split at e <;> cases e
    · cases e
  case makeMap t r =>
    obtain ⟨u,H2,he,hs⟩:=valP_inv e;cases hs;exact goes_of_sim rfl (aMakeMap_sound h (or_map (x:=r) fun y hy => hop y (by subst hy; simp)) he)
  case range t x =>
    obtain ⟨u,H2,he,hs⟩:=valP_inv e;cases hs;exact goes_of_sim rfl (aRange_sound h (hop x (by simp)) he)
  case entry it =>
    obtain ⟨u,he,hs⟩:=valH_inv e;cases hs;obtain ⟨v',hr,hv⟩:=aItEntry_sound (P:=P) h (hop it (by simp)) he
    exact goes_of_pure h rfl hr hv
  case next it b =>
    obtain ⟨u,H2,he,hs⟩:=valP_inv e;cases hs;exact goes_of_sim rfl (aNext_sound h (hop it (by simp)) he)
  case lookup t x ix ok =>
    rcases orP_inv e with e | e
    · obtain ⟨u,he,hs⟩:=valH_inv e;cases hs;obtain ⟨v',hr,hv⟩:=aLookup_sound (P:=P) h (hop x (by simp)) (hop ix (by simp)) he
      exact goes_of_pure h rfl hr hv
    · exact plainCase (by simp) e
  case mapUpdate t x k v =>
    split at e
    · rename_i H2 he;cases e;exact goes_of_simU rfl (aMapUpdate_sound h (hop x (by simp)) (hop k (by simp)) (hop v (by simp)) he)
    · cases e
  case insert t x k v =>
    split at e
    · rename_i H2 he;cases e;exact goes_of_simU rfl (aMapUpdate_sound h (hop x (by simp)) (hop k (by simp)) (hop v (by simp)) he)
    · cases e
  case mapEntry t x k =>
    obtain ⟨u,H2,he,hs⟩:=valP_inv e;cases hs;exact goes_of_sim rfl (aMapEntry_sound h (hop x (by simp)) (hop k (by simp)) he)
  case entryStore t x s v =>
    split at e
    · rename_i H2 he;cases e;exact goes_of_simU rfl (aEntryStore_sound h (hop x (by simp)) (hop s (by simp)) (hop v (by simp)) he)
    · cases e
  case convert s t x =>
    rcases orP_inv e with e | e
    · obtain ⟨u,he,hs⟩:=valH_inv e;cases hs;obtain ⟨v',hr,hv⟩:=aText_sound (P:=P) h (hop x (by simp)) he
      exact goes_of_pure h rfl hr hv
    · exact plainCase (by simp) e
  all_goals first
    | (cases e; done)
    | exact plainCase (by simp) e

end Go.AM

namespace Go.AM
open Go.RowKit (Below)

variable {P:Program} {n0:Nat} {m:Map} {H:Heap} {w:World}

/-! What steps of the canonical machine leave,without any world. -/

def HInv (H:Heap):Prop:=∀ r x,H.rows.get r = some x → (x.exact = true ∨ x.grp < 2 * H.size) ∧ r < H.size

def HGo (H H':Heap):Prop:=HF H H' ∧ HInv H'

theorem HInv.add {H:Heap} (h:HInv H) (row:Row) (hg:row.exact = true ∨ row.grp = 2 * H.size + 1):HInv (H.add row):=by
  intro r x hx;rw [Heap.add_get] at hx;rw [Heap.add_size];split at hx
  · cases hx;refine ⟨hg.imp id fun h1 => ?_,by omega⟩
    rw [h1]; omega
  · refine ⟨(h r x hx).1.imp id fun hlt => ?_,?_⟩
    · omega
    · have:=(h r x hx).2; omega

theorem HInv.store {H:Heap} (h:HInv H) {r:Nat} {row:Row} (hrow:H.rows.get r = some row) (off:Nat) (vs:List Value):HInv (H.store r row off vs):=by
  intro k x hx;rw [Heap.store_get] at hx;rw [Heap.store_size];split at hx
  · rename_i hk; cases hx; rw [hk]; exact h r row hrow
  · exact h k x hx

theorem HInv.grow {H:Heap} (h:HInv H) {r:Nat} {row:Row} (hrow:H.rows.get r = some row) (off n:Nat) (vs:List Value):HInv (H.grow r row off n vs):=by
  intro k x hx;rw [grow_get] at hx;have hsz:∀ g,g < 2 * H.size → g < 2 * (H.grow r row off n vs).size:=fun g hg => by rw [Heap.grow_size]; omega
  split at hx
  · rename_i hk; cases hx; exact ⟨(h r row hrow).1.imp id (hsz _),by rw [Heap.grow_size]; omega⟩
  · exact ⟨(h k x hx).1.imp id (hsz _),by have:=(h k x hx).2; rw [Heap.grow_size]; omega⟩

theorem HGo.add {H:Heap} (h:HInv H) (row:Row) (hg:row.exact = true ∨ row.grp = 2 * H.size + 1):HGo H (H.add row):=⟨HF.add H row hg h,h.add row hg⟩
theorem HGo.exact {H:Heap} (h:HInv H) (l:List Value) (e:TypeId):HGo H (H.newExact l e):=HGo.add h _ (.inl rfl)
theorem HGo.store {H:Heap} (h:HInv H) {r:Nat} {row:Row} (hrow:H.rows.get r = some row) (off:Nat) (vs:List Value):HGo H (H.store r row off vs):=⟨HF.store H r row off vs,h.store hrow off vs⟩
theorem HGo.grow {H:Heap} (h:HInv H) {r:Nat} {row:Row} (hrow:H.rows.get r = some row) (off n:Nat) (vs:List Value):HGo H (H.grow r row off n vs):=⟨HF.grow H r row off n vs,h.grow hrow off n vs⟩
theorem HGo.refl {H:Heap} (h:HInv H):HGo H H:=⟨HF.refl H,h⟩

theorem cond_or {α:Type} {b:Bool} {x z:Option α} {y:α} (h:cond b x z = some y):x = some y ∨ z = some y:=by
  cases b
  · exact .inr h
  · exact .inl h

theorem aStore_go {t:TypeId} {a v:Value} {H':Heap} (h:HInv H) (e:aStore P H t a v = some H'):HGo H H':=by
  unfold aStore at e;split at e
  · split at e
    · rename_i i row hi hrow;obtain ⟨_,e⟩:=Zaaw e;cases e;exact .store h hrow _ _
    · cases e
  · cases e

theorem aAlloc_go {t:TypeId} {v:Value} {H':Heap} (h:HInv H) (e:aAlloc P H t = some (v,H')):HGo H H':=by
  unfold aAlloc at e;split at e
  · obtain ⟨_,e⟩:=Zaaw e;cases e;exact .exact h _ _
  · cases e

theorem aMakeSlice_go {t:TypeId} {l c v:Value} {H':Heap} (h:HInv H) (e:aMakeSlice P H t l c = some (v,H')):HGo H H':=by
  unfold aMakeSlice at e;split at e
  · split at e
    · split at e
      · split at e
        · obtain ⟨_,e⟩:=Zaaw e;cases e;exact .exact h _ _
        · cases e
      · cases e
    · cases e
  · cases e

theorem aBuildSlice_go {t:TypeId} {n:Nat} {parts:List (Nat × Value)} {v:Value} {H':Heap} (h:HInv H) (e:aBuildSlice P H t n parts = some (v,H')):HGo H H':=by
  unfold aBuildSlice at e;split at e
  · split at e
    · split at e
      · obtain ⟨_,e⟩:=Zaaw e;rw [Option.map_eq_some_iff] at e;obtain ⟨l,_,e⟩:=e;cases e;exact .exact h _ _
      · cases e
    · cases e
  · cases e

theorem aAppend_go {ts:Array TypeId} {s x v:Value} {H':Heap} (h:HInv H) (e:aAppend P H ts s x = some (v,H')):HGo H H':=by
  unfold aAppend at e;split at e
  case h_2 => cases e
  split at e
  case h_2 => cases e
  split at e
  case h_2 => cases e
  split at e
  case h_2 => cases e
  obtain ⟨_,e⟩:=Zaaw e;split at e
  · obtain ⟨_,e⟩:=Zaaw e;rcases cond_or e with e | e
    · cases e; exact .refl h
    · cases e; exact .add h _ (.inr rfl)
  · obtain ⟨_,e⟩:=Zaaw e;unfold aAppendSome at e;split at e
    case h_2 => cases e
    rename_i row hrow;rcases cond_or e with e | e
    · obtain ⟨_,e⟩:=Zaaw e;cases e; exact .refl h
    · rcases cond_or e with e | e
      · obtain ⟨_,e⟩:=Zaaw e;cases e;exact .store h hrow _ _
      · rcases cond_or e with e | e
        · rw [Option.map_eq_some_iff] at e;obtain ⟨_,_,e⟩:=e;cases e;exact .add h _ (.inr rfl)
        · obtain ⟨_,e⟩:=Zaaw e;cases e;exact .grow h hrow _ _ _
  · cases e

theorem aCopy_go {ts:Array TypeId} {d s v:Value} {H':Heap} (h:HInv H) (e:aCopy P H ts d s = some (v,H')):HGo H H':=by
  unfold aCopy at e;split at e
  case h_2 => cases e
  split at e
  case h_2 => cases e
  rename_i hrow;split at e
  case h_2 => cases e
  split at e
  case h_2 => cases e
  rcases cond_or e with e | e
  · cases e; exact .refl h
  · obtain ⟨_,e⟩:=Zaaw e;cases e;exact .store h hrow _ _

theorem HInv.setMap {H:Heap} (h:HInv H) {r:Nat} {row:Row} (hrow:H.rows.get r = some row) (es:List MapEntry) (clk:Nat):HInv (H.setMap r row es clk):=by
  intro k x hx;rw [setMap_eq] at hx ⊢;rw [Trie.get_put] at hx;split at hx
  · rename_i hk; cases hx; rw [hk]; exact h r row hrow
  · exact h k x hx
theorem HGo.setMap {H:Heap} (h:HInv H) {r:Nat} {row:Row} (hrow:H.rows.get r = some row) (es:List MapEntry) (clk:Nat):HGo H (H.setMap r row es clk):=⟨HF.setMap es clk,h.setMap hrow es clk⟩
theorem HGo.addMap {H:Heap} (h:HInv H):HGo H H.addMap:=HGo.add h _ (.inl rfl)

theorem HInv.setIt {H:Heap} (h:HInv H) {r:Nat} {row:Row} (hrow:H.rows.get r = some row) (i:IterRec):HInv (H.setIt r row i):=by
  intro k x hx;rw [setIt_eq] at hx ⊢;rw [Trie.get_put] at hx;split at hx
  · rename_i hk; cases hx; rw [hk]; exact h r row hrow
  · exact h k x hx
theorem HGo.setIt {H:Heap} (h:HInv H) {r:Nat} {row:Row} (hrow:H.rows.get r = some row) (i:IterRec):HGo H (H.setIt r row i):=⟨HF.setIt i,h.setIt hrow i⟩
theorem itPtr_go {i:IterRec} {v:Value} {H':Heap} (h:HInv H) (e:itPtr H i = some (v,H')):HGo H H':=by
  cases e; exact HGo.add h _ (.inl rfl)
theorem aRange_go {t:TypeId} {x v:Value} {H':Heap} (h:HInv H) (e:aRange P H t x = some (v,H')):HGo H H':=by
  unfold aRange at e;split at e
  · split at e
    · exact itPtr_go h e
    · cases e
  · split at e
    · exact itPtr_go h e
    · split at e
      · exact itPtr_go h e
      · cases e
    · cases e
  · cases e
theorem aNext_go {x v:Value} {b:Bool} {H':Heap} (h:HInv H) (e:aNext H x b = some (v,H')):HGo H H':=by
  unfold aNext at e;split at e
  case h_2 => cases e
  split at e
  case h_2 => cases e
  rename_i hrow;obtain ⟨_,e⟩:=Zaaw e;split at e
  case h_2 => cases e
  unfold nextIt at e;split at e
  · obtain ⟨_,e⟩:=Zaaw e;rcases cond_or e with e | e
    · cases e; exact .setIt h hrow _
    · cases e; exact .refl h
  · obtain ⟨_,e⟩:=cond_none (b:=b) e;cases e; exact .refl h
  · obtain ⟨_,e⟩:=cond_none (b:=b) e;split at e
    case h_2 => cases e
    rename_i es clk _;rcases cond_or e with e | e
    · cases e
    · split at e
      · cases e; exact .refl h
      · obtain ⟨_,e⟩:=Zaaw e;cases e; exact .setIt h hrow _
      · cases e

theorem aMakeMap_go {t:TypeId} {r:Option Value} {v:Value} {H':Heap} (h:HInv H) (e:aMakeMap P H t r = some (v,H')):HGo H H':=by
  unfold aMakeMap at e;split at e
  · cases e; exact .addMap h
  · split at e
    · obtain ⟨_,e⟩:=Zaaw e;cases e; exact .addMap h
    · cases e
  · cases e
theorem aMapUpdate_go {t:TypeId} {x k v:Value} {H':Heap} (h:HInv H) (e:aMapUpdate P H t x k v = some H'):HGo H H':=by
  unfold aMapUpdate at e;split at e
  case h_2 => cases e
  split at e
  case h_2 => cases e
  split at e
  case h_2 => cases e
  rename_i hmo;obtain ⟨_,e⟩:=Zaaw e;split at e
  · cases e; exact .setMap h (mapOf_inv hmo).1 _ _
  · cases e
theorem aMapEntry_go {t:TypeId} {x k v:Value} {H':Heap} (h:HInv H) (e:aMapEntry P H t x k = some (v,H')):HGo H H':=by
  unfold aMapEntry at e;split at e
  case h_2 => cases e
  split at e
  case h_2 => cases e
  split at e
  case h_2 => cases e
  rename_i hmo;obtain ⟨_,e⟩:=Zaaw e;split at e
  · cases e; exact .setMap h (mapOf_inv hmo).1 _ _
  · cases e
theorem aEntryStore_go {x s v:Value} {H':Heap} (h:HInv H) (e:aEntryStore H x s v = some H'):HGo H H':=by
  unfold aEntryStore at e;split at e
  case h_2 => cases e
  split at e
  case h_2 => cases e
  split at e
  case h_2 => cases e
  rename_i hmo;obtain ⟨_,e⟩:=Zaaw e;split at e
  · cases e; exact .setMap h (mapOf_inv hmo).1 _ _
  · cases e

theorem aClear_go {ts:Array TypeId} {d v:Value} {H':Heap} (h:HInv H) (e:aClear P H ts d = some (v,H')):HGo H H':=by
  unfold aClear at e;split at e
  case h_2 => cases e
  split at e
  case h_2 => cases e
  rename_i hrow;rcases cond_or e with e | e
  · cases e; exact .refl h
  · split at e
    case h_2 => cases e
    obtain ⟨_,e⟩:=Zaaw e;cases e;exact .store h hrow _ _

theorem aAppendZ_go {ts:Array TypeId} {s x v:Value} {H':Heap} (h:HInv H) (e:aAppendZ P H ts s x = some (v,H')):HGo H H':=by
  unfold aAppendZ at e;split at e
  case h_2 => cases e
  split at e
  case h_2 => cases e
  split at e
  case h_2 => cases e
  split at e
  case h_2 => cases e
  split at e
  case isFalse => cases e
  obtain ⟨_,e⟩:=Zaaw e;rcases cond_or e with e | e
  · cases e; exact .refl h
  · cases e;exact .add h _ (.inr rfl)

theorem aPlain_go {ρ:Operand → Value} {o:Oper} {v:Value} {H':Heap} (h:HInv H) (e:aPlain P ρ o H = some (.val v H')):HGo H H':=by
  unfold aPlain at e;obtain ⟨_,e⟩:=Zaaw e;split at e
  · obtain ⟨_,e⟩:=Zaaw e;cases e; exact .refl h
  · cases e

theorem valH_go {x:Option Value} {v:Value} {H':Heap} (h:HInv H) (e:valH H x = some (.val v H')):HGo H H':=by
  obtain ⟨u,_,hs⟩:=valH_inv e;cases hs; exact .refl h

theorem valP_go {x:Option (Value × Heap)} {v:Value} {H':Heap} (hx:∀ v H',x = some (v,H') → HGo H H') (e:valP x = some (.val v H')):HGo H H':=by
  obtain ⟨u,H2,he,hs⟩:=valP_inv e;cases hs; exact hx _ _ he

theorem aOp_go {ρ:Operand → Value} {o:Oper} {v:Value} {H':Heap} (h:HInv H) (e:aOp P ρ o H = some (.val v H')):HGo H H':=by
  obtain ⟨dst,op,type,pos,after,guard⟩:=o;cases op <;> simp only [aOp] at e
  case pick c a b => split at e <;> first | (cases e; done) | (cases e; exact .refl h)
  case move x => cases e; exact .refl h
  case assign x => cases e; exact .refl h
  case alloc t => exact valP_go (fun _ _ he => aAlloc_go h he) e
  case box t x => cases e; exact .exact h _ _
  case buildSlice t n parts => exact valP_go (fun _ _ he => aBuildSlice_go h he) e
  case store t a x =>
    split at e
    · rename_i he; cases e; exact aStore_go h he
    · cases e
  case makeFunc => obtain ⟨_,e⟩:=Zaaw e; cases e; exact .refl h
  case makeSlice => exact valP_go (fun _ _ he => aMakeSlice_go h he) e
  case makeMap => exact valP_go (fun _ _ he => aMakeMap_go h he) e
  case range => exact valP_go (fun _ _ he => aRange_go h he) e
  case next => exact valP_go (fun _ _ he => aNext_go h he) e
  case mapEntry => exact valP_go (fun _ _ he => aMapEntry_go h he) e
  case mapUpdate =>
    split at e
    · rename_i he; cases e; exact aMapUpdate_go h he
    · cases e
  case insert =>
    split at e
    · rename_i he; cases e; exact aMapUpdate_go h he
    · cases e
  case entryStore =>
    split at e
    · rename_i he; cases e; exact aEntryStore_go h he
    · cases e
  case call c =>
    unfold aCall at e;split at e
    · split at e
      · rcases orP_inv e with e | e
        · exact valP_go (fun _ _ he => aAppend_go h he) e
        · exact valP_go (fun _ _ he => aAppendZ_go h he) e
      · rcases orP_inv e with e | e
        · rcases orP_inv e with e | e
          · exact valH_go h e
          · exact valH_go h e
        · exact aPlain_go h e
      · rcases orP_inv e with e | e
        · exact valH_go h e
        · exact aPlain_go h e
      · rcases orP_inv e with e | e
        · exact valP_go (fun _ _ he => aCopy_go h he) e
        · exact aPlain_go h e
      · rcases orP_inv e with e | e
        · exact valP_go (fun _ _ he => aClear_go h he) e
        · exact aPlain_go h e
      · exact aPlain_go h e
    · split at e <;> cases e
    · cases e
  all_goals first
    | exact valH_go h e
    | exact aPlain_go h e
    | (rcases orP_inv e with e | e
       · exact valH_go h e
       · exact aPlain_go h e)
    | cases e

/-! Calls. -/

def EnterOk (P:Program) (f:FuncId):Prop:=∃ fn,P.funcs[f]? = some fn ∧ fn.body.isSome = true ∧ (fn.name == "runtime.NumGoroutine") = false

def Glob (m:Map) (G:Nat):Prop:=∀ g,g < G → ∃ rm,m g = some rm ∧ rm.blk = g ∧ rm.sh = 0
theorem Glob.mono {m m':Map} {G:Nat} (h:Glob m G) (hm:m.le m'):Glob m' G:=fun g hg => by
  obtain ⟨rm,h1,h2⟩:=h g hg;exact ⟨rm,hm _ _ h1,h2⟩

def fenceOf:Option Nat → Fence
  | none => Fence.wide
  | some l => Fence.wide.inRound l
theorem fence_fn (ro:Option Nat) (f:FuncId):(fenceOf ro).fn f:=by cases ro <;> trivial
theorem fence_depth (ro:Option Nat):(fenceOf ro).depth = none:=by cases ro <;> rfl

theorem callsIn_of {ro:Option Nat} {n:Nat} {f:FuncId} {args:Array Value} {R:Ending → World → Prop} (h:Calls P f args w R):CallsIn (fenceOf ro) n P f args w R:=by
  cases ro with
  | none => exact callsIn_wide.2 h
  | some l => exact (callsIn_wide.2 h:CallsIn Fence.wide n P f args w R)

structure CallOk (P:Program) (G:Nat) (call:CallF):Prop where
  go:∀ t args H v H',call t args H = some (v,H') → HInv H → HGo H H'
  ok:∀ f args H v H',call (.fn f) args H = some (v,H') → EnterOk P f ∨ (ExtOk P f args v ∧ H' = H)
  goes:∀ f args H v H',call (.fn f) args H = some (v,H') → EnterOk P f → ∀ n0 m w (args':List Value),HR n0 m H w → Glob m G → VRs m args args' →
    Calls P f args'.toArray w fun e w' => ∃ v' m',e = .returned v' ∧ Ext n0 m H w m' H' w' ∧ VR m' v v'
  rounds:∀ l args H v H',call (.rnd l) args H = some (v,H') → ∀ n0 m w (args':List Value) rm,HR n0 m H w → Glob m G → VRs m args args' → m l = some rm →
    ∃ f tmps assign body,(Instr.yield rm.blk args'.toArray).run P w = .ok (.round rm.blk f tmps assign body) w ∧
      RoundIn Fence.wide 0 P rm.blk f tmps assign body w fun e w' => ∃ v' m',e = .returned v' ∧ Ext n0 m H w m' H' w' ∧ VR m' v v'

theorem HR.hinv (h:HR n0 m H w):HInv H:=h.inv

theorem run_callFunc {f:FuncId} {args:Array Value} (h:EnterOk P f):(callFunc f args).run P w = .ok (.enter f args) w:=by
  obtain ⟨fn,hf,hb,hn⟩:=h;cases hbo:fn.body with
  | none => rw [hbo] at hb; cases hb
  | some c =>
    have hn':¬ fn.name = "runtime.NumGoroutine":=by simpa using hn
    simp [callFunc,hf,hn',hbo]

theorem aOpRun_go {G:Nat} {call:CallF} (hc:CallOk P G call) {ρ:Operand → Value} {o:Oper} {v:Value} {H':Heap} (h:HInv H)
    (e:aOpRun P call ρ o H = some (v,H')):HGo H H':=by
  unfold aOpRun at e;split at e
  · rename_i he; cases e; exact aOp_go h he
  · exact hc.go _ _ _ _ _ e h
  · exact hc.go _ _ _ _ _ e h
  · cases e

theorem step_valH {x:Option Value} {s:AStep} (he:valH H x = some s) (hs:∀ v H',s ≠ .val v H'):False:=by
  obtain ⟨_,_,h2⟩:=valH_inv he; exact hs _ _ h2
theorem step_valP {x:Option (Value × Heap)} {s:AStep} (he:valP x = some s) (hs:∀ v H',s ≠ .val v H'):False:=by
  obtain ⟨_,_,_,h2⟩:=valP_inv he; exact hs _ _ h2
theorem step_plain {ρ:Operand → Value} {o:Oper} {s:AStep} (he:aPlain P ρ o H = some s) (hs:∀ v H',s ≠ .val v H'):False:=by
  obtain ⟨_,_,h2⟩:=aPlain_val he; exact hs _ _ h2
theorem step_orH {x:Option Value} {ρ:Operand → Value} {o:Oper} {s:AStep} (he:orP (valH H x) (aPlain P ρ o H) = some s) (hs:∀ v H',s ≠ .val v H'):False:=by
  rcases orP_inv he with he | he
  · exact step_valH he hs
  · exact step_plain he hs

theorem aOp_step {ρ:Operand → Value} {o:Oper} {s:AStep} (he:aOp P ρ o H = some s) (hs:∀ v H',s ≠ .val v H'):∃ c,o.op = .call c ∧ aCall P ρ o c H = some s:=by
  obtain ⟨dst,op,type,pos,after,guard⟩:=o;cases op <;> simp only [aOp] at he
  case call c => exact ⟨c,rfl,he⟩
  all_goals exfalso
  case pick => split at he <;> first | (cases he; done) | (cases he; exact hs _ _ rfl)
  case store => split at he <;> first | (cases he; done) | (cases he; exact hs _ _ rfl)
  case mapUpdate => split at he <;> first | (cases he; done) | (cases he; exact hs _ _ rfl)
  case insert => split at he <;> first | (cases he; done) | (cases he; exact hs _ _ rfl)
  case entryStore => split at he <;> first | (cases he; done) | (cases he; exact hs _ _ rfl)
  case makeFunc => obtain ⟨_,he⟩:=Zaaw he; cases he; exact hs _ _ rfl
  case move => cases he; exact hs _ _ rfl
  case assign => cases he; exact hs _ _ rfl
  case box => cases he; exact hs _ _ rfl
  all_goals first
    | exact step_plain he hs
    | exact step_valH he hs
    | exact step_valP he hs
    | exact step_orH he hs
    | cases he

theorem aCall_step {ρ:Operand → Value} {o:Oper} {c:Call} {s:AStep} (he:aCall P ρ o c H = some s) (hs:∀ v H',s ≠ .val v H') :
    ∃ g,c.callee = .value g ∧ ((∃ k a b,ρ g = .func (.func k) ⟨a⟩ ⟨b⟩ ∧ s = .enter k (a ++ argL ρ c ++ b)) ∨ (∃ l,ρ g = .func (.yield l) ⟨[]⟩ ⟨[]⟩ ∧ s = .round l (argL ρ c))):=by
  unfold aCall at he;split at he
  · exfalso;split at he
    · rcases orP_inv he with he | he
      · obtain ⟨_,_,_,h2⟩:=valP_inv he; exact hs _ _ h2
      · obtain ⟨_,_,_,h2⟩:=valP_inv he; exact hs _ _ h2
    · rcases orP_inv he with he | he
      · rcases orP_inv he with he | he
        · obtain ⟨_,_,h2⟩:=valH_inv he; exact hs _ _ h2
        · obtain ⟨_,_,h2⟩:=valH_inv he; exact hs _ _ h2
      · obtain ⟨_,_,h2⟩:=aPlain_val he; exact hs _ _ h2
    · rcases orP_inv he with he | he
      · obtain ⟨_,_,h2⟩:=valH_inv he; exact hs _ _ h2
      · obtain ⟨_,_,h2⟩:=aPlain_val he; exact hs _ _ h2
    · rcases orP_inv he with he | he
      · obtain ⟨_,_,_,h2⟩:=valP_inv he; exact hs _ _ h2
      · obtain ⟨_,_,h2⟩:=aPlain_val he; exact hs _ _ h2
    · rcases orP_inv he with he | he
      · obtain ⟨_,_,_,h2⟩:=valP_inv he; exact hs _ _ h2
      · obtain ⟨_,_,h2⟩:=aPlain_val he; exact hs _ _ h2
    · obtain ⟨_,_,h2⟩:=aPlain_val he; exact hs _ _ h2
  · rename_i g hcal;refine ⟨g,hcal,?_⟩;split at he
    · rename_i k a b hg;cases he;exact .inl ⟨k,a,b,hg,rfl⟩
    · rename_i l hg;cases he;exact .inr ⟨l,hg,rfl⟩
    · cases he
  · cases he

theorem aOp_notDefer {ρ:Operand → Value} {o:Oper} {s:AStep} (e:aOp P ρ o H = some s):∀ c,o.op ≠ .defer c:=by
  intro c hc;obtain ⟨dst,op,type,pos,after,guard⟩:=o;simp only at hc;subst hc;simp [aOp] at e

theorem aOpRun_sound {G:Nat} {call:CallF} (hc:CallOk P G call) {ρ:Operand → Value} {A:Act} {o:Oper} {v:Value} {H':Heap} (ro:Option Nat) (h:HR n0 m H w)
    (hG:Glob m G) (hop:∀ x ∈ o.op.operands,VR m (ρ x) (A.eval x)) (e:aOpRun P call ρ o H = some (v,H')) (K:Act → World → Prop) (Q:Exit → Act → World → Prop)
    (hK:∀ v' m' w',Ext n0 m H w m' H' w' → VR m' v v' → K (A.put o.dst v') w'):o.wpIn (fenceOf ro) 0 P A w K Q:=by
  refine ⟨fun f _ => fence_fn ro f,?_⟩
  unfold aOpRun at e;split at e
  · rename_i he;cases e;rw [Oper.semAt_eq _ _ _ (aOp_notDefer he)];obtain ⟨_,v',m',w',hr,hext,hv⟩:=aOp_sound h hop he;rcases hr with hr | ⟨hr,rfl⟩
    · rw [hr]; exact hK v' m' w' hext hv
    · rw [hr]; exact hK undef m' w' hext hv
  · rename_i f args he;rw [Oper.semAt_eq _ _ _ (aOp_notDefer he)];obtain ⟨c,hco,he⟩:=aOp_step he (by simp)
    obtain ⟨g,hcal,⟨k,a,b,hg,hs⟩ | ⟨l,hg,hs⟩⟩:=aCall_step he (by simp)
    case inr => cases hs
    cases hs;rw [hco] at hop;simp only [Op.operands] at hop;have hgv:=hop g (by simp [Call.operands,hcal])
    rw [hg] at hgv;obtain ⟨a',b',hA,ha,hb⟩:=hgv.func_inv rfl;have hargs:VRs m (argL ρ c) (c.args.map A.eval).toList:=by
      unfold argL;rw [Array.toList_map];exact VRs.of_map fun x hx => hop x (by simp [Call.operands,hcal]; right; simpa using hx)
    rcases hc.ok _ _ _ _ _ e with hE | ⟨hX,rfl⟩
    case inr =>
      obtain ⟨hpv,hrx⟩:=run_ext (w:=w) hX ((ha.append hargs).append hb);have hrun:(execOp A.eval o).run P w = .ok (.value v) w:=by
        unfold execOp;rw [hco];simp only [resolve,hcal,hA,Deferred.ofValue,invoke,Sem.run_bind,Sem.run_pure,Result.andThen_ok];rw [← hrx];congr 2;apply Array.ext';simp
      rw [hrun];exact hK v m w (Ext.refl h) (.plain hpv)
    have hcs:=hc.goes _ _ _ _ _ e hE n0 m w (a' ++ (c.args.map A.eval).toList ++ b') h hG ((ha.append hargs).append hb);have hrun:(execOp A.eval o).run P w = .ok (.enter f (a' ++ (c.args.map A.eval).toList ++ b').toArray) w:=by
      unfold execOp;rw [hco];simp only [resolve,hcal,hA,Deferred.ofValue,invoke,Sem.run_bind,Sem.run_pure,Result.andThen_ok];rw [run_callFunc hE];congr 2;apply Array.ext';simp
    rw [hrun,Oper.uponIn_enter];refine ⟨by rw [fence_depth]; simp,callsIn_of (hcs.mono ?_)⟩
    rintro e w' ⟨v',m',rfl,hext,hv⟩;exact hK v' m' w' hext hv
  · rename_i l args he;rw [Oper.semAt_eq _ _ _ (aOp_notDefer he)];obtain ⟨c,hco,he⟩:=aOp_step he (by simp)
    obtain ⟨g,hcal,⟨k,a,b,hg,hs⟩ | ⟨l',hg,hs⟩⟩:=aCall_step he (by simp)
    case inl => cases hs
    cases hs;rw [hco] at hop;simp only [Op.operands] at hop;have hgv:=hop g (by simp [Call.operands,hcal])
    rw [hg] at hgv;obtain ⟨rm,hm,hA⟩:=hgv.yield_inv;have hargs:VRs m (argL ρ c) (c.args.map A.eval).toList:=by
      unfold argL;rw [Array.toList_map];exact VRs.of_map fun x hx => hop x (by simp [Call.operands,hcal]; right; simpa using hx)
    obtain ⟨f,tmps,assign,body,hy,hR⟩:=hc.rounds _ _ _ _ _ e n0 m w _ rm h hG hargs hm;have hrun:(execOp A.eval o).run P w = .ok (.round rm.blk f tmps assign body) w:=by
      unfold execOp;rw [hco];simp only [resolve,hcal,hA,Deferred.ofValue,invoke,Sem.run_bind,Sem.run_pure,Result.andThen_ok];rw [Array.toArray_toList] at hy
      simpa using hy
    rw [hrun,Oper.uponIn_round];refine ⟨by rw [fence_depth]; simp,?_⟩
    have hR':RoundIn (fenceOf ro) 0 P rm.blk f tmps assign body w fun e w' => ∃ v' m',e = .returned v' ∧ Ext n0 m H w m' H' w' ∧ VR m' v v':=by
      cases ro with
      | none => exact hR
      | some l => exact hR
    refine hR'.mono ?_
    rintro e w' ⟨v',m',rfl,hext,hv⟩;exact hK v' m' w' hext hv
  · cases e

end Go.AM

namespace Go.AM
open Go.RowKit (Below)

variable {P:Program} {n0:Nat} {m:Map} {H:Heap} {w:World}

structure AR (m:Map) (a A:Act):Prop where
  tm:VRs m a.tmps.toList A.tmps.toList

theorem AR.mono {m m':Map} {a A:Act} (h:AR m a A) (hm:m.le m'):AR m' a A:=⟨h.tm.mono hm⟩

theorem AR.size {a A:Act} (h:AR m a A):a.tmps.size = A.tmps.size:=by simpa using h.tm.length

theorem AR.getD {a A:Act} (h:AR m a A) (t:Nat):VR m (a.tmps.getD t undef) (A.tmps.getD t undef):=by
  have hs:=h.size
  by_cases ht:t < a.tmps.size
  · obtain ⟨v',e,hv⟩:=h.tm.get t a.tmps[t] (by simp [ht])
    have ht':t < A.tmps.size:=hs ▸ ht;simp [ht'] at e;simp only [Array.getD_eq_getD_getElem?,Array.getElem?_eq_getElem ht,Array.getElem?_eq_getElem ht',Option.getD_some];rw [e]; exact hv
  · have ht':¬ t < A.tmps.size:=hs ▸ ht;simp only [Array.getD_eq_getD_getElem?,Array.getElem?_eq_none (Nat.le_of_not_lt ht),Array.getElem?_eq_none (Nat.le_of_not_lt ht'),Option.getD_none];exact .plain rfl

theorem AR.of_getD {a A:Act} (hs:a.tmps.size = A.tmps.size) (h:∀ t,VR m (a.tmps.getD t undef) (A.tmps.getD t undef)):AR m a A:=by
  refine ⟨VRs.of_get (by simpa using hs) fun j v hj => ?_⟩
  have hlt:j < a.tmps.size:=by simpa using (List.getElem?_eq_some_iff.1 hj).1
  have hlt':j < A.tmps.size:=hs ▸ hlt;have:=h j;simp only [Array.getD_eq_getD_getElem?,Array.getElem?_eq_getElem hlt,Array.getElem?_eq_getElem hlt',Option.getD_some] at this;simp [hlt] at hj;subst hj;exact ⟨A.tmps[j],by simp [hlt'],this⟩

theorem put_size (a:Act) (d:Option Tmp) (v:Value):(a.put d v).tmps.size = a.tmps.size:=by cases d <;> simp [Act.put]
theorem put_defers (a:Act) (d:Option Tmp) (v:Value):(a.put d v).defers = a.defers:=by cases d <;> rfl
theorem put_getD (a:Act) (d:Option Tmp) (v:Value) (t:Nat):(a.put d v).tmps.getD t undef = if d = some t ∧ t < a.tmps.size then v else a.tmps.getD t undef:=by
  cases d with
  | none => simp [Act.put]
  | some d =>
    simp only [Act.put,Array.getD_eq_getD_getElem?,Array.getElem?_setIfInBounds,Option.some.injEq]
    by_cases hd:d = t
    · subst hd
      by_cases hlt:d < a.tmps.size
      · simp [hlt]
      · simp [hlt]
    · simp [hd]

theorem AR.put {a A:Act} (h:AR m a A) (d:Option Tmp) {v v':Value} (hv:VR m v v'):AR m (a.put d v) (A.put d v'):=by
  refine AR.of_getD (by rw [put_size,put_size,h.size]) (fun t => ?_)
  rw [put_getD,put_getD,← h.size];split
  · exact hv
  · exact h.getD t

/-! What is asked of the code. -/

def okOpnd (G:Nat):Operand → Bool
  | .const v => plain v
  | .global g => Nat.blt g G
  | _ => true
def okOpnds (G:Nat):List Operand → Bool
  | [] => true
  | x :: l => okOpnd G x && okOpnds G l
def okOper (G:Nat) (o:Oper):Bool:=okOpnds G o.op.operands.toList
def okOpers (G:Nat):List Oper → Bool
  | [] => true
  | o :: l => okOper G o && okOpers G l

theorem okOpnds_mem {G:Nat}:∀ {l},okOpnds G l = true → ∀ x ∈ l,okOpnd G x = true
  | y :: l,h,x,hx => by
    simp only [okOpnds,Bool.and_eq_true] at h;rcases List.mem_cons.1 hx with rfl | hx
    · exact h.1
    · exact okOpnds_mem h.2 x hx
theorem okOpers_mem {G:Nat} {l:List Oper} (h:okOpers G l = true):∀ o ∈ l,okOper G o = true:=by
  induction l with
  | nil => intro o ho; cases ho
  | cons y l ih =>
    intro o ho;have h1:(okOper G y && okOpers G l) = true:=h;rw [Bool.and_eq_true] at h1;rcases List.mem_cons.1 ho with e | ho
    · rw [e]; exact h1.1
    · exact ih h1.2 o ho

theorem eval_of {G:Nat} (hG:Glob m G) {a A:Act} {x:Operand} (hx:okOpnd G x = true) (ht:∀ t,x = .tmp t → VR m (a.tmps.getD t undef) (A.tmps.getD t undef)):VR m (a.eval x) (A.eval x):=by
  cases x with
  | tmp t => exact ht t rfl
  | const v => exact .plain hx
  | global g =>
    have hg:g < G:=Nat.le_of_ble_eq_true hx;obtain ⟨rm,h1,h2,h3⟩:=hG g hg;have:=VR.ptr (o:=0) h1;rw [h2,h3] at this;exact this
  | func f => exact .plain rfl

theorem AR.eval {G:Nat} (hG:Glob m G) {a A:Act} (h:AR m a A) {x:Operand} (hx:okOpnd G x = true):VR m (a.eval x) (A.eval x):=
  eval_of hG hx fun t _ => h.getD t

theorem okOper_mem {G:Nat} {o:Oper} (h:okOper G o = true) {x:Operand} (hx:x ∈ o.op.operands):okOpnd G x = true:=okOpnds_mem h x (Array.mem_toList_iff.2 hx)


def yB:Option Value → Option Bool
  | some (.bool b) => some b
  | _ => none
theorem yB_eq {x y:Value} (h:VR m x y):yB (some x) = yB (some y):=by
  cases h with
  | plain _ => rfl
  | _ => rfl
theorem yielded_eq (ops:Array Oper) (tmps:Array Value) (g:Nat):yielded ops tmps g = yB (((ops[g]?).bind (·.dst)).bind (tmps[·]?)):=by
  unfold yielded yB;rfl

theorem getElem?_of_getD {a A:Act} {t:Nat} (hs:a.tmps.size = A.tmps.size) (h:VR m (a.tmps.getD t undef) (A.tmps.getD t undef)):yB (a.tmps[t]?) = yB (A.tmps[t]?):=by
  by_cases hlt:t < a.tmps.size
  · have hlt':t < A.tmps.size:=hs ▸ hlt;simp only [Array.getD_eq_getD_getElem?,Array.getElem?_eq_getElem hlt,Array.getElem?_eq_getElem hlt',Option.getD_some] at h ⊢;exact yB_eq h
  · have hlt':¬ t < A.tmps.size:=hs ▸ hlt;simp only [Array.getElem?_eq_none (Nat.le_of_not_lt hlt),Array.getElem?_eq_none (Nat.le_of_not_lt hlt')]

theorem wanted_of {ops:Array Oper} {o:Oper} {a A:Act} (hs:a.tmps.size = A.tmps.size) (ht:∀ t,t ∈ o.looksAt ops → VR m (a.tmps.getD t undef) (A.tmps.getD t undef)) :
    Region.wanted o (yielded ops a.tmps) = Region.wanted o (yielded ops A.tmps):=by
  unfold Region.wanted;cases hg:o.guard with
  | none => rfl
  | some gw =>
    obtain ⟨g,want⟩:=gw;have hy:yielded ops a.tmps g = yielded ops A.tmps g:=by
      rw [yielded_eq,yielded_eq];cases hd:(ops[g]?).bind (·.dst) with
      | none => rfl
      | some t => exact getElem?_of_getD hs (ht t (by simp [Oper.looksAt,hg,hd]))
    simp only [hy]

/-! A region in the order of the text. -/

def aStep (P:Program) (call:CallF) (ops:Array Oper) (o:Oper) (a:Act) (H:Heap):Option (Value × Heap):=
  cond (Region.wanted o (yielded ops a.tmps)) (aOpRun P call a.eval o H) (some (undef,H))

def aOps (P:Program) (call:CallF) (ops:Array Oper):List Oper → Act → Heap → Option (Act × Heap)
  | [],a,H => some (a,H)
  | o :: rest,a,H => match aStep P call ops o a H with
    | some (v,H') => aOps P call ops rest (a.put o.dst v) H'
    | none => none

theorem aStep_go {G:Nat} {call:CallF} (hc:CallOk P G call) {ops:Array Oper} {o:Oper} {a:Act} {v:Value} {H':Heap} (h:HInv H)
    (e:aStep P call ops o a H = some (v,H')):HGo H H':=by
  unfold aStep at e;rcases cond_or e with e | e
  · exact aOpRun_go hc h e
  · cases e; exact .refl h

theorem aStep_sound {G:Nat} {call:CallF} (ro:Option Nat) (hc:CallOk P G call) {ops:Array Oper} {o:Oper} {a A:Act} {v:Value} {H':Heap} (h:HR n0 m H w)
    (hG:Glob m G) (hok:okOper G o = true) (hs:a.tmps.size = A.tmps.size) (ht:∀ t,t ∈ o.looksAt ops → VR m (a.tmps.getD t undef) (A.tmps.getD t undef))
    (e:aStep P call ops o a H = some (v,H')) (K:Act → World → Prop) (Q:Exit → Act → World → Prop)
    (hK:∀ v' m' w',Ext n0 m H w m' H' w' → VR m' v v' → K (A.put o.dst v') w') :
    if Region.wanted o (yielded ops A.tmps) then o.wpIn (fenceOf ro) 0 P A w K Q else (∀ f,o.about P w A.eval = some f → (fenceOf ro).fn f) ∧ K (A.put o.dst undef) w:=by
  rw [← wanted_of (m:=m) hs ht];unfold aStep at e;cases hw:Region.wanted o (yielded ops a.tmps) with
  | true =>
    rw [hw,cond_true] at e;rw [if_pos rfl];refine aOpRun_sound hc ro h hG (fun x hx => eval_of hG (okOper_mem hok hx) fun t hxt => ht t ?_) e K Q hK
    subst hxt;exact List.mem_append_left _ (List.mem_filterMap.2 ⟨.tmp t,by simpa using hx,rfl⟩)
  | false =>
    rw [hw,cond_false] at e;cases e;rw [if_neg (by simp)]
    exact ⟨fun f _ => fence_fn ro f,hK undef m w (.refl h) (.plain rfl)⟩

theorem aOps_go {G:Nat} {call:CallF} (hc:CallOk P G call) {ops:Array Oper}:∀ {l:List Oper} {a a':Act} {H H':Heap},HInv H → aOps P call ops l a H = some (a',H') → HGo H H'
  | [],a,a',H,H',h,e => by cases e; exact .refl h
  | o :: l,a,a',H,H',h,e => by
    unfold aOps at e;split at e
    · rename_i v H1 h1;obtain ⟨g1,i1⟩:=aStep_go hc h h1;obtain ⟨g2,i2⟩:=aOps_go hc i1 e;exact ⟨g1.trans g2,i2⟩
    · cases e

theorem aOps_sound {G:Nat} {call:CallF} (ro:Option Nat) (hc:CallOk P G call) {ops:Array Oper} {Q:Exit → Act → World → Prop}:∀ {l:List Oper} {i:Nat} {a a' A:Act} {m:Map} {H H':Heap} {w:World},
    ops.toList.drop i = l → okOpers G l = true → HR n0 m H w → Glob m G → AR m a A → aOps P call ops l a H = some (a',H') →
    (∀ A' m' w',Ext n0 m H w m' H' w' → AR m' a' A' → A'.defers = A.defers → Q .normal A' w') → wpOpsIn (fenceOf ro) 0 P ops Q (List.range' i l.length) A w
  | [],i,a,a',A,m,H,H',w,_,_,h,hG,hA,e,hQ => by cases e; exact hQ A m w (.refl h) hA rfl
  | o :: l,i,a,a',A,m,H,H',w,hl,hok,h,hG,hA,e,hQ => by
    simp only [okOpers,Bool.and_eq_true] at hok;have ho:ops[i]? = some o:=by
      rw [← Array.getElem?_toList];have:=congrArg (fun l => l[0]?) hl
      simpa using this
    have hl':ops.toList.drop (i + 1) = l:=by
      have:=congrArg (fun l => l.drop 1) hl
      simpa using this
    unfold aOps at e;split at e
    · rename_i v H1 h1;simp only [List.length_cons,List.range'_succ,wpOpsIn,ho];refine aStep_sound ro hc h hG hok.1 hA.size (fun t _ => hA.getD t) h1 _ Q fun v' m' w' hext hv => ?_
      obtain ⟨g1,i1⟩:=aStep_go hc h.inv h1;obtain ⟨g2,i2⟩:=aOps_go hc i1 e;exact aOps_sound ro hc hl' hok.2 hext.hr (hG.mono hext.mono) ((hA.mono hext.mono).put o.dst hv) e fun A' m'' w'' hext' hA' hd =>
        hQ A' m'' w'' (hext.trans hext' g1 g2) hA' (by rw [hd,put_defers])
    · cases e

end Go.AM

namespace Go.AM
open Go.RowKit (Below)

variable {P:Program} {n0:Nat} {m:Map} {H:Heap} {w:World}

/-! Which operations stand ahead of which. -/

def bindsAny (e:Edge):Bool:=Region.binds .any e

inductive Reach (ops:Array Oper):Nat → Nat → Prop
  | edge {j o e}:ops[j]? = some o → e ∈ o.after.toList → bindsAny e = true → Reach ops e.on j
  | trans {i k j}:Reach ops i k → Reach ops k j → Reach ops i j

def maskStep (acc:List Nat) (s:Nat) (e:Edge):Nat:=cond (bindsAny e) (s ||| (2 ^ e.on ||| acc.getD e.on 0)) s
def maskOf (acc:List Nat) (o:Oper):Nat:=o.after.toList.foldl (maskStep acc) 0
def masksGo:List Oper → List Nat → List Nat
  | [],acc => acc
  | o :: l,acc => masksGo l (acc ++ [maskOf acc o])
def masks (ops:Array Oper):List Nat:=masksGo ops.toList []

theorem maskOf_spec {acc:List Nat} {i:Nat}:∀ {es:List Edge} {s:Nat},(es.foldl (maskStep acc) s).testBit i = true →
    s.testBit i = true ∨ ∃ e ∈ es,bindsAny e = true ∧ (i = e.on ∨ (acc.getD e.on 0).testBit i = true)
  | [],s,h => .inl h
  | e :: es,s,h => by
    rw [List.foldl_cons] at h;rcases maskOf_spec h with h | ⟨e',he',h⟩
    · unfold maskStep at h;cases hb:bindsAny e with
      | false => rw [hb,cond_false] at h; exact .inl h
      | true =>
        rw [hb,cond_true,Nat.testBit_or,Nat.testBit_or,Bool.or_eq_true,Bool.or_eq_true] at h;rcases h with h | h | h
        · exact .inl h
        · refine .inr ⟨e,by simp,hb,.inl ?_⟩
          rw [Nat.testBit_two_pow] at h;exact (of_decide_eq_true h).symm
        · exact .inr ⟨e,by simp,hb,.inr h⟩
    · exact .inr ⟨e',by simp [he'],h⟩

theorem masksGo_spec {ops:Array Oper}:∀ (l:List Oper) (pre:List Oper) (acc:List Nat),ops.toList = pre ++ l → acc.length = pre.length →
    (∀ j,∀ i,(acc.getD j 0).testBit i = true → Reach ops i j) → ∀ j i,((masksGo l acc).getD j 0).testBit i = true → Reach ops i j
  | [],pre,acc,_,_,h => h
  | o :: l,pre,acc,he,hl,h => by
    refine masksGo_spec l (pre ++ [o]) (acc ++ [maskOf acc o]) (by simp [he]) (by simp [hl]) ?_
    intro j i hb
    by_cases hj:j < acc.length
    · rw [List.getD_eq_getElem?_getD,List.getElem?_append_left hj,← List.getD_eq_getElem?_getD] at hb;exact h j i hb
    · by_cases hj2:j = acc.length
      · subst hj2;rw [List.getD_eq_getElem?_getD,List.getElem?_append_right (Nat.le_refl _)] at hb;simp only [Nat.sub_self,List.getElem?_cons_zero,Option.getD_some] at hb;have ho:ops[acc.length]? = some o:=by
          rw [← Array.getElem?_toList,he,hl,List.getElem?_append_right (Nat.le_refl _)]; simp
        rcases maskOf_spec hb with hb | ⟨e,hem,hbi,hb⟩
        · simp at hb
        · rcases hb with rfl | hb
          · exact .edge ho hem hbi
          · exact .trans (h _ _ hb) (.edge ho hem hbi)
      · rw [List.getD_eq_getElem?_getD,List.getElem?_eq_none (by simp; omega)] at hb
        simp at hb

theorem masks_spec {ops:Array Oper} {j i:Nat} (h:((masks ops).getD j 0).testBit i = true):Reach ops i j:=
  masksGo_spec ops.toList [] [] (by simp) rfl (by intro j i h; simp at h) j i h

def dstIs (ops:Array Oper) (i t:Nat):Bool:=match (ops[i]?).bind (·.dst) with
  | some d => Nat.beq d t
  | none => false
def namesOf (ops:Array Oper) (j:Nat):List Tmp:=match ops[j]? with
  | some o => o.dst.toList ++ o.looksAt ops
  | none => []

def okDraw (ops:Array Oper):Bool:=
  ((List.range ops.size).all fun j => match ops[j]? with
    | some o => o.after.toList.all fun e => !bindsAny e || Nat.blt e.on j
    | none => true) &&
  (let M:=masks ops
   (List.range ops.size).all fun j => (namesOf ops j).all fun t => (List.range ops.size).all fun i =>
    Nat.beq i j || (!dstIs ops i t || cond (Nat.blt i j) ((M.getD j 0).testBit i) ((M.getD i 0).testBit j)))

structure DrawOk (ops:Array Oper):Prop where
  back:∀ j o,ops[j]? = some o → ∀ e ∈ o.after.toList,bindsAny e = true → e.on < j
  names:∀ j,j < ops.size → ∀ t ∈ namesOf ops j,∀ i,i < ops.size → i ≠ j → dstIs ops i t = true → (i < j → Reach ops i j) ∧ (j < i → Reach ops j i)

theorem drawOk_of {ops:Array Oper} (h:okDraw ops = true):DrawOk ops:=by
  unfold okDraw at h;rw [Bool.and_eq_true,List.all_eq_true,List.all_eq_true] at h;obtain ⟨h1,h2⟩:=h;refine ⟨fun j o ho e he hb => ?_,fun j hj t ht i hi hne hd => ?_⟩
  · have hj:j < ops.size:=(Array.getElem?_eq_some_iff.1 ho).1;have:=h1 j (List.mem_range.2 hj);rw [ho] at this;simp only [List.all_eq_true] at this;have:=this e he;rw [hb] at this;simp only [Bool.not_true,Bool.false_or] at this;exact Nat.le_of_ble_eq_true this
  · have:=h2 j (List.mem_range.2 hj);simp only [List.all_eq_true] at this;have:=this t ht i (List.mem_range.2 hi);rw [Trie.beq_ff hne,hd] at this;simp only [Bool.not_true,Bool.false_or] at this;refine ⟨fun hlt => ?_,fun hlt => ?_⟩
    · rw [show Nat.blt i j = true from Nat.ble_eq_true_of_le hlt,cond_true] at this
      exact masks_spec this
    · have hbf:Nat.blt i j = false:=by
        cases hb:Nat.blt i j with
        | false => rfl
        | true => have:=Nat.le_of_ble_eq_true hb; omega
      rw [hbf,cond_false] at this;exact masks_spec this

def freeOp:Op → Bool
  | .alloc _ | .box _ _ | .buildSlice _ _ _ | .load _ _ | .store _ _ _ | .makeSlice _ _ _ | .slice _ _ _ _ _ | .call _ | .select _ _ | .defer _
  | .makeMap _ _ | .lookup _ _ _ _ | .mapUpdate _ _ _ _ | .insert _ _ _ _ | .mapEntry _ _ _ | .entryStore _ _ _ _ | .range _ _ | .next _ _ | .entry _ | .convert _ _ _ => false
  | _ => true
def freeAt (ops:Array Oper) (k:Nat):Bool:=match ops[k]? with
  | some o => freeOp o.op
  | none => false

def HFree (F:Heap → Option AStep):Prop:=∀ H s,F H = some s → ∃ v,s = .val v H ∧ ∀ H',F H' = some (.val v H')
theorem HFree.valH (x:Option Value):HFree fun H => valH H x:=fun H s h => by
  cases x with
  | none => cases h
  | some v => cases h; exact ⟨v,rfl,fun _ => rfl⟩
theorem HFree.val (v:Value):HFree fun H => some (.val v H):=fun H s h => by cases h; exact ⟨v,rfl,fun _ => rfl⟩
theorem HFree.none:HFree fun _ => Option.none:=fun H s h => by cases h
theorem HFree.aPlain {ρ:Operand → Value} {o:Oper}:HFree fun H => aPlain P ρ o H:=fun H s h => by
  simp only [AM.aPlain] at h ⊢;cases hp:allPlain ρ o.op.operands.toList with
  | false => rw [hp] at h; cases h
  | true =>
    rw [hp] at h;simp only [cond_true] at h ⊢;split at h
    · rename_i v hr;cases hv:plain v with
      | false => rw [hv] at h; cases h
      | true =>
        rw [hv] at h;cases h;exact ⟨v,rfl,fun H' => by simp only [cond_true]⟩
    · cases h
theorem HFree.orP {F G:Heap → Option AStep} (hF:HFree F) (hG:HFree G):HFree fun H => orP (F H) (G H):=fun H s h => by
  simp only [AM.orP] at h;cases hf:F H with
  | some s' =>
    rw [hf] at h; cases h;obtain ⟨v,rfl,hv⟩:=hF H _ hf;exact ⟨v,rfl,fun H' => by simp only [AM.orP,hv H']⟩
  | none =>
    rw [hf] at h;obtain ⟨v,rfl,hv⟩:=hG H _ h;refine ⟨v,rfl,fun H' => ?_⟩
    cases hf':F H' with
    | some s' =>
      obtain ⟨v',_,hv'⟩:=hF H' _ hf';rw [hv' H] at hf; cases hf
    | none => simp only [AM.orP,hf',hv H']
theorem HFree.cond {b:Bool} {F:Heap → Option AStep} (hF:HFree F):HFree fun H => cond b (F H) Option.none:=by
  cases b
  · exact HFree.none
  · exact hF

theorem aOp_free {ρ:Operand → Value} {o:Oper} (hf:freeOp o.op = true):HFree fun H => aOp P ρ o H:=by
  obtain ⟨dst,op,type,pos,after,guard⟩:=o;cases op
  case pick c a b =>
    show HFree fun H => match ρ c with
      | .bool t => some (.val (_root_.cond t (ρ a) (ρ b)) H)
      | _ => Option.none
    cases ρ c <;> first | exact HFree.val _ | exact HFree.none
  all_goals first
    | (simp [freeOp] at hf; done)
    | exact HFree.aPlain
    | exact HFree.aPlain (P:=P) (ρ:=ρ) (o:=⟨dst,_,type,pos,after,guard⟩)
    | exact HFree.val _
    | exact HFree.valH _
    | exact (HFree.valH _).orP HFree.aPlain
    | exact HFree.none
    | exact (HFree.val _).cond

theorem aOpRun_free {call:CallF} {ρ:Operand → Value} {o:Oper} (hf:freeOp o.op = true) {H H1:Heap} {v:Value} (e:aOpRun P call ρ o H = some (v,H1)) :
    H1 = H ∧ ∀ H',aOpRun P call ρ o H' = some (v,H'):=by
  unfold aOpRun at e;cases hs:aOp P ρ o H with
  | none => rw [hs] at e; cases e
  | some s =>
    obtain ⟨v',rfl,hv'⟩:=aOp_free (P:=P) (ρ:=ρ) hf H s hs;rw [hs] at e;cases e;exact ⟨rfl,fun H' => by unfold aOpRun; rw [show aOp P ρ o H' = _ from hv' H']⟩

theorem aStep_free {call:CallF} {ops:Array Oper} {o:Oper} (hf:freeOp o.op = true) {a:Act} {H H1:Heap} {v:Value} (e:aStep P call ops o a H = some (v,H1)) :
    H1 = H ∧ ∀ H',aStep P call ops o a H' = some (v,H'):=by
  unfold aStep at e ⊢;cases hw:Region.wanted o (yielded ops a.tmps) with
  | true => rw [hw,cond_true] at e; simp only [cond_true]; exact aOpRun_free hf e
  | false => rw [hw,cond_false] at e; cases e; simp only [cond_false]; exact ⟨trivial,fun _ => trivial⟩

def addrRow:Value → Option Nat
  | .pointer (some ⟨r,_,none⟩) => some r
  | _ => none
def stable (ops:Array Oper) (x:Operand) (k i:Nat):Bool:=match x with
  | .tmp t => (List.range i).all fun l => Nat.blt l k || !dstIs ops l t
  | _ => true
def otherRow (H:Heap) (r r':Option Nat):Bool:=match r,r' with
  | some r,some r' => !(Nat.beq r r') && (match H.rows.get r' with
    | some row => row.exact
    | none => false)
  | _,_ => false
def exactRow (H:Heap) (r:Option Nat):Bool:=match r with
  | some r => (match H.rows.get r with
    | some row => row.exact
    | none => false)
  | none => false
def growing (H:Heap):Value → Bool
  | .slice none _ _ => true
  | .slice (some ⟨r,_,none⟩) _ _ => (match H.rows.get r with
    | some row => !row.exact
    | none => false)
  | _ => false
def isAppend (c:Call):Bool:=match c.callee with
  | .builtin .append => true
  | _ => false
def lateOk (ops:Array Oper) (ρ:Operand → Value) (H:Heap) (k i:Nat):Bool:=match ops[k]?,ops[i]? with
  | some ok,some oi => match ok.op,ok.guard,oi.op with
    | .load _ x,none,.store _ y _ => stable ops x k i && otherRow H (addrRow (ρ x)) (addrRow (ρ y))
    | .load _ x,none,.call c => stable ops x k i && (exactRow H (addrRow (ρ x)) && (isAppend c && growing H ((argL ρ c).getD 0 undef)))
    | _,_,_ => false
  | _,_ => false

/-! Values that are the same,for the kernel. -/
mutual
def veq:Value → Value → Bool
  | .bool a,.bool b => a == b
  | .int k a,.int k' b => decide (k = k') && decide (a = b)
  | .string a,.string b => a.data.toList == b.data.toList
  | .pointer a,.pointer b => decide (a = b)
  | .slice a n c,.slice b n' c' => decide (a = b) && (Nat.beq n n' && Nat.beq c c')
  | .agg a,.agg b => veqA a b
  | .tuple a,.tuple b => veqA a b
  | .nilFunc,.nilFunc => true
  | .nilIface,.nilIface => true
  | _,_ => false
def veqA:Array Value → Array Value → Bool
  | ⟨l⟩,⟨l'⟩ => veqs l l'
def veqs:List Value → List Value → Bool
  | [],[] => true
  | x :: l,y :: l' => veq x y && veqs l l'
  | _,_ => false
end
mutual
theorem veq_eq:∀ {a b:Value},veq a b = true → a = b
  | .bool a,.bool b,h => by simp only [veq,beq_iff_eq] at h; rw [h]
  | .int k a,.int k' b,h => by simp only [veq,Bool.and_eq_true,decide_eq_true_eq] at h; rw [h.1,h.2]
  | .string ⟨⟨a⟩⟩,.string ⟨⟨b⟩⟩,h => by simp only [veq,beq_iff_eq] at h; rw [h]
  | .pointer a,.pointer b,h => by simp only [veq,decide_eq_true_eq] at h; rw [h]
  | .slice a n c,.slice b n' c',h => by
    simp only [veq,Bool.and_eq_true,decide_eq_true_eq] at h;rw [h.1,Nat.eq_of_beq_eq_true h.2.1,Nat.eq_of_beq_eq_true h.2.2]
  | .agg ⟨a⟩,.agg ⟨b⟩,h => by simp only [veq,veqA] at h; rw [veqs_eq h]
  | .tuple ⟨a⟩,.tuple ⟨b⟩,h => by simp only [veq,veqA] at h; rw [veqs_eq h]
  | .nilFunc,.nilFunc,_ => rfl
  | .nilIface,.nilIface,_ => rfl
theorem veqs_eq:∀ {l l':List Value},veqs l l' = true → l = l'
  | [],[],_ => rfl
  | x :: l,y :: l',h => by simp only [veqs,Bool.and_eq_true] at h; rw [veq_eq h.1,veqs_eq h.2]
end

def sameLoad (P:Program) (H H1:Heap) (t:TypeId) (a:Value):Bool:=match aLoad P H t a,aLoad P H1 t a with
  | some u,some v => veq u v
  | _,_ => false
def lateC (P:Program) (ops:Array Oper) (ρ:Operand → Value) (H H1:Heap) (k i:Nat):Bool:=match ops[k]? with
  | some ok => match ok.op,ok.guard with
    | .load t x,none => stable ops x k i && sameLoad P H H1 t (ρ x)
    | _,_ => false
  | _ => false
def lateB (P:Program) (ops:Array Oper) (ρ:Operand → Value) (H H1:Heap) (k i:Nat):Bool:=lateOk ops ρ H k i || lateC P ops ρ H H1 k i
theorem lateB_load {ops:Array Oper} {ρ:Operand → Value} {H H1:Heap} {k i:Nat} (h:lateB P ops ρ H H1 k i = true):∃ ok t x,ops[k]? = some ok ∧ ok.op = .load t x ∧ ok.guard = none:=by
  unfold lateB at h;rw [Bool.or_eq_true] at h;rcases h with h | h
  · unfold lateOk at h;split at h
    · rename_i ok oi hk hi;split at h
      · exact ⟨ok,_,_,hk,by assumption,by assumption⟩
      · exact ⟨ok,_,_,hk,by assumption,by assumption⟩
      · cases h
    · cases h
  · unfold lateC at h;split at h
    · rename_i ok hk;split at h
      · exact ⟨ok,_,_,hk,by assumption,by assumption⟩
      · cases h
    · cases h

def isAlloc (o:Oper):Bool:=match o.op,o.guard with
  | .alloc _,none => true
  | _,_ => false
def allocAt (ops:Array Oper) (k:Nat):Bool:=match ops[k]? with
  | some o => isAlloc o
  | none => false
theorem allocAt_inv {ops:Array Oper} {k:Nat} (h:allocAt ops k = true):∃ o t,ops[k]? = some o ∧ o.op = .alloc t ∧ o.guard = none:=by
  unfold allocAt at h;split at h
  · rename_i o ho;unfold isAlloc at h;split at h
    · exact ⟨o,_,ho,by assumption,by assumption⟩
    · cases h
  · cases h
def early (ops:Array Oper) (M:List Nat) (i e:Nat):Bool:=Nat.blt i e && (allocAt ops e && !((M.getD e 0).testBit i))
def behind (ops:Array Oper) (i:Nat):Bool:=
  let M:=masks ops
  cond ((List.range ops.size).any fun e => early ops M i e)
    ((List.range ops.size).all fun k => Nat.ble k i || ((M.getD k 0).testBit i || (allocAt ops k || (freeAt ops k && (namesOf ops k).all fun t => (List.range ops.size).all fun e => !(early ops M i e && dstIs ops e t) || Nat.beq e k))))
    ((List.range ops.size).all fun k => Nat.ble k i || (freeAt ops k || (M.getD k 0).testBit i))

theorem behind_spec {ops:Array Oper} {i:Nat} (h:behind ops i = true):∀ k,i < k → k < ops.size →
    (freeAt ops k = true ∧ ∀ t ∈ namesOf ops k,∀ e,i < e → e < ops.size → allocAt ops e = true → dstIs ops e t = true → e = k ∨ Reach ops i e) ∨ Reach ops i k ∨ allocAt ops k = true:=by
  intro k hk hn;unfold behind at h;simp only [] at h;cases ha:(List.range ops.size).any fun e => early ops (masks ops) i e with
  | true =>
    rw [ha,cond_true,List.all_eq_true] at h;have h1:=h k (List.mem_range.2 hn);simp only [Bool.or_eq_true,Bool.and_eq_true,List.all_eq_true,List.mem_range] at h1;rcases h1 with h1 | h1 | h1 | ⟨h1,h2⟩
    · have:=Nat.le_of_ble_eq_true h1; omega
    · exact .inr (.inl (masks_spec h1))
    · exact .inr (.inr h1)
    · refine .inl ⟨h1,fun t ht e hie hen hal hd => ?_⟩
      rcases h2 t ht e hen with h3 | h3
      · unfold early at h3;rw [hal,hd,show Nat.blt i e = true from Nat.ble_eq_true_of_le hie] at h3
        simp only [Bool.true_and,Bool.and_true,Bool.not_not] at h3;exact .inr (masks_spec h3)
      · exact .inl (Nat.eq_of_beq_eq_true h3)
  | false =>
    rw [ha,cond_false,List.all_eq_true] at h;have h1:=h k (List.mem_range.2 hn);simp only [Bool.or_eq_true] at h1;rcases h1 with h1 | h1 | h1
    · have:=Nat.le_of_ble_eq_true h1; omega
    · refine .inl ⟨h1,fun t ht e hie hen hal hd => ?_⟩
      have h2:¬ ((List.range ops.size).any fun e => early ops (masks ops) i e) = true:=by rw [ha]; simp
      rw [List.any_eq_true] at h2
      by_cases ht:((masks ops).getD e 0).testBit i = true
      · exact .inr (masks_spec ht)
      · refine absurd ⟨e,List.mem_range.2 hen,?_⟩ h2;unfold early;rw [hal,show Nat.blt i e = true from Nat.ble_eq_true_of_le hie]
        simpa using ht
    · exact .inr (.inl (masks_spec h1))

def barrier (P:Program) (ops:Array Oper) (ρ:Operand → Value) (H H1:Heap) (i:Nat):Bool:=
  let M:=masks ops
  ((List.range i).all fun k => freeAt ops k || ((M.getD i 0).testBit k || lateB P ops ρ H H1 k i)) && behind ops i

theorem barrier_spec {ops:Array Oper} {ρ:Operand → Value} {H H1:Heap} {i:Nat} (h:barrier P ops ρ H H1 i = true) :
    (∀ k,k < i → freeAt ops k = true ∨ Reach ops k i ∨ lateB P ops ρ H H1 k i = true) ∧ (∀ k,i < k → k < ops.size →
      (freeAt ops k = true ∧ ∀ t ∈ namesOf ops k,∀ e,i < e → e < ops.size → allocAt ops e = true → dstIs ops e t = true → e = k ∨ Reach ops i e) ∨ Reach ops i k ∨ allocAt ops k = true):=by
  unfold barrier at h;simp only [Bool.and_eq_true,List.all_eq_true,List.mem_range,Bool.or_eq_true] at h;exact ⟨fun k hk => (h.1 k hk).imp id fun h => h.imp masks_spec id,behind_spec h.2⟩

theorem aLoad_congr {H H':Heap} {t:TypeId} {a v:Value} (hc:∀ r row,addrRow a = some r → H.rows.get r = some row → H'.rows.get r = some row ∧ H'.alive r row = H.alive r row)
    (e:aLoad P H t a = some v):aLoad P H' t a = some v:=by
  unfold aLoad at e ⊢;split at e
  · rename_i r o;have hr:∀ n l,H.read r o n = some l → H'.read r o n = some l:=fun n l hl => by
      obtain ⟨row,h1,h2,h3,h4⟩:=read_inv hl;obtain ⟨h5,h6⟩:=hc r row rfl h1;unfold Heap.read at hl ⊢;rw [h1] at hl;rw [h5];simp only [h6] at hl ⊢;exact hl
    cases hi:P.info? t with
    | none => rw [hi] at e; cases e
    | some i =>
      cases hu:P.underlying t with
      | none => rw [hi,hu] at e; cases e
      | some d =>
        rw [hi,hu] at e;simp only [] at e ⊢;cases hd:isAggD d with
        | true =>
          rw [hd,cond_true,Option.map_eq_some_iff] at e;obtain ⟨l,h1,h2⟩:=e;rw [cond_true,hr _ _ h1,Option.map_some,h2]
        | false =>
          rw [hd,cond_false,Option.bind_eq_some_iff] at e;obtain ⟨l,h1,h2⟩:=e;rw [cond_false,hr _ _ h1,Option.bind_some,h2]
  · cases e

theorem aOpRun_load {call:CallF} {ρ:Operand → Value} {o:Oper} {t:TypeId} {x:Operand} (ho:o.op = .load t x) {H:Heap}:aOpRun P call ρ o H = (aLoad P H t (ρ x)).map fun v => (v,H):=by
  obtain ⟨dst,op,type,pos,after,guard⟩:=o;cases ho
  show (match valH H (aLoad P H t (ρ x)) with
    | some (.val v H') => some (v,H')
    | some (.enter f args) => call (.fn f) args H
    | some (.round l args) => call (.rnd l) args H
    | none => none) = _
  cases aLoad P H t (ρ x) <;> rfl

theorem aStep_load {call:CallF} {ops:Array Oper} {o:Oper} {t:TypeId} {x:Operand} (ho:o.op = .load t x) (hg:o.guard = none) {a:Act} {H:Heap} :
    aStep P call ops o a H = (aLoad P H t (a.eval x)).map fun v => (v,H):=by
  unfold aStep;rw [show Region.wanted o (yielded ops a.tmps) = true from by unfold Region.wanted; rw [hg]]
  exact aOpRun_load ho

/-! The region,in the order of the text. -/

def Heap.relow (H:Heap) (l:Nat):Heap:={ H with low:=l }

def aDraw (P:Program) (call:CallF) (ops:Array Oper):Nat → Nat → Act → Heap → Option (Act × Heap)
  | 0,_,a,H => some (a,H)
  | k + 1,i,a,H => match ops[i]? with
    | none => none
    | some o => match aStep P call ops o a (H.relow H.size) with
      | none => none
      | some (v,H1) => cond (Nat.ble H.size H1.low || barrier P ops a.eval H H1 i) (aDraw P call ops k (i + 1) (a.put o.dst v) (H1.relow (Nat.min H.low H1.low))) none

structure Trace (P:Program) (call:CallF) (ops:Array Oper) (i0 n:Nat) (as:Nat → Act) (hs h1:Nat → Heap) (vs:Nat → Value):Prop where
  step:∀ i,i0 ≤ i → i < n → ∃ o,ops[i]? = some o ∧ aStep P call ops o (as i) ((hs i).relow (hs i).size) = some (vs i,h1 i) ∧ as (i + 1) = (as i).put o.dst (vs i) ∧
    hs (i + 1) = (h1 i).relow (Nat.min (hs i).low (h1 i).low) ∧ ((hs i).size ≤ (h1 i).low ∨ barrier P ops (as i).eval (hs i) (h1 i) i = true)

theorem aDraw_trace {call:CallF} {ops:Array Oper}:∀ (k i:Nat) {a a':Act} {H H':Heap},aDraw P call ops k i a H = some (a',H') →
    ∃ as hs h1 vs,Trace P call ops i (i + k) as hs h1 vs ∧ as i = a ∧ hs i = H ∧ as (i + k) = a' ∧ hs (i + k) = H'
  | 0,i,a,a',H,H',e => by
    cases e;exact ⟨fun _ => a,fun _ => H,fun _ => H,fun _ => undef,⟨fun j h1 h2 => by omega⟩,rfl,rfl,rfl,rfl⟩
  | k + 1,i,a,a',H,H',e => by
    unfold aDraw at e;split at e
    · cases e
    · rename_i o ho;split at e
      · cases e
      · rename_i v H1 hst;obtain ⟨hb,e⟩:=Zaaw e;rw [Bool.or_eq_true] at hb;obtain ⟨as,hs,h1,vs,ht,e1,e2,e3,e4⟩:=aDraw_trace k (i + 1) e;refine ⟨fun j => if j = i then a else as j,fun j => if j = i then H else hs j,fun j => if j = i then H1 else h1 j,fun j => if j = i then v else vs j,⟨fun j hj hjn => ?_⟩,by simp,by simp,?_,?_⟩
        · by_cases hji:j = i
          · subst hji;refine ⟨o,ho,by simpa using hst,?_,?_,?_⟩
            · simp [e1]
            · simp [e2]
            · simpa using hb.imp Nat.le_of_ble_eq_true id
          · obtain ⟨o',h⟩:=ht.step j (by omega) (by omega)
            refine ⟨o',?_⟩
            simpa [hji,show j + 1 ≠ i by omega] using h
        · simp only [show i + (k + 1) ≠ i by omega,if_false]; rw [← e3]; congr 1; omega
        · simp only [show i + (k + 1) ≠ i by omega,if_false]; rw [← e4]; congr 1; omega

theorem HInv.relow {H:Heap} (h:HInv H) (l:Nat):HInv (H.relow l):=h

def Same (N:Nat) (H H':Heap):Prop:=∀ r,r < N → H'.rows.get r = H.rows.get r ∧ ∀ row,H.rows.get r = some row → H'.alive r row = H.alive r row
theorem Same.refl (N:Nat) (H:Heap):Same N H H:=fun _ _ => ⟨rfl,fun _ _ => rfl⟩
theorem Same.trans {N N':Nat} {A B C:Heap} (h:Same N A B) (k:Same N' B C) (hN:N ≤ N'):Same N A C:=fun r hr => by
  obtain ⟨e1,a1⟩:=h r hr;obtain ⟨e2,a2⟩:=k r (by omega)
  exact ⟨e2.trans e1,fun row hrow => (a2 row (e1.trans hrow)).trans (a1 row hrow)⟩

def Map.lt (m:Map) (N:Nat):Map:=fun r => if r < N then m r else none
theorem Map.lt_le (m:Map) (N:Nat):(m.lt N).le m:=fun r rm h => by
  unfold Map.lt at h; split at h
  · exact h
  · cases h
theorem Map.lt_mono {m m':Map} {N N':Nat} (h:m.le m') (hN:N ≤ N'):(m.lt N).le (m'.lt N'):=fun r rm e => by
  unfold Map.lt at *;split at e
  · rw [if_pos (by omega)]; exact h r rm e
  · cases e
theorem Map.lt_some {m:Map} {N r:Nat} {rm:RowMap} (h:m.lt N r = some rm):r < N ∧ m r = some rm:=by
  unfold Map.lt at h; split at h
  · rename_i hr; exact ⟨hr,h⟩
  · cases h
theorem Map.lt_of {m:Map} {N r:Nat} {rm:RowMap} (hr:r < N) (h:m r = some rm):m.lt N r = some rm:=by unfold Map.lt; rw [if_pos hr]; exact h

theorem HR.swap {H':Heap} (h:HR n0 m H w) (hi:HInv H') (hd:∀ r rm,m r = some rm → r < H'.size ∧ (∀ row,H.rows.get r = some row → H'.rows.get r = some row ∧ H'.alive r row = H.alive r row)):HR n0 m H' w where
  base:=h.base
  row:=fun r rm hm => by
    obtain ⟨row,hr,hlt,hf⟩:=h.row r rm hm;obtain ⟨h1,h2⟩:=hd r rm hm;obtain ⟨h3,h4⟩:=h2 row hr;exact ⟨row,h3,h1,by rw [h4]; exact hf⟩
  apart:=fun r r' rm rm' x x' hm hm' hx hx' hb => by
    obtain ⟨y,hy,_,_⟩:=h.row r rm hm;obtain ⟨y',hy',_,_⟩:=h.row r' rm' hm';have e1:=((hd r rm hm).2 y hy).1;have e2:=((hd r' rm' hm').2 y' hy').1;rw [hx] at e1; cases e1;rw [hx'] at e2; cases e2;exact h.apart r r' rm rm' x x' hm hm' hy hy' hb
  inv:=hi

theorem Map.lt_eq {m:Map} {N:Nat} (h:∀ r rm,m r = some rm → r < N):m.lt N = m:=by
  funext r
  unfold Map.lt;split
  · rfl
  · rename_i hr;cases e:m r with
    | none => rfl
    | some rm => exact absurd (h r rm e) hr

theorem HR.world {w':World} (h:HR n0 m H w) (hb:∀ b,b < w.heap.size → w'.heap[b]? = w.heap[b]?) (hs:w.heap.size ≤ w'.heap.size):HR n0 m H w' where
  base:=Nat.le_trans h.base hs
  row:=fun r rm hm => by
    obtain ⟨row,h1,h2,hf⟩:=h.row r rm hm;exact ⟨row,h1,h2,hf.later (Map.le_refl _) (hb _ hf.lt) id⟩
  apart:=h.apart
  inv:=h.inv

theorem HR.merge {ma mb mm:Map} {B:Nat} (ha:HR n0 ma H w) (hb:HR n0 mb H w) (hma:ma.le mm) (hmb:mb.le mm) (hmm:∀ r rm,mm r = some rm → ma r = some rm ∨ (mb r = some rm ∧ rm.ro = false ∧ B ≤ rm.blk))
    (hB:∀ r rm,ma r = some rm → rm.blk < B):HR n0 mm H w where
  base:=ha.base
  row:=fun r rm hm => by
    rcases hmm r rm hm with h | ⟨h,_,_⟩
    · obtain ⟨row,h1,h2,hf⟩:=ha.row r rm h;exact ⟨row,h1,h2,hf.later hma rfl id⟩
    · obtain ⟨row,h1,h2,hf⟩:=hb.row r rm h;exact ⟨row,h1,h2,hf.later hmb rfl id⟩
  apart:=fun r r' rm rm' x x' hm hm' hx hx' he => by
    rcases hmm r rm hm with h | ⟨h,_,hl⟩ <;> rcases hmm r' rm' hm' with h' | ⟨h',_,hl'⟩
    · exact ha.apart r r' rm rm' x x' h h' hx hx' he
    · have:=hB r rm h; omega
    · have:=hB r' rm' h'; omega
    · exact hb.apart r r' rm rm' x x' h h' hx hx' he
  inv:=ha.inv

section draw
variable {G:Nat} {call:CallF} {ops:Array Oper} {as:Nat → Act} {hs h1:Nat → Heap} {vs:Nat → Value}

structure Setting (P:Program) (G:Nat) (call:CallF) (ops:Array Oper) (as:Nat → Act) (hs h1:Nat → Heap) (vs:Nat → Value):Prop where
  ht:Trace P call ops 0 ops.size as hs h1 vs
  hd:DrawOk ops
  hc:CallOk P G call
  hi:HInv (hs 0)
  hok:okOpers G ops.toList = true

def nt (hs h1:Nat → Heap) (i:Nat):Prop:=(hs i).size ≤ (h1 i).low

theorem Setting.inv (T:Setting P G call ops as hs h1 vs):∀ i,i ≤ ops.size → HInv (hs i):=by
  intro i
  induction i with
  | zero => intro _; exact T.hi
  | succ i ih =>
    intro hi;obtain ⟨o,_,hst,_,e,_⟩:=T.ht.step i (Nat.zero_le _) (by omega)
    rw [e];exact (aStep_go T.hc ((ih (by omega)).relow _) hst).2

theorem Setting.hf (T:Setting P G call ops as hs h1 vs) (i:Nat) (hi:i < ops.size):HF ((hs i).relow (hs i).size) (h1 i):=by
  obtain ⟨o,_,hst,_⟩:=T.ht.step i (Nat.zero_le _) hi;exact (aStep_go T.hc ((T.inv i (by omega)).relow _) hst).1

theorem Setting.size1 (T:Setting P G call ops as hs h1 vs) (i:Nat) (hi:i < ops.size):(hs (i + 1)).size = (h1 i).size:=by
  obtain ⟨o,_,_,_,e,_⟩:=T.ht.step i (Nat.zero_le _) hi;rw [e]; rfl

theorem Setting.sizes (T:Setting P G call ops as hs h1 vs):∀ i k,i ≤ k → k ≤ ops.size → (hs i).size ≤ (hs k).size:=by
  intro i k hik
  induction k with
  | zero => intro _; rw [Nat.le_zero.1 hik]; exact Nat.le_refl _
  | succ k ih =>
    intro hk
    by_cases h:i = k + 1
    · rw [h]; exact Nat.le_refl _
    · refine Nat.le_trans (ih (by omega) (by omega)) ?_
      rw [T.size1 k (by omega)]
      exact (T.hf k (by omega)).size

theorem Setting.free (T:Setting P G call ops as hs h1 vs) {j:Nat} (hj:j < ops.size) (hf:freeAt ops j = true) {o:Oper} (ho:ops[j]? = some o) :
    h1 j = (hs j).relow (hs j).size ∧ ∀ H',aStep P call ops o (as j) H' = some (vs j,H'):=by
  obtain ⟨o',ho',hst,_⟩:=T.ht.step j (Nat.zero_le _) hj;rw [ho] at ho'; cases ho';unfold freeAt at hf;rw [ho] at hf;exact aStep_free hf hst

def LateAt (P:Program) (ops:Array Oper) (as:Nat → Act) (vs:Nat → Value) (k:Nat) (H:Heap):Prop:=
  ∃ o t x,ops[k]? = some o ∧ o.op = .load t x ∧ o.guard = none ∧ aLoad P H t ((as k).eval x) = some (vs k)

theorem LateAt.step {k:Nat} {H:Heap} (h:LateAt P ops as vs k H) {o:Oper} (ho:ops[k]? = some o) (l:Nat):aStep P call ops o (as k) (H.relow l) = some (vs k,H.relow l):=by
  obtain ⟨o',t,x,ho',hop,hg,hl⟩:=h;rw [ho] at ho'; cases ho';rw [aStep_load hop hg,show aLoad P (H.relow l) t ((as k).eval x) = some (vs k) from hl]
  rfl

theorem LateAt.same {k:Nat} {H H':Heap} (h:LateAt P ops as vs k H) (hi:HInv H) (hs:Same H.size H H'):LateAt P ops as vs k H':=by
  obtain ⟨o,t,x,ho,hop,hg,hl⟩:=h;refine ⟨o,t,x,ho,hop,hg,aLoad_congr (fun r row _ hrow => ?_) hl⟩
  obtain ⟨h1,h2⟩:=hs r (hi r row hrow).2;exact ⟨h1.trans hrow,h2 row hrow⟩

theorem Setting.low1 (T:Setting P G call ops as hs h1 vs) (i:Nat) (hi:i < ops.size):(hs (i + 1)).low ≤ (hs i).low ∧ (hs (i + 1)).low ≤ (h1 i).low:=by
  obtain ⟨o,_,_,_,e,_⟩:=T.ht.step i (Nat.zero_le _) hi;rw [e];exact ⟨Nat.min_le_left _ _,Nat.min_le_right _ _⟩

theorem Setting.lows (T:Setting P G call ops as hs h1 vs):∀ i k,i ≤ k → k ≤ ops.size → (hs k).low ≤ (hs i).low:=by
  intro i k hik
  induction k with
  | zero => intro _; rw [Nat.le_zero.1 hik]; exact Nat.le_refl _
  | succ k ih =>
    intro hk
    by_cases h:i = k + 1
    · rw [h]; exact Nat.le_refl _
    · exact Nat.le_trans (T.low1 k (by omega)).1 (ih (by omega) (by omega))

theorem Setting.same (T:Setting P G call ops as hs h1 vs):∀ i k,i ≤ k → k ≤ ops.size → (∀ l,i ≤ l → l < k → nt hs h1 l) → Same (hs i).size (hs i) (hs k):=by
  intro i k hik
  induction k with
  | zero => intro _ _; rw [Nat.le_zero.1 hik]; exact Same.refl _ _
  | succ k ih =>
    intro hk hnt
    by_cases h:i = k + 1
    · rw [h]; exact Same.refl _ _
    · refine (ih (by omega) (by omega) fun l a b => hnt l a (by omega)).trans (N':=(hs k).size) ?_ (T.sizes i k (by omega) (by omega))
      intro r hr;obtain ⟨o,_,_,_,e,_⟩:=T.ht.step k (Nat.zero_le _) (by omega)
      have hn:=hnt k (by omega) (by omega)
      obtain ⟨e1,e2⟩:=(T.hf k (by omega)).keep r hr (Nat.lt_of_lt_of_le hr hn)
      rw [e];exact ⟨e1,e2⟩

theorem Setting.asSize (T:Setting P G call ops as hs h1 vs):∀ i,i ≤ ops.size → (as i).tmps.size = (as 0).tmps.size:=by
  intro i
  induction i with
  | zero => intro _; rfl
  | succ i ih =>
    intro hi;obtain ⟨o,_,_,e,_⟩:=T.ht.step i (Nat.zero_le _) (by omega)
    rw [e,put_size,ih (by omega)]

theorem dstIs_of {i t:Nat} {o:Oper} (ho:ops[i]? = some o):dstIs ops i t = true ↔ o.dst = some t:=by
  unfold dstIs;rw [ho];cases h:o.dst with
  | none => simp [h]
  | some d =>
    simp only [Option.bind_some,h,Option.some.injEq];exact ⟨fun e => Nat.eq_of_beq_eq_true e,fun e => Trie.beq_tt e⟩

theorem Setting.asKeep (T:Setting P G call ops as hs h1 vs) (t:Nat):∀ i k,i ≤ k → k ≤ ops.size → (∀ l,i ≤ l → l < k → dstIs ops l t = false) → (as k).tmps.getD t undef = (as i).tmps.getD t undef:=by
  intro i k hik
  induction k with
  | zero => intro _ _; rw [Nat.le_zero.1 hik]
  | succ k ih =>
    intro hk hn
    by_cases h:i = k + 1
    · rw [h]
    · obtain ⟨o,ho,_,e,_⟩:=T.ht.step k (Nat.zero_le _) (by omega)
      rw [e,put_getD,if_neg,ih (by omega) (by omega) fun l a b => hn l a (by omega)]
      rintro ⟨hd,_⟩;have:=hn k (by omega) (by omega)
      rw [(dstIs_of ho).2 hd] at this;cases this

theorem aAppend_exact {H H':Heap} {ts:Array TypeId} {s x v:Value} (e:aAppend P H ts s x = some (v,H')) (hg:growing H s = true) {r:Nat} {row:Row} (hrow:H.rows.get r = some row) (hlt:r < H.size) (hex:row.exact = true) :
    H'.rows.get r = some row ∧ H'.alive r row = H.alive r row:=by
  refine ⟨?_,by unfold Heap.alive; rw [hex]; rfl⟩
  have hadd:∀ x:Row,(H.add x).rows.get r = some row:=fun x => by rw [Heap.add_get,if_neg (by omega)]; exact hrow
  unfold aAppend at e;split at e
  · split at e
    · split at e
      · split at e
        · obtain ⟨_,e⟩:=Zaaw e;split at e
          · obtain ⟨_,e⟩:=Zaaw e;rcases cond_or e with e | e
            · cases e; exact hrow
            · cases e; exact hadd _
          · rename_i r' o sl sc _;obtain ⟨_,e⟩:=Zaaw e;unfold aAppendSome at e;split at e
            · rename_i row' hrow';have hne:row'.exact = false:=by
                unfold growing at hg;simp only [] at hg;rw [hrow'] at hg
                simpa using hg
              have hrr:r ≠ r':=fun h => by subst h; rw [hrow] at hrow'; cases hrow'; rw [hex] at hne; cases hne
              rcases cond_or e with e | e
              · obtain ⟨_,e⟩:=Zaaw e;cases e; exact hrow
              · rcases cond_or e with e | e
                · obtain ⟨_,e⟩:=Zaaw e;cases e;rw [Heap.store_get,if_neg hrr]; exact hrow
                · rw [hne,cond_false] at e;obtain ⟨_,e⟩:=Zaaw e;cases e;rw [Heap.grow_rows,Trie.get_put,if_neg (by omega)]; exact hrow
            · cases e
          · cases e
        · cases e
      · cases e
    · cases e
  · cases e

theorem aAppendZ_exact {H H':Heap} {ts:Array TypeId} {s x v:Value} (e:aAppendZ P H ts s x = some (v,H')) {r:Nat} {row:Row} (hrow:H.rows.get r = some row) (hlt:r < H.size) (hex:row.exact = true) :
    H'.rows.get r = some row ∧ H'.alive r row = H.alive r row:=by
  refine ⟨?_,by unfold Heap.alive; rw [hex]; rfl⟩
  unfold aAppendZ at e;split at e
  case h_2 => cases e
  split at e
  case h_2 => cases e
  split at e
  case h_2 => cases e
  split at e
  case h_2 => cases e
  split at e
  case isFalse => cases e
  obtain ⟨_,e⟩:=Zaaw e;rcases cond_or e with e | e
  · cases e; exact hrow
  · cases e;rw [Heap.add_get,if_neg (by omega)]; exact hrow

theorem Setting.late0 (T:Setting P G call ops as hs h1 vs) {k j:Nat} (hkj:k < j) (hj:j < ops.size) (hlt:lateOk ops (as j).eval (hs j) k j = true)
    (h:LateAt P ops as vs k (hs j)):LateAt P ops as vs k (hs (j + 1)):=by
  obtain ⟨o,t,x,ho,hop,hg,hl⟩:=h;obtain ⟨oj,hoj,hst,_,hhs,_⟩:=T.ht.step j (Nat.zero_le _) hj;unfold lateOk at hlt;rw [ho,hoj] at hlt;simp only [hop,hg] at hlt;split at hlt
  · rename_i t0 x0 t' y v' he1 _ hjop;cases he1;rw [Bool.and_eq_true] at hlt;obtain ⟨hstb,hoth⟩:=hlt;have hev:(as j).eval x = (as k).eval x:=by
      cases x with
      | tmp u =>
        refine T.asKeep u k j (by omega) (by omega) fun l h1 h2 => ?_
        unfold stable at hstb;simp only [List.all_eq_true,List.mem_range,Bool.or_eq_true] at hstb;rcases hstb l h2 with h3 | h3
        · have:=Nat.le_of_ble_eq_true h3; omega
        · simpa using h3
      | _ => rfl
    rw [hev] at hoth;refine ⟨o,t,x,ho,hop,hg,?_⟩;unfold otherRow at hoth;split at hoth
    · rename_i r r' hr hr';rw [Bool.and_eq_true] at hoth;obtain ⟨hne,hex⟩:=hoth;have hne:r ≠ r':=fun e => by rw [Trie.beq_tt e] at hne; cases hne
      cases hrow':(hs j).rows.get r' with
      | none => rw [hrow'] at hex; cases hex
      | some row' =>
        rw [hrow'] at hex;have hex:row'.exact = true:=hex;refine aLoad_congr (fun r2 row hr2 hrow => ?_) hl
        rw [hr] at hr2; cases hr2;rw [hhs];show (h1 j).rows.get r = some row ∧ (h1 j).alive r row = (hs j).alive r row;unfold aStep at hst;rcases cond_or hst with hst | hst
        · unfold aOpRun aOp at hst;rw [hjop] at hst;simp only [] at hst;cases ha:aStore P ((hs j).relow (hs j).size) t' ((as j).eval y) ((as j).eval v') with
          | none => rw [ha] at hst; cases hst
          | some H' =>
            rw [ha] at hst;have hh:H' = h1 j:=congrArg Prod.snd (Option.some.inj hst);rw [← hh];clear hst hh;unfold aStore at ha;split at ha
            · rename_i b o2 hab;rw [hab] at hr';cases hr';split at ha
              · rename_i i row2 hi2 hrow2;have hrow2:(hs j).rows.get r' = some row2:=hrow2;rw [hrow'] at hrow2; cases hrow2;obtain ⟨_,ha⟩:=Zaaw ha;cases ha;refine ⟨?_,?_⟩
                · rw [Heap.store_get,if_neg hne]; exact hrow
                · unfold Heap.alive;cases row.loop with
                  | some _ => rfl
                  | none =>
                    simp only [];rw [Heap.store_eq];simp only [hex,cond_true];rfl
              · cases ha
            · cases ha
        · have hh:(hs j).relow (hs j).size = h1 j:=congrArg Prod.snd (Option.some.inj hst);rw [← hh];exact ⟨hrow,rfl⟩
    · cases hoth
  · rename_i t0 x0 c he1 _ hjop;cases he1;rw [Bool.and_eq_true,Bool.and_eq_true,Bool.and_eq_true] at hlt;obtain ⟨hstb,hexr,hisA,hgrw⟩:=hlt;have hev:(as j).eval x = (as k).eval x:=by
      cases x with
      | tmp u =>
        refine T.asKeep u k j (by omega) (by omega) fun l h1 h2 => ?_
        unfold stable at hstb;simp only [List.all_eq_true,List.mem_range,Bool.or_eq_true] at hstb;rcases hstb l h2 with h3 | h3
        · have:=Nat.le_of_ble_eq_true h3; omega
        · simpa using h3
      | _ => rfl
    rw [hev] at hexr;refine ⟨o,t,x,ho,hop,hg,?_⟩;refine aLoad_congr (fun r2 row hr2 hrow => ?_) hl
    have hlt2:r2 < (hs j).size:=(T.inv j (by omega) r2 row hrow).2
    have hex:row.exact = true:=by
      unfold exactRow at hexr;rw [hr2] at hexr;simp only [] at hexr;rw [hrow] at hexr;exact hexr
    rw [hhs];show (h1 j).rows.get r2 = some row ∧ (h1 j).alive r2 row = (hs j).alive r2 row;unfold aStep at hst;rcases cond_or hst with hst | hst
    · unfold aOpRun aOp at hst;rw [hjop] at hst;simp only [] at hst;unfold aCall at hst;unfold isAppend at hisA;split at hisA
      · rename_i hcal;rw [hcal] at hst;simp only [] at hst;have hgo:∀ s y:Value,argL (as j).eval c = [s,y] → (h1 j).rows.get r2 = some row ∧ (h1 j).alive r2 row = (hs j).alive r2 row:=fun s y hargs => by
          rw [hargs] at hst hgrw;simp only [] at hst;cases ha:aAppend P ((hs j).relow (hs j).size) c.argTypes s y with
          | none =>
            rw [ha] at hst;cases haz:aAppendZ P ((hs j).relow (hs j).size) c.argTypes s y with
            | none => rw [haz] at hst; cases hst
            | some vh =>
              obtain ⟨va,Ha⟩:=vh;rw [haz] at hst;have hh:Ha = h1 j:=congrArg Prod.snd (Option.some.inj hst);rw [← hh];exact aAppendZ_exact (H:=(hs j).relow (hs j).size) haz hrow hlt2 hex
          | some vh =>
            obtain ⟨va,Ha⟩:=vh;rw [ha] at hst;have hh:Ha = h1 j:=congrArg Prod.snd (Option.some.inj hst);rw [← hh];exact aAppend_exact (H:=(hs j).relow (hs j).size) ha hgrw hrow hlt2 hex
        have hpl:∀ s,aPlain P (as j).eval oj ((hs j).relow (hs j).size) = some s → (match some s with
            | some (.val v H') => some (v,H')
            | some (.enter f args) => call (.fn f) args ((hs j).relow (hs j).size)
            | some (.round l args) => call (.rnd l) args ((hs j).relow (hs j).size)
            | none => none) = some (vs j,h1 j) → (h1 j).rows.get r2 = some row ∧ (h1 j).alive r2 row = (hs j).alive r2 row:=fun s hs' he => by
          obtain ⟨v,rfl,_⟩:=HFree.aPlain (P:=P) (ρ:=(as j).eval) (o:=oj) _ _ hs';have hh:(hs j).relow (hs j).size = h1 j:=congrArg Prod.snd (Option.some.inj he);rw [← hh];exact ⟨hrow,rfl⟩
        match hargs:argL (as j).eval c with
        | [s,y] => exact hgo s y hargs
        | [] =>
          rw [hargs] at hst;simp only [] at hst;cases hap:aPlain P (as j).eval oj ((hs j).relow (hs j).size) with
          | none => rw [hap] at hst; cases hst
          | some s => rw [hap] at hst; exact hpl s hap hst
        | [_] =>
          rw [hargs] at hst;simp only [] at hst;cases hap:aPlain P (as j).eval oj ((hs j).relow (hs j).size) with
          | none => rw [hap] at hst; cases hst
          | some s => rw [hap] at hst; exact hpl s hap hst
        | _ :: _ :: _ :: _ =>
          rw [hargs] at hst;simp only [] at hst;cases hap:aPlain P (as j).eval oj ((hs j).relow (hs j).size) with
          | none => rw [hap] at hst; cases hst
          | some s => rw [hap] at hst; exact hpl s hap hst
      · cases hisA
    · have hh:(hs j).relow (hs j).size = h1 j:=congrArg Prod.snd (Option.some.inj hst);rw [← hh];exact ⟨hrow,rfl⟩
  · cases hlt

theorem Setting.late (T:Setting P G call ops as hs h1 vs) {k j:Nat} (hkj:k < j) (hj:j < ops.size) (hlt:lateB P ops (as j).eval (hs j) (h1 j) k j = true)
    (h:LateAt P ops as vs k (hs j)):LateAt P ops as vs k (hs (j + 1)):=by
  unfold lateB at hlt;rw [Bool.or_eq_true] at hlt;rcases hlt with hlt | hlt
  · exact T.late0 hkj hj hlt h
  · obtain ⟨o,t,x,ho,hop,hg,hl⟩:=h;obtain ⟨oj,hoj,hst,_,hhs,_⟩:=T.ht.step j (Nat.zero_le _) hj;unfold lateC at hlt;rw [ho] at hlt;simp only [hop,hg] at hlt;rw [Bool.and_eq_true] at hlt;obtain ⟨hstb,hsame⟩:=hlt;have hev:(as j).eval x = (as k).eval x:=by
      cases x with
      | tmp u =>
        refine T.asKeep u k j (by omega) (by omega) fun l h1 h2 => ?_
        unfold stable at hstb;simp only [List.all_eq_true,List.mem_range,Bool.or_eq_true] at hstb;rcases hstb l h2 with h3 | h3
        · have:=Nat.le_of_ble_eq_true h3; omega
        · simpa using h3
      | _ => rfl
    refine ⟨o,t,x,ho,hop,hg,?_⟩;rw [hhs];show aLoad P (h1 j) t ((as k).eval x) = some (vs k);rw [hev] at hsame;unfold sameLoad at hsame;rw [hl] at hsame;split at hsame
    · rename_i u v hu hv;cases hu;rw [hv,veq_eq hsame]
    · cases hsame

theorem nt_first (n:Nat):∀ d p,p + d = n → ∃ q,p ≤ q ∧ q ≤ n ∧ (∀ i,p ≤ i → i < q → nt hs h1 i) ∧ (q < n → ¬ nt hs h1 q)
  | 0,p,h => ⟨p,Nat.le_refl _,by omega,fun i a b => by omega,fun hq => by omega⟩
  | d + 1,p,h => by
    by_cases hp:nt hs h1 p
    · obtain ⟨q,h1',h2,h3,h4⟩:=nt_first n d (p + 1) (by omega)
      refine ⟨q,by omega,h2,fun i a b => ?_,h4⟩
      by_cases hi:i = p
      · rw [hi]; exact hp
      · exact h3 i (by omega) b
    · exact ⟨p,Nat.le_refl _,by omega,fun i a b => by omega,fun _ => hp⟩

end draw

end Go.AM

namespace Go.AM
open Go.RowKit (Below)

variable {P:Program} {n0:Nat} {D0:List Deferred}
variable {G:Nat} {call:CallF} {ops:Array Oper} {as:Nat → Act} {hs h1:Nat → Heap} {vs:Nat → Value}

structure Early (n0:Nat) (hs h1:Nat → Heap) (vs:Nat → Value) (w0 w:World) (m:Map) (eb:Nat → Nat) (e:Nat):Prop where
  base:n0 ≤ eb e
  old:w0.heap.size ≤ eb e
  lt:eb e < w.heap.size
  alone:∀ r rm,m r = some rm → rm.blk ≠ eb e
  cells:∃ zs t,plains zs = true ∧ h1 e = ((hs e).relow (hs e).size).newExact zs t ∧ vs e = .pointer (some ⟨(hs e).size,0,none⟩) ∧ w.heap[eb e]? = some (.cells ⟨zs⟩ t (0,0))
def IsEarly (ops:Array Oper) (L:Nat → Bool) (q e:Nat):Prop:=q < e ∧ e < ops.size ∧ allocAt ops e = true ∧ L e = true

theorem Setting.alloc (T:Setting P G call ops as hs h1 vs) {e:Nat} (he:e < ops.size) (ha:allocAt ops e = true):∃ o t zs,ops[e]? = some o ∧ o.op = .alloc t ∧ o.guard = none ∧ plains zs = true ∧ h1 e = ((hs e).relow (hs e).size).newExact zs t ∧
    vs e = .pointer (some ⟨(hs e).size,0,none⟩) ∧ as (e + 1) = (as e).put o.dst (vs e) ∧ ∀ w:World,(Instr.alloc t true (.tuple #[])).run P w = .ok (.pointer (some ⟨w.heap.size,0,none⟩)) (w.alloc (.cells ⟨zs⟩ t)):=by
  obtain ⟨o,t,ho,hop,hg⟩:=allocAt_inv ha;obtain ⟨o',ho',hst,has,_⟩:=T.ht.step e (Nat.zero_le _) he;rw [ho] at ho'; cases ho';unfold aStep at hst;rw [show Region.wanted o (yielded ops (as e).tmps) = true from by unfold Region.wanted; rw [hg],cond_true] at hst
  unfold aOpRun aOp at hst;rw [hop] at hst;simp only [] at hst;cases hal:aAlloc P ((hs e).relow (hs e).size) t with
  | none => rw [hal] at hst; cases hst
  | some x =>
    obtain ⟨v,H'⟩:=x;rw [hal] at hst;have hst:some (v,H') = some (vs e,h1 e):=hst;obtain ⟨rfl,rfl⟩:=Prod.mk.inj (Option.some.inj hst);unfold aAlloc at hal;split at hal
    case h_2 => cases hal
    rename_i z hz;simp only [Option.bind_eq_some_iff] at hz;obtain ⟨i,hi,hz⟩:=hz;obtain ⟨hp,hal⟩:=Zaaw hal;cases hx:z.cells with
    | mk zl =>
    rw [hx] at hal;obtain ⟨h2,h3⟩:=Prod.mk.inj (Option.some.inj hal);refine ⟨o,t,zl,ho,hop,hg,?_,h3.symm,h2.symm,has,fun w => ?_⟩
    · have:=plains_cells hp;rw [hx] at this;exact this
    · simp [Instr.alloc,run_zero' hi hz,newVar,newRow,hx]

theorem Setting.alloc_nt (T:Setting P G call ops as hs h1 vs) {e:Nat} (he:e < ops.size) (ha:allocAt ops e = true):nt hs h1 e ∧ (hs (e + 1)).size = (hs e).size + 1:=by
  obtain ⟨o,t,zs,_,_,_,_,h2,_⟩:=T.alloc he ha;obtain ⟨_,_,_,_,hhs,_⟩:=T.ht.step e (Nat.zero_le _) he;refine ⟨?_,?_⟩
  · unfold nt;rw [h2];unfold Heap.newExact;rw [Heap.add_low];exact Nat.le_refl _
  · rw [hhs,h2];show (Heap.newExact _ zs t).size = _;unfold Heap.newExact;rw [Heap.add_size]; rfl

structure Inv (P:Program) (n0:Nat) (D0:List Deferred) (ops:Array Oper) (as:Nat → Act) (hs h1:Nat → Heap) (vs:Nat → Value) (m0:Map) (w0:World) (L:Nat → Bool) (A:Act) (w:World) (m:Map) (p q:Nat) (eb:Nat → Nat):Prop where
  pq:p ≤ q
  qn:q ≤ ops.size
  lp:∀ i,i < p → L i = true ∨ freeAt ops i = true ∨ LateAt P ops as vs i (hs p)
  lq:∀ i,q ≤ i → i < ops.size → freeAt ops i = false → allocAt ops i = false → L i = false
  ea:∀ e,IsEarly ops L q e → Early n0 hs h1 vs w0 w m eb e
  ed:∀ e e',IsEarly ops L q e → IsEarly ops L q e' → eb e = eb e' → e = e'
  nt:∀ i,p ≤ i → i < q → nt hs h1 i
  tq:q < ops.size → ¬ AM.nt hs h1 q
  closed:∀ j,j < ops.size → L j = true → ∀ o,ops[j]? = some o → ∀ e ∈ o.after.toList,bindsAny e = true → L e.on = true
  mono:m0.le m
  below:Below n0 w0 w
  fr:∀ b,b < w0.heap.size → (∀ r rm,m0 r = some rm → rm.blk = b → rm.ro = true ∨ r < (hs q).low) → w.heap[b]? = w0.heap[b]?
  new:∀ r rm,m r = some rm → m0 r = some rm ∨ ((hs 0).size ≤ r ∧ rm.ro = false ∧ (w0.heap.size ≤ rm.blk ∨ ∃ r0 rm0,m0 r0 = some rm0 ∧ rm0.blk = rm.blk ∧ rm0.ro = false ∧ (hs q).low ≤ r0))
  hr:∀ k,p ≤ k → k ≤ q → HR n0 (m.lt (hs k).size) (hs k) w
  dom:∀ r rm,m r = some rm → r < (hs p).size ∨ ∃ j,p ≤ j ∧ j < q ∧ L j = true ∧ (hs j).size ≤ r ∧ r < (hs (j + 1)).size
  loops:∀ (b:Nat) (L:Loop),w0.heap[b]? = some (Obj.loop L) → ∃ L',w.heap[b]? = some (Obj.loop L')
  sz:A.tmps.size = (as 0).tmps.size
  D:A.defers = D0
  tm:∀ t,∃ k,k ≤ ops.size ∧ (VR (m.lt (hs (max k p)).size) ((as k).tmps.getD t undef) (A.tmps.getD t undef) ∨ ∃ e,k = e + 1 ∧ q < e ∧ e < ops.size ∧ allocAt ops e = true ∧ A.tmps.getD t undef = .pointer (some ⟨eb e,0,none⟩)) ∧ (∀ i,i < k → dstIs ops i t = true → L i = true) ∧
    (∀ i,k ≤ i → i < ops.size → dstIs ops i t = true → L i = false) ∧ (k = 0 ∨ (dstIs ops (k - 1) t = true ∧ L (k - 1) = true))

theorem reach_in {L:Nat → Bool} (hcl:∀ j,j < ops.size → L j = true → ∀ o,ops[j]? = some o → ∀ e ∈ o.after.toList,bindsAny e = true → L e.on = true) (hd:DrawOk ops)
    {i j:Nat} (h:Reach ops i j):j < ops.size → (∀ o,ops[j]? = some o → ∀ e ∈ o.after.toList,bindsAny e = true → L e.on = true) → L i = true ∧ i < j:=by
  induction h with
  | @edge j o e ho he hb => exact fun _ hj => ⟨hj o ho e he hb,hd.back j o ho e he hb⟩
  | @trans i k j _ _ ih1 ih2 =>
    intro hlt hj;obtain ⟨hk,hkj⟩:=ih2 hlt hj;obtain ⟨hi,hik⟩:=ih1 (by omega) (hcl k (by omega) hk)
    exact ⟨hi,by omega⟩

def setL (L:Nat → Bool) (j:Nat):Nat → Bool:=fun i => if i = j then true else L i

variable {m0:Map} {w0:World} {L:Nat → Bool} {A:Act} {w:World} {m:Map} {p q:Nat} {eb:Nat → Nat}

theorem Inv.turn (T:Setting P G call ops as hs h1 vs) (I:Inv P n0 D0 ops as hs h1 vs m0 w0 L A w m p q eb) (hqn:q < ops.size):L q = false:=by
  refine I.lq q (Nat.le_refl _) hqn ?_ ?_
  · cases h:freeAt ops q with
    | false => rfl
    | true =>
      exfalso;refine I.tq hqn ?_
      unfold AM.nt;rw [(T.free hqn h (Array.getElem?_eq_getElem hqn)).1];exact Nat.le_refl _
  · cases h:allocAt ops q with
    | false => rfl
    | true => exact absurd (T.alloc_nt hqn h).1 (I.tq hqn)

theorem Inv.reads (T:Setting P G call ops as hs h1 vs) (I:Inv P n0 D0 ops as hs h1 vs m0 w0 L A w m p q eb) {j:Nat} (hj:j < ops.size) (hL:L j = false)
    (hrdy:∀ o,ops[j]? = some o → ∀ e ∈ o.after.toList,bindsAny e = true → L e.on = true) (hja:j ≤ q ∨ allocAt ops j = false) {t:Nat} (ht:t ∈ namesOf ops j) :
    VR (m.lt (hs (max j p)).size) ((as j).tmps.getD t undef) (A.tmps.getD t undef):=by
  have hpn:p ≤ ops.size:=Nat.le_trans I.pq I.qn;obtain ⟨k,hkn,hv,hlo,hhi,hmin⟩:=I.tm t;have hkj:k ≤ j:=by
    rcases hmin with h0 | ⟨hd,hl⟩
    · omega
    · rcases Nat.lt_or_ge j k with hlt | hge
      · exfalso
        by_cases he:k - 1 = j
        · rw [he,hL] at hl; cases hl
        · have hr:=(T.hd.names j hj t ht (k - 1) (by omega) he hd).2 (by omega)
          have hk1:k - 1 < ops.size:=by omega
          have:=(reach_in I.closed T.hd hr hk1 (I.closed (k - 1) hk1 hl)).1;rw [hL] at this; cases this
      · exact hge
  have hkeep:=T.asKeep t k j hkj (by omega) fun l hl1 hl2 => by
    cases hdl:dstIs ops l t with
    | false => rfl
    | true =>
      have hr:=(T.hd.names j hj t ht l (by omega) (by omega) hdl).1 hl2
      have h1:=(reach_in I.closed T.hd hr hj hrdy).1;have h2:=hhi l hl1 (by omega) hdl
      rw [h1] at h2; cases h2
  rw [hkeep];rcases hv with hv | ⟨e,rfl,hqe,hen,hea,_⟩
  · exact hv.mono (Map.lt_mono (Map.le_refl _) (T.sizes (max k p) (max j p) (by omega) (by omega)))
  · exfalso;have hde:dstIs ops e t = true ∧ L e = true:=by
      rcases hmin with h0 | h0
      · omega
      · simpa using h0
    have hqn:q < ops.size:=by omega
    have hLq:=I.turn T hqn;have hqj:¬ j ≤ q:=by omega
    obtain ⟨oq,_,_,_,_,hbq⟩:=T.ht.step q (Nat.zero_le _) hqn;have hbq:=barrier_spec (hbq.resolve_left (I.tq hqn));rcases hbq.2 j (by omega) hj with ⟨_,h⟩ | h | h
    · rcases h t ht e hqe hen hea hde.1 with h | h
      · omega
      · have:=(reach_in I.closed T.hd h hen (I.closed e hen hde.2)).1;rw [hLq] at this; cases this
    · have:=(reach_in I.closed T.hd h hj hrdy).1;rw [hLq] at this; cases this
    · rw [hja.resolve_left hqj] at h; cases h

theorem Inv.tmps (T:Setting P G call ops as hs h1 vs) (I:Inv P n0 D0 ops as hs h1 vs m0 w0 L A w m p q eb) {j:Nat} (hj:j < ops.size) (hL:L j = false)
    (hrdy:∀ o,ops[j]? = some o → ∀ e ∈ o.after.toList,bindsAny e = true → L e.on = true) {o:Oper} (ho:ops[j]? = some o) {mm:Map} (hmm:m.le mm) {v':Value} {p' q':Nat} {eb':Nat → Nat} (hpp:p ≤ p') (hpn:p' ≤ ops.size)
    (hv':VR (mm.lt (hs (max (j + 1) p')).size) (vs j) v' ∨ (q' < j ∧ allocAt ops j = true ∧ v' = .pointer (some ⟨eb' j,0,none⟩)))
    (hconv:∀ e,IsEarly ops L q e → (q' < e ∧ eb' e = eb e) ∨ VR (mm.lt (hs (max (e + 1) p')).size) (vs e) (.pointer (some ⟨eb e,0,none⟩))) (t:Nat) :
    ∃ k,k ≤ ops.size ∧ (VR (mm.lt (hs (max k p')).size) ((as k).tmps.getD t undef) ((A.put o.dst v').tmps.getD t undef) ∨ ∃ e,k = e + 1 ∧ q' < e ∧ e < ops.size ∧ allocAt ops e = true ∧ (A.put o.dst v').tmps.getD t undef = .pointer (some ⟨eb' e,0,none⟩)) ∧ (∀ i,i < k → dstIs ops i t = true → setL L j i = true) ∧
    (∀ i,k ≤ i → i < ops.size → dstIs ops i t = true → setL L j i = false) ∧ (k = 0 ∨ (dstIs ops (k - 1) t = true ∧ setL L j (k - 1) = true)):=by
  obtain ⟨o',ho',_,has,_⟩:=T.ht.step j (Nat.zero_le _) hj;rw [ho] at ho'; cases ho'
  by_cases hd:o.dst = some t
  · -- written
    have hdj:dstIs ops j t = true:=(dstIs_of ho).2 hd;have hnm:t ∈ namesOf ops j:=by unfold namesOf; rw [ho]; simp [hd]
    refine ⟨j + 1,hj,?_,?_,?_,.inr ⟨hdj,by simp [setL]⟩⟩
    · rw [has,put_getD,put_getD];have hsz:(as j).tmps.size = A.tmps.size:=by rw [T.asSize j (by omega),I.sz]
      rw [hsz]
      by_cases hlt:t < A.tmps.size
      · rw [if_pos ⟨hd,hlt⟩,if_pos ⟨hd,hlt⟩];rcases hv' with h | ⟨h1,h2,h3⟩
        · exact .inl h
        · exact .inr ⟨j,rfl,h1,hj,h2,h3⟩
      · rw [if_neg (fun h => hlt h.2),if_neg (fun h => hlt h.2)]
        simp only [Array.getD_eq_getD_getElem?];rw [Array.getElem?_eq_none (by omega),Array.getElem?_eq_none (by omega)]
        exact .inl (.plain rfl)
    · intro i hi hdi;unfold setL;split
      · rfl
      · rename_i hne;have hr:=(T.hd.names j hj t hnm i (by omega) hne hdi).1 (by omega)
        exact (reach_in I.closed T.hd hr hj hrdy).1
    · intro i hi hin hdi;unfold setL;rw [if_neg (by omega)]
      cases hli:L i with
      | false => rfl
      | true =>
        have hr:=(T.hd.names j hj t hnm i hin (by omega) hdi).2 (by omega)
        have:=(reach_in I.closed T.hd hr hin (I.closed i hin hli)).1;rw [hL] at this; cases this
  · obtain ⟨k,hkn,hv,hlo,hhi,hmin⟩:=I.tm t;have hdj:dstIs ops j t = false:=by
      cases h:dstIs ops j t with
      | false => rfl
      | true => exact absurd ((dstIs_of ho).1 h) hd
    refine ⟨k,hkn,?_,?_,?_,?_⟩
    · rw [put_getD,if_neg (fun h => hd h.1)]
      rcases hv with hv | ⟨e,rfl,hqe,hen,hea,hpt⟩
      · exact .inl (hv.mono (Map.lt_mono hmm (T.sizes (max k p) (max k p') (by omega) (by omega))))
      · have hde:dstIs ops e t = true ∧ L e = true:=by
          rcases hmin with h0 | h0
          · omega
          · simpa using h0
        rcases hconv e ⟨hqe,hen,hea,hde.2⟩ with ⟨h1,h2⟩ | h1
        · exact .inr ⟨e,rfl,h1,hen,hea,by rw [hpt,h2]⟩
        · refine .inl ?_
          obtain ⟨oe,te,zs,hoe,_,_,_,_,_,hase,_⟩:=T.alloc hen hea;have hdt:=(dstIs_of hoe).1 hde.1;have hlt:t < (as e).tmps.size:=by
            rw [T.asSize e (by omega),← I.sz]
            rcases Nat.lt_or_ge t A.tmps.size with h | h
            · exact h
            · rw [Array.getD_eq_getD_getElem?,Array.getElem?_eq_none h] at hpt;cases hpt
          rw [hase,put_getD,if_pos ⟨hdt,hlt⟩,hpt];exact h1
    · intro i hi hdi;unfold setL;split
      · rfl
      · exact hlo i hi hdi
    · intro i hi hin hdi;unfold setL;split
      · rename_i he; rw [he,hdj] at hdi; cases hdi
      · exact hhi i hi hin hdi
    · rcases hmin with h0 | ⟨h1',h2⟩
      · exact .inl h0
      · refine .inr ⟨h1',?_⟩;unfold setL;split
        · rfl
        · exact h2

theorem setL_closed {j:Nat} (hcl:∀ j,j < ops.size → L j = true → ∀ o,ops[j]? = some o → ∀ e ∈ o.after.toList,bindsAny e = true → L e.on = true)
    (hrdy:∀ o,ops[j]? = some o → ∀ e ∈ o.after.toList,bindsAny e = true → L e.on = true) :
    ∀ i,i < ops.size → setL L j i = true → ∀ o,ops[i]? = some o → ∀ e ∈ o.after.toList,bindsAny e = true → setL L j e.on = true:=by
  intro i hi hl o ho e he hb;unfold setL at hl ⊢;split
  · rfl
  · split at hl
    · rename_i hij; subst hij; exact hrdy o ho e he hb
    · exact hcl i hi hl o ho e he hb

theorem free_not_alloc {j:Nat} (h:freeAt ops j = true):allocAt ops j = false:=by
  cases ha:allocAt ops j with
  | false => rfl
  | true =>
    obtain ⟨o,t,ho,hop,_⟩:=allocAt_inv ha;unfold freeAt at h;rw [ho] at h;simp only [hop,freeOp] at h;cases h
theorem Early.world {e:Nat} (E:Early n0 hs h1 vs w0 w m eb e) {w':World} (hbl:∀ b,b < w.heap.size → (∀ r rm,m r = some rm → rm.blk ≠ b) → w'.heap[b]? = w.heap[b]?) (hsz:w.heap.size ≤ w'.heap.size):Early n0 hs h1 vs w0 w' m eb e where
  base:=E.base
  old:=E.old
  lt:=Nat.lt_of_lt_of_le E.lt hsz
  alone:=E.alone
  cells:=by
    obtain ⟨zs,t,h1,h2,h3,h4⟩:=E.cells;exact ⟨zs,t,h1,h2,h3,by rw [hbl _ E.lt E.alone]; exact h4⟩
theorem Early.map {e:Nat} (E:Early n0 hs h1 vs w0 w m eb e) {m2:Map} (h:∀ r rm,m2 r = some rm → rm.blk ≠ eb e):Early n0 hs h1 vs w0 w m2 eb e:=⟨E.base,E.old,E.lt,h,E.cells⟩
theorem early_set {j e:Nat} (hne:¬ (q < j ∧ allocAt ops j = true)) (h:IsEarly ops (setL L j) q e):IsEarly ops L q e:=by
  obtain ⟨h1,h2,h3,h4⟩:=h;unfold setL at h4;split at h4
  · rename_i he; subst he; exact absurd ⟨h1,h3⟩ hne
  · exact ⟨h1,h2,h3,h4⟩

theorem Inv.step (T:Setting P G call ops as hs h1 vs) (hG:Glob m0 G) (hm0:∀ r rm,m0 r = some rm → r < (hs 0).size)
    (I:Inv P n0 D0 ops as hs h1 vs m0 w0 L A w m p q eb) {j:Nat} (hj:j < ops.size) (hL:L j = false)
    (hrdy:∀ o,ops[j]? = some o → ∀ e ∈ o.after.toList,bindsAny e = true → L e.on = true) (K:Act → World → Prop) (Q:Exit → Act → World → Prop)
    (ro:Option Nat) (hK:∀ A' w' m' p' q' eb',Inv P n0 D0 ops as hs h1 vs m0 w0 (setL L j) A' w' m' p' q' eb' → K A' w'):wpOpIn (fenceOf ro) 0 P ops Q j K A w:=by
  obtain ⟨o,ho,hst,has,hhs,hbar⟩:=T.ht.step j (Nat.zero_le _) hj;have hpn:p ≤ ops.size:=Nat.le_trans I.pq I.qn;have hok:=okOpers_mem T.hok o (by rw [Array.mem_toList_iff]; exact Array.mem_of_getElem? ho)
  have hszj:(as j).tmps.size = A.tmps.size:=by rw [T.asSize j (by omega),I.sz]
  have hDn:∀ v',(A.put o.dst v').defers = D0:=fun v' => by rw [put_defers]; exact I.D
  have hsn:∀ v',(A.put o.dst v').tmps.size = (as 0).tmps.size:=fun v' => by rw [put_size]; exact I.sz
  have hmall:∀ k,q ≤ k → k ≤ ops.size → m.lt (hs k).size = m:=fun k hk hkn => Map.lt_eq fun r rm h => by
    rcases I.dom r rm h with h2 | ⟨j',a,b,c,d,e⟩
    · exact Nat.lt_of_lt_of_le h2 (T.sizes p k (by have:=I.pq; omega) hkn)
    · exact Nat.lt_of_lt_of_le e (T.sizes (j' + 1) k (by omega) hkn)
  by_cases hearly:q < j ∧ allocAt ops j = true
  · -- an alloc ahead of its time
    obtain ⟨hqj,hal⟩:=hearly;obtain ⟨o',t,zs,ho',hop,hg,hpz,hH,hvs,_,hrun⟩:=T.alloc hj hal;rw [ho] at ho'; cases ho';have hHq:HR n0 m (hs q) w:=by
      have h0:=I.hr q I.pq (Nat.le_refl _);rwa [hmall q (Nat.le_refl _) I.qn] at h0
    have hext:=(newExact_sound hHq (VRs.of_plain (m:=m) hpz) t).1;have hbl:∀ b,b < w.heap.size → (w.alloc (.cells ⟨zs⟩ t)).heap[b]? = w.heap[b]?:=fun b hb => by
      show (w.heap.push _)[b]? = _;rw [Array.getElem?_push,if_neg (by omega)]
    have hnew:(w.alloc (.cells ⟨zs⟩ t)).heap[w.heap.size]? = some (.cells ⟨zs⟩ t (0,0)):=by
      show (w.heap.push _)[w.heap.size]? = _;rw [Array.getElem?_push,if_pos rfl]
    have hsz':(w.alloc (.cells ⟨zs⟩ t)).heap.size = w.heap.size + 1:=by
      show (w.heap.push _).size = _;rw [Array.size_push]
    have hblt:∀ r rm,m r = some rm → rm.blk < w.heap.size:=fun r rm hr => by
      obtain ⟨row,_,_,hf⟩:=hHq.row r rm hr;exact hf.lt
    unfold wpOpIn;rw [ho];show (if Region.wanted o (yielded ops A.tmps) then o.wpIn (fenceOf ro) 0 P A w K Q else _)
    rw [if_pos (show Region.wanted o (yielded ops A.tmps) = true by unfold Region.wanted; rw [hg])]
    refine ⟨fun f _ => fence_fn ro f,?_⟩
    rw [Oper.semAt_eq _ _ _ (fun c hc => by rw [hop] at hc; cases hc)]
    have hex:(execOp A.eval o).run P w = .ok (.value (.pointer (some ⟨w.heap.size,0,none⟩))) (w.alloc (.cells ⟨zs⟩ t)):=by
      unfold execOp;rw [hop];show (do pure (.value (← Instr.alloc t true (.tuple #[]))):Sem Next).run P w = _
      rw [Sem.run_bind,hrun];rfl
    rw [hex];have hold:∀ e,IsEarly ops (setL L j) q e → e ≠ j → IsEarly ops L q e:=fun e he hne => by
      obtain ⟨h1,h2,h3,h4⟩:=he;unfold setL at h4;rw [if_neg hne] at h4;exact ⟨h1,h2,h3,h4⟩
    have hejn:∀ e,IsEarly ops L q e → e ≠ j:=fun e he hc => by
      subst hc;have:=he.2.2.2;rw [hL] at this; cases this
    refine hK _ _ m p q (fun i => if i = j then w.heap.size else eb i) ⟨I.pq,I.qn,?_,?_,?_,?_,I.nt,I.tq,setL_closed I.closed hrdy,I.mono,I.below.trans hext.below,?_,I.new,?_,?_,?_,hsn _,hDn _,
      I.tmps T hj hL hrdy ho (Map.le_refl _) (Nat.le_refl _) hpn (.inr ⟨hqj,hal,by simp⟩) (fun e he => .inl ⟨he.1,if_neg (hejn e he)⟩)⟩
    · intro i hi; unfold setL; split
      · exact .inl rfl
      · exact I.lp i hi
    · intro i hi hin hf hna; unfold setL;split
      · rename_i he; rw [he,hal] at hna; cases hna
      · exact I.lq i hi hin hf hna
    · intro e he
      by_cases hej:e = j
      · subst hej;refine ⟨?_,?_,?_,?_,zs,t,hpz,hH,hvs,?_⟩
        · simp only [if_true]; exact hHq.base
        · simp only [if_true]; exact I.below.size
        · simp only [if_true]; rw [hsz']; omega
        · intro r rm hr;simp only [if_true];have:=hblt r rm hr;omega
        · simp only [if_true]; exact hnew
      · have E:=(I.ea e (hold e he hej)).world (w':=w.alloc (.cells ⟨zs⟩ t)) (fun b hb _ => hbl b hb) (by rw [hsz']; omega)
        refine ⟨?_,?_,?_,?_,?_⟩
        · simp only [hej,if_false]; exact E.base
        · simp only [hej,if_false]; exact E.old
        · simp only [hej,if_false]; exact E.lt
        · simp only [hej,if_false]; exact E.alone
        · simp only [hej,if_false]; exact E.cells
    · intro e e' he he' heq
      by_cases hej:e = j <;> by_cases hej':e' = j
      · rw [hej,hej']
      · simp only [hej,hej',if_true,if_false] at heq;have:=(I.ea e' (hold e' he' hej')).lt;omega
      · simp only [hej,hej',if_true,if_false] at heq;have:=(I.ea e (hold e he hej)).lt;omega
      · simp only [hej,hej',if_false] at heq;exact I.ed e e' (hold e he hej) (hold e' he' hej') heq
    · intro b hb hall;exact (hbl b (Nat.lt_of_lt_of_le hb I.below.size)).trans (I.fr b hb hall)
    · intro k hpk hkq;exact (I.hr k hpk hkq).world hbl (by rw [hsz']; omega)
    · intro r rm hr;rcases I.dom r rm hr with h2 | ⟨j',a,b,c,d,e⟩
      · exact .inl h2
      · refine .inr ⟨j',a,b,?_,d,e⟩;unfold setL; split
        · rfl
        · exact c
    · intro b L hb;obtain ⟨L1,h1⟩:=I.loops b L hb;exact ⟨L1,by rw [hbl b (Array.getElem?_eq_some_iff.1 h1).1]; exact h1⟩
  by_cases hfree:freeAt ops j = true ∨ j < p
  · -- an operation that has nothing to do with the memory,or a late load: wherever it comes
    obtain ⟨js,hjs1,hjs2,hjs4,hjs3⟩:∃ js,p ≤ js ∧ js ≤ q ∧ (js ≤ max (j + 1) p ∧ (j < p → js = p)) ∧ (m.lt (hs (max j p)).size).le (m.lt (hs js).size):=by
      rcases Nat.lt_or_ge q (max j p) with h | h
      · refine ⟨q,I.pq,Nat.le_refl _,⟨by omega,fun h2 => by have:=I.pq; omega⟩,?_⟩
        rw [hmall q (Nat.le_refl _) I.qn];exact Map.lt_le _ _
      · exact ⟨max j p,by omega,h,⟨by omega,fun h2 => by omega⟩,Map.le_refl _⟩
    obtain ⟨hjs4,hjs5⟩:=hjs4;have hjsn:js ≤ ops.size:=Nat.le_trans hjs2 I.qn;have hfs:aStep P call ops o (as j) ((hs js).relow (hs js).size) = some (vs j,(hs js).relow (hs js).size):=by
      by_cases hf:freeAt ops j = true
      · exact (T.free hj hf ho).2 _
      · have hlt:=hfree.resolve_left hf;rw [hjs5 hlt];rcases I.lp j hlt with h | h | h
        · rw [hL] at h; cases h
        · exact absurd h hf
        · exact h.step ho _
    have hmlt:∀ r rm,(m.lt (hs js).size) r = some rm → r < (hs js).size:=fun r rm h => (Map.lt_some h).1
    have hHRj:HR n0 (m.lt (hs js).size) ((hs js).relow (hs js).size) w:=by
      have h0:=I.hr js hjs1 hjs2;exact ⟨h0.base,h0.row,h0.apart,h0.inv⟩
    have hGj:Glob (m.lt (hs js).size) G:=fun g hg => by
      obtain ⟨rm,h1,h2⟩:=hG g hg;exact ⟨rm,Map.lt_of (Nat.lt_of_lt_of_le (hm0 _ _ h1) (T.sizes 0 js (Nat.zero_le _) (by omega))) (I.mono _ _ h1),h2⟩
    unfold wpOpIn;rw [ho];refine aStep_sound ro T.hc hHRj hGj hok hszj (fun t ht => (I.reads T hj hL hrdy (hfree.elim (fun h => .inr (free_not_alloc h)) (fun h => .inl (by have:=I.pq; omega))) (by unfold namesOf; rw [ho]; exact List.mem_append_right _ ht)).mono hjs3) hfs K Q fun v' m' w' hext hv => ?_
    have hm':∀ r rm,m' r = some rm → (m.lt (hs js).size) r = some rm:=fun r rm h => by
      rcases hext.new r rm h with h0 | ⟨hge,_,_⟩
      · exact h0
      · have:=hext.hr.lt h;have h1:(hs js).size ≤ r:=hge;have h2:r < (hs js).size:=this;omega
    have hbl:∀ b,b < w.heap.size → w'.heap[b]? = w.heap[b]?:=fun b hb => hext.fr b hb fun r rm hr _ => .inr (hmlt r rm hr)
    have hv2:VR (m.lt (hs (max (j + 1) p)).size) (vs j) v':=by
      refine hv.mono fun r rm h => ?_
      obtain ⟨hlt,h⟩:=Map.lt_some (hm' r rm h);exact Map.lt_of (Nat.lt_of_lt_of_le hlt (T.sizes js _ hjs4 (by omega))) h
    refine hK _ _ m p q eb ⟨I.pq,I.qn,?_,?_,?_,?_,I.nt,I.tq,setL_closed I.closed hrdy,I.mono,I.below.trans hext.below,?_,I.new,?_,?_,?_,hsn _,hDn _,I.tmps T hj hL hrdy ho (Map.le_refl _) (Nat.le_refl _) hpn (.inl hv2) (fun e he => .inl ⟨he.1,rfl⟩)⟩
    · intro i hi; unfold setL; split
      · exact .inl rfl
      · exact I.lp i hi
    · intro i hi hin hf hna; unfold setL;split
      · rename_i he;rcases hfree with h | h
        · rw [he,h] at hf; cases hf
        · have:=I.pq; omega
      · exact I.lq i hi hin hf hna
    · intro e he;exact (I.ea e (early_set hearly he)).world (fun b hb _ => hbl b hb) hext.below.size
    · intro e e' he he';exact I.ed e e' (early_set hearly he) (early_set hearly he')
    · intro b hb hall;exact (hbl b (Nat.lt_of_lt_of_le hb I.below.size)).trans (I.fr b hb hall)
    · intro k hpk hkq;exact (I.hr k hpk hkq).world hbl hext.below.size
    · intro r rm hr;rcases I.dom r rm hr with h2 | ⟨j',a,b,c,d,e⟩
      · exact .inl h2
      · refine .inr ⟨j',a,b,?_,d,e⟩;unfold setL; split
        · rfl
        · exact c
    · intro b L hb;obtain ⟨L1,h1⟩:=I.loops b L hb;exact hext.loops b L1 h1
  have hnf:freeAt ops j = false:=by cases h:freeAt ops j with
    | false => rfl
    | true => exact absurd (.inl h) hfree
  have hjp:p ≤ j:=by
    rcases Nat.lt_or_ge j p with h | h
    · exact absurd (.inr h) hfree
    · exact h
  have hjq:j ≤ q ∧ (j = q → ∀ i,i < j → L i = true ∨ freeAt ops i = true ∨ lateB P ops (as j).eval (hs j) (h1 j) i j = true):=by
    rcases Nat.lt_or_ge j q with hlt | hge
    · exact ⟨by omega,fun h => by omega⟩
    · have hqn:q < ops.size:=by omega
      obtain ⟨oq,_,_,_,_,hbq⟩:=T.ht.step q (Nat.zero_le _) hqn;have hbq:=barrier_spec (hbq.resolve_left (I.tq hqn))
      by_cases he:j = q
      · refine ⟨by omega,fun _ i hi => ?_⟩
        rw [he] at hrdy hi hj;rcases hbq.1 i hi with h | h | h
        · exact .inr (.inl h)
        · exact .inl (reach_in I.closed T.hd h hj hrdy).1
        · rw [he]; exact .inr (.inr h)
      · exfalso;rcases hbq.2 j (by omega) hj with ⟨h,_⟩ | h | h
        · rw [hnf] at h; cases h
        · have:=(reach_in I.closed T.hd h hj hrdy).1;rw [I.turn T hqn] at this; cases this
        · exact hearly ⟨by omega,h⟩
  have hmlt:∀ r rm,(m.lt (hs j).size) r = some rm → r < (hs j).size:=fun r rm h => (Map.lt_some h).1
  have hHRj:HR n0 (m.lt (hs j).size) ((hs j).relow (hs j).size) w:=by
    have h0:=I.hr j hjp hjq.1;exact ⟨h0.base,h0.row,h0.apart,h0.inv⟩
  have hGj:Glob (m.lt (hs j).size) G:=fun g hg => by
    obtain ⟨rm,h1,h2⟩:=hG g hg;exact ⟨rm,Map.lt_of (Nat.lt_of_lt_of_le (hm0 _ _ h1) (T.sizes 0 j (Nat.zero_le _) (by omega))) (I.mono _ _ h1),h2⟩
  have hmx:max j p = j:=by omega
  unfold wpOpIn;rw [ho];refine aStep_sound ro T.hc hHRj hGj hok hszj (fun t ht => by have:=I.reads T hj hL hrdy (.inl hjq.1) (t:=t) (by unfold namesOf; rw [ho]; exact List.mem_append_right _ ht); rw [hmx] at this; exact this) hst K Q fun v' m' w' hext hv => ?_
  have hsz1:=T.size1 j hj;have hsle:(hs j).size ≤ (hs (j + 1)).size:=T.sizes j (j + 1) (by omega) (by omega)
  have hm'lt:∀ r rm,m' r = some rm → r < (hs (j + 1)).size:=fun r rm h => by rw [hsz1]; exact hext.hr.lt h
  have hlo:∀ (b:Nat) (L:Loop),w0.heap[b]? = some (Obj.loop L) → ∃ L',w'.heap[b]? = some (Obj.loop L'):=fun b L hb => by
    obtain ⟨L1,h1⟩:=I.loops b L hb;exact hext.loops b L1 h1
  by_cases hn:AM.nt hs h1 j
  · -- nothing that was there has turned
    have hjlt:j < q:=by
      rcases Nat.lt_or_ge j q with h | h
      · exact h
      · have he:j = q:=by omega
        rw [he] at hn hj;exact absurd hn (I.tq hj)
    have hbl:∀ b,b < w.heap.size → w'.heap[b]? = w.heap[b]?:=fun b hb => hext.fr b hb fun r rm hr _ => .inr (Nat.lt_of_lt_of_le (hmlt r rm hr) hn)
    let mm:Map:=fun r => match m r with | some x => some x | none => m' r
    have hmm1:m.le mm:=fun r rm h => by show (match m r with | some x => some x | none => m' r) = some rm; rw [h]
    have hmm2:m'.le mm:=fun r rm h => by
      show (match m r with | some x => some x | none => m' r) = some rm
      cases hmr:m r with
      | none => exact h
      | some x =>
        rcases hext.new r rm h with h0 | ⟨hge,_,_⟩
        · rw [(Map.lt_some h0).2] at hmr; cases hmr; rfl
        · exfalso;have hge:(hs j).size ≤ r:=hge;have hlt:=hm'lt r rm h;rcases I.dom r x hmr with h2 | ⟨j',h2,h3,h4,h5,h6⟩
          · have:=T.sizes p j hjp (by omega); omega
          · rcases Nat.lt_trichotomy j' j with h7 | h7 | h7
            · have:=T.sizes (j' + 1) j (by omega) (by omega); omega
            · rw [h7,hL] at h4; cases h4
            · have:=T.sizes (j + 1) j' (by omega) (by have:=I.qn; omega); omega
    have hmm3:∀ r rm,mm r = some rm → m r = some rm ∨ (m' r = some rm ∧ (hs j).size ≤ r ∧ rm.ro = false ∧ w.heap.size ≤ rm.blk):=fun r rm h => by
      have h:(match m r with | some x => some x | none => m' r) = some rm:=h
      cases hmr:m r with
      | some x => rw [hmr] at h; exact .inl h
      | none =>
        rw [hmr] at h;rcases hext.new r rm h with h0 | ⟨hge,hro,hb | ⟨r0,rm0,h00,_,_,hlow⟩⟩
        · rw [(Map.lt_some h0).2] at hmr; cases hmr
        · exact .inr ⟨h,hge,hro,hb⟩
        · have:=hmlt r0 rm0 h00;have hn:(hs j).size ≤ (h1 j).low:=hn;omega
    have hv2:VR (mm.lt (hs (j + 1)).size) (vs j) v':=by
      refine hv.mono fun r rm h => Map.lt_of (hm'lt r rm h) (hmm2 r rm h)
    refine hK _ _ mm p q eb ⟨I.pq,I.qn,?_,?_,?_,?_,I.nt,I.tq,setL_closed I.closed hrdy,Map.le_trans I.mono hmm1,I.below.trans hext.below,?_,?_,?_,?_,hlo,hsn _,hDn _,I.tmps T hj hL hrdy ho hmm1 (Nat.le_refl _) hpn (.inl (by rw [show max (j + 1) p = j + 1 by omega]; exact hv2)) (fun e he => .inl ⟨he.1,rfl⟩)⟩
    · intro i hi; unfold setL; split
      · exact .inl rfl
      · exact I.lp i hi
    · intro i hi hin hf hna; unfold setL; rw [if_neg (by omega)]; exact I.lq i hi hin hf hna
    · intro e he;have E:=(I.ea e (early_set hearly he)).world (fun b hb _ => hbl b hb) hext.below.size
      have hlt:=(I.ea e (early_set hearly he)).lt;refine E.map fun r rm hr => ?_
      rcases hmm3 r rm hr with h | ⟨_,_,_,hb⟩
      · exact E.alone r rm h
      · omega
    · intro e e' he he';exact I.ed e e' (early_set hearly he) (early_set hearly he')
    · intro b hb hall;exact (hbl b (Nat.lt_of_lt_of_le hb I.below.size)).trans (I.fr b hb hall)
    · intro r rm hr;rcases hmm3 r rm hr with h | ⟨_,hge,hro,hb⟩
      · exact I.new r rm h
      · exact .inr ⟨Nat.le_trans (T.sizes 0 j (Nat.zero_le _) (by omega)) hge,hro,.inl (Nat.le_trans I.below.size hb)⟩
    · intro k hpk hkq;have hkn:k ≤ ops.size:=by have:=I.qn; omega
      have ha:HR n0 (m.lt (hs k).size) (hs k) w':=(I.hr k hpk hkq).world hbl hext.below.size;rcases Nat.lt_or_ge j k with hjk | hkj
      · -- its own rows are there
        have hsame:=T.same (j + 1) k (by omega) hkn fun l hl1 hl2 => I.nt l (by omega) (by omega)
        have hb:HR n0 m' (hs k) w':=by
          refine hext.hr.swap (T.inv k hkn) fun r rm hr => ?_
          have hlt:=hm'lt r rm hr;refine ⟨Nat.lt_of_lt_of_le hlt (T.sizes (j + 1) k (by omega) hkn),fun row hrow => ?_⟩
          obtain ⟨e1,e2⟩:=hsame r hlt;have hrow':(hs (j + 1)).rows.get r = some row:=by rw [hhs]; exact hrow
          refine ⟨e1.trans hrow',(e2 row hrow').trans ?_⟩;rw [hhs]; rfl
        refine HR.merge (B:=w.heap.size) ha hb (Map.lt_mono hmm1 (Nat.le_refl _)) (fun r rm h => Map.lt_of (Nat.lt_of_lt_of_le (hm'lt r rm h) (T.sizes (j + 1) k (by omega) hkn)) (hmm2 r rm h)) ?_ ?_
        · intro r rm hr;obtain ⟨hlt,hr⟩:=Map.lt_some hr;rcases hmm3 r rm hr with h | ⟨h,_,hro,hbk⟩
          · exact .inl (Map.lt_of hlt h)
          · exact .inr ⟨h,hro,hbk⟩
        · intro r rm hr;obtain ⟨row,_,_,hf⟩:=(I.hr k hpk hkq).row r rm hr;exact hf.lt
      · have he:mm.lt (hs k).size = m.lt (hs k).size:=by
          funext r
          unfold Map.lt;split
          · rename_i hlt;show (match m r with | some x => some x | none => m' r) = m r
            cases hmr:m r with
            | some x => rfl
            | none =>
              cases hm'r:m' r with
              | none => rfl
              | some rm =>
                exfalso;rcases hext.new r rm hm'r with h0 | ⟨hge,_,_⟩
                · rw [(Map.lt_some h0).2] at hmr; cases hmr
                · have hge:(hs j).size ≤ r:=hge;have:=T.sizes k j hkj (by omega); omega
          · rfl
        rw [he]; exact ha
    · intro r rm hr;rcases hmm3 r rm hr with h | ⟨h,hge,_,_⟩
      · rcases I.dom r rm h with h2 | ⟨j',a,b,c,d,e⟩
        · exact .inl h2
        · refine .inr ⟨j',a,b,?_,d,e⟩;unfold setL; split
          · rfl
          · exact c
      · exact .inr ⟨j,hjp,hjlt,by simp [setL],hge,hm'lt r rm h⟩
  · -- a barrier: all that stands ahead is done,and nothing else
    have hjq2:j = q:=by
      rcases Nat.lt_or_ge j q with h | h
      · exact absurd (I.nt j hjp h) hn
      · omega
    have hall:=hjq.2 hjq2;have hmd:∀ r rm,m r = some rm → r < (hs j).size:=fun r rm h => by
      rcases I.dom r rm h with h2 | ⟨j',a,b,c,d,e⟩
      · exact Nat.lt_of_lt_of_le h2 (T.sizes p j hjp (by omega))
      · exact Nat.lt_of_lt_of_le e (T.sizes (j' + 1) j (by omega) (by omega))
    have hmeq:m.lt (hs j).size = m:=Map.lt_eq hmd;rw [hmeq] at hext;obtain ⟨q',hq1,hq2,hq3,hq4⟩:=nt_first (hs:=hs) (h1:=h1) ops.size (ops.size - (j + 1)) (j + 1) (by omega)
    have hlow:=T.low1 j hj;have hlowq:=T.lows (j + 1) q' hq1 hq2;have hE:∀ e,IsEarly ops L q e → Early n0 hs h1 vs w0 w' m' eb e:=fun e he => by
      have E:=I.ea e he;refine Early.map (E.world (fun b hb hal => hext.fr b hb fun r rm hr hbk => absurd hbk (hal r rm hr)) hext.below.size) fun r rm hr => ?_
      rcases hext.new r rm hr with h | ⟨_,_,hb | ⟨r0,rm0,h0,hb0,_⟩⟩
      · exact E.alone r rm h
      · have:=E.lt; omega
      · rw [← hb0]; exact E.alone r0 rm0 h0
    have hsz2:∀ e e',IsEarly ops L q e → e < e' → e' ≤ ops.size → (hs e).size < (hs e').size:=fun e e' he hlt hn' => by
      have h1':=(T.alloc_nt he.2.1 he.2.2.1).2;have:=T.sizes (e + 1) e' hlt hn';omega
    let pe:Nat → Nat → Bool:=fun r e => (Nat.blt q e && (Nat.blt e q' && (allocAt ops e && L e))) && Nat.beq (hs e).size r
    let ext:Nat → Nat:=fun e => (((h1 e).rows.get (hs e).size).map (·.cells.length)).getD 0
    let m2:Map:=fun r => match m' r with
      | some x => some x
      | none => match (List.range ops.size).find? (pe r) with
        | some e => some ⟨eb e,0,ext e,0,true,false⟩
        | none => none
    have hpe:∀ r e,e < ops.size → pe r e = true → IsEarly ops L q e ∧ e < q' ∧ (hs e).size = r:=fun r e hen h => by
      have h:((Nat.blt q e && (Nat.blt e q' && (allocAt ops e && L e))) && Nat.beq (hs e).size r) = true:=h;simp only [Bool.and_eq_true] at h;obtain ⟨⟨h1,h2,h3,h4⟩,h5⟩:=h;exact ⟨⟨Nat.le_of_ble_eq_true h1,hen,h3,h4⟩,Nat.le_of_ble_eq_true h2,Nat.eq_of_beq_eq_true h5⟩
    have hm2a:m'.le m2:=fun r rm h => by
      show (match m' r with | some x => some x | none => _) = some rm
      rw [h]
    have hm2b:∀ r rm,m2 r = some rm → m' r = some rm ∨ ∃ e,IsEarly ops L q e ∧ e < q' ∧ (hs e).size = r ∧ rm = ⟨eb e,0,ext e,0,true,false⟩:=fun r rm h => by
      have h:(match m' r with
        | some x => some x
        | none => match (List.range ops.size).find? (pe r) with
          | some e => some (⟨eb e,0,ext e,0,true,false⟩:RowMap)
          | none => none) = some rm:=h
      cases hm'r:m' r with
      | some x => rw [hm'r] at h; exact .inl h
      | none =>
        rw [hm'r] at h;simp only [] at h;cases hf:(List.range ops.size).find? (pe r) with
        | none => rw [hf] at h; cases h
        | some e =>
          rw [hf] at h;cases h;obtain ⟨h1,h2,h3⟩:=hpe r e (List.mem_range.1 (List.mem_of_find?_eq_some hf)) (List.find?_some hf);exact .inr ⟨e,h1,h2,h3,rfl⟩
    have hm2c:∀ e,IsEarly ops L q e → e < q' → m2 (hs e).size = some ⟨eb e,0,ext e,0,true,false⟩:=fun e he heq' => by
      show (match m' (hs e).size with
        | some x => some x
        | none => match (List.range ops.size).find? (pe (hs e).size) with
          | some e => some (⟨eb e,0,ext e,0,true,false⟩:RowMap)
          | none => none) = _
      have hnone:m' (hs e).size = none:=by
        cases hm'r:m' (hs e).size with
        | none => rfl
        | some x =>
          have h1':=hm'lt _ x hm'r;have h2':=T.sizes (j + 1) e (by have:=he.1; omega) (by have:=he.2.1; omega)
          omega
      rw [hnone];simp only [];have hin:pe (hs e).size e = true:=by
        show ((Nat.blt q e && (Nat.blt e q' && (allocAt ops e && L e))) && Nat.beq (hs e).size (hs e).size) = true;rw [show Nat.blt q e = true from Nat.ble_eq_true_of_le he.1,show Nat.blt e q' = true from Nat.ble_eq_true_of_le heq',he.2.2.1,he.2.2.2,Trie.beq_tt rfl]
        rfl
      cases hf:(List.range ops.size).find? (pe (hs e).size) with
      | none =>
        have:=List.find?_eq_none.1 hf e (List.mem_range.2 he.2.1);exact absurd hin this
      | some e0 =>
        obtain ⟨g1,g2,g3⟩:=hpe _ e0 (List.mem_range.1 (List.mem_of_find?_eq_some hf)) (List.find?_some hf);rcases Nat.lt_trichotomy e0 e with h | h | h
        · have:=hsz2 e0 e g1 h (by have:=he.2.1; omega); omega
        · rw [h]
        · have:=hsz2 e e0 he h (by have:=g1.2.1; omega); omega
    have hv2:VR (m2.lt (hs (max (j + 1) (j + 1))).size) (vs j) v':=by
      rw [show max (j + 1) (j + 1) = j + 1 by omega]
      exact hv.mono fun r rm h => Map.lt_of (hm'lt r rm h) (hm2a r rm h)
    have hne':∀ e,IsEarly ops L q e → e ≠ q':=fun e he hc => by
      have hqn':q' < ops.size:=by rw [← hc]; exact he.2.1
      refine hq4 hqn' ?_
      rw [← hc];exact (T.alloc_nt he.2.1 he.2.2.1).1
    have hes:∀ e,IsEarly ops (setL L j) q' e → IsEarly ops L q e:=fun e he => by
      obtain ⟨g1,g2,g3,g4⟩:=he;unfold setL at g4;rw [if_neg (by omega)] at g4
      exact ⟨by omega,g2,g3,g4⟩
    refine hK _ _ m2 (j + 1) q' eb ⟨hq1,hq2,?_,?_,?_,?_,hq3,hq4,setL_closed I.closed hrdy,Map.le_trans I.mono (Map.le_trans hext.mono hm2a),I.below.trans hext.below,?_,?_,?_,?_,hlo,hsn _,hDn _,
      I.tmps T hj hL hrdy ho (Map.le_trans hext.mono hm2a) (by omega) (by omega) (.inl hv2) (fun e he => by
        rcases Nat.lt_or_ge e q' with h | h
        · refine .inr ?_
          obtain ⟨zs,t,_,_,hvs,_⟩:=(hE e he).cells;rw [hvs];exact .ptr (rm:=⟨eb e,0,ext e,0,true,false⟩) (Map.lt_of (Nat.lt_of_lt_of_le (hsz2 e (e + 1) he (by omega) he.2.1) (T.sizes (e + 1) _ (by omega) (by have:=he.2.1; omega))) (hm2c e he h))
        · exact .inl ⟨by have:=hne' e he; omega,rfl⟩)⟩
    · intro i hi; unfold setL; split
      · exact .inl rfl
      · rename_i hne;have hij:i < j:=by omega
        rcases hall i hij with h | h | h
        · exact .inl h
        · exact .inr (.inl h)
        · by_cases hLi:L i = true
          · exact .inl hLi
          · refine .inr (.inr (T.late hij hj h ?_));rcases Nat.lt_or_ge i p with hip | hip
            · rcases I.lp i hip with h2 | h2 | h2
              · exact absurd h2 hLi
              · exfalso;obtain ⟨oi,t,x,hoi,e1,_⟩:=lateB_load h;unfold freeAt at h2;rw [hoi] at h2;simp only [e1,freeOp] at h2;cases h2
              · exact h2.same (T.inv p hpn) (T.same p j hjp (by omega) fun l a b => I.nt l a (by omega))
            · refine LateAt.same ?_ (T.inv i (by omega)) (T.same i j (by omega) (by omega) fun l a b => I.nt l (by omega) (by omega))
              obtain ⟨oi,hoi,hsti,_⟩:=T.ht.step i (Nat.zero_le _) (by omega)
              obtain ⟨oi',t,x,hoi',e1,e2⟩:=lateB_load h;rw [hoi] at hoi'; cases hoi';refine ⟨oi,t,x,hoi,e1,e2,?_⟩;rw [aStep_load e1 e2,Option.map_eq_some_iff] at hsti;obtain ⟨u,hu,he⟩:=hsti;rw [show vs i = u from (congrArg Prod.fst he).symm]
              exact hu
    · intro i hi hin hf hna; unfold setL; rw [if_neg (by omega)]; exact I.lq i (by omega) hin hf hna
    · intro e he;have he0:=hes e he;refine (hE e he0).map fun r rm hr => ?_
      rcases hm2b r rm hr with h | ⟨e1,g1,g2,_,rfl⟩
      · exact (hE e he0).alone r rm h
      · intro hc;have:=I.ed e1 e g1 he0 hc;have:=he.1;omega
    · intro e e' he he';exact I.ed e e' (hes e he) (hes e' he')
    · intro b hb hal;have e1:=I.fr b hb fun r rm hr he => (hal r rm hr he).imp id fun h => by
        have:=T.lows q q' (by omega) hq2; omega
      have e2:=hext.fr b (Nat.lt_of_lt_of_le hb I.below.size) fun r rm hr he => by
        rcases I.new r rm hr with h0 | ⟨_,_,hb2 | ⟨r0,rm0,h0,hb0,hro,hlo⟩⟩
        · exact (hal r rm h0 he).imp id fun h => by omega
        · omega
        · rcases hal r0 rm0 h0 (hb0.trans he) with h | h
          · rw [hro] at h; cases h
          · have:=T.lows q q' (by omega) hq2; omega
      exact e2.trans e1
    · intro r rm hr;rcases hm2b r rm hr with hr | ⟨e,g1,_,rfl,rfl⟩
      case inr => exact .inr ⟨T.sizes 0 e (Nat.zero_le _) (by have:=g1.2.1; omega),rfl,.inl (hE e g1).old⟩
      rcases hext.new r rm hr with h | ⟨hge,hro,hb⟩
      · rcases I.new r rm h with h0 | ⟨a,b,c⟩
        · exact .inl h0
        · refine .inr ⟨a,b,c.imp id ?_⟩;rintro ⟨r0,rm0,h00,h01,h02,h03⟩;exact ⟨r0,rm0,h00,h01,h02,Nat.le_trans (T.lows q q' (by omega) hq2) h03⟩
      · have hge:(hs j).size ≤ r:=hge;refine .inr ⟨Nat.le_trans (T.sizes 0 j (Nat.zero_le _) (by omega)) hge,hro,?_⟩
        rcases hb with hb | ⟨r0,rm0,h0,hb0,hro0,hl⟩
        · exact .inl (Nat.le_trans I.below.size hb)
        · rcases I.new r0 rm0 h0 with h00 | ⟨_,_,hb2 | ⟨r1,rm1,h10,h11,h12,h13⟩⟩
          · exact .inr ⟨r0,rm0,h00,hb0,hro0,by omega⟩
          · exact .inl (by omega)
          · exact .inr ⟨r1,rm1,h10,h11.trans hb0,h12,by have:=T.lows q q' (by omega) hq2; omega⟩
    · intro k hpk hkq;have hkn:k ≤ ops.size:=by omega
      have ha:HR n0 m' (hs k) w':=by
        have hsame:=T.same (j + 1) k hpk hkn fun l hl1 hl2 => hq3 l (by omega) (by omega)
        refine hext.hr.swap (T.inv k hkn) fun r rm hr => ?_
        have hlt:=hm'lt r rm hr;refine ⟨Nat.lt_of_lt_of_le hlt (T.sizes (j + 1) k hpk hkn),fun row hrow => ?_⟩
        obtain ⟨e1,e2⟩:=hsame r hlt;have hrow':(hs (j + 1)).rows.get r = some row:=by rw [hhs]; exact hrow
        refine ⟨e1.trans hrow',(e2 row hrow').trans ?_⟩;rw [hhs]; rfl
      have hle2:m'.le (m2.lt (hs k).size):=fun r rm h => Map.lt_of (Nat.lt_of_lt_of_le (hm'lt r rm h) (T.sizes (j + 1) k hpk hkn)) (hm2a r rm h)
      refine ⟨ha.base,fun r rm hr => ?_,fun r r' rm rm' x x' hr hr' hx hx' he => ?_,T.inv k hkn⟩
      · obtain ⟨hlt,hr⟩:=Map.lt_some hr;rcases hm2b r rm hr with h | ⟨e,g1,g2,rfl,rfl⟩
        · obtain ⟨row,r1,r2,hf⟩:=ha.row r rm h;exact ⟨row,r1,r2,hf.later hle2 rfl id⟩
        · have hek:e < k:=by
            rcases Nat.lt_or_ge e k with h | h
            · exact h
            · have:=T.sizes k e h (by have:=g1.2.1; omega); omega
          obtain ⟨zs,t,hpz,hH,hvs,hcell⟩:=(hE e g1).cells;obtain ⟨_,_,_,_,hhse,_⟩:=T.ht.step e (Nat.zero_le _) g1.2.1;have hget:(h1 e).rows.get (hs e).size = some { cells:=zs,elem:=t,exact:=true,ro:=false,esz:=0,grp:=2 * (hs e).size,gpos:=0 }:=by
            rw [hH];unfold Heap.newExact;rw [Heap.add_get];exact if_pos rfl
          have hexte:ext e = zs.length:=by
            show (((h1 e).rows.get (hs e).size).map (·.cells.length)).getD 0 = _;rw [hget]; rfl
          have hsame:=T.same (e + 1) k (by omega) hkn fun l a b => hq3 l (by have:=g1.1; omega) (by omega)
          obtain ⟨x1,_⟩:=hsame (hs e).size (hsz2 e (e + 1) g1 (by omega) g1.2.1)
          have hget1:(hs (e + 1)).rows.get (hs e).size = some { cells:=zs,elem:=t,exact:=true,ro:=false,esz:=0,grp:=2 * (hs e).size,gpos:=0 }:=by rw [hhse]; exact hget
          have hrow:=x1.trans hget1;refine ⟨_,hrow,hlt,rfl,rfl,rfl,fun _ => rfl,fun hc => (by cases hc),(show 2 * (hs e).size ≤ 2 * (hs e).size + 1 by omega),fun hc => (by cases hc),fun _ => (hE e g1).base,?_⟩
          refine .inl ⟨rfl,⟨zs⟩,(0,0),hcell,fun _ => rfl,hexte.symm,?_,fun _ i v hv' => ⟨v,?_,.plain (plains_mem hpz v (List.mem_of_getElem? hv'))⟩⟩
          · show 0 + zs.length ≤ ext e;rw [hexte]; omega
          · show (⟨zs⟩:Array Value)[0 + i]? = some v;rw [Nat.zero_add]
            simpa using hv'
      · obtain ⟨hlt,hr⟩:=Map.lt_some hr;obtain ⟨hlt',hr'⟩:=Map.lt_some hr';rcases hm2b r rm hr with h | ⟨e,g1,g2,ge,rfl⟩ <;> rcases hm2b r' rm' hr' with h' | ⟨e',g1',g2',ge',rfl⟩
        · exact ha.apart r r' rm rm' x x' h h' hx hx' he
        · exact absurd he ((hE e' g1').alone r rm h)
        · exact absurd he.symm ((hE e g1).alone r' rm' h')
        · have hee:=I.ed e e' g1 g1' he;subst hee;have:r = r':=ge.symm.trans ge';subst this;rw [hx] at hx';cases hx';exact .inl ⟨rfl,rfl⟩
    · intro r rm hr;rcases hm2b r rm hr with h | ⟨e,g1,g2,rfl,_⟩
      · exact .inl (hm'lt r rm h)
      · refine .inr ⟨e,by have:=g1.1; omega,g2,?_,Nat.le_refl _,hsz2 e (e + 1) g1 (by omega) g1.2.1⟩
        unfold setL; split
        · rfl
        · exact g1.2.2.2

end Go.AM
