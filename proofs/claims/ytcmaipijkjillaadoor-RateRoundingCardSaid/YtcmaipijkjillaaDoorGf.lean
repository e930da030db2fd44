/- A general tool, which names no program: what must be shown of a piece of code for symbolic values of a canonical machine for the model's own code, proved: what it comes to is what every run comes to. -/
import Derived.Test.YtcmaipijkjillaaDoorGi
import Derived.Laws.Sem
import Derived.Laws.Strings
set_option linter.unusedVariables false
set_option linter.unusedSimpArgs false
set_option linter.unusedSectionVars false

namespace Go.AM

variable {P:Program} {S:Sys}

/-! More fuel comes to the same. -/

def CallLe (c c':CallF):Prop:=∀ t args H r,c t args H = some r → c' t args H = some r
theorem CallLe.refl (c:CallF):CallLe c c:=fun _ _ _ _ h => h

theorem aOpRun_le {c c':CallF} (h:CallLe c c') {ρ:Operand → Value} {o:Oper} {H:Heap} {r:Value × Heap} (e:aOpRun P c ρ o H = some r):aOpRun P c' ρ o H = some r:=by
  unfold aOpRun at e ⊢;cases ho:aOp P ρ o H with
  | none => rw [ho] at e; cases e
  | some s =>
    rw [ho] at e;cases s with
    | val v H' => exact e
    | enter f args => exact h _ _ _ _ e
    | round l args => exact h _ _ _ _ e

theorem aStep_le {c c':CallF} (h:CallLe c c') {ops:Array Oper} {o:Oper} {a:Act} {H:Heap} {r:Value × Heap} (e:aStep P c ops o a H = some r):aStep P c' ops o a H = some r:=by
  unfold aStep at e ⊢;cases hw:Region.wanted o (yielded ops a.tmps) with
  | true => rw [hw,cond_true] at e; rw [cond_true]; exact aOpRun_le h e
  | false => rw [hw,cond_false] at e; rw [cond_false]; exact e

theorem aOps_le {c c':CallF} (h:CallLe c c') {ops:Array Oper}:∀ {l:List Oper} {a:Act} {H:Heap} {r:Act × Heap},aOps P c ops l a H = some r → aOps P c' ops l a H = some r
  | [],_,_,_,e => e
  | o :: l,a,H,r,e => by
    unfold aOps at e ⊢;cases hs:aStep P c ops o a H with
    | none => rw [hs] at e; cases e
    | some p =>
      rw [hs] at e;rw [aStep_le h hs];exact aOps_le h e

theorem aDraw_le {c c':CallF} (h:CallLe c c') {ops:Array Oper}:∀ {k i:Nat} {a:Act} {H:Heap} {r:Act × Heap},aDraw P c ops k i a H = some r → aDraw P c' ops k i a H = some r
  | 0,_,_,_,_,e => e
  | k + 1,i,a,H,r,e => by
    unfold aDraw at e ⊢;cases ho:ops[i]? with
    | none => rw [ho] at e; cases e
    | some o =>
      rw [ho] at e;simp only [] at e ⊢;cases hs:aStep P c ops o a (H.relow H.size) with
      | none => rw [hs] at e; cases e
      | some p =>
        obtain ⟨v,H1⟩:=p;rw [hs] at e;rw [aStep_le h hs];simp only [] at e ⊢;obtain ⟨hb,e⟩:=Zaaw e;rw [hb,cond_true];exact aDraw_le h e

theorem thenN_le {r r':ARes} {k k':Act → Heap → ARes} (hr:∀ x,r = some x → r' = some x) (hk:∀ a H x,k a H = some x → k' a H = some x) {x:AExit × Act × Heap} (e:thenN r k = some x):thenN r' k' = some x:=by
  cases h:r with
  | none => rw [h] at e; cases e
  | some y =>
    rw [hr y h];rw [h] at e;obtain ⟨ex,a,H⟩:=y;cases ex with
    | normal => exact hk _ _ _ e
    | _ => exact e

theorem aCode_le {c c':CallF} (h:CallLe c c'):∀ {n n':Nat} {x:Code} {a:Act} {H:Heap} {r:AExit × Act × Heap},n ≤ n' → aCode P c n x a H = some r → aCode P c' n' x a H = some r
  | 0,_,_,_,_,_,_,e => by cases e
  | n + 1,0,_,_,_,_,hn,_ => by omega
  | n + 1,n' + 1,x,a,H,r,hn,e => by
    have hn':n ≤ n':=by omega
    unfold aCode at e ⊢;cases x with
    | skip => exact e
    | label _ => exact e
    | region id ops dr =>
      simp only [] at e ⊢;cases dr with
      | true =>
        simp only [cond_true] at e ⊢;cases hd:aDraw P c ops ops.size 0 a H with
        | none => rw [hd] at e; cases e
        | some y => rw [hd] at e; rw [aDraw_le h hd]; exact e
      | false =>
        simp only [cond_false] at e ⊢;cases hd:aOps P c ops ops.toList a H with
        | none => rw [hd] at e; cases e
        | some y => rw [hd] at e; rw [aOps_le h hd]; exact e
    | seq x y => exact thenN_le (fun _ => aCode_le h hn') (fun _ _ _ => aCode_le h hn') e
    | cond o x y =>
      simp only [] at e ⊢;split at e
      · rename_i t ht;exact aCode_le h hn' e
      · cases e
    | block id x =>
      simp only [] at e ⊢;cases hx:aCode P c n x a H with
      | none => rw [hx] at e; cases e
      | some y => rw [hx] at e; rw [aCode_le h hn' hx]; exact e
    | loop x => exact thenN_le (fun _ => aCode_le h hn') (fun _ _ _ => aCode_le h hn') e
    | rangeFunc g ps as bd =>
      simp only [] at e ⊢;split at e
      · rename_i f fa fb hf;obtain ⟨v,H1,row,lr,hc,_⟩:=endL_some e;rw [hc] at e;rw [h _ _ _ _ hc];exact e
      · cases e
    | exit id => exact e
    | scope x =>
      simp only [] at e ⊢;cases hx:aCode P c n x a H with
      | none => rw [hx] at e; cases e
      | some y => rw [hx] at e; rw [aCode_le h hn' hx]; exact e
    | goto l => exact e
    | ret => exact e
    | refuse w => exact e

theorem aFun_le {c c':CallF} (h:CallLe c c') {n n':Nat} (hn:n ≤ n') {f:FuncId} {args:List Value} {H:Heap} {r:Value × Heap} (e:aFun P c n f args H = some r):aFun P c' n' f args H = some r:=by
  unfold aFun at e ⊢;split at e
  · rename_i fn hf;split at e
    · rename_i b hb;split at e
      · rename_i a H' hc;rw [aCode_le h hn hc]; exact e
      · rename_i a H' hc;rw [aCode_le h hn hc]; exact e
      · cases e
    · exact e
  · cases e

theorem aRound_le {c c':CallF} {G:Nat} (h:CallLe c c') {n n':Nat} (hn:n ≤ n') {l:Nat} {args:List Value} {H:Heap} {r:Value × Heap} (e:aRound P G c n l args H = some r):aRound P G c' n' l args H = some r:=by
  unfold aRound at e ⊢;split at e
  · rename_i row hrow;split at e
    · rename_i lr hl;obtain ⟨hb,e⟩:=Zaaw e;rw [hb,cond_true];cases h1:aCode P c n lr.assign { tmps:=putAll lr.params.toList args lr.tmps,defers:=[] } H with
      | none => rw [h1] at e; cases e
      | some y =>
        rw [h1] at e;rw [aCode_le h hn h1];obtain ⟨ex,a,H1⟩:=y;cases ex with
        | normal =>
          unfold beginR at e ⊢;simp only [] at e ⊢;cases hr:H1.rows.get l with
          | none => rw [hr] at e; cases e
          | some row1 =>
            rw [hr] at e;simp only [] at e ⊢;cases hl1:row1.loop with
            | none => rw [hl1] at e; cases e
            | some sp1 =>
              cases sp1 with
              | mp _ _ => rw [hl1] at e; cases e
              | it _ => rw [hl1] at e; cases e
              | lp lr1 =>
              rw [hl1] at e;simp only [] at e ⊢;cases hb1:(ready lr1.state && !row1.ro) with
              | false => rw [hb1] at e; cases e
              | true =>
                rw [hb1,cond_true] at e;rw [cond_true];cases h2:aCode P c n lr.body a (H1.setLoop l row1 .busy lr1.pending) with
                | none => rw [h2] at e; cases e
                | some z => rw [h2] at e; rw [aCode_le h hn h2]; exact e
        | _ => exact e
    · cases e
  · cases e

theorem oCallN_le {P:Program} {S:Sys}:∀ {D D' d d':Nat},D ≤ D' → d ≤ d' → CallLe (oCallN P S D d) (oCallN P S D' d')
  | _,_,0,_,_,_ => fun _ _ _ _ e => by cases e
  | _,_,d + 1,0,_,h => by omega
  | D,D',d + 1,d' + 1,hD,hd => fun t args H r e => by
    have ih:CallLe (oCallN P S D d) (oCallN P S D' d'):=oCallN_le hD (Nat.le_of_succ_le_succ hd);cases t with
    | fn f =>
      unfold oCallN at e ⊢;split at e
      · rename_i ho; rw [if_pos ho]; exact e
      · rename_i ho; rw [if_neg ho]; exact aFun_le ih hD e
    | rnd l => exact aRound_le ih hD e

/-! A call that comes to something. -/

def Runs (P:Program) (S:Sys) (t:Tgt) (args:List Value) (H:Heap) (v:Value) (H':Heap):Prop:=∃ D d,oCallN P S D d t args H = some (v,H')
def WCall (P:Program) (S:Sys) (t:Tgt) (args:List Value) (H:Heap) (K:Value → Heap → Prop):Prop:=∃ v H',Runs P S t args H v H' ∧ K v H'

theorem Runs.unique {t:Tgt} {args:List Value} {H:Heap} {v v':Value} {H1 H2:Heap} (h:Runs P S t args H v H1) (k:Runs P S t args H v' H2):v' = v ∧ H2 = H1:=by
  obtain ⟨D,d,e⟩:=h;obtain ⟨D',d',e'⟩:=k;have e1:=oCallN_le (P:=P) (S:=S) (Nat.le_max_left D D') (Nat.le_max_left d d') t args H _ e;have e2:=oCallN_le (P:=P) (S:=S) (Nat.le_max_right D D') (Nat.le_max_right d d') t args H _ e';rw [e1] at e2;cases e2;exact ⟨rfl,rfl⟩

theorem Runs.sx {t:Tgt} {args:List Value} {H:Heap} {v:Value} {H':Heap} (h:Runs P S t args H v H') (K:Value → Heap → Prop):WCall P S t args H K = K v H':=by
  refine propext ⟨?_,fun k => ⟨v,H',h,k⟩⟩
  rintro ⟨v',H2,h2,k⟩;obtain ⟨rfl,rfl⟩:=h.unique h2;exact k

theorem WCall.mono {t:Tgt} {args:List Value} {H:Heap} {K K':Value → Heap → Prop} (h:WCall P S t args H K) (hk:∀ v H',K v H' → K' v H'):WCall P S t args H K':=by
  obtain ⟨v,H',hr,k⟩:=h;exact ⟨v,H',hr,hk _ _ k⟩

end Go.AM

namespace Go.AM

/-! What must be shown of a piece of code: a function of the code,for symbolic values. -/

abbrev F:=Nat → Value
def upd (ρ:F) (d:Nat) (v:Value):F:=fun t => if t = d then v else ρ t
theorem Zacp (ρ:F) (d:Nat) (v:Value) (t:Nat):upd ρ d v t = if t = d then v else ρ t:=rfl

def ev (ρ:F):Operand → Value
  | .tmp t => ρ t
  | .const v => v
  | .global g => .pointer (some ⟨g,0,none⟩)
  | .func f => .func (.func f) #[] #[]
theorem Zaaz (ρ:F) (t:Nat):ev ρ (.tmp t) = ρ t:=rfl
theorem Zaax (ρ:F) (v:Value):ev ρ (.const v) = v:=rfl
theorem ev_global (ρ:F) (g:Nat):ev ρ (.global g) = .pointer (some ⟨g,0,none⟩):=rfl
theorem Zaay (ρ:F) (f:FuncId):ev ρ (.func f) = .func (.func f) #[] #[]:=rfl

structure Fr (N:Nat) (ρ:F) (a:Act):Prop where
  n:a.tmps.size = N
  get:∀ t,a.tmps.getD t undef = ρ t

theorem Fr.eval {N:Nat} {ρ:F} {a:Act} (h:Fr N ρ a):a.eval = ev ρ:=by
  funext x
  cases x with
  | tmp t => exact h.get t
  | _ => rfl

theorem Fr.put {N:Nat} {ρ:F} {a:Act} (h:Fr N ρ a) {d:Nat} (hd:d < N) (v:Value):Fr N (upd ρ d v) (a.put (some d) v):=by
  refine ⟨by rw [put_size]; exact h.n,fun t => ?_⟩
  rw [put_getD,Zacp]
  by_cases ht:t = d
  · subst ht;rw [if_pos ⟨rfl,by rw [h.n]; exact hd⟩,if_pos rfl]
  · rw [if_neg (fun hc => ht (by cases hc.1; rfl)),if_neg ht]
    exact h.get t

/-! Words of a step. -/

def sxOpt {α:Type} (x:Option α) (K:α → Prop):Prop:=∃ v,x = some v ∧ K v
theorem sxOpt_some {α:Type} (v:α) (K:α → Prop):sxOpt (some v) K = K v:=by
  refine propext ⟨?_,fun h => ⟨v,rfl,h⟩⟩
  rintro ⟨u,hu,h⟩;cases hu; exact h
theorem sxOpt_ite {α:Type} (c:Prop) [Decidable c] (v:α) (K:α → Prop):sxOpt (if c then some v else none) K = (c ∧ K v):=by
  by_cases h:c
  · rw [if_pos h,sxOpt_some]; simp [h]
  · rw [if_neg h];refine propext ⟨?_,fun k => absurd k.1 h⟩
    rintro ⟨u,hu,_⟩; cases hu
@[congr] theorem sxOpt_congr {α:Type} {x y:Option α} {K:α → Prop} (h:x = y):sxOpt x K = sxOpt y K:=by rw [h]

def Zabb (op:BinOp) (k:IntKind) (a b:Int):Option Value:=match op with
  | .add => some (.int k (k.wrap (a + b)))
  | .sub => some (.int k (k.wrap (a - b)))
  | .mul => some (.int k (k.wrap (a * b)))
  | .quo => if b ≠ 0 then some (.int k (k.wrap (a.tdiv b))) else none
  | .rem => if b ≠ 0 then some (.int k (a.tmod b)) else none
  | .eql => some (.bool (decide (a = b)))
  | .neq => some (.bool (decide (¬ a = b)))
  | .lss => some (.bool (decide (a < b)))
  | .leq => some (.bool (decide (a ≤ b)))
  | .gtr => some (.bool (decide (b < a)))
  | .geq => some (.bool (decide (b ≤ a)))
  | .and => some (.int k (k.wrap ((BitVec.ofInt k.bits a &&& BitVec.ofInt k.bits b).toNat)))
  | .or => some (.int k (k.wrap ((BitVec.ofInt k.bits a ||| BitVec.ofInt k.bits b).toNat)))
  | .xor => some (.int k (k.wrap ((BitVec.ofInt k.bits a ^^^ BitVec.ofInt k.bits b).toNat)))
  | .andNot => some (.int k (k.wrap ((BitVec.ofInt k.bits a &&& ~~~BitVec.ofInt k.bits b).toNat)))
  | .shl => if 0 ≤ b then some (.int k (k.wrap (a * 2 ^ min b.toNat k.bits))) else none
  | .shr => if 0 ≤ b then some (.int k (a.fdiv (2 ^ min b.toNat k.bits))) else none

def bin (op:BinOp) (x y:Value):Option Value:=match x,y with
  | .int k a,.int k' b => if k = k' then Zabb op k a b else match op with
    | .shl => Zabb .shl k a b
    | .shr => Zabb .shr k a b
    | _ => none
  | _,_ => none
theorem bin_int (op:BinOp) (k:IntKind) (a b:Int):bin op (.int k a) (.int k b) = Zabb op k a b:=if_pos rfl

theorem bin_ok {P:Program} {op:BinOp} {t yt:TypeId} {x y:Operand} {ρ:Operand → Value} {o:Oper} {H:Heap} {v:Value} (ho:o.op = .binOp op t x y yt) (h:bin op (ρ x) (ρ y) = some v) :
    aOp P ρ o H = some (.val v H):=by
  obtain ⟨dst,op',type,pos,after,guard⟩:=o;cases ho;show kBinSlow P op t x y ρ ⟨dst,.binOp op t x y yt,type,pos,after,guard⟩ H = some (.val v H);unfold bin at h;split at h
  case h_2 => cases h
  rename_i k a k' b ha hb;have h0:Zabb op k a b = some v ∧ (k = k' ∨ op = .shl ∨ op = .shr):=by
    split at h
    · exact ⟨h,.inl ‹_›⟩
    · split at h
      · exact ⟨h,.inr (.inl rfl)⟩
      · exact ⟨h,.inr (.inr rfl)⟩
      · cases h
  obtain ⟨h,hk⟩:=h0;unfold kBinSlow;have hnil:aIsNilCmp P t (ρ x) (ρ y) = false:=by
    rw [ha,hb]; unfold aIsNilCmp; cases P.underlying t with
    | none => rfl
    | some d => cases d <;> rfl
  have h1:aCmpNil P op t (ρ x) (ρ y) = none:=by unfold aCmpNil; rw [hnil]; cases op <;> rfl
  rw [h1];show aPlain P ρ _ H = _;unfold aPlain;have h2:allPlain ρ (Op.binOp op t x y yt).operands.toList = true:=by simp [Op.operands,allPlain,ha,hb,plain]
  rw [h2,cond_true];have h3:Zabg P (execOp ρ ⟨dst,.binOp op t x y yt,type,pos,after,guard⟩) = some (.value v) ∧ plain v = true:=by
    have hx:execOp ρ ⟨dst,.binOp op t x y yt,type,pos,after,guard⟩ = (do pure (.value (← (do eqGuard op t x y (.int k a) (.int k' b); binOp op t (.int k a) (.int k' b))))):=by
      unfold execOp;simp only [ha,hb]
    have hg:eqGuard op t x y (.int k a) (.int k' b) = pure ():=by unfold eqGuard; cases op <;> rfl
    have hv:plain v = true ∧ Go.binOp op t (.int k a) (.int k' b) = pure v:=by
      by_cases hs:op = .shl ∨ op = .shr
      · rcases hs with rfl | rfl;all_goals
          unfold Zabb at h;simp only [] at h;split at h
          case isFalse => cases h
          rename_i hb0;have h':=Option.some.inj h;subst h';refine ⟨rfl,?_⟩;have hn:¬ b < 0:=by omega
          simp only [Go.binOp,Op.shift,hn,if_false]
      obtain rfl:k = k':=by
        rcases hk with h1 | h1 | h1
        · exact h1
        · exact absurd (.inl h1) hs
        · exact absurd (.inr h1) hs
      unfold Zabb at h;cases op <;> simp only [] at h <;> first
        | (cases h; done)
        | (exact (hs (.inl rfl)).elim)
        | (exact (hs (.inr rfl)).elim)
        | (have h':=Option.some.inj h; subst h'; refine ⟨rfl,?_⟩; simp [Go.binOp,Op.intArith,Op.intCmp]; done)
        | (have h':=Option.some.inj h; subst h'; refine ⟨rfl,?_⟩; simp [Go.binOp,Op.intBits]; done)
        | (have h':=Option.some.inj h; subst h'; refine ⟨rfl,?_⟩; simp only [Go.binOp,ne_eq,not_true_eq_false,if_false,Op.intCmp,bne,decide_not]; rfl)
        | (by_cases hb0:b = 0
           · rw [if_neg (c:=b ≠ 0) (fun hc => hc hb0)] at h; cases h
           · rw [if_pos (c:=b ≠ 0) hb0] at h;have h':=Option.some.inj h;subst h';refine ⟨rfl,?_⟩
             simp [Go.binOp,Op.intDiv,hb0])
    rw [hx,hg,hv.2];exact ⟨rfl,hv.1⟩
  rw [h3.1];simp only [h3.2,cond_true]

end Go.AM

namespace Go.AM

variable {P:Program} {S:Sys} {N:Nat}

def una (op:UnOp) (x:Value):Option Value:=match op,x with
  | .not,.bool b => some (.bool (!b))
  | .neg,.int k n => some (.int k (k.wrap (0 - n)))
  | _,_ => none
theorem una_not (b:Bool):una .not (.bool b) = some (.bool (!b)):=rfl
theorem una_not_dec (p:Prop) [Decidable p] : una .not (.bool (decide p)) = some (.bool (decide (¬ p))):=by rw [una_not,decide_not]
theorem una_neg (k:IntKind) (n:Int):una .neg (.int k n) = some (.int k (k.wrap (0 - n))):=rfl

theorem una_ok {op:UnOp} {t:TypeId} {x:Operand} {ρ:Operand → Value} {o:Oper} {H:Heap} {v:Value} (ho:o.op = .unOp op t x) (h:una op (ρ x) = some v):aOp P ρ o H = some (.val v H):=by
  obtain ⟨dst,op',type,pos,after,guard⟩:=o;cases ho;show aPlain P ρ ⟨dst,.unOp op t x,type,pos,after,guard⟩ H = _;have hx:execOp ρ ⟨dst,.unOp op t x,type,pos,after,guard⟩ = (do pure (.value (← Op.unary op (ρ x)))):=rfl
  have hu:Op.unary op (ρ x) = pure v ∧ plain (ρ x) = true ∧ plain v = true:=by
    unfold una at h;split at h
    · rename_i b hb; cases h; rw [hb]; exact ⟨rfl,rfl,rfl⟩
    · rename_i k n hb; cases h; rw [hb]; exact ⟨rfl,rfl,rfl⟩
    · cases h
  unfold aPlain;have h2:allPlain ρ (Op.unOp op t x).operands.toList = true:=by simp [Op.operands,allPlain,hu.2.1]
  rw [h2,cond_true,hx,hu.1]
  show (match (some (Next.value v):Option Next) with
    | some (.value v) => cond (plain v) (some (AStep.val v H)) none
    | _ => none) = some (AStep.val v H)
  simp only [hu.2.2,cond_true]

def aPick (c a b:Value):Option Value:=match c with
  | .bool t => some (cond t a b)
  | _ => none
theorem Zaac (a b:Value):aPick (.bool true) a b = some a:=rfl
theorem Zaab (a b:Value):aPick (.bool false) a b = some b:=rfl

theorem pureRun_thn {α β:Type}:∀ {s:Sem α} {a:α} (f:α → Sem β),Zabg P s = some a → Zabg P (s.bind f) = Zabg P (f a)
  | .pure b,a,f,h => by cases h; rfl
  | .program k,a,f,h => pureRun_thn (s:=k P) f h
  | .mark _ k,a,f,h => pureRun_thn (s:=k) f h
  | .choose q k,a,f,h => by
    simp only [Zabg] at h;cases hq:q.forced with
    | false => rw [hq] at h; cases h
    | true =>
      rw [hq,cond_true] at h;show cond q.forced (Zabg P ((k 0).bind f)) none = _;rw [hq,cond_true];exact pureRun_thn (s:=k 0) f h
theorem pureRun_und {β:Type} {t:TypeId} {d:TypeDesc} (h:P.underlying t = some d) (f:TypeDesc → Sem β):Zabg P (underlying t >>= f) = Zabg P (f d):=by
  refine pureRun_thn f ?_
  show Zabg P (match P.underlying t with
    | some d => (pure d:Sem TypeDesc)
    | none => stuck "no such type") = some d
  rw [h]; rfl

/-! Conversions,and the lesser or greater of two. -/
def aConv (P:Program) (src dst:TypeId) (x:Value):Option Value:=match P.underlying src,P.underlying dst,x with
  | some (.int _),some (.int k),.int _ n => some (.int k (k.wrap n))
  | some (.string),some .string,.string s => some (.string s)
  | _,_,_ => none
theorem plain_op {o:Oper} {ρ:Operand → Value} {H:Heap} {v:Value} (h2:allPlain ρ o.op.operands.toList = true) (h:Zabg P (execOp ρ o) = some (.value v)) (hv:plain v = true):aPlain P ρ o H = some (.val v H):=by
  unfold aPlain;rw [h2,cond_true,h];simp only [hv,cond_true]
theorem aConv_plain {src dst:TypeId} {x:Operand} {ρ:Operand → Value} {o:Oper} {H:Heap} {v:Value} (ho:o.op = .convert src dst x) (h:aConv P src dst (ρ x) = some v):aPlain P ρ o H = some (.val v H):=by
  obtain ⟨dst',op',type,pos,after,guard⟩:=o;cases ho;have hu:Zabg P (Go.convert src dst (ρ x)) = some v ∧ plain (ρ x) = true ∧ plain v = true:=by
    unfold aConv at h;split at h
    · rename_i d1 k j n h1 h2 h3;cases h;rw [h3];refine ⟨?_,rfl,rfl⟩;unfold Go.convert;rw [pureRun_und h1,pureRun_und h2]; rfl
    · rename_i s h1 h2 h3;cases h;rw [h3];refine ⟨?_,rfl,rfl⟩;unfold Go.convert;rw [pureRun_und h1,pureRun_und h2]; rfl
    · cases h
  refine plain_op ?_ ?_ hu.2.2
  · simp [Op.operands,allPlain,hu.2.1]
  · exact (pureRun_thn (s:=Go.convert src dst (ρ x)) (fun v => Sem.pure (Next.value v)) hu.1).trans rfl

def aConvH (P:Program) (H:Heap) (src dst:TypeId) (x:Value):Option Value:=match x with
  | .slice none n c => match P.underlying src,P.underlying dst with
    | some (.slice e),some .string => match P.underlying e with
      | some (.int .u8) => some (.string ⟨⟨[]⟩⟩)
      | _ => none
    | _,_ => none
  | .slice (some a) n c => aText P H src dst (.slice (some a) n c)
  | x => aConv P src dst x
theorem aConvH_int (H:Heap) (s t:TypeId) (k:IntKind) (n:Int):aConvH P H s t (.int k n) = aConv P s t (.int k n):=rfl
theorem aConvH_ok {src dst:TypeId} {x:Operand} {ρ:Operand → Value} {o:Oper} {H:Heap} {v:Value} (ho:o.op = .convert src dst x) (h:aConvH P H src dst (ρ x) = some v):aOp P ρ o H = some (.val v H):=by
  have hpl:aText P H src dst (ρ x) = none → aConv P src dst (ρ x) = some v → aOp P ρ o H = some (.val v H):=fun hn hc => by
    obtain ⟨dst',op',type,pos,after,guard⟩:=o;cases ho;show orP (valH H (aText P H src dst (ρ x))) (aPlain P ρ ⟨dst',.convert src dst x,type,pos,after,guard⟩ H) = _;rw [hn];exact aConv_plain (o:=⟨dst',.convert src dst x,type,pos,after,guard⟩) rfl hc
  generalize hx:ρ x = y at h hpl;cases y
  case slice a n c =>
    cases a with
    | some a =>
      have h:aText P H src dst (.slice (some a) n c) = some v:=h;obtain ⟨dst',op',type,pos,after,guard⟩:=o;cases ho;show orP (valH H (aText P H src dst (ρ x))) (aPlain P ρ ⟨dst',.convert src dst x,type,pos,after,guard⟩ H) = _;rw [hx,h]; rfl
    | none =>
      unfold aConvH at h;simp only [] at h;split at h
      case h_2 => cases h
      rename_i e h1 h2;split at h
      case h_2 => cases h
      rename_i h3;cases h;obtain ⟨dst',op',type,pos,after,guard⟩:=o;cases ho;have hn:aText P H src dst (ρ x) = none:=by unfold aText; rw [h1,h2,hx]
      show orP (valH H (aText P H src dst (ρ x))) (aPlain P ρ ⟨dst',.convert src dst x,type,pos,after,guard⟩ H) = _;rw [hn];show aPlain P ρ ⟨dst',.convert src dst x,type,pos,after,guard⟩ H = _;refine plain_op ?_ ?_ rfl
      · simp [Op.operands,allPlain,hx,plain]
      · have hu:Zabg P (Go.convert src dst (ρ x)) = some (.string ⟨⟨[]⟩⟩):=by
          rw [hx];unfold Go.convert;rw [pureRun_und h1,pureRun_und h2];simp only [];rw [pureRun_und h3];rfl
        exact (pureRun_thn (s:=Go.convert src dst (ρ x)) (fun v => Sem.pure (Next.value v)) hu).trans rfl
  all_goals
    refine hpl ?_ h;unfold aText;split
    · rename_i hh; cases hh
    · rfl

def strBin (op:BinOp) (a b:ByteArray):Option Value:=match op with
  | .eql => some (.bool (decide (a.data.toList = b.data.toList)))
  | .neq => some (.bool (decide (¬ a.data.toList = b.data.toList)))
  | .lss => some (.bool (Op.bytesLess a.data.toList b.data.toList))
  | .add => if a.size + b.size ≤ 9223372036854775807 then some (.string (a ++ b)) else none
  | _ => none
theorem beq_dec_l (a b:List UInt8):(a == b) = decide (a = b):=by rw [Bool.eq_iff_iff]; simp
theorem strBin_ok {op:BinOp} {t yt:TypeId} {x y:Operand} {ρ:Operand → Value} {o:Oper} {H:Heap} {v:Value} {a b:ByteArray} (ho:o.op = .binOp op t x y yt) (ha:ρ x = .string a) (hb:ρ y = .string b) (h:strBin op a b = some v) :
    aOp P ρ o H = some (.val v H):=by
  obtain ⟨dst,op',type,pos,after,guard⟩:=o;cases ho;show kBinSlow P op t x y ρ ⟨dst,.binOp op t x y yt,type,pos,after,guard⟩ H = some (.val v H);unfold kBinSlow;have hnil:aIsNilCmp P t (ρ x) (ρ y) = false:=by
    rw [ha,hb]; unfold aIsNilCmp; cases P.underlying t with
    | none => rfl
    | some d => cases d <;> rfl
  have h1:aCmpNil P op t (ρ x) (ρ y) = none:=by unfold aCmpNil; rw [hnil]; cases op <;> rfl
  rw [h1];show aPlain P ρ _ H = _;have hv:plain v = true ∧ Go.binOp op t (.string a) (.string b) = pure v:=by
    unfold strBin at h;split at h
    · cases h; refine ⟨rfl,?_⟩; simp only [Go.binOp,Op.stringOp,ByteArray.toList_eq,beq_dec_l]
    · cases h; refine ⟨rfl,?_⟩; simp only [Go.binOp,Op.stringOp,ByteArray.toList_eq,decide_not,beq_dec_l]
    · cases h; refine ⟨rfl,?_⟩; simp only [Go.binOp,Op.stringOp,ByteArray.toList_eq]
    · split at h
      · rename_i hs;cases h; refine ⟨rfl,?_⟩;have hm:¬ ((a.size + b.size:Nat):Int) > IntKind.i64.max:=by
          have:IntKind.i64.max = 9223372036854775807:=by decide
          rw [this]; omega
        simp only [Go.binOp,Op.stringOp,hm,if_false]
      · cases h
    · cases h
  refine plain_op ?_ ?_ hv.1
  · simp [Op.operands,allPlain,ha,hb,plain]
  · have hx:execOp ρ ⟨dst,.binOp op t x y yt,type,pos,after,guard⟩ = (do pure (.value (← (do eqGuard op t x y (.string a) (.string b); Go.binOp op t (.string a) (.string b))))):=by
      unfold execOp;simp only [ha,hb]
    have hg:eqGuard op t x y (.string a) (.string b) = pure ():=by unfold eqGuard; cases op <;> rfl
    rw [hx,hg,hv.2];rfl

def aSliceS (P:Program) (t:TypeId) (s:ByteArray) (lo hi:Option Value):Option Value:=match P.underlying t with
  | some .string => match aBounds s.size s.size lo hi none with
    | some (l,h,_) => some (.string (s.extract l h))
    | none => none
  | _ => none
def aSliceH (P:Program) (H:Heap) (t:TypeId) (x:Value) (lo hi mx:Option Value):Option Value:=match x,mx with
  | .string s,none => aSliceS P t s lo hi
  | x,mx => aSlice P H t x lo hi mx
theorem aSliceH_not (H:Heap) (t:TypeId) {x:Value} (hx:∀ s,x ≠ .string s) (lo hi mx:Option Value):aSliceH P H t x lo hi mx = aSlice P H t x lo hi mx:=by
  unfold aSliceH;split
  · exact absurd rfl (hx _)
  · rfl

theorem aBound_int {x:Value} {y n:Nat} (e:aBound x y = some n):∃ k i,x = .int k i ∧ 0 ≤ i ∧ i ≤ (y:Int) ∧ n = i.toNat:=by
  unfold aBound at e;split at e
  · split at e
    · cases e; exact ⟨_,_,rfl,by omega,by omega,rfl⟩
    · cases e
  · cases e

theorem sliceBound_ok {k:IntKind} {i:Int} {y:Nat} {c:BoundsCode} (h1:0 ≤ i) (h2:i ≤ (y:Int)):Instr.sliceBound (.int k i) y c = pure i.toNat:=by
  unfold Instr.sliceBound;show (if 0 ≤ i ∧ i ≤ (y:Int) then (pure i.toNat:Sem Nat) else boundsPanic k i y c) = _
  rw [if_pos ⟨h1,h2⟩]
theorem aSliceS_ok {t:TypeId} {x:Operand} {lo hi:Option Operand} {ρ:Operand → Value} {o:Oper} {H:Heap} {v:Value} {s:ByteArray} (ho:o.op = .slice t x lo hi none) (hx:ρ x = .string s)
    (h:aSliceS P t s (lo.map ρ) (hi.map ρ) = some v):aOp P ρ o H = some (.val v H):=by
  obtain ⟨dst,op',type,pos,after,guard⟩:=o;cases ho;unfold aSliceS at h;split at h
  case h_2 => cases h
  rename_i hu;split at h
  case h_2 => cases h
  rename_i l hh mm hb;cases h;show orP (valH H (aSlice P H t (ρ x) (lo.map ρ) (hi.map ρ) none)) (aPlain P ρ ⟨dst,.slice t x lo hi none,type,pos,after,guard⟩ H) = _;have hn:aSlice P H t (ρ x) (lo.map ρ) (hi.map ρ) none = none:=by unfold aSlice; rw [hu,hx]
  rw [hn];show aPlain P ρ _ H = _;have key:Zabg P (Instr.sliceAt t (.string s) (lo.map ρ) (hi.map ρ) none) = some (.string (s.extract l hh)) ∧ (∀ y,lo = some y → plain (ρ y) = true) ∧ (∀ y,hi = some y → plain (ρ y) = true):=by
    have red:Zabg P (Instr.sliceAt t (.string s) (lo.map ρ) (hi.map ρ) none) = Zabg P (do let (l,h,_) ← Instr.sliceBounds false s.size s.size (lo.map ρ) (hi.map ρ) none; pure (Value.string (s.extract l h))):=by
      unfold Instr.sliceAt;rw [pureRun_und hu];simp only [];unfold Instr.slice;rw [pureRun_und hu];rfl
    rw [red];unfold aBounds at hb;simp only [] at hb;cases hi with
    | none =>
      simp only [Option.map_none] at hb;cases lo with
      | none => cases hb; exact ⟨rfl,(fun y hy => by cases hy),(fun y hy => by cases hy)⟩
      | some y =>
        simp only [Option.map_some] at hb ⊢;split at hb
        · cases hb
        · rename_i ll hl;cases hb;obtain ⟨k,i,hi1,hi2,hi3,rfl⟩:=aBound_int hl;refine ⟨?_,(fun z hz => by cases hz; rw [hi1]; rfl),(fun z hz => by cases hz)⟩
          rw [hi1];unfold Instr.sliceBounds;show Zabg P (((Instr.sliceBound (.int k i) s.size _).bind _).bind _) = _;rw [sliceBound_ok hi2 hi3];rfl
    | some z =>
      simp only [Option.map_some] at hb;split at hb
      · cases hb
      · rename_i h2 hl2;obtain ⟨k2,i2,hj1,hj2,hj3,rfl⟩:=aBound_int hl2;cases lo with
        | none =>
          simp only [Option.map_none,Option.map_some] at hb ⊢;cases hb;refine ⟨?_,(fun y hy => by cases hy),(fun y hy => by cases hy; rw [hj1]; rfl)⟩
          rw [hj1];unfold Instr.sliceBounds;show Zabg P (((Instr.sliceBound (.int k2 i2) s.size _).bind _).bind _) = _;rw [sliceBound_ok hj2 hj3];rfl
        | some y =>
          simp only [Option.map_some] at hb ⊢;split at hb
          · cases hb
          · rename_i ll hl;cases hb;obtain ⟨k,i,hi1,hi2,hi3,rfl⟩:=aBound_int hl;refine ⟨?_,(fun z hz => by cases hz; rw [hi1]; rfl),(fun z hz => by cases hz; rw [hj1]; rfl)⟩
            rw [hi1,hj1];unfold Instr.sliceBounds;show Zabg P (((Instr.sliceBound (.int k2 i2) s.size _).bind _).bind _) = _;rw [sliceBound_ok hj2 hj3];show Zabg P (((Instr.sliceBound (.int k i) i2.toNat _).bind _).bind _) = _;rw [sliceBound_ok hi2 hi3];rfl
  refine plain_op ?_ ?_ rfl
  · have hp:∀ (l:List Operand),(∀ y ∈ l,plain (ρ y) = true) → allPlain ρ l = true:=by
      intro l
      induction l with
      | nil => intro _; rfl
      | cons y l ih => intro hy; simp only [allPlain,Bool.and_eq_true]; exact ⟨hy y (by simp),ih fun z hz => hy z (by simp [hz])⟩
    apply hp;intro y hy;cases lo <;> cases hi <;> simp [Op.operands] at hy
    · subst hy; rw [hx]; rfl
    · rcases hy with rfl | rfl
      · rw [hx]; rfl
      · exact key.2.2 _ rfl
    · rcases hy with rfl | rfl
      · rw [hx]; rfl
      · exact key.2.1 _ rfl
    · rcases hy with rfl | rfl | rfl
      · rw [hx]; rfl
      · exact key.2.1 _ rfl
      · exact key.2.2 _ rfl
  · have h0:=key.1;rw [← hx] at h0;exact (pureRun_thn (s:=Instr.sliceAt t (ρ x) (lo.map ρ) (hi.map ρ) none) (fun v => Sem.pure (Next.value v)) h0).trans rfl

def binS (op:BinOp) (t:TypeId) (xs ys:Array Value):Sem Value:=(eqGuard op t (.const (.bool true)) (.const (.bool true)) (.agg xs) (.agg ys)).bind fun _ => Go.binOp op t (.agg xs) (.agg ys)
def binA (P:Program) (op:BinOp) (t:TypeId) (xs ys:Array Value):Option Value:=match plain (.agg xs) && plain (.agg ys),Zabg P (binS op t xs ys) with
  | true,some v => cond (plain v) (some v) none
  | _,_ => none
theorem binA_ok {op:BinOp} {t yt:TypeId} {x y:Operand} {ρ:Operand → Value} {o:Oper} {H:Heap} {v:Value} {xs ys:Array Value} (ho:o.op = .binOp op t x y yt) (hx:ρ x = .agg xs) (hy:ρ y = .agg ys) (h:binA P op t xs ys = some v) :
    aOp P ρ o H = some (.val v H):=by
  obtain ⟨dst,op',type,pos,after,guard⟩:=o;cases ho;show kBinSlow P op t x y ρ ⟨dst,.binOp op t x y yt,type,pos,after,guard⟩ H = some (.val v H);unfold binA at h;split at h
  · rename_i u hp hr;cases hv:plain u with
    | false => rw [hv] at h; cases h
    | true =>
      rw [hv] at h;cases h;rw [Bool.and_eq_true] at hp;unfold kBinSlow;have hnil:aIsNilCmp P t (ρ x) (ρ y) = false:=by
        rw [hx,hy]; unfold aIsNilCmp; cases P.underlying t with
        | none => rfl
        | some d => cases d <;> rfl
      have h1:aCmpNil P op t (ρ x) (ρ y) = none:=by unfold aCmpNil; rw [hnil]; cases op <;> rfl
      rw [h1];show aPlain P ρ _ H = _;refine plain_op ?_ ?_ hv
      · simp [Op.operands,allPlain,hx,hy,hp.1,hp.2]
      · unfold execOp;simp only [hx,hy];have hg:eqGuard op t x y (.agg xs) (.agg ys) = eqGuard op t (.const (.bool true)) (.const (.bool true)) (.agg xs) (.agg ys):=by
          unfold eqGuard; cases op <;> rfl
        rw [hg];exact (pureRun_thn (s:=binS op t xs ys) (fun v => Sem.pure (Next.value v)) hr).trans rfl
  · cases h

def binN (op:BinOp) (t:TypeId) (x y:Value):Sem Value:=(eqGuard op t (.const (.bool true)) (.const (.bool true)) x y).bind fun _ => Go.binOp op t x y
def binO (P:Program) (op:BinOp) (t:TypeId) (x y:Value):Option Value:=match aCmpNil P op t x y with
  | some v => some v
  | none => match plain x && plain y,Zabg P (binN op t x y) with
    | true,some v => cond (plain v) (some v) none
    | _,_ => none
theorem binO_ok {op:BinOp} {t yt:TypeId} {x y:Operand} {ρ:Operand → Value} {o:Oper} {H:Heap} {v:Value} (ho:o.op = .binOp op t x y yt) (hs:(∃ a n c b m e,ρ x = .slice a n c ∧ ρ y = .slice b m e) ∨ ∃ a b,ρ x = .pointer a ∧ ρ y = .pointer b) (h:binO P op t (ρ x) (ρ y) = some v) :
    aOp P ρ o H = some (.val v H):=by
  obtain ⟨dst,op',type,pos,after,guard⟩:=o;cases ho;show kBinSlow P op t x y ρ ⟨dst,.binOp op t x y yt,type,pos,after,guard⟩ H = some (.val v H);unfold binO at h;unfold kBinSlow;cases hc:aCmpNil P op t (ρ x) (ρ y) with
  | some u => rw [hc] at h; cases h; rfl
  | none =>
    rw [hc] at h;simp only [] at h;split at h
    · rename_i u hp hr;cases hv:plain u with
      | false => rw [hv] at h; cases h
      | true =>
        rw [hv] at h;cases h;rw [Bool.and_eq_true] at hp;show aPlain P ρ _ H = _;refine plain_op ?_ ?_ hv
        · simp [Op.operands,allPlain,hp.1,hp.2]
        · unfold execOp;simp only [];have hg:eqGuard op t x y (ρ x) (ρ y) = eqGuard op t (.const (.bool true)) (.const (.bool true)) (ρ x) (ρ y):=by
            rcases hs with ⟨a,n,c,b,m,e,h1,h2⟩ | ⟨a,b,h1,h2⟩ <;> rw [h1,h2] <;> unfold eqGuard <;> cases op <;> rfl
          rw [hg];exact (pureRun_thn (s:=binN op t (ρ x) (ρ y)) (fun v => Sem.pure (Next.value v)) hr).trans rfl
    · cases h

def binP (P:Program) (op:BinOp) (t:TypeId) (x y:Value):Option Value:=match x,y with
  | .bool a,.bool b => match P.underlying t,op with
    | some .bool,.eql => some (.bool (a == b))
    | some .bool,.neq => some (.bool (!(a == b)))
    | _,_ => none
  | .agg xs,.agg ys => binA P op t xs ys
  | .string a,.string b => strBin op a b
  | .slice a n c,.slice b m e => binO P op t (.slice a n c) (.slice b m e)
  | .pointer a,.pointer b => binO P op t (.pointer a) (.pointer b)
  | _,_ => bin op x y
theorem Zaad (op:BinOp) (t:TypeId) (k:IntKind) (a b:Int):binP P op t (.int k a) (.int k b) = Zabb op k a b:=bin_int op k a b
theorem binP_neq {t:TypeId} (h:P.underlying t = some .bool) (a b:Bool):binP P .neq t (.bool a) (.bool b) = some (.bool (!(a == b))):=by unfold binP; rw [h]
theorem equal_bool {t:TypeId} (h:P.underlying t = some .bool) (a b:Bool):Zabg P (Op.equal t (.bool a) (.bool b)) = some (a == b):=by
  unfold Op.equal;rw [show Op.maxDepth = 9999 + 1 from rfl]
  unfold Op.equalIn;rw [pureRun_und h];rfl
theorem binP_ok {op:BinOp} {t yt:TypeId} {x y:Operand} {ρ:Operand → Value} {o:Oper} {H:Heap} {v:Value} (ho:o.op = .binOp op t x y yt) (h:binP P op t (ρ x) (ρ y) = some v) :
    aOp P ρ o H = some (.val v H):=by
  unfold binP at h;split at h
  · rename_i a b ha hb;obtain ⟨dst,op',type,pos,after,guard⟩:=o;cases ho;show kBinSlow P op t x y ρ ⟨dst,.binOp op t x y yt,type,pos,after,guard⟩ H = some (.val v H);have hu:P.underlying t = some .bool:=by
      cases hq:P.underlying t with
      | none => rw [hq] at h; cases op <;> cases h
      | some d =>
        rw [hq] at h;cases d <;> first
          | rfl
          | (cases op <;> cases h)
    rw [hu] at h;have key:∃ c:Bool,v = .bool c ∧ ((op = .eql ∧ c = (a == b)) ∨ (op = .neq ∧ c = !(a == b))):=by
      cases op <;> simp only [] at h <;> first
        | (cases h; done)
        | (cases h; exact ⟨_,rfl,.inl ⟨rfl,rfl⟩⟩)
        | (cases h; exact ⟨_,rfl,.inr ⟨rfl,rfl⟩⟩)
    obtain ⟨c,rfl,hop⟩:=key;unfold kBinSlow;have hnil:aIsNilCmp P t (ρ x) (ρ y) = false:=by
      rw [ha,hb]; unfold aIsNilCmp; rw [hu]
    have h1:aCmpNil P op t (ρ x) (ρ y) = none:=by unfold aCmpNil; rw [hnil]; cases op <;> rfl
    rw [h1];show aPlain P ρ _ H = _;refine plain_op ?_ ?_ rfl
    · simp [Op.operands,allPlain,ha,hb,plain]
    · have he:=equal_bool hu a b;rcases hop with ⟨rfl,rfl⟩ | ⟨rfl,rfl⟩
      · unfold execOp;simp only [ha,hb];show Zabg P ((Sem.bind (Op.equal t (.bool a) (.bool b)) fun r => Sem.pure (Value.bool r)).bind fun v => Sem.pure (Next.value v)) = _
        rw [pureRun_thn (a:=Value.bool (a == b)) _ ((pureRun_thn (s:=Op.equal t (.bool a) (.bool b)) (fun r => Sem.pure (Value.bool r)) he).trans rfl)]
        rfl
      · unfold execOp;simp only [ha,hb];show Zabg P ((Sem.bind (Op.equal t (.bool a) (.bool b)) fun r => Sem.pure (Value.bool (!r))).bind fun v => Sem.pure (Next.value v)) = _
        rw [pureRun_thn (a:=Value.bool (!(a == b))) _ ((pureRun_thn (s:=Op.equal t (.bool a) (.bool b)) (fun r => Sem.pure (Value.bool (!r))) he).trans rfl)]
        rfl
  · rename_i xs ys hx hy;exact binA_ok ho hx hy h
  · rename_i a b hx hy;exact strBin_ok ho hx hy h
  · rename_i hx hy;exact binO_ok ho (.inl ⟨_,_,_,_,_,_,hx,hy⟩) (by rw [hx,hy]; exact h)
  · rename_i hx hy;exact binO_ok ho (.inr ⟨_,_,hx,hy⟩) (by rw [hx,hy]; exact h)
  · exact bin_ok ho h

def aMinMax (b:Builtin) (x y:Value):Option Value:=match b,x,y with
  | .max,.int k a,.int _ c => some (.int k (if c > a then c else a))
  | .min,.int k a,.int _ c => some (.int k (if c < a then c else a))
  | _,_,_ => none
theorem aMinMax_ok {b:Builtin} {c:Call} {x y:Operand} {ρ:Operand → Value} {o:Oper} {H:Heap} {v:Value} (ho:o.op = .call c) (hc:c.callee = .builtin b) (ha:c.args.toList = [x,y])
    (h:aMinMax b (ρ x) (ρ y) = some v):aOp P ρ o H = some (.val v H):=by
  obtain ⟨dst',op',type,pos,after,guard⟩:=o;cases ho;obtain ⟨callee,args,a3⟩:=c;cases hc;obtain rfl:args = #[x,y]:=by cases args; simp_all
  unfold aMinMax at h;split at h
  · rename_i k a k' d h1 h2;cases h;show aPlain P ρ _ H = _;refine plain_op ?_ ?_ rfl
    · simp [Op.operands,Call.operands,allPlain,h1,h2,plain]
    · unfold execOp;simp [resolve,invoke,builtin,Builtin.max_,Builtin.max2,h1,h2];rfl
  · rename_i k a k' d h1 h2;cases h;show aPlain P ρ _ H = _;refine plain_op ?_ ?_ rfl
    · simp [Op.operands,Call.operands,allPlain,h1,h2,plain]
    · unfold execOp;simp [resolve,invoke,builtin,Builtin.min_,Builtin.min2,h1,h2];rfl
  · cases h

/-! A call. -/
def sxCallV (P:Program) (S:Sys) (f:Value) (args:List Value) (H:Heap) (K:Value → Heap → Prop):Prop:=match f with
  | .func (.func k) ⟨a⟩ ⟨b⟩ => WCall P S (.fn k) (a ++ args ++ b) H K
  | .func (.yield l) ⟨[]⟩ ⟨[]⟩ => WCall P S (.rnd l) args H K
  | _ => False
@[congr] theorem sxCallV_congr {f f':Value} {args args':List Value} {H H':Heap} {K:Value → Heap → Prop} (h1:f = f') (h2:args = args') (h3:H = H'):sxCallV P S f args H K = sxCallV P S f' args' H' K:=by rw [h1,h2,h3]
@[congr] theorem WCall_congr {t:Tgt} {args args':List Value} {H H':Heap} {K:Value → Heap → Prop} (h2:args = args') (h3:H = H'):WCall P S t args H K = WCall P S t args' H' K:=by rw [h2,h3]

def sxCall (P:Program) (S:Sys) (c:Call) (ρ:F) (H:Heap) (K:Value → Heap → Prop):Prop:=match c.callee with
  | .builtin b => match b,c.args.toList with
    | .len,[x] => sxOpt (aLen P c.argTypes (ev ρ x)) fun v => K v H
    | .cap,[x] => sxOpt (aCap P H c.argTypes (ev ρ x)) fun v => K v H
    | .append,[s,x] => sxOpt (aAppend P H c.argTypes (ev ρ s) (ev ρ x)) fun r => K r.1 r.2
    | .copy,[s,x] => sxOpt (aCopy P H c.argTypes (ev ρ s) (ev ρ x)) fun r => K r.1 r.2
    | .clear,[x] => sxOpt (aClear P H c.argTypes (ev ρ x)) fun r => K r.1 r.2
    | .max,[s,x] => sxOpt (aMinMax .max (ev ρ s) (ev ρ x)) fun v => K v H
    | .min,[s,x] => sxOpt (aMinMax .min (ev ρ s) (ev ρ x)) fun v => K v H
    | _,_ => False
  | .value f => sxCallV P S (ev ρ f) (c.args.toList.map (ev ρ)) H K
  | .invoke _ _ => False

def sxOp (P:Program) (S:Sys) (o:Oper) (ρ:F) (H:Heap) (K:Value → Heap → Prop):Prop:=match o.op with
  | .move x => K (ev ρ x) H
  | .assign x => K (ev ρ x) H
  | .pick c a b => sxOpt (aPick (ev ρ c) (ev ρ a) (ev ρ b)) fun v => K v H
  | .alloc t => sxOpt (aAlloc P H t) fun r => K r.1 r.2
  | .box t x => K (.pointer (some ⟨H.size,0,none⟩)) (H.newExact (ev ρ x).cells.toList t)
  | .build t parts => sxOpt (aBuild P t (parts.toList.map fun p => (p.1,ev ρ p.2))) fun v => K v H
  | .buildSlice t n parts => sxOpt (aBuildSlice P H t n (parts.toList.map fun p => (p.1,ev ρ p.2))) fun r => K r.1 r.2
  | .load t a => sxOpt (aLoad P H t (ev ρ a)) fun v => K v H
  | .store t a x => sxOpt (aStore P H t (ev ρ a) (ev ρ x)) fun H' => K undef H'
  | .nilCheck x => sxOpt (aNilCheck (ev ρ x)) fun v => K v H
  | .binOp op t x y _ => sxOpt (binP P op t (ev ρ x) (ev ρ y)) fun v => K v H
  | .unOp op _ x => sxOpt (una op (ev ρ x)) fun v => K v H
  | .convert s t x => sxOpt (aConvH P H s t (ev ρ x)) fun v => K v H
  | .makeInterface t x => sxOpt (aMakeI P t (ev ρ x)) fun v => K v H
  | .makeFunc fn first captured => notYield fn = true ∧ K (.func fn ⟨first.toList.map (ev ρ)⟩ ⟨captured.toList.map (ev ρ)⟩) H
  | .makeSlice t l c => sxOpt (aMakeSlice P H t (ev ρ l) (ev ρ c)) fun r => K r.1 r.2
  | .slice t x lo hi mx => sxOpt (aSliceH P H t (ev ρ x) (lo.map (ev ρ)) (hi.map (ev ρ)) (mx.map (ev ρ))) fun v => K v H
  | .fieldAddr s x f => sxOpt (aFieldAt P s f (ev ρ x)) fun v => K v H
  | .field t x f => sxOpt (aField P t (ev ρ x) f) fun v => K v H
  | .indexAddr t x ix => sxOpt (aIndexAt P t (ev ρ x) (ev ρ ix)) fun v => K v H
  | .index t x ix => sxOpt (aIndex P t (ev ρ x) (ev ρ ix)) fun v => K v H
  | .typeAssert x _ t ok => sxOpt (aAssert P (ev ρ x) t ok) fun v => K v H
  | .extract x i => sxOpt (aExtract (ev ρ x) i) fun v => K v H
  | .call c => sxCall P S c ρ H K
  | .makeMap t r => sxOpt (aMakeMap P H t (r.map (ev ρ))) fun r => K r.1 r.2
  | .range t x => sxOpt (aRange P H t (ev ρ x)) fun r => K r.1 r.2
  | .next it b => sxOpt (aNext H (ev ρ it) b) fun r => K r.1 r.2
  | .entry it => sxOpt (aItEntry H (ev ρ it)) fun v => K v H
  | .lookup t x ix ok => sxOpt (aLookup P H t (ev ρ x) (ev ρ ix) ok) fun v => K v H
  | .mapUpdate t x k v => sxOpt (aMapUpdate P H t (ev ρ x) (ev ρ k) (ev ρ v)) fun H' => K undef H'
  | .insert t x k v => sxOpt (aMapUpdate P H t (ev ρ x) (ev ρ k) (ev ρ v)) fun H' => K undef H'
  | .mapEntry t x k => sxOpt (aMapEntry P H t (ev ρ x) (ev ρ k)) fun r => K r.1 r.2
  | .entryStore _ x k v => sxOpt (aEntryStore H (ev ρ x) (ev ρ k) (ev ρ v)) fun H' => K undef H'
  | _ => False

section eqs
variable {d:Option Tmp} {ty:TypeId} {pos:String} {af:Array Edge} {g:Option (Nat × Bool)} {ρ:F} {H:Heap} {K:Value → Heap → Prop}
end eqs

def OpRuns (P:Program) (S:Sys) (o:Oper) (ρ:Operand → Value) (H:Heap) (K:Value → Heap → Prop):Prop:=
  ∃ D d v H',aOpRun P (oCallN P S D d) ρ o H = some (v,H') ∧ K v H'

theorem opRuns_val {o:Oper} {ρ:Operand → Value} {H H':Heap} {K:Value → Heap → Prop} {v:Value} (h:aOp P ρ o H = some (.val v H')) (k:K v H'):OpRuns P S o ρ H K:=
  ⟨0,0,v,H',by unfold aOpRun; rw [h],k⟩

theorem opRuns_valH {o:Oper} {ρ:Operand → Value} {H:Heap} {K:Value → Heap → Prop} {x:Option Value} (h:aOp P ρ o H = valH H x) (k:sxOpt x fun v => K v H):OpRuns P S o ρ H K:=by
  obtain ⟨v,rfl,k⟩:=k;exact opRuns_val h k
theorem opRuns_orH {o:Oper} {ρ:Operand → Value} {H:Heap} {K:Value → Heap → Prop} {x:Option Value} {y:Option AStep} (h:aOp P ρ o H = orP (valH H x) y) (k:sxOpt x fun v => K v H):OpRuns P S o ρ H K:=by
  obtain ⟨v,rfl,k⟩:=k;exact opRuns_val h k
theorem opRuns_orHH {o:Oper} {ρ:Operand → Value} {H:Heap} {K:Value → Heap → Prop} {x:Option Value} {y z:Option AStep} (h:aOp P ρ o H = orP (orP (valH H x) y) z) (k:sxOpt x fun v => K v H):OpRuns P S o ρ H K:=by
  obtain ⟨v,rfl,k⟩:=k;exact opRuns_val h k
theorem opRuns_st {o:Oper} {ρ:Operand → Value} {H:Heap} {K:Value → Heap → Prop} {x:Option Heap} (h:aOp P ρ o H = match x with
      | some H' => some (.val undef H')
      | none => none) (k:sxOpt x fun H' => K undef H'):OpRuns P S o ρ H K:=by
  obtain ⟨H',rfl,k⟩:=k;exact opRuns_val h k
theorem opRuns_valP {o:Oper} {ρ:Operand → Value} {H:Heap} {K:Value → Heap → Prop} {x:Option (Value × Heap)} (h:aOp P ρ o H = valP x) (k:sxOpt x fun r => K r.1 r.2):OpRuns P S o ρ H K:=by
  obtain ⟨⟨v,H'⟩,rfl,k⟩:=k;exact opRuns_val h k
theorem opRuns_orPP {o:Oper} {ρ:Operand → Value} {H:Heap} {K:Value → Heap → Prop} {x:Option (Value × Heap)} {y:Option AStep} (h:aOp P ρ o H = orP (valP x) y) (k:sxOpt x fun r => K r.1 r.2):OpRuns P S o ρ H K:=by
  obtain ⟨⟨v,H'⟩,rfl,k⟩:=k;exact opRuns_val h k

theorem sxCall_sound {c:Call} {o:Oper} (ho:o.op = .call c) {ρ:F} {H:Heap} {K:Value → Heap → Prop} (h:sxCall P S c ρ H K):OpRuns P S o (ev ρ) H K:=by
  obtain ⟨dst,op',type,pos,after,guard⟩:=o;cases ho;have e0:aOp P (ev ρ) ⟨dst,.call c,type,pos,after,guard⟩ H = aCall P (ev ρ) ⟨dst,.call c,type,pos,after,guard⟩ c H:=rfl;unfold sxCall at h;cases hc:c.callee with
  | builtin b =>
    rw [hc] at h;simp only [] at h;split at h
    · rename_i x hargs;exact opRuns_orHH (y:=valH H (aMapLen P H c.argTypes (ev ρ x))) (z:=aPlain P (ev ρ) ⟨dst,.call c,type,pos,after,guard⟩ H) (by rw [e0]; unfold aCall argL; rw [hc,hargs]; rfl) h
    · rename_i x hargs;exact opRuns_orH (y:=aPlain P (ev ρ) ⟨dst,.call c,type,pos,after,guard⟩ H) (by rw [e0]; unfold aCall argL; rw [hc,hargs]; rfl) h
    · rename_i s x hargs;exact opRuns_orPP (y:=valP (aAppendZ P H c.argTypes (ev ρ s) (ev ρ x))) (by rw [e0]; unfold aCall argL; rw [hc,hargs]; rfl) h
    · rename_i s x hargs;exact opRuns_orPP (y:=aPlain P (ev ρ) ⟨dst,.call c,type,pos,after,guard⟩ H) (by rw [e0]; unfold aCall argL; rw [hc,hargs]; rfl) h
    · rename_i x hargs;exact opRuns_orPP (y:=aPlain P (ev ρ) ⟨dst,.call c,type,pos,after,guard⟩ H) (by rw [e0]; unfold aCall argL; rw [hc,hargs]; rfl) h
    · rename_i s x hargs;obtain ⟨v,hv,k⟩:=h;exact opRuns_val (aMinMax_ok rfl hc hargs hv) k
    · rename_i s x hargs;obtain ⟨v,hv,k⟩:=h;exact opRuns_val (aMinMax_ok rfl hc hargs hv) k
    · exact h.elim
  | value f =>
    rw [hc] at h;simp only [] at h;unfold sxCallV at h;split at h
    · rename_i k a b hf;obtain ⟨v,H',⟨D,d,hr⟩,k2⟩:=h;refine ⟨D,d,v,H',?_,k2⟩;unfold aOpRun;rw [e0];unfold aCall argL;rw [hc];simp only [hf];exact hr
    · rename_i l hf;obtain ⟨v,H',⟨D,d,hr⟩,k2⟩:=h;refine ⟨D,d,v,H',?_,k2⟩;unfold aOpRun;rw [e0];unfold aCall argL;rw [hc];simp only [hf];exact hr
    · exact h.elim
  | invoke r m => rw [hc] at h; exact h.elim

theorem sxOp_sound {o:Oper} {ρ:F} {H:Heap} {K:Value → Heap → Prop} (h:sxOp P S o ρ H K):OpRuns P S o (ev ρ) H K:=by
  obtain ⟨dst,op,type,pos,after,guard⟩:=o;cases op
  case move x => exact opRuns_val rfl h
  case assign x => exact opRuns_val rfl h
  case pick c a b =>
    obtain ⟨v,hv,k⟩:=(show sxOpt (aPick (ev ρ c) (ev ρ a) (ev ρ b)) fun v => K v H from h)
    refine opRuns_val (v:=v) ?_ k
    show (match ev ρ c with
      | .bool t => some (AStep.val (cond t (ev ρ a) (ev ρ b)) H)
      | _ => none) = some (AStep.val v H)
    unfold aPick at hv;split at hv
    · cases hv; rfl
    · cases hv
  case alloc t => exact opRuns_valP rfl h
  case box t x => exact opRuns_val rfl h
  case build t ps => exact opRuns_valH rfl h
  case buildSlice t n ps => exact opRuns_valP rfl h
  case load t a => exact opRuns_valH rfl h
  case store t a x =>
    obtain ⟨H',hv,k⟩:=(show sxOpt (aStore P H t (ev ρ a) (ev ρ x)) fun H' => K undef H' from h)
    refine opRuns_val (v:=undef) (H':=H') ?_ k
    show (match aStore P H t (ev ρ a) (ev ρ x) with
      | some H' => some (AStep.val undef H')
      | none => none) = some (AStep.val undef H')
    rw [hv]
  case nilCheck x => exact opRuns_orH rfl h
  case binOp op t x y yt =>
    obtain ⟨v,hv,k⟩:=(show sxOpt (binP P op t (ev ρ x) (ev ρ y)) fun v => K v H from h)
    exact opRuns_val (binP_ok rfl hv) k
  case unOp op t x =>
    obtain ⟨v,hv,k⟩:=(show sxOpt (una op (ev ρ x)) fun v => K v H from h)
    exact opRuns_val (una_ok rfl hv) k
  case convert s t x =>
    obtain ⟨v,hv,k⟩:=(show sxOpt (aConvH P H s t (ev ρ x)) fun v => K v H from h)
    exact opRuns_val (aConvH_ok rfl hv) k
  case makeInterface t x => exact opRuns_valH rfl h
  case makeFunc fn a b =>
    obtain ⟨hn,k⟩:=(show notYield fn = true ∧ K (.func fn ⟨a.toList.map (ev ρ)⟩ ⟨b.toList.map (ev ρ)⟩) H from h)
    refine opRuns_val ?_ k;show cond (notYield fn) _ none = _;rw [hn]; rfl
  case makeSlice t l c => exact opRuns_valP rfl h
  case slice t x lo hi mx =>
    obtain ⟨v,hv,k⟩:=(show sxOpt (aSliceH P H t (ev ρ x) (lo.map (ev ρ)) (hi.map (ev ρ)) (mx.map (ev ρ))) fun v => K v H from h)
    by_cases hs:∃ s,ev ρ x = .string s
    · obtain ⟨s,hs⟩:=hs;cases mx with
      | none =>
        rw [hs] at hv;exact opRuns_val (aSliceS_ok rfl hs hv) k
      | some m =>
        refine opRuns_orH rfl ⟨v,?_,k⟩;rw [hs] at hv ⊢;exact hv
    · rw [aSliceH_not H t (fun s hc => hs ⟨s,hc⟩)] at hv
      exact opRuns_orH rfl ⟨v,hv,k⟩
  case fieldAddr s x f => exact opRuns_valH rfl h
  case field s x f => exact opRuns_valH rfl h
  case indexAddr t x ix => exact opRuns_valH rfl h
  case index t x ix => exact opRuns_valH rfl h
  case typeAssert x xt t ok => exact opRuns_orH rfl h
  case extract x i => exact opRuns_valH rfl h
  case call c => exact sxCall_sound rfl h
  case makeMap t r => exact opRuns_valP rfl h
  case range t x => exact opRuns_valP rfl h
  case next it b => exact opRuns_valP rfl h
  case entry it => exact opRuns_valH rfl h
  case lookup t x ix ok => exact opRuns_orH rfl h
  case mapUpdate t x k v => exact opRuns_st rfl h
  case insert t x k v => exact opRuns_st rfl h
  case mapEntry t x k => exact opRuns_valP rfl h
  case entryStore t x k v => exact opRuns_st rfl h
  all_goals exact False.elim h

end Go.AM

namespace Go.AM

variable {P:Program} {S:Sys} {N:Nat}

/-! Regions. -/

def sxPut (N:Nat) (d:Option Tmp) (ρ:F) (v:Value) (k:F → Prop):Prop:=match d with
  | none => k ρ
  | some t => t < N ∧ k (upd ρ t v)
theorem Zacl {ρ:F} {v:Value} {k:F → Prop}:sxPut N none ρ v k = k ρ:=rfl
theorem sxPut_some {t:Tmp} {ρ:F} {v:Value} {k:F → Prop}:sxPut N (some t) ρ v k = (t < N ∧ k (upd ρ t v)):=rfl

theorem sxPut_fr {d:Option Tmp} {ρ:F} {v:Value} {k:F → Prop} (h:sxPut N d ρ v k) {a:Act} (ha:Fr N ρ a):∃ ρ',Fr N ρ' (a.put d v) ∧ k ρ':=by
  cases d with
  | none => exact ⟨ρ,ha,h⟩
  | some t => exact ⟨_,ha.put h.1 v,h.2⟩

def dstAt:List Oper → Nat → Option Tmp
  | [],_ => none
  | o :: _,0 => o.dst
  | _ :: l,n + 1 => dstAt l n
theorem dstAt_eq:∀ (l:List Oper) (n:Nat),dstAt l n = (l[n]?).bind (·.dst)
  | [],_ => by simp [dstAt]
  | _ :: _,0 => by simp [dstAt]
  | _ :: l,n + 1 => by simp [dstAt,dstAt_eq l n]

def gval (ρ:F) (d:Option Tmp):Value:=match d with
  | some t => ρ t
  | none => undef
theorem Zaba (ρ:F) (t:Tmp):gval ρ (some t) = ρ t:=rfl

def sxGuard (w:Bool) (v:Value) (X Y:Prop):Prop:=match v with
  | .bool b => (b = w → X) ∧ (b = !w → Y)
  | _ => Y
theorem sxGuard_tt (X Y:Prop):sxGuard true (.bool true) X Y = X:=by simp [sxGuard]
theorem sxGuard_tf (X Y:Prop):sxGuard true (.bool false) X Y = Y:=by simp [sxGuard]
theorem sxGuard_ft (X Y:Prop):sxGuard false (.bool true) X Y = Y:=by simp [sxGuard]
theorem sxGuard_ff (X Y:Prop):sxGuard false (.bool false) X Y = X:=by simp [sxGuard]
theorem sxGuard_td (p:Prop) [Decidable p] (X Y:Prop):sxGuard true (.bool (decide p)) X Y = ((p → X) ∧ (¬ p → Y)):=by simp [sxGuard]
theorem sxGuard_fd (p:Prop) [Decidable p] (X Y:Prop):sxGuard false (.bool (decide p)) X Y = ((p → Y) ∧ (¬ p → X)):=by
  simp only [sxGuard,decide_eq_false_iff_not,Bool.not_false,decide_eq_true_eq];exact propext ⟨fun h => ⟨h.2,h.1⟩,fun h => ⟨h.2,h.1⟩⟩
@[congr] theorem sxGuard_congr {w:Bool} {v v':Value} {X Y:Prop} (h:v = v'):sxGuard w v X Y = sxGuard w v' X Y:=by rw [h]

def sxStep (P:Program) (S:Sys) (N:Nat) (all:List Oper) (o:Oper) (ρ:F) (H:Heap) (K:F → Heap → Prop):Prop:=match o.guard with
  | none => sxOp P S o ρ H fun v H' => sxPut N o.dst ρ v fun ρ' => K ρ' H'
  | some (g,w) => sxGuard w (gval ρ (dstAt all g)) (sxOp P S o ρ H fun v H' => sxPut N o.dst ρ v fun ρ' => K ρ' H') (sxPut N o.dst ρ undef fun ρ' => K ρ' H)
theorem Zaco {all d op ty pos af} {ρ:F} {H:Heap} {K:F → Heap → Prop}:sxStep P S N all ⟨d,op,ty,pos,af,none⟩ ρ H K = sxOp P S ⟨d,op,ty,pos,af,none⟩ ρ H fun v H' => sxPut N d ρ v fun ρ' => K ρ' H':=rfl
def sxOps (P:Program) (S:Sys) (N:Nat) (all:List Oper):List Oper → F → Heap → (F → Heap → Prop) → Prop
  | [],ρ,H,Q => Q ρ H
  | o :: l,ρ,H,Q => sxStep P S N all o ρ H fun ρ' H' => sxOps P S N all l ρ' H' Q
theorem Zacj {all} {ρ:F} {H:Heap} {Q:F → Heap → Prop}:sxOps P S N all [] ρ H Q = Q ρ H:=rfl
theorem Zaci {all o l} {ρ:F} {H:Heap} {Q:F → Heap → Prop}:sxOps P S N all (o :: l) ρ H Q = sxStep P S N all o ρ H fun ρ' H' => sxOps P S N all l ρ' H' Q:=rfl

def barS (ops:Array Oper) (i:Nat):Bool:=
  ((List.range i).all fun k => freeAt ops k || ((masks ops).getD i 0).testBit k) && behind ops i
theorem barS_ok {ops:Array Oper} {i:Nat} (h:barS ops i = true) (ρ:Operand → Value) (H H1:Heap):barrier P ops ρ H H1 i = true:=by
  unfold barS at h;unfold barrier;simp only [Bool.and_eq_true,List.all_eq_true,Bool.or_eq_true] at h ⊢;exact ⟨fun k hk => (h.1 k hk).imp id .inl,h.2⟩

def lates (ops:Array Oper) (i:Nat):List Nat:=(List.range i).filter fun k => !(freeAt ops k || ((masks ops).getD i 0).testBit k)
def barT (ops:Array Oper) (i:Nat):Bool:=behind ops i
def barL (P:Program) (ops:Array Oper) (i:Nat) (ρ:Operand → Value) (H H1:Heap):Prop:=barT ops i = true ∧ ∀ k ∈ lates ops i,lateB P ops ρ H H1 k i = true
theorem barL_ok {ops:Array Oper} {i:Nat} {ρ:Operand → Value} {H H1:Heap} (h:barL P ops i ρ H H1):barrier P ops ρ H H1 i = true:=by
  obtain ⟨h1,h2⟩:=h;unfold barT at h1;unfold barrier;simp only [Bool.and_eq_true,List.all_eq_true,Bool.or_eq_true];refine ⟨fun k hk => ?_,h1⟩
  by_cases hf:freeAt ops k = true
  · exact .inl hf
  · by_cases hm:((masks ops).getD i 0).testBit k = true
    · exact .inr (.inl hm)
    · refine .inr (.inr (h2 k ?_));unfold lates;rw [List.mem_filter];exact ⟨hk,by simp only [Bool.not_eq_true'] ; simp only [Bool.not_eq_true] at hf hm; rw [hf,hm]; rfl⟩
def drawC (P:Program) (all:List Oper) (n:Nat) (op:Op) (ρ:F) (H H1:Heap):Prop:=match op with
  | .store _ _ _ => H.size ≤ H1.low ∨ barS ⟨all⟩ (all.length - (n + 1)) = true ∨ barL P ⟨all⟩ (all.length - (n + 1)) (ev ρ) H H1
  | .call _ => H.size ≤ H1.low ∨ barS ⟨all⟩ (all.length - (n + 1)) = true ∨ barL P ⟨all⟩ (all.length - (n + 1)) (ev ρ) H H1
  | _ => H.size ≤ H1.low ∨ barS ⟨all⟩ (all.length - (n + 1)) = true
theorem drawC_or {all:List Oper} {n:Nat} {op:Op} {ρ:F} {H H1:Heap} (h:drawC P all n op ρ H H1):H.size ≤ H1.low ∨ barS ⟨all⟩ (all.length - (n + 1)) = true ∨ barL P ⟨all⟩ (all.length - (n + 1)) (ev ρ) H H1:=by
  unfold drawC at h;split at h
  · exact h
  · exact h
  · exact h.imp id .inl

def sxDraw (P:Program) (S:Sys) (N:Nat) (all:List Oper):List Oper → F → Heap → (F → Heap → Prop) → Prop
  | [],ρ,H,Q => Q ρ H
  | o :: l,ρ,H,Q => sxStep P S N all o ρ (H.relow H.size) fun ρ' H1 => drawC P all l.length o.op ρ H H1 ∧ sxDraw P S N all l ρ' (H1.relow (Nat.min H.low H1.low)) Q
theorem Zacc {all} {ρ:F} {H:Heap} {Q:F → Heap → Prop}:sxDraw P S N all [] ρ H Q = Q ρ H:=rfl
theorem yielded_gval {ops:Array Oper} {ρ:F} {a:Act} (h:Fr N ρ a) (g:Nat) {b:Bool} (hv:gval ρ (dstAt ops.toList g) = .bool b):yielded ops a.tmps g = some b:=by
  rw [yielded_eq];rw [dstAt_eq] at hv;simp only [Array.getElem?_toList] at hv;cases hd:(ops[g]?).bind (·.dst) with
  | none => rw [hd] at hv; cases hv
  | some t =>
    rw [hd] at hv;have hv:ρ t = .bool b:=hv;simp only [Option.bind_some];have hg:=h.get t;rw [hv,Array.getD_eq_getD_getElem?] at hg;cases ht:a.tmps[t]? with
    | none => rw [ht] at hg; cases hg
    | some x => rw [ht] at hg; simp only [Option.getD_some] at hg; rw [hg]; rfl

theorem yielded_other {ops:Array Oper} {ρ:F} {a:Act} (h:Fr N ρ a) (g:Nat) (hv:∀ b,gval ρ (dstAt ops.toList g) = .bool b → False):yielded ops a.tmps g = none:=by
  rw [yielded_eq];rw [dstAt_eq] at hv;simp only [Array.getElem?_toList] at hv;cases hd:(ops[g]?).bind (·.dst) with
  | none => rfl
  | some t =>
    rw [hd] at hv;have hv:∀ b,ρ t = .bool b → False:=hv;simp only [Option.bind_some];have hg:=h.get t;rw [Array.getD_eq_getD_getElem?] at hg;cases ht:a.tmps[t]? with
    | none => rfl
    | some x =>
      rw [ht] at hg;simp only [Option.getD_some] at hg;rw [hg];unfold yB;split
      · rename_i b hb; exact (hv b (Option.some.inj hb)).elim
      · rfl

theorem sxStep_sound {ops:Array Oper} {o:Oper} {ρ:F} {H:Heap} {K:F → Heap → Prop} (h:sxStep P S N ops.toList o ρ H K) {a:Act} (ha:Fr N ρ a) :
    ∃ D d v H' ρ',aStep P (oCallN P S D d) ops o a H = some (v,H') ∧ Fr N ρ' (a.put o.dst v) ∧ K ρ' H':=by
  have run:∀ K',sxOp P S o ρ H K' → ∃ D d v H',aOpRun P (oCallN P S D d) a.eval o H = some (v,H') ∧ K' v H':=fun K' hk => by
    rw [ha.eval]; exact sxOp_sound hk
  unfold sxStep at h;unfold aStep;cases hg:o.guard with
  | none =>
    rw [hg] at h;obtain ⟨D,d,v,H',hr,hk⟩:=run _ h;obtain ⟨ρ',hf,hk⟩:=sxPut_fr hk ha;refine ⟨D,d,v,H',ρ',?_,hf,hk⟩;rw [show Region.wanted o (yielded ops a.tmps) = true from by unfold Region.wanted; rw [hg]]
    exact hr
  | some gw =>
    obtain ⟨g,w⟩:=gw;rw [hg] at h;simp only [] at h;unfold sxGuard at h;split at h
    · rename_i b hb;have hy:=yielded_gval ha g hb;have hw:Region.wanted o (yielded ops a.tmps) = (b == w):=by
        unfold Region.wanted; rw [hg]; simp only [hy]; cases b <;> cases w <;> rfl
      by_cases hbw:b = w
      · obtain ⟨D,d,v,H',hr,hk⟩:=run _ (h.1 hbw);obtain ⟨ρ',hf,hk⟩:=sxPut_fr hk ha;refine ⟨D,d,v,H',ρ',?_,hf,hk⟩;rw [hw,hbw,show (w == w) = true from by simp,cond_true]
        exact hr
      · have hk:=h.2 (by cases b <;> cases w <;> first | rfl | exact absurd rfl hbw)
        obtain ⟨ρ',hf,hk⟩:=sxPut_fr hk ha;refine ⟨0,0,undef,H,ρ',?_,hf,hk⟩;rw [hw,show (b == w) = false from by simpa using hbw,cond_false]
    · rename_i hnb;obtain ⟨ρ',hf,hk⟩:=sxPut_fr h ha;refine ⟨0,0,undef,H,ρ',?_,hf,hk⟩;rw [show Region.wanted o (yielded ops a.tmps) = false from by unfold Region.wanted; rw [hg]; simp only [yielded_other ha g hnb]; rfl,cond_false]

theorem sxOps_sound {ops:Array Oper}:∀ {l:List Oper} {ρ:F} {H:Heap} {Q:F → Heap → Prop},sxOps P S N ops.toList l ρ H Q → ∀ {a:Act},Fr N ρ a →
    ∃ D d a' H' ρ',aOps P (oCallN P S D d) ops l a H = some (a',H') ∧ Fr N ρ' a' ∧ Q ρ' H'
  | [],ρ,H,Q,h,a,ha => ⟨0,0,a,H,ρ,rfl,ha,h⟩
  | o :: l,ρ,H,Q,h,a,ha => by
    obtain ⟨D,d,v,H1,ρ1,hs,hf,hk⟩:=sxStep_sound h ha;obtain ⟨D',d',a',H',ρ',hr,hf',hq⟩:=sxOps_sound hk hf;refine ⟨max D D',max d d',a',H',ρ',?_,hf',hq⟩;unfold aOps;rw [aStep_le (oCallN_le (Nat.le_max_left D D') (Nat.le_max_left d d')) hs];exact aOps_le (oCallN_le (Nat.le_max_right D D') (Nat.le_max_right d d')) hr

theorem sxDraw_sound {ops:Array Oper}:∀ {l:List Oper} {i:Nat} {ρ:F} {H:Heap} {Q:F → Heap → Prop},ops.toList.drop i = l → sxDraw P S N ops.toList l ρ H Q → ∀ {a:Act},Fr N ρ a →
    ∃ D d a' H' ρ',aDraw P (oCallN P S D d) ops l.length i a H = some (a',H') ∧ Fr N ρ' a' ∧ Q ρ' H'
  | [],i,ρ,H,Q,_,h,a,ha => ⟨0,0,a,H,ρ,rfl,ha,h⟩
  | o :: l,i,ρ,H,Q,hl,h,a,ha => by
    obtain ⟨D,d,v,H1,ρ1,hs,hf,hn,hk⟩:=sxStep_sound h ha;have ho:ops[i]? = some o:=by
      rw [← Array.getElem?_toList];have:=congrArg (fun l => l[0]?) hl
      simpa using this
    have hl':ops.toList.drop (i + 1) = l:=by
      have:=congrArg (fun l => l.drop 1) hl
      simpa using this
    obtain ⟨D',d',a',H',ρ',hr,hf',hq⟩:=sxDraw_sound hl' hk hf;refine ⟨max D D',max d d',a',H',ρ',?_,hf',hq⟩;simp only [List.length_cons];unfold aDraw;rw [ho];simp only [];rw [aStep_le (oCallN_le (Nat.le_max_left D D') (Nat.le_max_left d d')) hs];simp only [];have hc:(Nat.ble H.size H1.low || barrier P ops a.eval H H1 i) = true:=by
      have hi:ops.toList.length - (l.length + 1) = i:=by
        have h1:=congrArg List.length hl;have h2:i < ops.toList.length:=by
          rw [Array.length_toList]; exact (Array.getElem?_eq_some_iff.1 ho).1
        simp only [List.length_drop,List.length_cons] at h1;omega
      have hn:=drawC_or hn;rw [hi] at hn;rcases hn with hn | hn | hn
      · rw [Nat.ble_eq_true_of_le hn,Bool.true_or]
      · rw [barS_ok (ops:=ops) hn,Bool.or_true]
      · rw [ha.eval,barL_ok (ops:=ops) hn,Bool.or_true]
    rw [hc,cond_true];exact aDraw_le (oCallN_le (Nat.le_max_right D D') (Nat.le_max_right d d')) hr

theorem dec_T {h:Decidable True}:@decide True h = true:=by cases h <;> first | rfl | (rename_i hn; exact absurd trivial hn)
theorem dec_F {h:Decidable False}:@decide False h = false:=by cases h <;> first | rfl | (rename_i hn; exact hn.elim)
/-! Code. -/

abbrev QC:=AExit → F → Heap → Prop

def WC (P:Program) (S:Sys) (N:Nat) (c:Code) (ρ:F) (H:Heap) (Q:QC):Prop:=
  ∀ a,Fr N ρ a → ∃ D d e a' H' ρ',aCode P (oCallN P S D d) D c a H = some (e,a',H') ∧ Fr N ρ' a' ∧ Q e ρ' H'

def seqQ (k:F → Heap → Prop) (Q:QC):QC:=fun e ρ H => match e with
  | .normal => k ρ H
  | e => Q e ρ H
def blockQ (id:Nat) (Q:QC):QC:=fun e ρ H => match e with
  | .exit i => if i = id then Q .normal ρ H else Q (.exit i) ρ H
  | e => Q e ρ H
section eqs
variable {k:F → Heap → Prop} {Q:QC} {ρ:F} {H:Heap} {id i:Nat}
theorem Zabj:seqQ k Q .normal ρ H = k ρ H:=rfl
theorem Zabi:seqQ k Q (.exit i) ρ H = Q (.exit i) ρ H:=rfl
theorem Zabk:seqQ k Q .ret ρ H = Q .ret ρ H:=rfl
theorem Zaaf:blockQ id Q .normal ρ H = Q .normal ρ H:=rfl
theorem Zaag:blockQ id Q .ret ρ H = Q .ret ρ H:=rfl
theorem Zaae:blockQ id Q (.exit i) ρ H = if i = id then Q .normal ρ H else Q (.exit i) ρ H:=rfl
end eqs

def sxIf (v:Value) (X Y:Prop):Prop:=match v with
  | .bool b => (b = true → X) ∧ (b = false → Y)
  | _ => False
theorem sxIf_t (X Y:Prop):sxIf (.bool true) X Y = X:=by simp [sxIf]
theorem sxIf_f (X Y:Prop):sxIf (.bool false) X Y = Y:=by simp [sxIf]
theorem sxIf_d (p:Prop) [Decidable p] (X Y:Prop):sxIf (.bool (decide p)) X Y = ((p → X) ∧ (¬ p → Y)):=by simp [sxIf]
@[congr] theorem sxIf_congr {v v':Value} {X Y:Prop} (h:v = v'):sxIf v X Y = sxIf v' X Y:=by rw [h]

def sxC (P:Program) (S:Sys) (N:Nat):Code → F → Heap → QC → Prop
  | .skip,ρ,H,Q => Q .normal ρ H
  | .label _,ρ,H,Q => Q .normal ρ H
  | .region _ ops true,ρ,H,Q => sxDraw P S N ops.toList ops.toList ρ H (Q .normal)
  | .region _ ops false,ρ,H,Q => sxOps P S N ops.toList ops.toList ρ H (Q .normal)
  | .seq x y,ρ,H,Q => sxC P S N x ρ H (seqQ (fun ρ H => sxC P S N y ρ H Q) Q)
  | .cond c x y,ρ,H,Q => sxIf (ev ρ c) (sxC P S N x ρ H Q) (sxC P S N y ρ H Q)
  | .block id x,ρ,H,Q => sxC P S N x ρ H (blockQ id Q)
  | .exit id,ρ,H,Q => Q (.exit id) ρ H
  | .goto l,ρ,H,Q => Q (.goto l) ρ H
  | .ret,ρ,H,Q => Q .ret ρ H
  | c,ρ,H,Q => WC P S N c ρ H Q
@[congr] theorem sxC_congr {c:Code} {ρ ρ':F} {H:Heap} {Q:QC} (h:ρ = ρ'):sxC P S N c ρ H Q = sxC P S N c ρ' H Q:=by rw [h]
section eqs
variable {ρ:F} {H:Heap} {Q:QC} {id:Nat} {ops:List Oper} {c:Operand} {x y:Code}
theorem Zabr:sxC P S N .skip ρ H Q = Q .normal ρ H:=rfl
theorem Zabm:sxC P S N (.region id ⟨ops⟩ true) ρ H Q = sxDraw P S N ops ops ρ H (Q .normal):=rfl
theorem Zabo:sxC P S N (.region id ⟨ops⟩ false) ρ H Q = sxOps P S N ops ops ρ H (Q .normal):=rfl
theorem Zabq:sxC P S N (.seq x y) ρ H Q = sxC P S N x ρ H (seqQ (fun ρ H => sxC P S N y ρ H Q) Q):=rfl
theorem Zabl:sxC P S N (.block id x) ρ H Q = sxC P S N x ρ H (blockQ id Q):=rfl
theorem Zabn:sxC P S N (.exit id) ρ H Q = Q (.exit id) ρ H:=rfl
theorem Zabp:sxC P S N .ret ρ H Q = Q .ret ρ H:=rfl
end eqs

theorem sxC_sound:∀ {c:Code} {ρ:F} {H:Heap} {Q:QC},sxC P S N c ρ H Q → WC P S N c ρ H Q
  | .skip,ρ,H,Q,h => fun a ha => ⟨1,0,.normal,a,H,ρ,rfl,ha,h⟩
  | .label _,ρ,H,Q,h => fun a ha => ⟨1,0,.normal,a,H,ρ,rfl,ha,h⟩
  | .region id ops true,ρ,H,Q,h => fun a ha => by
    obtain ⟨D,d,a',H',ρ',hr,hf,hq⟩:=sxDraw_sound (l:=ops.toList) (i:=0) rfl h ha;refine ⟨D + 1,d,.normal,a',H',ρ',?_,hf,hq⟩;have hr:=aDraw_le (oCallN_le (P:=P) (S:=S) (Nat.le_succ D) (Nat.le_refl d)) hr;unfold aCode;simp only [cond_true];rw [show ops.size = ops.toList.length from by simp,hr]
    rfl
  | .region id ops false,ρ,H,Q,h => fun a ha => by
    obtain ⟨D,d,a',H',ρ',hr,hf,hq⟩:=sxOps_sound h ha;refine ⟨D + 1,d,.normal,a',H',ρ',?_,hf,hq⟩;have hr:=aOps_le (oCallN_le (P:=P) (S:=S) (Nat.le_succ D) (Nat.le_refl d)) hr;unfold aCode;simp only [cond_false];rw [hr];rfl
  | .seq x y,ρ,H,Q,h => fun a ha => by
    obtain ⟨D,d,e,a1,H1,ρ1,hr,hf,hq⟩:=sxC_sound (c:=x) h a ha
    by_cases he:e = .normal
    · subst he;obtain ⟨D',d',e',a',H',ρ',hr',hf',hq'⟩:=sxC_sound (c:=y) hq a1 hf;refine ⟨max D D' + 1,max d d',e',a',H',ρ',?_,hf',hq'⟩;have h1:=aCode_le (n:=D) (n':=max D D') (oCallN_le (P:=P) (S:=S) (D:=D) (D':=max D D' + 1) (d:=d) (d':=max d d') (by omega) (by omega)) (by omega) hr
      have h2:=aCode_le (n:=D') (n':=max D D') (oCallN_le (P:=P) (S:=S) (D:=D') (D':=max D D' + 1) (d:=d') (d':=max d d') (by omega) (by omega)) (by omega) hr'
      unfold aCode;simp only [h1];exact h2
    · refine ⟨D + 1,d,e,a1,H1,ρ1,?_,hf,?_⟩
      · have h1:=aCode_le (n:=D) (n':=D) (oCallN_le (P:=P) (S:=S) (D:=D) (D':=D + 1) (d:=d) (d':=d) (by omega) (by omega)) (by omega) hr
        unfold aCode;simp only [h1];cases e with
        | normal => exact absurd rfl he
        | _ => rfl
      · cases e with
        | normal => exact absurd rfl he
        | _ => exact hq
  | .cond c x y,ρ,H,Q,h => fun a ha => by
    have h:sxIf (ev ρ c) (sxC P S N x ρ H Q) (sxC P S N y ρ H Q):=h;unfold sxIf at h;split at h
    · rename_i b hb;have hev:a.eval c = .bool b:=by rw [ha.eval]; exact hb
      cases b with
      | true =>
        obtain ⟨D,d,e,a',H',ρ',hr,hf,hq⟩:=sxC_sound (c:=x) (h.1 rfl) a ha;refine ⟨D + 1,d,e,a',H',ρ',?_,hf,hq⟩;have h1:=aCode_le (n:=D) (n':=D) (oCallN_le (P:=P) (S:=S) (D:=D) (D':=D + 1) (d:=d) (d':=d) (by omega) (by omega)) (by omega) hr
        unfold aCode;simp only [hev,cond_true];exact h1
      | false =>
        obtain ⟨D,d,e,a',H',ρ',hr,hf,hq⟩:=sxC_sound (c:=y) (h.2 rfl) a ha;refine ⟨D + 1,d,e,a',H',ρ',?_,hf,hq⟩;have h1:=aCode_le (n:=D) (n':=D) (oCallN_le (P:=P) (S:=S) (D:=D) (D':=D + 1) (d:=d) (d':=d) (by omega) (by omega)) (by omega) hr
        unfold aCode;simp only [hev,cond_false];exact h1
    · exact h.elim
  | .block id x,ρ,H,Q,h => fun a ha => by
    obtain ⟨D,d,e,a',H',ρ',hr,hf,hq⟩:=sxC_sound (c:=x) h a ha;have h1:=aCode_le (n:=D) (n':=D) (oCallN_le (P:=P) (S:=S) (D:=D) (D':=D + 1) (d:=d) (d':=d) (by omega) (by omega)) (by omega) hr
    cases e with
    | exit i =>
      have hq:(if i = id then Q .normal ρ' H' else Q (.exit i) ρ' H'):=hq
      by_cases hi:i = id
      · rw [if_pos hi] at hq;refine ⟨D + 1,d,.normal,a',H',ρ',?_,hf,hq⟩;unfold aCode;simp only [h1,outOf,Trie.beq_tt hi,cond_true]
      · rw [if_neg hi] at hq;refine ⟨D + 1,d,.exit i,a',H',ρ',?_,hf,hq⟩;unfold aCode;simp only [h1,outOf,Trie.beq_ff hi,cond_false]
    | normal => exact ⟨D + 1,d,_,a',H',ρ',by unfold aCode; simp only [h1,outOf],hf,hq⟩
    | goto l => exact ⟨D + 1,d,_,a',H',ρ',by unfold aCode; simp only [h1,outOf],hf,hq⟩
    | ret => exact ⟨D + 1,d,_,a',H',ρ',by unfold aCode; simp only [h1,outOf],hf,hq⟩
  | .exit id,ρ,H,Q,h => fun a ha => ⟨1,0,.exit id,a,H,ρ,rfl,ha,h⟩
  | .goto l,ρ,H,Q,h => fun a ha => ⟨1,0,.goto l,a,H,ρ,rfl,ha,h⟩
  | .ret,ρ,H,Q,h => fun a ha => ⟨1,0,.ret,a,H,ρ,rfl,ha,h⟩
  | .loop x,ρ,H,Q,h => h
  | .rangeFunc _ _ _ _,ρ,H,Q,h => h
  | .scope x,ρ,H,Q,h => h
  | .refuse _,ρ,H,Q,h => h

/-! Loops. -/

def loopQ (I:Nat → F → Heap → Prop) (n:Nat) (Q:QC):QC:=fun e ρ H => match e with
  | .normal => ∃ n',n' < n ∧ I n' ρ H
  | e => Q e ρ H
section eqs
variable {I:Nat → F → Heap → Prop} {n:Nat} {Q:QC} {ρ:F} {H:Heap} {i:Nat}
theorem Zabd:loopQ I n Q .normal ρ H = ∃ n',n' < n ∧ I n' ρ H:=rfl
theorem Zabc:loopQ I n Q (.exit i) ρ H = Q (.exit i) ρ H:=rfl
theorem loopQ_ret:loopQ I n Q .ret ρ H = Q .ret ρ H:=rfl
end eqs

theorem sxC_loop {x:Code} {Q:QC} (I:Nat → F → Heap → Prop) (hs:∀ n ρ H,I n ρ H → sxC P S N x ρ H (loopQ I n Q)) {n:Nat} {ρ:F} {H:Heap} (h0:I n ρ H):sxC P S N (.loop x) ρ H Q:=by
  show WC P S N (.loop x) ρ H Q
  induction n using Nat.strongRecOn generalizing ρ H with
  | _ n ih =>
    intro a ha;obtain ⟨D,d,e,a1,H1,ρ1,hr,hf,hq⟩:=sxC_sound (hs n ρ H h0) a ha
    by_cases he:e = .normal
    · subst he;obtain ⟨n',hn',hI⟩:=(show ∃ n',n' < n ∧ I n' ρ1 H1 from hq)
      obtain ⟨D',d',e',a',H',ρ',hr',hf',hq'⟩:=ih n' hn' hI a1 hf;refine ⟨max D D' + 1,max d d',e',a',H',ρ',?_,hf',hq'⟩;have h1:=aCode_le (n:=D) (n':=max D D') (oCallN_le (P:=P) (S:=S) (D:=D) (D':=max D D' + 1) (d:=d) (d':=max d d') (by omega) (by omega)) (by omega) hr
      have h2:=aCode_le (n:=D') (n':=max D D') (oCallN_le (P:=P) (S:=S) (D:=D') (D':=max D D' + 1) (d:=d') (d':=max d d') (by omega) (by omega)) (by omega) hr'
      unfold aCode;simp only [h1];exact h2
    · refine ⟨D + 1,d,e,a1,H1,ρ1,?_,hf,?_⟩
      · have h1:=aCode_le (n:=D) (n':=D) (oCallN_le (P:=P) (S:=S) (D:=D) (D':=D + 1) (d:=d) (d':=d) (by omega) (by omega)) (by omega) hr
        unfold aCode;simp only [h1];cases e with
        | normal => exact absurd rfl he
        | _ => rfl
      · cases e with
        | normal => exact absurd rfl he
        | _ => exact hq

/-! A function. -/

def argF (args:List Value):F:=fun t => args.getD t undef

def sxRes (P:Program) (H:Heap) (ρ:F):List ResultVar → (List Value → Prop) → Prop
  | [],K => K []
  | .tmp t :: l,K => sxRes P H ρ l fun vs => K (ρ t :: vs)
  | .cell a t :: l,K => sxOpt (aLoad P H t (ρ a)) fun v => sxRes P H ρ l fun vs => K (v :: vs)
theorem Zacm {H:Heap} {ρ:F} {K:List Value → Prop}:sxRes P H ρ [] K = K []:=rfl
theorem Zacn {H:Heap} {ρ:F} {t l} {K:List Value → Prop}:sxRes P H ρ (.tmp t :: l) K = sxRes P H ρ l fun vs => K (ρ t :: vs):=rfl
theorem sxRes_sound {H:Heap} {ρ:F} {a:Act} (ha:Fr N ρ a):∀ {l:List ResultVar} {K:List Value → Prop},sxRes P H ρ l K → ∃ vs,aRes P H a.tmps l = some vs ∧ K vs
  | [],K,h => ⟨[],rfl,h⟩
  | .tmp t :: l,K,h => by
    obtain ⟨vs,h1,h2⟩:=sxRes_sound ha (l:=l) h;refine ⟨ρ t :: vs,?_,h2⟩;unfold aRes;rw [h1,ha.get t]; rfl
  | .cell b t :: l,K,h => by
    obtain ⟨v,hv,h⟩:=(show sxOpt (aLoad P H t (ρ b)) fun v => sxRes P H ρ l fun vs => K (v :: vs) from h)
    obtain ⟨vs,h1,h2⟩:=sxRes_sound ha (l:=l) h;refine ⟨v :: vs,?_,h2⟩;unfold aRes;rw [ha.get b,hv,h1]; rfl

def resQ (P:Program) (rs:List ResultVar) (K:Value → Heap → Prop):QC:=fun e ρ H => match e with
  | .normal => sxRes P H ρ rs fun vs => K (packRes vs) H
  | .ret => sxRes P H ρ rs fun vs => K (packRes vs) H
  | _ => False
theorem Zabh {rs:List ResultVar} {K:Value → Heap → Prop} {ρ:F} {H:Heap}:resQ P rs K .ret ρ H = sxRes P H ρ rs fun vs => K (packRes vs) H:=rfl
theorem Zabe (v:Value):packRes [v] = v:=rfl
theorem Zabf (v w:Value) (l:List Value):packRes (v :: w :: l) = .tuple ⟨v :: w :: l⟩:=rfl

theorem fr_args {args:List Value} (h:args.length ≤ N):Fr N (argF args) { tmps:=args.toArray ++ Array.replicate (N - args.toArray.size) undef,defers:=[] }:=by
  refine ⟨by simp; omega,fun t => ?_⟩
  unfold argF;simp only [Array.getD_eq_getD_getElem?,List.getD_eq_getElem?_getD]
  by_cases ht:t < args.length
  · rw [Array.getElem?_append_left (by simpa using ht)]; simp
  · rw [Array.getElem?_append_right (by simpa using ht),List.getElem?_eq_none (by omega)]
    simp only [List.size_toArray,Array.getElem?_replicate];split <;> rfl

theorem call_of {f:FuncId} {fn:Func} {c:Code} {args:List Value} {H:Heap} {K:Value → Heap → Prop} (hf:P.funcs[f]? = some fn) (hb:fn.body = some c) (hn:args.length ≤ fn.ntmps) (ho:¬ S.O f args H)
    (h:sxC P S fn.ntmps c (argF args) H (resQ P fn.results.toList K)):WCall P S (.fn f) args H K:=by
  obtain ⟨D,d,e,a',H',ρ',hr,hfr,hq⟩:=sxC_sound h _ (fr_args hn);have key:∃ vs,aRes P H' a'.tmps fn.results.toList = some vs ∧ K (packRes vs) H' ∧ (e = .normal ∨ e = .ret):=by
    cases e with
    | normal => obtain ⟨vs,h1,h2⟩:=sxRes_sound hfr hq; exact ⟨vs,h1,h2,.inl rfl⟩
    | ret => obtain ⟨vs,h1,h2⟩:=sxRes_sound hfr hq; exact ⟨vs,h1,h2,.inr rfl⟩
    | exit _ => exact False.elim hq
    | goto _ => exact False.elim hq
  obtain ⟨vs,h1,h2,he⟩:=key;refine ⟨packRes vs,H',⟨D,d + 1,?_⟩,h2⟩;unfold oCallN;rw [if_neg ho];unfold aFun;rw [hf];simp only [hb];rw [hr];rcases he with rfl | rfl <;> simp only [h1,Option.map_some]

theorem call_known {f:FuncId} {args:List Value} {H:Heap} {K:Value → Heap → Prop} (ho:S.O f args H):WCall P S (.fn f) args H K = K (.bool true) H:=
  Runs.sx (P:=P) (S:=S) ⟨0,1,by unfold oCallN; rw [if_pos ho]⟩ K

end Go.AM

namespace Go.AM

variable {P:Program} {S:Sys} {N:Nat}

def Only (S:Sys) (f0:FuncId):Prop:=∀ f args H,S.O f args H → f = f0
theorem Only.no {S:Sys} {f0 f:FuncId} (h:Only S f0) (hn:Nat.beq f f0 = false) (args:List Value) (H:Heap):¬ S.O f args H:=fun hc => by
  rw [h f args H hc] at hn; simp at hn

/-! The ways part. -/
theorem sxGuard_tsp {p:Prop} [Decidable p] {X Y:Prop} (h1:p → X) (h2:¬ p → Y):sxGuard true (.bool (decide p)) X Y:=by rw [sxGuard_td]; exact ⟨h1,h2⟩
theorem sxGuard_fsp {p:Prop} [Decidable p] {X Y:Prop} (h1:¬ p → X) (h2:p → Y):sxGuard false (.bool (decide p)) X Y:=by rw [sxGuard_fd]; exact ⟨h2,h1⟩
theorem sxIf_sp {p:Prop} [Decidable p] {X Y:Prop} (h1:p → X) (h2:¬ p → Y):sxIf (.bool (decide p)) X Y:=by rw [sxIf_d]; exact ⟨h1,h2⟩

/-! What a call leaves as it was. -/

def Grp (H:Heap):Prop:=(∀ r x,H.rows.get r = some x → r < H.size ∧ (x.exact = true ∨ x.grp ≤ 2 * r + 1)) ∧ ∀ g q,memN q ((H.grps.get g).getD []) = true → g ≤ 2 * q + 1

structure Keep (H H':Heap):Prop where
  size:H.size ≤ H'.size
  low:H.low ≤ H.size → H'.low ≤ H'.size
  lo:min H.low H.size ≤ H'.low
  row:∀ r row,r < H.size → H.rows.get r = some row → H'.rows.get r = some row ∧ H'.alive r row = H.alive r row
  grp:Grp H → Grp H'
  mem:∀ g,g < 2 * H.size → H'.grps.get g = H.grps.get g

theorem Keep.refl (H:Heap):Keep H H:=⟨Nat.le_refl _,id,Nat.min_le_left _ _,fun _ _ _ h => ⟨h,rfl⟩,id,fun _ _ => rfl⟩
theorem Keep.trans {A B C:Heap} (h:Keep A B) (k:Keep B C):Keep A C where
  size:=Nat.le_trans h.size k.size
  low:=fun x => k.low (h.low x)
  lo:=by have:=h.lo; have:=k.lo; have:=h.size; omega
  row:=fun r row hr hrow => by
    obtain ⟨h1,h2⟩:=h.row r row hr hrow;obtain ⟨k1,k2⟩:=k.row r row (Nat.lt_of_lt_of_le hr h.size) h1;exact ⟨k1,k2.trans h2⟩
  grp:=fun g => k.grp (h.grp g)
  mem:=fun g hg => (k.mem g (Nat.lt_of_lt_of_le hg (Nat.mul_le_mul_left 2 h.size))).trans (h.mem g hg)

theorem memN_put {T:Trie (List Nat)} {g0 g q:Nat} {l:List Nat} (h:memN q (((T.put g0 l).get g).getD []) = true):(g = g0 ∧ memN q l = true) ∨ memN q ((T.get g).getD []) = true:=by
  rw [Trie.get_put] at h;split at h
  · exact .inl ⟨‹_›,h⟩
  · exact .inr h
theorem memN_single {r q:Nat} (h:memN q [r] = true):q = r:=by
  unfold memN at h;cases e:Nat.beq r q with
  | true => exact (Nat.eq_of_beq_eq_true e).symm
  | false => rw [e] at h; cases h
theorem Grp.add {H:Heap} (g:Grp H) {row:Row} (h:row.exact = true ∨ row.grp ≤ 2 * H.size + 1):Grp (H.add row):=by
  refine ⟨fun r x hx => ?_,fun k q hq => ?_⟩
  · rw [Heap.add_get] at hx;rw [Heap.add_size];split at hx
    · rename_i hr;cases hx;exact ⟨by omega,by rw [hr]; exact h⟩
    · obtain ⟨h1,h2⟩:=g.1 r x hx;exact ⟨by omega,h2⟩
  · rw [Heap.add_grps] at hq;cases he:row.exact with
    | true => rw [he,cond_true] at hq; exact g.2 k q hq
    | false =>
      rw [he,cond_false] at hq;rcases memN_put hq with ⟨rfl,h1⟩ | h1
      · rw [memN_single h1];rcases h with h | h
        · rw [he] at h; cases h
        · exact h
      · exact g.2 k q h1
theorem Grp.store {H:Heap} (g:Grp H) {r:Nat} {row:Row} (h:H.rows.get r = some row) (off:Nat) (vs:List Value):Grp (H.store r row off vs):=by
  refine ⟨fun k x hx => ?_,fun k q hq => ?_⟩
  · rw [Heap.store_get] at hx;rw [Heap.store_size];split at hx
    · rename_i hr;cases hx;rw [hr];exact g.1 r row h
    · exact g.1 k x hx
  · rw [Heap.store_grps] at hq;cases he:row.exact with
    | true => rw [he,cond_true] at hq; exact g.2 k q hq
    | false =>
      rw [he,cond_false] at hq;rcases memN_put hq with ⟨rfl,h1⟩ | h1
      · rw [memN_single h1];rcases (g.1 r row h).2 with h2 | h2
        · rw [he] at h2; cases h2
        · exact h2
      · exact g.2 k q h1

theorem Keep.newExact (H:Heap) (l:List Value) (e:TypeId):Keep H (H.newExact l e) where
  size:=by unfold Heap.newExact; rw [Heap.add_size]; omega
  low:=fun h => by unfold Heap.newExact; rw [Heap.add_size,Heap.add_low]; omega
  lo:=by unfold Heap.newExact; rw [Heap.add_low]; omega
  row:=fun r row hr hrow => by
    unfold Heap.newExact;refine ⟨by rw [Heap.add_get,if_neg (by omega)]; exact hrow,?_⟩
    unfold Heap.alive; rw [Heap.add_grps]; rfl
  grp:=fun g => g.add (.inl rfl)
  mem:=fun g _ => by unfold Heap.newExact; rw [Heap.add_grps]; rfl

theorem Keep.relow {H:Heap} (h:H.low ≤ H.size):(H.relow (Nat.min H.low H.size)) = H:=by
  have:Nat.min H.low H.size = H.low:=Nat.min_eq_left h;rw [this]; rfl

theorem Keep.read {H H':Heap} (h:Keep H H') {r o n:Nat} {l:List Value} (hr:r < H.size) (e:H.read r o n = some l):H'.read r o n = some l:=by
  obtain ⟨row,h1,h2,h3,h4⟩:=read_inv e;obtain ⟨k1,k2⟩:=h.row r row hr h1;unfold Heap.read at e ⊢;rw [h1] at e;rw [k1];simp only [k2] at e ⊢;exact e

theorem read_relow (H:Heap) (l r o n:Nat):(H.relow l).read r o n = H.read r o n:=rfl
theorem size_relow (H:Heap) (l:Nat):(H.relow l).size = H.size:=rfl
theorem low_relow (H:Heap) (l:Nat):(H.relow l).low = l:=rfl
theorem relow_relow (H:Heap) (l l':Nat):(H.relow l).relow l' = H.relow l':=rfl
theorem Zaaa (H:Heap) (l:Nat) (t:TypeId) (v:Value):aLoad P (H.relow l) t v = aLoad P H t v:=by
  unfold aLoad Heap.read Heap.alive; rfl

theorem read_new (H:Heap) (l:List Value) (e:TypeId) (o n:Nat):(H.newExact l e).read H.size o n = if o + n ≤ l.length then some ((l.drop o).take n) else none:=by
  unfold Heap.newExact Heap.read;rw [Heap.add_get,if_pos rfl];simp only [];rw [show (H.add _).alive H.size { cells:=l,elem:=e,exact:=true,ro:=false,esz:=0,grp:=2 * H.size,gpos:=0 } = true from rfl]
  by_cases h:o + n ≤ l.length
  · rw [if_pos h,show Nat.ble (o + n) l.length = true from Nat.ble_eq_true_of_le h]; rfl
  · rw [if_neg h];cases hb:Nat.ble (o + n) l.length with
    | true => exact absurd (Nat.le_of_ble_eq_true hb) h
    | false => rfl
theorem size_new (H:Heap) (l:List Value) (e:TypeId):(H.newExact l e).size = H.size + 1:=by unfold Heap.newExact; rw [Heap.add_size]

theorem read_some {H:Heap} {r:Nat}:∀ {n o:Nat} {c:Nat → Value},0 < n → (∀ j,j < n → H.read r (o + j) 1 = some [c j]) → H.read r o n = some ((List.range n).map c):=by
  intro n o c h0 h;obtain ⟨row,h1,h2,h3,h4⟩:=read_inv (h 0 h0);have hl:=h (n - 1) (by omega)
  obtain ⟨row',k1,_,k3,_⟩:=read_inv hl;rw [h1] at k1; cases k1;unfold Heap.read;rw [h1];simp only [h2,Bool.true_and];rw [show Nat.ble (o + n) row.cells.length = true from Nat.ble_eq_true_of_le (by omega),cond_true]
  congr 1;apply List.ext_getElem?;intro j
  by_cases hj:j < n
  · obtain ⟨row',k1,_,k3,k4⟩:=read_inv (h j hj);rw [h1] at k1; cases k1;have k5:=congrArg (fun l => l[0]?) k4
    simp only [List.getElem?_cons_zero,List.getElem?_take,List.getElem?_drop,Nat.zero_lt_one,if_true,Nat.add_zero] at k5;simp only [List.getElem?_take,hj,if_true,List.getElem?_drop,List.getElem?_map,List.getElem?_range hj,Option.map_some];exact k5.symm
  · simp only [List.getElem?_take,hj,if_false,List.getElem?_map];rw [List.getElem?_eq_none (by simp; omega)]; rfl

structure Sl (P:Program) (t:TypeId) (sz:Nat) (H:Heap) (v:Value) (n:Nat) (r o:Nat) (c:Nat → Value):Prop where
  isv:∃ a cap,v = .slice a n cap
  ix:∀ k i,0 ≤ i → i < (n:Int) → aIndexAt P t v (.int k i) = some (.pointer (some ⟨r,o + i.toNat * sz,none⟩))
  rd:∀ j,j < n * sz → H.read r (o + j) 1 = some [c j]
  lt:0 < n → r < H.size

theorem Sl.keep {t:TypeId} {sz:Nat} {H H':Heap} {v:Value} {n r o:Nat} {c:Nat → Value} (h:Sl P t sz H v n r o c) (hk:Keep H H'):Sl P t sz H' v n r o c where
  isv:=h.isv
  ix:=h.ix
  rd:=fun j hj => hk.read (h.lt (by rcases Nat.eq_zero_or_pos n with h0 | h0; (subst h0; simp at hj); exact h0)) (h.rd j hj)
  lt:=fun h0 => Nat.lt_of_lt_of_le (h.lt h0) hk.size

end Go.AM

namespace Go.AM

/-! The same equations with what comes after held back: the simplifier does not look into it before its time. -/

inductive Blk {α:Type} (a:α):Type where
  | mk

variable {P:Program} {S:Sys} {N:Nat}

def sxOptB {α:Type} (x:Option α) (K:α → Prop) (_:Blk K):Prop:=sxOpt x K
theorem Zack {α:Type} (v:α) (K:α → Prop) (b:Blk K):sxOptB (some v) K b = K v:=sxOpt_some v K
theorem sxOptB_ite {α:Type} (c:Prop) [Decidable c] (v:α) (K:α → Prop) (b:Blk K):sxOptB (if c then some v else none) K b = (c ∧ K v):=sxOpt_ite c v K
theorem una_nt:una .not (.bool true) = some (.bool false):=rfl
theorem una_nf:una .not (.bool false) = some (.bool true):=rfl

def sxGuardB (w:Bool) (v:Value) (X Y:Prop) (_:Blk (X,Y)):Prop:=sxGuard w v X Y
theorem sxGuardB_tt (X Y:Prop) (b:Blk (X,Y)):sxGuardB true (.bool true) X Y b = X:=sxGuard_tt X Y
theorem sxGuardB_tf (X Y:Prop) (b:Blk (X,Y)):sxGuardB true (.bool false) X Y b = Y:=sxGuard_tf X Y
theorem sxGuardB_ft (X Y:Prop) (b:Blk (X,Y)):sxGuardB false (.bool true) X Y b = Y:=sxGuard_ft X Y
theorem Zacd (X Y:Prop) (b:Blk (X,Y)):sxGuardB false (.bool false) X Y b = X:=sxGuard_ff X Y
theorem Zacf {p:Prop} [Decidable p] {X Y:Prop} {b:Blk (X,Y)} (h1:p → X) (h2:¬ p → Y):sxGuardB true (.bool (decide p)) X Y b:=sxGuard_tsp h1 h2
theorem Zace {p:Prop} [Decidable p] {X Y:Prop} {b:Blk (X,Y)} (h1:¬ p → X) (h2:p → Y):sxGuardB false (.bool (decide p)) X Y b:=sxGuard_fsp h1 h2

def sxIfB (v:Value) (X Y:Prop) (_:Blk (X,Y)):Prop:=sxIf v X Y
theorem Zach (X Y:Prop) (b:Blk (X,Y)):sxIfB (.bool true) X Y b = X:=sxIf_t X Y
theorem Zacg (X Y:Prop) (b:Blk (X,Y)):sxIfB (.bool false) X Y b = Y:=sxIf_f X Y
theorem sxIfB_sp {p:Prop} [Decidable p] {X Y:Prop} {b:Blk (X,Y)} (h1:p → X) (h2:¬ p → Y):sxIfB (.bool (decide p)) X Y b:=sxIf_sp h1 h2

def sxCallB (P:Program) (S:Sys) (t:Tgt) (args:List Value) (H:Heap) (K:Value → Heap → Prop) (_:Blk K):Prop:=WCall P S t args H K
def sxCallVB (P:Program) (S:Sys) (f:Value) (args:List Value) (H:Heap) (K:Value → Heap → Prop) (_:Blk K):Prop:=sxCallV P S f args H K
theorem Zabs (k:FuncId) (a b args:List Value) (H:Heap) (K:Value → Heap → Prop) (bl:Blk K):sxCallVB P S (.func (.func k) ⟨a⟩ ⟨b⟩) args H K bl = sxCallB P S (.fn k) (a ++ args ++ b) H K .mk:=rfl
theorem Runs.bx {t:Tgt} {args:List Value} {H:Heap} {v:Value} {H':Heap} (h:Runs P S t args H v H') (K:Value → Heap → Prop) (b:Blk K):sxCallB P S t args H K b = K v H':=h.sx K
theorem known_bx {f:FuncId} {args:List Value} {H:Heap} {K:Value → Heap → Prop} {b:Blk K} (ho:S.O f args H):sxCallB P S (.fn f) args H K b = K (.bool true) H:=call_known ho
theorem WCall.bx {t:Tgt} {args:List Value} {H:Heap} {K0 K:Value → Heap → Prop} {b:Blk K} (h:WCall P S t args H K0) (hk:∀ v H',K0 v H' → K v H'):sxCallB P S t args H K b:=h.mono hk

def sxL (P:Program) (S:Sys) (N:Nat) (x:Code) (ρ:F) (H:Heap) (Q:QC) (_:Blk (x,Q)):Prop:=sxC P S N (.loop x) ρ H Q
theorem bxC_loop {x:Code} {ρ:F} {H:Heap} {Q:QC}:sxC P S N (.loop x) ρ H Q = sxL P S N x ρ H Q .mk:=rfl
theorem sxL_of {x:Code} {Q:QC} {b:Blk (x,Q)} (I:Nat → F → Heap → Prop) {n:Nat} {ρ:F} {H:Heap} (h0:I n ρ H) (hs:∀ n ρ H,I n ρ H → sxC P S N x ρ H (loopQ I n Q)):sxL P S N x ρ H Q b:=sxC_loop I hs h0

theorem bxPut {t:Tmp} {ρ:F} {v:Value} {k:F → Prop} (h:t < N):sxPut N (some t) ρ v k = k (upd ρ t v):=by rw [sxPut_some]; simp [h]
def sxD (all:List Oper) (n:Nat) (H H1:Heap) (k:Heap → Prop):Prop:=(H.size ≤ H1.low ∨ barS ⟨all⟩ (all.length - (n + 1)) = true) ∧ k (H1.relow (Nat.min H.low H1.low))
theorem sxD_same {all:List Oper} {n:Nat} {H:Heap} {k:Heap → Prop} (h:H.low ≤ H.size):sxD all n H (H.relow H.size) k = k H:=by
  unfold sxD;rw [low_relow,relow_relow,Keep.relow h];simp
theorem Zacb {all:List Oper} {n:Nat} {H H1:Heap} {k:Heap → Prop} (h:barS ⟨all⟩ (all.length - (n + 1)) = true) (hk:k (H1.relow (Nat.min H.low H1.low))):sxD all n H H1 k:=⟨.inr h,hk⟩
def sxDL (P:Program) (all:List Oper) (n:Nat) (op:Op) (ρ:F) (H H1:Heap) (k:Heap → Prop):Prop:=drawC P all n op ρ H H1 ∧ k (H1.relow (Nat.min H.low H1.low))
theorem Zabt {all:List Oper} {n:Nat} {t a v} {ρ:F} {H H1:Heap} {k:Heap → Prop} (h:barS ⟨all⟩ (all.length - (n + 1)) = true) (hk:k (H1.relow (Nat.min H.low H1.low))):sxDL P all n (.store t a v) ρ H H1 k:=⟨.inr (.inl h),hk⟩
theorem Zabu {all:List Oper} {n:Nat} {t a v} {ρ:F} {H H1 H2:Heap} {k:Heap → Prop} (he:H1.relow (Nat.min H.low H1.low) = H2) (h:barS ⟨all⟩ (all.length - (n + 1)) = true) (hk:k H2):sxDL P all n (.store t a v) ρ H H1 k:=⟨.inr (.inl h),he ▸ hk⟩
theorem Zaca {x0} {all:List Oper} {n:Nat} {ρ:F} {H H1:Heap} {k:Heap → Prop}:sxDL P all n (.move x0) ρ H H1 k = sxD all n H H1 k:=rfl
theorem sxDL_assign {x0} {all:List Oper} {n:Nat} {ρ:F} {H H1:Heap} {k:Heap → Prop}:sxDL P all n (.assign x0) ρ H H1 k = sxD all n H H1 k:=rfl
theorem sxDL_pick {x0 x1 x2} {all:List Oper} {n:Nat} {ρ:F} {H H1:Heap} {k:Heap → Prop}:sxDL P all n (.pick x0 x1 x2) ρ H H1 k = sxD all n H H1 k:=rfl
theorem sxDL_buildSlice {x0 x1 x2} {all:List Oper} {n:Nat} {ρ:F} {H H1:Heap} {k:Heap → Prop}:sxDL P all n (.buildSlice x0 x1 x2) ρ H H1 k = sxD all n H H1 k:=rfl
theorem Zabz {x0 x1} {all:List Oper} {n:Nat} {ρ:F} {H H1:Heap} {k:Heap → Prop}:sxDL P all n (.load x0 x1) ρ H H1 k = sxD all n H H1 k:=rfl
theorem Zabv {x0 x1 x2 x3 x4} {all:List Oper} {n:Nat} {ρ:F} {H H1:Heap} {k:Heap → Prop}:sxDL P all n (.binOp x0 x1 x2 x3 x4) ρ H H1 k = sxD all n H H1 k:=rfl
theorem sxDL_unOp {x0 x1 x2} {all:List Oper} {n:Nat} {ρ:F} {H H1:Heap} {k:Heap → Prop}:sxDL P all n (.unOp x0 x1 x2) ρ H H1 k = sxD all n H H1 k:=rfl
theorem Zabx {x0 x1 x2} {all:List Oper} {n:Nat} {ρ:F} {H H1:Heap} {k:Heap → Prop}:sxDL P all n (.fieldAddr x0 x1 x2) ρ H H1 k = sxD all n H H1 k:=rfl
theorem Zaby {x0 x1 x2} {all:List Oper} {n:Nat} {ρ:F} {H H1:Heap} {k:Heap → Prop}:sxDL P all n (.indexAddr x0 x1 x2) ρ H H1 k = sxD all n H H1 k:=rfl
theorem sxDL_extract {x0 x1} {all:List Oper} {n:Nat} {ρ:F} {H H1:Heap} {k:Heap → Prop}:sxDL P all n (.extract x0 x1) ρ H H1 k = sxD all n H H1 k:=rfl
theorem Zabw {x0} {all:List Oper} {n:Nat} {ρ:F} {H H1:Heap} {k:Heap → Prop} (h:sxD all n H H1 k):sxDL P all n (.call x0) ρ H H1 k:=⟨h.1.imp id .inl,h.2⟩
theorem Zaai {all d op ty pos af g l} {ρ:F} {H:Heap} {Q:F → Heap → Prop}:sxDraw P S N all (⟨d,op,ty,pos,af,g⟩ :: l) ρ H Q =
  sxStep P S N all ⟨d,op,ty,pos,af,g⟩ ρ (H.relow H.size) fun ρ' H1 => sxDL P all l.length op ρ H H1 fun H2 => sxDraw P S N all l ρ' H2 Q:=rfl
theorem Zaah {ρ:F} {H:Heap} {Q:QC} {c:Operand} {x y:Code}:sxC P S N (.cond c x y) ρ H Q = sxIfB (ev ρ c) (sxC P S N x ρ H Q) (sxC P S N y ρ H Q) .mk:=rfl
theorem Zaav {all d op ty pos af g w} {ρ:F} {H:Heap} {K:F → Heap → Prop}:sxStep P S N all ⟨d,op,ty,pos,af,some (g,w)⟩ ρ H K =
  sxGuardB w (gval ρ (dstAt all g)) (sxOp P S ⟨d,op,ty,pos,af,some (g,w)⟩ ρ H fun v H' => sxPut N d ρ v fun ρ' => K ρ' H') (sxPut N d ρ undef fun ρ' => K ρ' H) .mk:=rfl
theorem bxRes_cell {H:Heap} {ρ:F} {a t l} {K:List Value → Prop}:sxRes P H ρ (.cell a t :: l) K = sxOptB (aLoad P H t (ρ a)) (fun v => sxRes P H ρ l fun vs => K (v :: vs)) .mk:=rfl

section eqs
variable {d:Option Tmp} {ty:TypeId} {pos:String} {af:Array Edge} {g:Option (Nat × Bool)} {ρ:F} {H:Heap} {K:Value → Heap → Prop}
theorem Zaar {x}:sxOp P S ⟨d,.move x,ty,pos,af,g⟩ ρ H K = K (ev ρ x) H:=rfl
theorem Zaak {x}:sxOp P S ⟨d,.assign x,ty,pos,af,g⟩ ρ H K = K (ev ρ x) H:=rfl
theorem Zaas {c a b}:sxOp P S ⟨d,.pick c a b,ty,pos,af,g⟩ ρ H K = sxOptB (aPick (ev ρ c) (ev ρ a) (ev ρ b)) (fun v => K v H) .mk:=rfl
theorem Zaaj {t}:sxOp P S ⟨d,.alloc t,ty,pos,af,g⟩ ρ H K = sxOptB (aAlloc P H t) (fun r => K r.1 r.2) .mk:=rfl
theorem bxOp_box {t x}:sxOp P S ⟨d,.box t x,ty,pos,af,g⟩ ρ H K = K (.pointer (some ⟨H.size,0,none⟩)) (H.newExact (ev ρ x).cells.toList t):=rfl
theorem bxOp_build {t ps}:sxOp P S ⟨d,.build t ps,ty,pos,af,g⟩ ρ H K = sxOptB (aBuild P t (ps.toList.map fun p => (p.1,ev ρ p.2))) (fun v => K v H) .mk:=rfl
theorem Zaam {t n ps}:sxOp P S ⟨d,.buildSlice t n ps,ty,pos,af,g⟩ ρ H K = sxOptB (aBuildSlice P H t n (ps.toList.map fun p => (p.1,ev ρ p.2))) (fun r => K r.1 r.2) .mk:=rfl
theorem Zaaq {t a}:sxOp P S ⟨d,.load t a,ty,pos,af,g⟩ ρ H K = sxOptB (aLoad P H t (ev ρ a)) (fun v => K v H) .mk:=rfl
theorem Zaat {t a x}:sxOp P S ⟨d,.store t a x,ty,pos,af,g⟩ ρ H K = sxOptB (aStore P H t (ev ρ a) (ev ρ x)) (fun H' => K undef H') .mk:=rfl
theorem Zaal {op t x y yt}:sxOp P S ⟨d,.binOp op t x y yt,ty,pos,af,g⟩ ρ H K = sxOptB (binP P op t (ev ρ x) (ev ρ y)) (fun v => K v H) .mk:=rfl
theorem bxOp_un {op t x}:sxOp P S ⟨d,.unOp op t x,ty,pos,af,g⟩ ρ H K = sxOptB (una op (ev ρ x)) (fun v => K v H) .mk:=rfl
theorem bxOp_makeFunc {fn a b}:sxOp P S ⟨d,.makeFunc fn a b,ty,pos,af,g⟩ ρ H K = (notYield fn = true ∧ K (.func fn ⟨a.toList.map (ev ρ)⟩ ⟨b.toList.map (ev ρ)⟩) H):=rfl
theorem bxOp_makeSlice {t l c}:sxOp P S ⟨d,.makeSlice t l c,ty,pos,af,g⟩ ρ H K = sxOptB (aMakeSlice P H t (ev ρ l) (ev ρ c)) (fun r => K r.1 r.2) .mk:=rfl
theorem Zaan {s x f}:sxOp P S ⟨d,.fieldAddr s x f,ty,pos,af,g⟩ ρ H K = sxOptB (aFieldAt P s f (ev ρ x)) (fun v => K v H) .mk:=rfl
theorem Zaao {t x ix}:sxOp P S ⟨d,.indexAddr t x ix,ty,pos,af,g⟩ ρ H K = sxOptB (aIndexAt P t (ev ρ x) (ev ρ ix)) (fun v => K v H) .mk:=rfl
theorem bxOp_extract {x i}:sxOp P S ⟨d,.extract x i,ty,pos,af,g⟩ ρ H K = sxOptB (aExtract (ev ρ x) i) (fun v => K v H) .mk:=rfl
theorem Zaau {f as ts}:sxOp P S ⟨d,.call { callee:=.value f,args:=as,argTypes:=ts },ty,pos,af,g⟩ ρ H K = sxCallVB P S (ev ρ f) (as.toList.map (ev ρ)) H K .mk:=rfl
theorem Zaap {x ts}:sxOp P S ⟨d,.call { callee:=.builtin .len,args:=⟨[x]⟩,argTypes:=ts },ty,pos,af,g⟩ ρ H K = sxOptB (aLen P ts (ev ρ x)) (fun v => K v H) .mk:=rfl
theorem bxOp_append {s x ts}:sxOp P S ⟨d,.call { callee:=.builtin .append,args:=⟨[s,x]⟩,argTypes:=ts },ty,pos,af,g⟩ ρ H K = sxOptB (aAppend P H ts (ev ρ s) (ev ρ x)) (fun r => K r.1 r.2) .mk:=rfl
theorem bxOp_convert {s t x}:sxOp P S ⟨d,.convert s t x,ty,pos,af,g⟩ ρ H K = sxOptB (aConvH P H s t (ev ρ x)) (fun v => K v H) .mk:=rfl
end eqs

end Go.AM

namespace Go.AM
open Go.RowKit (Below)

variable {P:Program} {S:Sys} {n0:Nat}

/-! The machine's memory,built from what came in. -/

theorem cell_block {w:World} {b o:Nat} {v:Value} (h:w.cell? ⟨b,o,none⟩ = some v):∃ cs t fz,w.heap[b]? = some (.cells cs t fz) ∧ cs[o]? = some v:=by
  unfold World.cell? at h;split at h
  · rename_i cs t fz hb;simp only [Option.isSome_none] at h;exact ⟨cs,t,fz,hb,h⟩
  · cases h

structure Ins (P:Program) (n0:Nat) (m:Map) (H:Heap) (w:World):Prop where
  hr:HR n0 m H w
  ro:∀ r rm,m r = some rm → rm.ro = true
  low:H.low ≤ H.size
  grp:Grp H

theorem Keep.addRow (H:Heap) (row:Row) (hx:row.exact = true):Keep H (H.add row) where
  size:=by rw [Heap.add_size]; omega
  low:=fun h => by rw [Heap.add_size,Heap.add_low]; omega
  lo:=by rw [Heap.add_low]; omega
  row:=fun r x hr hrow => by
    refine ⟨by rw [Heap.add_get,if_neg (by omega)]; exact hrow,?_⟩
    unfold Heap.alive; rw [Heap.add_grps,hx]; rfl
  grp:=fun g => g.add (.inl hx)
  mem:=fun g _ => by rw [Heap.add_grps,hx]; rfl

theorem Ins.add {m:Map} {H:Heap} {w:World} (h:Ins P n0 m H w) {b sh:Nat} {cs:Array Value} {t:TypeId} {fz:Nat × Nat} (hb:w.heap[b]? = some (.cells cs t fz))
    {cells:List Value} (hlen:sh + cells.length ≤ cs.size) (hv:∀ (j:Nat) (v:Value),cells[j]? = some v → ∃ v',cs[sh + j]? = some v' ∧ VR m v v') :
    Ins P n0 (m.put H.size ⟨b,sh,cs.size,0,true,true⟩) (H.add { cells:=cells,elem:=t,exact:=true,ro:=true,esz:=0,grp:=2 * H.size,gpos:=0 }) w where
  hr:=h.hr.addRo h.ro hb hlen hv
  ro:=fun r rm hr => by
    rcases Map.put_inv hr with ⟨_,rfl⟩ | ⟨_,hr⟩
    · rfl
    · exact h.ro r rm hr
  low:=by rw [Heap.add_size,Heap.add_low]; have:=h.low; omega
  grp:=h.grp.add (.inl rfl)

def Came (w:World) (a:Option Addr) (len cap sz:Nat) (c:Nat → Value):Prop:=
  (a = none ∧ len = 0 ∧ cap = 0) ∨ ∃ x,a = some x ∧ len ≤ cap ∧ ∀ j,j < cap * sz → w.cell? (x.add j) = some (c j)

theorem Ins.slice {m:Map} {H:Heap} {w:World} (h:Ins P n0 m H w) {a:Option Addr} {len cap sz:Nat} {c:Nat → Value} (hsz:0 < sz) (hp:∀ j,plain (c j) = true) (hc:Came w a len cap sz c) :
    ∃ m' H' v r,Ins P n0 m' H' w ∧ m.le m' ∧ Keep H H' ∧ VR m' v (.slice a len cap) ∧
      ((∃ a',v = .slice a' len cap ∧ len = 0) ∨ (v = .slice (some ⟨r,0,none⟩) len cap ∧ r < H'.size ∧ ∀ j,j < len * sz → H'.read r (0 + j) 1 = some [c j])):=by
  rcases hc with ⟨rfl,rfl,rfl⟩ | ⟨⟨b,off,sp⟩,rfl,hle,hcell⟩
  · exact ⟨m,H,.slice none 0 0,0,h,Map.le_refl _,Keep.refl _,.plain rfl,.inl ⟨none,rfl,rfl⟩⟩
  · rcases Nat.eq_zero_or_pos cap with h0 | h0
    · subst h0;obtain rfl:len = 0:=by omega
      exact ⟨m,H,.slice (some ⟨0,0,some 0⟩) 0 0,0,h,Map.le_refl _,Keep.refl _,.sliceZ,.inl ⟨_,rfl,rfl⟩⟩
    · have hpos:0 < cap * sz:=Nat.mul_pos h0 hsz;have hc0:=hcell 0 hpos;have hsp:sp = none:=by simpa [Addr.add] using World.cell?_spot hc0
      subst hsp;have hat:∀ j,j < cap * sz → w.cell? ⟨b,off + j,none⟩ = some (c j):=fun j hj => by
        have:=hcell j hj; rwa [addr_add] at this
      obtain ⟨cs,t,fz,hb,_⟩:=cell_block (hat 0 hpos);have hcs:∀ j,j < cap * sz → cs[off + j]? = some (c j):=fun j hj => by
        obtain ⟨cs',t',fz',hb',h'⟩:=cell_block (hat j hj);rw [hb] at hb'; cases hb'; exact h'
      have hls:len * sz ≤ cap * sz:=Nat.mul_le_mul_right sz hle;have hend:off + cap * sz ≤ cs.size:=by
        have h1:=hcs (cap * sz - 1) (by omega)
        have h2:=(Array.getElem?_eq_some_iff.1 h1).1;omega
      refine ⟨_,_,.slice (some ⟨H.size,0,none⟩) len cap,H.size,h.add (sh:=off) (cells:=(List.range (len * sz)).map c) hb (by simp; omega) ?_,Map.le_put h.hr.none,Keep.addRow H _ rfl,?_,.inr ⟨rfl,?_,?_⟩⟩
      · intro j v hj;simp only [List.getElem?_map,Option.map_eq_some_iff] at hj;obtain ⟨j',h1,rfl⟩:=hj;obtain ⟨hlt,h2⟩:=List.getElem?_eq_some_iff.1 h1;simp only [List.getElem_range] at h2;subst h2;simp only [List.length_range] at hlt;exact ⟨c j,hcs j (by omega),.plain (hp j)⟩
      · exact .sliceE (rm:=⟨b,off,cs.size,0,true,true⟩) (Map.put_same _ _ _) rfl
      · rw [Heap.add_size]; omega
      · intro j hj;unfold Heap.read;rw [Heap.add_get,if_pos rfl];simp only [];rw [show (H.add _).alive H.size { cells:=(List.range (len * sz)).map c,elem:=t,exact:=true,ro:=true,esz:=0,grp:=2 * H.size,gpos:=0 } = true from rfl]
        rw [show Nat.ble (0 + j + 1) ((List.range (len * sz)).map c).length = true from Nat.ble_eq_true_of_le (by simp; omega)]
        simp only [Bool.and_self,cond_true,Nat.zero_add];congr 1;apply List.ext_getElem?;intro i
        by_cases hi:i = 0
        · subst hi;simp [hj]
        · rw [List.getElem?_eq_none (by simp; omega),List.getElem?_eq_none (by simp; omega)]

theorem calls_of_runs (hp:okProg P S.G = true) (hmix:P.follows .mixedOrders = true) (hO:OrcOk P S) {f:FuncId} {args args':List Value} {H H':Heap} {v:Value} (hr:Runs P S (.fn f) args H v H') (hE:EnterOk P f)
    {m:Map} {w:World} (h:HR n0 m H w) (hG:Glob m S.G) (ha:VRs m args args') (hv:plain v = true) :
    Calls P f args'.toArray w fun e w' => e = .returned v ∧ Below n0 w w':=by
  obtain ⟨D,d,e⟩:=hr;refine ((oCallN_ok hp hmix hO D d).goes f args H v H' e hE n0 m w args' h hG ha).mono ?_
  rintro e w' ⟨v',m',rfl,hext,hvr⟩;exact ⟨by rw [hvr.eq_of_plain hv],hext.below⟩

end Go.AM
