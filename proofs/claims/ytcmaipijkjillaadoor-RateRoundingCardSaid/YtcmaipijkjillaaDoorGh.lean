/- A general tool, which names no program: tables of a canonical machine for the model's own code, proved: what it comes to is what every run comes to. -/
import Derived.Test.YtcmaipijkjillaaDoorGe
set_option linter.unusedVariables false
set_option linter.unusedSimpArgs false
set_option linter.unusedSectionVars false

namespace Go.AM

variable {P:Program}

def gOp (P:Program) (op:Op):OpF:=
  @Op.casesOn (fun _ => OpF) op kMove kMove kPick (kAlloc P) kBox (kBuild P) (kBuildSlice P) (kMapUpdate P) (kLoad P) (kStore P)
    (fun _ => kPlain P) (fun _ => kPlain P) (kNilCheck P) (kBin P) (fun _ _ _ => kPlain P) (kConvert P) (fun _ _ => kPlain P) (kMakeI P) kMakeFunc
    (kMakeMap P) (fun _ _ => kPlain P) (kMakeSlice P) (kSlice P) (kFieldAddr P) (kField P) (kIndexAddr P) (kIndex P) (kLookup P)
    (kMapUpdate P) (kMapEntry P) kEntryStore (kRange P) kNext kEntry (kAssert P) kExtract (kCall P)
    (fun _ => kPlain P) (fun _ => kNone) (fun _ => kPlain P) (fun _ _ => kPlain P) (fun _ _ _ => kPlain P) (fun _ _ => kNone)

theorem gOp_eq (ρ:Operand → Value) (o:Oper) (H:Heap):gOp P o.op ρ o H = aOp P ρ o H:=by
  obtain ⟨dst,op,type,pos,after,guard⟩:=o;cases op
  case box t x =>
    show kBox t x ρ ⟨dst,.box t x,type,pos,after,guard⟩ H = _;unfold kBox; rw [forceV_eq]; rfl
  case store t a x =>
    show kStore P t a x ρ ⟨dst,.store t a x,type,pos,after,guard⟩ H = _;unfold kStore; rw [forceV_eq,forceV_eq]; rfl
  case range t x =>
    show kRange P t x ρ ⟨dst,.range t x,type,pos,after,guard⟩ H = _;unfold kRange; rw [forceV_eq]; rfl
  case entry it =>
    show kEntry it ρ ⟨dst,.entry it,type,pos,after,guard⟩ H = _;unfold kEntry; rw [forceV_eq]; rfl
  case next it b =>
    show kNext it b ρ ⟨dst,.next it b,type,pos,after,guard⟩ H = _;unfold kNext; rw [forceV_eq]; rfl
  case lookup t x ix ok =>
    show kLookup P t x ix ok ρ ⟨dst,.lookup t x ix ok,type,pos,after,guard⟩ H = _;unfold kLookup; rw [forceV_eq,forceV_eq]; rfl
  case mapUpdate t x k v =>
    show kMapUpdate P t x k v ρ ⟨dst,.mapUpdate t x k v,type,pos,after,guard⟩ H = _;unfold kMapUpdate; rw [forceV_eq,forceV_eq,forceV_eq]; rfl
  case insert t x k v =>
    show kMapUpdate P t x k v ρ ⟨dst,.insert t x k v,type,pos,after,guard⟩ H = _;unfold kMapUpdate; rw [forceV_eq,forceV_eq,forceV_eq]; rfl
  case mapEntry t x k =>
    show kMapEntry P t x k ρ ⟨dst,.mapEntry t x k,type,pos,after,guard⟩ H = _;unfold kMapEntry; rw [forceV_eq,forceV_eq]; rfl
  case entryStore t x s v =>
    show kEntryStore t x s v ρ ⟨dst,.entryStore t x s v,type,pos,after,guard⟩ H = _;unfold kEntryStore; rw [forceV_eq,forceV_eq,forceV_eq]; rfl
  case binOp bop t x y yt =>
    show kBin P bop t x y yt ρ ⟨dst,.binOp bop t x y yt,type,pos,after,guard⟩ H = kBinSlow P bop t x y ρ ⟨dst,.binOp bop t x y yt,type,pos,after,guard⟩ H;unfold kBin;cases h:fastV bop (ρ x) (ρ y) with
    | none => rfl
    | some v => exact (fastV_ok (P:=P) (o:=⟨dst,.binOp bop t x y yt,type,pos,after,guard⟩) rfl h).symm
  all_goals rfl

def gFin (call:CallF) (H:Heap) (r:Option AStep):Option (Value × Heap):=
  @Option.casesOn AStep (fun _ => Option (Value × Heap)) r none (fun s => @AStep.casesOn (fun _ => Option (Value × Heap)) s (fun v H' => some (v,H')) (fun f args => call (.fn f) args H) (fun l args => call (.rnd l) args H))

theorem gFin_eq (call:CallF) (ρ:Operand → Value) (o:Oper) (H:Heap):gFin call H (gOp P o.op ρ o H) = aOpRun P call ρ o H:=by
  rw [gOp_eq];unfold aOpRun gFin;cases aOp P ρ o H with
  | none => rfl
  | some s => cases s <;> rfl

def gStep (P:Program) (call:CallF) (ops:Array Oper) (o:Oper) (s:FSt) (H:Heap):Option (Value × Heap):=
  @Option.casesOn (Nat × Bool) (fun _ => Option (Value × Heap)) o.guard (gFin call H (gOp P o.op (fEval s) o H))
    (fun _ => cond (Region.wanted o (fYield ops s)) (gFin call H (gOp P o.op (fEval s) o H)) (some (undef,H)))

theorem gStep_eq (call:CallF) (ops:Array Oper) (o:Oper) (s:FSt) (H:Heap):gStep P call ops o s H = fStep P call ops o s H:=by
  unfold gStep fStep;rw [gFin_eq];cases o.guard <;> rfl

abbrev GK:=FSt → Heap → Option (FSt × Heap)

def gNext (o:Oper) (s:FSt) (ih:GK) (r:Option (Value × Heap)):Option (FSt × Heap):=
  @Option.casesOn (Value × Heap) (fun _ => Option (FSt × Heap)) r none (fun p => @Prod.casesOn Value Heap (fun _ => Option (FSt × Heap)) p (fun v H' => forceV v fun v => forceS (fPut s o.dst v) fun s => forceH H' fun H => ih s H))

noncomputable def gOps (P:Program) (call:CallF) (ops:Array Oper) (l:List Oper):GK:=
  @List.rec Oper (fun _ => GK) (fun s H => some (s,H)) (fun o _ ih s H => gNext o s ih (gStep P call ops o s H)) l

theorem gOps_eq (call:CallF) (ops:Array Oper):∀ (l:List Oper) (s:FSt) (H:Heap),gOps P call ops l s H = fOps P call ops l s H
  | [],s,H => rfl
  | o :: l,s,H => by
    show gNext o s (gOps P call ops l) (gStep P call ops o s H) = _;rw [gStep_eq];unfold fOps gNext;cases fStep P call ops o s H with
    | none => rfl
    | some p =>
      obtain ⟨v,H'⟩:=p;simp only [forceV_eq,forceS_eq,forceH_eq];exact gOps_eq call ops l _ _

abbrev GD:=Nat → FSt → Heap → Option (FSt × Heap)

def gDNext (P:Program) (ops:Array Oper) (o:Oper) (i:Nat) (s:FSt) (H:Heap) (ih:GD) (r:Option (Value × Heap)):Option (FSt × Heap):=
  @Option.casesOn (Value × Heap) (fun _ => Option (FSt × Heap)) r none (fun p => @Prod.casesOn Value Heap (fun _ => Option (FSt × Heap)) p
    (fun v H1 => cond (Nat.ble H.size H1.low || barrier P ops (fEval s) H H1 i) (forceV v fun v => forceS (fPut s o.dst v) fun s => forceH (H1.relow (Nat.min H.low H1.low)) fun H => ih (i + 1) s H) none))

noncomputable def gDraw (P:Program) (call:CallF) (ops:Array Oper) (l:List Oper):GD:=
  @List.rec Oper (fun _ => GD) (fun _ s H => some (s,H)) (fun o _ ih i s H => gDNext P ops o i s H ih (gStep P call ops o s (H.relow H.size))) l

theorem gDraw_eq (call:CallF) (ops:Array Oper):∀ (l:List Oper) (i:Nat) (s:FSt) (H:Heap),gDraw P call ops l i s H = fDraw P call ops l i s H
  | [],i,s,H => rfl
  | o :: l,i,s,H => by
    show gDNext P ops o i s H (gDraw P call ops l) (gStep P call ops o s (H.relow H.size)) = _;rw [gStep_eq];unfold fDraw gDNext;cases fStep P call ops o s (H.relow H.size) with
    | none => rfl
    | some p =>
      obtain ⟨v,H1⟩:=p;simp only [forceV_eq,forceS_eq,forceH_eq];rw [gDraw_eq call ops l]

abbrev GC:=Code → FSt → Heap → FRes
abbrev GB:=GC → FSt → Heap → FRes     -- a form of code,over the machine one step down

def cSkip:GB:=fun _ s H => some (.normal,s,H)
noncomputable def cRegion (P:Program) (call:CallF) (_:Nat) (ops:Array Oper) (dr:Bool):GB:=fun _ s H => fAsN (cond dr (gDraw P call ops ops.toList 0 s H) (gOps P call ops ops.toList s H))
def cSeq (x y:Code):GB:=fun ih s H => fThenN (ih x s H) (ih y)
def cCond (c:Operand) (x y:Code):GB:=fun ih s H => match fEval s c with
  | .bool t => ih (cond t x y) s H
  | _ => none
def cBlock (id:Nat) (x:Code):GB:=fun ih s H => fOutOf id (ih x s H)
def cLoop (x:Code):GB:=fun ih s H => fThenN (ih x s H) (ih (.loop x))
def cExit (id:Nat):GB:=fun _ s H => some (.exit id,s,H)
def cScope (x:Code):GB:=fun ih s H => fNoGo (ih x s H)
def cGoto (l:Nat):GB:=fun _ s H => some (.goto l,s,H)
def cRet:GB:=fun _ s H => some (.ret,s,H)
def cRange (call:CallF) (g:Operand) (ps:Array Tmp) (as bd:Code):GB:=fun _ s H => match fEval s g with
  | .func (.func f) ⟨fa⟩ ⟨fb⟩ => forceVs (fAll s) fun l => endL H.size s (call (.fn f) (fa ++ [.func (.yield H.size) ⟨[]⟩ ⟨[]⟩] ++ fb) (H.addLoop { tmps:=⟨l⟩,params:=ps,assign:=as,body:=bd,state:=.ready,pending:=none }))
  | _ => none
def cNone:GB:=fun _ _ _ => none

noncomputable def gForm (P:Program) (call:CallF) (c:Code):GB:=
  @Code.casesOn (fun _ => GB) c cSkip (cRegion P call) cSeq cCond cBlock cLoop (cRange call) cExit cScope (fun _ => cSkip) cGoto cRet (fun _ => cNone)

noncomputable def gCode (P:Program) (call:CallF) (n:Nat):GC:=
  @Nat.rec (fun _ => GC) (fun _ _ _ => none) (fun _ ih c s H => gForm P call c ih s H) n

theorem gCode_eq (call:CallF):∀ (n:Nat) (c:Code) (s:FSt) (H:Heap),gCode P call n c s H = fCode P call n c s H
  | 0,c,s,H => rfl
  | n + 1,c,s,H => by
    have ih:gCode P call n = fCode P call n:=by funext c s H; exact gCode_eq call n c s H
    show gForm P call c (gCode P call n) s H = _;rw [ih];cases c <;> first
      | rfl
      | (rename_i g ps as bd
         show cRange call g ps as bd (fCode P call n) s H = _;unfold cRange;simp only [forceVs_eq]
         rfl)
      | (rename_i id ops dr
         show fAsN (cond dr (gDraw P call ops ops.toList 0 s H) (gOps P call ops ops.toList s H)) = fAsN (cond dr (fDraw P call ops ops.toList 0 s H) (fOps P call ops ops.toList s H))
         rw [gDraw_eq,gOps_eq])

noncomputable def gFun (P:Program) (call:CallF) (n:Nat) (f:FuncId) (args:List Value) (H:Heap):Option (Value × Heap):=forceVs args fun args => match P.funcs[f]? with
  | some fn => match fn.body with
    | some c => cond (Nat.ble args.length fn.ntmps) (match gCode P call n c ⟨fArgs args 0 .leaf,fn.ntmps⟩ H with
      | some (.normal,a,H') => (fRes P H' a fn.results.toList).map fun vs => (packRes vs,H')
      | some (.ret,a,H') => (fRes P H' a fn.results.toList).map fun vs => (packRes vs,H')
      | _ => none) none
    | none => (aExt fn args).map fun v => (v,H)
  | none => none

noncomputable def gRound (P:Program) (G:Nat) (call:CallF) (n:Nat) (l:Nat) (args:List Value) (H:Heap):Option (Value × Heap):=forceVs args fun args => match H.rows.get l with
  | some row => match row.loop with
    | some (.lp lr) => cond (lenEq lr.params.toList args && (okCode G lr.assign && okCode G lr.body))
        (forceA (putAll lr.params.toList args lr.tmps) fun A => endR l (beginR l (gCode P call n lr.assign ⟨fArgs A.toList 0 .leaf,A.size⟩ H) (gCode P call n lr.body))) none
    | _ => none
  | none => none

noncomputable def gCallN (P:Program) (G D:Nat) (d:Nat):CallF:=
  @Nat.rec (fun _ => CallF) (fun _ _ _ => none) (fun _ ih t args H => @Tgt.casesOn (fun _ => Option (Value × Heap)) t (fun f => gFun P ih D f args H) (fun l => gRound P G ih D l args H)) d

theorem gFun_eq (call:CallF) (n:Nat) (f:FuncId) (args:List Value) (H:Heap):gFun P call n f args H = fFun P call n f args H:=by
  have h:gCode P call n = fCode P call n:=by funext c s H; exact gCode_eq call n c s H
  unfold gFun fFun;rw [h,forceVs_eq];rfl
theorem gRound_eq (G:Nat) (call:CallF) (n:Nat) (l:Nat) (args:List Value) (H:Heap):gRound P G call n l args H = fRound P G call n l args H:=by
  have h:gCode P call n = fCode P call n:=by funext c s H; exact gCode_eq call n c s H
  unfold gRound fRound;rw [h,forceVs_eq];simp only [forceA_eq];rfl
theorem gCallN_eq (G D:Nat):∀ d,gCallN P G D d = fCallN P G D d
  | 0 => rfl
  | d + 1 => by
    funext t args H
    cases t with
    | fn f =>
      show gFun P (gCallN P G D d) D f args H = fFun P (fCallN P G D d) D f args H;rw [gCallN_eq G D d,gFun_eq]
    | rnd l =>
      show gRound P G (gCallN P G D d) D l args H = fRound P G (fCallN P G D d) D l args H;rw [gCallN_eq G D d,gRound_eq]

variable {G:Nat}

theorem gCallN_ok (hp:okProg P G = true) (hmix:P.follows .mixedOrders = true) (D d:Nat):CallOk P G (gCallN P G D d):=by
  rw [gCallN_eq]; exact fCallN_ok hp hmix D d

noncomputable def comesTo (P:Program) (G D d:Nat) (f:FuncId) (args:List Value) (H:Heap) (ok:Value → Bool):Bool:=match gCallN P G D d (.fn f) args H with
  | some (v,_) => ok v
  | none => false

def isTrue:Value → Bool
  | .bool b => b
  | _ => false

theorem isTrue_eq {v:Value} (h:isTrue v = true):v = .bool true:=by
  cases v with
  | bool b => simp only [isTrue] at h; rw [h]
  | _ => simp [isTrue] at h

theorem calls_true (hp:okProg P G = true) (hmix:P.follows .mixedOrders = true) {D d:Nat} {f:FuncId} {args:List Value} {H:Heap} (e:comesTo P G D d f args H isTrue = true) (hargs:plains args = true)
    (hE:EnterOk P f) {n0:Nat} {m:Map} {w:World} (h:HR n0 m H w) (hG:Glob m G) :
    Calls P f args.toArray w fun e w' => e = .returned (.bool true) ∧ Go.RowKit.Below n0 w w':=by
  unfold comesTo at e;split at e
  · rename_i v H' hc;refine ((gCallN_ok hp hmix D d).goes f args H v H' hc hE n0 m w args h hG (VRs.of_plain hargs)).mono ?_
    rintro e w' ⟨v',m',rfl,hext,hvr⟩;have hv:=isTrue_eq ‹_›;rw [hv] at hvr;exact ⟨by rw [hvr.eq_of_plain rfl],hext.below⟩
  · cases e

end Go.AM
