/- A general tool, which names no program: operations of a canonical machine for the model's own code, proved: what it comes to is what every run comes to. -/
import Derived.Test.YtcmaipijkjillaaDoorGa
import Derived.MapKept
import Derived.Laws.BytesString
import GoSem.Dispatch
set_option linter.unusedVariables false
set_option linter.unusedSimpArgs false
set_option linter.unusedSectionVars false

namespace Go.AM
open Go.RowKit (Below)

variable {P:Program} {n0:Nat} {m:Map} {H:Heap} {w:World}

theorem HR.drew (h:HR n0 m H w):HR n0 m H w.drew where
  base:=h.base
  row:=fun r rm hm => by
    obtain ⟨row,h1,h2,hf⟩:=h.row r rm hm;exact ⟨row,h1,h2,hf.later (Map.le_refl _) rfl id⟩
  apart:=h.apart
  inv:=h.inv

/-! The first elements of a slice or a string. -/

def aFirst (H:Heap) (size n:Nat):Value → Option (List Value)
  | .slice (some ⟨r,o,none⟩) _ _ => cond (Nat.beq (n * size) 0) (some []) (H.read r o (n * size))
  | .slice none _ _ => cond (Nat.beq n 0) (some []) none
  | .slice (some ⟨_,_,some _⟩) 0 0 => cond (Nat.beq n 0) (some []) none
  | .string s => cond (Nat.beq size 1 && Nat.ble n s.size) (some ((s.extract 0 n).data.toList.map fun b => .int .u8 b.toNat)) none
  | _ => none

def lenV:Value → Option Nat
  | .slice _ n _ => some n
  | .string s => some s.size
  | _ => none

theorem lenV_sound {x x':Value} {n:Nat} (hx:VR m x x') (e:lenV x = some n):(Builtin.lenOf x').run P w = .ok n w:=by
  cases x <;> simp only [lenV] at e <;> first | (cases e; done) | skip
  · rw [hx.eq_of_plain rfl]; cases e; rfl
  · cases e;cases hx <;> rfl

theorem aFirst_sound (h:HR n0 m H w) {size n:Nat} {x x':Value} {l:List Value} (hx:VR m x x') (e:aFirst H size n x = some l)
    (hn:∀ k,lenV x = some k → n ≤ k) :
    ∃ l',(Builtin.firstCells size n x').run P w = .ok l'.toArray w ∧ VRs m l l' ∧ l.length = n * size:=by
  unfold aFirst at e;split at e
  · rename_i r o k c;obtain ⟨rm,o',c',hm,rfl,hc⟩:=hx.slice_inv;cases hz:Nat.beq (n * size) 0 with
    | true =>
      rw [hz,cond_true] at e;cases e;have hz:=Nat.eq_of_beq_eq_true hz;exact ⟨[],by simp [Builtin.firstCells,hz,loadCells,loadCellsFrom],.nil,by simp [hz]⟩
    | false =>
      rw [hz,cond_false] at e;have hnz:n ≠ 0:=fun q => by rw [q,Nat.zero_mul] at hz; cases hz
      obtain ⟨l',hv,hlen,hlen2,hcell,_⟩:=read_sound h hm e;have hnk:=hn k rfl;have ho:o' = rm.sh + o:=by
        rcases hc with ⟨_,h1,_⟩ | ⟨_,h1,h2,⟨h3,_⟩ | h3⟩
        · exact h1
        · exact h3
        · omega
      exact ⟨l',by simp only [Builtin.firstCells]; rw [ho]; exact run_loadCells_of hlen hcell,hv,hlen2⟩
  · rename_i k c;rw [hx.eq_of_plain rfl];cases hz:Nat.beq n 0 with
    | false => rw [hz] at e; cases e
    | true =>
      rw [hz,cond_true] at e;cases e;have:=Nat.eq_of_beq_eq_true hz;exact ⟨[],rfl,.nil,by simp [this]⟩
  · rename_i r o sp;cases hz:Nat.beq n 0 with
    | false => rw [hz] at e; cases e
    | true =>
      rw [hz,cond_true] at e;cases e;have h0:=Nat.eq_of_beq_eq_true hz;cases hx with
      | plain hp => simp [AM.plain] at hp
      | sliceZ => exact ⟨[],by simp [Builtin.firstCells,h0,loadCells,loadCellsFrom],.nil,by simp [h0]⟩
  · rename_i s;rw [hx.eq_of_plain rfl];cases hb:(Nat.beq size 1 && Nat.ble n s.size) with
    | false => rw [hb] at e; cases e
    | true =>
      rw [hb,cond_true] at e;cases e;simp only [Bool.and_eq_true] at hb;have h1:=Nat.eq_of_beq_eq_true hb.1;have h2:=Nat.le_of_ble_eq_true hb.2;refine ⟨_,?_,VRs.of_plain (plains_of ?_),?_⟩
      · simp only [Builtin.firstCells,Sem.run_pure];congr 1;apply Array.ext';simp
      · intro v hv;simp only [List.mem_map] at hv;obtain ⟨b,_,rfl⟩:=hv;rfl
      · rw [h1];simp only [List.length_map,Array.length_toList,ByteArray.size_data,ByteArray.size_extract];omega
  · cases e

/-! append -/

def isIntD:TypeDesc → Bool
  | .int _ => true
  | _ => false


def aAppendSome (H:Heap) (e size:Nat) (r o sl sc n:Nat) (new:List Value):Option (Value × Heap):=
  match H.rows.get r with
  | some row =>
    cond (Nat.beq n 0) (cond (Nat.ble sl sc) (some (.slice (some ⟨r,o,none⟩) sl sc,H)) none)
    (cond (Nat.ble (sl + n) sc && (row.exact || Nat.beq size row.esz))
      (cond (!row.ro && (H.alive r row && (ones new && Nat.ble (o + sl * size + new.length) row.cells.length)))
        (some (.slice (some ⟨r,o,none⟩) (sl + n) sc,H.store r row (o + sl * size) new)) none)
      (cond row.exact
        ((cond (Nat.beq (sl * size) 0) (some []) (H.read r o (sl * size))).map fun old =>
          (.slice (some ⟨H.size,0,none⟩) (sl + n) (sl + n),H.add { cells:=old ++ new,elem:=e,exact:=false,ro:=false,esz:=size,grp:=2 * H.size + 1,gpos:=0 }))
        (cond (H.alive r row && (Nat.beq size row.esz && (Nat.beq e row.elem && (ones new && (Nat.ble sl sc && Nat.ble (o + sl * size) row.cells.length)))))
          (some (.slice (some ⟨H.size,0,none⟩) (sl + n) (sl + n),H.grow r row o (sl * size) new)) none)))
  | none => none

def aAppend (P:Program) (H:Heap) (argTypes:Array TypeId) (s x:Value):Option (Value × Heap):=
  match argTypes[0]?,argTypes[1]? with
  | some sT,some xT => match P.underlying sT,P.underlying xT with
    | some (.slice e),some d => match isIntD d,P.info? e,lenV x with
      | false,some inf,some n => match inf.zero,aFirst H inf.size n x with
        | some z,some new => cond (Nat.beq z.cells.toList.length inf.size && Nat.blt 0 inf.size) (match s with
          | .slice none sl sc => cond (Nat.beq sl 0 && (Nat.beq sc 0 && small n inf.bytes)) (cond (Nat.beq n 0) (some (.slice none 0 0,H))
              (some (.slice (some ⟨H.size,0,none⟩) n n,H.add { cells:=new,elem:=e,exact:=false,ro:=false,esz:=inf.size,grp:=2 * H.size + 1,gpos:=0 }))) none
          | .slice (some ⟨r,o,none⟩) sl sc => cond (small (sl + n) inf.bytes) (aAppendSome H e inf.size r o sl sc n new) none
          | _ => none) none
        | _,_ => none
      | _,_,_ => none
    | _,_ => none
  | _,_ => none

theorem nextcap_le {need cap:Nat} (h:cap < need):Builtin.nextslicecap need cap ≤ 4 * need + 1024:=by
  have grow:∀ r c,c ≤ 2 * need + 512 → Builtin.growBy need r c ≤ 4 * need + 1024:=by
    intro r
    induction r with
    | zero => intro c hc; simp [Builtin.growBy]; omega
    | succ r ih =>
      intro c hc;unfold Builtin.growBy;split
      · omega
      · exact ih _ (by omega)
  unfold Builtin.nextslicecap;split
  · omega
  · split
    · omega
    · exact grow _ _ (by omega)

theorem run_append_fresh {argTypes:Array TypeId} {ty sT xT e:TypeId} {inf:TypeInfo} {z:Value} {d:TypeDesc} {base:Option Addr} {sl sc n:Nat} {x:Value} {old new:List Value}
    (h0:argTypes[0]? = some sT) (h1:argTypes[1]? = some xT) (hs:P.underlying sT = some (.slice e)) (hx:P.underlying xT = some d) (hd:isIntD d = false)
    (hi:P.info? e = some inf) (hz:inf.zero = some z) (hn:(Builtin.lenOf x).run P w = .ok n w) (hneed:¬ sl + n ≤ sc) (hsm:small (sl + n) inf.bytes = true)
    (ho:(Builtin.firstCells inf.size sl (.slice base sl sc)).run P w.drew = .ok old.toArray w.drew) (hnew:(Builtin.firstCells inf.size n x).run P w.drew = .ok new.toArray w.drew) :
    ∃ cap,sl + n ≤ cap ∧ (Builtin.append_ argTypes ty #[.slice base sl sc,x]).run P w =
      .ok (.slice (some ⟨w.heap.size,0,none⟩) (sl + n) cap) (w.drew.alloc (.cells (old ++ new ++ (Builtin.zeroCells z.cells (cap - (sl + n))).toList).toArray e)):=by
  obtain ⟨hs1,hs2⟩:=small_le hsm;have hnc:=nextcap_le (need:=sl + n) (cap:=sc) (by omega)
  have hnb:¬ 2 ^ 48 < Builtin.nextslicecap (sl + n) sc * inf.bytes:=by
    have h1:Builtin.nextslicecap (sl + n) sc * inf.bytes ≤ (4 * 268435456 + 1024) * 65536:=Nat.mul_le_mul (by omega) hs2
    omega
  refine ⟨(Question.appendCap (sl + n) sc e).cut (w.tape w.drawn (.appendCap (sl + n) sc e)),by simp [Question.cut],?_⟩
  have hmx:¬ ((sl + n:Nat):Int) > IntKind.i64.max:=by
    have:IntKind.i64.max = 9223372036854775807:=by decide
    rw [this]; omega
  have hch:(choose (Question.appendCap (sl + n) sc e)).run P w = .ok ((Question.appendCap (sl + n) sc e).cut (w.tape w.drawn (Question.appendCap (sl + n) sc e))) w.drew:=by
    rw [run_choose,if_neg (by simp [Question.forced])]; rfl
  generalize (Question.appendCap (sl + n) sc e).cut (w.tape w.drawn (Question.appendCap (sl + n) sc e)) = cap at hch ⊢;have hcc:old.toArray ++ new.toArray ++ Builtin.zeroCells z.cells (cap - (sl + n)) = (old ++ new ++ (Builtin.zeroCells z.cells (cap - (sl + n))).toList).toArray:=by
    apply Array.ext'; simp
  unfold Builtin.append_;cases d <;> first
    | (simp [isIntD] at hd; done)
    | (simp only [List.getElem?_toArray,List.getElem?_cons_zero,List.getElem?_cons_succ,h0,h1,Sem.run_bind,run_underlying' hs,Result.andThen_ok,run_sizeOf' hi,run_underlying' hx,Sem.run_pure,Bool.false_eq_true,if_false,hn,
        hneed,run_typeInfo' hi,hmx,false_and,hnb,gt_iff_lt,hch,run_askRoom,ho,Bool.not_false,if_true,hnew,run_zero' hi hz,newRow,run_newObj,hcc]
       rfl)

theorem run_append_room {argTypes:Array TypeId} {ty sT xT e:TypeId} {inf:TypeInfo} {d:TypeDesc} {b o sl sc n:Nat} {x:Value} {new:List Value} {cs:Array Value} {bt:TypeId}
    (h0:argTypes[0]? = some sT) (h1:argTypes[1]? = some xT) (hs:P.underlying sT = some (.slice e)) (hx:P.underlying xT = some d) (hd:isIntD d = false)
    (hi:P.info? e = some inf) (hn:(Builtin.lenOf x).run P w = .ok n w) (hneed:sl + n ≤ sc)
    (hnew:(Builtin.firstCells inf.size n x).run P w = .ok new.toArray w) (hone:∀ v ∈ new,v.oneCell' = true)
    (hb:w.heap[b]? = some (.cells cs bt (0,0))) (hroom:o + sl * inf.size + new.length ≤ cs.size) :
    (Builtin.append_ argTypes ty #[.slice (some ⟨b,o,none⟩) sl sc,x]).run P w =
      .ok (.slice (some ⟨b,o,none⟩) (sl + n) sc) (w.setRow b (splice cs.toList (o + sl * inf.size) new).toArray):=by
  have hst:=run_storeCells_at P b (o + sl * inf.size) bt new 0 cs w hb (by simpa using hroom) hone
  simp only [Nat.add_zero,toList_splice] at hst;unfold Builtin.append_;cases d <;> first
    | (simp [isIntD] at hd; done)
    | (simp only [List.getElem?_toArray,List.getElem?_cons_zero,List.getElem?_cons_succ,h0,h1,Sem.run_bind,run_underlying' hs,Result.andThen_ok,run_sizeOf' hi,run_underlying' hx,Sem.run_pure,Bool.false_eq_true,if_false,hn,
        hneed,if_true,Bool.not_false,hnew,addr_add,hst])

theorem run_append_none {argTypes:Array TypeId} {ty sT xT e:TypeId} {inf:TypeInfo} {d:TypeDesc} {base:Option Addr} {sl sc:Nat} {x:Value}
    (h0:argTypes[0]? = some sT) (h1:argTypes[1]? = some xT) (hs:P.underlying sT = some (.slice e)) (hx:P.underlying xT = some d) (hd:isIntD d = false)
    (hi:P.info? e = some inf) (hn:(Builtin.lenOf x).run P w = .ok 0 w) (hneed:sl ≤ sc)
    (hnew:(Builtin.firstCells inf.size 0 x).run P w = .ok #[] w) :
    (Builtin.append_ argTypes ty #[.slice base sl sc,x]).run P w = .ok (.slice base sl sc) w:=by
  unfold Builtin.append_;cases d <;> first
    | (simp [isIntD] at hd; done)
    | (simp only [List.getElem?_toArray,List.getElem?_cons_zero,List.getElem?_cons_succ,h0,h1,Sem.run_bind,run_underlying' hs,Result.andThen_ok,run_sizeOf' hi,run_underlying' hx,Sem.run_pure,Bool.false_eq_true,if_false,hn,
        Nat.add_zero,hneed,if_true,Bool.not_false,hnew]
       cases base <;> simp [storeCells])

theorem zeroCells_length {z:Value} {k size:Nat} (h:z.cells.toList.length = size):(Builtin.zeroCells z.cells k).toList.length = k * size:=by
  have h:z.cells.size = size:=by simpa using h
  simp [Builtin.zeroCells,h]

theorem aAppend_sound (h:HR n0 m H w) {argTypes:Array TypeId} {ty:TypeId} {s s' x x' v:Value} {H':Heap} (hs:VR m s s') (hx:VR m x x')
    (e:aAppend P H argTypes s x = some (v,H')):Sim P n0 m H w (Builtin.append_ argTypes ty #[s',x']) v H':=by
  unfold aAppend at e;split at e
  case h_2 => cases e
  rename_i sT xT h0 h1;split at e
  case h_2 => cases e
  rename_i e' d hsT hxT;split at e
  case h_2 => cases e
  rename_i inf n hd hi hn;split at e
  case h_2 => cases e
  rename_i z new hz hnew;cases hb:(Nat.beq z.cells.toList.length inf.size && Nat.blt 0 inf.size) with
  | false => rw [hb] at e; cases e
  | true =>
    rw [hb,cond_true] at e;simp only [Bool.and_eq_true] at hb;have hzs:=Nat.eq_of_beq_eq_true hb.1;have hpos:0 < inf.size:=Nat.le_of_ble_eq_true hb.2;have hlen':=fun w => lenV_sound (P:=P) (w:=w) hx hn
    obtain ⟨new',hfn,hvn,hln⟩:=aFirst_sound (P:=P) h hx hnew (fun k hk => by rw [hn] at hk; cases hk; exact Nat.le_refl _)
    obtain ⟨new2,hfn2,hvn2,_⟩:=aFirst_sound (P:=P) h.drew hx hnew (fun k hk => by rw [hn] at hk; cases hk; exact Nat.le_refl _)
    split at e
    · -- onto nil
      rename_i sl sc;cases hq:(Nat.beq sl 0 && (Nat.beq sc 0 && small n inf.bytes)) with
      | false => rw [hq] at e; cases e
      | true =>
        rw [hq,cond_true] at e;simp only [Bool.and_eq_true] at hq;obtain ⟨hq1,hq2,hsm⟩:=hq;have hq1:=Nat.eq_of_beq_eq_true hq1;have hq2:=Nat.eq_of_beq_eq_true hq2;subst hq1; subst hq2;rw [hs.eq_of_plain rfl];cases hnz:Nat.beq n 0 with
        | true =>
          rw [hnz,cond_true] at e;cases e;have hnz:=Nat.eq_of_beq_eq_true hnz;subst hnz;have hnil:new' = []:=List.length_eq_zero_iff.1 (by rw [← hvn.length,hln]; simp)
          subst hnil;exact Sim.same h (run_append_none h0 h1 hsT hxT hd hi (hlen' w) (Nat.le_refl 0) hfn) (.plain rfl)
        | false =>
          rw [hnz,cond_false] at e;cases e;have hn0:n ≠ 0:=fun q => by rw [q] at hnz; cases hnz
          obtain ⟨cap,hcap,hrun⟩:=run_append_fresh (ty:=ty) (base:=none) (sl:=0) (sc:=0) (old:=[]) h0 h1 hsT hxT hd hi hz (hlen' w) (by omega) (by simpa using hsm) rfl hfn2
          have hext:=Ext.add h { cells:=new,elem:=e',exact:=false,ro:=false,esz:=inf.size,grp:=2 * H.size + 1,gpos:=0 } new2 (Builtin.zeroCells z.cells (cap - (0 + n))).toList rfl rfl hvn2 (.inr ⟨rfl,rfl⟩) w.drew (.inr rfl);refine ⟨_,_,_,hrun,by simpa using hext,?_,HF.add H _ (.inr rfl) h.inv⟩
          rw [show 0 + n = n by omega] at hext hcap hrun ⊢
          refine .sliceL (rm:=⟨w.heap.size,0,_,inf.size,false,false⟩) (Map.put_same _ _ _) rfl (Nat.le_refl _) (by omega) (.inl ⟨rfl,?_⟩)
          have hzc:(Builtin.zeroCells z.cells (cap - n)).size = (cap - n) * inf.size:=by simpa using zeroCells_length (k:=cap - n) hzs
          simp only [List.length_append,zeroCells_length hzs,hzc,← hvn2.length,hln,Nat.zero_add];rw [← Nat.add_mul];exact Nat.mul_le_mul_right _ (by omega)
    · rename_i r o sl sc;cases hsm:small (sl + n) inf.bytes with
      | false => rw [hsm] at e; cases e
      | true =>
        rw [hsm,cond_true] at e;obtain ⟨rm,o',c',hm,rfl,hc⟩:=hs.slice_inv;unfold aAppendSome at e;split at e
        case h_2 => cases e
        rename_i row hrow;have hf:=h.rowOf hm hrow;have hcc:sc ≤ c':=by rcases hc with ⟨_,_,h1⟩ | ⟨_,_,h1,_⟩ <;> omega
        cases hnz:Nat.beq n 0 with
        | true =>
          rw [hnz,cond_true] at e;cases hle:Nat.ble sl sc with
          | false => rw [hle] at e; cases e
          | true =>
            rw [hle,cond_true] at e;cases e;have hnz:=Nat.eq_of_beq_eq_true hnz;have hle:=Nat.le_of_ble_eq_true hle;subst hnz;have hnil:new' = []:=List.length_eq_zero_iff.1 (by rw [← hvn.length,hln]; simp)
            subst hnil;exact Sim.same h (run_append_none h0 h1 hsT hxT hd hi (hlen' w) (by omega) hfn) hs
        | false =>
          rw [hnz,cond_false] at e;have hn0:n ≠ 0:=fun q => by rw [q] at hnz; cases hnz
          cases hroom:(Nat.ble (sl + n) sc && (row.exact || Nat.beq inf.size row.esz)) with
          | true =>
            rw [hroom,cond_true] at e;simp only [Bool.and_eq_true] at hroom;have hle:=Nat.le_of_ble_eq_true hroom.1;cases hok:(!row.ro && (H.alive r row && (ones new && Nat.ble (o + sl * inf.size + new.length) row.cells.length))) with
            | false => rw [hok] at e; cases e
            | true =>
              rw [hok,cond_true] at e;cases e;simp only [Bool.and_eq_true,Bool.not_eq_true'] at hok;obtain ⟨hro,hal,hones,hfit⟩:=hok;have hfit:=Nat.le_of_ble_eq_true hfit;obtain ⟨cs,hb,hr,hext⟩:=Ext.store h hm hrow hro hal (o + sl * inf.size) new new' hvn hfit;have ho:o' = rm.sh + o:=by
                rcases hc with ⟨_,h1,_⟩ | ⟨_,h1,h2,⟨h3,_⟩ | h3⟩
                · exact h1
                · exact h3
                · omega
              have hrun:=run_append_room (ty:=ty) (b:=rm.blk) (o:=o') (sl:=sl) (sc:=c') h0 h1 hsT hxT hd hi (hlen' w) (by omega) hfn (ones_mem hvn hones) hb (by omega)
              refine ⟨_,m,_,hrun,?_,?_,HF.store H r row _ _⟩
              · rw [ho,show rm.sh + o + sl * inf.size = rm.sh + (o + sl * inf.size) by omega]; exact hext
              · rcases hc with ⟨he,_,hce⟩ | ⟨he,h1,h2,h3⟩
                · rw [hce,ho]; exact .sliceE hm he
                · exact .sliceL hm he hle hcc h3
          | false =>
            rw [hroom,cond_false] at e;cases hex:row.exact with
            | true =>
              rw [hex] at hroom;simp only [Bool.true_or,Bool.and_true] at hroom;have hlt:¬ sl + n ≤ sc:=fun q => by rw [Nat.ble_eq_true_of_le q] at hroom; cases hroom
              rw [hex,cond_true,Option.map_eq_some_iff] at e;obtain ⟨old,hold,he⟩:=e;cases he;rcases hc with ⟨he,ho,hce⟩ | ⟨he,_⟩
              case inr => rw [hf.ex,hex] at he; cases he
              subst ho; subst hce;have hold':∃ old',(Builtin.firstCells inf.size sl (.slice (some ⟨rm.blk,rm.sh + o,none⟩) sl c')).run P w.drew = .ok old'.toArray w.drew ∧ VRs m old old' ∧ old.length = sl * inf.size:=
                aFirst_sound h.drew hs (by unfold aFirst; exact hold) (fun k hk => by cases hk; exact Nat.le_refl _)
              obtain ⟨old',hfo,hvo,hlo⟩:=hold';obtain ⟨cap,hcap,hrun⟩:=run_append_fresh (ty:=ty) (base:=some ⟨rm.blk,rm.sh + o,none⟩) (sl:=sl) (sc:=c') h0 h1 hsT hxT hd hi hz (hlen' w) hlt hsm hfo hfn2;have hext:=Ext.add h { cells:=old ++ new,elem:=e',exact:=false,ro:=false,esz:=inf.size,grp:=2 * H.size + 1,gpos:=0 } (old' ++ new2) (Builtin.zeroCells z.cells (cap - (sl + n))).toList rfl rfl (hvo.append hvn2) (.inr ⟨rfl,rfl⟩) w.drew (.inr rfl);refine ⟨_,_,_,hrun,hext,?_,HF.add H _ (.inr rfl) h.inv⟩;refine .sliceL (rm:=⟨w.heap.size,0,_,inf.size,false,false⟩) (Map.put_same _ _ _) rfl (Nat.le_refl _) (by omega) (.inl ⟨rfl,?_⟩)
              simp only [List.length_append,zeroCells_length hzs,← hvn2.length,← hvo.length,hln,hlo,Nat.zero_add];rw [← Nat.add_mul,← Nat.add_mul];exact Nat.mul_le_mul_right _ (by omega)
            | false =>
              rw [hex,cond_false] at e;cases hok:(H.alive r row && (Nat.beq inf.size row.esz && (Nat.beq e' row.elem && (ones new && (Nat.ble sl sc && Nat.ble (o + sl * inf.size) row.cells.length))))) with
              | false => rw [hok] at e; cases e
              | true =>
                rw [hok,cond_true] at e;cases e;simp only [Bool.and_eq_true] at hok;obtain ⟨hal,hes,hel,hones,hsl,hfit⟩:=hok;have hes:=Nat.eq_of_beq_eq_true hes;have hel:=Nat.eq_of_beq_eq_true hel;have hsl:=Nat.le_of_ble_eq_true hsl;have hfit:=Nat.le_of_ble_eq_true hfit;subst hel;rcases hc with ⟨he,_⟩ | ⟨he,hc1,hc2,hc3⟩
                · rw [hf.ex,hex] at he; cases he
                · have hres:rm.esz = inf.size:=by rw [hf.es,hes]
                  by_cases hin:sl + n ≤ c'
                  · -- in place
                    have ho:o' = rm.sh + o ∧ o' + c' * rm.esz ≤ rm.ext:=by
                      rcases hc3 with h3 | h3
                      · exact h3
                      · omega
                    obtain ⟨ho,hex3⟩:=ho;have hmul:(sl + n) * inf.size ≤ c' * inf.size:=Nat.mul_le_mul_right _ hin;rw [Nat.add_mul] at hmul;rw [hres] at hex3;have hnl:new'.length = n * inf.size:=by rw [← hvn.length,hln]
                    obtain ⟨cs,hb,hsz,hext⟩:=Ext.growA h hm hrow hex hal o (sl * inf.size) new new' hvn hfit (by omega)
                    have hrun:=run_append_room (ty:=ty) (b:=rm.blk) (o:=o') (sl:=sl) (sc:=c') h0 h1 hsT hxT hd hi (hlen' w) hin hfn (ones_mem hvn hones) hb (by omega)
                    refine ⟨_,_,_,hrun,by rw [ho]; exact hext,?_,HF.grow H r row _ _ _⟩
                    refine .sliceL (rm:=⟨rm.blk,rm.sh + o,rm.ext,rm.esz,false,false⟩) (Map.put_same _ _ _) rfl (Nat.le_refl _) hin (.inl ⟨by simp only [ho,Nat.add_zero],?_⟩)
                    simp only [hres,ho] at hex3 ⊢;omega
                  · have hold':∃ old',(Builtin.firstCells inf.size sl (.slice (some ⟨rm.blk,o',none⟩) sl c')).run P w.drew = .ok old'.toArray w.drew ∧ VRs m ((row.cells.drop o).take (sl * inf.size)) old' ∧ ((row.cells.drop o).take (sl * inf.size)).length = sl * inf.size:=by
                      refine aFirst_sound h.drew hs ?_ (fun k hk => by cases hk; exact Nat.le_refl _)
                      unfold aFirst;cases hz0:Nat.beq (sl * inf.size) 0 with
                      | true =>
                        have:=Nat.eq_of_beq_eq_true hz0;simp only [hz0,cond_true,this,List.take_zero]
                      | false =>
                        simp only [hz0,cond_false];unfold Heap.read;rw [hrow];simp only [hal,Nat.ble_eq_true_of_le hfit,Bool.and_self,cond_true]
                    obtain ⟨old',hfo,hvo,hlo⟩:=hold';obtain ⟨cap,hcap,hrun⟩:=run_append_fresh (ty:=ty) (base:=some ⟨rm.blk,o',none⟩) (sl:=sl) (sc:=c') h0 h1 hsT hxT hd hi hz (hlen' w) hin hsm hfo hfn2;have hext:=Ext.growB h hm hrow hex (alive_loop hal) o (sl * inf.size) new (old' ++ new2) (Builtin.zeroCells z.cells (cap - (sl + n))).toList (hvo.append hvn2);refine ⟨_,_,_,hrun,hext,?_,HF.grow H r row _ _ _⟩;refine .sliceL (rm:=⟨w.heap.size,0,_,rm.esz,false,false⟩) (Map.put_same _ _ _) rfl (Nat.le_refl _) (by omega) (.inl ⟨rfl,?_⟩)
                    simp only [List.length_append,zeroCells_length hzs,← hvn2.length,← hvo.length,hln,hlo,Nat.zero_add,hres];rw [← Nat.add_mul,← Nat.add_mul];exact Nat.mul_le_mul_right _ (by omega)
    · cases e

/-! len,cap,copy -/

def aLen (P:Program) (argTypes:Array TypeId) (x:Value):Option Value:=match argTypes[0]? with
  | some t => match P.underlying t,x with
    | some (.slice _),.slice _ n _ => some (goInt n)
    | some .string,.string s => some (goInt s.size)
    | _,_ => none
  | none => none

theorem aLen_sound {argTypes:Array TypeId} {ty:TypeId} {x x' v:Value} (hx:VR m x x') (e:aLen P argTypes x = some v) :
    ∃ v',(Builtin.len_ argTypes ty #[x']).run P w = .ok v' w ∧ VR m v v':=by
  unfold aLen at e;split at e
  · rename_i t ht;split at e
    · rename_i e' a n c hu;cases e;refine ⟨goInt n,?_,.plain rfl⟩;have:∃ a' c',x' = .slice a' n c':=by
        cases hx with
        | plain _ => exact ⟨_,_,rfl⟩
        | sliceE _ _ => exact ⟨_,_,rfl⟩
        | sliceL _ _ _ _ _ => exact ⟨_,_,rfl⟩
        | sliceZ => exact ⟨_,_,rfl⟩
      obtain ⟨a',c',rfl⟩:=this;simp [Builtin.len_,ht,run_underlying' hu]
    · rename_i s hu;cases e;rw [hx.eq_of_plain rfl];exact ⟨_,by simp [Builtin.len_,ht,run_underlying' hu],.plain rfl⟩
    · cases e
  · cases e

def aCap (P:Program) (H:Heap) (argTypes:Array TypeId) (x:Value):Option Value:=match argTypes[0]?,x with
  | some t,.slice (some ⟨r,_,none⟩) _ c => match P.underlying t,H.rows.get r with
    | some (.slice _),some row => cond row.exact (some (goInt c)) none
    | _,_ => none
  | _,_ => none

theorem aCap_sound (h:HR n0 m H w) {argTypes:Array TypeId} {ty:TypeId} {x x' v:Value} (hx:VR m x x') (e:aCap P H argTypes x = some v) :
    ∃ v',(Builtin.cap_ argTypes ty #[x']).run P w = .ok v' w ∧ VR m v v':=by
  unfold aCap at e;split at e
  · rename_i t r o n c ht;split at e
    · rename_i e' row hu hrow;obtain ⟨rm,o',c',hm,rfl,hc⟩:=hx.slice_inv;have hf:=h.rowOf hm hrow;cases hex:row.exact with
      | false => rw [hex] at e; cases e
      | true =>
        rw [hex,cond_true] at e;cases e;rcases hc with ⟨_,_,rfl⟩ | ⟨he,_⟩
        · exact ⟨_,by simp [Builtin.cap_,ht,run_underlying' hu],.plain rfl⟩
        · rw [hf.ex,hex] at he; cases he
    · cases e
  · cases e

def aCopy (P:Program) (H:Heap) (argTypes:Array TypeId) (d s:Value):Option (Value × Heap):=match argTypes[0]?,d with
  | some t,.slice (some ⟨r,o,none⟩) dl _ => match P.underlying t,lenV s,H.rows.get r with
    | some (.slice e),some sl,some row => match P.info? e with
      | some inf => match aFirst H inf.size (Nat.min sl dl) s with
        | some l => cond (Nat.beq l.length 0) (some (goInt (Nat.min sl dl),H))
            (cond (!row.ro && (H.alive r row && (ones l && Nat.ble (o + l.length) row.cells.length))) (some (goInt (Nat.min sl dl),H.store r row o l)) none)
        | none => none
      | none => none
    | _,_,_ => none
  | _,_ => none

theorem aCopy_sound (h:HR n0 m H w) {argTypes:Array TypeId} {ty:TypeId} {d d' s s' v:Value} {H':Heap} (hd:VR m d d') (hs:VR m s s')
    (e:aCopy P H argTypes d s = some (v,H')):Sim P n0 m H w (Builtin.copy_ argTypes ty #[d',s']) v H':=by
  unfold aCopy at e;split at e
  case h_2 => cases e
  rename_i t r o dl dc ht;split at e
  case h_2 => cases e
  rename_i e' sl row hu hsl hrow;split at e
  case h_2 => cases e
  rename_i inf hi;split at e
  case h_2 => cases e
  rename_i l hl;obtain ⟨rm,o',c',hm,rfl,hc⟩:=hd.slice_inv;have hf:=h.rowOf hm hrow;have hlen':=lenV_sound (P:=P) (w:=w) hs hsl;obtain ⟨l',hfl,hvl,hll⟩:=aFirst_sound (P:=P) h hs hl (fun k hk => by rw [hsl] at hk; cases hk; exact Nat.min_le_left _ _)
  cases hz:Nat.beq l.length 0 with
  | true =>
    rw [hz,cond_true] at e;cases e;have hz:=Nat.eq_of_beq_eq_true hz;have hnil:l' = []:=List.length_eq_zero_iff.1 (by rw [← hvl.length,hz])
    subst hnil;refine Sim.same h (v':=goInt (Nat.min sl dl)) ?_ (.plain rfl);simp [Builtin.copy_,ht,run_underlying' hu,hlen',run_sizeOf' hi,hfl,storeCells]
  | false =>
    rw [hz,cond_false] at e;cases hok:(!row.ro && (H.alive r row && (ones l && Nat.ble (o + l.length) row.cells.length))) with
    | false => rw [hok] at e; cases e
    | true =>
      rw [hok,cond_true] at e;cases e;simp only [Bool.and_eq_true,Bool.not_eq_true'] at hok;obtain ⟨hro,hal,hones,hfit⟩:=hok;have hfit:=Nat.le_of_ble_eq_true hfit;obtain ⟨cs,hb,hr,hext⟩:=Ext.store h hm hrow hro hal o l l' hvl hfit;have hlz:l.length ≠ 0:=fun q => by rw [q] at hz; cases hz
      have hdl:dl ≠ 0:=fun q => by
        have:Nat.min sl dl = 0:=by rw [q]; exact Nat.min_zero _
        rw [this,Nat.zero_mul] at hll;exact hlz hll
      have ho:o' = rm.sh + o:=by
        rcases hc with ⟨_,h1,_⟩ | ⟨_,h1,h2,⟨h3,_⟩ | h3⟩
        · exact h1
        · exact h3
        · omega
      have hst:=run_storeCells_at P rm.blk o' row.elem l' 0 cs w hb (by omega) (ones_mem hvl hones)
      simp only [Nat.add_zero,toList_splice] at hst;refine ⟨goInt (Nat.min sl dl),m,_,?_,by rw [← ho] at hext; exact hext,.plain rfl,HF.store H r row _ _⟩
      simp [Builtin.copy_,ht,run_underlying' hu,hlen',run_sizeOf' hi,hfl,hst]

end Go.AM

namespace Go.AM

/-! What is written out for the kernel. -/

def forceI {R:Type} (n:Int) (k:Int → R):R:=@Int.casesOn (fun _ => R) n (fun a => forceN a fun a => k (.ofNat a)) (fun a => forceN a fun a => k (.negSucc a))
theorem forceI_eq {R:Type} (n:Int) (k:Int → R):forceI n k = k n:=by cases n <;> simp only [forceI,forceN_eq]
def forceB {R:Type} (b:Bool) (k:Bool → R):R:=@Bool.casesOn (fun _ => R) b (k false) (k true)
theorem forceB_eq {R:Type} (b:Bool) (k:Bool → R):forceB b k = k b:=by cases b <;> rfl

mutual
def forceV {R:Type}:Value → (Value → R) → R
  | .int i n,k => forceI n fun n => k (.int i n)
  | .bool b,k => forceB b fun b => k (.bool b)
  | .string ⟨⟨l⟩⟩,k => forceL l fun l => k (.string ⟨⟨l⟩⟩)
  | .pointer (some ⟨r,o,s⟩),k => forceN r fun r => forceN o fun o => k (.pointer (some ⟨r,o,s⟩))
  | .slice (some ⟨r,o,s⟩) n c,k => forceN r fun r => forceN o fun o => forceN n fun n => forceN c fun c => k (.slice (some ⟨r,o,s⟩) n c)
  | .iface t v,k => forceV v fun v => k (.iface t v)
  | .agg a,k => forceA a fun a => k (.agg a)
  | .tuple a,k => forceA a fun a => k (.tuple a)
  | .func f a b,k => forceA a fun a => forceA b fun b => k (.func f a b)
  | .pointer none,k => k (.pointer none)
  | .slice none n c,k => k (.slice none n c)
  | .float i b,k => k (.float i b)
  | .complex i a b,k => k (.complex i a b)
  | .map r,k => k (.map r)
  | .chan r,k => k (.chan r)
  | .nilFunc,k => k .nilFunc
  | .nilIface,k => k .nilIface
def forceA {R:Type}:Array Value → (Array Value → R) → R
  | ⟨l⟩,k => forceVs l fun l => k ⟨l⟩
def forceVs {R:Type}:List Value → (List Value → R) → R
  | [],k => k []
  | v :: l,k => forceV v fun v => forceVs l fun l => k (v :: l)
end

mutual
theorem forceV_eq {R:Type}:∀ (v:Value) (k:Value → R),forceV v k = k v
  | .int i n,k => by simp only [forceV,forceI_eq]
  | .bool b,k => by simp only [forceV,forceB_eq]
  | .string ⟨⟨l⟩⟩,k => by simp only [forceV,forceL_eq]
  | .pointer (some ⟨r,o,s⟩),k => by simp only [forceV,forceN_eq]
  | .slice (some ⟨r,o,s⟩) n c,k => by simp only [forceV,forceN_eq]
  | .iface t v,k => by simp only [forceV,forceV_eq v]
  | .agg a,k => by simp only [forceV,forceA_eq a]
  | .tuple a,k => by simp only [forceV,forceA_eq a]
  | .func f a b,k => by simp only [forceV,forceA_eq a,forceA_eq b]
  | .pointer none,k => by simp only [forceV]
  | .slice none n c,k => by simp only [forceV]
  | .float i b,k => by simp only [forceV]
  | .complex i a b,k => by simp only [forceV]
  | .map r,k => by simp only [forceV]
  | .chan r,k => by simp only [forceV]
  | .nilFunc,k => by simp only [forceV]
  | .nilIface,k => by simp only [forceV]
theorem forceA_eq {R:Type}:∀ (a:Array Value) (k:Array Value → R),forceA a k = k a
  | ⟨l⟩,k => by simp only [forceA,forceVs_eq l]
theorem forceVs_eq {R:Type}:∀ (l:List Value) (k:List Value → R),forceVs l k = k l
  | [],k => by simp only [forceVs]
  | v :: l,k => by simp only [forceVs,forceV_eq v,forceVs_eq l]
end

def forceE {R:Type}:List MapEntry → (List MapEntry → R) → R
  | [],k => k []
  | ⟨a,v,b⟩ :: l,k => forceV a fun a => forceV v fun v => forceN b fun b => forceE l fun l => k (⟨a,v,b⟩ :: l)
theorem forceE_eq {R:Type}:∀ (l:List MapEntry) (k:List MapEntry → R),forceE l k = k l
  | [],k => rfl
  | ⟨a,v,b⟩ :: l,k => by simp only [forceE,forceV_eq,forceN_eq,forceE_eq l]

end Go.AM

namespace Go.AM
open Go.RowKit (Below)

variable {P:Program} {n0:Nat} {m:Map} {H:Heap} {w:World}

/-! Maps whose keys hold no address. -/

def Zabg (P:Program) {α:Type}:Sem α → Option α
  | .pure a => some a
  | .program k => Zabg P (k P)
  | .mark _ k => Zabg P k
  | .choose q k => cond q.forced (Zabg P (k 0)) none
  | _ => none

theorem pureRun_sound {α:Type}:∀ {s:Sem α} {a:α} (w:World),Zabg P s = some a → s.run P w = .ok a w
  | .pure a,_,w,h => by cases h; rfl
  | .program k,a,w,h => by simpa [Sem.run] using pureRun_sound w (s:=k P) h
  | .mark _ k,a,w,h => by simpa [Sem.run] using pureRun_sound w (s:=k) h
  | .choose q k,a,w,h => by
    simp only [Zabg] at h;cases hq:q.forced with
    | true => rw [hq,cond_true] at h; simp only [Sem.run,hq,if_true]; exact pureRun_sound w h
    | false => rw [hq] at h; cases h

theorem pureRun_bind {α β:Type}:∀ {s:Sem α} {f:α → Sem β} {b:β},Zabg P (s.bind f) = some b → ∃ a,Zabg P s = some a ∧ Zabg P (f a) = some b
  | .pure a,f,b,h => ⟨a,rfl,h⟩
  | .program k,f,b,h => pureRun_bind (s:=k P) h
  | .mark _ k,f,b,h => pureRun_bind (s:=k) h
  | .choose q k,f,b,h => by
    simp only [Sem.bind,Zabg] at h;cases hq:q.forced with
    | true =>
      rw [hq,cond_true] at h;obtain ⟨a,h1,h2⟩:=pureRun_bind (s:=k 0) h;exact ⟨a,by simp only [Zabg,hq,cond_true]; exact h1,h2⟩
    | false => rw [hq] at h; cases h
  | .load _ _ _,f,b,h => by simp [Sem.bind,Zabg] at h
  | .store _ _ _ _,f,b,h => by simp [Sem.bind,Zabg] at h
  | .new _ _,f,b,h => by simp [Sem.bind,Zabg] at h
  | .shape _ _,f,b,h => by simp [Sem.bind,Zabg] at h
  | .freeze _ _ _,f,b,h => by simp [Sem.bind,Zabg] at h
  | .frozen _ _,f,b,h => by simp [Sem.bind,Zabg] at h
  | .getObj _ _,f,b,h => by simp [Sem.bind,Zabg] at h
  | .setObj _ _ _,f,b,h => by simp [Sem.bind,Zabg] at h
  | .sys _ _,f,b,h => by simp [Sem.bind,Zabg] at h
  | .halt _,f,b,h => by simp [Sem.bind,Zabg] at h

theorem Zaaw {α:Type} {b:Bool} {x:Option α} {y:α} (h:cond b x none = some y):b = true ∧ x = some y:=by
  cases b
  · cases h
  · exact ⟨rfl,h⟩

def erase (es:List MapEntry):List MapEntry:=es.map fun e => { e with val:=undef }

theorem ER.erase {es es':List MapEntry} (h:ER m es es'):erase es = erase es':=by
  induction h with
  | nil => rfl
  | cons _ _ _ ih => simp only [AM.erase,List.map_cons] at ih ⊢; rw [ih]

def valAt (es:List MapEntry) (i:Nat):Value:=((es[i]?).map (·.val)).getD undef

theorem findNow_erase (kd:TypeDesc) (k:Value):∀ (es:List MapEntry) (i:Nat) (r:Option (Nat × Value)),Instr.findNow kd k (erase es) i = some r →
    Instr.findNow kd k es i = some (r.map fun p => (p.1,valAt es (p.1 - i))) ∧ ∀ p,r = some p → i ≤ p.1
  | [],i,r,h => by simp only [erase,List.map_nil,Instr.findNow,Option.some.injEq] at h ⊢; subst h; exact ⟨rfl,fun p hp => by cases hp⟩
  | e :: es,i,r,h => by
    simp only [erase,List.map_cons,Instr.findNow] at h ⊢;cases hs:Instr.sameNow kd k e.key with
    | none => rw [hs] at h; cases h
    | some b =>
      rw [hs] at h;cases b with
      | true =>
        simp only [Option.some.injEq] at h;subst h;exact ⟨by simp [valAt],fun p hp => by cases hp; exact Nat.le_refl _⟩
      | false =>
        simp only [] at h ⊢;obtain ⟨h1,h2⟩:=findNow_erase kd k es (i + 1) r h;rw [h1];refine ⟨?_,fun p hp => by have:=h2 p hp; omega⟩
        congr 1;cases r with
        | none => rfl
        | some p =>
          have:=h2 p rfl;simp only [Option.map_some];rw [show p.1 - i = (p.1 - (i + 1)) + 1 by omega]
          simp [valAt]

theorem findNow_none (kd:TypeDesc) (k:Value):∀ (es:List MapEntry) (i:Nat),Instr.findNow kd k (erase es) i = none → Instr.findNow kd k es i = none
  | [],i,h => by simp [erase,Instr.findNow] at h
  | e :: es,i,h => by
    simp only [erase,List.map_cons,Instr.findNow] at h ⊢;cases hs:Instr.sameNow kd k e.key with
    | none => rfl
    | some b =>
      rw [hs] at h;cases b with
      | true => cases h
      | false => exact findNow_none kd k es (i + 1) h

theorem findAsking_erase (kt:TypeId) (k:Value):∀ (es:List MapEntry) (i:Nat) (r:Option (Nat × Value)),Zabg P (Instr.findAsking kt k (erase es) i) = some r →
    (∀ w,(Instr.findAsking kt k es i).run P w = .ok (r.map fun p => (p.1,valAt es (p.1 - i))) w) ∧ ∀ p,r = some p → i ≤ p.1
  | [],i,r,h => by
    simp only [erase,List.map_nil,Instr.findAsking] at h ⊢;cases h;exact ⟨fun w => rfl,fun p hp => by cases hp⟩
  | e :: es,i,r,h => by
    simp only [erase,List.map_cons,Instr.findAsking] at h ⊢;obtain ⟨b,h1,h2⟩:=pureRun_bind (s:=Op.equal kt k e.key) h;cases b with
    | true =>
      simp only [if_true] at h2;cases h2;refine ⟨fun w => ?_,fun p hp => by cases hp; exact Nat.le_refl _⟩
      rw [Sem.run_bind,pureRun_sound w h1];simp [valAt]
    | false =>
      simp only [Bool.false_eq_true,if_false] at h2;obtain ⟨h3,h4⟩:=findAsking_erase kt k es (i + 1) r h2;refine ⟨fun w => ?_,fun p hp => by have:=h4 p hp; omega⟩
      rw [Sem.run_bind,pureRun_sound w h1];simp only [Result.andThen_ok,Bool.false_eq_true,if_false];rw [h3 w];congr 1;cases r with
      | none => rfl
      | some p =>
        have:=h4 p rfl;simp only [Option.map_some];rw [show p.1 - i = (p.1 - (i + 1)) + 1 by omega]
        simp [valAt]

def aFind (P:Program) (kt:TypeId) (k:Value) (es:List MapEntry):Option (Option Nat):=match P.underlying kt with
  | some kd => match Instr.findNow kd k (erase es) 0 with
    | some r => some (r.map (·.1))
    | none => (Zabg P (Instr.findAsking kt k (erase es))).map fun r => r.map (·.1)
  | none => none

theorem find_run {kt:TypeId} {k:Value} {es es':List MapEntry} {r:Option Nat} (h:ER m es es') (e:aFind P kt k es = some r) (w:World) :
    (Instr.findKey kt k es').run P w = .ok (r.map fun i => (i,valAt es' i)) w:=by
  unfold aFind at e;rw [h.erase] at e;split at e
  case h_2 => cases e
  rename_i kd hu;unfold Instr.findKey;rw [Sem.run_bind,run_underlying' hu];simp only [Result.andThen_ok];cases hn:Instr.findNow kd k (erase es') 0 with
  | some r0 =>
    rw [hn] at e;cases e;obtain ⟨h1,_⟩:=findNow_erase kd k es' 0 r0 hn;rw [h1];simp only [Sem.run_pure,Nat.sub_zero];cases r0 <;> rfl
  | none =>
    rw [hn] at e;rw [findNow_none kd k es' 0 hn];rw [Option.map_eq_some_iff] at e;obtain ⟨r0,h0,rfl⟩:=e;obtain ⟨h1,_⟩:=findAsking_erase kt k es' 0 r0 h0;simp only [];rw [h1 w];simp only [Nat.sub_zero];cases r0 <;> rfl

theorem ER.length {es es':List MapEntry} (h:ER m es es'):es.length = es'.length:=by
  induction h with
  | nil => rfl
  | cons _ _ _ ih => simp [ih]

theorem ER.at {es es':List MapEntry} (h:ER m es es'):∀ i,(es[i]?).map (·.key) = (es'[i]?).map (·.key) ∧ (es[i]?).map (·.born) = (es'[i]?).map (·.born) ∧ VR m (valAt es i) (valAt es' i):=by
  induction h with
  | nil => intro i; simp [valAt]; exact .plain rfl
  | cons hk hv _ ih =>
    intro i;cases i with
    | zero => exact ⟨rfl,rfl,hv⟩
    | succ i => simpa [valAt] using ih i

theorem ER.push {es es':List MapEntry} (h:ER m es es') {k v v':Value} {b:Nat} (hk:plain k = true) (hv:VR m v v'):ER m (es ++ [⟨k,v,b⟩]) (es' ++ [⟨k,v',b⟩]):=by
  induction h with
  | nil => exact .cons hk hv .nil
  | cons hk' hv' _ ih => exact .cons hk' hv' ih

def setKV (k v:Value):Nat → List MapEntry → List MapEntry
  | _,[] => []
  | 0,e :: l => { e with key:=k,val:=v } :: l
  | i + 1,e :: l => e :: setKV k v i l

theorem setKV_eq (k v:Value):∀ (i:Nat) (es:List MapEntry),setKV k v i es = es.modify i fun e => { e with key:=k,val:=v }
  | 0,[] => rfl
  | i + 1,[] => rfl
  | 0,e :: l => rfl
  | i + 1,e :: l => by simp [setKV,List.modify_succ_cons,setKV_eq k v i l]

theorem ER.setKV {k v v':Value} (hk:plain k = true) (hv:VR m v v'):∀ {es es':List MapEntry} (i:Nat),ER m es es' → ER m (setKV k v i es) (setKV k v' i es')
  | _,_,_,.nil => by unfold AM.setKV; exact .nil
  | _,_,0,.cons _ _ h => .cons hk hv h
  | _,_,i + 1,.cons hk' hv' h => .cons hk' hv' (ER.setKV hk hv i h)

def World.setObjAt (w:World) (b:Nat) (o:Obj):World:={ w with heap:=w.heap.setIfInBounds b o }

theorem setObjAt_same {b:Nat} {o:Obj} (h:b < w.heap.size):(World.setObjAt w b o).heap[b]? = some o:=by simp [World.setObjAt,h]
theorem setObjAt_other {b k:Nat} {o:Obj} (h:k ≠ b):(World.setObjAt w b o).heap[k]? = w.heap[k]?:=by simp [World.setObjAt,Array.getElem?_setIfInBounds,Ne.symm h]


end Go.AM

namespace Go.AM
open Go.RowKit (Below)

variable {P:Program} {n0:Nat} {m:Map} {H:Heap} {w:World}

/-! Maps in the canonical memory. -/

def Heap.setMap (H:Heap) (l:Nat) (row:Row) (es:List MapEntry) (clk:Nat):Heap:=
  forceE es fun es => forceN clk fun clk => forceT (H.rows.put l { row with loop:=some (.mp es clk) }) fun rows => { size:=H.size,rows:=rows,grps:=H.grps,low:=Nat.min l H.low }
theorem setMap_eq (H:Heap) (l:Nat) (row:Row) (es:List MapEntry) (clk:Nat) :
    H.setMap l row es clk = { size:=H.size,rows:=H.rows.put l { row with loop:=some (.mp es clk) },grps:=H.grps,low:=Nat.min l H.low }:=by
  unfold Heap.setMap; rw [forceE_eq,forceN_eq,forceT_eq]

theorem Fits.mapRec {r rm row al} (h:Fits n0 m w r rm row al) {es:List MapEntry} {clk:Nat} (hl:row.loop = some (.mp es clk)):row.exact = true ∧ ∃ es',w.heap[rm.blk]? = some (.map es' clk) ∧ ER m es es'.toList:=by
  rcases h.blk with ⟨hn,_⟩ | ⟨_,_,_,_,hl',_⟩ | ⟨sp,o,hl',he,hb,hE⟩
  · rw [hl] at hn; cases hn
  · rw [hl] at hl'; cases hl'
  · rw [hl] at hl'; cases hl';obtain ⟨hE,_⟩:=hE;cases hE with
    | mp hE => exact ⟨he,_,hb,hE⟩

theorem Fits.spec {r rm row al} (h:Fits n0 m w r rm row al) {sp:Spec} (hl:row.loop = some sp) (hn:∀ lr,sp ≠ .lp lr):row.exact = true ∧ rm.sh = 0 ∧ ∃ o,w.heap[rm.blk]? = some o ∧ SR m sp o:=by
  rcases h.blk with ⟨hn,_⟩ | ⟨_,_,_,_,hl',_⟩ | ⟨sp,o,hl',he,hb,hE⟩
  · rw [hl] at hn; cases hn
  · rw [hl] at hl'; cases hl'; exact absurd rfl (hn _)
  · rw [hl] at hl'; cases hl';exact ⟨he,hE.2,o,hb,hE.1⟩

theorem HF.setMap {H:Heap} {l:Nat} {row:Row} (es:List MapEntry) (clk:Nat):HF H (H.setMap l row es clk):=by
  rw [setMap_eq];refine ⟨Nat.le_refl _,Nat.min_le_right _ _,fun r hr hlow => ?_⟩
  have hne:r ≠ l:=by have:Nat.min l H.low ≤ l:=Nat.min_le_left _ _; simp only at hlow; omega
  exact ⟨Trie.get_put_ne _ _ hne,fun _ _ => rfl⟩

theorem Ext.setMap (h:HR n0 m H w) {l:Nat} {rm:RowMap} {row:Row} {es0:List MapEntry} {clk0:Nat} (hm:m l = some rm) (hrow:H.rows.get l = some row) (hro:row.ro = false) (hl:row.loop = some (.mp es0 clk0))
    {es:List MapEntry} {clk:Nat} {es':Array MapEntry} (hE:ER m es es'.toList):Ext n0 m H w m (H.setMap l row es clk) (World.setObjAt w rm.blk (.map es' clk)):=by
  have hf:=h.rowOf hm hrow;obtain ⟨hex,es0',hb,_⟩:=hf.mapRec hl;have hlt:=hf.lt;have hnew:(World.setObjAt w rm.blk (.map es' clk)).heap[rm.blk]? = some (.map es' clk):=setObjAt_same hlt;have hget:∀ k,(H.setMap l row es clk).rows.get k = if k = l then some { row with loop:=some (.mp es clk) } else H.rows.get k:=fun k => by
    rw [setMap_eq]; exact Trie.get_put _ _ _ _
  have hsz:(H.setMap l row es clk).size = H.size:=by rw [setMap_eq]
  have hgr:(H.setMap l row es clk).grps = H.grps:=by rw [setMap_eq]
  have hlow:(H.setMap l row es clk).low ≤ l:=by rw [setMap_eq]; exact Nat.min_le_left _ _
  refine ⟨Map.le_refl _,⟨?_,?_,?_,?_⟩,?_,?_,fun r rm h => .inl h,?_⟩
  · have:=h.base; simpa [World.setObjAt] using this
  · intro k rk hk;obtain ⟨x,hx,hklt,hfk⟩:=h.row k rk hk
    by_cases hkl:k = l
    · subst hkl;rw [hm] at hk; cases hk;rw [hrow] at hx; cases hx;refine ⟨{ row with loop:=some (.mp es clk) },by rw [hget,if_pos rfl],by rw [hsz]; exact hklt,hf.ex,hf.es,hf.ro,hf.grpE,hf.grpL,hf.grpB,hf.roE,hf.own,?_⟩
      exact .inr (.inr ⟨.mp es clk,.map es' clk,rfl,hex,hnew,.mp hE,(hf.spec hl (by simp)).2.1⟩)
    · refine ⟨x,by rw [hget,if_neg hkl]; exact hx,by rw [hsz]; exact hklt,?_⟩
      by_cases hbk:rk.blk = rm.blk
      · exfalso;rcases h.apart k l rk rm x row hk hm hx hrow hbk with ⟨hg,_⟩ | ⟨_,hr⟩
        · have h1:=hf.grpE hex;cases hxe:x.exact with
          | true => have h2:=hfk.grpE hxe; omega
          | false => have h2:=hfk.grpL hxe; omega
        · rw [hro] at hr; cases hr
      · refine hfk.later (Map.le_refl _) (setObjAt_other hbk) ?_
        unfold Heap.alive;rw [hgr];exact id
  · intro k k' rk rk' x x' hk hk' hx hx' hbk;have back:∀ k x,(H.setMap l row es clk).rows.get k = some x → ∃ y,H.rows.get k = some y ∧ y.grp = x.grp ∧ y.gpos = x.gpos ∧ y.ro = x.ro:=fun k x hx => by
      rw [hget] at hx;split at hx
      · rename_i he; cases hx; exact ⟨row,by rw [he]; exact hrow,rfl,rfl,rfl⟩
      · exact ⟨x,hx,rfl,rfl,rfl⟩
    obtain ⟨y,hy,e1,e2,e3⟩:=back k x hx;obtain ⟨y',hy',e1',e2',e3'⟩:=back k' x' hx';have:=h.apart k k' rk rk' y y' hk hk' hy hy' hbk;rw [e1,e2,e3,e1',e2',e3'] at this;exact this
  · intro k x hx;rw [hget] at hx;rw [hsz];split at hx
    · rename_i hk; cases hx; rw [hk]; exact h.inv l row hrow
    · exact h.inv k x hx
  · exact ⟨rfl,rfl,rfl,by simp [World.setObjAt],fun k hk => setObjAt_other (by have:=hf.own hro; omega)⟩
  · intro b hb2 hall
    by_cases hbb:b = rm.blk
    · rcases hall l rm hm hbb.symm with hh | hh
      · rw [hf.ro,hro] at hh; cases hh
      · omega
    · exact setObjAt_other hbb
  · intro b L2 hb2
    by_cases hbb:b = rm.blk
    · subst hbb; rw [hb] at hb2; cases hb2
    · exact ⟨L2,by rw [setObjAt_other hbb]; exact hb2⟩

def Heap.addMap (H:Heap):Heap:=H.add { cells:=[],elem:=0,exact:=true,ro:=false,esz:=0,grp:=2 * H.size,gpos:=0,loop:=some (.mp [] 0) }

theorem Ext.addMap (h:HR n0 m H w):Ext n0 m H w (m.put H.size ⟨w.heap.size,0,0,0,true,false⟩) H.addMap (w.alloc (.map #[] 0)) ∧ HF H H.addMap:=by
  have hle:=Map.le_put (rm:=⟨w.heap.size,0,0,0,true,false⟩) h.none;have hget:∀ r,H.addMap.rows.get r = if r = H.size then some { cells:=[],elem:=0,exact:=true,ro:=false,esz:=0,grp:=2 * H.size,gpos:=0,loop:=some (.mp [] 0) } else H.rows.get r:=fun r => Heap.add_get _ _ _
  have hsz:H.addMap.size = H.size + 1:=Heap.add_size _ _;have hgr:H.addMap.grps = H.grps:=by unfold Heap.addMap; rw [Heap.add_grps]; rfl
  have hold:∀ b,b < w.heap.size → (w.alloc (.map #[] 0)).heap[b]? = w.heap[b]?:=fun b hb => Below.heap_alloc _ _ _ hb
  have hnew:(w.alloc (.map #[] 0)).heap[w.heap.size]? = some (.map #[] 0):=(MapKept.heap_alloc w _).1;have hbel:Below n0 w (w.alloc (.map #[] 0)):=(Below.refl _ _).alloc h.base _;refine ⟨⟨hle,⟨Nat.le_trans h.base hbel.size,?_,?_,?_⟩,hbel,fun b hb _ => hold b hb,?_,fun b L hb => ⟨L,by rw [hold b (Array.getElem?_eq_some_iff.1 hb).1]; exact hb⟩⟩,?_⟩
  · intro r rm hr;rcases Map.put_inv hr with ⟨rfl,rfl⟩ | ⟨hne,hr⟩
    · refine ⟨_,by rw [hget,if_pos rfl],by rw [hsz]; exact Nat.lt_succ_self _,rfl,rfl,rfl,fun _ => rfl,(fun e => by cases e),(by simp only; omega),(fun e => by cases e),fun _ => h.base,?_⟩
      exact .inr (.inr ⟨.mp [] 0,.map #[] 0,rfl,rfl,hnew,.mp .nil,rfl⟩)
    · obtain ⟨x,hx,hlt,hf⟩:=h.row r rm hr;refine ⟨x,by rw [hget,if_neg hne]; exact hx,by rw [hsz]; exact Nat.lt_succ_of_lt hlt,hf.later hle (hold _ hf.lt) ?_⟩
      unfold Heap.alive;rw [hgr];exact id
  · intro r r' rm rm' x x' hr hr' hx hx' hbk;rw [hget] at hx hx';rcases Map.put_inv hr with ⟨rfl,rfl⟩ | ⟨hne,hr⟩ <;> rcases Map.put_inv hr' with ⟨rfl,rfl⟩ | ⟨hne',hr'⟩
    · rw [if_pos rfl] at hx hx'; cases hx; cases hx'; exact .inl ⟨rfl,rfl⟩
    · obtain ⟨y,hy,_,hfy⟩:=h.row r' rm' hr';have:=hfy.lt; simp at hbk; omega
    · obtain ⟨y,hy,_,hfy⟩:=h.row r rm hr;have:=hfy.lt; simp at hbk; omega
    · rw [if_neg hne] at hx; rw [if_neg hne'] at hx';exact h.apart r r' rm rm' x x' hr hr' hx hx' hbk
  · intro r x hx;rw [hget] at hx;rw [hsz];split at hx
    · rename_i hk; cases hx; exact ⟨.inl rfl,by omega⟩
    · have:=h.inv r x hx; exact ⟨this.1.imp id (by omega),by omega⟩
  · intro r rm hr;rcases Map.put_inv hr with ⟨rfl,rfl⟩ | ⟨_,hr⟩
    · exact .inr ⟨Nat.le_refl _,rfl,.inl (Nat.le_refl _)⟩
    · exact .inl hr
  · exact HF.add H _ (.inl rfl) h.inv

def mapOf (H:Heap) (r:Nat):Option (Row × List MapEntry × Nat):=match H.rows.get r with
  | some row => match row.loop with
    | some (.mp es clk) => some (row,es,clk)
    | _ => none
  | none => none
theorem mapOf_inv {r:Nat} {row:Row} {es:List MapEntry} {clk:Nat} (h:mapOf H r = some (row,es,clk)):H.rows.get r = some row ∧ row.loop = some (.mp es clk):=by
  unfold mapOf at h;split at h
  · rename_i row' hr;split at h
    · rename_i es' clk' hl; cases h; exact ⟨hr,hl⟩
    · cases h
  · cases h

theorem VR.map_inv {r:Nat} {v':Value} (h:VR m (.map (some r)) v'):∃ rm,m r = some rm ∧ v' = .map (some rm.blk):=by
  cases h with
  | plain h => simp [AM.plain] at h
  | map h => exact ⟨_,h,rfl⟩

end Go.AM

namespace Go.AM
open Go.RowKit (Below)

variable {P:Program} {n0:Nat} {m:Map} {H:Heap} {w:World}

theorem pureRun_unit {s:Sem Unit} (h:(Zabg P s).isSome = true) (w:World):s.run P w = .ok () w:=by
  cases hs:Zabg P s with
  | none => rw [hs] at h; cases h
  | some u => exact pureRun_sound w hs

def isMapD:TypeDesc → Bool
  | .map _ _ => true
  | _ => false

def aMakeMap (P:Program) (H:Heap) (t:TypeId) (reserve:Option Value):Option (Value × Heap):=match reserve with
  | none => some (.map (some H.size),H.addMap)
  | some (.int _ _) => match P.underlying t with
    | some d => cond (isMapD d) (some (.map (some H.size),H.addMap)) none
    | none => none
  | some _ => none

theorem aMakeMap_sound (h:HR n0 m H w) {t:TypeId} {r r':Option Value} {v:Value} {H':Heap} (hr:OR m r r') (e:aMakeMap P H t r = some (v,H')):Sim P n0 m H w (Instr.makeMap t r') v H':=by
  obtain ⟨hx,hf⟩:=Ext.addMap h;have hrun:∀ w:World,((do pure (.map (some (← newObj (.map #[] 0)))):Sem Value)).run P w = .ok (.map (some w.heap.size)) (w.alloc (.map #[] 0)):=fun w => rfl
  cases hr with
  | none =>
    cases e;exact ⟨_,_,_,hrun w,hx,.map (rm:=⟨w.heap.size,0,0,0,true,false⟩) (Map.put_same _ _ _),hf⟩
  | some hv =>
    unfold aMakeMap at e;split at e
    · cases ‹some _ = none›
    · rename_i k n he;cases he;split at e
      case h_2 => cases e
      rename_i d hu;cases hd:isMapD d with
      | false => rw [hd] at e; cases e
      | true =>
        rw [hd] at e;cases e;rw [hv.int_inv];cases d <;> simp [isMapD] at hd;refine ⟨.map (some w.heap.size),_,_,?_,hx,.map (rm:=⟨w.heap.size,0,0,0,true,false⟩) (Map.put_same _ _ _),hf⟩;simp only [Instr.makeMap,Sem.run_bind,run_underlying' hu,Result.andThen_ok,asInt,Sem.run_pure];rfl
    · cases e

def aLook (P:Program) (kt:TypeId) (k:Value) (es:List MapEntry):Option (Option Nat):=
  cond (plain k && (Zabg P (Instr.checkKey es.isEmpty 10000 kt k)).isSome) (aFind P kt k es) none

def lookV (ok:Bool) (r:Value × Bool):Value:=cond ok (.tuple ⟨[r.1,.bool r.2]⟩) r.1

def aLookup (P:Program) (H:Heap) (t:TypeId) (x k:Value) (ok:Bool):Option Value:=match P.underlying t with
  | some (.map kt et) => match (P.info? et).bind (·.zero) with
    | some z => cond (plain z) (match x with
      | .map none => match aLook P kt k [] with
        | some none => some (lookV ok (z,false))
        | _ => none
      | .map (some r) => match mapOf H r with
        | some (_,es,_) => match aLook P kt k es with
          | some none => some (lookV ok (z,false))
          | some (some i) => some (lookV ok (valAt es i,true))
          | none => none
        | none => none
      | _ => none) none
    | none => none
  | _ => none

theorem lookV_VR {v v':Value} {b ok:Bool} (h:VR m v v'):VR m (lookV ok (v,b)) (if ok then .tuple #[v',.bool b] else v'):=by
  cases ok with
  | false => exact h
  | true => exact .tuple (.cons h (.cons (.plain rfl) .nil))

theorem aLook_parts {kt:TypeId} {k:Value} {es es':List MapEntry} {r:Option Nat} (hE:ER m es es') (e:aLook P kt k es = some r) (w:World) :
    plain k = true ∧ (Instr.checkKey es'.isEmpty 10000 kt k).run P w = .ok () w ∧ (Instr.findKey kt k es').run P w = .ok (r.map fun i => (i,valAt es' i)) w:=by
  unfold aLook at e;cases hc:(plain k && (Zabg P (Instr.checkKey es.isEmpty 10000 kt k)).isSome) with
  | false => rw [hc] at e; cases e
  | true =>
    rw [hc,cond_true] at e;rw [Bool.and_eq_true] at hc;have hemp:es'.isEmpty = es.isEmpty:=by cases hE <;> rfl
    have h1:=pureRun_unit hc.2 w;rw [← hemp] at h1;exact ⟨hc.1,h1,find_run hE e w⟩

theorem aLookup_sound (h:HR n0 m H w) {t:TypeId} {x x' k k' v:Value} {ok:Bool} (hx:VR m x x') (hk:VR m k k') (e:aLookup P H t x k ok = some v) :
    ∃ v',(Instr.lookup t x' k' ok).run P w = .ok v' w ∧ VR m v v':=by
  unfold aLookup at e;split at e
  case h_2 => cases e
  rename_i kt et hu;split at e
  case h_2 => cases e
  rename_i z hz;rw [Option.bind_eq_some_iff] at hz;obtain ⟨i,hi,hz⟩:=hz
  obtain ⟨hpz,e⟩:=(show plain z = true ∧ _ from by
    cases hp:plain z with
    | false => rw [hp] at e; cases e
    | true => rw [hp,cond_true] at e; exact ⟨rfl,e⟩)
  split at e
  · -- nil
    rw [hx.eq_of_plain rfl];split at e
    case h_2 => cases e
    rename_i hl;cases e;obtain ⟨hpk,h1,h2⟩:=aLook_parts (m:=m) .nil hl w;rw [hk.eq_of_plain hpk];refine ⟨_,?_,lookV_VR (.plain hpz)⟩;simp only [Instr.lookup,Sem.run_bind,run_underlying' hu,Result.andThen_ok,Sem.run_pure];rw [show (#[] : Array MapEntry).isEmpty = ([] : List MapEntry).isEmpty from rfl,h1]
    simp only [Result.andThen_ok];rw [h2];cases ok <;> simp [run_zero' hi hz]
  · rename_i r;split at e
    case h_2 => cases e
    rename_i row es clk hmo;obtain ⟨hrow,hl⟩:=mapOf_inv hmo;obtain ⟨rm,hm,rfl⟩:=hx.map_inv;obtain ⟨hex,es',hb,hE⟩:=(h.rowOf hm hrow).mapRec hl;have fin:∀ r0,aLook P kt k es = some r0 → (Instr.lookup t (.map (some rm.blk)) k' ok).run P w =
        .ok (match r0 with | some j => (if ok then .tuple #[valAt es'.toList j,.bool true] else valAt es'.toList j) | none => (if ok then .tuple #[z,.bool false] else z)) w:=by
      intro r0 hlk;obtain ⟨hpk,h1,h2⟩:=aLook_parts hE hlk w;rw [hk.eq_of_plain hpk];simp only [Instr.lookup,Sem.run_bind,run_underlying' hu,Result.andThen_ok,Sem.run_pure,MapKept.run_getObj_map hb];rw [show es'.isEmpty = es'.toList.isEmpty from by simp,h1]
      simp only [Result.andThen_ok];rw [h2];cases r0 <;> cases ok <;> simp [run_zero' hi hz]
    split at e
    · rename_i hlk;cases e;exact ⟨_,fin _ hlk,lookV_VR (.plain hpz)⟩
    · rename_i j hlk;cases e;exact ⟨_,fin _ hlk,lookV_VR (hE.at j).2.2⟩
    · cases e
  · cases e

end Go.AM

namespace Go.AM
open Go.RowKit (Below)

variable {P:Program} {n0:Nat} {m:Map} {H:Heap} {w:World}

def keyAt (es:List MapEntry) (i:Nat) (k:Value):Value:=((es[i]?).map (·.key)).getD k
def bornAt (es:List MapEntry) (i:Nat):Nat:=((es[i]?).map (·.born)).getD 0

def aPut (P:Program) (kt:TypeId) (k v:Value) (es:List MapEntry) (clk:Nat):Option (List MapEntry × Nat):=
  cond (plain k && (Zabg P (Instr.checkKey false 10000 kt k)).isSome) (match aFind P kt k es with
    | some none => some (es ++ [⟨k,v,clk⟩],clk + 1)
    | some (some i) => cond (Instr.sameBits 10000 (keyAt es i k) k) (some (setKV k v i es,clk)) none
    | none => none) none

def aMapUpdate (P:Program) (H:Heap) (t:TypeId) (x k v:Value):Option Heap:=match P.underlying t with
  | some (.map kt _) => match x with
    | .map (some r) => match mapOf H r with
      | some (row,es,clk) => cond (!row.ro) (match aPut P kt k v es clk with
        | some (es2,clk2) => some (H.setMap r row es2 clk2)
        | none => none) none
      | none => none
    | _ => none
  | _ => none

theorem aMapUpdate_sound (h:HR n0 m H w) {t:TypeId} {x x' k k' v v':Value} {H':Heap} (hx:VR m x x') (hk:VR m k k') (hv:VR m v v') (e:aMapUpdate P H t x k v = some H') :
    SimU P n0 m H w (Instr.mapUpdate t x' k' v') H':=by
  unfold aMapUpdate at e;split at e
  case h_2 => cases e
  rename_i kt et hu;split at e
  case h_2 => cases e
  rename_i r;split at e
  case h_2 => cases e
  rename_i row es clk hmo;obtain ⟨hrow,hl⟩:=mapOf_inv hmo;obtain ⟨rm,hm,rfl⟩:=hx.map_inv;obtain ⟨hex,es',hb,hE⟩:=(h.rowOf hm hrow).mapRec hl;obtain ⟨hro,e⟩:=Zaaw e;split at e
  case h_2 => cases e
  rename_i es2 clk2 hput;cases e;unfold aPut at hput;obtain ⟨hc,hput⟩:=Zaaw hput;rw [Bool.and_eq_true] at hc;have h1:=pureRun_unit hc.2 w;rw [hk.eq_of_plain hc.1];have hro:row.ro = false:=by simpa using hro
  split at hput
  · rename_i hf;cases hput;have hE2:ER m (es ++ [⟨k,v,clk⟩]) (es'.push ⟨k,v',clk⟩).toList:=by rw [Array.toList_push]; exact hE.push hc.1 hv
    refine ⟨m,_,?_,Ext.setMap h hm hrow hro hl hE2,HF.setMap _ _⟩;simp only [Instr.mapUpdate,Sem.run_bind,run_underlying' hu,Result.andThen_ok,MapKept.run_getObj_map hb,h1,find_run hE hf w,Option.map_none,MapKept.run_setObj_map _ hb];rfl
  · rename_i i hf;obtain ⟨hsb,hput⟩:=Zaaw hput;cases hput;have hka:((es'[i]?).map (·.key)).getD k = keyAt es i k:=by unfold keyAt; rw [(hE.at i).1,Array.getElem?_toList]
    have hE2:ER m (setKV k v i es) (es'.modify i fun e => { e with key:=k,val:=v' }).toList:=by
      rw [Array.toList_modify,← setKV_eq]; exact hE.setKV hc.1 hv i
    refine ⟨m,_,?_,Ext.setMap h hm hrow hro hl hE2,HF.setMap _ _⟩;simp only [Instr.mapUpdate,Sem.run_bind,run_underlying' hu,Result.andThen_ok,MapKept.run_getObj_map hb,h1,find_run hE hf w,Option.map_some,Instr.keyThatStays,hka,hsb,if_true,Sem.run_pure,MapKept.run_setObj_map _ hb];rfl
  · cases hput

end Go.AM

namespace Go.AM
open Go.RowKit (Below)

variable {P:Program} {n0:Nat} {m:Map} {H:Heap} {w:World}

def setKeyAt (k:Value):Nat → List MapEntry → List MapEntry
  | _,[] => []
  | 0,e :: l => { e with key:=k } :: l
  | i + 1,e :: l => e :: setKeyAt k i l
theorem setKeyAt_eq (k:Value):∀ (i:Nat) (es:List MapEntry),setKeyAt k i es = es.modify i fun e => { e with key:=k }
  | 0,[] => rfl
  | i + 1,[] => rfl
  | 0,e :: l => rfl
  | i + 1,e :: l => by simp [setKeyAt,List.modify_succ_cons,setKeyAt_eq k i l]
theorem ER.setKeyAt {k:Value} (hk:plain k = true):∀ {es es':List MapEntry} (i:Nat),ER m es es' → ER m (setKeyAt k i es) (setKeyAt k i es')
  | _,_,_,.nil => by unfold AM.setKeyAt; exact .nil
  | _,_,0,.cons _ hv h => .cons hk hv h
  | _,_,i + 1,.cons hk' hv' h => .cons hk' hv' (ER.setKeyAt hk i h)

def setValAt (v:Value):Nat → List MapEntry → List MapEntry
  | _,[] => []
  | 0,e :: l => { e with val:=v } :: l
  | i + 1,e :: l => e :: setValAt v i l
theorem setValAt_eq (v:Value):∀ (i:Nat) (es:List MapEntry),setValAt v i es = es.modify i fun e => { e with val:=v }
  | 0,[] => rfl
  | i + 1,[] => rfl
  | 0,e :: l => rfl
  | i + 1,e :: l => by simp [setValAt,List.modify_succ_cons,setValAt_eq v i l]
theorem ER.setValAt {v v':Value} (hv:VR m v v'):∀ {es es':List MapEntry} (i:Nat),ER m es es' → ER m (setValAt v i es) (setValAt v' i es')
  | _,_,_,.nil => by unfold AM.setValAt; exact .nil
  | _,_,0,.cons hk _ h => .cons hk hv h
  | _,_,i + 1,.cons hk' hv' h => .cons hk' hv' (ER.setValAt hv i h)

def aEntry (P:Program) (kt et:TypeId) (k:Value) (es:List MapEntry) (clk:Nat):Option (Value × List MapEntry × Nat):=
  cond (plain k && (Zabg P (Instr.checkKey false 10000 kt k)).isSome) (match aFind P kt k es with
    | some none => match (P.info? et).bind (·.zero) with
      | some z => cond (plain z) (some (.tuple ⟨[z,goInt clk]⟩,es ++ [⟨k,z,clk⟩],clk + 1)) none
      | none => none
    | some (some i) => cond (Instr.sameBits 10000 (keyAt es i k) k) (some (.tuple ⟨[valAt es i,goInt (bornAt es i)]⟩,setKeyAt k i es,clk)) none
    | none => none) none

def aMapEntry (P:Program) (H:Heap) (t:TypeId) (x k:Value):Option (Value × Heap):=match P.underlying t with
  | some (.map kt et) => match x with
    | .map (some r) => match mapOf H r with
      | some (row,es,clk) => cond (!row.ro) (match aEntry P kt et k es clk with
        | some (v,es2,clk2) => some (v,H.setMap r row es2 clk2)
        | none => none) none
      | none => none
    | _ => none
  | _ => none

theorem aMapEntry_sound (h:HR n0 m H w) {t:TypeId} {x x' k k' v:Value} {H':Heap} (hx:VR m x x') (hk:VR m k k') (e:aMapEntry P H t x k = some (v,H')) :
    Sim P n0 m H w (Instr.mapEntry t x' k') v H':=by
  unfold aMapEntry at e;split at e
  case h_2 => cases e
  rename_i kt et hu;split at e
  case h_2 => cases e
  rename_i r;split at e
  case h_2 => cases e
  rename_i row es clk hmo;obtain ⟨hrow,hl⟩:=mapOf_inv hmo;obtain ⟨rm,hm,rfl⟩:=hx.map_inv;obtain ⟨hex,es',hb,hE⟩:=(h.rowOf hm hrow).mapRec hl;obtain ⟨hro,e⟩:=Zaaw e;split at e
  case h_2 => cases e
  rename_i v0 es2 clk2 hput;cases e;unfold aEntry at hput;obtain ⟨hc,hput⟩:=Zaaw hput;rw [Bool.and_eq_true] at hc;have h1:=pureRun_unit hc.2 w;rw [hk.eq_of_plain hc.1];have hro:row.ro = false:=by simpa using hro
  split at hput
  · rename_i hf;split at hput
    case h_2 => cases hput
    rename_i z hz;rw [Option.bind_eq_some_iff] at hz;obtain ⟨i,hi,hz⟩:=hz;obtain ⟨hpz,hput⟩:=Zaaw hput;cases hput;have hE2:ER m (es ++ [⟨k,z,clk⟩]) (es'.push ⟨k,z,clk⟩).toList:=by rw [Array.toList_push]; exact hE.push hc.1 (.plain hpz)
    have hx2:=Ext.setMap h hm hrow hro hl (clk:=clk + 1) hE2;refine ⟨.tuple #[z,goInt clk],m,_,?_,hx2,.tuple (.cons (.plain hpz) (.cons (.plain rfl) .nil)),HF.setMap _ _⟩;simp only [Instr.mapEntry,Sem.run_bind,run_underlying' hu,Result.andThen_ok,MapKept.run_getObj_map hb,h1,find_run hE hf w,Option.map_none,run_zero' hi hz,MapKept.run_setObj_map _ hb];rfl
  · rename_i i hf;obtain ⟨hsb,hput⟩:=Zaaw hput;cases hput;have hka:((es'[i]?).map (·.key)).getD k = keyAt es i k:=by unfold keyAt; rw [(hE.at i).1,Array.getElem?_toList]
    have hba:(((es'[i]?).map fun x => (x.born:Int)).getD 0) = (bornAt es i:Int):=by unfold bornAt; rw [(hE.at i).2.1,Array.getElem?_toList]; cases es'[i]? <;> rfl
    have hE2:ER m (setKeyAt k i es) (es'.modify i fun e => { e with key:=k }).toList:=by
      rw [Array.toList_modify,← setKeyAt_eq]; exact hE.setKeyAt hc.1 i
    refine ⟨.tuple #[valAt es'.toList i,goInt (bornAt es i)],m,_,?_,Ext.setMap h hm hrow hro hl hE2,.tuple (.cons (hE.at i).2.2 (.cons (.plain rfl) .nil)),HF.setMap _ _⟩;simp only [Instr.mapEntry,Sem.run_bind,run_underlying' hu,Result.andThen_ok,MapKept.run_getObj_map hb,h1,find_run hE hf w,Option.map_some,Instr.keyThatStays,hka,hba,hsb,if_true,Sem.run_pure,MapKept.run_setObj_map _ hb];rfl
  · cases hput

def bornIdx (b:Int):List MapEntry → Option Nat
  | [] => none
  | e :: l => match (e.born:Int) == b with
    | true => some 0
    | false => match bornIdx b l with
      | some i => some (i + 1)
      | none => none

theorem bornIdx_eq (b:Int) {es es':List MapEntry} (h:ER m es es'):es'.findIdx? (fun e => (e.born:Int) == b) = bornIdx b es:=by
  induction h with
  | nil => rfl
  | cons hk hv h ih =>
    rename_i k v v' bn l l';rw [List.findIdx?_cons];unfold bornIdx;cases hb:((bn:Int) == b) with
    | true => simp [hb]
    | false => simp only [hb,ih]; cases bornIdx b l <;> simp

def aEntryStore (H:Heap) (x s v:Value):Option Heap:=match x with
  | .map (some r) => match s with
    | .int _ b => match mapOf H r with
      | some (row,es,clk) => cond (!row.ro) (match bornIdx b es with
        | some i => some (H.setMap r row (setValAt v i es) clk)
        | none => none) none
      | none => none
    | _ => none
  | _ => none

theorem aEntryStore_sound (h:HR n0 m H w) {t:TypeId} {x x' s s' v v':Value} {H':Heap} (hx:VR m x x') (hs:VR m s s') (hv:VR m v v') (e:aEntryStore H x s v = some H') :
    SimU P n0 m H w (Instr.entryStore t x' s' v') H':=by
  unfold aEntryStore at e;split at e
  case h_2 => cases e
  rename_i r;split at e
  case h_2 => cases e
  rename_i kd b;split at e
  case h_2 => cases e
  rename_i row es clk hmo;obtain ⟨hrow,hl⟩:=mapOf_inv hmo;obtain ⟨rm,hm,rfl⟩:=hx.map_inv;obtain ⟨hex,es',hb,hE⟩:=(h.rowOf hm hrow).mapRec hl;obtain ⟨hro,e⟩:=Zaaw e;have hro:row.ro = false:=by simpa using hro
  split at e
  case h_2 => cases e
  rename_i i hi;cases e;rw [hs.int_inv];have hfi:es'.findIdx? (fun e => (e.born:Int) == b) = some i:=by
    rw [← hi,← bornIdx_eq b hE]; obtain ⟨l⟩:=es'; exact List.findIdx?_toArray _ _
  have hE2:ER m (setValAt v i es) (es'.modify i fun e => { e with val:=v' }).toList:=by
    rw [Array.toList_modify,← setValAt_eq]; exact hE.setValAt hv i
  refine ⟨m,_,?_,Ext.setMap h hm hrow hro hl hE2,HF.setMap _ _⟩;simp only [Instr.entryStore,Sem.run_bind,MapKept.run_getObj_map hb,Result.andThen_ok,asInt,asIntOf,Sem.run_pure,hfi,MapKept.run_setObj_map _ hb];rfl

def aMapLen (P:Program) (H:Heap) (argTypes:Array TypeId) (x:Value):Option Value:=match argTypes[0]? with
  | some t => match P.underlying t,x with
    | some (.map _ _),.map (some r) => match mapOf H r with
      | some (_,es,_) => some (goInt es.length)
      | none => none
    | _,_ => none
  | none => none

theorem aMapLen_sound (h:HR n0 m H w) {argTypes:Array TypeId} {ty:TypeId} {x x' v:Value} (hx:VR m x x') (e:aMapLen P H argTypes x = some v) :
    ∃ v',(Builtin.len_ argTypes ty #[x']).run P w = .ok v' w ∧ VR m v v':=by
  unfold aMapLen at e;split at e
  case h_2 => cases e
  rename_i t ht;split at e
  case h_2 => cases e
  rename_i kt et r hu;split at e
  case h_2 => cases e
  rename_i row es clk hmo;cases e;obtain ⟨hrow,hl⟩:=mapOf_inv hmo;obtain ⟨rm,hm,rfl⟩:=hx.map_inv;obtain ⟨hex,es',hb,hE⟩:=(h.rowOf hm hrow).mapRec hl;refine ⟨_,?_,.plain rfl⟩;have hn:es'.size = es.length:=by rw [hE.length]; simp
  simp [Builtin.len_,ht,run_underlying' hu,MapKept.run_getObj_map hb,hn]

end Go.AM

namespace Go.AM
open Go.RowKit (Below)

variable {P:Program} {n0:Nat} {m:Map} {H:Heap} {w:World}

/-! Ranges over strings and maps. -/

def forceIt {R:Type}:IterRec → (IterRec → R) → R
  | .str s p,k => forceN p fun p => k (.str s p)
  | .mp r a ⟨b⟩ c,k => forceN a fun a => forceL b fun b => forceN c fun c => k (.mp r a ⟨b⟩ c)
theorem forceIt_eq {R:Type} (i:IterRec) (k:IterRec → R):forceIt i k = k i:=by
  cases i with
  | str s p => simp only [forceIt,forceN_eq]
  | mp r a b c => obtain ⟨b⟩:=b; simp only [forceIt,forceN_eq,forceL_eq]

def Heap.setIt (H:Heap) (l:Nat) (row:Row) (i:IterRec):Heap:=
  forceIt i fun i => forceT (H.rows.put l { row with loop:=some (.it i) }) fun rows => { size:=H.size,rows:=rows,grps:=H.grps,low:=Nat.min l H.low }
theorem setIt_eq (H:Heap) (l:Nat) (row:Row) (i:IterRec) :
    H.setIt l row i = { size:=H.size,rows:=H.rows.put l { row with loop:=some (.it i) },grps:=H.grps,low:=Nat.min l H.low }:=by
  unfold Heap.setIt; rw [forceIt_eq,forceT_eq]

theorem HF.setIt {H:Heap} {l:Nat} {row:Row} (i:IterRec):HF H (H.setIt l row i):=by
  rw [setIt_eq];refine ⟨Nat.le_refl _,Nat.min_le_right _ _,fun r hr hlow => ?_⟩
  have hne:r ≠ l:=by have:Nat.min l H.low ≤ l:=Nat.min_le_left _ _; simp only at hlow; omega
  exact ⟨Trie.get_put_ne _ _ hne,fun _ _ => rfl⟩

theorem Ext.setIt (h:HR n0 m H w) {l:Nat} {rm:RowMap} {row:Row} {i0:IterRec} (hm:m l = some rm) (hrow:H.rows.get l = some row) (hro:row.ro = false) (hl:row.loop = some (.it i0))
    {i:IterRec} {o':Obj} (hE:SR m (.it i) o'):Ext n0 m H w m (H.setIt l row i) (World.setObjAt w rm.blk o'):=by
  have hf:=h.rowOf hm hrow;obtain ⟨hex,hsh,o0,hb,hS0⟩:=hf.spec hl (by simp)
  have hlt:=hf.lt;have hnew:(World.setObjAt w rm.blk o').heap[rm.blk]? = some o':=setObjAt_same hlt;have hget:∀ k,(H.setIt l row i).rows.get k = if k = l then some { row with loop:=some (.it i) } else H.rows.get k:=fun k => by
    rw [setIt_eq]; exact Trie.get_put _ _ _ _
  have hsz:(H.setIt l row i).size = H.size:=by rw [setIt_eq]
  have hgr:(H.setIt l row i).grps = H.grps:=by rw [setIt_eq]
  have hlow:(H.setIt l row i).low ≤ l:=by rw [setIt_eq]; exact Nat.min_le_left _ _
  refine ⟨Map.le_refl _,⟨?_,?_,?_,?_⟩,?_,?_,fun r rm h => .inl h,?_⟩
  · have:=h.base; simpa [World.setObjAt] using this
  · intro k rk hk;obtain ⟨x,hx,hklt,hfk⟩:=h.row k rk hk
    by_cases hkl:k = l
    · subst hkl;rw [hm] at hk; cases hk;rw [hrow] at hx; cases hx;refine ⟨{ row with loop:=some (.it i) },by rw [hget,if_pos rfl],by rw [hsz]; exact hklt,hf.ex,hf.es,hf.ro,hf.grpE,hf.grpL,hf.grpB,hf.roE,hf.own,?_⟩
      exact .inr (.inr ⟨.it i,o',rfl,hex,hnew,hE,hsh⟩)
    · refine ⟨x,by rw [hget,if_neg hkl]; exact hx,by rw [hsz]; exact hklt,?_⟩
      by_cases hbk:rk.blk = rm.blk
      · exfalso;rcases h.apart k l rk rm x row hk hm hx hrow hbk with ⟨hg,_⟩ | ⟨_,hr⟩
        · have h1:=hf.grpE hex;cases hxe:x.exact with
          | true => have h2:=hfk.grpE hxe; omega
          | false => have h2:=hfk.grpL hxe; omega
        · rw [hro] at hr; cases hr
      · refine hfk.later (Map.le_refl _) (setObjAt_other hbk) ?_
        unfold Heap.alive;rw [hgr];exact id
  · intro k k' rk rk' x x' hk hk' hx hx' hbk;have back:∀ k x,(H.setIt l row i).rows.get k = some x → ∃ y,H.rows.get k = some y ∧ y.grp = x.grp ∧ y.gpos = x.gpos ∧ y.ro = x.ro:=fun k x hx => by
      rw [hget] at hx;split at hx
      · rename_i he; cases hx; exact ⟨row,by rw [he]; exact hrow,rfl,rfl,rfl⟩
      · exact ⟨x,hx,rfl,rfl,rfl⟩
    obtain ⟨y,hy,e1,e2,e3⟩:=back k x hx;obtain ⟨y',hy',e1',e2',e3'⟩:=back k' x' hx';have:=h.apart k k' rk rk' y y' hk hk' hy hy' hbk;rw [e1,e2,e3,e1',e2',e3'] at this;exact this
  · intro k x hx;rw [hget] at hx;rw [hsz];split at hx
    · rename_i hk; cases hx; rw [hk]; exact h.inv l row hrow
    · exact h.inv k x hx
  · exact ⟨rfl,rfl,rfl,by simp [World.setObjAt],fun k hk => setObjAt_other (by have:=hf.own hro; omega)⟩
  · intro b hb2 hall
    by_cases hbb:b = rm.blk
    · rcases hall l rm hm hbb.symm with hh | hh
      · rw [hf.ro,hro] at hh; cases hh
      · omega
    · exact setObjAt_other hbb
  · intro b L2 hb2
    by_cases hbb:b = rm.blk
    · subst hbb; rw [hb] at hb2; cases hb2; exact absurd rfl (hS0.noLoop _)
    · exact ⟨L2,by rw [setObjAt_other hbb]; exact hb2⟩

def Heap.addIt (H:Heap) (i:IterRec):Heap:=H.add { cells:=[],elem:=0,exact:=true,ro:=false,esz:=0,grp:=2 * H.size,gpos:=0,loop:=some (.it i) }

theorem Ext.addIt (h:HR n0 m H w) {i:IterRec} {o':Obj} (hE:SR m (.it i) o'):Ext n0 m H w (m.put H.size ⟨w.heap.size,0,0,0,true,false⟩) (H.addIt i) (w.alloc o') ∧ HF H (H.addIt i):=by
  have hle:=Map.le_put (rm:=⟨w.heap.size,0,0,0,true,false⟩) h.none;have hget:∀ r,(H.addIt i).rows.get r = if r = H.size then some { cells:=[],elem:=0,exact:=true,ro:=false,esz:=0,grp:=2 * H.size,gpos:=0,loop:=some (.it i) } else H.rows.get r:=fun r => Heap.add_get _ _ _
  have hsz:(H.addIt i).size = H.size + 1:=Heap.add_size _ _;have hgr:(H.addIt i).grps = H.grps:=by unfold Heap.addIt; rw [Heap.add_grps]; rfl
  have hold:∀ b,b < w.heap.size → (w.alloc o').heap[b]? = w.heap[b]?:=fun b hb => Below.heap_alloc _ _ _ hb
  have hnew:(w.alloc o').heap[w.heap.size]? = some o':=(MapKept.heap_alloc w _).1;have hbel:Below n0 w (w.alloc o'):=(Below.refl _ _).alloc h.base _;refine ⟨⟨hle,⟨Nat.le_trans h.base hbel.size,?_,?_,?_⟩,hbel,fun b hb _ => hold b hb,?_,fun b L hb => ⟨L,by rw [hold b (Array.getElem?_eq_some_iff.1 hb).1]; exact hb⟩⟩,?_⟩
  · intro r rm hr;rcases Map.put_inv hr with ⟨rfl,rfl⟩ | ⟨hne,hr⟩
    · refine ⟨_,by rw [hget,if_pos rfl],by rw [hsz]; exact Nat.lt_succ_self _,rfl,rfl,rfl,fun _ => rfl,(fun e => by cases e),(by simp only; omega),(fun e => by cases e),fun _ => h.base,?_⟩
      exact .inr (.inr ⟨.it i,o',rfl,rfl,hnew,hE.mono hle,rfl⟩)
    · obtain ⟨x,hx,hlt,hf⟩:=h.row r rm hr;refine ⟨x,by rw [hget,if_neg hne]; exact hx,by rw [hsz]; exact Nat.lt_succ_of_lt hlt,hf.later hle (hold _ hf.lt) ?_⟩
      unfold Heap.alive;rw [hgr];exact id
  · intro r r' rm rm' x x' hr hr' hx hx' hbk;rw [hget] at hx hx';rcases Map.put_inv hr with ⟨rfl,rfl⟩ | ⟨hne,hr⟩ <;> rcases Map.put_inv hr' with ⟨rfl,rfl⟩ | ⟨hne',hr'⟩
    · rw [if_pos rfl] at hx hx'; cases hx; cases hx'; exact .inl ⟨rfl,rfl⟩
    · obtain ⟨y,hy,_,hfy⟩:=h.row r' rm' hr';have:=hfy.lt; simp at hbk; omega
    · obtain ⟨y,hy,_,hfy⟩:=h.row r rm hr;have:=hfy.lt; simp at hbk; omega
    · rw [if_neg hne] at hx; rw [if_neg hne'] at hx';exact h.apart r r' rm rm' x x' hr hr' hx hx' hbk
  · intro r x hx;rw [hget] at hx;rw [hsz];split at hx
    · rename_i hk; cases hx; exact ⟨.inl rfl,by omega⟩
    · have:=h.inv r x hx; exact ⟨this.1.imp id (by omega),by omega⟩
  · intro r rm hr;rcases Map.put_inv hr with ⟨rfl,rfl⟩ | ⟨_,hr⟩
    · exact .inr ⟨Nat.le_refl _,rfl,.inl (Nat.le_refl _)⟩
    · exact .inl hr
  · exact HF.add H _ (.inl rfl) h.inv


end Go.AM

namespace Go.AM
open Go.RowKit (Below)

variable {P:Program} {n0:Nat} {m:Map} {H:Heap} {w:World}

def itPtr (H:Heap) (i:IterRec):Option (Value × Heap):=some (.pointer (some ⟨H.size,0,none⟩),H.addIt i)

def aRange (P:Program) (H:Heap) (t:TypeId) (x:Value):Option (Value × Heap):=match P.underlying t with
  | some .string => match x with
    | .string s => itPtr H (.str s 0)
    | _ => none
  | some (.map _ _) => match x with
    | .map none => itPtr H (.mp none 0 #[] 0)
    | .map (some r) => match mapOf H r with
      | some (_,_,clk) => itPtr H (.mp (some r) clk #[] clk)
      | none => none
    | _ => none
  | _ => none

theorem itPtr_sim (h:HR n0 m H w) {i:IterRec} {o:Obj} (hS:SR m (.it i) o) {s:Sem Value} (hs:s.run P w = .ok (.pointer (some ⟨w.heap.size,0,none⟩)) (w.alloc o)) {v:Value} {H':Heap} (e:itPtr H i = some (v,H')) :
    Sim P n0 m H w s v H':=by
  obtain ⟨hx,hf⟩:=Ext.addIt h hS;cases e;exact ⟨_,_,_,hs,hx,.ptr (rm:=⟨w.heap.size,0,0,0,true,false⟩) (Map.put_same _ _ _),hf⟩

theorem aRange_sound (h:HR n0 m H w) {t:TypeId} {x x' v:Value} {H':Heap} (hx:VR m x x') (e:aRange P H t x = some (v,H')):Sim P n0 m H w (Instr.range t x') v H':=by
  unfold aRange at e;split at e
  · rename_i hu;split at e
    case h_2 => cases e
    rw [hx.eq_of_plain rfl];refine itPtr_sim h .str ?_ e;simp only [Instr.range,Sem.run_bind,run_underlying' hu,Result.andThen_ok,Sem.run_pure];rfl
  · rename_i kt et hu;split at e
    · rw [hx.eq_of_plain rfl];refine itPtr_sim h .itN ?_ e;simp only [Instr.range,Sem.run_bind,run_underlying' hu,Result.andThen_ok,Sem.run_pure];rfl
    · rename_i r;split at e
      case h_2 => cases e
      rename_i row es clk hmo;obtain ⟨hrow,hl⟩:=mapOf_inv hmo;obtain ⟨rm,hm,rfl⟩:=hx.map_inv;obtain ⟨hex,es',hb,hE⟩:=(h.rowOf hm hrow).mapRec hl;refine itPtr_sim h (.it hm) ?_ e;simp only [Instr.range,Sem.run_bind,run_underlying' hu,Result.andThen_ok,Sem.run_pure,MapKept.run_getObj_map hb];rfl
    · cases e
  · cases e

theorem ER.filter {es es':List MapEntry} (p:Nat → Bool) (h:ER m es es'):ER m (es.filter fun e => p e.born) (es'.filter fun e => p e.born):=by
  induction h with
  | nil => exact .nil
  | cons hk hv _ ih =>
    rename_i k v v' b l l' _;simp only [List.filter_cons];cases p b with
    | true => exact .cons hk hv ih
    | false => exact ih

theorem ER.all {es es':List MapEntry} (p:Nat → Bool) (h:ER m es es'):(es.all fun e => p e.born) = (es'.all fun e => p e.born):=by
  induction h with
  | nil => rfl
  | cons hk hv _ ih => simp only [List.all_cons,ih]
theorem ER.isEmpty {es es':List MapEntry} (h:ER m es es'):es.isEmpty = es'.isEmpty:=by cases h <;> rfl

def overT:Value:=.tuple ⟨[.bool false]⟩
def leftOf (seen:Array Nat) (es:List MapEntry):List MapEntry:=es.filter fun e => !seen.contains e.born
def onlyNew (seen:Array Nat) (last:Nat) (es:List MapEntry):Bool:=!seen.isEmpty && !es.isEmpty && es.all fun e => decide (e.born ≥ last)

def nextIt (H:Heap) (r:Nat) (row:Row) (i:IterRec) (isString:Bool):Option (Value × Heap):=match i with
  | .str s pos => cond isString (cond (Nat.blt pos s.size)
      (some (.tuple ⟨[.bool true,goInt pos,.int .i32 (Utf8.decode s pos).1]⟩,H.setIt r row (.str s (pos + (Utf8.decode s pos).2)))) (some (overT,H))) none
  | .mp none _ _ _ => cond isString none (some (overT,H))
  | .mp (some mr) since seen last => cond isString none (match mapOf H mr with
    | some (_,es,clk) => cond (onlyNew seen last es) none (match leftOf seen es with
      | [] => some (overT,H)
      | [e] => cond (decide (e.born < since)) (some (.tuple ⟨[.bool true,e.key,e.val]⟩,H.setIt r row (.mp (some mr) since (seen.push e.born) clk))) none
      | _ => none)
    | none => none)

def aNext (H:Heap) (it:Value) (isString:Bool):Option (Value × Heap):=match it with
  | .pointer (some ⟨r,0,none⟩) => match H.rows.get r with
    | some row => cond (!row.ro) (match row.loop with
      | some (.it i) => nextIt H r row i isString
      | _ => none) none
    | none => none
  | _ => none

theorem cond_none {α:Type} {b:Bool} {x:Option α} {y:α} (h:cond b none x = some y):b = false ∧ x = some y:=by
  cases b
  · exact ⟨rfl,h⟩
  · cases h

def nextSem (rb mb since:Nat) (seen:Array Nat) (clock:Nat) (left:Array MapEntry):Sem Value:=do
  let old:=left.filter (·.born < since)
  let new:=left.filter (·.born ≥ since)
  let candidates:=(if old.isEmpty then #[none] else #[]) ++ (old ++ new).map some
  match candidates[← choose (.mapNext candidates.size)]? with
  | some (some e) =>
    setObj rb (.mapIter (some mb) since (seen.push e.born) clock)
    pure (.tuple #[.bool true,e.key,e.val])
  | some none => pure (.tuple #[.bool false])
  | none => stuck "Next: no such candidate"

def nextPick (rb mb since:Nat) (seen:Array Nat) (clock:Nat) (c:Array (Option MapEntry)):Sem Value:=do
  match c[← choose (.mapNext c.size)]? with
  | some (some e) =>
    setObj rb (.mapIter (some mb) since (seen.push e.born) clock)
    pure (.tuple #[.bool true,e.key,e.val])
  | some none => pure (.tuple #[.bool false])
  | none => stuck "Next: no such candidate"
def cands (since:Nat) (left:Array MapEntry):Array (Option MapEntry):=
  (if (left.filter (·.born < since)).isEmpty then #[none] else #[]) ++ (left.filter (·.born < since) ++ left.filter (·.born ≥ since)).map some
theorem nextSem_eq (rb mb since:Nat) (seen:Array Nat) (clock:Nat) (left:Array MapEntry):nextSem rb mb since seen clock left = nextPick rb mb since seen clock (cands since left):=rfl

theorem run_choose1 (w:World):(choose (.mapNext 1)).run P w = .ok 0 w:=by simp [choose,Sem.run,Question.forced]

theorem nextSem_nil (rb mb since:Nat) (seen:Array Nat) (clock:Nat) (w:World):(nextSem rb mb since seen clock ⟨[]⟩).run P w = .ok (.tuple #[.bool false]) w:=by
  rw [nextSem_eq,show cands since ⟨[]⟩ = #[none] from by simp [cands]]
  unfold nextPick;rw [Sem.run_bind,show (#[none] : Array (Option MapEntry)).size = 1 from rfl,run_choose1,Result.andThen_ok]
  rfl

theorem nextSem_one {rb mb since:Nat} {seen:Array Nat} {clock:Nat} {k u:Value} {bn:Nat} (hset:∀ o2,(setObj rb o2).run P w = .ok () (World.setObjAt w rb o2)) (hlt:bn < since) :
    (nextSem rb mb since seen clock ⟨[⟨k,u,bn⟩]⟩).run P w = .ok (.tuple #[.bool true,k,u]) (World.setObjAt w rb (.mapIter (some mb) since (seen.push bn) clock)):=by
  have hge:¬ since ≤ bn:=by omega
  have h1:(⟨[⟨k,u,bn⟩]⟩:Array MapEntry).filter (fun e => decide (e.born < since)) = #[⟨k,u,bn⟩]:=by simp [hlt]
  have h2:(⟨[⟨k,u,bn⟩]⟩:Array MapEntry).filter (fun e => decide (e.born ≥ since)) = #[]:=by simp [hge]
  have hc:cands since ⟨[⟨k,u,bn⟩]⟩ = #[some ⟨k,u,bn⟩]:=by unfold cands; rw [h1,h2]; simp
  rw [nextSem_eq,hc];unfold nextPick;rw [Sem.run_bind,show (#[some ⟨k,u,bn⟩] : Array (Option MapEntry)).size = 1 from rfl,run_choose1,Result.andThen_ok]
  show Sem.run P (Sem.bind (setObj rb _) _) w = _;rw [show ∀ (s:Sem Unit) (f:Unit → Sem Value),Sem.run P (Sem.bind s f) w = (s.run P w).andThen fun a w' => (f a).run P w' from fun s f => Sem.run_bind ..,hset]
  rfl

theorem aNext_sound (h:HR n0 m H w) {x x' v:Value} {b:Bool} {ty:TypeId} {H':Heap} (hx:VR m x x') (e:aNext H x b = some (v,H')):Sim P n0 m H w (Instr.next x' b ty) v H':=by
  unfold aNext at e;split at e
  case h_2 => cases e
  rename_i r;split at e
  case h_2 => cases e
  rename_i row hrow;obtain ⟨hro,e⟩:=Zaaw e;have hro:row.ro = false:=by simpa using hro
  split at e
  case h_2 => cases e
  rename_i i hl;obtain ⟨rm,hm,rfl⟩:=hx.ptr_inv;obtain ⟨hex,hsh,o,hb,hS⟩:=(h.rowOf hm hrow).spec hl (by simp)
  rw [hsh];have hnc:∀ c e f,o ≠ .cells c e f:=by cases hS <;> (intro c e f h; cases h)
  have hget0:(getObj rm.blk).run P w = .ok o w:=by
    simp only [getObj,Sem.run,hb];all_goals (cases o <;> first | rfl | exact absurd rfl (hnc _ _ _))
  have hset:∀ o2,(setObj rm.blk o2).run P w = .ok () (World.setObjAt w rm.blk o2):=fun o2 => by
    simp only [setObj,Sem.run,hb,World.setObjAt];all_goals (cases o <;> first | rfl | exact absurd rfl (hnc _ _ _))
  cases hS with
  | str =>
    rename_i s pos;unfold nextIt at e;simp only [] at e;obtain ⟨rfl,e⟩:=Zaaw e;cases hp:Nat.blt pos s.size with
    | true =>
      rw [hp,cond_true] at e;cases e;have hp:pos < s.size:=Nat.le_of_ble_eq_true hp;refine ⟨_,m,_,?_,Ext.setIt h hm hrow hro hl (i:=.str s (pos + (Utf8.decode s pos).2)) .str,.plain rfl,HF.setIt _⟩;simp only [Instr.next,Sem.run_bind,hget0,Result.andThen_ok,hp,if_true,hset,Sem.run_pure]
    | false =>
      rw [hp,cond_false] at e;cases e;have hp:¬ pos < s.size:=fun hlt => by rw [show Nat.blt pos s.size = true from Nat.ble_eq_true_of_le hlt] at hp; cases hp
      refine ⟨overT,m,w,?_,.refl h,.plain rfl,HF.refl _⟩;simp only [Instr.next,Sem.run_bind,hget0,Result.andThen_ok,hp,if_false,Sem.run_pure];rfl
  | itN =>
    unfold nextIt at e;simp only [] at e;obtain ⟨rfl,e⟩:=cond_none (b:=b) e;cases e;refine ⟨overT,m,w,?_,.refl h,.plain rfl,HF.refl _⟩;simp only [Instr.next,Sem.run_bind,hget0,Result.andThen_ok,Sem.run_pure];rfl
  | it hmm =>
    rename_i mr rmm since seen last;unfold nextIt at e;simp only [] at e;obtain ⟨rfl,e⟩:=cond_none (b:=b) e;split at e
    case h_2 => cases e
    rename_i mrow es clk hmo;obtain ⟨hmrow,hml⟩:=mapOf_inv hmo;obtain ⟨_,es',hmb,hE⟩:=(h.rowOf hmm hmrow).mapRec hml;obtain ⟨l'⟩:=es';have hE:ER m es l':=hE;obtain ⟨hnew,e⟩:=cond_none (b:=onlyNew seen last es) e;have hnew':(!seen.isEmpty && !l'.isEmpty && l'.all fun e => decide (e.born ≥ last)) = false:=by
      rw [← hE.isEmpty,← hE.all (fun b => decide (b ≥ last))]; exact hnew
    have hF:ER m (leftOf seen es) (leftOf seen l'):=hE.filter (fun b => !seen.contains b)
    have h1:(!seen.isEmpty && !(⟨l'⟩:Array MapEntry).isEmpty && (⟨l'⟩:Array MapEntry).all fun e => decide (e.born ≥ last)) = false:=by
      rw [← hnew',← List.all_toArray]; cases l' <;> rfl
    have h2:(⟨l'⟩:Array MapEntry).filter (fun e => !seen.contains e.born) = ⟨leftOf seen l'⟩:=by
      simp [leftOf]
    have fin:∀ (L':List MapEntry) (v':Value) (w':World),leftOf seen l' = L' → (nextSem rm.blk rmm.blk since seen clk ⟨L'⟩).run P w = .ok v' w' → (Instr.next (.pointer (some ⟨rm.blk,0 + 0,none⟩)) false ty).run P w = .ok v' w':=by
      intro L' v' w' hL hr;rw [← hr,← hL,← h2];show Sem.run P (Sem.bind (getObj rm.blk) _) w = _;rw [Sem.run_bind',hget0,Result.andThen_ok];show Sem.run P (Sem.bind (getObj rmm.blk) _) w = _;rw [Sem.run_bind',MapKept.run_getObj_map hmb,Result.andThen_ok];simp only [h1,Bool.false_eq_true,if_false];rfl
    generalize hL:leftOf seen es = L at hF e;generalize hL':leftOf seen l' = L' at hF;cases hF with
    | nil =>
      cases e;exact ⟨overT,m,w,fin _ _ _ hL' (nextSem_nil ..),.refl h,.plain rfl,HF.refl _⟩
    | cons hk hv hF =>
      cases hF with
      | nil =>
        rename_i k u u' bn;simp only [] at e;obtain ⟨hlt,e⟩:=Zaaw e;cases e;refine ⟨.tuple #[.bool true,k,u'],m,_,fin _ _ _ hL' ?_,Ext.setIt h hm hrow hro hl (i:=.mp (some mr) since (seen.push bn) clk) (.it hmm),.tuple (.cons (.plain rfl) (.cons (.plain hk) (.cons hv .nil))),HF.setIt _⟩;exact nextSem_one hset (of_decide_eq_true hlt)
      | cons _ _ _ => cases e

end Go.AM

namespace Go.AM
open Go.RowKit (Below)

variable {P:Program} {n0:Nat} {m:Map} {H:Heap} {w:World}

/-! clear of a slice. -/

def aClear (P:Program) (H:Heap) (argTypes:Array TypeId) (x:Value):Option (Value × Heap):=match argTypes[0]?,x with
  | some t,.slice (some ⟨r,o,none⟩) n _ => match P.underlying t,H.rows.get r with
    | some (.slice e),some row => cond (Nat.beq n 0) (some (.tuple ⟨[]⟩,H)) (match (P.info? e).bind (·.zero) with
      | some z => cond (plain z && (Nat.beq z.cells.toList.length 1 && (!row.ro && (H.alive r row && (ones (zeroRow z.cells.toList n) && Nat.ble (o + n) row.cells.length)))))
          (some (.tuple ⟨[]⟩,H.store r row o (zeroRow z.cells.toList n))) none
      | none => none)
    | _,_ => none
  | _,_ => none

theorem aClear_sound (h:HR n0 m H w) {argTypes:Array TypeId} {ty:TypeId} {d d' v:Value} {H':Heap} (hd:VR m d d')
    (e:aClear P H argTypes d = some (v,H')):Sim P n0 m H w (Builtin.clear_ argTypes ty #[d']) v H':=by
  unfold aClear at e;split at e
  case h_2 => cases e
  rename_i t r o n dc ht;split at e
  case h_2 => cases e
  rename_i e' row hu hrow;obtain ⟨rm,o',c',hm,rfl,hc⟩:=hd.slice_inv;have hf:=h.rowOf hm hrow;cases hz:Nat.beq n 0 with
  | true =>
    rw [hz,cond_true] at e;cases e;have hz:=Nat.eq_of_beq_eq_true hz;subst hz;refine Sim.same h (v':=.tuple #[]) ?_ (.plain rfl);simp [Builtin.clear_,ht,run_underlying' hu]
  | false =>
    rw [hz,cond_false] at e;have hn0:n ≠ 0:=fun q => by rw [q] at hz; cases hz
    split at e
    case h_2 => cases e
    rename_i z hzz;rw [Option.bind_eq_some_iff] at hzz;obtain ⟨inf,hi,hzz⟩:=hzz;obtain ⟨hok,e⟩:=Zaaw e;cases e;simp only [Bool.and_eq_true,Bool.not_eq_true'] at hok;obtain ⟨hpz,hone,hro,hal,hones,hfit⟩:=hok;have hfit:=Nat.le_of_ble_eq_true hfit;have hone:=Nat.eq_of_beq_eq_true hone;have hpl:plains (zeroRow z.cells.toList n) = true:=zeroRow_plain (plains_cells hpz) (.inl (by intro q; rw [q] at hone; cases hone))
    have hvl:VRs m (zeroRow z.cells.toList n) (zeroRow z.cells.toList n):=VRs.of_plain hpl;obtain ⟨cs,hb,hr,hext⟩:=Ext.store h hm hrow hro hal o _ _ hvl (by rw [zeroRow_length]; exact hfit)
    have ho:o' = rm.sh + o:=by
      rcases hc with ⟨_,h1,_⟩ | ⟨_,h1,h2,⟨h3,_⟩ | h3⟩
      · exact h1
      · exact h3
      · omega
    have hst:=run_storeCells_at P rm.blk o' row.elem (zeroRow z.cells.toList n) 0 cs w hb (by omega) (ones_mem hvl hones)
    simp only [Nat.add_zero,toList_splice] at hst;have hzc:(Builtin.zeroCells z.cells n).toList = zeroRow z.cells.toList n:=by
      unfold Builtin.zeroCells;have hsz:z.cells.size = 1:=by simpa using hone
      rw [hsz,Nat.mul_one];have:=zeroRow_eq z.cells.toList n;rw [Array.toArray_toList,hsz] at this;rw [this]
    refine ⟨.tuple #[],m,_,?_,by rw [← ho] at hext; exact hext,.plain rfl,HF.store H r row _ _⟩
    obtain ⟨k,rfl⟩:=Nat.exists_eq_succ_of_ne_zero hn0;simp [Builtin.clear_,ht,run_underlying' hu,run_zero' hi hzz,hzc,hst]

end Go.AM

namespace Go.AM
open Go.RowKit (Below)

variable {P:Program} {n0:Nat} {m:Map} {H:Heap} {w:World}

/-! The entry at which an iterator stands. -/

theorem ER.find {es es':List MapEntry} (p:Nat → Bool) (h:ER m es es'):∀ e,es.find? (fun e => p e.born) = some e → ∃ e',es'.find? (fun e => p e.born) = some e' ∧ e'.key = e.key ∧ plain e.key = true ∧ VR m e.val e'.val:=by
  induction h with
  | nil => intro e he; cases he
  | cons hk hv _ ih =>
    rename_i k v v' b l l' _;intro e he;rw [List.find?_cons] at he ⊢;cases hp:p b with
    | true =>
      simp only [hp] at he ⊢;cases he;exact ⟨_,rfl,rfl,hk,hv⟩
    | false =>
      simp only [hp] at he ⊢;exact ih e he

def entryOf (H:Heap) (i:IterRec):Option Value:=match i with
  | .mp (some mr) _ seen stepped => match seen.back? with
    | some stamp => match mapOf H mr with
      | some (_,es,clk) => cond (Nat.beq clk stepped) (match es.find? (fun e => e.born == stamp) with
        | some e => some (.tuple ⟨[e.key,e.val]⟩)
        | none => none) none
      | none => none
    | none => none
  | _ => none

def aItEntry (H:Heap) (it:Value):Option Value:=match it with
  | .pointer (some ⟨r,0,none⟩) => match H.rows.get r with
    | some row => match row.loop with
      | some (.it i) => entryOf H i
      | _ => none
    | none => none
  | _ => none

theorem aItEntry_sound (h:HR n0 m H w) {x x' v:Value} (hx:VR m x x') (e:aItEntry H x = some v):∃ v',(Instr.entry x').run P w = .ok v' w ∧ VR m v v':=by
  unfold aItEntry at e;split at e
  case h_2 => cases e
  rename_i r;split at e
  case h_2 => cases e
  rename_i row hrow;split at e
  case h_2 => cases e
  rename_i i hl;obtain ⟨rm,hm,rfl⟩:=hx.ptr_inv;obtain ⟨hex,hsh,o,hb,hS⟩:=(h.rowOf hm hrow).spec hl (by simp)
  rw [hsh];have hnc:∀ c e f,o ≠ .cells c e f:=by cases hS <;> (intro c e f h; cases h)
  have hget0:(getObj rm.blk).run P w = .ok o w:=by
    simp only [getObj,Sem.run,hb];all_goals (cases o <;> first | rfl | exact absurd rfl (hnc _ _ _))
  cases hS with
  | str => cases e
  | itN => cases e
  | it hmm =>
    rename_i mr rmm since seen last;unfold entryOf at e;simp only [] at e;split at e
    case h_2 => cases e
    rename_i stamp hst;split at e
    case h_2 => cases e
    rename_i mrow es clk hmo;obtain ⟨hmrow,hml⟩:=mapOf_inv hmo;obtain ⟨_,es',hmb,hE⟩:=(h.rowOf hmm hmrow).mapRec hml;obtain ⟨l'⟩:=es';have hE:ER m es l':=hE
    obtain ⟨hclk,e2⟩:clk = last ∧ (match es.find? (fun e => e.born == stamp) with
        | some e => some (Value.tuple ⟨[e.key,e.val]⟩)
        | none => none) = some v:=by
      cases hq:Nat.beq clk last with
      | true => rw [hq] at e; exact ⟨Nat.eq_of_beq_eq_true hq,e⟩
      | false => rw [hq] at e; cases e
    subst hclk;cases hen:es.find? (fun e => e.born == stamp) with
    | none => rw [hen] at e2; cases e2
    | some en =>
    rw [hen] at e2;cases e2;obtain ⟨e',hf,hk,hp,hv⟩:=hE.find (fun b => b == stamp) en hen
    have hf2:(⟨l'⟩:Array MapEntry).find? (fun x => x.born == stamp) = some e':=by rw [← hf]; exact List.find?_toArray ..
    refine ⟨.tuple #[e'.key,e'.val],?_,.tuple (.cons (by rw [hk]; exact .plain hp) (.cons hv .nil))⟩
    simp only [Instr.entry,Sem.run_bind,hget0,Result.andThen_ok,hst,MapKept.run_getObj_map hmb];simp [hf2]

end Go.AM

namespace Go.AM
open Go.RowKit (Below)

variable {P:Program} {n0:Nat} {m:Map} {H:Heap} {w:World}

/-! A string of bytes in the memory. -/

def bytesIn:List Value → Option (List Int)
  | [] => some []
  | .int .u8 n :: l => (bytesIn l).map fun r => n :: r
  | _ => none

theorem bytesIn_eq:∀ {l:List Value} {ns:List Int},bytesIn l = some ns → l = ns.map (Value.int .u8)
  | [],ns,h => by cases h; rfl
  | v :: l,ns,h => by
    unfold bytesIn at h;split at h
    · rename_i e; cases e
    · rename_i n l' e;cases e;rw [Option.map_eq_some_iff] at h;obtain ⟨r,hr,rfl⟩:=h;rw [bytesIn_eq hr]; rfl
    · cases h

def aText (P:Program) (H:Heap) (src dst:TypeId) (x:Value):Option Value:=match P.underlying src,P.underlying dst,x with
  | some (.slice e),some .string,.slice (some ⟨r,o,none⟩) n _ => match P.underlying e with
    | some (.int .u8) => (cond (Nat.beq n 0) (some []) (H.read r o n)).bind fun l => (bytesIn l).map fun bs => .string ⟨⟨bs.map fun n => UInt8.ofNat n.toNat⟩⟩
    | _ => none
  | _,_,_ => none

theorem fold_push:∀ (ns:List Int) (s:ByteArray),ns.foldl (fun (r:ByteArray) n => r.push (UInt8.ofNat n.toNat)) s = ⟨⟨s.data.toList ++ ns.map fun n => UInt8.ofNat n.toNat⟩⟩
  | [],s => by simp
  | n :: ns,s => by
    rw [List.foldl_cons,fold_push ns];cases s;simp [ByteArray.push]

theorem aText_sound (h:HR n0 m H w) {src dst:TypeId} {x x' v:Value} (hx:VR m x x') (e:aText P H src dst x = some v) :
    ∃ v',(Go.convert src dst x').run P w = .ok v' w ∧ VR m v v':=by
  unfold aText at e;split at e
  case h_2 => cases e
  rename_i el r o n c hs hd;split at e
  case h_2 => cases e
  rename_i he;rw [Option.bind_eq_some_iff] at e;obtain ⟨l,hl,e⟩:=e;rw [Option.map_eq_some_iff] at e;obtain ⟨bs,hb,rfl⟩:=e;obtain ⟨rm,o',c',hm,rfl,hc⟩:=hx.slice_inv;refine ⟨_,?_,.plain rfl⟩;rw [run_convert_bytes_string w src dst el _ _ _ hs he hd];have hload:(loadCells ⟨rm.blk,o',none⟩ n).run P w = .ok (bs.map (Value.int .u8)).toArray w:=by
    cases hz:Nat.beq n 0 with
    | true =>
      rw [hz,cond_true] at hl;cases hl;cases hb;have hz:=Nat.eq_of_beq_eq_true hz;subst hz;simp [loadCells,loadCellsFrom]
    | false =>
      rw [hz,cond_false] at hl;have hnz:n ≠ 0:=fun q => by rw [q] at hz; cases hz
      obtain ⟨l',hv,hlen,hlen2,hcell,_⟩:=read_sound h hm hl;have ho:o' = rm.sh + o:=by
        rcases hc with ⟨_,h1,_⟩ | ⟨_,h1,h2,⟨h3,_⟩ | h3⟩
        · exact h1
        · exact h3
        · omega
      have hbl:=bytesIn_eq hb;have hp:plains l = true:=by
        rw [hbl];apply plains_of;intro v hv;simp only [List.mem_map] at hv;obtain ⟨b,_,rfl⟩:=hv;rfl
      have:l' = l:=hv.eq_plain hp;subst this;rw [ho,run_loadCells_of hlen hcell,← hbl]
  rw [run_bytesToString w _ _ _ _ hload,fold_push];rfl

end Go.AM

namespace Go.AM
open Go.RowKit (Below)

variable {P:Program} {m:Map} {w:World}

/-! Functions without a body: the comparison of two strings. -/

def cmpName:String:= "internal/bytealg.abigen_runtime_cmpstring"
def aExt (fn:Func) (args:List Value):Option Value:=cond (fn.name == cmpName && fn.origin == "") (match args with
  | [.string a,.string b] => some (goInt (Extern.BytealgCompare.cmp a b))
  | _ => none) none

theorem cmp_next:(Extern.allNextRows.lookup cmpName).isNone = true:=by decide +kernel
theorem cmp_next0:(Extern.allNextRows.lookup "").isNone = true:=by decide +kernel
theorem cmp_gen:(Extern.allGenericRows.lookup cmpName).isNone = true:=by decide +kernel
theorem cmp_typ:(Extern.allTypedRows.lookup cmpName).isNone = true:=by decide +kernel

def ExtOk (P:Program) (f:FuncId) (args:List Value) (v:Value):Prop:=∃ fn,P.funcs[f]? = some fn ∧ fn.body.isNone = true ∧ aExt fn args = some v

theorem aExt_args {fn:Func} {args:List Value} {v:Value} (e:aExt fn args = some v):(fn.name = cmpName ∧ fn.origin = "") ∧ ∃ a b,args = [.string a,.string b] ∧ v = goInt (Extern.BytealgCompare.cmp a b):=by
  unfold aExt at e;cases h:(fn.name == cmpName && fn.origin == "") with
  | false => rw [h] at e; cases e
  | true =>
    rw [h,cond_true] at e;simp only [Bool.and_eq_true,beq_iff_eq] at h;split at e
    · rename_i a b;cases e;exact ⟨h,a,b,rfl,rfl⟩
    · cases e

theorem cmp_row:Extern.allRows.lookup cmpName = some Extern.BytealgCompare.compare:=by rfl

theorem run_ext {f:FuncId} {args args':List Value} {v:Value} (h:ExtOk P f args v) (hv:VRs m args args'):plain v = true ∧ (callFunc f args'.toArray).run P w = .ok (.value v) w:=by
  obtain ⟨fn,hf,hb,e⟩:=h;obtain ⟨⟨hn,ho⟩,a,b,rfl,rfl⟩:=aExt_args e;have ha:args' = [.string a,.string b]:=hv.eq_plain rfl;subst ha;refine ⟨rfl,?_⟩;have h1:Extern.findNext fn = none:=by
    unfold Extern.findNext;rw [hn,ho];have e1:=cmp_next;have e2:=cmp_next0;rw [Option.isNone_iff_eq_none] at e1 e2;simp only [e1,e2,Option.map_none];rfl
  have h2:Extern.find fn = some Extern.BytealgCompare.compare:=by
    unfold Extern.find;rw [hn,ho];have e1:=cmp_gen;have e2:=cmp_typ;rw [Option.isNone_iff_eq_none] at e1 e2;simp only [e1,e2,cmp_row,Option.map_none];rfl
  have hng:¬ fn.name = "runtime.NumGoroutine":=by rw [hn]; decide
  have hb':fn.body = none:=Option.isNone_iff_eq_none.1 hb;have h3:(Extern.BytealgCompare.compare [Value.string a,Value.string b].toArray).run P w = .ok (goInt (Extern.BytealgCompare.cmp a b)) w:=by
    show (do pure (goInt (Extern.BytealgCompare.cmp (← Extern.Bytes.bytesOf (.string a)) (← Extern.Bytes.bytesOf (.string b)))):Sem Value).run P w = _
    simp [Extern.Bytes.bytesOf]
  have h4:(callFunc f [Value.string a,Value.string b].toArray).run P w = (do pure (.value (← Extern.BytealgCompare.compare [Value.string a,Value.string b].toArray)):Sem Next).run P w:=by
    simp [callFunc,hf,hng,hb',h1,h2]
  rw [h4,Sem.run_bind,h3];rfl
theorem ExtOk.no_func {f:FuncId} {args:List Value} {v:Value} (h:ExtOk P f args v) {x:Fn} {a b:Array Value} (hm:Value.func x a b ∈ args):False:=by
  obtain ⟨fn,_,_,e⟩:=h;obtain ⟨_,s,t,rfl,_⟩:=aExt_args e;simp at hm
end Go.AM

namespace Go.AM
open Go.RowKit (Below)

variable {P:Program} {n0:Nat} {m:Map} {H:Heap} {w:World}

/-! append of a number of zeros,onto nil. -/

def aAppendZ (P:Program) (H:Heap) (argTypes:Array TypeId) (s x:Value):Option (Value × Heap):=
  match argTypes[0]?,argTypes[1]? with
  | some sT,some xT => match P.underlying sT,P.underlying xT with
    | some (.slice e),some d => match P.info? e,s,x with
      | some inf,.slice none 0 0,.int _ l => match inf.zero with
        | some z => if 0 ≤ l then cond (isIntD d && (plain z && (Nat.beq z.cells.toList.length inf.size && (Nat.blt 0 inf.size && small l.toNat inf.bytes)))) (cond (Nat.beq l.toNat 0) (some (.slice none 0 0,H))
            (some (.slice (some ⟨H.size,0,none⟩) l.toNat l.toNat,H.add { cells:=zeroRow z.cells.toList (l.toNat * inf.size),elem:=e,exact:=false,ro:=false,esz:=inf.size,grp:=2 * H.size + 1,gpos:=0 }))) none
          else none
        | none => none
      | _,_,_ => none
    | _,_ => none
  | _,_ => none

theorem run_appendZ {argTypes:Array TypeId} {ty sT xT e:TypeId} {inf:TypeInfo} {z:Value} {d:TypeDesc} {k:IntKind} {l:Int}
    (h0:argTypes[0]? = some sT) (h1:argTypes[1]? = some xT) (hs:P.underlying sT = some (.slice e)) (hx:P.underlying xT = some d) (hd:isIntD d = true)
    (hi:P.info? e = some inf) (hz:inf.zero = some z) (hl0:0 ≤ l) (hsm:small l.toNat inf.bytes = true) (hsz:z.cells.size = inf.size) (hpos:0 < inf.size) :
    (l.toNat = 0 → (Builtin.append_ argTypes ty #[.slice none 0 0,.int k l]).run P w = .ok (.slice none 0 0) w) ∧
    (0 < l.toNat → ∃ cap,l.toNat ≤ cap ∧ (Builtin.append_ argTypes ty #[.slice none 0 0,.int k l]).run P w =
      .ok (.slice (some ⟨w.heap.size,0,none⟩) l.toNat cap) (w.drew.alloc (.cells ((zeroRow z.cells.toList (l.toNat * inf.size)) ++ (Builtin.zeroCells z.cells (cap - l.toNat)).toList).toArray e))):=by
  obtain ⟨hs1,hs2⟩:=small_le hsm;have hw:IntKind.i64.wrap l = l:=IntWalk.i64_in l (by omega)
  have hneg:¬ l < 0:=by omega
  have hbig:¬ (2:Int) ^ 48 < l * (inf.bytes:Int):=by
    have h1:=small_mul hsm;have h2:((l.toNat * inf.bytes:Nat):Int) ≤ 17592186044416:=by omega
    rw [Int.natCast_mul,Int.toNat_of_nonneg hl0] at h2;have h48:(2:Int) ^ 48 = 281474976710656:=by decide
    rw [h48]; omega
  have hbig':¬ (281474976710656:Int) < l * (inf.bytes:Int):=by
    have h48:(2:Int) ^ 48 = 281474976710656:=by decide
    rw [← h48]; exact hbig
  refine ⟨fun hz0 => ?_,fun hp0 => ?_⟩
  · obtain rfl:l = 0:=by omega
    have hbig0:¬ (2:Int) ^ 48 < (0:Int) * (inf.bytes:Int):=hbig;unfold Builtin.append_;cases d <;> first
      | (simp [isIntD] at hd; done)
      | (simp only [List.getElem?_toArray,List.getElem?_cons_zero,List.getElem?_cons_succ,h0,h1,Sem.run_bind,run_underlying' hs,Result.andThen_ok,run_sizeOf' hi,run_underlying' hx,Sem.run_pure,if_true,asInt,asIntOf,hw,hneg,if_false,
          run_typeInfo' hi,gt_iff_lt,hbig0,Int.toNat_zero,Nat.zero_add,Nat.zero_mul,Nat.le_refl,Bool.not_true,Bool.false_eq_true,if_true])
  · have hnc:=nextcap_le (need:=l.toNat) (cap:=0) hp0;have hnb:¬ 2 ^ 48 < Builtin.nextslicecap l.toNat 0 * inf.bytes:=by
      have h1:Builtin.nextslicecap l.toNat 0 * inf.bytes ≤ (4 * 268435456 + 1024) * 65536:=Nat.mul_le_mul (by omega) hs2
      omega
    have hnb':¬ 281474976710656 < Builtin.nextslicecap l.toNat 0 * inf.bytes:=by
      have h48:(2:Nat) ^ 48 = 281474976710656:=by decide
      rw [← h48]; exact hnb
    refine ⟨(Question.appendCap l.toNat 0 e).cut (w.tape w.drawn (.appendCap l.toNat 0 e)),by simp [Question.cut],?_⟩
    have hmx:¬ ((l.toNat:Nat):Int) > IntKind.i64.max:=by
      have:IntKind.i64.max = 9223372036854775807:=by decide
      rw [this]; omega
    have hch:(choose (Question.appendCap l.toNat 0 e)).run P w = .ok ((Question.appendCap l.toNat 0 e).cut (w.tape w.drawn (Question.appendCap l.toNat 0 e))) w.drew:=by
      rw [run_choose,if_neg (by simp [Question.forced])]; rfl
    generalize (Question.appendCap l.toNat 0 e).cut (w.tape w.drawn (Question.appendCap l.toNat 0 e)) = cap at hch ⊢;have hne:¬ l.toNat ≤ 0:=by omega
    have hms:¬ (l.toNat * inf.size = 0):=by have:=Nat.mul_pos hp0 hpos; omega
    have hzr:Builtin.zeroCells z.cells l.toNat = (zeroRow z.cells.toList (l.toNat * inf.size)).toArray:=by
      rw [← zeroRow_eq,← hsz];rfl
    have hcc:(#[] : Array Value) ++ (zeroRow z.cells.toList (l.toNat * inf.size)).toArray ++ Builtin.zeroCells z.cells (cap - l.toNat) = (zeroRow z.cells.toList (l.toNat * inf.size) ++ (Builtin.zeroCells z.cells (cap - l.toNat)).toList).toArray:=by
      apply Array.ext'; simp
    unfold Builtin.append_;cases d <;> first
      | (simp [isIntD] at hd; done)
      | (simp only [List.getElem?_toArray,List.getElem?_cons_zero,List.getElem?_cons_succ,h0,h1,Sem.run_bind,run_underlying' hs,Result.andThen_ok,run_sizeOf' hi,run_underlying' hx,Sem.run_pure,if_true,asInt,asIntOf,hw,hneg,if_false,
          run_typeInfo' hi,gt_iff_lt,hbig,Nat.zero_add,hne,hmx,false_and,hnb,hch,run_askRoom,Bool.not_true,Bool.false_eq_true,hms,run_zero' hi hz,newRow,run_newObj,Builtin.firstCells,hzr,hcc]
         rfl)

theorem aAppendZ_sound (h:HR n0 m H w) {argTypes:Array TypeId} {ty:TypeId} {s s' x x' v:Value} {H':Heap} (hs:VR m s s') (hx:VR m x x')
    (e:aAppendZ P H argTypes s x = some (v,H')):Sim P n0 m H w (Builtin.append_ argTypes ty #[s',x']) v H':=by
  unfold aAppendZ at e;split at e
  case h_2 => cases e
  rename_i sT xT h0 h1;split at e
  case h_2 => cases e
  rename_i e' d hsT hxT;split at e
  case h_2 => cases e
  rename_i inf k l hi;split at e
  case h_2 => cases e
  rename_i z hz;split at e
  case isFalse => cases e
  rename_i hl0;cases hb:(isIntD d && (plain z && (Nat.beq z.cells.toList.length inf.size && (Nat.blt 0 inf.size && small l.toNat inf.bytes)))) with
  | false => rw [hb] at e; cases e
  | true =>
    rw [hb,cond_true] at e;simp only [Bool.and_eq_true] at hb;obtain ⟨hd,hpz,hsz,hpos,hsm⟩:=hb;have hsz:=Nat.eq_of_beq_eq_true hsz;have hpos:0 < inf.size:=Nat.le_of_ble_eq_true hpos;rw [hs.eq_of_plain rfl,hx.int_inv];obtain ⟨hr0,hr1⟩:=run_appendZ (w:=w) (ty:=ty) (k:=k) h0 h1 hsT hxT hd hi hz hl0 hsm (by simpa using hsz) hpos
    cases hnz:Nat.beq l.toNat 0 with
    | true =>
      rw [hnz,cond_true] at e;cases e;exact Sim.same h (hr0 (Nat.eq_of_beq_eq_true hnz)) (.plain rfl)
    | false =>
      rw [hnz,cond_false] at e;cases e;have hn0:0 < l.toNat:=Nat.pos_of_ne_zero fun q => by rw [q] at hnz; cases hnz
      obtain ⟨cap,hcap,hrun⟩:=hr1 hn0;have hplain:plains (zeroRow z.cells.toList (l.toNat * inf.size)) = true:=by
        apply zeroRow_plain (plains_cells hpz);left; intro hnil; rw [hnil] at hsz; simp at hsz; omega
      have hext:=Ext.add h { cells:=zeroRow z.cells.toList (l.toNat * inf.size),elem:=e',exact:=false,ro:=false,esz:=inf.size,grp:=2 * H.size + 1,gpos:=0 } (zeroRow z.cells.toList (l.toNat * inf.size)) (Builtin.zeroCells z.cells (cap - l.toNat)).toList rfl rfl (VRs.of_plain hplain) (.inr ⟨rfl,rfl⟩) w.drew (.inr rfl);refine ⟨_,_,_,hrun,hext,?_,HF.add H _ (.inr rfl) h.inv⟩;refine .sliceL (rm:=⟨w.heap.size,0,_,inf.size,false,false⟩) (Map.put_same _ _ _) rfl (Nat.le_refl _) hcap (.inl ⟨rfl,?_⟩);have hzc:(Builtin.zeroCells z.cells (cap - l.toNat)).size = (cap - l.toNat) * inf.size:=by simpa using zeroCells_length (k:=cap - l.toNat) hsz
      simp only [List.length_append,zeroRow_length,Array.length_toList,hzc,Nat.zero_add];rw [← Nat.add_mul];exact Nat.mul_le_mul_right _ (by omega)

end Go.AM
