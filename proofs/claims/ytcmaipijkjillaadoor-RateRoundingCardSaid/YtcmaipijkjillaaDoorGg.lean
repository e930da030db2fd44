/- A general tool, which names no program: data that came in of a canonical machine for the model's own code, proved: what it comes to is what every run comes to. -/
import Derived.Test.YtcmaipijkjillaaDoorGf
import Derived.ChangeArms
import Derived.DataReads
import Derived.OpenShut
import Derived.LaidMore
import Derived.ChangeOld
import Derived.Carry
import Derived.ProofKit
import Derived.Deep.Slices
import Derived.Stop.Joined
set_option linter.unusedVariables false
set_option linter.unusedSimpArgs false
set_option linter.unusedSectionVars false

namespace Go.AM
open Go.RowKit (Below)

/-! Data that came in: what a list of cells of the machine's memory stands for. -/

structure Enc (α:Type) where
  sz:Nat
  At:Heap → α → List Value → Prop
  len:∀ {H x cs},At H x cs → cs.length = sz
  keep:∀ {H H' x cs},Keep H H' → At H x cs → At H' x cs

def Imp {α:Type} (P:Program) (t:TypeId) (E:Enc α):Prop:=
  ∀ {X:Type} (enc:TypeId × Value → X) (W:World) (fuel:Nat) (cs:List Value) (x:DataW X × List MemPlace),DataW.trod enc P W 0 (fun _ => true) true fuel t cs = some x →
    ∀ (n0:Nat) (m:Map) (H:Heap),Ins P n0 m H W → ∃ d m' H' cs',Ins P n0 m' H' W ∧ m.le m' ∧ Keep H H' ∧ VRs m' cs' cs ∧ E.At H' d cs'

def intE (k:IntKind):Enc Int where
  sz:=1
  At:=fun _ z cs => cs = [.int k z] ∧ k.min ≤ z ∧ z ≤ k.max
  len:=fun h => by rw [h.1]; rfl
  keep:=fun _ h => h

theorem intE_imp {P:Program} {t:TypeId} {k:IntKind} (ht:P.underlying t = some (.int k)):Imp P t (intE k):=by
  intro X enc W fuel cs x h n0 m H hI;obtain ⟨n,rfl,_,hw⟩:=DataW.trod_int ht h;simp only [Lit.wf,Bool.and_eq_true,decide_eq_true_eq] at hw;exact ⟨n,m,H,_,hI,Map.le_refl _,Keep.refl _,.cons (.plain rfl) .nil,rfl,hw.1,hw.2⟩

def boolE:Enc Bool where
  sz:=1
  At:=fun _ b cs => cs = [.bool b]
  len:=fun h => by rw [h]; rfl
  keep:=fun _ h => h
def strE:Enc ByteArray where
  sz:=1
  At:=fun _ s cs => cs = [.string s] ∧ s.size ≤ Go.maxLen
  len:=fun h => by rw [h.1]; rfl
  keep:=fun _ h => h
structure SlE {α:Type} [Inhabited α] (E:Enc α) (H:Heap) (v:Value) (xs:List α) (r o:Nat):Prop where
  isv:∃ a cap,v = .slice a xs.length cap ∧ (0 < xs.length → a = some ⟨r,o,none⟩)
  rd:∀ i,i < xs.length → ∃ es,H.read r (o + i * E.sz) E.sz = some es ∧ E.At H (xs.getD i default) es
  lt:0 < xs.length → r < H.size
  ml:xs.length ≤ Go.maxLen

theorem SlE.keep {α:Type} [Inhabited α] {E:Enc α} {H H':Heap} {v:Value} {xs:List α} {r o:Nat} (h:SlE E H v xs r o) (hk:Keep H H'):SlE E H' v xs r o where
  isv:=h.isv
  rd:=fun i hi => by
    obtain ⟨es,h1,h2⟩:=h.rd i hi;exact ⟨es,hk.read (h.lt (by omega)) h1,E.keep hk h2⟩
  lt:=fun h0 => Nat.lt_of_lt_of_le (h.lt h0) hk.size
  ml:=h.ml

def sliceE {α:Type} [Inhabited α] (E:Enc α):Enc (List α) where
  sz:=1
  At:=fun H xs cs => ∃ v r o,cs = [v] ∧ SlE E H v xs r o
  len:=fun h => by obtain ⟨v,r,o,rfl,_⟩:=h; rfl
  keep:=fun hk h => by obtain ⟨v,r,o,rfl,h⟩:=h; exact ⟨v,r,o,rfl,h.keep hk⟩

theorem read_add_row {H:Heap} {row:Row} (hx:row.exact = true) (hl:row.loop = none) {o n:Nat} (h:o + n ≤ row.cells.length):(H.add row).read H.size o n = some ((row.cells.drop o).take n):=by
  unfold Heap.read;rw [Heap.add_get,if_pos rfl];simp only [];rw [show (H.add row).alive H.size row = true by unfold Heap.alive; rw [hx,hl]; rfl,show Nat.ble (o + n) row.cells.length = true from Nat.ble_eq_true_of_le h]
  rfl

def SlX (H:Heap) (v:Value):Prop:=∀ a n c,v = .slice a n c → n ≤ c ∧ (0 < n → ∃ r o row,a = some ⟨r,o,none⟩ ∧ r < H.size ∧ H.rows.get r = some row ∧ row.exact = true)
theorem SlX.keep {H H':Heap} {v:Value} (h:SlX H v) (hk:Keep H H'):SlX H' v:=fun a n c e => by
  obtain ⟨h1,h2⟩:=h a n c e;refine ⟨h1,fun h0 => ?_⟩
  obtain ⟨r,o,row,e1,e2,e3,e4⟩:=h2 h0;exact ⟨r,o,row,e1,Nat.lt_of_lt_of_le e2 hk.size,(hk.row r row e2 e3).1,e4⟩
theorem SlX.zero {H:Heap} {a:Option Addr} {c:Nat}:SlX H (.slice a 0 c):=fun a n c e => by
  cases e; exact ⟨Nat.zero_le _,fun h => absurd h (Nat.lt_irrefl 0)⟩
def sliceX {α:Type} [Inhabited α] (E:Enc α):Enc (List α) where
  sz:=1
  At:=fun H xs cs => ∃ v r o,cs = [v] ∧ SlE E H v xs r o ∧ SlX H v
  len:=fun h => by obtain ⟨v,r,o,rfl,_⟩:=h; rfl
  keep:=fun hk h => by obtain ⟨v,r,o,rfl,h,h2⟩:=h; exact ⟨v,r,o,rfl,h.keep hk,h2.keep hk⟩

def Plain0 (v:Value):Prop:=∀ a n c,v = .slice (some a) n c → a.spot = none ∨ (n = 0 ∧ c = 0)
def slice0 {α:Type} [Inhabited α] (E:Enc α):Enc (List α) where
  sz:=1
  At:=fun H xs cs => ∃ v r o,cs = [v] ∧ SlE E H v xs r o ∧ SlX H v ∧ Plain0 v
  len:=fun h => by obtain ⟨v,r,o,rfl,_⟩:=h; rfl
  keep:=fun hk h => by obtain ⟨v,r,o,rfl,h,h2,h3⟩:=h; exact ⟨v,r,o,rfl,h.keep hk,h2.keep hk,h3⟩
theorem slice0_imp {α:Type} [Inhabited α] {P:Program} {t e:TypeId} {E:Enc α} (hE:Imp P e E) (ht:P.underlying t = some (.slice e)) (hsz:P.cellsOf e = E.sz) (h0:0 < E.sz):Imp P t (slice0 E):=by
  intro X enc W fuel cs x h n0 m H hI;rcases DataW.trod_slice ht h with ⟨rfl,_⟩ | ⟨a,len,cap,elems,rest,n,_,rfl,_,_,hle,hml,hlen,hel,hsp,_⟩
  · exact ⟨[],m,H,_,hI,Map.le_refl _,Keep.refl _,.cons (.plain rfl) .nil,_,0,0,rfl,⟨⟨none,0,rfl,fun h => absurd h (Nat.lt_irrefl 0)⟩,fun i hi => absurd hi (Nat.not_lt_zero i),fun h => absurd h (Nat.lt_irrefl 0),Nat.zero_le _⟩,SlX.zero,fun a n c e => by cases e⟩
  rw [hsz] at hel hsp;rcases Nat.eq_zero_or_pos cap with hc0 | hc0
  · subst hc0;obtain rfl:len = 0:=by omega
    exact ⟨[],m,H,[.slice (some ⟨0,0,some 0⟩) 0 0],hI,Map.le_refl _,Keep.refl _,.cons .sliceZ .nil,_,0,0,rfl,⟨⟨_,0,rfl,fun h => absurd h (Nat.lt_irrefl 0)⟩,fun i hi => absurd hi (Nat.not_lt_zero i),fun h => absurd h (Nat.lt_irrefl 0),Nat.zero_le _⟩,SlX.zero,fun a n c e => by cases e; exact .inr ⟨rfl,rfl⟩⟩
  obtain ⟨b,off,sp⟩:=a;have hcell:∀ i,i < cap → ∃ es,W.cells? 0 (Addr.add ⟨b,off,sp⟩ (i * E.sz)) E.sz = some es ∧ (i < len → ∃ y,DataW.trod enc P W 0 (fun _ => true) true n e es = some y):=by
    intro i hi
    by_cases hil:i < len
    · have h1:=hel i hil;rw [List.getElem?_eq_getElem (by omega)] at h1
      obtain ⟨es,h2,h3⟩:=Option.bind_eq_some_iff.1 h1;exact ⟨es,h2,fun _ => ⟨_,h3⟩⟩
    · obtain ⟨hrl,hr⟩:=hsp rfl;have h1:=hr (i - len) (by omega)
      rw [List.getElem?_eq_getElem (by omega),show len + (i - len) = i by omega] at h1
      obtain ⟨es,h2,h3⟩:=Option.bind_eq_some_iff.1 h1;exact ⟨es,h2,fun h => absurd h hil⟩
  obtain ⟨es0,hes0,_⟩:=hcell 0 hc0;obtain ⟨_,_,hc00⟩:=World.cells?_some hes0;have hfirst:=hc00 0 h0;have hsome0:∃ v,W.cell? ((Addr.add ⟨b,off,sp⟩ (0 * E.sz)).add 0) = some v:=by
    rw [hfirst,List.getElem?_eq_getElem (by have:=(World.cells?_some hes0).2.1; omega)]; exact ⟨_,rfl⟩
  obtain ⟨v0,hv0⟩:=hsome0;have hspn:sp = none:=by simpa [Addr.add] using World.cell?_spot hv0
  subst hspn;obtain ⟨bc,bt,bfz,hb,_⟩:=cell_block (o:=off) (by simpa [Addr.add] using hv0)
  have hat:∀ i es,i < cap → W.cells? 0 (Addr.add ⟨b,off,none⟩ (i * E.sz)) E.sz = some es → ∀ k,k < E.sz → bc[off + i * E.sz + k]? = es[k]?:=by
    intro i es hi hes k hk;obtain ⟨_,hl,hg⟩:=World.cells?_some hes;have h1:=hg k hk;rw [List.getElem?_eq_getElem (by omega)] at h1 ⊢
    rw [addr_add,addr_add] at h1;obtain ⟨cs',t',fz',hb',h'⟩:=cell_block h1;rw [hb] at hb'; cases hb'; exact h'
  have hind:∀ c,c ≤ len → ∃ (ds:List α) (m':Map) (H':Heap) (cells:List Value),ds.length = c ∧ Ins P n0 m' H' W ∧ m.le m' ∧ Keep H H' ∧ cells.length = c * E.sz ∧
      (∀ (j:Nat) (v:Value),cells[j]? = some v → ∃ v',bc[off + j]? = some v' ∧ VR m' v v') ∧ ∀ i,i < c → E.At H' (ds.getD i default) ((cells.drop (i * E.sz)).take E.sz):=by
    intro c
    induction c with
    | zero => exact fun _ => ⟨[],m,H,[],rfl,hI,Map.le_refl _,Keep.refl _,by simp,fun j v hj => by simp at hj,fun i hi => absurd hi (Nat.not_lt_zero i)⟩
    | succ c ih =>
      intro hc;obtain ⟨ds,m1,H1,cells,hdl,hI1,hm1,hk1,hcl,hcv,hA⟩:=ih (by omega)
      obtain ⟨es,hes,hy⟩:=hcell c (by omega)
      obtain ⟨y,hy⟩:=hy (by omega)
      obtain ⟨d,m2,H2,cs2,hI2,hm2,hk2,hvr,hA2⟩:=hE enc W n es y hy n0 m1 H1 hI1;have hl2:cs2.length = E.sz:=E.len hA2;refine ⟨ds ++ [d],m2,H2,cells ++ cs2,by simp [hdl],hI2,Map.le_trans hm1 hm2,hk1.trans hk2,by rw [List.length_append,hcl,hl2,Nat.succ_mul],?_,?_⟩
      · intro j v hj
        by_cases hjl:j < cells.length
        · rw [List.getElem?_append_left hjl] at hj;obtain ⟨v',h1,h2⟩:=hcv j v hj;exact ⟨v',h1,h2.mono hm2⟩
        · rw [List.getElem?_append_right (by omega)] at hj
          obtain ⟨v',h1,h2⟩:=hvr.get _ v hj;have hjb:j - cells.length < E.sz:=by
            have:=(List.getElem?_eq_some_iff.1 hj).1; omega
          refine ⟨v',?_,h2⟩;have h3:=hat c es (by omega) hes (j - cells.length) hjb
          rw [h1] at h3;rw [← h3];congr 1; omega
      · intro i hi
        by_cases hic:i < c
        · have h1:=E.keep hk2 (hA i hic);have hmul:i * E.sz + E.sz ≤ c * E.sz:=by rw [← Nat.succ_mul]; exact Nat.mul_le_mul_right _ hic
          rw [List.drop_append_of_le_length (by omega),List.take_append_of_le_length (by rw [List.length_drop]; omega)]
          rw [List.getD_eq_getElem?_getD,List.getElem?_append_left (by omega),← List.getD_eq_getElem?_getD]
          exact h1
        · obtain rfl:i = c:=by omega
          rw [← hcl,List.drop_left,← hl2,List.take_length,List.getD_eq_getElem?_getD,List.getElem?_append_right (by omega),hdl,Nat.sub_self]
          exact hA2
  obtain ⟨ds,m1,H1,cells,hdl,hI1,hm1,hk1,hcl,hcv,hA⟩:=hind len (Nat.le_refl _);have hbound:off + cells.length ≤ bc.size:=by
    obtain ⟨esl,hesl,_⟩:=hcell (cap - 1) (by omega)
    have hlesl:=(World.cells?_some hesl).2.1;have h1:=hat (cap - 1) esl (by omega) hesl (E.sz - 1) (by omega)
    rw [List.getElem?_eq_getElem (by omega)] at h1
    have h2:=(Array.getElem?_eq_some_iff.1 h1).1;have h3:len * E.sz ≤ cap * E.sz:=Nat.mul_le_mul_right _ hle;have h4:(cap - 1) * E.sz + E.sz = cap * E.sz:=by rw [← Nat.succ_mul]; congr 1; omega
    omega
  have hkr:Keep H1 (H1.add { cells:=cells,elem:=bt,exact:=true,ro:=true,esz:=0,grp:=2 * H1.size,gpos:=0 }):=Keep.addRow H1 _ rfl;refine ⟨ds,_,_,[.slice (some ⟨H1.size,0,none⟩) len cap],hI1.add (sh:=off) (cells:=cells) hb hbound hcv,Map.le_trans hm1 (Map.le_put hI1.hr.none),hk1.trans hkr,?_,_,H1.size,0,rfl,?_⟩
  · exact .cons (.sliceE (rm:=⟨b,off,bc.size,0,true,true⟩) (Map.put_same _ _ _) rfl) .nil
  · refine ⟨⟨⟨_,cap,by rw [hdl],fun _ => rfl⟩,fun i hi => ?_,fun _ => by rw [Heap.add_size]; omega,by omega⟩,fun a n c e => ?_,fun a n c e => by cases e; exact .inl rfl⟩
    case refine_2 =>
      cases e;exact ⟨by omega,fun _ => ⟨H1.size,0,_,rfl,by rw [Heap.add_size]; omega,by rw [Heap.add_get,if_pos rfl],rfl⟩⟩
    rw [hdl] at hi;have hmul:i * E.sz + E.sz ≤ len * E.sz:=by rw [← Nat.succ_mul]; exact Nat.mul_le_mul_right _ hi
    refine ⟨_,read_add_row (row:={ cells:=cells,elem:=bt,exact:=true,ro:=true,esz:=0,grp:=2 * H1.size,gpos:=0 }) rfl rfl (by simp only []; omega),?_⟩
    have h1:=E.keep hkr (hA i hi);rwa [← Nat.zero_add (i * E.sz)] at h1

theorem sliceX_imp {α:Type} [Inhabited α] {P:Program} {t e:TypeId} {E:Enc α} (hE:Imp P e E) (ht:P.underlying t = some (.slice e)) (hsz:P.cellsOf e = E.sz) (h0:0 < E.sz):Imp P t (sliceX E):=by
  intro X enc W fuel cs x h n0 m H hI;obtain ⟨d,m',H',cs',h1,h2,h3,h4,v,r,o,h5,h6,h7,_⟩:=slice0_imp hE ht hsz h0 enc W fuel cs x h n0 m H hI;exact ⟨d,m',H',cs',h1,h2,h3,h4,v,r,o,h5,h6,h7⟩

theorem sliceE_imp {α:Type} [Inhabited α] {P:Program} {t e:TypeId} {E:Enc α} (hE:Imp P e E) (ht:P.underlying t = some (.slice e)) (hsz:P.cellsOf e = E.sz) (h0:0 < E.sz):Imp P t (sliceE E):=by
  intro X enc W fuel cs x h n0 m H hI;obtain ⟨d,m',H',cs',h1,h2,h3,h4,v,r,o,h5,h6,_⟩:=sliceX_imp hE ht hsz h0 enc W fuel cs x h n0 m H hI;exact ⟨d,m',H',cs',h1,h2,h3,h4,v,r,o,h5,h6⟩

theorem SlE.part {α:Type} [Inhabited α] {E:Enc α} {P:Program} {t e:TypeId} {i:TypeInfo} (ht:P.underlying t = some (.slice e)) (hi:P.info? e = some i) (hsz:i.size = E.sz) {H:Heap} {a:Option Addr} {n c:Nat} {xs:List α} {r o:Nat}
    (h:SlE E H (.slice a n c) xs r o) (hx:SlX H (.slice a n c)) {lo up:Nat} (h1:lo < up) (h2:up ≤ xs.length) {k k':IntKind} :
    ∃ a' c',aSlice P H t (.slice a n c) (some (.int k lo)) (some (.int k' up)) none = some (.slice a' (up - lo) c') ∧ SlE E H (.slice a' (up - lo) c') ((xs.drop lo).take (up - lo)) r (o + lo * E.sz) ∧ SlX H (.slice a' (up - lo) c'):=by
  obtain ⟨a1,cap,e1,e2⟩:=h.isv;cases e1;obtain ⟨hnc,h4⟩:=hx _ _ _ rfl;obtain ⟨r1,o1,row,e3,e4,e5,e6⟩:=h4 (by omega)
  rw [e2 (by omega)] at e3 ⊢
  cases e3;have hb:aBounds xs.length c (some (.int k lo)) (some (.int k' up)) none = some (lo,up,c):=by
    unfold aBounds aBound;have g1:(0:Int) ≤ (up:Int) ∧ (up:Int) ≤ (c:Int):=by omega
    have g2:(0:Int) ≤ (lo:Int) ∧ (lo:Int) ≤ (up:Int):=by omega
    simp [g1,g2]
  have hlen:((xs.drop lo).take (up - lo)).length = up - lo:=by rw [List.length_take,List.length_drop]; omega
  refine ⟨some ⟨r,o + lo * E.sz,none⟩,c - lo,?_,⟨⟨_,_,by rw [hlen],fun _ => rfl⟩,fun j hj => ?_,fun _ => e4,by rw [hlen]; have:=h.ml; omega⟩,fun a2 n2 c2 e => ?_⟩
  · unfold aSlice;rw [ht];simp only [];rw [hi,e5,hb];simp only [];have hq:Nat.beq c lo = false:=by
      cases hbq:Nat.beq c lo
      · rfl
      · exact absurd (Nat.eq_of_beq_eq_true hbq) (by omega)
    rw [show Nat.ble xs.length c = true from Nat.ble_eq_true_of_le hnc,e6,hq,hsz]
    rfl
  · rw [hlen] at hj;obtain ⟨es,g1,g2⟩:=h.rd (lo + j) (by omega)
    refine ⟨es,by rw [Nat.add_assoc,← Nat.add_mul]; exact g1,?_⟩
    have:((xs.drop lo).take (up - lo)).getD j default = xs.getD (lo + j) default:=by
      rw [List.getD_eq_getElem?_getD,List.getD_eq_getElem?_getD,List.getElem?_take,if_pos hj,List.getElem?_drop]
    rw [this]; exact g2
  · cases e;exact ⟨by omega,fun _ => ⟨r,_,row,rfl,e4,e5,e6⟩⟩

/-! Structs. -/
def prodE {α β:Type} (E:Enc α) (F:Enc β):Enc (α × β) where
  sz:=E.sz + F.sz
  At:=fun H x cs => ∃ c1 c2,cs = c1 ++ c2 ∧ E.At H x.1 c1 ∧ F.At H x.2 c2
  len:=fun h => by obtain ⟨c1,c2,rfl,h1,h2⟩:=h; rw [List.length_append,E.len h1,F.len h2]
  keep:=fun hk h => by obtain ⟨c1,c2,rfl,h1,h2⟩:=h; exact ⟨c1,c2,rfl,E.keep hk h1,F.keep hk h2⟩

def FImp {α:Type} (P:Program) (fs:List Field) (o:Nat) (E:Enc α):Prop:=
  ∀ {X:Type} (enc:TypeId × Value → X) (W:World) (fuel:Nat) (cs:List Value),(∀ (i:Nat) (f:Field),fs[i]? = some f → ∃ y,DataW.trod enc P W 0 (fun _ => true) true fuel f.type ((cs.drop f.offset).take (P.cellsOf f.type)) = some y) →
    ∀ (n0:Nat) (m:Map) (H:Heap),Ins P n0 m H W → ∃ d m' H' cs',Ins P n0 m' H' W ∧ m.le m' ∧ Keep H H' ∧ VRs m' cs' ((cs.drop o).take E.sz) ∧ E.At H' d cs'

theorem FImp.one {α:Type} {P:Program} {f:Field} {E:Enc α} (h:Imp P f.type E) (hs:P.cellsOf f.type = E.sz):FImp P [f] f.offset E:=by
  intro X enc W fuel cs hf n0 m H hI;obtain ⟨y,hy⟩:=hf 0 f rfl;rw [← hs];exact h enc W fuel _ y hy n0 m H hI

theorem FImp.cons {α β:Type} {P:Program} {f:Field} {fs:List Field} {o:Nat} {E:Enc α} {F:Enc β} (h:Imp P f.type E) (hs:P.cellsOf f.type = E.sz) (ho:o = f.offset + E.sz) (k:FImp P fs o F):FImp P (f :: fs) f.offset (prodE E F):=by
  intro X enc W fuel cs hf n0 m H hI;obtain ⟨y,hy⟩:=hf 0 f rfl;rw [hs] at hy;obtain ⟨d1,m1,H1,c1,hI1,hm1,hk1,hv1,hA1⟩:=h enc W fuel _ y hy n0 m H hI;obtain ⟨d2,m2,H2,c2,hI2,hm2,hk2,hv2,hA2⟩:=k enc W fuel cs (fun i g hg => hf (i + 1) g hg) n0 m1 H1 hI1
  refine ⟨(d1,d2),m2,H2,c1 ++ c2,hI2,Map.le_trans hm1 hm2,hk1.trans hk2,?_,c1,c2,rfl,E.keep hk2 hA1,hA2⟩;have h1:=(VRs.mono hm2 hv1).append hv2;subst ho;have he:(cs.drop f.offset).take (prodE E F).sz = (cs.drop f.offset).take E.sz ++ (cs.drop (f.offset + E.sz)).take F.sz:=by
    show (cs.drop f.offset).take (E.sz + F.sz) = _;rw [List.take_add,List.drop_drop]
  rw [he];exact h1

theorem structE_imp {α:Type} {P:Program} {t:TypeId} {fs:Array Field} {E:Enc α} (ht:P.underlying t = some (.struct fs)) (hs:P.cellsOf t = E.sz) (h:FImp P fs.toList 0 E):Imp P t E:=by
  intro X enc W fuel cs x hx n0 m H hI;obtain ⟨xs,n,_,_,hcl,hxl,hf⟩:=DataW.trod_struct ht hx
  have:=h enc W n cs (fun i f hif => by
    rw [Array.getElem?_toList] at hif;have h1:=hf i f hif;have hi:i < fs.size:=(Array.getElem?_eq_some_iff.1 hif).1;rw [List.getElem?_eq_getElem (by omega)] at h1
    exact ⟨_,h1⟩) n0 m H hI
  rwa [List.drop_zero,← hs,← hcl,List.take_length] at this

def mapE {α β:Type} (f:β → α) (E:Enc α):Enc β where
  sz:=E.sz
  At:=fun H x cs => E.At H (f x) cs
  len:=fun h => E.len h
  keep:=fun hk h => E.keep hk h
theorem mapE_imp {α β:Type} {P:Program} {t:TypeId} {E:Enc α} {f:β → α} (g:α → β) (hfg:∀ x,f (g x) = x) (h:Imp P t E):Imp P t (mapE f E):=by
  intro X enc W fuel cs x hx n0 m H hI;obtain ⟨d,m',H',cs',h1,h2,h3,h4,h5⟩:=h enc W fuel cs x hx n0 m H hI;exact ⟨g d,m',H',cs',h1,h2,h3,h4,by show E.At H' (f (g d)) cs'; rw [hfg]; exact h5⟩

theorem read_sub {H:Heap} {r o n:Nat} {l:List Value} (h:H.read r o n = some l) {j k:Nat} (hjk:j + k ≤ n):H.read r (o + j) k = some ((l.drop j).take k):=by
  obtain ⟨row,h1,h2,h3,h4⟩:=read_inv h;unfold Heap.read;rw [h1];simp only [];rw [h2,show Nat.ble (o + j + k) row.cells.length = true from Nat.ble_eq_true_of_le (by omega)]
  simp only [Bool.and_self,cond_true];rw [h4,List.drop_take,List.take_take,List.drop_drop,Nat.min_eq_left (by omega)]

theorem box1 (H:Heap) (l:List Value) (e:TypeId):∃ H1,H.newExact l e = H1 ∧ Keep H H1 ∧ H.size < H1.size ∧ H1.size = H.size + 1 ∧ ∀ o n,o + n ≤ l.length → H1.read H.size o n = some ((l.drop o).take n):=
  ⟨_,rfl,Keep.newExact _ _ _,by rw [size_new]; omega,size_new _ _ _,fun o n h => by rw [read_new,if_pos h]⟩

theorem Keep.relowS (H:Heap):Keep H (H.relow H.size) where
  size:=Nat.le_refl _
  low:=fun _ => Nat.le_refl _
  lo:=Nat.min_le_right _ _
  row:=fun _ _ _ h => ⟨h,rfl⟩
  grp:=fun g => g
  mem:=fun _ _ => rfl
theorem Keep.draw {H H':Heap} (h:Keep (H.relow H.size) H'):Keep H (H'.relow (Nat.min H.low H'.low)) where
  size:=h.size
  low:=fun hl => by
    have h1:=h.low (Nat.le_refl _);show Nat.min H.low H'.low ≤ H'.size;exact Nat.le_trans (Nat.min_le_right _ _) h1
  lo:=by
    have h1:min H.size H.size ≤ H'.low:=h.lo;show min H.low H.size ≤ min H.low H'.low;omega
  row:=fun r row hr hrow => h.row r row hr hrow
  grp:=fun g => h.grp g
  mem:=fun g hg => h.mem g hg
theorem Keep.lower {H0 H H5:Heap} (h:Keep H0 H) (k:Keep H0 H5):Keep H0 (H5.relow (Nat.min H.low H5.low)) where
  size:=k.size
  low:=fun hl => Nat.le_trans (Nat.min_le_right _ _) (k.low hl)
  lo:=Nat.le_min.2 ⟨h.lo,k.lo⟩
  row:=fun r row hr hrow => k.row r row hr hrow
  grp:=fun g => k.grp g
  mem:=fun g hg => k.mem g hg
theorem sxD_keep {all:List Oper} {n:Nat} {H H':Heap} (h:Keep (H.relow H.size) H') (k:Heap → Prop):sxD all n H H' k = k (H'.relow (Nat.min H.low H'.low)):=by
  unfold sxD;have h1:min H.size H.size ≤ H'.low:=h.lo;rw [Nat.min_self] at h1;simp [h1]

/-! Integers side by side,and words for what a call says. -/
abbrev SlI (k:IntKind) (H:Heap) (v:Value) (w:List Int) (r o:Nat):Prop:=SlE (intE k) H v w r o
theorem SlE.rdI {k:IntKind} {H:Heap} {v:Value} {w:List Int} {r o:Nat} (h:SlI k H v w r o) {i:Nat} (h1:i < w.length) :
    H.read r (o + i) 1 = some [.int k (w.getD i 0)] ∧ k.min ≤ w.getD i 0 ∧ w.getD i 0 ≤ k.max:=by
  obtain ⟨es,h2,h3,h4⟩:=h.rd i h1;rw [show o + i * (intE k).sz = o + i from by show o + i * 1 = _; omega,h3] at h2
  exact ⟨h2,h4⟩
theorem SlE.v0 {α:Type} [Inhabited α] {E:Enc α} {H:Heap} {v:Value} {xs:List α} {r o:Nat} (h:SlE E H v xs r o):∃ a cap,v = .slice a xs.length cap:=by
  obtain ⟨a,cap,rfl,_⟩:=h.isv; exact ⟨a,cap,rfl⟩

theorem getD_mem {α:Type} {l:List α} {k:Nat} {d:α} (h:k < l.length):l.getD k d ∈ l:=by
  rw [List.getD_eq_getElem?_getD,List.getElem?_eq_getElem h]; exact List.getElem_mem h
theorem all_of {α:Type} {l:List α} {d:α} {p:α → Prop} (h:∀ j,j < l.length → p (l.getD j d)):∀ x ∈ l,p x:=fun x hx => by
  obtain ⟨j,hj,rfl⟩:=List.getElem_of_mem hx;have:=h j hj;rwa [List.getD_eq_getElem?_getD,List.getElem?_eq_getElem hj] at this
theorem bool_f {p:Prop} [Decidable p] (h:¬ p):Value.bool false = .bool (decide p):=by rw [decide_eq_false h]
theorem bool_t {p:Prop} [Decidable p] (h:p):Value.bool true = .bool (decide p):=by rw [decide_eq_true h]
theorem bool_d {p q:Prop} [Decidable p] [Decidable q] (h:q ↔ p):Value.bool (decide q) = .bool (decide p):=by rw [decide_eq_decide.2 h]
theorem wrap_succ {k n:Nat} (hk:k < n) (hn:n ≤ Go.maxLen):IntKind.i64.wrap ((k:Int) + 1) = ((k + 1:Nat):Int):=by
  have:Go.maxLen = 9223372036854775807:=rfl;rw [IntWalk.i64_in _ (by omega)]; simp

end Go.AM

namespace Go.AM
open Go Go.ChangeShapes Go.WideShapes Go.ChangeAt Go.RowKit Go.Deep

theorem var_block {P:Program} {W:World} {n:String} {g:Nat} {cs:Array Value} (hg:P.globalNamed n = some g) (h:W.var? P n = some cs):∃ t fz,W.heap[g]? = some (.cells cs t fz):=by
  simp only [World.var?,hg,Option.bind_some] at h;split at h
  · rename_i c t fz hb; cases h; exact ⟨t,fz,hb⟩
  · cases h

theorem Ins.addPlain {P:Program} {n0:Nat} {m:Map} {H:Heap} {W:World} (h:Ins P n0 m H W) {b:Nat} {cells:List Value} {t:TypeId} {fz:Nat × Nat} (hb:W.heap[b]? = some (.cells ⟨cells⟩ t fz)) (hp:plains cells = true) :
    Ins P n0 (m.put H.size ⟨b,0,cells.length,0,true,true⟩) (H.add { cells:=cells,elem:=t,exact:=true,ro:=true,esz:=0,grp:=2 * H.size,gpos:=0 }) W:=by
  have:=h.add (sh:=0) (cells:=cells) hb (by simp) (fun j v hj => ⟨v,by simpa using hj,by
    have hv:=VRs.of_plain (m:=m) hp;obtain ⟨v',h1,h2⟩:=hv.get j v hj;rw [hj] at h1; cases h1
    exact h2⟩)
  exact this

theorem Ins.empty {P:Program} (W:World):Ins P W.heap.size (fun _ => none) emptyH W:=
  ⟨empty_hr W,(fun r rm h => by cases h),Nat.le_refl _,⟨(fun r x h => by unfold emptyH at h; cases h),(fun g q h => by unfold emptyH at h; cases h)⟩⟩

theorem Imp.arg {α:Type} {P:Program} {t:TypeId} {E:Enc α} (hE:Imp P t E) {X:Type} {enc:TypeId × Value → X} {W:World} {v:Value} {x:DataW X} {p:List MemPlace} (h:DataW.Trod enc P W 0 (fun _ => true) true t v x p) (hv:v.cells.toList = [v])
    {n0:Nat} {m:Map} {H:Heap} (hI:Ins P n0 m H W):∃ d m' H' v',Ins P n0 m' H' W ∧ m.le m' ∧ Keep H H' ∧ VR m' v' v ∧ E.At H' d [v']:=by
  obtain ⟨fuel,h⟩:=h;rw [hv] at h;obtain ⟨d,m',H',cs',h1,h2,h3,h4,h5⟩:=hE enc W fuel _ _ h n0 m H hI;cases h4 with
  | cons a b => cases b; exact ⟨d,m',H',_,h1,h2,h3,a,h5⟩
end Go.AM
