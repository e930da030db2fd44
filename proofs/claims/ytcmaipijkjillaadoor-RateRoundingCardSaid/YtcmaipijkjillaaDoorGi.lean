/- A general tool, which names no program: known calls of a canonical machine for the model's own code, proved: what it comes to is what every run comes to. -/
import Derived.Test.YtcmaipijkjillaaDoorGh
set_option linter.unusedVariables false
set_option linter.unusedSimpArgs false
set_option linter.unusedSectionVars false

namespace Go.AM
open Go.RowKit (Below)

variable {P:Program} {n0:Nat}

/-! The machine beside what is known already: closed calls that answer true and leave everything as it was. -/

structure Sys where
  G:Nat
  O:FuncId → List Value → Heap → Prop

open Classical in
noncomputable def oCallN (P:Program) (S:Sys) (D:Nat):Nat → CallF
  | 0,_,_,_ => none
  | d + 1,.fn f,args,H => if S.O f args H then some (.bool true,H) else aFun P (oCallN P S D d) D f args H
  | d + 1,.rnd l,args,H => aRound P S.G (oCallN P S D d) D l args H

def OrcOk (P:Program) (S:Sys):Prop:=∀ f args H,S.O f args H → EnterOk P f ∧ ∀ n0 m w (args':List Value),HR n0 m H w → Glob m S.G → VRs m args args' →
  Calls P f args'.toArray w fun e w' => e = .returned (.bool true) ∧ Below w.heap.size w w'

theorem Ext.still {m:Map} {H:Heap} {w w':World} (h:HR n0 m H w) (hb:Below w.heap.size w w'):Ext n0 m H w m H w' where
  mono:=Map.le_refl _
  hr:=h.world hb.block hb.size
  below:=hb.mono h.base
  fr:=fun b hb' _ => hb.block b hb'
  new:=fun r rm hr => .inl hr
  loops:=fun b L hL => ⟨L,by rw [hb.block b (Array.getElem?_eq_some_iff.1 hL).1]; exact hL⟩

open Classical in
theorem oCallN_ok {S:Sys} (hp:okProg P S.G = true) (hmix:P.follows .mixedOrders = true) (hO:OrcOk P S) (D:Nat):∀ d,CallOk P S.G (oCallN P S D d)
  | 0 => ⟨fun t args H v H' h => by simp [oCallN] at h,fun f args H v H' h => by simp [oCallN] at h,fun f args H v H' h => by simp [oCallN] at h,fun f args H v H' h => by simp [oCallN] at h⟩
  | d + 1 => by
    have ih:=oCallN_ok hp hmix hO D d;have hfn:∀ f args H,oCallN P S D (d + 1) (.fn f) args H = if S.O f args H then some (.bool true,H) else aFun P (oCallN P S D d) D f args H:=fun _ _ _ => rfl
    refine ⟨fun t args H v H' h hi => ?_,fun f args H v H' h => ?_,fun f args H v H' h hE n0 m w args' hHR hG hargs => ?_,fun l args H v H' h n0 m w args' rm hHR hG hargs hm => ?_⟩
    · cases t with
      | fn f =>
        rw [hfn] at h;split at h
        · cases h; exact HGo.refl hi
        · exact aFun_go hp hmix ih h hi
      | rnd l =>
        obtain ⟨S⟩:=aRound_steps h;exact S.go ih hmix hi
    · rw [hfn] at h;split at h
      · rename_i ho; exact .inl (hO f args H ho).1
      · exact aFun_enter hp h
    · rw [hfn] at h;split at h
      · rename_i ho;cases h;refine ((hO f args H ho).2 n0 m w args' hHR hG hargs).mono ?_
        rintro e w' ⟨rfl,hb⟩;exact ⟨_,m,rfl,Ext.still hHR hb,.plain rfl⟩
      · exact aFun_goes hp hmix ih h hE hHR hG hargs
    · obtain ⟨S⟩:=aRound_steps h;exact S.sound ih hmix hHR hG hargs hm

structure GlobH (G:Nat) (H0:Heap):Prop where
  size:H0.size = G
  rows:∀ g x,H0.rows.get g = some x → g < G ∧ x.exact = true ∧ x.ro = true ∧ x.loop = none ∧ plains x.cells = true
  all:∀ g,g < G → ∃ x,H0.rows.get g = some x

theorem GlobH.hr {G:Nat} {H0:Heap} (h0:GlobH G H0) {m:Map} {H:Heap} {w:World} (h:HR n0 m H w) (hG:Glob m G) (hrows:∀ g x,H0.rows.get g = some x → H.rows.get g = some x) :
    HR w.heap.size (fun g => if g < G then m g else none) H0 w ∧ Glob (fun g => if g < G then m g else none) G:=by
  refine ⟨⟨Nat.le_refl _,fun r rm hr => ?_,fun r r' rm rm' x x' hr hr' hx hx' he => ?_,fun r x hx => ?_⟩,fun g hg => ?_⟩
  · have hr:(if r < G then m r else none) = some rm:=hr
    split at hr
    case isFalse => cases hr
    rename_i hrG;obtain ⟨x,hx⟩:=h0.all r hrG;obtain ⟨_,he,hro,hl,hp⟩:=h0.rows r x hx;have hf:=h.rowOf hr (hrows r x hx);refine ⟨x,hx,by rw [h0.size]; exact hrG,hf.ex,hf.es,hf.ro,hf.grpE,hf.grpL,hf.grpB,hf.roE,fun hc => (by rw [hro] at hc; cases hc),?_⟩
    rcases hf.blk with ⟨_,cs,fz,hb,h1,h2,h3,h4⟩ | ⟨lr,_,_,_,h1,_⟩ | ⟨_,_,h1,_⟩
    · refine .inl ⟨hl,cs,fz,hb,h1,h2,h3,fun _ j v hj => ?_⟩
      obtain ⟨v',hv',hvr⟩:=h4 (by unfold Heap.alive; rw [hl]; simp [he]) j v hj
      have hpv:plain v = true:=plains_mem hp v (List.mem_of_getElem? hj);rw [hvr.eq_of_plain hpv] at hv';exact ⟨v,hv',.plain hpv⟩
    · rw [hl] at h1; cases h1
    · rw [hl] at h1; cases h1
  · have hr:(if r < G then m r else none) = some rm:=hr
    have hr':(if r' < G then m r' else none) = some rm':=hr'
    split at hr
    case isFalse => cases hr
    split at hr'
    case isFalse => cases hr'
    exact h.apart r r' rm rm' x x' hr hr' (hrows r x hx) (hrows r' x' hx') he
  · obtain ⟨h1,h2,_⟩:=h0.rows r x hx;exact ⟨.inl h2,by rw [h0.size]; exact h1⟩
  · obtain ⟨rm,h1,h2⟩:=hG g hg;exact ⟨rm,by simp only [hg,if_true]; exact h1,h2⟩

theorem orc_closed {G:Nat} (hp:okProg P G = true) (hmix:P.follows .mixedOrders = true) {H0:Heap} (h0:GlobH G H0) {D d:Nat} {f:FuncId} (e:comesTo P G D d f [] H0 isTrue = true)
    (hE:EnterOk P f) {m:Map} {H:Heap} {w:World} (h:HR n0 m H w) (hG:Glob m G) (hrows:∀ g x,H0.rows.get g = some x → H.rows.get g = some x) :
    Calls P f #[] w fun e w' => e = .returned (.bool true) ∧ Below w.heap.size w w':=by
  obtain ⟨h1,h2⟩:=h0.hr h hG hrows;exact calls_true hp hmix e rfl hE h1 h2

def closedS (G:Nat) (f0:FuncId) (H0:Heap):Sys:={ G:=G,O:=fun f args H => f = f0 ∧ args = [] ∧ ∀ g x,H0.rows.get g = some x → H.rows.get g = some x }

theorem closedS_ok {G:Nat} (hp:okProg P G = true) (hmix:P.follows .mixedOrders = true) {H0:Heap} (h0:GlobH G H0) {D d:Nat} {f:FuncId} (e:comesTo P G D d f [] H0 isTrue = true) (he:EnterOk P f) :
    OrcOk P (closedS G f H0):=by
  rintro f' args H ⟨rfl,rfl,hrows⟩;refine ⟨he,fun n0 m w args' hHR hG hargs => ?_⟩
  cases hargs;exact orc_closed hp hmix h0 e he hHR hG hrows

theorem HR.addRo {m:Map} {H:Heap} {w:World} (h:HR n0 m H w) (hro:∀ r rm,m r = some rm → rm.ro = true) {b sh:Nat} {cs:Array Value} {t:TypeId} {fz:Nat × Nat} (hb:w.heap[b]? = some (.cells cs t fz))
    {cells:List Value} (hlen:sh + cells.length ≤ cs.size) (hv:∀ (j:Nat) (v:Value),cells[j]? = some v → ∃ v',cs[sh + j]? = some v' ∧ VR m v v') :
    HR n0 (m.put H.size ⟨b,sh,cs.size,0,true,true⟩) (H.add { cells:=cells,elem:=t,exact:=true,ro:=true,esz:=0,grp:=2 * H.size,gpos:=0 }) w:=by
  have hnone:m H.size = Option.none:=h.none;have hle:m.le (m.put H.size ⟨b,sh,cs.size,0,true,true⟩):=Map.le_put hnone;have hfit:∀ r rm,m r = some rm → ∃ row,H.rows.get r = some row ∧ r < H.size ∧ r ≠ H.size:=fun r rm hr => by
    obtain ⟨row,h1,h2,_⟩:=h.row r rm hr;exact ⟨row,h1,h2,by omega⟩
  have hal:∀ r x,(H.add { cells:=cells,elem:=t,exact:=true,ro:=true,esz:=0,grp:=2 * H.size,gpos:=0 }).alive r x = H.alive r x:=fun r x => by
    unfold Heap.alive; rw [Heap.add_grps]; rfl
  refine ⟨h.base,fun r rm hr => ?_,fun r r' rm rm' x x' hr hr' hx hx' he => ?_,fun r x hx => ?_⟩
  · rcases Map.put_inv hr with ⟨rfl,rfl⟩ | ⟨hne,hr⟩
    · refine ⟨{ cells:=cells,elem:=t,exact:=true,ro:=true,esz:=0,grp:=2 * H.size,gpos:=0 },by rw [Heap.add_get,if_pos rfl],by rw [Heap.add_size]; omega,?_⟩
      refine ⟨rfl,rfl,rfl,fun _ => rfl,fun hc => (by cases hc),(show 2 * H.size ≤ 2 * H.size + 1 by omega),fun _ => rfl,fun hc => (by cases hc),?_⟩
      refine .inl ⟨rfl,cs,fz,hb,fun hc => (by cases hc),rfl,hlen,fun _ j v hj => ?_⟩
      obtain ⟨v',h1,h2⟩:=hv j v hj;exact ⟨v',h1,h2.mono hle⟩
    · obtain ⟨row,h1,h2,hf⟩:=h.row r rm hr;refine ⟨row,by rw [Heap.add_get,if_neg hne]; exact h1,by rw [Heap.add_size]; omega,?_⟩
      rw [hal];exact hf.later hle rfl id
  · have hr1:∀ r rm x,(m.put H.size ⟨b,sh,cs.size,0,true,true⟩) r = some rm → (H.add { cells:=cells,elem:=t,exact:=true,ro:=true,esz:=0,grp:=2 * H.size,gpos:=0 }).rows.get r = some x → x.ro = true:=fun r rm x hr hx => by
      rw [Heap.add_get] at hx;rcases Map.put_inv hr with ⟨rfl,rfl⟩ | ⟨hne,hr⟩
      · rw [if_pos rfl] at hx; cases hx; rfl
      · rw [if_neg hne] at hx;have hf:=h.rowOf hr hx;rw [← hf.ro]; exact hro r rm hr
    exact .inr ⟨hr1 r rm x hr hx,hr1 r' rm' x' hr' hx'⟩
  · rw [Heap.add_get] at hx;rw [Heap.add_size];split at hx
    · rename_i hk; cases hx; exact ⟨.inl rfl,by omega⟩
    · have:=h.inv r x hx;exact ⟨this.1.imp id (by omega),by omega⟩

end Go.AM
