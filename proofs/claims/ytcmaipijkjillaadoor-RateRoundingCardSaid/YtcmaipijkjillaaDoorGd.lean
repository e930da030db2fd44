/- A general tool, which names no program: code and functions of a canonical machine for the model's own code, proved: what it comes to is what every run comes to. -/
import Derived.Test.YtcmaipijkjillaaDoorGc
set_option linter.unusedVariables false
set_option linter.unusedSimpArgs false
set_option linter.unusedSectionVars false

namespace Go.AM
open Go.RowKit (Below)

variable {P:Program} {n0:Nat} {D0:List Deferred}
variable {G:Nat} {call:CallF} {ops:Array Oper}

def Lof (listed:Array Bool):Nat → Bool:=fun i => listed.getD i true

theorem Lof_set {listed:Array Bool} {j:Nat} (hj:j < listed.size):Lof (listed.setIfInBounds j true) = setL (Lof listed) j:=by
  funext i
  unfold Lof setL;simp only [Array.getD_eq_getD_getElem?,Array.getElem?_setIfInBounds]
  by_cases h:i = j
  · subst h; simp [hj]
  · simp [h,Ne.symm h]

theorem ready_mem {listed:Array Bool} {i:Nat} (h:i ∈ Region.ready .any ops listed) :
    i < ops.size ∧ Lof listed i = false ∧ ∀ o,ops[i]? = some o → ∀ e ∈ o.after.toList,bindsAny e = true → Lof listed e.on = true:=by
  unfold Region.ready at h;simp only [List.mem_filter,List.mem_range,Bool.and_eq_true,Bool.not_eq_true'] at h;obtain ⟨h1,h2,h3⟩:=h;refine ⟨h1,h2,fun o ho e he hb => ?_⟩
  rw [ho] at h3;simp only [Option.map_some,Option.getD_some,Array.all_eq_true_iff_forall_mem] at h3;have:=h3 e (Array.mem_toList_iff.1 he);unfold bindsAny at hb;rw [hb] at this;simp only [Bool.not_true,Bool.false_or] at this;unfold Lof;rw [Array.getD_eq_getD_getElem?] at this ⊢;cases hq:listed[e.on]? with
  | none => rw [hq] at this; cases this
  | some b => rw [hq] at this; simpa using this

theorem ready_of {listed:Array Bool} {i:Nat} (h1:i < ops.size) (hs:listed.size = ops.size) (hd:DrawOk ops) (h2:Lof listed i = false)
    (h3:∀ k,k < i → Lof listed k = true):i ∈ Region.ready .any ops listed:=by
  unfold Region.ready;simp only [List.mem_filter,List.mem_range,Bool.and_eq_true,Bool.not_eq_true'];refine ⟨h1,h2,?_⟩;rw [Array.getElem?_eq_getElem h1];simp only [Option.map_some,Option.getD_some,Array.all_eq_true_iff_forall_mem];intro e he;cases hb:Region.binds .any e with
  | false => rfl
  | true =>
    simp only [Bool.not_true,Bool.false_or];have hlt:=hd.back i ops[i] (Array.getElem?_eq_getElem h1) e (Array.mem_toList_iff.2 he) hb;have:=h3 e.on hlt;unfold Lof at this;rw [Array.getD_eq_getD_getElem?,Array.getElem?_eq_getElem (by omega)] at this
    rw [Array.getD_eq_getD_getElem?,Array.getElem?_eq_getElem (by omega)]
    simpa using this

variable {as:Nat → Act} {hs h1:Nat → Heap} {vs:Nat → Value} {m0:Map} {w0:World}

theorem Inv.all (ro:Option Nat) (T:Setting P G call ops as hs h1 vs) (hG:Glob m0 G) (hm0:∀ r rm,m0 r = some rm → r < (hs 0).size) {Q:Exit → Act → World → Prop}
    (hQ:∀ A m w,Ext n0 m0 (hs 0) w0 m (hs ops.size) w → AR m (as ops.size) A → A.defers = D0 → Q .normal A w) :
    ∀ (fuel:Nat) (listed:Array Bool) (unl:List Nat) (A:Act) (w:World) (m:Map) (p q:Nat) (eb:Nat → Nat),Inv P n0 D0 ops as hs h1 vs m0 w0 (Lof listed) A w m p q eb → listed.size = ops.size → unl.length ≤ fuel →
      (∀ i,i < ops.size → Lof listed i = false → i ∈ unl) → wpAnyIn (fenceOf ro) 0 P .any ops Q fuel listed A w:=by
  have fin:∀ (listed:Array Bool) (A:Act) (w:World) (m:Map) (p q:Nat) (eb:Nat → Nat),Inv P n0 D0 ops as hs h1 vs m0 w0 (Lof listed) A w m p q eb → (∀ i,i < ops.size → Lof listed i = true) → Q .normal A w:=by
    intro listed A w m p q eb I hall;have hq:q = ops.size:=by
      rcases Nat.lt_or_ge q ops.size with h | h
      · have h1:=I.turn T h;rw [hall q h] at h1; cases h1
      · have:=I.qn; omega
    subst hq;have hmd:∀ r rm,m r = some rm → r < (hs ops.size).size:=fun r rm h => by
      rcases I.dom r rm h with h2 | ⟨j',a,b,c,d,e⟩
      · exact Nat.lt_of_lt_of_le h2 (T.sizes p _ I.pq (Nat.le_refl _))
      · exact Nat.lt_of_lt_of_le e (T.sizes (j' + 1) _ (by omega) (Nat.le_refl _))
    have hr:=I.hr ops.size I.pq (Nat.le_refl _);rw [Map.lt_eq hmd] at hr;refine hQ A m w ⟨I.mono,hr,I.below,I.fr,I.new,I.loops⟩ (AR.of_getD (by rw [T.asSize _ (Nat.le_refl _),I.sz]) (fun t => ?_)) I.D
    obtain ⟨k,hkn,hv,_,hhi,_⟩:=I.tm t;have hv:=hv.resolve_right (by rintro ⟨e,_,h1,h2,_⟩; omega)
    rw [T.asKeep t k ops.size hkn (Nat.le_refl _) fun l h1 h2 => by
      cases hdl:dstIs ops l t with
      | false => rfl
      | true => have:=hhi l h1 h2 hdl; rw [hall l h2] at this; cases this]
    exact hv.mono (Map.lt_le _ _)
  have none_ready:∀ (listed:Array Bool),listed.size = ops.size → Region.ready .any ops listed = [] → ∀ i,i < ops.size → Lof listed i = true:=by
    intro listed hsz hr i
    induction i using Nat.strongRecOn with
    | _ i ih =>
      intro hi;cases hl:Lof listed i with
      | true => rfl
      | false =>
        have:=ready_of hi hsz T.hd hl fun k hk => ih k hk (by omega)
        rw [hr] at this; cases this
  intro fuel
  induction fuel with
  | zero =>
    intro listed unl A w m p q eb I hsz hul hun;have hnil:unl = []:=List.length_eq_zero_iff.1 (by omega)
    have hall:∀ i,i < ops.size → Lof listed i = true:=fun i hi => by
      cases hl:Lof listed i with
      | true => rfl
      | false => have:=hun i hi hl; rw [hnil] at this; cases this
    refine ⟨?_,fin listed A w m p q eb I hall⟩;cases hr:Region.ready .any ops listed with
    | nil => rfl
    | cons i l =>
      have:=ready_mem (ops:=ops) (listed:=listed) (i:=i) (by rw [hr]; simp)
      rw [hall i this.1] at this;cases this.2.1
  | succ fuel ih =>
    intro listed unl A w m p q eb I hsz hul hun;refine ⟨fun hr => fin listed A w m p q eb I (none_ready listed hsz hr),fun j hj => ?_⟩
    obtain ⟨hjn,hjl,hje⟩:=ready_mem hj;refine I.step T hG hm0 hjn hjl hje _ Q ro fun A' w' m' p' q' eb' I' => ?_
    have hin:=hun j hjn hjl;refine ih (listed.setIfInBounds j true) (unl.filter (fun i => i != j)) A' w' m' p' q' eb' ?_ (by simp [hsz]) ?_ ?_
    · rw [Lof_set (by omega)]; exact I'
    · have hlt:(unl.filter (fun i => i != j)).length < unl.length:=by
        rw [← List.countP_eq_length_filter];rcases Nat.lt_or_ge (unl.countP (fun i => i != j)) unl.length with h | h
        · exact h
        · have he:unl.countP (fun i => i != j) = unl.length:=Nat.le_antisymm List.countP_le_length h
          have:=List.countP_eq_length.1 he j hin;simp at this
      omega
    · intro i hi hl;rw [Lof_set (by omega)] at hl
      unfold setL at hl;split at hl
      · cases hl
      · rename_i hne;exact List.mem_filter.2 ⟨hun i hi hl,by simpa using hne⟩

theorem aDraw_go (hc:CallOk P G call):∀ (k i:Nat) {a a':Act} {H H':Heap},HInv H → aDraw P call ops k i a H = some (a',H') → HGo H H'
  | 0,i,a,a',H,H',h,e => by cases e; exact .refl h
  | k + 1,i,a,a',H,H',h,e => by
    unfold aDraw at e;split at e
    · cases e
    · split at e
      · cases e
      · rename_i v H1 hst;obtain ⟨_,e⟩:=Zaaw e;obtain ⟨g1,i1⟩:=aStep_go hc (h.relow H.size) hst;have g1':HF H (H1.relow (Nat.min H.low H1.low)):=by
          refine ⟨g1.size,Nat.min_le_left _ _,fun r hr hl => g1.keep r hr (Nat.lt_of_lt_of_le hl (Nat.min_le_right _ _))⟩
        obtain ⟨g2,i2⟩:=aDraw_go hc k (i + 1) (i1.relow _) e;exact ⟨g1'.trans g2,i2⟩

theorem aDraw_sound (ro:Option Nat) (hc:CallOk P G call) (hmix:P.follows .mixedOrders = true) {id:Nat} {a a' A:Act} {m:Map} {H H':Heap} {w:World} {Q:Exit → Act → World → Prop} (hd:okDraw ops = true)
    (hok:okOpers G ops.toList = true) (h:HR n0 m H w) (hG:Glob m G) (hA:AR m a A) (e:aDraw P call ops ops.size 0 a H = some (a',H'))
    (hQ:∀ A' m' w',Ext n0 m H w m' H' w' → AR m' a' A' → A'.defers = A.defers → Q .normal A' w'):(Code.region id ops true).wpIn (fenceOf ro) 0 P Q A w:=by
  obtain ⟨as,hs,h1,vs,ht,e1,e2,e3,e4⟩:=aDraw_trace _ _ e;rw [Nat.zero_add] at ht e3 e4;have T:Setting P G call ops as hs h1 vs:=⟨ht,drawOk_of hd,hc,by rw [e2]; exact h.inv,hok⟩
  obtain ⟨q,hq1,hq2,hq3,hq4⟩:=nt_first (hs:=hs) (h1:=h1) ops.size ops.size 0 (by omega)
  have hm0:∀ r rm,m r = some rm → r < (hs 0).size:=fun r rm hr => by rw [e2]; exact h.lt hr
  have hL:∀ i,i < ops.size → Lof (Array.replicate ops.size false) i = false:=fun i hi => by
    unfold Lof; simp [hi]
  refine wpIn_region_any hmix (Inv.all ro T hG hm0 (n0:=n0) (D0:=A.defers) (w0:=w) (fun A' m' w' hext hAR hD => ?_) ops.size _ (List.range ops.size) A w.drew m 0 q (fun _ => 0) ?_ (by simp) (by simp) (fun i hi _ => by simpa using hi))
  · rw [e2,e4] at hext;rw [e3] at hAR;exact hQ A' m' w' hext hAR hD
  · refine ⟨hq1,hq2,fun i hi => by omega,fun i _ hi _ _ => hL i hi,(fun e he => by have:=he.2.2.2; rw [hL e he.2.1] at this; cases this),(fun e e' he => by have:=he.2.2.2; rw [hL e he.2.1] at this; cases this),fun i _ hi => hq3 i (Nat.zero_le _) hi,hq4,?_,Map.le_refl _,(Below.refl _ _).drew,fun _ _ _ => rfl,fun r rm hr => .inl hr,?_,fun r rm hr => .inl (hm0 r rm hr),fun b L hb => ⟨L,hb⟩,?_,rfl,?_⟩
    · intro j hj hl; rw [hL j hj] at hl; cases hl
    · intro k _ hk;have hkn:k ≤ ops.size:=by omega
      rw [Map.lt_eq fun r rm hr => Nat.lt_of_lt_of_le (hm0 r rm hr) (T.sizes 0 k (Nat.zero_le _) hkn)]
      have hsame:=T.same 0 k (Nat.zero_le _) hkn fun l hl1 hl2 => hq3 l hl1 (by omega)
      have h0:HR n0 m (hs 0) w.drew:=by rw [e2]; exact h.drew
      refine h0.swap (T.inv k hkn) fun r rm hr => ⟨Nat.lt_of_lt_of_le (hm0 r rm hr) (T.sizes 0 k (Nat.zero_le _) hkn),fun row hrow => ?_⟩
      obtain ⟨x1,x2⟩:=hsame r (hm0 r rm hr);exact ⟨x1.trans hrow,x2 row hrow⟩
    · rw [e1]; exact hA.size.symm
    · intro t;refine ⟨0,Nat.zero_le _,?_,fun i hi => by omega,fun i _ hi _ => hL i hi,.inl rfl⟩
      rw [e1];exact .inl ((hA.getD t).mono fun r rm hr => Map.lt_of (hm0 r rm hr) hr)

end Go.AM

namespace Go.AM
open Go.RowKit (Below)

variable {P:Program} {n0:Nat} {m:Map} {H:Heap} {w:World}

/-! The records of loops over functions. -/

def Heap.setLoop (H:Heap) (l:Nat) (row:Row) (st:LoopState) (pd:Option Code):Heap:=match row.loop with
  | some (.lp lr) => forceT (H.rows.put l { row with loop:=some (.lp { lr with state:=st,pending:=pd }) }) fun rows => { size:=H.size,rows:=rows,grps:=H.grps,low:=Nat.min l H.low }
  | _ => H
theorem setLoop_eq {H:Heap} {l:Nat} {row:Row} {lr:LoopRec} (hl:row.loop = some (.lp lr)) (st:LoopState) (pd:Option Code) :
    H.setLoop l row st pd = { size:=H.size,rows:=H.rows.put l { row with loop:=some (.lp { lr with state:=st,pending:=pd }) },grps:=H.grps,low:=Nat.min l H.low }:=by
  unfold Heap.setLoop; rw [hl]; simp only [forceT_eq]

theorem setLoop_go {H:Heap} (hi:HInv H) {l:Nat} {row:Row} {lr:LoopRec} (hrow:H.rows.get l = some row) (hl:row.loop = some (.lp lr)) (st:LoopState) (pd:Option Code):HGo H (H.setLoop l row st pd):=by
  rw [setLoop_eq hl];refine ⟨⟨Nat.le_refl _,Nat.min_le_right _ _,fun r hr hlow => ?_⟩,fun k x hx => ?_⟩
  · have hne:r ≠ l:=by have:Nat.min l H.low ≤ l:=Nat.min_le_left _ _; simp only at hlow; omega
    exact ⟨Trie.get_put_ne _ _ hne,fun _ _ => rfl⟩
  · simp only [Trie.get_put] at hx;split at hx
    · rename_i hk; cases hx; rw [hk]; exact hi l row hrow
    · exact hi k x hx

structure RecOk (m:Map) (lr:LoopRec) (L:Loop):Prop where
  st:L.state = lr.state
  pd:L.pending = lr.pending
  ps:L.params = lr.params
  as:L.assign = lr.assign
  bd:L.body = lr.body
  tm:VRs m lr.tmps.toList L.tmps.toList

theorem Fits.loopRec {r rm row al} (h:Fits n0 m w r rm row al) {lr:LoopRec} (hl:row.loop = some (.lp lr)):row.exact = true ∧ ∃ L,w.heap[rm.blk]? = some (.loop L) ∧ RecOk m lr L:=by
  rcases h.blk with ⟨hn,_⟩ | ⟨lr',tm,fn,d,hl',he,hb,hv⟩ | ⟨_,_,hl',_,_,hv⟩
  · rw [hl] at hn; cases hn
  · rw [hl] at hl'; cases hl';exact ⟨he,_,hb,rfl,rfl,rfl,rfl,rfl,hv⟩
  · rw [hl] at hl'; cases hl'; cases hv.1

theorem Ext.setLoop (h:HR n0 m H w) {l:Nat} {rm:RowMap} {row:Row} {lr:LoopRec} (hm:m l = some rm) (hrow:H.rows.get l = some row) (hro:row.ro = false) (hl:row.loop = some (.lp lr))
    (st:LoopState) (pd:Option Code):∃ L,w.heap[rm.blk]? = some (.loop L) ∧ RecOk m lr L ∧
      Ext n0 m H w m (H.setLoop l row st pd) (World.setObjAt w rm.blk (.loop { L with state:=st,pending:=pd })):=by
  have hf:=h.rowOf hm hrow;obtain ⟨hex,L,hb,hR⟩:=hf.loopRec hl;refine ⟨L,hb,hR,?_⟩;have hlt:=hf.lt;have hnew:(World.setObjAt w rm.blk (.loop { L with state:=st,pending:=pd })).heap[rm.blk]? = some (.loop { L with state:=st,pending:=pd }):=setObjAt_same hlt;have hget:∀ k,(H.setLoop l row st pd).rows.get k = if k = l then some { row with loop:=some (.lp { lr with state:=st,pending:=pd }) } else H.rows.get k:=fun k => by
    rw [setLoop_eq hl]; exact Trie.get_put _ _ _ _
  have hsz:(H.setLoop l row st pd).size = H.size:=by rw [setLoop_eq hl]
  have hgr:(H.setLoop l row st pd).grps = H.grps:=by rw [setLoop_eq hl]
  have hlow:(H.setLoop l row st pd).low ≤ l:=by rw [setLoop_eq hl]; exact Nat.min_le_left _ _
  refine ⟨Map.le_refl _,⟨?_,?_,?_,(setLoop_go h.inv hrow hl st pd).2⟩,?_,?_,fun r rm h => .inl h,?_⟩
  · have:=h.base; simpa [World.setObjAt] using this
  · intro k rk hk;obtain ⟨x,hx,hklt,hfk⟩:=h.row k rk hk
    by_cases hkl:k = l
    · subst hkl;rw [hm] at hk; cases hk;rw [hrow] at hx; cases hx;refine ⟨{ row with loop:=some (.lp { lr with state:=st,pending:=pd }) },by rw [hget,if_pos rfl],by rw [hsz]; exact hklt,hf.ex,hf.es,hf.ro,hf.grpE,hf.grpL,hf.grpB,hf.roE,hf.own,?_⟩
      exact .inr (.inl ⟨{ lr with state:=st,pending:=pd },L.tmps,L.fn,L.defers,rfl,hex,by rw [hnew,← hR.ps,← hR.as,← hR.bd],hR.tm⟩)
    · refine ⟨x,by rw [hget,if_neg hkl]; exact hx,by rw [hsz]; exact hklt,?_⟩
      by_cases hbk:rk.blk = rm.blk
      · exfalso;rcases h.apart k l rk rm x row hk hm hx hrow hbk with ⟨hg,_⟩ | ⟨_,hr⟩
        · have h1:=hf.grpE hex;cases hxe:x.exact with
          | true => have h2:=hfk.grpE hxe; omega
          | false => have h2:=hfk.grpL hxe; omega
        · rw [hro] at hr; cases hr
      · refine hfk.later (Map.le_refl _) (setObjAt_other hbk) ?_
        unfold Heap.alive;rw [hgr];exact id
  · intro k k' rk rk' x x' hk hk' hx hx' hbk;have back:∀ k x,(H.setLoop l row st pd).rows.get k = some x → ∃ y,H.rows.get k = some y ∧ y.grp = x.grp ∧ y.gpos = x.gpos ∧ y.ro = x.ro:=fun k x hx => by
      rw [hget] at hx;split at hx
      · rename_i he; cases hx; exact ⟨row,by rw [he]; exact hrow,rfl,rfl,rfl⟩
      · exact ⟨x,hx,rfl,rfl,rfl⟩
    obtain ⟨y,hy,e1,e2,e3⟩:=back k x hx;obtain ⟨y',hy',e1',e2',e3'⟩:=back k' x' hx';have:=h.apart k k' rk rk' y y' hk hk' hy hy' hbk;rw [e1,e2,e3,e1',e2',e3'] at this;exact this
  · exact ⟨rfl,rfl,rfl,by simp [World.setObjAt],fun k hk => setObjAt_other (by have:=hf.own hro; omega)⟩
  · intro b hb2 hall
    by_cases hbb:b = rm.blk
    · rcases hall l rm hm hbb.symm with hh | hh
      · rw [hf.ro,hro] at hh; cases hh
      · omega
    · exact setObjAt_other hbb
  · intro b L2 hb2
    by_cases hbb:b = rm.blk
    · subst hbb; exact ⟨_,hnew⟩
    · exact ⟨L2,by rw [setObjAt_other hbb]; exact hb2⟩

def Heap.addLoop (H:Heap) (lr:LoopRec):Heap:=H.add { cells:=[],elem:=0,exact:=true,ro:=false,esz:=0,grp:=2 * H.size,gpos:=0,loop:=some (.lp lr) }

theorem addLoop_go {H:Heap} (hi:HInv H) (lr:LoopRec):HGo H (H.addLoop lr):=HGo.add hi _ (.inl rfl)

theorem Ext.addLoop (h:HR n0 m H w) (lr:LoopRec) {w1:World} {B:Nat} {L:Loop} (hB:w.heap.size ≤ B) (hb:w1.heap[B]? = some (.loop L)) (hR:RecOk m lr L)
    (hold:∀ b,b < w.heap.size → w1.heap[b]? = w.heap[b]?) (hbel:Below n0 w w1) :
    Ext n0 m H w (m.put H.size ⟨B,0,0,0,true,false⟩) (H.addLoop lr) w1:=by
  have hle:=Map.le_put (rm:=⟨B,0,0,0,true,false⟩) h.none;have hget:∀ r,(H.addLoop lr).rows.get r = if r = H.size then some { cells:=[],elem:=0,exact:=true,ro:=false,esz:=0,grp:=2 * H.size,gpos:=0,loop:=some (.lp lr) } else H.rows.get r:=fun r => Heap.add_get _ _ _
  have hsz:(H.addLoop lr).size = H.size + 1:=Heap.add_size _ _;have hgr:(H.addLoop lr).grps = H.grps:=by unfold Heap.addLoop; rw [Heap.add_grps]; rfl
  refine ⟨hle,⟨Nat.le_trans h.base hbel.size,?_,?_,(addLoop_go h.inv lr).2⟩,hbel,fun b hb _ => hold b hb,?_,fun b L hb => ⟨L,by rw [hold b (Array.getElem?_eq_some_iff.1 hb).1]; exact hb⟩⟩
  · intro r rm hr;rcases Map.put_inv hr with ⟨rfl,rfl⟩ | ⟨hne,hr⟩
    · refine ⟨_,by rw [hget,if_pos rfl],by rw [hsz]; exact Nat.lt_succ_self _,rfl,rfl,rfl,fun _ => rfl,(fun e => by cases e),(by simp only; omega),(fun e => by cases e),fun _ => Nat.le_trans h.base hB,?_⟩
      exact .inr (.inl ⟨lr,L.tmps,L.fn,L.defers,rfl,rfl,by rw [hb,← hR.st,← hR.pd,← hR.ps,← hR.as,← hR.bd],hR.tm.mono hle⟩)
    · obtain ⟨x,hx,hlt,hf⟩:=h.row r rm hr;refine ⟨x,by rw [hget,if_neg hne]; exact hx,by rw [hsz]; exact Nat.lt_succ_of_lt hlt,hf.later hle (hold _ hf.lt) ?_⟩
      unfold Heap.alive;rw [hgr];exact id
  · intro r r' rm rm' x x' hr hr' hx hx' hbk;rw [hget] at hx hx';rcases Map.put_inv hr with ⟨rfl,rfl⟩ | ⟨hne,hr⟩ <;> rcases Map.put_inv hr' with ⟨rfl,rfl⟩ | ⟨hne',hr'⟩
    · rw [if_pos rfl] at hx hx'; cases hx; cases hx'; exact .inl ⟨rfl,rfl⟩
    · obtain ⟨y,hy,_,hfy⟩:=h.row r' rm' hr';have:=hfy.lt; simp at hbk; omega
    · obtain ⟨y,hy,_,hfy⟩:=h.row r rm hr;have:=hfy.lt; simp at hbk; omega
    · rw [if_neg hne] at hx; rw [if_neg hne'] at hx';exact h.apart r r' rm rm' x x' hr hr' hx hx' hbk
  · intro r rm hr;rcases Map.put_inv hr with ⟨rfl,rfl⟩ | ⟨_,hr⟩
    · exact .inr ⟨Nat.le_refl _,rfl,.inl hB⟩
    · exact .inl hr

/-! The marks of an activation: its blocks for the deferred calls of rounds. -/

def markOf (r:Nat):Deferred:={ target:=.collected r,args:=#[] }

def Marks (B:Nat) (m:Map) (w:World) (ds:List Deferred):Prop:=
  ∃ rs:List Nat,ds = rs.map markOf ∧ rs.Nodup ∧ ∀ r,r ∈ rs → w.heap[r]? = some (.deferred (some [])) ∧ B ≤ r ∧ ∀ l rm,m l = some rm → rm.blk ≠ r

theorem Marks.nil (B:Nat) (m:Map) (w:World):Marks B m w []:=⟨[],rfl,List.nodup_nil,fun r h => by cases h⟩

theorem Marks.ext {B:Nat} {m m':Map} {H H':Heap} {w w':World} {ds:List Deferred} (h:Marks B m w ds) (hx:Ext n0 m H w m' H' w'):Marks B m' w' ds:=by
  obtain ⟨rs,e,hn,ha⟩:=h;refine ⟨rs,e,hn,fun r hr => ?_⟩
  obtain ⟨h1,h2,h3⟩:=ha r hr;have hlt:=(Array.getElem?_eq_some_iff.1 h1).1;refine ⟨?_,h2,fun l rm hm => ?_⟩
  · rw [hx.fr r hlt fun l rm hl hb => absurd hb (h3 l rm hl)]; exact h1
  · rcases hx.new l rm hm with h0 | ⟨_,_,hb | ⟨r0,rm0,h0,hb,_⟩⟩
    · exact h3 l rm h0
    · omega
    · rw [← hb]; exact h3 r0 rm0 h0

theorem takeDeferred_run {r:Nat} (h:w.heap[r]? = some (.deferred (some []))):(Instr.takeDeferred r).run P w = .ok [] (World.setObjAt w r (.deferred none)):=by
  simp [Instr.takeDeferred,getObj,setObj,Sem.run,h,World.setObjAt]

theorem leave_marks {F:Fence} {n:Nat} {fn:Func} {tmps:Array Value} {R:Ending → World → Prop}:∀ (rs:List Nat) (w:World),rs.Nodup → (∀ r,r ∈ rs → w.heap[r]? = some (.deferred (some []))) →
    (∀ w',w'.os = w.os → w'.tape = w.tape → w'.output = w.output → w'.heap.size = w.heap.size → (∀ b,b ∉ rs → w'.heap[b]? = w.heap[b]?) → ∃ v,(results fn tmps).run P w' = .ok v w' ∧ R (.returned v) w') →
    LeavesInM F n P fn tmps R (rs.map markOf) .returning w
  | [],w,_,_,h => h w rfl rfl rfl rfl fun _ _ => rfl
  | r :: rs,w,hn,ha,h => by
    rw [List.nodup_cons] at hn;refine ⟨by simp,.inl ⟨r,_,rfl,takeDeferred_run (ha r (by simp)),?_⟩⟩
    refine leave_marks rs _ hn.2 (fun k hk => ?_) fun w' e1 e2 e3 e4 e5 => ?_
    · rw [setObjAt_other (fun e => hn.1 (by rw [← e]; exact hk))]; exact ha k (by simp [hk])
    · refine h w' (by rw [e1]; rfl) (by rw [e2]; rfl) (by rw [e3]; rfl) (by rw [e4]; simp [World.setObjAt]) fun b hb => ?_
      rw [e5 b (fun hk => hb (by simp [hk])),setObjAt_other (fun e => hb (by simp [e]))]

theorem Ext.left {m':Map} {H':Heap} {w1 w2:World} {rs:List Nat} (h:Ext n0 m H w m' H' w1) (hB:∀ r,r ∈ rs → w.heap.size ≤ r ∧ ∀ l rm,m' l = some rm → rm.blk ≠ r)
    (e1:w2.os = w1.os) (e2:w2.tape = w1.tape) (e3:w2.output = w1.output) (e4:w2.heap.size = w1.heap.size) (e5:∀ b,b ∉ rs → w2.heap[b]? = w1.heap[b]?):Ext n0 m H w m' H' w2:=by
  have hlt:∀ b,b < w.heap.size → w2.heap[b]? = w1.heap[b]?:=fun b hb => e5 b fun hr => by have:=(hB b hr).1; omega
  have hmap:∀ l rm,m' l = some rm → w2.heap[rm.blk]? = w1.heap[rm.blk]?:=fun l rm hm => e5 _ fun hr => (hB _ hr).2 l rm hm rfl
  have hbase:n0 ≤ w.heap.size:=by
    have:=h.below.size;exact Classical.byContradiction fun hc => by
      have hb:=h.hr.base;have hk:∀ k,k < n0 → w1.heap[k]? = w.heap[k]?:=h.below.block;have h1:=hk w.heap.size (by omega)
      rw [Array.getElem?_eq_none (Nat.le_refl _),Array.getElem?_eq_getElem (by omega)] at h1
      cases h1
  refine ⟨h.mono,⟨by rw [e4]; exact h.hr.base,fun r rm hm => ?_,h.hr.apart,h.hr.inv⟩,?_,fun b hb hall => (hlt b hb).trans (h.fr b hb hall),h.new,fun b L hb => ?_⟩
  · obtain ⟨row,h1,h2,hf⟩:=h.hr.row r rm hm;exact ⟨row,h1,h2,hf.later (Map.le_refl _) (hmap r rm hm) id⟩
  · refine h.below.trans ⟨e1,e2,e3,by rw [e4]; exact Nat.le_refl _,fun k hk => hlt k (by omega)⟩
  · obtain ⟨L',hb'⟩:=h.loops b L hb;exact ⟨L',by rw [hlt b (Array.getElem?_eq_some_iff.1 hb).1]; exact hb'⟩

end Go.AM

namespace Go.AM
open Go.RowKit (Below)

variable {P:Program} {G:Nat} {call:CallF} {n0:Nat} {m:Map} {H:Heap} {w:World}

/-! Code. -/

theorem wpIn_scope_straight {F:Fence} {n:Nat} {Q:Exit → Act → World → Prop} {a:Act} {c:Code} (h:c.wpIn F n P (Exit.noGoto Q) a w):(Code.scope c).wpIn F n P Q a w:=by
  intro b k cs hro hb hr;have s0:step P (lone (b.atR a (.code (.scope c) :: k)) cs w) = .next (lone (b.atR a (.code c :: .inScope c :: k)) cs w):=step_lone_go (by simp [stepG,stepG.exec,Frame.atR])
  have s1:∀ a w,step P (lone (b.atR a (.inScope c :: k)) cs w) = .next (lone (b.atR a k) cs w):=fun a w => step_lone_go (by simp [stepG,stepG.exec,Frame.atR])
  have h0:(lone (b.atR a (.code (.scope c) :: k)) cs w).fenced P F:=fenced_calm hb hr rfl;obtain ⟨e,a₁,w₁,hq,harr⟩:=h b (.inScope c :: k) cs hro hb hr;cases e with
  | normal => exact ⟨.normal,a₁,w₁,hq,.head h0 s0 (StepsIn.trans harr (.one (fenced_calm hb hr rfl) (s1 _ _)))⟩
  | exit id =>
    refine ⟨.exit id,a₁,w₁,hq,fun k' hk => .head h0 s0 (harr.1 k' (by simp [exitTo,hk])),fun hr' hk => ?_⟩
    obtain ⟨k₁,h1,h2⟩:=harr.2 hr' (by simp [exitTo,hk])
    exact ⟨k₁,h1,.head h0 s0 h2⟩
  | goto l => exact hq.elim
  | ret => exact ⟨_,a₁,w₁,hq,.of_steps (.one h0 s0) harr⟩
  | panic ch => exact ⟨_,a₁,w₁,hq,.of_steps (.one h0 s0) harr⟩
  | outgrown => exact ⟨_,a₁,w₁,hq,.of_steps (.one h0 s0) harr⟩

inductive AExit where
  | normal
  | exit (id:Nat)
  | goto (l:Nat)
  | ret

def AExit.real:AExit → Exit
  | .normal => .normal
  | .exit id => .exit id
  | .goto l => .goto l
  | .ret => .ret

def AExit.jump:AExit → Option Code
  | .normal => none
  | .exit id => some (.exit id)
  | .goto l => some (.goto l)
  | .ret => some .ret

def exitOf:Option Code → Option AExit
  | none => some .normal
  | some (.exit id) => some (.exit id)
  | some (.goto l) => some (.goto l)
  | some .ret => some .ret
  | _ => none

theorem exitOf_some {j:Option Code} {e:AExit} (h:exitOf j = some e):j = e.jump:=by
  unfold exitOf at h;split at h <;> first | (cases h; rfl) | cases h

def okCode (G:Nat):Code → Bool
  | .region _ ops dr => okOpers G ops.toList && (!dr || okDraw ops)
  | .seq a b => okCode G a && okCode G b
  | .cond c a b => okOpnd G c && (okCode G a && okCode G b)
  | .block _ c => okCode G c
  | .loop c => okCode G c
  | .scope c => okCode G c
  | .rangeFunc g _ _ _ => okOpnd G g
  | _ => true

abbrev ARes:=Option (AExit × Act × Heap)

def thenN (r:ARes) (k:Act → Heap → ARes):ARes:=match r with
  | some (.normal,a,H) => k a H
  | r => r
def outOf (id:Nat) (r:ARes):ARes:=match r with
  | some (.exit i,a,H) => cond (Nat.beq i id) (some (.normal,a,H)) (some (.exit i,a,H))
  | r => r
def noGo (r:ARes):ARes:=match r with
  | some (.goto _,_,_) => none
  | r => r
def asN (r:Option (Act × Heap)):ARes:=match r with
  | some (a,H) => some (.normal,a,H)
  | none => none

def busy:LoopState → Bool
  | .busy => true
  | _ => false

def endL {α:Type} (l:Nat) (a:α) (r:Option (Value × Heap)):Option (AExit × α × Heap):=match r with
  | some (_,H) => match H.rows.get l with
    | some row => match row.loop with
      | some (.lp lr) => match exitOf lr.pending with
        | some e => cond (!busy lr.state && !row.ro) (some (e,a,H.setLoop l row .exhausted lr.pending)) none
        | none => none
      | _ => none
    | none => none
  | none => none

theorem endL_some {α:Type} {l:Nat} {a a':α} {r:Option (Value × Heap)} {e:AExit} {H':Heap} (h:endL l a r = some (e,a',H')) :
    ∃ v H1 row lr,r = some (v,H1) ∧ H1.rows.get l = some row ∧ row.loop = some (.lp lr) ∧ exitOf lr.pending = some e ∧ busy lr.state = false ∧ row.ro = false ∧ a' = a ∧ H' = H1.setLoop l row .exhausted lr.pending:=by
  unfold endL at h;split at h
  case h_2 => cases h
  rename_i v H1;split at h
  case h_2 => cases h
  rename_i row hrow;split at h
  case h_2 => cases h
  rename_i lr hl;split at h
  case h_2 => cases h
  rename_i e' he;obtain ⟨hb,h⟩:=Zaaw h;cases h;simp only [Bool.and_eq_true,Bool.not_eq_true'] at hb;exact ⟨v,H1,row,lr,rfl,hrow,hl,he,hb.1,hb.2,rfl,rfl⟩

def loopOf (a:Act) (ps:Array Tmp) (assign body:Code):LoopRec:={ tmps:=a.tmps,params:=ps,assign:=assign,body:=body,state:=.ready,pending:=none }

theorem endL_swap {α β:Type} {l:Nat} {a a':α} (b:β) {r:Option (Value × Heap)} {e:AExit} {H':Heap} (h:endL l a r = some (e,a',H')):a' = a ∧ endL l b r = some (e,b,H'):=by
  obtain ⟨v,H1,row,lr,rfl,hrow,hl,he,hb,hro,rfl,rfl⟩:=endL_some h;refine ⟨rfl,?_⟩;unfold endL;simp only [hrow,hl,he,hb,hro,Bool.not_false,Bool.and_true,cond_true]

def aCode (P:Program) (call:CallF):Nat → Code → Act → Heap → ARes
  | 0,_,_,_ => none
  | n + 1,c,a,H => match c with
    | .skip | .label _ => some (.normal,a,H)
    | .region _ ops dr => asN (cond dr (aDraw P call ops ops.size 0 a H) (aOps P call ops ops.toList a H))
    | .seq x y => thenN (aCode P call n x a H) (aCode P call n y)
    | .cond c x y => match a.eval c with
      | .bool t => aCode P call n (cond t x y) a H
      | _ => none
    | .block id x => outOf id (aCode P call n x a H)
    | .loop x => thenN (aCode P call n x a H) (aCode P call n (.loop x))
    | .exit id => some (.exit id,a,H)
    | .goto l => some (.goto l,a,H)
    | .ret => some (.ret,a,H)
    | .scope x => noGo (aCode P call n x a H)
    | .rangeFunc g ps as bd => match a.eval g with
      | .func (.func f) ⟨fa⟩ ⟨fb⟩ => endL H.size a (call (.fn f) (fa ++ [.func (.yield H.size) ⟨[]⟩ ⟨[]⟩] ++ fb) (H.addLoop (loopOf a ps as bd)))
      | _ => none
    | _ => none

def RoOk (ro:Option Nat) (w:World):Prop:=∀ l,ro = some l → ∃ L,w.heap[l]? = some (Obj.loop L)

def Goes (P:Program) (G:Nat) (a:Act) (H:Heap) (e:AExit) (a':Act) (H':Heap) (W:Fence → (Exit → Act → World → Prop) → Act → World → Prop):Prop:=
  ∀ (ro:Option Nat) (n0 B:Nat) (m:Map) (w:World) (A:Act) (Q:Exit → Act → World → Prop),HR n0 m H w → Glob m G → AR m a A → Marks B m w A.defers → B ≤ w.heap.size → RoOk ro w →
    (∀ A' m' w',Ext n0 m H w m' H' w' → AR m' a' A' → Marks B m' w' A'.defers → Q e.real A' w') → W (fenceOf ro) Q A w

def CodeOk (P:Program) (G:Nat) (c:Code) (a:Act) (H:Heap) (e:AExit) (a':Act) (H':Heap):Prop:=
  (HInv H → HGo H H') ∧ Goes P G a H e a' H' fun F Q A w => c.wpIn F 0 P Q A w

theorem RoOk.ext {ro:Option Nat} {m':Map} {H':Heap} {w':World} (h:RoOk ro w) (hx:Ext n0 m H w m' H' w'):RoOk ro w':=fun l hl => by
  obtain ⟨L,hL⟩:=h l hl;exact hx.loops l L hL

theorem thenN_inv {r:ARes} {k:Act → Heap → ARes} {e:AExit} {a':Act} {H':Heap} (h:thenN r k = some (e,a',H')) :
    (∃ a1 H1,r = some (.normal,a1,H1) ∧ k a1 H1 = some (e,a',H')) ∨ (r = some (e,a',H') ∧ e ≠ .normal):=by
  unfold thenN at h;split at h
  · exact .inl ⟨_,_,rfl,h⟩
  · rename_i hne;refine .inr ⟨h,fun he => ?_⟩
    subst he;exact hne _ _ h

theorem exit_then {e:AExit} {next:Act → World → Prop} {Q:Exit → Act → World → Prop} {a:Act} {w:World} (he:e ≠ .normal) (h:Q e.real a w):Exit.then next Q e.real a w:=by
  cases e <;> first | exact absurd rfl he | exact h

theorem jump_walk {F:Fence} {n:Nat} {e:AExit} {Q:Exit → Act → World → Prop} {a:Act} (h:Q e.real a w) :
    (match e.jump with | none => Q .normal a w | some c => c.wpIn F n P Q a w):=by
  cases e with
  | normal => exact h
  | exit id => exact wpIn_exit h
  | goto l => exact wpIn_goto h
  | ret => exact wpIn_ret h

theorem enterLoop_none {fn:FuncId} {tmps:Array Value} {ps:Array Tmp} {assign body:Code} :
    (Instr.enterLoop fn tmps ps assign body none).run P w = .ok (w.heap.size + 1,[markOf w.heap.size])
      { w with heap:=(w.heap.push (.deferred (some []))).push (.loop { state:=.ready,pending:=none,fn,tmps,params:=ps,assign,body,defers:=w.heap.size }) }:=by
  simp [Instr.enterLoop,newObj,Sem.run,markOf]; rfl

theorem enterLoop_some {fn:FuncId} {tmps:Array Value} {ps:Array Tmp} {assign body:Code} {l0:Nat} {L:Loop} (h:w.heap[l0]? = some (.loop L)) :
    (Instr.enterLoop fn tmps ps assign body (some l0)).run P w = .ok (w.heap.size,[])
      { w with heap:=w.heap.push (.loop { state:=.ready,pending:=none,fn,tmps,params:=ps,assign,body,defers:=L.defers }) }:=by
  simp [Instr.enterLoop,Instr.getLoop,getObj,newObj,Sem.run,h]

theorem endLoop_run {l:Nat} {L:Loop} (h:w.heap[l]? = some (.loop L)) (hb:busy L.state = false) :
    (Instr.endLoop l).run P w = .ok L.pending (World.setObjAt w l (.loop { L with state:=.exhausted,pending:=L.pending })):=by
  have:¬ L.state = LoopState.busy:=fun hs => by rw [hs] at hb; cases hb
  simp [Instr.endLoop,Instr.getLoop,getObj,setObj,Sem.run,h,this,World.setObjAt]

theorem setLoop_id_pending {lr:LoopRec} {L:Loop} (hR:RecOk m lr L):(Obj.loop { L with state:=.exhausted,pending:=L.pending }) = Obj.loop { L with state:=.exhausted,pending:=lr.pending }:=by
  rw [hR.pd]

theorem Marks.cons {B:Nat} {w':World} {ds:List Deferred} {m':Map} (h:Marks B m w ds) (hB:B ≤ w.heap.size)
    (hnew:w'.heap[w.heap.size]? = some (.deferred (some []))) (hold:∀ b,b < w.heap.size → w'.heap[b]? = w.heap[b]?)
    (hmap:∀ l rm,m' l = some rm → m l = some rm ∨ rm.blk = w.heap.size + 1) (hlt:∀ l rm,m l = some rm → rm.blk < w.heap.size):Marks B m' w' (markOf w.heap.size :: ds):=by
  obtain ⟨rs,e,hn,ha⟩:=h;have hrs:∀ r,r ∈ rs → r < w.heap.size:=fun r hr => (Array.getElem?_eq_some_iff.1 (ha r hr).1).1
  refine ⟨w.heap.size :: rs,by rw [e]; rfl,List.nodup_cons.2 ⟨fun hh => by have:=hrs _ hh; omega,hn⟩,fun r hr => ?_⟩
  rcases List.mem_cons.1 hr with rfl | hr
  · refine ⟨hnew,hB,fun l rm hm => ?_⟩
    rcases hmap l rm hm with h1 | h1
    · have:=hlt l rm h1; omega
    · omega
  · obtain ⟨h1,h2,h3⟩:=ha r hr;have:=hrs r hr;refine ⟨by rw [hold r this]; exact h1,h2,fun l rm hm => ?_⟩
    rcases hmap l rm hm with h4 | h4
    · exact h3 l rm h4
    · omega

theorem Marks.same {B:Nat} {w':World} {ds:List Deferred} {m':Map} (h:Marks B m w ds) (hold:∀ b,b < w.heap.size → w'.heap[b]? = w.heap[b]?)
    (hmap:∀ l rm,m' l = some rm → m l = some rm ∨ w.heap.size ≤ rm.blk):Marks B m' w' ds:=by
  obtain ⟨rs,e,hn,ha⟩:=h;refine ⟨rs,e,hn,fun r hr => ?_⟩
  obtain ⟨h1,h2,h3⟩:=ha r hr;have:=(Array.getElem?_eq_some_iff.1 h1).1;refine ⟨by rw [hold r this]; exact h1,h2,fun l rm hm => ?_⟩
  rcases hmap l rm hm with h4 | h4
  · exact h3 l rm h4
  · omega

theorem HR.blk_lt (h:HR n0 m H w) {l:Nat} {rm:RowMap} (hm:m l = some rm):rm.blk < w.heap.size:=by
  obtain ⟨row,_,_,hf⟩:=h.row l rm hm;exact hf.lt

theorem push2 (xs:Array Obj) (x y:Obj):((xs.push x).push y)[xs.size + 1]? = some y:=by
  have h:((xs.push x).push y)[(xs.push x).size]? = some y:=Array.getElem?_push_size
  rw [Array.size_push] at h;exact h

theorem loopOf_rec {a A:Act} (hA:AR m a A) (ps:Array Tmp) (assign body:Code) (fn:FuncId) (d:Nat) :
    RecOk m (loopOf a ps assign body) { state:=.ready,pending:=none,fn,tmps:=A.tmps,params:=ps,assign,body,defers:=d }:=
  ⟨rfl,rfl,rfl,rfl,rfl,hA.tm⟩

theorem rangeFunc_sound (hc:CallOk P G call) {g:Operand} {ps:Array Tmp} {assign body:Code} {a a':Act} {e:AExit} {H':Heap} {f:FuncId} {fa fb:List Value} (hok:okOpnd G g = true)
    (hg:a.eval g = .func (.func f) ⟨fa⟩ ⟨fb⟩) (h:endL H.size a (call (.fn f) (fa ++ [.func (.yield H.size) ⟨[]⟩ ⟨[]⟩] ++ fb) (H.addLoop (loopOf a ps assign body))) = some (e,a',H')) :
    CodeOk P G (.rangeFunc g ps assign body) a H e a' H':=by
  obtain ⟨v,H1,row,lr,hcall,hrow,hl,he,hb,hro,rfl,rfl⟩:=endL_some h;have hgo:HInv H → HGo H (H1.setLoop H.size row .exhausted lr.pending):=fun hi => by
    obtain ⟨g1,i1⟩:=addLoop_go hi (loopOf a' ps assign body);obtain ⟨g2,i2⟩:=hc.go _ _ _ _ _ hcall i1;obtain ⟨g3,i3⟩:=setLoop_go i2 hrow hl .exhausted lr.pending;exact ⟨(g1.trans g2).trans g3,i3⟩
  refine ⟨hgo,?_⟩;have hE:EnterOk P f:=by
    rcases hc.ok _ _ _ _ _ hcall with hE | ⟨hX,_⟩
    · exact hE
    · exact (hX.no_func (x:=.yield H.size) (a:=⟨[]⟩) (b:=⟨[]⟩) (by simp)).elim
  intro ro n0 B m w A Q hHR hG hA hM hB hRo hQ;have hgv:=hA.eval hG hok;rw [hg] at hgv;obtain ⟨fa',fb',hAg,hfa,hfb⟩:=hgv.func_inv rfl;have key:∀ (fn:FuncId) (w1:World) (Bk d:Nat) (mark:List Deferred),w.heap.size ≤ Bk →
      (Instr.enterLoop fn A.tmps ps assign body (fenceOf ro).round).run P w = .ok (Bk,mark) w1 →
      w1.heap[Bk]? = some (.loop { state:=.ready,pending:=none,fn,tmps:=A.tmps,params:=ps,assign,body,defers:=d }) →
      (∀ b,b < w.heap.size → w1.heap[b]? = w.heap[b]?) → Below n0 w w1 → Marks B (m.put H.size ⟨Bk,0,0,0,true,false⟩) w1 (mark ++ A.defers) →
      ∃ (l:Nat) (mark:List Deferred) (w₁:World) (dd:Deferred) (w₁':World) (f:FuncId) (args:Array Value) (w₂:World),
      (Instr.enterLoop fn A.tmps ps assign body (fenceOf ro).round).run P w = .ok (l,mark) w₁ ∧
      (resolve A.eval (rangeCall g l) 0).run P w₁ = .ok dd w₁' ∧
      (∀ f',Target.leads P w₁' dd.target dd.args = some f' → (fenceOf ro).fn f') ∧
      (invoke dd.target dd.args).run P w₁' = .ok (.enter f args) w₂ ∧
      ((fenceOf ro).depth.isSome = true → 1 ≤ 0) ∧
      CallsIn (fenceOf ro) (0 - 1) P f args w₂ (rangePost (fenceOf ro) 0 P l Q { A with defers:=mark ++ A.defers }):=by
    intro fn w1 Bk d mark hBk hent hblk hold hbel hmarks;have hx1:Ext n0 m H w (m.put H.size ⟨Bk,0,0,0,true,false⟩) (H.addLoop (loopOf a' ps assign body)) w1:=Ext.addLoop hHR _ hBk hblk (loopOf_rec hA ps assign body fn d) hold hbel;have hm1:(m.put H.size ⟨Bk,0,0,0,true,false⟩) H.size = some ⟨Bk,0,0,0,true,false⟩:=by simp [Map.put]
    have hyv:VR (m.put H.size ⟨Bk,0,0,0,true,false⟩) (.func (.yield H.size) ⟨[]⟩ ⟨[]⟩) (.func (.yield Bk) ⟨[]⟩ ⟨[]⟩):=VR.yield hm1;have hargs:=((hfa.mono hx1.mono).append (VRs.cons hyv VRs.nil)).append (hfb.mono hx1.mono);refine ⟨Bk,mark,w1,{ target:=.fn (.func f) ⟨fb'⟩,args:=⟨fa'⟩ ++ #[.func (.yield Bk) #[] #[]] },w1,f,⟨fa'⟩ ++ #[.func (.yield Bk) #[] #[]] ++ ⟨fb'⟩,w1,hent,?_,fun _ _ => fence_fn _ _,?_,by rw [fence_depth]; simp,?_⟩
    · have hev:(#[Operand.const (.func (.yield Bk) #[] #[])]).map A.eval = #[Value.func (.yield Bk) #[] #[]]:=by simp [Act.eval]
      simp only [resolve,rangeCall,hAg,hev,Deferred.ofValue,Sem.run_pure]
    · simp only [invoke];exact run_callFunc hE
    · have hcs:=hc.goes _ _ _ _ _ hcall hE n0 _ w1 _ hx1.hr (hG.mono hx1.mono) hargs;have harr:(fa' ++ [Value.func (.yield Bk) ⟨[]⟩ ⟨[]⟩] ++ fb').toArray = (⟨fa'⟩ ++ #[Value.func (.yield Bk) #[] #[]] ++ ⟨fb'⟩:Array Value):=by
        apply Array.ext'; simp
      rw [harr] at hcs;refine callsIn_of (hcs.mono ?_);rintro en w3 ⟨v',m3,rfl,hx2,hv⟩;have hm3:=hx2.mono _ _ hm1;obtain ⟨L,hL,hR,hx3⟩:=Ext.setLoop hx2.hr hm3 hrow hro hl .exhausted lr.pending;refine ⟨L.pending,_,endLoop_run hL (by rw [hR.st]; exact hb),?_⟩
      rw [setLoop_id_pending hR,hR.pd,exitOf_some he];refine jump_walk ?_
      obtain ⟨g1,i1⟩:=addLoop_go hHR.inv (loopOf a' ps assign body);obtain ⟨g2,i2⟩:=hc.go _ _ _ _ _ hcall i1;obtain ⟨g3,i3⟩:=setLoop_go i2 hrow hl .exhausted lr.pending;have hx12:=hx1.trans hx2 g1 g2;have hx123:=hx12.trans hx3 (g1.trans g2) g3;rw [← exitOf_some he];exact hQ _ _ _ hx123 ⟨hA.tm.mono hx123.mono⟩ ((hmarks.ext hx2).ext hx3)
  refine wpIn_rangeFunc fun fn _ => ?_
  cases ro with
  | none =>
    have hold2:∀ (x y:Obj) (b:Nat),b < w.heap.size → ((w.heap.push x).push y)[b]? = w.heap[b]?:=fun x y b hb => by
      simp [Array.getElem?_push,Nat.ne_of_lt hb,Nat.ne_of_lt (Nat.lt_succ_of_lt hb)]
    refine key fn _ (w.heap.size + 1) w.heap.size [markOf w.heap.size] (by omega) enterLoop_none ?_ ?_ ?_ ?_
    · exact push2 _ _ _
    · exact fun b hb => hold2 _ _ b hb
    · have:=hHR.base;exact ⟨rfl,rfl,rfl,by simp; omega,fun b hb => hold2 _ _ b (by omega)⟩
    · refine Marks.cons hM hB (by simp [Array.getElem?_push]) (fun b hb => hold2 _ _ b hb) (fun l rm hm => ?_) fun l rm hm => hHR.blk_lt hm
      rcases Map.put_inv hm with ⟨_,rfl⟩ | ⟨_,h1⟩
      · exact .inr rfl
      · exact .inl h1
  | some l0 =>
    obtain ⟨L0,hL0⟩:=hRo l0 rfl;refine key fn _ w.heap.size L0.defers [] (Nat.le_refl _) (enterLoop_some hL0) ?_ ?_ ?_ ?_
    · simp
    · intro b hb;simp [Array.getElem?_push,Nat.ne_of_lt hb]
    · have:=hHR.base;refine ⟨rfl,rfl,rfl,by simp,fun b hb => ?_⟩
      have hb':b < w.heap.size:=by omega
      simp [Array.getElem?_push,Nat.ne_of_lt hb']
    · refine Marks.same hM (fun b hb => by simp [Array.getElem?_push,Nat.ne_of_lt hb]) fun l rm hm => ?_
      rcases Map.put_inv hm with ⟨_,rfl⟩ | ⟨_,h1⟩
      · exact .inr (Nat.le_refl _)
      · exact .inl h1

theorem aCode_sound (hc:CallOk P G call) (hmix:P.follows .mixedOrders = true):∀ (n:Nat) (c:Code) (a:Act) (H:Heap) (e:AExit) (a':Act) (H':Heap),okCode G c = true → aCode P call n c a H = some (e,a',H') →
    CodeOk P G c a H e a' H' ∧ ∀ x,c = .loop x → Goes P G a H e a' H' fun F Q A w => Code.roundsIn F 0 P x Q n A w:=by
  intro n
  induction n with
  | zero => intro c a H e a' H' _ h; cases h
  | succ n ih =>
    intro c a H e a' H' hok h;cases c <;> simp only [aCode] at h <;> simp only [okCode,Bool.and_eq_true] at hok
    case loop x =>
      have hr:Goes P G a H e a' H' fun F Q A w => Code.roundsIn F 0 P x Q (n + 1) A w:=by
        intro ro n0 B m w A Q hHR hG hA hM hB hRo hQ;rw [roundsIn_succ];rcases thenN_inv h with ⟨a1,H1,hb,hl⟩ | ⟨hb,hne⟩
        · obtain ⟨⟨go1,ok1⟩,_⟩:=ih x a H _ _ _ hok hb;obtain ⟨⟨go2,_⟩,ok2⟩:=ih (.loop x) a1 H1 _ _ _ (by simpa [okCode] using hok) hl
          refine ok1 ro n0 B m w A _ hHR hG hA hM hB hRo fun A1 m1 w1 hext hA1 hM1 => ?_
          show Code.roundsIn (fenceOf ro) 0 P x Q n A1 w1;refine ok2 x rfl ro n0 B m1 w1 A1 Q hext.hr (hG.mono hext.mono) hA1 hM1 (Nat.le_trans hB hext.below.size) (hRo.ext hext) fun A2 m2 w2 hext2 hA2 hM2 => ?_
          have g1:=go1 hHR.inv;exact hQ A2 m2 w2 (hext.trans hext2 g1.1 (go2 g1.2).1) hA2 hM2
        · obtain ⟨⟨_,ok1⟩,_⟩:=ih x a H _ _ _ hok hb;exact ok1 ro n0 B m w A _ hHR hG hA hM hB hRo fun A1 m1 w1 hext hA1 hM1 => exit_then hne (hQ A1 m1 w1 hext hA1 hM1)
      refine ⟨⟨fun hi => ?_,fun ro n0 B m w A Q hHR hG hA hM hB hRo hQ => wpIn_loop_rounds (n + 1) (hr ro n0 B m w A Q hHR hG hA hM hB hRo hQ)⟩,fun y hy => ?_⟩
      · rcases thenN_inv h with ⟨a1,H1,hb,hl⟩ | ⟨hb,hne⟩
        · obtain ⟨⟨go1,_⟩,_⟩:=ih x a H _ _ _ hok hb;obtain ⟨⟨go2,_⟩,_⟩:=ih (.loop x) a1 H1 _ _ _ (by simpa [okCode] using hok) hl
          exact ⟨(go1 hi).1.trans (go2 (go1 hi).2).1,(go2 (go1 hi).2).2⟩
        · exact (ih x a H _ _ _ hok hb).1.1 hi
      · cases hy; exact hr
    all_goals refine ⟨?_,fun y hy => by cases hy⟩
    case skip =>
      cases h;exact ⟨fun hi => .refl hi,fun ro n0 B m w A Q hHR _ hA hM _ _ hQ => wpIn_skip (hQ A m w (.refl hHR) hA hM)⟩
    case label l =>
      cases h;exact ⟨fun hi => .refl hi,fun ro n0 B m w A Q hHR _ hA hM _ _ hQ => wpIn_label (hQ A m w (.refl hHR) hA hM)⟩
    case exit id =>
      cases h;exact ⟨fun hi => .refl hi,fun ro n0 B m w A Q hHR _ hA hM _ _ hQ => wpIn_exit (hQ A m w (.refl hHR) hA hM)⟩
    case goto l =>
      cases h;exact ⟨fun hi => .refl hi,fun ro n0 B m w A Q hHR _ hA hM _ _ hQ => wpIn_goto (hQ A m w (.refl hHR) hA hM)⟩
    case ret =>
      cases h;exact ⟨fun hi => .refl hi,fun ro n0 B m w A Q hHR _ hA hM _ _ hQ => wpIn_ret (hQ A m w (.refl hHR) hA hM)⟩
    case region id ops dr =>
      unfold asN at h;split at h
      · rename_i a1 H1 hr;cases h;cases dr with
        | true =>
          rw [cond_true] at hr;simp only [Bool.not_true,Bool.false_or] at hok;exact ⟨fun hi => aDraw_go hc _ _ hi hr,fun ro n0 B m w A Q hHR hG hA hM _ _ hQ => aDraw_sound ro hc hmix hok.2 hok.1 hHR hG hA hr fun A' m' w' hext hA' hD => hQ A' m' w' hext hA' (by rw [hD]; exact hM.ext hext)⟩
        | false =>
          rw [cond_false] at hr;refine ⟨fun hi => aOps_go hc hi hr,fun ro n0 B m w A Q hHR hG hA hM _ _ hQ => wpIn_region ?_⟩
          have:=aOps_sound (i:=0) ro hc (by simp) hok.1 hHR hG hA hr fun A' m' w' hext hA' hD => hQ A' m' w' hext hA' (by rw [hD]; exact hM.ext hext)
          rw [Array.length_toList,← List.range_eq_range'] at this;exact this
      · cases h
    case seq x y =>
      rcases thenN_inv h with ⟨a1,H1,hb,hl⟩ | ⟨hb,hne⟩
      · obtain ⟨⟨go1,ok1⟩,_⟩:=ih x a H _ _ _ hok.1 hb;obtain ⟨⟨go2,ok2⟩,_⟩:=ih y a1 H1 _ _ _ hok.2 hl;refine ⟨fun hi => ⟨(go1 hi).1.trans (go2 (go1 hi).2).1,(go2 (go1 hi).2).2⟩,fun ro n0 B m w A Q hHR hG hA hM hB hRo hQ => wpIn_seq ?_⟩
        refine ok1 ro n0 B m w A _ hHR hG hA hM hB hRo fun A1 m1 w1 hext hA1 hM1 => ?_
        show y.wpIn (fenceOf ro) 0 P Q A1 w1;refine ok2 ro n0 B m1 w1 A1 Q hext.hr (hG.mono hext.mono) hA1 hM1 (Nat.le_trans hB hext.below.size) (hRo.ext hext) fun A2 m2 w2 hext2 hA2 hM2 => ?_
        have g1:=go1 hHR.inv;exact hQ A2 m2 w2 (hext.trans hext2 g1.1 (go2 g1.2).1) hA2 hM2
      · obtain ⟨⟨go1,ok1⟩,_⟩:=ih x a H _ _ _ hok.1 hb;exact ⟨go1,fun ro n0 B m w A Q hHR hG hA hM hB hRo hQ => wpIn_seq (ok1 ro n0 B m w A _ hHR hG hA hM hB hRo fun A1 m1 w1 hext hA1 hM1 => exit_then hne (hQ A1 m1 w1 hext hA1 hM1))⟩
    case cond c x y =>
      split at h
      · rename_i t ht;have hx:okCode G (cond t x y) = true:=by cases t; exact hok.2.2; exact hok.2.1
        obtain ⟨⟨go1,ok1⟩,_⟩:=ih _ a H _ _ _ hx h;refine ⟨go1,fun ro n0 B m w A Q hHR hG hA hM hB hRo hQ => ?_⟩
        have hv:=hA.eval hG hok.1;rw [ht] at hv;refine wpIn_cond (t:=t) hv.bool_inv ?_
        have:=ok1 ro n0 B m w A Q hHR hG hA hM hB hRo hQ;cases t <;> exact this
      · cases h
    case block id x =>
      unfold outOf at h;split at h
      · rename_i i a1 H1 hr;obtain ⟨⟨go1,ok1⟩,_⟩:=ih x a H _ _ _ hok hr;cases hb:Nat.beq i id with
        | true =>
          rw [hb,cond_true] at h;cases h;refine ⟨go1,fun ro n0 B m w A Q hHR hG hA hM hB hRo hQ => wpIn_block (ok1 ro n0 B m w A _ hHR hG hA hM hB hRo fun A1 m1 w1 hext hA1 hM1 => ?_)⟩
          show (if i = id then Q .normal A1 w1 else Q (.exit i) A1 w1)
          rw [if_pos (Nat.eq_of_beq_eq_true hb)];exact hQ A1 m1 w1 hext hA1 hM1
        | false =>
          rw [hb,cond_false] at h;cases h;refine ⟨go1,fun ro n0 B m w A Q hHR hG hA hM hB hRo hQ => wpIn_block (ok1 ro n0 B m w A _ hHR hG hA hM hB hRo fun A1 m1 w1 hext hA1 hM1 => ?_)⟩
          show (if i = id then Q .normal A1 w1 else Q (.exit i) A1 w1)
          rw [if_neg (fun he => by rw [he] at hb; simp at hb)]
          exact hQ A1 m1 w1 hext hA1 hM1
      · rename_i hne;obtain ⟨⟨go1,ok1⟩,_⟩:=ih x a H _ _ _ hok h;refine ⟨go1,fun ro n0 B m w A Q hHR hG hA hM hB hRo hQ => wpIn_block (ok1 ro n0 B m w A _ hHR hG hA hM hB hRo fun A1 m1 w1 hext hA1 hM1 => ?_)⟩
        have:=hQ A1 m1 w1 hext hA1 hM1;cases e with
        | exit i => exact absurd h (hne _ _ _)
        | _ => exact this
    case scope x =>
      unfold noGo at h;split at h
      · cases h
      · rename_i hne;obtain ⟨⟨go1,ok1⟩,_⟩:=ih x a H _ _ _ hok h;refine ⟨go1,fun ro n0 B m w A Q hHR hG hA hM hB hRo hQ => wpIn_scope_straight (ok1 ro n0 B m w A _ hHR hG hA hM hB hRo fun A1 m1 w1 hext hA1 hM1 => ?_)⟩
        have:=hQ A1 m1 w1 hext hA1 hM1;cases e with
        | goto l => exact absurd h (hne _ _ _)
        | _ => exact this
    case rangeFunc g ps as bd =>
      split at h
      · rename_i f fa fb hg;exact rangeFunc_sound hc hok hg h
      · cases h
    all_goals cases h

end Go.AM

namespace Go.AM
open Go.RowKit (Below)

variable {P:Program} {n0:Nat}
variable {G:Nat} {call:CallF}

/-! Functions. -/

def aRes (P:Program) (H:Heap) (tmps:Array Value):List ResultVar → Option (List Value)
  | [] => some []
  | .tmp t :: l => (aRes P H tmps l).map fun vs => tmps.getD t undef :: vs
  | .cell a t :: l => match aLoad P H t (tmps.getD a undef) with
    | some v => (aRes P H tmps l).map fun vs => v :: vs
    | none => none

def packRes:List Value → Value
  | [v] => v
  | vs => .tuple ⟨vs⟩

def resOne (tmps:Array Value):ResultVar → Sem Value
  | .tmp t => pure (tmps.getD t undef)
  | .cell b t => do loadVar t (← asAddr (tmps.getD b undef))

theorem resOne_cell {m:Map} {H:Heap} {w:World} {a A:Act} (h:HR n0 m H w) (hA:AR m a A) {b:Tmp} {t:TypeId} {v:Value} (hl:aLoad P H t (a.tmps.getD b undef) = some v) :
    ∃ v',(resOne A.tmps (.cell b t)).run P w = .ok v' w ∧ VR m v v':=by
  obtain ⟨v',hrl,hvl⟩:=aLoad_sound (P:=P) h (hA.getD b) hl;refine ⟨v',?_,hvl⟩;have hp:=hA.getD b;unfold aLoad at hl;split at hl
  · rename_i r o hab;rw [hab] at hp;obtain ⟨rm,_,hA2⟩:=hp.ptr_inv;show (do loadVar t (← asAddr (A.tmps.getD b undef)):Sem Value).run P w = _
    rw [hA2] at hrl ⊢
    simpa [Instr.loadAt,Instr.sureAddr,asAddr] using hrl
  · cases hl

theorem aRes_sound {m:Map} {H:Heap} {w:World} {a A:Act} (h:HR n0 m H w) (hA:AR m a A):∀ {l:List ResultVar} {vs:List Value},aRes P H a.tmps l = some vs →
    ∃ vs',(l.mapM (resOne A.tmps)).run P w = .ok vs' w ∧ VRs m vs vs'
  | [],vs,e => by cases e; exact ⟨[],by simp,.nil⟩
  | .tmp t :: l,vs,e => by
    unfold aRes at e;rw [Option.map_eq_some_iff] at e;obtain ⟨us,hu,rfl⟩:=e;obtain ⟨us',hr,hv⟩:=aRes_sound h hA hu;have h1:(resOne A.tmps (.tmp t)).run P w = .ok (A.tmps.getD t undef) w:=rfl;exact ⟨A.tmps.getD t undef :: us',by simp only [List.mapM_cons,Sem.run_bind,h1,Result.andThen_ok,hr,Sem.run_pure],.cons (hA.getD t) hv⟩
  | .cell b t :: l,vs,e => by
    unfold aRes at e;split at e
    · rename_i v hl;rw [Option.map_eq_some_iff] at e;obtain ⟨us,hu,rfl⟩:=e;obtain ⟨us',hr,hv⟩:=aRes_sound h hA hu;obtain ⟨v',h1,hvl⟩:=resOne_cell (P:=P) h hA hl;exact ⟨v' :: us',by simp only [List.mapM_cons,Sem.run_bind,h1,Result.andThen_ok,hr,Sem.run_pure],.cons hvl hv⟩
    · cases e

theorem results_eq (fn:Func) (tmps:Array Value):results fn tmps = (do
    let vs ← fn.results.mapM (resOne tmps)
    pure (if h:vs.size = 1 then vs[0] else .tuple vs)):=by
  unfold results;congr 1

theorem results_run {fn:Func} {m:Map} {H:Heap} {w:World} {a A:Act} (h:HR n0 m H w) (hA:AR m a A) {vs:List Value} (e:aRes P H a.tmps fn.results.toList = some vs) :
    ∃ v',(results fn A.tmps).run P w = .ok v' w ∧ VR m (packRes vs) v':=by
  obtain ⟨vs',hr,hv⟩:=aRes_sound h hA e;have hrun:(results fn A.tmps).run P w = .ok (if h:vs'.toArray.size = 1 then vs'.toArray[0] else .tuple vs'.toArray) w:=by
    rw [results_eq,Array.mapM_eq_mapM_toList];simp only [Sem.run_bind,Sem.run_map,hr,Result.andThen_ok,Sem.run_pure]
  refine ⟨_,hrun,?_⟩
  match vs,vs',hv with
  | [],[],.nil => exact .tuple .nil
  | [x],[x'],.cons hx .nil => exact hx
  | x :: y :: l,x' :: y' :: l',hv => exact .tuple hv

def aFun (P:Program) (call:CallF) (n:Nat) (f:FuncId) (args:List Value) (H:Heap):Option (Value × Heap):=match P.funcs[f]? with
  | some fn => match fn.body with
    | some c => match aCode P call n c { tmps:=args.toArray ++ Array.replicate (fn.ntmps - args.toArray.size) undef,defers:=[] } H with
      | some (.normal,a,H') => (aRes P H' a.tmps fn.results.toList).map fun vs => (packRes vs,H')
      | some (.ret,a,H') => (aRes P H' a.tmps fn.results.toList).map fun vs => (packRes vs,H')
      | _ => none
    | none => (aExt fn args).map fun v => (v,H)
  | none => none

/-! One round. -/

def putAll:List Tmp → List Value → Array Value → Array Value
  | t :: ts,v :: vs,A => putAll ts vs (A.setIfInBounds t v)
  | _,_,A => A

theorem putAll_eq:∀ (ts:List Tmp) (vs:List Value) (A:Array Value),(ts.zip vs).foldl (fun tmps (x:Tmp × Value) => tmps.setIfInBounds x.1 x.2) A = putAll ts vs A
  | [],vs,A => by simp [putAll]
  | t :: ts,[],A => by simp [putAll]
  | t :: ts,v :: vs,A => by simp [putAll,putAll_eq ts vs]

theorem putAll_VRs {m:Map}:∀ (ts:List Tmp) {vs vs':List Value} {A A':Array Value},VRs m vs vs' → VRs m A.toList A'.toList → VRs m (putAll ts vs A).toList (putAll ts vs' A').toList
  | [],_,_,A,A',_,h => h
  | t :: ts,_,_,A,A',.nil,h => h
  | t :: ts,_,_,A,A',.cons hv hvs,h => by
    refine putAll_VRs ts hvs ?_
    have:=(AR.mk (a:={ tmps:=A,defers:=[] }) (A:={ tmps:=A',defers:=[] }) h).put (some t) hv;exact this.tm

def ready:LoopState → Bool
  | .ready => true
  | _ => false

def stOf (e:AExit):LoopState:=match e with
  | .normal => .ready
  | _ => .done
def goOn (e:AExit):Bool:=match e with
  | .normal => true
  | _ => false

def lenEq:List Tmp → List Value → Bool
  | [],[] => true
  | _ :: a,_ :: b => lenEq a b
  | _,_ => false
theorem lenEq_eq:∀ {a:List Tmp} {b:List Value},lenEq a b = true → a.length = b.length
  | [],[],_ => rfl
  | _ :: a,_ :: b,h => by simpa using lenEq_eq (a:=a) (b:=b) h

def endR {α:Type} (l:Nat) (r:Option (AExit × α × Heap)):Option (Value × Heap):=match r with
  | some (e,_,H) => match H.rows.get l with
    | some row => match row.loop with
      | some (.lp _) => cond (!row.ro) (some (.bool (goOn e),H.setLoop l row (stOf e) e.jump)) none
      | _ => none
    | none => none
  | none => none

def beginR {α:Type} (l:Nat) (r:Option (AExit × α × Heap)) (k:α → Heap → Option (AExit × α × Heap)):Option (AExit × α × Heap):=match r with
  | some (.normal,a,H) => match H.rows.get l with
    | some row => match row.loop with
      | some (.lp lr) => cond (ready lr.state && !row.ro) (k a (H.setLoop l row .busy lr.pending)) none
      | _ => none
    | none => none
  | _ => none

def aRound (P:Program) (G:Nat) (call:CallF) (n:Nat) (l:Nat) (args:List Value) (H:Heap):Option (Value × Heap):=match H.rows.get l with
  | some row => match row.loop with
    | some (.lp lr) => cond (lenEq lr.params.toList args && (okCode G lr.assign && okCode G lr.body))
        (endR l (beginR l (aCode P call n lr.assign { tmps:=putAll lr.params.toList args lr.tmps,defers:=[] } H) (aCode P call n lr.body))) none
    | _ => none
  | none => none

structure RoundSteps (P:Program) (G:Nat) (call:CallF) (n:Nat) (l:Nat) (args:List Value) (H:Heap) (v:Value) (H':Heap) where
  row:Row
  lr:LoopRec
  row1:Row
  lr1:LoopRec
  row2:Row
  lr2:LoopRec
  a1:Act
  a2:Act
  H1:Heap
  H2:Heap
  e:AExit
  hrow:H.rows.get l = some row
  hl:row.loop = some (.lp lr)
  len:lr.params.toList.length = args.length
  ok1:okCode G lr.assign = true
  ok2:okCode G lr.body = true
  c1:aCode P call n lr.assign { tmps:=putAll lr.params.toList args lr.tmps,defers:=[] } H = some (.normal,a1,H1)
  hrow1:H1.rows.get l = some row1
  hl1:row1.loop = some (.lp lr1)
  hst:ready lr1.state = true
  hro1:row1.ro = false
  c2:aCode P call n lr.body a1 (H1.setLoop l row1 .busy lr1.pending) = some (e,a2,H2)
  hrow2:H2.rows.get l = some row2
  hl2:row2.loop = some (.lp lr2)
  hro2:row2.ro = false
  hv:v = .bool (goOn e)
  hH:H' = H2.setLoop l row2 (stOf e) e.jump

theorem aRound_steps {n l:Nat} {args:List Value} {H H':Heap} {v:Value} (h:aRound P G call n l args H = some (v,H')):Nonempty (RoundSteps P G call n l args H v H'):=by
  unfold aRound at h;split at h
  case h_2 => cases h
  rename_i row hrow;split at h
  case h_2 => cases h
  rename_i lr hl;obtain ⟨hc,h⟩:=Zaaw h;simp only [Bool.and_eq_true] at hc;unfold endR at h;split at h
  case h_2 => cases h
  rename_i e a2 H2 hb;split at h
  case h_2 => cases h
  rename_i row2 hrow2;split at h
  case h_2 => cases h
  rename_i lr2 hl2;obtain ⟨hro2,h⟩:=Zaaw h;cases h;unfold beginR at hb;split at hb
  case h_2 => cases hb
  rename_i a1 H1 hc1;split at hb
  case h_2 => cases hb
  rename_i row1 hrow1;split at hb
  case h_2 => cases hb
  rename_i lr1 hl1;obtain ⟨hst,hb⟩:=Zaaw hb;simp only [Bool.and_eq_true,Bool.not_eq_true'] at hst hro2;exact ⟨⟨row,lr,row1,lr1,row2,lr2,a1,a2,H1,H2,e,hrow,hl,lenEq_eq hc.1,hc.2.1,hc.2.2,hc1,hrow1,hl1,hst.1,hst.2,hb,hrow2,hl2,hro2,rfl,rfl⟩⟩

theorem yield_run {b:Nat} {L:Loop} {w:World} (h:w.heap[b]? = some (.loop L)) {args:List Value} (hn:L.params.toList.length = args.length) :
    (Instr.yield b args.toArray).run P w = .ok (.round b L.fn (putAll L.params.toList args L.tmps) L.assign L.body) w:=by
  have hs:args.toArray.size = L.params.size:=by simp only [List.size_toArray]; rw [← hn]; simp
  have hz:(L.params.zip args.toArray).foldl (fun tmps (x:Tmp × Value) => tmps.setIfInBounds x.1 x.2) L.tmps = putAll L.params.toList args L.tmps:=by
    rw [← putAll_eq,← Array.foldl_toList,Array.toList_zip]
  simp only [Instr.yield,Instr.getLoop,getObj,Sem.run_bind,Sem.run,h,Result.andThen_ok,Sem.run_pure,hs,ne_eq,not_true_eq_false,if_false];rw [← hz]

theorem beginRound_run {b:Nat} {L:Loop} {w:World} (h:w.heap[b]? = some (.loop L)) (hs:ready L.state = true) :
    (Instr.beginRound b).run P w = .ok () (World.setObjAt w b (.loop { L with state:=.busy,pending:=L.pending })):=by
  have:L.state = .ready:=by cases hh:L.state <;> first | rfl | (rw [hh] at hs; cases hs)
  simp [Instr.beginRound,Instr.getLoop,getObj,setObj,Sem.run,h,this,World.setObjAt]

theorem endRound_run {b:Nat} {L:Loop} {w:World} (h:w.heap[b]? = some (.loop L)) (e:AExit) :
    (Instr.endRound b e.jump).run P w = .ok (.bool (goOn e)) (World.setObjAt w b (.loop { L with state:=stOf e,pending:=e.jump })):=by
  cases e <;> simp [Instr.endRound,Instr.getLoop,getObj,setObj,Sem.run,h,World.setObjAt,stOf,goOn,AExit.jump]

theorem roundPost_of {l:Nat} {R:Ending → World → Prop} {e:AExit} {a:Act} {w:World} (h:∃ v w',(Instr.endRound l e.jump).run P w = .ok v w' ∧ R (.returned v) w'):roundPost P l R e.real a w:=by
  cases e <;> exact h

theorem RoundSteps.go (hc:CallOk P G call) (hmix:P.follows .mixedOrders = true) {n l:Nat} {args:List Value} {H H':Heap} {v:Value} (S:RoundSteps P G call n l args H v H') (hi:HInv H):HGo H H':=by
  obtain ⟨g1,i1⟩:=(aCode_sound hc hmix n _ _ _ _ _ _ S.ok1 S.c1).1.1 hi;obtain ⟨g2,i2⟩:=setLoop_go i1 S.hrow1 S.hl1 .busy S.lr1.pending;obtain ⟨g3,i3⟩:=(aCode_sound hc hmix n _ _ _ _ _ _ S.ok2 S.c2).1.1 i2;obtain ⟨g4,i4⟩:=setLoop_go i3 S.hrow2 S.hl2 (stOf S.e) S.e.jump;rw [S.hH];exact ⟨((g1.trans g2).trans g3).trans g4,i4⟩

theorem RoundSteps.sound (hc:CallOk P G call) (hmix:P.follows .mixedOrders = true) {n l:Nat} {args:List Value} {H H':Heap} {v:Value} (S:RoundSteps P G call n l args H v H')
    {m:Map} {w:World} {args':List Value} {rm:RowMap} (hHR:HR n0 m H w) (hG:Glob m G) (hargs:VRs m args args') (hm:m l = some rm) :
    ∃ f tmps assign body,(Instr.yield rm.blk args'.toArray).run P w = .ok (.round rm.blk f tmps assign body) w ∧
      RoundIn Fence.wide 0 P rm.blk f tmps assign body w fun e w' => ∃ v' m',e = .returned v' ∧ Ext n0 m H w m' H' w' ∧ VR m' v v':=by
  obtain ⟨_,L,hL,hR⟩:=(hHR.rowOf hm S.hrow).loopRec S.hl;refine ⟨L.fn,_,_,_,yield_run hL (by rw [hR.ps,S.len]; exact hargs.length),?_⟩
  obtain ⟨⟨go1,ok1⟩,_⟩:=aCode_sound hc hmix n _ _ _ _ _ _ S.ok1 S.c1;obtain ⟨⟨go2,ok2⟩,_⟩:=aCode_sound hc hmix n _ _ _ _ _ _ S.ok2 S.c2;obtain ⟨g1,i1⟩:=go1 hHR.inv;obtain ⟨g2,i2⟩:=setLoop_go i1 S.hrow1 S.hl1 .busy S.lr1.pending;obtain ⟨g3,i3⟩:=go2 i2;obtain ⟨g4,i4⟩:=setLoop_go i3 S.hrow2 S.hl2 (stOf S.e) S.e.jump;refine roundIn_of_wpIn trivial ?_
  rw [hR.ps,hR.as,hR.bd];have hRo:RoOk (some rm.blk) w:=fun b hb => by cases hb; exact ⟨L,hL⟩
  refine ok1 (some rm.blk) n0 w.heap.size m w _ _ hHR hG ⟨putAll_VRs _ hargs hR.tm⟩ (Marks.nil _ _ _) (Nat.le_refl _) hRo fun A1 m1 w1 hx1 hA1 hM1 => ?_
  obtain ⟨L1,hL1,hR1,hx2⟩:=Ext.setLoop hx1.hr (hx1.mono _ _ hm) S.hrow1 S.hro1 S.hl1 .busy S.lr1.pending;have hx12:=hx1.trans hx2 g1 g2;refine ⟨_,beginRound_run hL1 (by rw [hR1.st]; exact S.hst),?_⟩
  rw [hR1.pd];refine ok2 (some rm.blk) n0 w.heap.size m1 _ _ _ hx2.hr (hG.mono hx1.mono) (hA1.mono hx2.mono) (hM1.ext hx2) hx12.below.size (hRo.ext hx12) fun A2 m2 w2 hx3 hA2 hM2 => ?_
  have hx123:=hx12.trans hx3 (g1.trans g2) g3;obtain ⟨L2,hL2,_,hx4⟩:=Ext.setLoop hx3.hr (hx123.mono _ _ hm) S.hrow2 S.hro2 S.hl2 (stOf S.e) S.e.jump;have hx:=hx123.trans hx4 ((g1.trans g2).trans g3) g4;refine roundPost_of ⟨_,_,endRound_run hL2 S.e,.bool (goOn S.e),m2,rfl,?_,?_⟩
  · have key:∀ X,X = S.H2.setLoop l S.row2 (stOf S.e) S.e.jump → Ext n0 m H w m2 X (World.setObjAt w2 rm.blk (.loop { L2 with state:=stOf S.e,pending:=S.e.jump })):=fun X hX => by rw [hX]; exact hx
    exact key _ S.hH
  · have key:∀ X,X = Value.bool (goOn S.e) → VR m2 X (.bool (goOn S.e)):=fun X hX => by rw [hX]; exact .plain rfl
    exact key _ S.hv

def aCallN (P:Program) (G D:Nat):Nat → CallF
  | 0,_,_,_ => none
  | d + 1,.fn f,args,H => aFun P (aCallN P G D d) D f args H
  | d + 1,.rnd l,args,H => aRound P G (aCallN P G D d) D l args H

def okFn (G:Nat) (fn:Func):Bool:=!(fn.name == "runtime.NumGoroutine") && match fn.body with
  | some c => okCode G c
  | none => true
def okProg (P:Program) (G:Nat):Bool:=P.funcs.toList.all (okFn G)

theorem aFun_key {n:Nat} {f:FuncId} {args:List Value} {H H':Heap} {v:Value} (h:aFun P call n f args H = some (v,H')):(∃ fn c e a',P.funcs[f]? = some fn ∧ fn.body = some c ∧ (e = .normal ∨ e = .ret) ∧
      aCode P call n c { tmps:=args.toArray ++ Array.replicate (fn.ntmps - args.toArray.size) undef,defers:=[] } H = some (e,a',H') ∧
      ∃ vs,aRes P H' a'.tmps fn.results.toList = some vs ∧ v = packRes vs) ∨ (ExtOk P f args v ∧ H' = H):=by
  unfold aFun at h;split at h
  · rename_i fn hf;split at h
    · rename_i c hb;split at h
      · rename_i a' H2 hcode;rw [Option.map_eq_some_iff] at h;obtain ⟨vs,h1,h2⟩:=h;cases h2;exact .inl ⟨fn,c,.normal,a',hf,hb,.inl rfl,hcode,vs,h1,rfl⟩
      · rename_i a' H2 hcode;rw [Option.map_eq_some_iff] at h;obtain ⟨vs,h1,h2⟩:=h;cases h2;exact .inl ⟨fn,c,.ret,a',hf,hb,.inr rfl,hcode,vs,h1,rfl⟩
      · cases h
    · rename_i hb;rw [Option.map_eq_some_iff] at h;obtain ⟨u,h1,h2⟩:=h;cases h2;exact .inr ⟨⟨fn,hf,by rw [hb]; rfl,h1⟩,rfl⟩
  · cases h

theorem okProg_fn (hp:okProg P G = true) {f:FuncId} {fn:Func} (h:P.funcs[f]? = some fn):okFn G fn = true:=by
  unfold okProg at hp;rw [List.all_eq_true] at hp;exact hp fn (Array.mem_toList_iff.2 (Array.mem_of_getElem? h))

theorem aFun_go (hp:okProg P G = true) (hmix:P.follows .mixedOrders = true) (hc:CallOk P G call) {n:Nat} {f:FuncId} {args:List Value} {H H':Heap} {v:Value} (h:aFun P call n f args H = some (v,H')) (hi:HInv H):HGo H H':=by
  rcases aFun_key h with ⟨fn,c,e,a',hf,hb,_,hcode,_⟩ | ⟨_,rfl⟩
  case inr => exact HGo.refl hi
  have hok:=okProg_fn hp hf;unfold okFn at hok;rw [hb,Bool.and_eq_true] at hok;exact (aCode_sound hc hmix n c _ H e a' H' hok.2 hcode).1.1 hi

theorem aFun_enter (hp:okProg P G = true) {n:Nat} {f:FuncId} {args:List Value} {H H':Heap} {v:Value} (h:aFun P call n f args H = some (v,H')):EnterOk P f ∨ (ExtOk P f args v ∧ H' = H):=by
  rcases aFun_key h with ⟨fn,c,e,a',hf,hb,_⟩ | hX
  case inr => exact .inr hX
  refine .inl ?_
  have hok:=okProg_fn hp hf;unfold okFn at hok;rw [Bool.and_eq_true,Bool.not_eq_true'] at hok;exact ⟨fn,hf,by rw [hb]; rfl,hok.1⟩

theorem aFun_goes (hp:okProg P G = true) (hmix:P.follows .mixedOrders = true) (hc:CallOk P G call) {n:Nat} {f:FuncId} {args:List Value} {H H':Heap} {v:Value} (h:aFun P call n f args H = some (v,H')) (hE:EnterOk P f)
    {m:Map} {w:World} {args':List Value} (hHR:HR n0 m H w) (hG:Glob m G) (hargs:VRs m args args') :
    Calls P f args'.toArray w fun e w' => ∃ v' m',e = .returned v' ∧ Ext n0 m H w m' H' w' ∧ VR m' v v':=by
  rcases aFun_key h with ⟨fn,c,e,a',hf,hb,he,hcode,vs,hres,rfl⟩ | ⟨⟨fn,hf,hb,_⟩,_⟩
  case inr =>
    obtain ⟨fn',hf',hb',_⟩:=hE;rw [hf] at hf'; cases hf';rw [Option.isNone_iff_eq_none] at hb;rw [hb] at hb'; cases hb'
  have hok:=okProg_fn hp hf;unfold okFn at hok;rw [hb,Bool.and_eq_true] at hok;refine (callsIn_wide (n:=0)).1 (callsIn_of_wp_marks hf hb trivial ?_);refine (aCode_sound hc hmix n c _ H e a' H' hok.2 hcode).1.2 none n0 w.heap.size m w _ _ hHR hG ⟨?_⟩ (Marks.nil _ _ _) (Nat.le_refl _) (fun l hl => by cases hl) fun A' m' w' hext hA hM => ?_
  · have hl:=hargs.length;simp only [Array.toList_append,Array.toList_replicate,List.size_toArray];rw [hl];refine hargs.append ?_
    exact VRs.of_plain (plains_of fun v hv => by rw [List.eq_of_mem_replicate hv]; rfl)
  · obtain ⟨rs,hrs,hnd,hall⟩:=hM;have:LeavesInM Fence.wide 0 P fn A'.tmps (fun e w' => ∃ v' m',e = .returned v' ∧ Ext n0 m H w m' H' w' ∧ VR m' (packRes vs) v') A'.defers .returning w':=by
      rw [hrs];refine leave_marks rs w' hnd (fun r hr => (hall r hr).1) fun w2 e1 e2 e3 e4 e5 => ?_
      have hx2:=hext.left (fun r hr => (hall r hr).2) e1 e2 e3 e4 e5
      obtain ⟨v',hrun,hv⟩:=results_run (fn:=fn) hx2.hr hA hres;exact ⟨v',hrun,v',m',rfl,hx2,hv⟩
    rcases he with rfl | rfl <;> exact this

/-! A call whose arguments hold no address,with no variable of the package level on the road. -/

def emptyH:Heap:={ size:=0,rows:=.leaf,grps:=.leaf,low:=0 }

theorem empty_hr (w:World):HR w.heap.size (fun _ => none) emptyH w where
  base:=Nat.le_refl _
  row:=fun r rm h => by cases h
  apart:=fun r r' rm rm' x x' h => by cases h
  inv:=fun r x h => by cases h

end Go.AM
