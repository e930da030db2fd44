/- The least worth of the journeys that begin with each leg: the function. -/
import Derived.Test.YteechkbnccpicaaM1
set_option linter.unusedVariables false
set_option linter.unusedSimpArgs false
set_option linter.unusedSectionVars false

namespace Go.Proofs.Yteechkbnccpicaa
open Go Go.AM
set_option maxRecDepth 10000

theorem alIs (H:Heap):aAlloc Try.prog H 25 = some (.pointer (some ⟨H.size,0,none⟩),H.newExact [.slice none 0 0] 25):=by kernel_rfl
theorem infoIs:∃ i,Try.prog.info? 25 = some i ∧ i.size = 1:=Option.map_eq_some_iff.1 (show (Try.prog.info? 25).map (·.size) = some 1 by kernel_rfl)
theorem newIs (H:Heap) (a:Option Addr) (n c:Nat):∃ H2,aStore Try.prog (H.newExact [.slice none 0 0] 25) 25 (.pointer (some ⟨H.size,0,none⟩)) (.slice a n c) = some H2 ∧ Keep H H2 ∧ Own H2 H.size 25 [.slice a n c]:=by
  obtain ⟨i,hi,hsz⟩:=infoIs;obtain ⟨H2,h1,h2,h3,h4,h5⟩:=(Own.new H [.slice none 0 0] 25).store (t:=25) hi (v:=.slice a n c) (new:=[.slice a n c]) rfl (by rw [hsz]; rfl) rfl (o:=0) (by show 0 + 1 ≤ 1; decide)
  exact ⟨H2,h1,h5 H (Keep.newExact _ _ _) (Nat.le_refl _),h2⟩
theorem stD {HB:Base} (hLB:HB.low ≤ HB.size) {H:Heap} {b r:Nat} {d:Array Int} (h:SaI HB H b r true d) {i:Nat} (hi:i < d.size) (x:Int) :
    ∃ H2 H3,aStore Try.prog (H.relow H.size) 3 (.pointer (some ⟨r,i,none⟩)) (.int .i64 x) = some H2 ∧ H2.relow (Nat.min H.low H2.low) = H3 ∧ SaI HB H3 b r true (d.setIfInBounds i x) ∧ H3.size = H.size ∧ H3.low ≤ H3.size ∧ (∀ l lr,l ≠ r → LoopAt H l lr → LoopAt H3 l lr):=by
  have hlo:=h.keep.lo;obtain ⟨H2,h1,h2,h3⟩:=stAtI (h.kept (Keep.relowS H)) hi x;have lo2:=h2.keep.lo;have lw2:=h2.keep.low hLB;have h3':H2.size = H.size:=h3;refine ⟨H2,_,h1,rfl,h2.relow (Nat.le_min.2 ⟨hlo,lo2⟩) fun _ => Nat.le_trans (Nat.min_le_right _ _) lw2,h3',Nat.le_trans (Nat.min_le_right _ _) lw2,fun l lr hl hlp => ?_⟩
  exact ((hlp.relow (k:=H.size)).store h1 hl).relow
theorem flat_set_at {d:Array Int} {i j:Nat} (hi:i < d.size) (x:Int):(d.setIfInBounds i x)[j]! = if j = i then x else d[j]!:=by
  by_cases h:j = i
  · subst h;rw [if_pos rfl,getElem!_pos _ j (by simpa using hi),Array.getElem_setIfInBounds,if_pos rfl]
    simpa using hi
  · rw [if_neg h];simp only [getElem!_def,Array.getElem?_setIfInBounds,if_neg (Ne.symm h)]

theorem ldWf (H:Heap) (r o:Nat):aLoad Try.prog H 93 (.pointer (some ⟨r,o,none⟩)) = (H.read r o 1).bind one1:=by kernel_rfl
theorem tailI {H:Heap} {ro:Nat} {cells:List Value} (ho:Own H ro 3 cells) {n p:Nat} (hp:p ≤ n):∃ q,aSlice Try.prog H 25 (.slice (some ⟨ro,0,none⟩) n n) (some (.int .i64 (p:Int))) none none = some (.slice (some ⟨ro,q,none⟩) (n - p) (n - p)) ∧ (p < n → q = p):=by
  obtain ⟨i,hi,hsz⟩:=infoI;have hb:aBounds n n (some (.int .i64 (p:Int))) none none = some (p,n,n):=by
    unfold aBounds aBound;have g1:(0:Int) ≤ (p:Int) ∧ (p:Int) ≤ (n:Int):=by omega
    simp [g1]
  refine ⟨cond (Nat.beq n p) 0 (0 + p * 1),?_,fun h => ?_⟩
  · unfold aSlice;rw [Try.underlying25];simp only [];rw [hi,ho.get,hb];simp only [];rw [show Nat.ble n n = true from Nat.ble_eq_true_of_le (Nat.le_refl n),hsz]
    rfl
  · have hq:Nat.beq n p = false:=by
      cases hbq:Nat.beq n p
      · rfl
      · exact absurd (Nat.eq_of_beq_eq_true hbq) (by omega)
    rw [hq];show 0 + p * 1 = p;omega
def WoOk (S:AM.Sys) (g:FuncId) (pre cs:List Value) (wo:Lg → Int):Prop:=
  ∀ (H:Heap) (x:Lg),H.low ≤ H.size → ∃ H2,Keep H H2 ∧ Runs Try.prog S (.fn g) (pre ++ [.agg ⟨lc x⟩] ++ cs) H (.int .i64 (wo x)) H2
def DoneF (ls:List Lg) (ch:Int) (wo:Lg → Int) (more:Int) (R d:Array Int) (p:Nat):Prop:=∀ s,p ≤ s → s < ls.length → LW ls ch wo more R[s]!.toNat d[R[s]!.toNat]!
theorem DoneF.same {ls:List Lg} {ch:Int} {wo:Lg → Int} {more:Int} {R d d2:Array Int} {p:Nat} (h:DoneF ls ch wo more R d p) (he:∀ s,p ≤ s → s < ls.length → d2[R[s]!.toNat]! = d[R[s]!.toNat]!):DoneF ls ch wo more R d2 p:=fun s h1 h2 => by
  rw [he s h1 h2]; exact h s h1 h2
def LJ (ls:List Lg) (ch:Int) (wo:Lg → Int) (more:Int) (R:Array Int) (HB:Base) (LR l:Nat) (lr:LoopRec) (k:Nat) (X:Heap):Prop:=∃ d,SaI HB X LR LR true d ∧ LoopAt X l lr ∧ d.size = ls.length ∧ DoneF ls ch wo more R d k
theorem toListI {d:Array Int} {i:Nat} (hi:i < d.size):d.toList.getD i 0 = d[i]!:=by
  rw [getElem!_pos _ i hi,List.getD_eq_getElem?_getD,List.getElem?_eq_getElem (by simpa using hi)]
  rfl
def PostL (ls:List Lg) (ch:Int) (wo:Lg → Int) (more:Int) (H:Heap) (u:Value) (H':Heap):Prop:=
  ∃ (r:Nat) (d:Array Int),u = .slice (some ⟨r,0,none⟩) ls.length ls.length ∧ Keep H H' ∧ Own H' r 3 (flat celInt d) ∧ H.size ≤ r ∧ d.size = ls.length ∧ ∀ i,i < ls.length → LW ls ch wo more i d[i]!

variable {S:AM.Sys} (hS:Only S 11)
include hS

set_option maxHeartbeats 4000000 in
theorem least_runs (ls:List Lg) (a:Option Addr) (c r o:Nat) (ch:Int) (ro:Nat) (R:Array Int) (g:FuncId) (pre cs:List Value) (wo:Lg → Int) (more:Int) (H:Heap) (hL:H.low ≤ H.size) (hg:Grp H)
    (hl:SlG H (.slice a ls.length c) ls r o) (h60:ls.length ≤ 60) (ho:Own H ro 3 (R.toList.map fun z => .int .i64 z)) (hR:OrdOk ls R) (hk:LOk ls ch) (hfit:∀ i,i < ls.length → Fit ch (ls.getD i default))
    (hwo:WoOk S g pre cs wo) (hw:∀ i,i < ls.length → 0 ≤ wo (ls.getD i default) ∧ wo (ls.getD i default) ≤ 10060) (hm:0 ≤ more ∧ more ≤ 1) :
    ∃ u H',Runs Try.prog S (.fn 61) [tv a ls.length c ch (.slice (some ⟨ro,0,none⟩) ls.length ls.length),.func (.func g) ⟨pre⟩ ⟨cs⟩,.int .i64 more] H u H' ∧ PostL ls ch wo more H u H':=by
  suffices h:WCall Try.prog S (.fn 61) [tv a ls.length c ch (.slice (some ⟨ro,0,none⟩) ls.length ls.length),.func (.func g) ⟨pre⟩ ⟨cs⟩,.int .i64 more] H (fun u H' => PostL ls ch wo more H u H') by
    obtain ⟨u,H',hr,h⟩:=h; exact ⟨u,H',hr,h⟩
  obtain ⟨H1,e1,hK1,t3,t0,t1,t2⟩:=boxT H a ls.length c ch (.slice (some ⟨ro,0,none⟩) ls.length ls.length);have o1:Own H1 H.size 64 [.slice a ls.length c,.int .i64 ch,.slice (some ⟨ro,0,none⟩) ls.length ls.length]:=by rw [← e1]; exact Own.new _ _ _
  have z1:H1.size = H.size + 1:=by rw [← e1,size_new]
  obtain ⟨H2,e2⟩:∃ H2,H1.newExact [.func (.func g) ⟨pre⟩ ⟨cs⟩] 93 = H2:=⟨_,rfl⟩;have hK2:Keep H1 H2:=by rw [← e2]; exact Keep.newExact _ _ _
  have o2:Own H2 H1.size 93 [.func (.func g) ⟨pre⟩ ⟨cs⟩]:=by rw [← e2]; exact Own.new _ _ _
  have z2:H2.size = H1.size + 1:=by rw [← e2,size_new]
  obtain ⟨H3,e3⟩:∃ H3,H2.newExact [.int .i64 more] 3 = H3:=⟨_,rfl⟩;have hK3:Keep H2 H3:=by rw [← e3]; exact Keep.newExact _ _ _
  have o3:Own H3 H2.size 3 [.int .i64 more]:=by rw [← e3]; exact Own.new _ _ _
  have z3:H3.size = H2.size + 1:=by rw [← e3,size_new]
  have mk:=mkI H3 (l:=(ls.length:Int)) (by omega) (by omega)
  rw [Int.toNat_natCast] at mk;obtain ⟨H4,e4⟩:∃ H4,H3.newExact ((List.replicate ls.length (0:Int)).map fun z => .int .i64 z) 3 = H4:=⟨_,rfl⟩
  rw [e4] at mk;have hK4:Keep H3 H4:=by rw [← e4]; exact Keep.newExact _ _ _
  have o4:Own H4 H3.size 3 ((List.replicate ls.length (0:Int)).map fun z => .int .i64 z):=by rw [← e4]; exact Own.new _ _ _
  have z4:H4.size = H3.size + 1:=by rw [← e4,size_new]
  have al5:=alIs H4;obtain ⟨H5,s5,hK5,o5⟩:=newIs H4 (some ⟨H3.size,0,none⟩) ls.length ls.length;have z5:H4.size < H5.size:=o5.lt;obtain ⟨H6,e6⟩:∃ H6,H5.newExact [.slice (some ⟨ro,0,none⟩) ls.length ls.length] 25 = H6:=⟨_,rfl⟩;have f6:=(backI_runs hS (some ⟨ro,0,none⟩) ls.length ls.length H5).bx;rw [e6] at f6;have hK6:Keep H5 H6:=by rw [← e6]; exact Keep.newExact _ _ _
  have o6:Own H6 H5.size 25 [.slice (some ⟨ro,0,none⟩) ls.length ls.length]:=by rw [← e6]; exact Own.new _ _ _
  have z6:H6.size = H5.size + 1:=by rw [← e6,size_new]
  have hK26:=((hK3.trans hK4).trans hK5).trans hK6;have hK06:=(hK1.trans hK2).trans hK26;have p1:=(o1.keep hK2).keep hK26;have p2:=o2.keep hK26;have p3:=(o3.keep (hK4.trans hK5)).keep hK6;have p4:=(o4.keep hK5).keep hK6;have p5:=o5.keep hK6;have u0:H3.read H.size 0 1 = some [.slice a ls.length c]:=((o1.keep hK2).keep hK3).read (o:=0) (n:=1) (by simp)
  have u2:H5.read H.size 2 1 = some [.slice (some ⟨ro,0,none⟩) ls.length ls.length]:=((((o1.keep hK2).keep hK3).keep hK4).keep hK5).read (o:=2) (n:=1) (by simp)
  have hRl:R.toList.length = ls.length:=by rw [Array.length_toList]; exact hR.sz
  obtain ⟨HB,hHB⟩:∃ HB:Base,HB = { toHeap:=H,side:=[(H.size,64,[.slice a ls.length c,.int .i64 ch,.slice (some ⟨ro,0,none⟩) ls.length ls.length]),(H1.size,93,[.func (.func g) ⟨pre⟩ ⟨cs⟩]),(H2.size,3,[.int .i64 more]),(H4.size,25,[.slice (some ⟨H3.size,0,none⟩) ls.length ls.length]),(H5.size,25,[.slice (some ⟨ro,0,none⟩) ls.length ls.length])] }:=⟨_,rfl⟩;have hb:HB.toHeap = H:=by rw [hHB]
  have hbs:=congrArg Base.side hHB;simp only [] at hbs;have hLB:HB.low ≤ HB.size:=by rw [hb]; exact hL
  have hgB:Grp HB.toHeap:=by rw [hb]; exact hg
  have q1:H.size < H1.size:=by omega
  have q2:H1.size < H2.size:=by omega
  have q3:H2.size < H3.size:=by omega
  have q4:H3.size < H4.size:=by omega
  have q5:H4.size < H5.size:=by omega
  have q6:H5.size < H6.size:=by omega
  have hd6:SaI HB H6 H3.size H3.size true (List.replicate ls.length (0:Int)).toArray:=by
    show Arr HB H6 H3.size H3.size _ _ true (flat celInt _);rw [flat_int];refine Arr.own (by rw [hb]; exact hK06) hgB (by rw [hb]; omega) (fun x hx => ?_) p4
    rw [hbs] at hx;rcases List.mem_cons.1 hx with rfl | hx
    · exact ⟨p1,by show H.size ≠ H3.size; omega⟩
    rcases List.mem_cons.1 hx with rfl | hx
    · exact ⟨p2,by show H1.size ≠ H3.size; omega⟩
    rcases List.mem_cons.1 hx with rfl | hx
    · exact ⟨p3,by show H2.size ≠ H3.size; omega⟩
    rcases List.mem_cons.1 hx with rfl | hx
    · exact ⟨p5,by show H4.size ≠ H3.size; omega⟩
    rcases List.mem_cons.1 hx with rfl | hx
    · exact ⟨o6,by show H5.size ≠ H3.size; omega⟩
    · cases hx
  have hside:∀ {X:Heap} {d:Array Int},SaI HB X H3.size H3.size true d → Own X H.size 64 [.slice a ls.length c,.int .i64 ch,.slice (some ⟨ro,0,none⟩) ls.length ls.length] ∧ Own X H1.size 93 [.func (.func g) ⟨pre⟩ ⟨cs⟩] ∧ Own X H2.size 3 [.int .i64 more] ∧ Own X H4.size 25 [.slice (some ⟨H3.size,0,none⟩) ls.length ls.length] ∧ Own X H5.size 25 [.slice (some ⟨ro,0,none⟩) ls.length ls.length]:=fun {X d} h => by
    have hs:=h.side;rw [hbs] at hs;exact ⟨(hs _ (List.mem_cons_self ..)).1,(hs _ (List.mem_cons_of_mem _ (List.mem_cons_self ..))).1,(hs _ (List.mem_cons_of_mem _ (List.mem_cons_of_mem _ (List.mem_cons_self ..)))).1,(hs _ (List.mem_cons_of_mem _ (List.mem_cons_of_mem _ (List.mem_cons_of_mem _ (List.mem_cons_self ..))))).1,(hs _ (List.mem_cons_of_mem _ (List.mem_cons_of_mem _ (List.mem_cons_of_mem _ (List.mem_cons_of_mem _ (List.mem_cons_self ..)))))).1⟩
  have hnl:∀ {l:Nat},H5.size < l → l ≠ H3.size ∧ HB.size ≤ l ∧ ∀ x ∈ HB.side,x.1 ≠ l:=fun {l} hl => by
    refine ⟨by omega,by rw [hb]; omega,fun x hx => ?_⟩
    rw [hbs] at hx;rcases List.mem_cons.1 hx with rfl | hx
    · show H.size ≠ l; omega
    rcases List.mem_cons.1 hx with rfl | hx
    · show H1.size ≠ l; omega
    rcases List.mem_cons.1 hx with rfl | hx
    · show H2.size ≠ l; omega
    rcases List.mem_cons.1 hx with rfl | hx
    · show H4.size ≠ l; omega
    rcases List.mem_cons.1 hx with rfl | hx
    · show H5.size ≠ l; omega
    · cases hx
  have hkeep:∀ {X:Heap} {d:Array Int},SaI HB X H3.size H3.size true d → Keep H X:=fun h => by have:=h.keep; rw [hb] at this; exact this
  have ny1:notYield (.func g) = true:=rfl;have nmx:Go.maxLen = 9223372036854775807:=rfl;clear hHB hbs z1 z2 z3 z4 z5 z6 hK1 hK2 hK3 hK4 hK5 hK6 hK26 hK06 p1 p2 p3 p4 p5 o1 o2 o3 o4 o5 o6 t0 t1 t2 t3;unfold tv;refine Zaba Try.func61 rfl (Nat.le_of_ble_eq_true rfl) (hS.no rfl _ _) ?_
  rw [Try.ntmps61,Try.results61];have cf:∀ (fn:Fn) (x y:Array Value),(Value.func fn x y).cells.toList = [.func fn x y]:=fun _ _ _ => rfl
  have ci:∀ (k:IntKind) (z:Int),(Value.int k z).cells.toList = [.int k z]:=fun _ _ => rfl
  repeat' simp only [↓Zabx,↓Zabz,↓Zabu,↓Zaby,↓Zacw,↓Zacv,↓Zadb,↓Zaam,↓Zaal,↓bxOp_box,↓Zaat,↓Zaaw,↓bxOp_makeSlice,↓Zaaq,↓Zaay,↓Zaas,↓Zacy,↓bxPut,↓Zabs,↓Zabq,↓Zacz,↓Zada,↓Zadc,↓Zabg,↓Zabe,↓Zabf,Zacx,Zacb,Zabm,List.map,List.nil_append,List.append_nil,↓reduceIte,Nat.reduceEqDiff,Nat.reduceLT,Nat.add_zero,one1,Option.bind_some, *,argF,List.getD_cons_zero,List.getD_cons_succ,Zabb,faT0,faT2,ldLs,ldIs,lenG,one1]
  refine range_I (fun ρ => ρ 3 = .pointer (some ⟨H.size,0,none⟩) ∧ ρ 4 = .pointer (some ⟨H1.size,0,none⟩) ∧ ρ 5 = .pointer (some ⟨H2.size,0,none⟩) ∧ ρ 7 = .pointer (some ⟨H4.size,0,none⟩) ∧ ρ 18 = .func (.func 95) ⟨[]⟩ ⟨[.pointer (some ⟨H5.size,0,none⟩)]⟩)
    (f:=95) (fa:=[]) (fb:=[.pointer (some ⟨H5.size,0,none⟩)]) ⟨rfl,rfl,rfl,rfl,rfl⟩ (fun ρ hI => hI.2.2.2.2) ?_
  rintro ρ lr ⟨i3,i4,i5,i7,_⟩ hst hfr hps has hbd;obtain ⟨lp0,kl0,_⟩:=LoopAt.new H6 lr;have hnl6:=hnl q6;have hpend:lr.pending = none:=by rw [← hst]; rfl
  have hstate:lr.state = .ready:=by rw [← hst]; rfl
  have hend:∀ X,LJ ls ch wo more R HB H3.size H6.size lr 0 X → ∃ Y d,Y = loopSet X H6.size lr .exhausted none ∧ LoopAt X H6.size lr ∧ SaI HB Y H3.size H3.size true d ∧ d.size = ls.length ∧ DoneF ls ch wo more R d 0:=fun X ⟨d,h1,h2,h3,h4⟩ => ⟨_,d,rfl,h2,h1.loopSet h2 hnl6.2.1 hnl6.1 hnl6.2.2 _ _,h3,h4⟩
  refine (backIC_runs hS (l:=H6.size) (B:=H5.size) (some ⟨ro,0,none⟩) ls.length R.toList (LJ ls ch wo more R HB H3.size H6.size lr) (fun _ => False) _ ?_ ?_ ?_ (by omega)).mono ?_
  · rintro k X ⟨d,h1,_,_,_⟩;have h5:=(hside h1).2.2.2.2;rw [hRl];refine ⟨h5.read (o:=0) (n:=1) (by simp),ro,0,?_⟩
    have h6:=Own.sl (k:=.i64) (ho.keep (hkeep h1)) (fun z hz => ?_) (by omega) ls.length
    · rw [hRl] at h6; exact h6
    · obtain ⟨p,hp,rfl⟩:=List.getElem_of_mem hz;have hp2:p < ls.length:=by omega
      obtain ⟨j,hj,hjl⟩:=hR.val p hp2;rw [getElem!_pos _ p (by have:=hR.sz; omega)] at hj
      rw [Array.getElem_toList,hj];have m1:IntKind.i64.min = -9223372036854775808:=by decide
      have m2:IntKind.i64.max = 9223372036854775807:=by decide
      rw [m1,m2];omega
  · rintro k X hkl ⟨d,hd,hlp,hds,hdn⟩;rw [hRl] at hkl;have hob:=hR.val k hkl;obtain ⟨i,hRi,hil⟩:=hob;rw [toListI (by have:=hR.sz; omega),hRi]
    refine rnd_I hlp hst hfr hps has hbd rfl (show ∀ t ∈ ([19,20] : List Nat),t < 61 by decide) rfl rfl ?_
    clear hps has hbd hend;obtain ⟨x,hx⟩:∃ x,x = ls.getD i default:=⟨_,rfl⟩;obtain ⟨H7,h7⟩:∃ H7,H7 = loopSet X H6.size lr .busy none:=⟨_,rfl⟩;have hd7:=hd.loopSet hlp hnl6.2.1 hnl6.1 hnl6.2.2 .busy none;have hlp7:=(hlp.set .busy none).1;rw [← h7] at hd7 hlp7;have hL7:=(hkeep hd7).low hL;have hs7:=hside hd7;obtain ⟨w1,w2,w3,w4,_⟩:=hs7;have rV7:H7.read H4.size 0 1 = some [.slice (some ⟨H3.size,0,none⟩) ls.length ls.length]:=w4.read (o:=0) (n:=1) (by simp)
    have rW7:H7.read H1.size 0 1 = some [.func (.func g) ⟨pre⟩ ⟨cs⟩]:=w2.read (o:=0) (n:=1) (by simp)
    have rT7:H7.read H.size 0 1 = some [.slice a ls.length c]:=w1.read (o:=0) (n:=1) (by simp)
    obtain ⟨q0,hix,hrdG,_⟩:=SlG_at (hl.keep (hkeep hd7)) hil;rw [← hx] at hrdG;obtain ⟨H8a,H8,hK8,hL8,f8,fd8⟩:=drawn hL7 (hwo (H7.relow H7.size) x (Nat.le_refl _));have hix2:Zaaa Try.prog 25 (.slice (some ⟨H3.size,0,none⟩) ls.length ls.length) (.int .i64 (i:Int)) = _:=ixAtI hil;obtain ⟨H9a,H9,s9,r9,hd9,z9,hL9,lp9⟩:=stD hLB (hd7.kept hK8) (show i < d.size by omega) (wo x)
    have hlp9:=lp9 H6.size (lr.st .busy none) hnl6.1 (hlp7.keep hK8);obtain ⟨v1,_,v3,v4,_⟩:=hside hd9;have rT9:H9.read H.size 2 1 = some [.slice (some ⟨ro,0,none⟩) ls.length ls.length]:=v1.read (o:=2) (n:=1) (by simp)
    obtain ⟨q,tl9,hq⟩:=tailI (ho.keep (hkeep hd9)) (n:=ls.length) (p:=k + 1) (by omega)
    have hwk:IntKind.i64.wrap ((k:Int) + 1) = ((k + 1:Nat):Int):=by rw [IntWalk.i64_in _ (by omega)]; omega
    have hne:∀ s,k + 1 ≤ s → s < ls.length → R[s]!.toNat ≠ i:=fun s h1 h2 he => by
      obtain ⟨j,hj,_⟩:=hR.val s h2;rw [hj,Int.toNat_natCast] at he;subst he;have:=hR.inj s k h2 hkl (by rw [hj,hRi])
      omega
    have hdn9:DoneF ls ch wo more R (d.setIfInBounds i (wo x)) (k + 1):=hdn.same fun s h1 h2 => by rw [flat_set_at (by omega),if_neg (hne s h1 h2)]
    have hpw9:PW ls ch wo more R k (k + 1) i (d.setIfInBounds i (wo x))[i]!:=by
      rw [flat_set_at (by omega),if_pos rfl,hx]; exact PW.start hil
    have hz9:(d.setIfInBounds i (wo x)).size = ls.length:=by simpa using hds
    obtain ⟨d9,hd9e⟩:∃ d9,d9 = d.setIfInBounds i (wo x):=⟨_,rfl⟩;rw [← hd9e] at hd9 hdn9 hpw9 hz9;have h7':=h7.symm;have hstr:=hst;clear hx h7 hd hd7 hdn hd9e w1 w2 w3 w4 v1 v3 v4 hlp7 lp9 hK8 hd6 z9
    repeat' (first | simp only [↓Zabv,↓Zabx,↓Zabz,↓Zaaj,↓Zabu,↓Zacw,↓Zacv,↓Zaco,↓Zaak,↓Zacj,↓Zaci,↓Zacg,↓Zach,↓Zacn,↓Zadb,↓Zaau,↓Zaam,↓Zaat,↓Zaaw,↓Zaan,↓bxOp_slice,↓Zaaq,↓Zaar,↓Zaay,↓Zaas,↓Zacy,↓bxPut,↓Zabs,↓Zadc,↓Zabg,↓Zabe,aSliceH_slice,Zacx,Zaae,Zabi,Zacb,List.map,↓reduceIte,Nat.reduceEqDiff,Nat.reduceLT,true_and,Zaab,Nat.add_zero,one1,Option.bind_some,Option.map_some,Option.map_none, *,updL,faT0,faT2,ldLs,ldIs,ldWf,ldG,lenIs,one1] | (with_reducible first | refine Zacd (by assumption) (by decide +kernel) ?_ | refine Zacc (by decide +kernel) ?_ | refine Zacm (by decide +kernel) ?_ | refine Zacf ?_))
    refine sxL_of (fun m ρ X2 => ∃ (q':Nat) (d2:Array Int),m = (ls.length - (k + 1)) - q' ∧ q' ≤ ls.length - (k + 1) ∧ SaI HB X2 H3.size H3.size true d2 ∧ LoopAt X2 H6.size (lr.st .busy none) ∧ d2.size = ls.length ∧ DoneF ls ch wo more R d2 (k + 1) ∧ PW ls ch wo more R k (k + 1 + q') i d2[i]! ∧
        ρ 3 = .pointer (some ⟨H.size,0,none⟩) ∧ ρ 5 = .pointer (some ⟨H2.size,0,none⟩) ∧ ρ 7 = .pointer (some ⟨H4.size,0,none⟩) ∧ ρ 9 = .int .i64 (i:Int) ∧ ρ 35 = .slice (some ⟨ro,q,none⟩) (ls.length - (k + 1)) (ls.length - (k + 1)) ∧ ρ 36 = .int .i64 ((ls.length - (k + 1):Nat):Int) ∧ ρ 37 = .int .i64 (q':Int))
      ⟨0,d9,rfl,Nat.zero_le _,hd9,hlp9,hz9,hdn9,hpw9,(by first | exact i3 | rfl),(by first | exact i5 | rfl),(by first | exact i7 | rfl),rfl,rfl,rfl,rfl⟩ ?_
    clear hd9 hlp9 hz9 hdn9 hpw9 rV7 rW7 rT7 hix hrdG f8 fd8 s9 r9 tl9 rT9 i3 i4 i5 i7 hlp h7' hst hfr;rintro m ρ X2 ⟨q',d2,rfl,hq',hd2,hlp2,hz2,hdn2,hpw2,e3,e5,e7,e9,e35,e36,e37⟩;have hL2:=(hkeep hd2).low hL
    by_cases hlt:q' < ls.length - (k + 1)
    · have hlt':(q':Int) < ((ls.length - (k + 1):Nat):Int):=by omega
      have hwq:IntKind.i64.wrap ((q':Int) + 1) = ((q' + 1:Nat):Int):=by rw [IntWalk.i64_in _ (by omega)]; omega
      have hqk:=hq (by omega)
      have hob:=hR.val (k + 1 + q') (by omega)
      obtain ⟨j,hRj,hjl⟩:=hob;have hox:=ho.keep (hkeep hd2);have hrj:X2.read ro (q + q') 1 = some [.int .i64 (j:Int)]:=by
        have h1:=hox.read (o:=q + q') (n:=1) (by rw [List.length_map]; omega)
        rw [h1,hqk,map_at (by omega),toListI (by have:=hR.sz; omega),hRj]
      have hix3:Zaaa Try.prog 25 (.slice (some ⟨ro,q,none⟩) (ls.length - (k + 1)) (ls.length - (k + 1))) (.int .i64 (q':Int)) = some (.pointer (some ⟨ro,q + q',none⟩)):=by
        rw [ixIs,if_pos ⟨by omega,hlt'⟩,Int.toNat_natCast,Nat.mul_one]
      have hs2:=hside hd2;obtain ⟨w1,_,w3,w4,_⟩:=hs2;have rT:X2.read H.size 0 3 = some [.slice a ls.length c,.int .i64 ch,.slice (some ⟨ro,0,none⟩) ls.length ls.length]:=w1.read (o:=0) (n:=3) (by simp)
      have hfo:=follows_runs hS ls a c r o ch (.slice (some ⟨ro,0,none⟩) ls.length ls.length) X2 hL2 (hl.keep (hkeep hd2)) i j hil hjl (hfit i hil);obtain ⟨H10,hK10,hR10⟩:=hfo;have f10:=hR10.bx;unfold tv at f10;have hd10:=hd2.kept hK10;have hlp10:=hlp2.keep hK10;have hL10:=hK10.low hL2;have hms:ls.length - (k + 1) - (q' + 1) < ls.length - (k + 1) - q':=by omega
      have hjb:joinB ch (ls.getD i default) (ls.getD j default) = true ∨ joinB ch (ls.getD i default) (ls.getD j default) = false:=by cases joinB ch (ls.getD i default) (ls.getD j default) <;> simp
      rcases hjb with hjb | hjb
      · rw [hjb] at f10;have rV:H10.read H4.size 0 1 = some [.slice (some ⟨H3.size,0,none⟩) ls.length ls.length]:=(w4.keep hK10).read (o:=0) (n:=1) (by simp)
        have rM:H10.read H2.size 0 1 = some [.int .i64 more]:=(w3.keep hK10).read (o:=0) (n:=1) (by simp)
        have hixi:Zaaa Try.prog 25 (.slice (some ⟨H3.size,0,none⟩) ls.length ls.length) (.int .i64 (i:Int)) = _:=ixAtI hil;have hixj:Zaaa Try.prog 25 (.slice (some ⟨H3.size,0,none⟩) ls.length ls.length) (.int .i64 (j:Int)) = _:=ixAtI hjl;have li:=ldAtI hd10 (show i < d2.size by omega)
        have lj:=ldAtI hd10 (show j < d2.size by omega)
        have hlwj:=hdn2 (k + 1 + q') (by omega) (by omega)
        rw [hRj,Int.toNat_natCast] at hlwj;have hrj2:=hlwj.rng hjl hw hm.1;have hww:IntKind.i64.wrap (d2[j]! + more) = d2[j]! + more:=IntWalk.i64_in _ (by omega)
        have hpw3:=hpw2.yes hil hRj hjb hlwj;have hob:=stD hLB hd10 (show i < d2.size by omega) (if d2[j]! + more < d2[i]! then d2[j]! + more else d2[i]!)
        obtain ⟨H11a,H11,s11,r11,hd11,z11,hL11,lp11⟩:=hob;have hlp11:=lp11 H6.size (lr.st .busy none) hnl6.1 hlp10;have hne:∀ s,k + 1 ≤ s → s < ls.length → R[s]!.toNat ≠ i:=fun s h1 h2 he => by
          obtain ⟨j,hj,_⟩:=hR.val s h2;rw [hj,Int.toNat_natCast] at he;subst he;have:=hR.inj s k h2 hkl (by rw [hj,hRi])
          omega
        have hdn3:DoneF ls ch wo more R (d2.setIfInBounds i (if d2[j]! + more < d2[i]! then d2[j]! + more else d2[i]!)) (k + 1):=hdn2.same fun s h1 h2 => by rw [flat_set_at (by omega),if_neg (hne s h1 h2)]
        have hpw4:PW ls ch wo more R k (k + 1 + (q' + 1)) i (d2.setIfInBounds i (if d2[j]! + more < d2[i]! then d2[j]! + more else d2[i]!))[i]!:=by
          rw [flat_set_at (by omega),if_pos rfl]; exact hpw3
        have hz3:(d2.setIfInBounds i (if d2[j]! + more < d2[i]! then d2[j]! + more else d2[i]!)).size = ls.length:=by simpa using hz2
        have mn:=mm_min .i64 .i64 d2[i]! (d2[j]! + more);have ldci:∀ z:Int,celInt.val z = .int .i64 z:=fun _ => rfl
        rw [ldci] at li lj;have hgy:∃ y,y = (if d2[j]! + more < d2[i]! then d2[j]! + more else d2[i]!):=⟨_,rfl⟩
        obtain ⟨y,hy⟩:=hgy;rw [← hy] at s11 hd11 hdn3 hpw4 hz3 mn;have hgd:∃ d3,d3 = d2.setIfInBounds i y:=⟨_,rfl⟩;obtain ⟨d3,hd3⟩:=hgd;rw [← hd3] at hd11 hdn3 hpw4 hz3;clear hy hd3 hd2 hlp2 hz2 hdn2 hpw2 hpw3 hlwj hne hox w1 w3 w4 hK10 hR10 hd10 hlp10 lp11 hjb z11 hqk ldci
        repeat' (first | simp only [↓Zaca,↓Zabv,↓Zabx,↓Zabz,↓Zaai,↓Zabu,↓Zabw,↓Zacw,↓Zacv,↓Zaco,↓Zaak,↓Zacj,↓Zaci,↓Zace,↓Zach,↓Zacn,↓Zadb,↓Zaau,↓Zaam,↓Zaat,↓Zaaw,↓Zaan,↓Zaar,↓Zaay,↓bxOp_min,↓Zacy,↓bxPut,↓Zabs,↓Zabr,↓Zaag,↓Zaaf,↓Zabk,↓Zabj,↓Zadc,↓Zabg,↓Zabe,↓Zabf,Zacx,Zaae,Zabi,Zacb,Zacu,List.map,List.nil_append,List.append_nil,↓reduceIte,Nat.reduceEqDiff,Nat.reduceLT,dec_T,true_and,Zaab,one1,Option.bind_some,Option.map_some, *,ldIs,ldC,ldTt,one1] | (with_reducible first | refine Zacd (by assumption) (by decide +kernel) ?_ | refine Zacc (by decide +kernel) ?_ | refine Zacm (by decide +kernel) ?_ | refine Zacf ?_))
        exact ⟨_,hms,q' + 1,d3,rfl,by omega,hd11,hz3,hdn3,hpw4,rfl⟩
      · rw [hjb] at f10;have hpw3:=hpw2.no hRj (show ¬ jn ls ch i j by unfold jn; rw [hjb]; simp)
        clear hd2 hlp2 hpw2 hox w1 w3 w4 hK10 hR10 hjb hqk
        repeat' (first | simp only [↓Zaca,↓Zabv,↓Zabx,↓Zabz,↓Zaai,↓Zabu,↓Zabw,↓Zacw,↓Zacv,↓Zaco,↓Zaak,↓Zacj,↓Zaci,↓Zace,↓Zach,↓Zadb,↓Zaau,↓Zaam,↓Zaat,↓Zaaw,↓Zaan,↓Zaar,↓Zaay,↓bxOp_min,↓Zacy,↓bxPut,↓Zabs,↓Zabr,↓Zaag,↓Zaaf,↓Zabk,↓Zabj,↓Zadc,↓Zabg,↓Zabe,↓Zabf,Zacx,Zaae,Zabi,Zacb,Zacu,Zact,List.map,List.nil_append,List.append_nil,↓reduceIte,Nat.reduceEqDiff,Nat.reduceLT,dec_T,true_and,one1,Option.bind_some,Option.map_some, *,ldC,ldTt,one1] | (with_reducible first | refine Zacd (by assumption) (by decide +kernel) ?_ | refine Zacc (by decide +kernel) ?_ | refine Zacm (by decide +kernel) ?_ | refine Zacf ?_))
        exact ⟨_,hms,q' + 1,d2,rfl,by omega,hd10,hz2,hdn2,hpw3,rfl⟩
    · have hke:q' = ls.length - (k + 1):=by omega
      have hlt':¬ ((q':Int) < ((ls.length - (k + 1):Nat):Int)):=by omega
      have hpwn:PW ls ch wo more R k ls.length i d2[i]!:=by
        have:k + 1 + q' = ls.length:=by omega
        rw [this] at hpw2;exact hpw2
      have hlw:=hpwn.done hR hk hkl hRi hil;have hdn3:DoneF ls ch wo more R d2 k:=fun s h1 h2 => by
        rcases Nat.lt_or_ge k s with h3 | h3
        · exact hdn2 s h3 h2
        · have:s = k:=by omega
          subst this;rw [hRi,Int.toNat_natCast]; exact hlw
      have hdY:=hd2.loopSet hlp2 hnl6.2.1 hnl6.1 hnl6.2.2 .ready none;have hlY:=(hlp2.set .ready none).1
      have hp:LJ ls ch wo more R HB H3.size H6.size lr k (loopSet X2 H6.size (lr.st .busy none) .ready none):=⟨d2,hdY,by
        rw [LoopRec.st_st] at hlY;rw [hstr] at hlY
        exact hlY,hz2,hdn3⟩
      clear hke hd2 hdY hlY hdn2 hpw2 hpwn hlw hdn3
      repeat' (first | simp only [↓Zaca,↓Zabv,↓Zabx,↓Zabz,↓Zaai,↓Zabu,↓Zabw,↓Zacw,↓Zacv,↓Zaco,↓Zaak,↓Zacj,↓Zaci,↓Zace,↓Zach,↓Zadb,↓Zaau,↓Zaam,↓Zaat,↓Zaaw,↓Zaan,↓Zaar,↓Zaay,↓bxOp_min,↓Zacy,↓bxPut,↓Zabs,↓Zabr,↓Zaag,↓Zaaf,↓Zabk,↓Zabj,↓Zadc,↓Zabg,↓Zabe,↓Zabf,Zacx,Zaae,Zabi,Zacb,Zact,List.nil_append,↓reduceIte,Nat.reduceLT,dec_F,and_false,or_false,and_self, *,goOn,stOf,AExit.jump] | (with_reducible first | refine Zacd (by assumption) (by decide +kernel) ?_ | refine Zacc (by decide +kernel) ?_ | refine Zacm (by decide +kernel) ?_ | refine Zacf ?_))
  · have hn:(List.replicate ls.length (0:Int)).toArray.size = ls.length:=by simp
    rw [hRl];exact ⟨_,hd6.kept kl0,lp0,hn,fun s h1 h2 => by omega⟩
  · rintro _ X (hJ | hF)
    · obtain ⟨Y,d,hY,hlp,hdY,hdz,hdn⟩:=hend X hJ;refine ⟨.normal,lr,hlp,by rw [hpend]; rfl,by rw [hstate]; rfl,?_⟩
      obtain ⟨_,_,_,w4,_⟩:=hside hdY;have rV:Y.read H4.size 0 1 = some [.slice (some ⟨H3.size,0,none⟩) ls.length ls.length]:=w4.read (o:=0) (n:=1) (by simp)
      have hp:PostL ls ch wo more H (.slice (some ⟨H3.size,0,none⟩) ls.length ls.length) Y:=⟨H3.size,d,rfl,hkeep hdY,hdY.toOwn,by omega,hdz,fun i hi => by
        obtain ⟨p,hp1,hp2⟩:=hR.all i hi;have:=hdn p (Nat.zero_le _) hp1;rw [hp2,Int.toNat_natCast] at this
        exact this⟩
      have hY':loopSet X H6.size lr .exhausted (AExit.jump .normal) = Y:=hY.symm;clear hJ hend hY hdY hlp hd6
      repeat' simp only [↓bxPut,↓Zabs,↓Zaag,↓Zadc,Zacx,↓reduceIte,Nat.reduceLT,one1,Option.bind_some, *,ldIs,one1]
    · exact hF.elim
end Go.Proofs.Yteechkbnccpicaa
