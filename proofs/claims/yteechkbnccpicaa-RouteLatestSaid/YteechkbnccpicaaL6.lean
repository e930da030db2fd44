/- slices.Backward of points; the last point that comes in time. -/
import Derived.Test.YteechkbnccpicaaQL
set_option linter.unusedVariables false
set_option linter.unusedSimpArgs false
set_option linter.unusedSectionVars false

namespace Go.Proofs.Yteechkbnccpicaa
open Go Go.AM
set_option maxRecDepth 10000

theorem ldSs (H:Heap) (r o:Nat):aLoad Try.prog H 35 (.pointer (some ⟨r,o,none⟩)) = (H.read r o 1).bind one1:=by kernel_rfl
theorem ldB (H:Heap) (r o:Nat):aLoad Try.prog H 4 (.pointer (some ⟨r,o,none⟩)) = (H.read r o 1).bind one1:=by kernel_rfl
theorem alB (H:Heap):aAlloc Try.prog H 4 = some (.pointer (some ⟨H.size,0,none⟩),H.newExact [.bool false] 4):=by kernel_rfl
theorem infoB:∃ i,Try.prog.info? 4 = some i ∧ i.size = 1:=Option.map_eq_some_iff.1 (show (Try.prog.info? 4).map (·.size) = some 1 by kernel_rfl)
def BackQ (w:List Pt) (by':Int) (x:Int) (b:Bool):Prop:=
  (∃ k,k < w.length ∧ (w.getD k default).2 ≤ by' ∧ (∀ j,k < j → j < w.length → ¬ (w.getD j default).2 ≤ by') ∧ x = (w.getD k default).1 ∧ b = true) ∨
  ((∀ j,j < w.length → ¬ (w.getD j default).2 ≤ by') ∧ x = 0 ∧ b = false)

variable {S:AM.Sys} (hS:Only S 11)
include hS

theorem backP_runs (a:Option Addr) (n c:Nat) (H:Heap):Runs Try.prog S (.fn 69) [.slice a n c] H (.func (.func 82) ⟨[]⟩ ⟨[.pointer (some ⟨H.size,0,none⟩)]⟩) (H.newExact [.slice a n c] 35):=by
  suffices h:WCall Try.prog S (.fn 69) [.slice a n c] H (fun u H' => u = .func (.func 82) ⟨[]⟩ ⟨[.pointer (some ⟨H.size,0,none⟩)]⟩ ∧ H' = H.newExact [.slice a n c] 35) by
    obtain ⟨_,_,hr,rfl,rfl⟩:=h; exact hr
  have e1:H.newExact [.slice a n c] 35 = H.newExact [.slice a n c] 35:=rfl;have ce:(Value.slice a n c).cells.toList = [.slice a n c]:=rfl;have ny:notYield (.func 82) = true:=rfl;refine Zabc Try.func69 rfl (Nat.le_of_ble_eq_true rfl) (hS.no rfl _ _) ?_
  rw [Try.ntmps69,Try.results69]
  repeat' simp only [↓Zabz,↓Zacb,↓Zaca,↓Zacy,↓Zacx,↓Zadd,↓Zaan,↓bxOp_box,↓bxOp_makeFunc,↓bxPut,↓Zabu,↓Zabs,↓Zadb,↓Zadc,↓Zade,↓Zabi,↓Zabg,Zabo,List.map,↓reduceIte,Nat.reduceEqDiff,Nat.reduceLT,and_true,and_self, *,argF,List.getD_cons_zero]

set_option maxHeartbeats 2000000 in
theorem backPC_runs {l B:Nat} (a:Option Addr) (c:Nat) (ws:List Pt) (J:Nat → Heap → Prop) (X:Heap → Prop) (H:Heap)
    (hrd:∀ k H5,J k H5 → H5.read B 0 1 = some [.slice a ws.length c] ∧ ∃ r o,SlP H5 (.slice a ws.length c) ws r o)
    (hstep:∀ k H5,k < ws.length → J (k + 1) H5 → WCall Try.prog S (.rnd l) [.int .i64 (k:Int),.agg ⟨pc (ws.getD k default)⟩] H5 (fun u H6 => (u = .bool true ∧ J k H6) ∨ (u = .bool false ∧ X H6)))
    (h0:J ws.length H) (hml:ws.length ≤ 1000000) :
    WCall Try.prog S (.fn 82) [.func (.yield l) ⟨[]⟩ ⟨[]⟩,.pointer (some ⟨B,0,none⟩)] H (fun _ H' => J 0 H' ∨ X H'):=by
  obtain ⟨r1,r2⟩:=hrd _ _ h0;refine Zabc Try.func82 rfl (Nat.le_of_ble_eq_true rfl) (hS.no rfl _ _) ?_
  rw [Try.ntmps82,Try.results82];have hwn:IntKind.i64.wrap ((ws.length:Int) - 1) = (ws.length:Int) - 1:=IntWalk.i64_in _ (by omega)
  have hJs:∃ J',J' = J:=⟨_,rfl⟩;clear r2
  repeat' simp only [↓Zabz,↓Zacb,↓Zaaj,↓Zabw,↓Zacy,↓Zacx,↓Zadd,↓Zaan,↓Zaav,↓Zaao,↓Zaau,↓bxPut,↓Zabu,↓Zade,↓Zabi,↓Zabg,Zacz,Zaae,Zabk,↓reduceIte,Nat.reduceLT,one1,Option.bind_some, *,argF,List.getD_cons_zero,List.getD_cons_succ,lenS,ldSs,one1]
  refine sxL_of (fun m ρ H5 => ∃ k:Nat,m = k ∧ k ≤ ws.length ∧ J k H5 ∧ ρ 0 = .func (.yield l) ⟨[]⟩ ⟨[]⟩ ∧ ρ 1 = .pointer (some ⟨B,0,none⟩) ∧ ρ 3 = .int .i64 ((k:Int) - 1))
    ⟨ws.length,rfl,Nat.le_refl _,h0,rfl,rfl,rfl⟩ ?_
  clear r1 h0;rintro k ρ H5 ⟨_,rfl,hk,hJ,e0,e1,e3⟩;cases k with
  | zero =>
    have hn:¬ (0:Int) ≤ ((0:Nat):Int) - 1:=by omega
    have hp:J 0 H5 ∨ X H5:=.inl hJ;clear hrd hstep hJ
    repeat' simp only [↓Zacc,↓Zabz,↓Zacb,↓Zaai,↓Zabw,↓Zaby,↓Zaca,↓Zacy,↓Zacx,↓Zadd,↓Zaaw,↓Zaan,↓Zaav,↓Zaao,↓Zaaz,↓Zaat,↓Zaba,↓bxPut,↓Zabu,↓Zabt,↓Zabv,↓Zaag,↓Zaah,↓Zaaf,↓Zabm,↓Zabl,↓Zabn,↓Zabr,↓Zabs,↓Zadb,↓Zade,↓Zabi,↓Zabg,Zacz,Zaae,Zabk,Zacv,↓reduceIte,Nat.reduceLT,dec_F, *]
  | succ k =>
    have hkl:k < ws.length:=by omega
    have hn:(0:Int) ≤ ((k + 1:Nat):Int) - 1:=by omega
    have hwk:((k + 1:Nat):Int) - 1 = (k:Int):=by omega
    have hwk2:IntKind.i64.wrap ((k:Int) - 1) = (k:Int) - 1:=IntWalk.i64_in _ (by omega)
    rw [hwk] at e3 hn;have hob:=hrd _ _ hJ;obtain ⟨r1,r,o,hs⟩:=hob;have hob:=SlP_at hs hkl;obtain ⟨q,hix,hr,_⟩:=hob;have hob:=hstep k H5 hkl hJ;obtain ⟨u,H6,hR,hu⟩:=hob;have f1:=hR.bx;have hms:k < k + 1:=by omega
    rcases hu with ⟨rfl,hJ6⟩ | ⟨rfl,hX⟩
    · clear hrd hstep hJ hR hs
      repeat' simp only [↓Zacc,↓Zabz,↓Zacb,↓Zaai,↓Zabw,↓Zaby,↓Zaca,↓Zacy,↓Zacx,↓Zadd,↓Zaaw,↓Zaan,↓Zaav,↓Zaao,↓Zaaz,↓Zaat,↓Zaba,↓bxPut,↓Zabu,↓Zabt,↓Zabv,↓Zaag,↓Zaah,↓Zaaf,↓Zabm,↓Zabl,↓Zabn,↓Zabr,↓Zabs,↓Zadb,↓Zade,↓Zabi,↓Zabg,Zacz,Zaae,Zabk,una_nt,sxCallVB_yield,Zacw,Zacv,List.map,↓reduceIte,Nat.reduceEqDiff,Nat.reduceLT,dec_T,true_and,one1,Option.bind_some,Option.map_some, *,ldSs,ldS,one1]
      exact ⟨k,hms,k,rfl,by omega,hJ6,rfl⟩
    · have hp:J 0 H6 ∨ X H6:=.inr hX;clear hrd hstep hJ hR hs
      repeat' simp only [↓Zacc,↓Zabz,↓Zacb,↓Zaai,↓Zabw,↓Zaby,↓Zaca,↓Zacy,↓Zacx,↓Zadd,↓Zaaw,↓Zaan,↓Zaav,↓Zaao,↓Zaaz,↓Zaat,↓Zaba,↓bxPut,↓Zabu,↓Zabt,↓Zabv,↓Zaag,↓Zaah,↓Zaaf,↓Zabm,↓Zabl,↓Zabn,↓Zabr,↓Zabs,↓Zadb,↓Zade,↓Zabi,↓Zabg,Zacz,Zaae,Zabk,una_nf,sxCallVB_yield,Zacw,List.map,↓reduceIte,Nat.reduceEqDiff,Nat.reduceLT,dec_T,or_true,one1,Option.bind_some,Option.map_some, *,ldSs,ldS,one1]

set_option maxHeartbeats 4000000 in
theorem lookBack_runs (w:List Pt) (v:Value) (r o:Nat) (by':Int) (H:Heap) (hL:H.low ≤ H.size) (hg:Grp H) (hl:SlP H v w r o) (hml:w.length ≤ 1000000) :
    ∃ x b H',Keep H H' ∧ BackQ w by' x b ∧ Runs Try.prog S (.fn 39) [v,.int .i64 by'] H (.tuple ⟨[.int .i64 x,.bool b]⟩) H':=by
  suffices h:WCall Try.prog S (.fn 39) [v,.int .i64 by'] H (fun u H' => ∃ x b,Keep H H' ∧ BackQ w by' x b ∧ u = .tuple ⟨[.int .i64 x,.bool b]⟩) by
    obtain ⟨_,H',hr,x,b,h1,h2,rfl⟩:=h; exact ⟨x,b,H',h1,h2,hr⟩
  obtain ⟨a,c,rfl⟩:=hl.v0;obtain ⟨H1,e1⟩:∃ H1,H.newExact [.int .i64 by'] 3 = H1:=⟨_,rfl⟩
  have hK1:Keep H H1:=by rw [← e1]; exact Keep.newExact _ _ _
  have o1:Own H1 H.size 3 [.int .i64 by']:=by rw [← e1]; exact Own.new _ _ _
  have z1:H1.size = H.size + 1:=by rw [← e1,size_new]
  have al2:=alC H1;obtain ⟨H2,e2⟩:∃ H2,H1.newExact [.int .i64 0] 3 = H2:=⟨_,rfl⟩;rw [e2] at al2;have hK2:Keep H1 H2:=by rw [← e2]; exact Keep.newExact _ _ _
  have o2:Own H2 H1.size 3 [.int .i64 0]:=by rw [← e2]; exact Own.new _ _ _
  have z2:H2.size = H1.size + 1:=by rw [← e2,size_new]
  have al3:=alB H2;obtain ⟨H3,e3⟩:∃ H3,H2.newExact [.bool false] 4 = H3:=⟨_,rfl⟩;rw [e3] at al3;have hK3:Keep H2 H3:=by rw [← e3]; exact Keep.newExact _ _ _
  have o3:Own H3 H2.size 4 [.bool false]:=by rw [← e3]; exact Own.new _ _ _
  have z3:H3.size = H2.size + 1:=by rw [← e3,size_new]
  obtain ⟨H4,e4⟩:∃ H4,H3.newExact [.slice a w.length c] 35 = H4:=⟨_,rfl⟩;have f4:=(backP_runs hS a w.length c H3).bx;rw [e4] at f4;have hK4:Keep H3 H4:=by rw [← e4]; exact Keep.newExact _ _ _
  have o4:Own H4 H3.size 35 [.slice a w.length c]:=by rw [← e4]; exact Own.new _ _ _
  have z4:H4.size = H3.size + 1:=by rw [← e4,size_new]
  have hK04:=((hK1.trans hK2).trans hK3).trans hK4;have p1:=((o1.keep hK2).keep hK3).keep hK4;have p2:=(o2.keep hK3).keep hK4;have p3:=o3.keep hK4;have q1:H.size < H1.size:=by omega
  have q2:H1.size < H2.size:=by omega
  have q3:H2.size < H3.size:=by omega
  have q4:H3.size < H4.size:=by omega
  clear hK1 hK2 hK3 hK4 o1 o2 o3 z1 z2 z3 z4;refine Zabc Try.func39 rfl (Nat.le_of_ble_eq_true rfl) (hS.no rfl _ _) ?_
  rw [Try.ntmps39,Try.results39];have ci:∀ (k:IntKind) (z:Int),(Value.int k z).cells.toList = [.int k z]:=fun _ _ => rfl
  repeat' simp only [↓Zabz,↓Zacb,↓Zabw,↓Zaca,↓Zacy,↓Zacx,↓Zadd,↓Zaaw,↓Zaal,↓bxOp_box,↓Zaay,↓Zaba,↓Zada,↓bxPut,↓Zabu,↓Zabs,↓Zadb,↓bxRes_cell,↓Zade,↓Zabi,↓Zabg,↓Zabh,Zacz,Zacd,Zabp,List.map,List.nil_append,List.append_nil,↓reduceIte,Nat.reduceEqDiff,Nat.reduceLT, *,argF,List.getD_cons_zero,List.getD_cons_succ]
  refine range_I (fun ρ => ρ 3 = .pointer (some ⟨H.size,0,none⟩) ∧ ρ 4 = .pointer (some ⟨H1.size,0,none⟩) ∧ ρ 5 = .pointer (some ⟨H2.size,0,none⟩) ∧ ρ 9 = .func (.func 82) ⟨[]⟩ ⟨[.pointer (some ⟨H3.size,0,none⟩)]⟩)
    (f:=82) (fa:=[]) (fb:=[.pointer (some ⟨H3.size,0,none⟩)]) ⟨rfl,rfl,rfl,rfl⟩ (fun ρ hI => hI.2.2.2) ?_
  rintro ρ lr ⟨i3,i4,i5,_⟩ hst hfr hps has hbd;obtain ⟨lp0,kl0,_⟩:=LoopAt.new H4 lr;have hpend:lr.pending = none:=by rw [← hst]; rfl
  have hstate:lr.state = .ready:=by rw [← hst]; rfl
  have hstr:=hst;obtain ⟨iI,hiI,hsI⟩:=infoI;obtain ⟨iB,hiB,hsB⟩:=infoB
  refine (backPC_runs hS (l:=H4.size) (B:=H3.size) a c w
    (fun k X => Keep H X ∧ Own X H.size 3 [.int .i64 by'] ∧ Own X H1.size 3 [.int .i64 0] ∧ Own X H2.size 4 [.bool false] ∧ Own X H3.size 35 [.slice a w.length c] ∧ LoopAt X H4.size lr ∧ ∀ j,k ≤ j → j < w.length → ¬ (w.getD j default).2 ≤ by')
    (fun X => ∃ x,Keep H X ∧ X.read H1.size 0 1 = some [.int .i64 x] ∧ X.read H2.size 0 1 = some [.bool true] ∧ LoopAt X H4.size (lr.st .done (some .ret)) ∧ BackQ w by' x true) _ ?_ ?_ ?_ hml).mono ?_
  · rintro k X ⟨hk,_,_,_,h4,_⟩;exact ⟨h4.read (o:=0) (n:=1) (by simp),r,o,hl.keep hk⟩
  · rintro k X hkl ⟨hk,h1,h2,h3,h4,hlp,hno⟩;refine rnd_I hlp hst hfr hps has hbd rfl (show ∀ t ∈ ([10,11] : List Nat),t < 18 by decide) rfl rfl ?_
    clear hps has hbd;obtain ⟨x,hx⟩:∃ x,x = w.getD k default:=⟨_,rfl⟩;rw [← hx];have hal:=alS X;obtain ⟨H6,s6,hK6,z6,_,g0,g1⟩:=newS X x;have hlp6:=hlp.keep hK6;obtain ⟨H7,h7⟩:∃ H7,H7 = loopSet H6 H4.size lr .busy none:=⟨_,rfl⟩;obtain ⟨hlp7,hx7⟩:=hlp6.set .busy none;rw [← h7] at hlp7 hx7;have hK07:Keep H H7:=hx7.base H hg (hk.trans hK6) (by omega)
    have hn6:X.size ≠ H4.size:=by have:=hlp.lt; omega
    have kp:∀ {s:Nat} {e:TypeId} {cs:List Value},Own X s e cs → s ≠ H4.size → Own H7 s e cs:=fun ho hs => by
      have h5:=ho.keep hK6;exact ⟨(hx7.row _ _ hs h5.lt h5.get).1,Nat.lt_of_lt_of_le h5.lt hx7.size⟩
    have k1:=kp h1 (by omega)
    have k2:=kp h2 (by omega)
    have k3:=kp h3 (by omega)
    have k4:=kp h4 (by omega)
    have rd:∀ {s o n:Nat} {l:List Value},s ≠ H4.size → s < H6.size → H6.read s o n = some l → H7.read s o n = some l:=fun hs hz hr => by
      obtain ⟨row,a1,a2,a3,a4⟩:=read_inv hr;obtain ⟨b1,b2⟩:=hx7.row _ row hs hz a1;unfold Heap.read at hr ⊢;rw [a1] at hr;rw [b1];simp only [b2] at hr ⊢;exact hr
    have g0':=rd hn6 z6 g0;have g1':=rd hn6 z6 g1;have rb:=k1.read (o:=0) (n:=1) (by simp)
    replace rb:H7.read H.size 0 1 = some [.int .i64 by']:=rb
    have h7':=h7.symm
    by_cases hc:x.2 ≤ by'
    · obtain ⟨H8,s8,o8,x8,z8⟩:=k2.storeX (o:=0) (t:=3) hiI (v:=.int .i64 x.1) (new:=[.int .i64 x.1]) rfl hsI rfl (by simp)
      have o8:Own H8 H1.size 3 [.int .i64 x.1]:=by simpa [splice] using o8
      have k38:Own H8 H2.size 4 [.bool false]:=⟨(x8.row _ _ (by omega) k3.lt k3.get).1,Nat.lt_of_lt_of_le k3.lt x8.size⟩
      have hlp8:=hlp7.keepX x8 (by omega)
      have hK08:=x8.base H hg hK07 (by omega)
      obtain ⟨H9,s9,o9,x9,z9⟩:=k38.storeX (o:=0) (t:=4) hiB (v:=.bool true) (new:=[.bool true]) rfl hsB rfl (by simp)
      have o9:Own H9 H2.size 4 [.bool true]:=by simpa [splice] using o9
      have o89:Own H9 H1.size 3 [.int .i64 x.1]:=⟨(x9.row _ _ (by omega) o8.lt o8.get).1,Nat.lt_of_lt_of_le o8.lt x9.size⟩
      have hlp9:=hlp8.keepX x9 (by omega)
      have hK09:=x9.base H hg hK08 (by omega)
      obtain ⟨hlpA,hxA⟩:=hlp9.set .done (some .ret);have hK0A:=hxA.base H hg hK09 (by omega)
      have oA:Own (loopSet H9 H4.size (lr.st .busy none) .done (some .ret)) H1.size 3 [.int .i64 x.1]:=⟨(hxA.row _ _ (by omega) o89.lt o89.get).1,Nat.lt_of_lt_of_le o89.lt hxA.size⟩
      have oB:Own (loopSet H9 H4.size (lr.st .busy none) .done (some .ret)) H2.size 4 [.bool true]:=⟨(hxA.row _ _ (by omega) o9.lt o9.get).1,Nat.lt_of_lt_of_le o9.lt hxA.size⟩
      have hp:∃ x,Keep H (loopSet H9 H4.size (lr.st .busy none) .done (some .ret)) ∧ (loopSet H9 H4.size (lr.st .busy none) .done (some .ret)).read H1.size 0 1 = some [.int .i64 x] ∧ (loopSet H9 H4.size (lr.st .busy none) .done (some .ret)).read H2.size 0 1 = some [.bool true] ∧ LoopAt (loopSet H9 H4.size (lr.st .busy none) .done (some .ret)) H4.size (lr.st .done (some .ret)) ∧ BackQ w by' x true:=
        ⟨x.1,hK0A,oA.read (o:=0) (n:=1) (by simp),oB.read (o:=0) (n:=1) (by simp),hlpA,.inl ⟨k,hkl,by rw [← hx]; exact hc,fun j h1 h2 => hno j h1 h2,by rw [hx],rfl⟩⟩
      clear hno hx hst hstr hfr h7 hlp hlp7 hx7 hK07 kp k1 k2 k3 k4 rd g0 g1 hk h1 h2 h3 h4 o8 x8 k38 hlp8 hK08 o9 o89 x9 hK09 hlpA hxA hK0A oA oB z8 z9 p1 p2 p3 o4
      repeat' simp only [↓Zacc,↓Zabz,↓Zacb,↓Zaai,↓Zabw,↓Zaca,↓Zacy,↓Zacx,↓Zadd,↓Zaal,↓Zaav,↓Zaay,↓Zaao,↓Zaas,↓Zada,↓bxPut,↓Zabu,↓Zaag,↓Zaah,↓Zade,↓Zabi,↓Zabg,Zacz,Zaae,Zabk,Zacw,↓reduceIte,Nat.reduceEqDiff,Nat.reduceLT,dec_T,or_true,and_self,Nat.add_zero,one1,Option.bind_some, *,updL,faS0,faS1,ldC,one1,goOn,stOf,AExit.jump]
    · have hdY:=hlp7.set .ready none;obtain ⟨hlpA,hxA⟩:=hdY;have hK0A:=hxA.base H hg hK07 (by omega)
      have ka:∀ {s:Nat} {e:TypeId} {cs:List Value},Own H7 s e cs → s ≠ H4.size → Own (loopSet H7 H4.size (lr.st .busy none) .ready none) s e cs:=fun ho hs => ⟨(hxA.row _ _ hs ho.lt ho.get).1,Nat.lt_of_lt_of_le ho.lt hxA.size⟩
      rw [LoopRec.st_st,hstr] at hlpA;have hp:Keep H (loopSet H7 H4.size (lr.st .busy none) .ready none) ∧ Own (loopSet H7 H4.size (lr.st .busy none) .ready none) H.size 3 [.int .i64 by'] ∧ Own (loopSet H7 H4.size (lr.st .busy none) .ready none) H1.size 3 [.int .i64 0] ∧ Own (loopSet H7 H4.size (lr.st .busy none) .ready none) H2.size 4 [.bool false] ∧ Own (loopSet H7 H4.size (lr.st .busy none) .ready none) H3.size 35 [.slice a w.length c] ∧ LoopAt (loopSet H7 H4.size (lr.st .busy none) .ready none) H4.size lr ∧ ∀ j,k ≤ j → j < w.length → ¬ (w.getD j default).2 ≤ by':=
        ⟨hK0A,ka k1 (by omega),ka k2 (by omega),ka k3 (by omega),ka k4 (by omega),hlpA,fun j h1 h2 => by
          rcases Nat.lt_or_ge k j with h3 | h3
          · exact hno j h3 h2
          · rw [show j = k by omega,← hx]; exact hc⟩
      clear hno hx hst hstr hfr h7 hlp hx7 hK07 kp k1 k2 k3 k4 rd g0 g1 hk h1 h2 h3 h4 hlpA hxA hK0A ka p1 p2 p3 o4;have hp':=hp;clear hp
      repeat' simp only [↓Zacc,↓Zabz,↓Zacb,↓Zaai,↓Zabw,↓Zaca,↓Zacy,↓Zacx,↓Zadd,↓Zaal,↓Zaav,↓Zaay,↓Zaao,↓Zaas,↓Zada,↓bxPut,↓Zabu,↓Zaag,↓Zaah,↓Zade,↓Zabi,↓Zabg,Zacz,Zaae,Zabk,Zacv,↓reduceIte,Nat.reduceEqDiff,Nat.reduceLT,dec_F,true_and,one1,Option.bind_some, *,updL,faS1,ldC,one1,goOn,stOf,AExit.jump]
      exact .inl hp'.2.2.2.2.2.2
  · exact ⟨hK04.trans kl0,p1.keep kl0,p2.keep kl0,p3.keep kl0,o4.keep kl0,lp0,fun j h1 h2 => by omega⟩
  · rintro _ X (⟨hk,_,h2,h3,_,hlp,hno⟩ | ⟨x,hk,h2,h3,hlp,hq⟩)
    · refine ⟨.normal,lr,hlp,by rw [hpend]; rfl,by rw [hstate]; rfl,?_⟩
      obtain ⟨Y,hY⟩:∃ Y,Y = loopSet X H4.size lr .exhausted (AExit.jump .normal):=⟨_,rfl⟩;obtain ⟨_,hxA⟩:=hlp.set .exhausted (AExit.jump .normal);rw [← hY] at hxA;have hK0A:=hxA.base H hg hk (by omega)
      have k2:Own Y H1.size 3 [.int .i64 0]:=⟨(hxA.row _ _ (by omega) h2.lt h2.get).1,Nat.lt_of_lt_of_le h2.lt hxA.size⟩
      have k3:Own Y H2.size 4 [.bool false]:=⟨(hxA.row _ _ (by omega) h3.lt h3.get).1,Nat.lt_of_lt_of_le h3.lt hxA.size⟩
      obtain ⟨H8,s8,o8,x8,z8⟩:=k2.storeX (o:=0) (t:=3) hiI (v:=.int .i64 0) (new:=[.int .i64 0]) rfl hsI rfl (by simp)
      have o8:Own H8 H1.size 3 [.int .i64 0]:=by simpa [splice] using o8
      have k38:Own H8 H2.size 4 [.bool false]:=⟨(x8.row _ _ (by omega) k3.lt k3.get).1,Nat.lt_of_lt_of_le k3.lt x8.size⟩
      have hK08:=x8.base H hg hK0A (by omega)
      obtain ⟨H9,s9,o9,x9,z9⟩:=k38.storeX (o:=0) (t:=4) hiB (v:=.bool false) (new:=[.bool false]) rfl hsB rfl (by simp)
      have o9:Own H9 H2.size 4 [.bool false]:=by simpa [splice] using o9
      have o89:Own H9 H1.size 3 [.int .i64 0]:=⟨(x9.row _ _ (by omega) o8.lt o8.get).1,Nat.lt_of_lt_of_le o8.lt x9.size⟩
      have hK09:=x9.base H hg hK08 (by omega)
      have rA:H9.read H1.size 0 1 = some [.int .i64 0]:=o89.read (o:=0) (n:=1) (by simp)
      have rB:H9.read H2.size 0 1 = some [.bool false]:=o9.read (o:=0) (n:=1) (by simp)
      have hp:∃ x b,Keep H H9 ∧ BackQ w by' x b ∧ Value.tuple ⟨[.int .i64 0,.bool false]⟩ = .tuple ⟨[.int .i64 x,.bool b]⟩:=⟨0,false,hK09,.inr ⟨fun j hj => hno j (Nat.zero_le _) hj,rfl,rfl⟩,rfl⟩
      have hY':=hY.symm;clear hno hst hstr hfr hY hlp hk h2 h3 hxA hK0A k2 k3 o8 x8 k38 hK08 o9 o89 x9 hK09 z8 z9 p1 p2 p3 o4 hps has hbd
      repeat' simp only [↓Zabu,↓Zaag,Zacz,one1,Option.bind_some, *,ldC,ldB,one1]
    · refine ⟨.ret,_,hlp,rfl,rfl,?_⟩;obtain ⟨Y,hY⟩:∃ Y,Y = loopSet X H4.size (lr.st .done (some .ret)) .exhausted (AExit.jump .ret):=⟨_,rfl⟩;obtain ⟨_,hxA⟩:=hlp.set .exhausted (AExit.jump .ret);rw [← hY] at hxA;have hK0A:=hxA.base H hg hk (by omega)
      have rd:∀ {s o n:Nat} {l:List Value},s ≠ H4.size → s < X.size → X.read s o n = some l → Y.read s o n = some l:=fun hs hz hr => by
        obtain ⟨row,a1,a2,a3,a4⟩:=read_inv hr;obtain ⟨b1,b2⟩:=hxA.row _ row hs hz a1;unfold Heap.read at hr ⊢;rw [a1] at hr;rw [b1];simp only [b2] at hr ⊢;exact hr
      have hzl:=hlp.lt;have rA:=rd (by omega) (by omega) h2
      have rB:=rd (by omega) (by omega) h3
      have hp:∃ x' b,Keep H Y ∧ BackQ w by' x' b ∧ Value.tuple ⟨[.int .i64 x,.bool true]⟩ = .tuple ⟨[.int .i64 x',.bool b]⟩:=⟨x,true,hK0A,hq,rfl⟩
      have hY':=hY.symm;clear hst hstr hfr hY hlp hk h2 h3 hxA hK0A rd hq p1 p2 p3 o4 hps has hbd
      repeat' simp only [↓Zabv,↓Zaah,↓Zabs,↓Zadb,↓bxRes_cell,Zacz,Zabp,one1,Option.bind_some, *,ldC,ldB,one1,Zabp]
end Go.Proofs.Yteechkbnccpicaa
