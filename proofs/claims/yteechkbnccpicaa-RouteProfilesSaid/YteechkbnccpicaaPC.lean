/- A profile, by the reference. -/
import Derived.Test.YteechkbnccpicaaQW
import Derived.Test.YteechkbnccpicaaL7
import Derived.Test.YteechkbnccpicaaR3
set_option linter.unusedVariables false
set_option linter.unusedSimpArgs false
set_option linter.unusedSectionVars false

namespace Go.Proofs.Yteechkbnccpicaa
open Go Go.AM
set_option maxRecDepth 10000

def PostRf (ls:List Lg) (ch fr to e:Int) (H:Heap) (u:Value) (H':Heap):Prop:=
  ∃ (v:Value) (Q:List Pt) (r:Nat),u = .tuple ⟨[v,.int .i64 e]⟩ ∧ Keep H H' ∧ SlP H' v Q r 0 ∧ (e ≠ 0 ∨ fr = to → Q = []) ∧ (e = 0 → fr ≠ to → BestOf (JP ls ch fr to) Q)
theorem nilP (H:Heap):SlP H (.slice none 0 0) [] 0 0:=⟨⟨none,0,rfl,fun h => absurd h (Nat.lt_irrefl 0)⟩,fun i hi => absurd hi (Nat.not_lt_zero i),fun h => absurd h (Nat.lt_irrefl 0),Nat.zero_le _⟩

variable {S:AM.Sys} (hS:Only S 11)
include hS

set_option maxHeartbeats 8000000 in
theorem rProf_runs (n:Int) (ls:List Lg) (lv:Value) (r o:Nat) (ch fr to:Int) (H:Heap) (hL:H.low ≤ H.size) (hg:Grp H) (hl:SlG H lv ls r o) :
    ∃ u H',Runs Try.prog S (.fn 20) [.int .i64 n,lv,.int .i64 ch,.int .i64 fr,.int .i64 to] H u H' ∧ PostRf ls ch fr to (errC n ls ch fr to []) H u H':=by
  suffices h:WCall Try.prog S (.fn 20) [.int .i64 n,lv,.int .i64 ch,.int .i64 fr,.int .i64 to] H (fun u H' => PostRf ls ch fr to (errC n ls ch fr to []) H u H') by
    obtain ⟨u,H',hr,h⟩:=h; exact ⟨u,H',hr,h⟩
  have hlv:=hl.v0;obtain ⟨a,c,rfl⟩:=hlv;have hob:=good_runs hS n ls (.slice a ls.length c) r o ch fr to [] _ 0 0 H hl (nilI H);obtain ⟨H2,k2,hR⟩:=hob;have f1:=hR.bx;obtain ⟨e,he⟩:∃ e,e = errC n ls ch fr to []:=⟨_,rfl⟩;rw [← he] at f1 ⊢;clear hR;refine Zabc Try.func20 rfl (Nat.le_of_ble_eq_true rfl) (hS.no rfl _ _) ?_
  rw [Try.ntmps20,Try.results20]
  by_cases h0:e = 0
  case neg =>
    have hp:PostRf ls ch fr to e H (.tuple ⟨[.slice none 0 0,.int .i64 e]⟩) H2:=⟨_,[],0,rfl,k2,nilP _,fun _ => rfl,fun h => absurd h h0⟩
    have d0:decide (¬ e = 0) = true:=decide_eq_true h0;clear k2 hl he
    repeat' (first | simp only [↓Zacc,↓Zabz,↓Zacb,↓Zaai,↓Zaaj,↓Zabw,↓Zaca,↓Zacy,↓Zacx,↓Zadd,↓Zabb,↓Zaaw,↓Zaan,↓Zaax,↓Zaao,↓Zaba,↓Zaau,↓bxPut,↓Zabu,↓Zabv,↓Zabs,↓Zadb,↓Zadc,↓Zade,↓Zabi,↓Zabg,↓Zabh,↓dstAt,↓Zabj,Zacz,Zaae,Zabk,Zaad,Zacd,Zacs,Zacw,Zabp,List.map_cons,List.map_nil,List.nil_append,List.append_nil,↓reduceIte,Nat.reduceEqDiff,Nat.reduceLT,dec_T,not_false_eq_true, *,argF,List.getD_cons_zero,List.getD_cons_succ,Zabp])
  subst h0;have d0:decide (¬ (0:Int) = 0) = false:=rfl
  by_cases hft:fr = to
  · have hp:PostRf ls ch fr to 0 H (.tuple ⟨[.slice none 0 0,.int .i64 0]⟩) H2:=⟨_,[],0,rfl,k2,nilP _,fun _ => rfl,fun _ h => absurd hft h⟩
    have d1:decide (fr = to) = true:=decide_eq_true hft;clear k2 hl he hft
    repeat' (first | simp only [↓Zacc,↓Zabz,↓Zacb,↓Zaai,↓Zaaj,↓Zabw,↓Zaca,↓Zacy,↓Zacx,↓Zadd,↓Zabb,↓Zaaw,↓Zaan,↓Zaax,↓Zaao,↓Zaba,↓Zaau,↓bxPut,↓Zabu,↓Zabv,↓Zabs,↓Zadb,↓Zadc,↓Zade,↓Zabi,↓Zabg,↓Zabh,↓dstAt,↓Zabj,Zacz,Zaae,Zabk,Zaac,Zacd,Zacr,Zacw,Zabp,List.map_cons,List.map_nil,List.nil_append,List.append_nil,↓reduceIte,Nat.reduceEqDiff,Nat.reduceLT,dec_F,not_true_eq_false, *,argF,List.getD_cons_zero,List.getD_cons_succ,Zabp])
  have d1:decide (fr = to) = false:=decide_eq_false hft;obtain ⟨q1,q2,q3,q4⟩:=errC_zero he.symm;have hlk:=LOk.of q2 q3;have l2:=hl.keep k2;have hg2:=k2.grp hg;have hL2:=k2.low hL;have hfit:∀ i,i < ls.length → Fit ch (ls.getD i default):=fun i hi => by
    have h:LegOk n (ls.getD i default):=q2 _ (getD_mem hi);have h4:=h.2.2.2.1;have h5:=h.2.2.2.2.1;have h6:=h.2.2.2.2.2.1;exact ⟨by omega,by omega⟩
  have hJ:∀ x y,JP ls ch fr to x y → 0 ≤ x ∧ x < 10001:=fun x y ⟨i,r,h1,_,h3,_⟩ => by
    have:=hlk.leg i h1.lt; omega
  clear q2 q3 q4 he hl
  repeat' (first | simp only [↓Zacc,↓Zabz,↓Zacb,↓Zaai,↓Zaaj,↓Zabw,↓Zaca,↓Zacy,↓Zacx,↓Zadd,↓Zabb,↓Zaaw,↓Zaan,↓Zaax,↓Zaao,↓Zaba,↓Zaau,↓bxPut,↓Zabu,↓Zabv,↓Zabs,↓Zadb,↓Zadc,↓Zade,↓Zabi,↓Zabg,↓Zabh,↓dstAt,↓Zabj,Zacz,Zaae,Zabk,Zaac,Zacd,Zacr,Zacv,Zabp,List.map_cons,List.map_nil,List.nil_append,List.append_nil,↓reduceIte,Nat.reduceEqDiff,Nat.reduceLT,dec_F,not_true_eq_false, *,argF,List.getD_cons_zero,List.getD_cons_succ,Zabp])
  clear f1 d0 d1;refine sxL_of (fun m ρ X => ∃ (b:Int) (l:List Pt) (v:Value),m = b.toNat ∧ 0 ≤ b ∧ (l.length:Int) + b ≤ 10001 ∧ Keep H2 X ∧ Grp X ∧ LstG stE 40 H2.size X v l ∧ Bk (JP ls ch fr to) b l ∧ ρ 1 = .slice a ls.length c ∧ ρ 2 = .int .i64 ch ∧ ρ 3 = .int .i64 fr ∧ ρ 4 = .int .i64 to ∧ ρ 13 = v ∧ ρ 14 = .int .i64 b)
    ⟨10001,[],.slice none 0 0,rfl,by decide,by decide,Keep.refl _,hg2,LstG.nil,Bk.nil fun x y h => (hJ x y h).2,rfl,rfl,rfl,rfl,rfl,rfl⟩ ?_
  rintro m ρ X ⟨b,l,v,rfl,hb0,hlb,kX,gX,hlst,hbk,e1,e2,e3,e4,e13,e14⟩;have hLX:=kX.low hL2;obtain ⟨av,rfl⟩:=hlst.isv
  repeat' (first | simp only [↓Zacc,↓Zabz,↓Zacb,↓Zaai,↓Zaaj,↓Zabw,↓Zaby,↓Zacy,↓Zacx,↓Zadd,↓Zabb,↓Zaaw,↓Zaan,↓Zaax,↓Zaap,↓Zaaq,↓Zaav,↓Zaao,↓Zaas,↓Zaat,↓Zaba,↓Zaau,↓Zaam,↓bxPut,↓Zabu,↓Zabt,↓Zaag,↓Zaaf,↓Zabm,↓Zabl,↓Zabi,↓Zabg,↓Zabh,↓dstAt,↓Zabj,Zacd,List.nil_append,Nat.reduceLT, *])
  refine sxL_of (fun m ρ Y => ∃ (i:Nat) (z:Int),m = ls.length - i ∧ i ≤ ls.length ∧ Y = X ∧ DpI ls fr b i z ∧ ρ 1 = .slice a ls.length c ∧ ρ 2 = .int .i64 ch ∧ ρ 3 = .int .i64 fr ∧ ρ 4 = .int .i64 to ∧ ρ 13 = .slice av l.length l.length ∧ ρ 14 = .int .i64 b ∧ ρ 15 = .int .i64 z ∧ ρ 16 = .int .i64 (i:Int))
    ⟨0,-1,rfl,Nat.zero_le _,rfl,DpI.zero,e1,e2,e3,e4,e13,e14,rfl,rfl⟩ ?_
  clear e1 e2 e3 e4 e13 e14 ρ;rintro m ρ Y ⟨i,z,rfl,hi,rfl,hD,e1,e2,e3,e4,e13,e14,e15,e16⟩
  by_cases hil:i < ls.length
  case pos =>
    have hil':(i:Int) < (ls.length:Int):=by omega
    have hwi:IntKind.i64.wrap ((i:Int) + 1) = ((i + 1:Nat):Int):=IntWalk.i64_in _ (by omega)
    have hob:=SlG_at (l2.keep kX) hil;obtain ⟨qg,ixg,_,rf,_,rd,_,_⟩:=hob
    by_cases h1:(ls.getD i default).f = fr
    · have t1:decide ((ls.getD i default).f = fr) = true:=decide_eq_true h1
      by_cases h2:(ls.getD i default).d < b
      · have t2:decide ((ls.getD i default).d < b) = true:=decide_eq_true h2;have hD2:=hD.take h1 h2;have hgz:∃ z2,z2 = (if (ls.getD i default).d > z then (ls.getD i default).d else z):=⟨_,rfl⟩
        obtain ⟨z2,hz2⟩:=hgz;rw [← hz2] at hD2;have hmx:aMinMax .max (.int .i64 z) (.int .i64 (ls.getD i default).d) = some (.int .i64 z2):=by rw [hz2]; rfl
        clear hD h1 h2 hz2 hbk hlst l2 hlk hfit hJ kX gX
        repeat' (first | simp only [↓Zacc,↓Zabz,↓Zacb,↓Zaai,↓Zabw,↓Zaby,↓Zacy,↓Zacx,↓Zadd,↓Zabb,↓Zaaw,↓Zaan,↓Zaax,↓Zaav,↓Zaao,↓Zaas,↓Zaat,↓Zaau,↓bxOp_max,↓bxPut,↓Zabu,↓Zabt,↓Zaag,↓Zaaf,↓Zabm,↓Zabl,↓Zade,↓Zabi,↓Zabg,↓dstAt,↓Zabj,Zacz,Zaae,Zabk,Zaad,Zacu,Zacw,↓reduceIte,Nat.reduceEqDiff,Nat.reduceLT,dec_T,true_and,Nat.add_zero,one1,Option.bind_some, *,lenG,ldC,faG0,faG2,one1])
        exact ⟨ls.length - (i + 1),by omega,i + 1,z2,rfl,by omega,hD2,rfl,rfl⟩
      · have t2:decide ((ls.getD i default).d < b) = false:=decide_eq_false h2;have hD2:=hD.skip (fun _ => h2)
        clear hD h1 h2 hbk hlst l2 hlk hfit hJ kX gX
        repeat' (first | simp only [↓Zacc,↓Zabz,↓Zacb,↓Zaai,↓Zabw,↓Zaby,↓Zacy,↓Zacx,↓Zadd,↓Zabb,↓Zaaw,↓Zaan,↓Zaax,↓Zaav,↓Zaao,↓Zaas,↓Zaat,↓Zaau,↓bxOp_max,↓bxPut,↓Zabu,↓Zabt,↓Zaag,↓Zaaf,↓Zabm,↓Zabl,↓Zade,↓Zabi,↓Zabg,↓dstAt,↓Zabj,Zacz,Zaae,Zabk,Zaad,Zacu,Zacw,Zacv,↓reduceIte,Nat.reduceEqDiff,Nat.reduceLT,dec_T,true_and,Nat.add_zero,one1,Option.bind_some, *,lenG,ldC,faG0,faG2,one1])
        exact ⟨ls.length - (i + 1),by omega,i + 1,z,rfl,by omega,hD2,rfl,rfl⟩
    · have t1:decide ((ls.getD i default).f = fr) = false:=decide_eq_false h1;have hD2:=hD.skip (fun h => absurd h h1)
      clear hD h1 hbk hlst l2 hlk hfit hJ kX gX
      repeat' (first | simp only [↓Zacc,↓Zabz,↓Zacb,↓Zaai,↓Zabw,↓Zaby,↓Zacy,↓Zacx,↓Zadd,↓Zabb,↓Zaaw,↓Zaan,↓Zaax,↓Zaav,↓Zaao,↓Zaas,↓Zaat,↓Zaau,↓bxOp_max,↓bxPut,↓Zabu,↓Zabt,↓Zaag,↓Zaaf,↓Zabm,↓Zabl,↓Zade,↓Zabi,↓Zabg,↓dstAt,↓Zabj,Zacz,Zaae,Zabk,Zaac,Zact,Zacw,Zacv,↓reduceIte,Nat.reduceEqDiff,Nat.reduceLT,dec_T,true_and,Nat.add_zero,one1,Option.bind_some, *,lenG,ldC,faG0,one1])
      exact ⟨ls.length - (i + 1),by omega,i + 1,z,rfl,by omega,hD2,rfl,rfl⟩
  have hil':¬ (i:Int) < (ls.length:Int):=by omega
  have hie:i = ls.length:=Nat.le_antisymm hi (Nat.not_lt.1 hil);rw [hie] at hD
  by_cases hz0:z < 0
  · have t1:decide (z < 0) = true:=decide_eq_true hz0
    have hbest:=hbk.best (fun x y hP => by
      rcases Int.lt_or_le x b with h | h
      · have:=hD.gap x y hP h;have:=(hJ x y hP).1;omega
      · exact h)
    have hob:=hlst.sl (by have:Go.maxLen = 9223372036854775807:=rfl; omega)
    obtain ⟨r9,s9,_⟩:=hob;have hl10:l.length ≤ 10001:=by omega
    have hwl:IntKind.i64.wrap ((l.length:Int) - 1) = (l.length:Int) - 1:=IntWalk.i64_in _ (by omega)
    have hxl:=s9;clear hie hil hi hD hbk hlst l2 hlk hfit hJ hz0 hlb
    repeat' (first | simp only [↓Zacc,↓Zabz,↓Zacb,↓Zaai,↓Zabw,↓Zaby,↓Zacy,↓Zacx,↓Zadd,↓Zabb,↓Zaaw,↓Zaan,↓Zaax,↓Zaav,↓Zaao,↓Zaas,↓Zaat,↓Zaau,↓bxOp_max,↓bxPut,↓Zabu,↓Zabt,↓Zaag,↓Zaaf,↓Zabm,↓Zabl,↓Zade,↓Zabi,↓Zabg,↓dstAt,↓Zabj,Zacz,Zaae,Zabk,Zacw,Zacv,↓reduceIte,Nat.reduceEqDiff,Nat.reduceLT,dec_F, *,lenG,lenS])
    refine sxL_of (fun m ρ Z => ∃ (q:Nat) (v:Value),m = l.length - q ∧ q ≤ l.length ∧ Keep Y Z ∧ Grp Z ∧ LstG stE 40 Y.size Z v (l.reverse.take q) ∧ ρ 13 = .slice av l.length l.length ∧ ρ 20 = v ∧ ρ 21 = .int .i64 ((l.length:Int) - 1 - q))
      ⟨0,.slice none 0 0,rfl,Nat.zero_le _,Keep.refl _,gX,by rw [List.take_zero]; exact LstG.nil,e13,rfl,by rw [show ((l.length:Int) - 1 - ((0:Nat):Int)) = (l.length:Int) - 1 by omega]; rfl⟩ ?_
    clear e1 e2 e3 e4 e13 e14 e15 e16 ρ hwl;rintro m ρ Z ⟨q,v,rfl,hq,kZ,gZ,hlst,e13,e20,e21⟩
    by_cases hql:q < l.length
    case neg =>
      have hqe:q = l.length:=Nat.le_antisymm hq (Nat.not_lt.1 hql);have t2:decide (0 ≤ (l.length:Int) - 1 - (q:Int)) = false:=decide_eq_false (by omega)
      rw [hqe,List.take_of_length_le (by simp)] at hlst
      have hob:=hlst.sl (by have:Go.maxLen = 9223372036854775807:=rfl; simp; omega)
      obtain ⟨r8,s8,_⟩:=hob;have hp:PostRf ls ch fr to 0 H (.tuple ⟨[v,.int .i64 0]⟩) Z:=⟨v,_,r8,rfl,(k2.trans kX).trans kZ,s8,fun h => by rcases h with h | h; exact absurd rfl h; exact absurd h hft,fun _ _ => hbest⟩
      clear hqe hq hql hlst s8 kX kZ k2 hbest gX gZ hft hL2 hg2
      repeat' (first | simp only [↓Zacc,↓Zabz,↓Zacb,↓Zaai,↓Zabw,↓Zaby,↓Zacy,↓Zacx,↓Zadd,↓Zaaw,↓Zaan,↓Zaaq,↓Zaav,↓Zaao,↓Zaat,↓Zaam,↓bxPut,↓Zabu,↓Zabt,↓Zaag,↓Zaaf,↓Zabm,↓Zabl,↓Zade,↓Zabi,↓Zabg,Zacz,Zaae,Zabk,Zacv,↓reduceIte,Nat.reduceEqDiff,Nat.reduceLT, *])
    have t2:decide (0 ≤ (l.length:Int) - 1 - (q:Int)) = true:=decide_eq_true (by omega)
    have hpos:(l.length:Int) - 1 - (q:Int) = ((l.length - 1 - q:Nat):Int):=by omega
    have hob:=SlP_at (s9.keep kZ) (k:=l.length - 1 - q) (by omega)
    obtain ⟨q8,ix8,rd8,_,_,r81,r82⟩:=hob;rw [← hpos] at ix8;have hwq:IntKind.i64.wrap ((l.length:Int) - 1 - (q:Int) - 1) = (l.length:Int) - 1 - ((q + 1:Nat):Int):=by rw [IntWalk.i64_in _ (by omega)]; omega
    have hgx:∃ x,x = l.getD (l.length - 1 - q) default:=⟨_,rfl⟩;obtain ⟨x,hx⟩:=hgx;rw [← hx] at rd8 r81 r82;have hob:=hlst.push (P:=Try.prog) (ts:=#[35,35]) elemOkP (stableS 0) gZ kZ.size (x:=x) (es:=pc x) (stE_at r81 r82) rfl (by rw [List.length_take]; omega) 40
    obtain ⟨v3,Z3,ap3,l3,gr3⟩:=hob;have htk:l.reverse.take q ++ [x] = l.reverse.take (q + 1):=by
      rw [List.take_add_one,List.getElem?_eq_getElem (by simp; omega),Option.toList_some,List.getElem_reverse,hx,List.getD_eq_getElem?_getD,List.getElem?_eq_getElem (by omega)]; rfl
    rw [htk] at l3;have kZ3:=gr3.base Y gX kZ (Nat.le_refl _);have gZ3:=gr3.grp gZ;have bs3:=bs1P Z x;have hlZ:=kZ.low hLX;unfold pc at rd8 bs3 ap3;clear hx htk hpos hlst s9 kX k2 hbest gX hft hL2 hg2 hxl kZ gZ gr3
    repeat' (first | simp only [↓Zacc,↓Zabz,↓Zacb,↓Zaai,↓Zabw,↓Zaby,↓Zacy,↓Zacx,↓Zadd,↓Zaaw,↓Zaan,↓Zaaq,↓Zaav,↓Zaao,↓Zaat,↓Zaam,↓bxPut,↓Zabu,↓Zabt,↓Zaag,↓Zaaf,↓Zabm,↓Zabl,↓Zade,↓Zabi,↓Zabg,Zacz,Zaae,Zabk,Zacw,List.map_cons,List.map_nil,↓reduceIte,Nat.reduceEqDiff,Nat.reduceLT,true_and,Option.map_some, *,ldS])
    exact ⟨l.length - (q + 1),by omega,q + 1,v3,rfl,by omega,l3,rfl,rfl⟩
  have t1:decide (z < 0) = false:=decide_eq_false hz0;have hzb:z < b ∧ ∃ k,k < ls.length ∧ (ls.getD k default).d = z:=by
    rcases hD.2 with h | ⟨k,h1,_,h2,h3⟩
    · omega
    · exact ⟨by omega,k,h1,h3⟩
  obtain ⟨hzb,_⟩:=hzb;have hob:=rLeaving_runs hS ls (.slice a ls.length c) r o fr z Y (l2.keep kX) q1;obtain ⟨Y2,w0,RL,kY2,ow2,hw0,hB⟩:=hob;have hob:=rCan_runs hS ls a c r o ch (BegB fr z) Y2 Y.size w0 (kY2.grp gX) (kY2.low hLX) q1 ((l2.keep kX).keep kY2) hfit ow2 hw0 hB;obtain ⟨u3,Y3,RC,a3,w,r3,rfl,kY3,hall,s3⟩:=hob;have f3:=RL.bx;have f4:=RC.bx;have kX3:=(kX.trans kY2).trans kY3;have gX3:=kY3.grp (kY2.grp gX);have hlst3:=(hlst.keep kY2).keep kY3;have hL3:=kX3.low hL2;have hwl:w.length = ls.length:=hall.1;clear RL RC kY2 kY3 ow2 hw0 hB hlst kX gX hLX hie hi hil
  repeat' (first | simp only [↓Zacc,↓Zabz,↓Zacb,↓Zaai,↓Zabw,↓Zaby,↓Zacy,↓Zacx,↓Zadd,↓Zabb,↓Zaaw,↓Zaan,↓Zaax,↓Zaav,↓Zaao,↓Zaas,↓Zaat,↓Zaau,↓bxOp_max,↓bxPut,↓Zabu,↓Zabt,↓Zaag,↓Zaaf,↓Zabm,↓Zabl,↓Zade,↓Zabi,↓Zabg,↓dstAt,↓Zabj,Zacz,Zaae,Zabk,Zacv,List.map_cons,List.map_nil,List.append_nil,↓reduceIte,Nat.reduceEqDiff,Nat.reduceLT,dec_F, *,lenG])
  clear f3 f4;refine sxL_of (fun m ρ V => ∃ (j:Nat) (g:Int),m = ls.length - j ∧ j ≤ ls.length ∧ V = Y3 ∧ ArI ls (InR ls w to) j g ∧ ρ 1 = .slice a ls.length c ∧ ρ 2 = .int .i64 ch ∧ ρ 3 = .int .i64 fr ∧ ρ 4 = .int .i64 to ∧ ρ 13 = .slice av l.length l.length ∧ ρ 14 = .int .i64 z ∧ ρ 15 = .int .i64 z ∧ ρ 17 = .slice a3 ls.length ls.length ∧ ρ 18 = .int .i64 g ∧ ρ 19 = .int .i64 (j:Int))
    ⟨0,-1,rfl,Nat.zero_le _,rfl,.inl ⟨rfl,fun i hi => absurd hi (Nat.not_lt_zero i)⟩,e1,e2,e3,e4,e13,rfl,e15,rfl,rfl,rfl⟩ ?_
  clear e1 e2 e3 e4 e13 e14 e15 e16 ρ;rintro m ρ V ⟨j,g,rfl,hj,rfl,har,e1,e2,e3,e4,e13,e14,e15,e17,e18,e19⟩
  by_cases hjl:j < ls.length
  case neg =>
    have hjl':¬ (j:Int) < (ls.length:Int):=by omega
    have hje:j = ls.length:=Nat.le_antisymm hj (Nat.not_lt.1 hjl);rw [hje] at har;have hms:z.toNat < b.toNat:=by omega
    have hz1:0 ≤ z:=by omega
    have hlb2:(l.length:Int) + z ≤ 10001:=by omega
    have hl10:l.length ≤ 10001:=by omega
    rcases har with ⟨hgm,hno⟩ | ⟨i,hi,hin,hgz,hmin⟩
    · have t2:decide (0 ≤ g) = false:=decide_eq_false (by omega)
      have hbk2:=bk_no hbk hzb hD hall hno;clear hno hje hjl hj hD hbk l2 hlk hfit hJ hall hgm s3
      repeat' (first | simp only [↓Zacc,↓Zabz,↓Zacb,↓Zaai,↓Zabw,↓Zaby,↓Zacy,↓Zacx,↓Zadd,↓Zabb,↓Zaaw,↓Zaan,↓Zaax,↓Zaav,↓Zaao,↓Zaas,↓Zaat,↓Zaau,↓bxPut,↓Zabu,↓Zabt,↓Zaag,↓Zaaf,↓Zabm,↓Zabl,↓Zade,↓Zabi,↓Zabg,↓dstAt,↓Zabj,Zacz,Zaae,Zabk,Zaac,sxGuardB_u,Zact,Zacv,↓reduceIte,Nat.reduceEqDiff,Nat.reduceLT,dec_F,true_and, *,lenG])
      exact ⟨z.toNat,hms,z,l,_,rfl,hz1,hlb2,hlst3,hbk2,rfl,rfl⟩
    · have hia:=hlk.leg i hi;have t2:decide (0 ≤ g) = true:=decide_eq_true (by omega)
      have rz:R64 z:=⟨by omega,by omega⟩
      have rg:R64 g:=⟨by omega,by omega⟩
      have hpsh:(0 < l.length → g < (l.getD (l.length - 1) default).2) → ∃ v2 V2,aAppend Try.prog (V.newExact [.int .i64 z,.int .i64 g] 40) #[35,35] (.slice av l.length l.length) (.slice (some ⟨V.size,0,none⟩) 1 1) = some (v2,V2) ∧ LstG stE 40 H2.size V2 v2 (l ++ [(z,g)]) ∧ Keep H2 V2 ∧ Grp V2 ∧ Bk (JP ls ch fr to) z (l ++ [(z,g)]):=fun hx => by
        have hob:=hlst3.push (P:=Try.prog) (ts:=#[35,35]) elemOkP (stableS 0) gX3 kX3.size (x:=(z,g)) (es:=pc (z,g)) (stE_at rz rg) rfl (by omega) 40
        obtain ⟨v2,V2,ap2,l3,gr2⟩:=hob;exact ⟨v2,V2,ap2,l3,gr2.base H2 hg2 kX3 (Nat.le_refl _),gr2.grp gX3,bk_add hbk hzb hD hall hi hin hgz hmin hx⟩
      have bs2:=bs1P V (z,g);unfold pc at bs2;have bd2:=bdS z g;have hlb3:((l ++ [(z,g)]).length:Int) + z ≤ 10001:=by rw [List.length_append]; show ((l.length + 1:Nat):Int) + z ≤ 10001; omega
      by_cases hl0:l.length = 0
      · have d2:decide (((l.length:Nat):Int) = 0) = true:=decide_eq_true (by omega)
        have hob:=hpsh (fun h => by omega)
        obtain ⟨v2,V2,ap2,l3,kV2,gV2,hbk2⟩:=hob;clear hpsh hmin hin hgz hi hje hjl hj hD hbk l2 hlk hfit hJ hall s3 hl0 hia hlst3 kX3 gX3
        repeat' (first | simp only [↓Zacc,↓Zabz,↓Zacb,↓Zaai,↓Zabw,↓Zaby,↓Zacy,↓Zacx,↓Zadd,↓Zabb,↓Zaaw,↓Zaan,↓Zaax,↓Zaav,↓Zaao,↓Zaas,↓Zaat,↓Zaau,↓bxPut,↓Zabu,↓Zabt,↓Zaag,↓Zaaf,↓Zabm,↓Zabl,↓Zade,↓Zabi,↓Zabg,↓dstAt,↓Zabj,Zacz,Zaae,Zabk,Zaad,Zacu,Zacs,Zacw,Zacv,List.map_cons,List.map_nil,↓reduceIte,Nat.reduceEqDiff,Nat.reduceLT,dec_F,true_and, *,lenG,lenS])
        exact ⟨z.toNat,hms,z,_,v2,rfl,hz1,hlb3,l3,hbk2,rfl,rfl⟩
      · have d2:decide (((l.length:Nat):Int) = 0) = false:=decide_eq_false (by omega)
        have hwl:IntKind.i64.wrap ((l.length:Int) - 1) = ((l.length - 1:Nat):Int):=by rw [IntWalk.i64_in _ (by omega)]; omega
        have hob:=hlst3.sl (by have:Go.maxLen = 9223372036854775807:=rfl; omega)
        obtain ⟨r9,s9,_⟩:=hob;have hob:=SlP_at s9 (k:=l.length - 1) (by omega)
        obtain ⟨q9,ix9,_,_,rd9,_,_⟩:=hob
        by_cases hlast:g < (l.getD (l.length - 1) default).2
        · have d3:decide (g < (l.getD (l.length - 1) default).2) = true:=decide_eq_true hlast;have hob:=hpsh (fun _ => hlast)
          obtain ⟨v2,V2,ap2,l3,kV2,gV2,hbk2⟩:=hob;clear hpsh hmin hin hgz hi hje hjl hj hD hbk l2 hlk hfit hJ hall s3 hl0 hia hlst3 kX3 gX3 s9 hlast
          repeat' (first | simp only [↓Zacc,↓Zabz,↓Zacb,↓Zaai,↓Zabw,↓Zaby,↓Zacy,↓Zacx,↓Zadd,↓Zabb,↓Zaaw,↓Zaan,↓Zaax,↓Zaav,↓Zaao,↓Zaas,↓Zaat,↓Zaau,↓bxPut,↓Zabu,↓Zabt,↓Zaag,↓Zaaf,↓Zabm,↓Zabl,↓Zade,↓Zabi,↓Zabg,↓dstAt,↓Zabj,Zacz,Zaae,Zabk,Zaad,Zaac,Zacu,Zacr,Zacw,Zacv,List.map_cons,List.map_nil,↓reduceIte,Nat.reduceEqDiff,Nat.reduceLT,dec_F,true_and,one1,Option.bind_some, *,lenG,lenS,ldC,faS1,one1])
          exact ⟨z.toNat,hms,z,_,v2,rfl,hz1,hlb3,l3,hbk2,rfl,rfl⟩
        · have d3:decide (g < (l.getD (l.length - 1) default).2) = false:=decide_eq_false hlast;have hbk2:=bk_late hbk hzb hD hall hmin (by omega) hlast
          clear hpsh hmin hin hgz hi hje hjl hj hD hbk l2 hlk hfit hJ hall s3 hl0 hia s9 hlast bs2 bd2
          repeat' (first | simp only [↓Zacc,↓Zabz,↓Zacb,↓Zaai,↓Zabw,↓Zaby,↓Zacy,↓Zacx,↓Zadd,↓Zabb,↓Zaaw,↓Zaan,↓Zaax,↓Zaav,↓Zaao,↓Zaas,↓Zaat,↓Zaau,↓bxPut,↓Zabu,↓Zabt,↓Zaag,↓Zaaf,↓Zabm,↓Zabl,↓Zade,↓Zabi,↓Zabg,↓dstAt,↓Zabj,Zacz,Zaae,Zabk,Zaad,Zaac,Zacu,Zacr,Zacv,↓reduceIte,Nat.reduceEqDiff,Nat.reduceLT,dec_F,true_and,one1,Option.bind_some, *,lenG,lenS,ldC,faS1,one1])
          exact ⟨z.toNat,hms,z,l,_,rfl,hz1,hlb2,hlst3,hbk2,rfl,rfl⟩
  have hjl':(j:Int) < (ls.length:Int):=by omega
  have hwj:IntKind.i64.wrap ((j:Int) + 1) = ((j + 1:Nat):Int):=IntWalk.i64_in _ (by omega)
  have hixj:Zaaa Try.prog 58 (.slice a3 ls.length ls.length) (.int .i64 (j:Int)) = some (.pointer (some ⟨r3,0 + j,none⟩)):=by
    obtain ⟨a',c',e',ha'⟩:=s3.isv;rw [hwl] at e';cases e';rw [ha' (by omega),ixB,if_pos ⟨by omega,by omega⟩,Int.toNat_natCast,Nat.mul_one]
  have hob:=s3.rd j (by omega)
  obtain ⟨es,hrdj,hes⟩:=hob;have hes:es = [.bool (w.getD j false)]:=hes;rw [hes] at hrdj;have hrdj:V.read r3 (0 + j) 1 = some [.bool (w.getD j false)]:=by have h:=hrdj; rwa [show 0 + j * boolE.sz = 0 + j from by show 0 + j * 1 = _; omega] at h
  have hob:=SlG_at (l2.keep kX3) hjl;obtain ⟨qg,ixg,_,_,rt,_,ra,_⟩:=hob;have hgb:∃ b1,b1 = w.getD j false:=⟨_,rfl⟩;obtain ⟨b1,hb1⟩:=hgb;rw [← hb1] at hrdj;have hpos:∀ i,InR ls w to i → 0 ≤ (ls.getD i default).a:=fun i hin => by
    by_cases hi:i < ls.length
    · have:=hlk.leg i hi; omega
    · have h:=hin.1;rw [List.getD_eq_getElem?_getD,List.getElem?_eq_none (by omega)] at h
      cases h
  cases b1 with
  | false =>
    have har2:=har.skip (fun h => by have h:=h.1; rw [← hb1] at h; cases h)
    clear har hb1 hpos hD hbk l2 hlk hfit hJ hall s3 kX3 gX3 hlst3
    repeat' (first | simp only [↓Zacc,↓Zabz,↓Zacb,↓Zaai,↓Zabw,↓Zaby,↓Zacy,↓Zacx,↓Zadd,↓Zabb,↓Zaaw,↓Zaan,↓Zaax,↓Zaav,↓Zaao,↓Zaas,↓Zaat,↓Zaau,↓bxPut,↓Zabu,↓Zabt,↓Zaag,↓Zaaf,↓Zabm,↓Zabl,↓Zade,↓Zabi,↓Zabg,↓dstAt,↓Zabj,Zacz,Zaae,Zabk,Zaac,sxGuardB_u,Zact,Zacw,Zacv,↓reduceIte,Nat.reduceEqDiff,Nat.reduceLT,dec_T,true_and,one1,Option.bind_some, *,lenG,ldBo,one1])
    exact ⟨ls.length - (j + 1),by omega,j + 1,g,rfl,by omega,har2,rfl,rfl⟩
  | true =>
  by_cases ht:(ls.getD j default).t = to
  case neg =>
    have dt:decide ((ls.getD j default).t = to) = false:=decide_eq_false ht;have har2:=har.skip (fun h => ht h.2)
    clear har hb1 hpos hD hbk l2 hlk hfit hJ hall s3 kX3 gX3 hlst3 ht
    repeat' (first | simp only [↓Zacc,↓Zabz,↓Zacb,↓Zaai,↓Zabw,↓Zaby,↓Zacy,↓Zacx,↓Zadd,↓Zabb,↓Zaaw,↓Zaan,↓Zaax,↓Zaav,↓Zaao,↓Zaas,↓Zaat,↓Zaau,↓bxPut,↓Zabu,↓Zabt,↓Zaag,↓Zaaf,↓Zabm,↓Zabl,↓Zade,↓Zabi,↓Zabg,↓dstAt,↓Zabj,Zacz,Zaae,Zabk,Zaad,Zaac,sxGuardB_u,Zacu,Zact,Zacw,Zacv,↓reduceIte,Nat.reduceEqDiff,Nat.reduceLT,dec_T,true_and,one1,Option.bind_some, *,lenG,ldBo,ldC,faG1,one1])
    exact ⟨ls.length - (j + 1),by omega,j + 1,g,rfl,by omega,har2,rfl,rfl⟩
  have dt:decide ((ls.getD j default).t = to) = true:=decide_eq_true ht
  by_cases hz:g < 0
  · have dz:decide (g < 0) = true:=decide_eq_true hz;have har2:=har.take ⟨hb1.symm,ht⟩ (.inl hz) hpos;clear har hb1 hpos hD hbk l2 hlk hfit hJ hall s3 kX3 gX3 hlst3 ht hz
    repeat' (first | simp only [↓Zacc,↓Zabz,↓Zacb,↓Zaai,↓Zabw,↓Zaby,↓Zacy,↓Zacx,↓Zadd,↓Zabb,↓Zaaw,↓Zaan,↓Zaax,↓Zaav,↓Zaao,↓Zaas,↓Zaat,↓Zaau,↓bxPut,↓Zabu,↓Zabt,↓Zaag,↓Zaaf,↓Zabm,↓Zabl,↓Zade,↓Zabi,↓Zabg,↓dstAt,↓Zabj,Zacz,Zaae,Zabk,Zaad,Zacu,Zacs,Zacw,↓reduceIte,Nat.reduceEqDiff,Nat.reduceLT,dec_T,true_and,one1,Option.bind_some, *,lenG,ldBo,ldC,faG1,faG3,one1])
    exact ⟨ls.length - (j + 1),by omega,j + 1,_,rfl,by omega,har2,rfl,rfl⟩
  have dz:decide (g < 0) = false:=decide_eq_false hz
  by_cases haz:(ls.getD j default).a < g
  · have da:decide ((ls.getD j default).a < g) = true:=decide_eq_true haz;have har2:=har.take ⟨hb1.symm,ht⟩ (.inr haz) hpos;clear har hb1 hpos hD hbk l2 hlk hfit hJ hall s3 kX3 gX3 hlst3 ht hz haz
    repeat' (first | simp only [↓Zacc,↓Zabz,↓Zacb,↓Zaai,↓Zabw,↓Zaby,↓Zacy,↓Zacx,↓Zadd,↓Zabb,↓Zaaw,↓Zaan,↓Zaax,↓Zaav,↓Zaao,↓Zaas,↓Zaat,↓Zaau,↓bxPut,↓Zabu,↓Zabt,↓Zaag,↓Zaaf,↓Zabm,↓Zabl,↓Zade,↓Zabi,↓Zabg,↓dstAt,↓Zabj,Zacz,Zaae,Zabk,Zaad,Zaac,Zacu,Zacr,Zacw,↓reduceIte,Nat.reduceEqDiff,Nat.reduceLT,dec_T,true_and,one1,Option.bind_some, *,lenG,ldBo,ldC,faG1,faG3,one1])
    exact ⟨ls.length - (j + 1),by omega,j + 1,_,rfl,by omega,har2,rfl,rfl⟩
  · have da:decide ((ls.getD j default).a < g) = false:=decide_eq_false haz;have har2:=har.stay hz haz;clear har hb1 hpos hD hbk l2 hlk hfit hJ hall s3 kX3 gX3 hlst3 ht hz haz
    repeat' (first | simp only [↓Zacc,↓Zabz,↓Zacb,↓Zaai,↓Zabw,↓Zaby,↓Zacy,↓Zacx,↓Zadd,↓Zabb,↓Zaaw,↓Zaan,↓Zaax,↓Zaav,↓Zaao,↓Zaas,↓Zaat,↓Zaau,↓bxPut,↓Zabu,↓Zabt,↓Zaag,↓Zaaf,↓Zabm,↓Zabl,↓Zade,↓Zabi,↓Zabg,↓dstAt,↓Zabj,Zacz,Zaae,Zabk,Zaad,Zaac,Zacu,Zacr,Zacw,Zacv,↓reduceIte,Nat.reduceEqDiff,Nat.reduceLT,dec_T,true_and,one1,Option.bind_some, *,lenG,ldBo,ldC,faG1,faG3,one1])
    exact ⟨ls.length - (j + 1),by omega,j + 1,g,rfl,by omega,har2,rfl,rfl⟩
end Go.Proofs.Yteechkbnccpicaa
