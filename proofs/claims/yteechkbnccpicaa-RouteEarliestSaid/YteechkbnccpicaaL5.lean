/- The shortest journey: the function. -/
import Derived.Test.YteechkbnccpicaaL4
set_option linter.unusedVariables false
set_option linter.unusedSimpArgs false
set_option linter.unusedSectionVars false

namespace Go.Proofs.Yteechkbnccpicaa
open Go Go.AM
set_option maxRecDepth 10000

theorem alC (H:Heap):aAlloc Try.prog H 3 = some (.pointer (some ⟨H.size,0,none⟩),H.newExact [.int .i64 0] 3):=by kernel_rfl
theorem newC (H:Heap) (x:Int):∃ H2,aStore Try.prog (H.newExact [.int .i64 0] 3) 3 (.pointer (some ⟨H.size,0,none⟩)) (.int .i64 x) = some H2 ∧ Keep H H2 ∧ H.size < H2.size ∧ H2.read H.size 0 1 = some [.int .i64 x]:=by
  obtain ⟨i,hi,hsz⟩:=infoI;obtain ⟨H2,h1,h2,h3,h4,h5⟩:=(Own.new H [.int .i64 0] 3).store (t:=3) hi (v:=.int .i64 x) (new:=[.int .i64 x]) rfl (by rw [hsz]; rfl) rfl (o:=0) (by show 0 + 1 ≤ 1; decide)
  have h2:Own H2 H.size 3 [.int .i64 x]:=h2;exact ⟨H2,h1,h5 H (Keep.newExact _ _ _) (Nat.le_refl _),h2.lt,h2.read (o:=0) (n:=1) (by show 0 + 1 ≤ 1; decide)⟩
def PostS (ls:List Lg) (ch fr to at' by':Int) (H:Heap) (u:Value) (H':Heap):Prop:=
  ∃ (x:Value) (b:Bool) (js:List Nat),u = .tuple ⟨[x,.bool b]⟩ ∧ Keep H H' ∧ (js = [] → x = .slice none 0 0) ∧
    (fr = to → b = decide (at' ≤ by') ∧ js = []) ∧
    (fr ≠ to → (b = false ∧ js = [] ∧ ∀ i r,Ch ls ch i r → BegB fr at' (ls.getD i default) → ¬ EndsB to by' (ls.getD (lastN i r) default)) ∨
      (b = true ∧ JL H.size H' x js ∧ ∃ i r,js = i :: r ∧ Short ls ch (BegB fr at') (EndsB to by') i r))

variable {S:AM.Sys} (hS:Only S 11)
include hS

theorem shortC1_ok {ls:List Lg} {a:Option Addr} {c r o W T:Nat} {fr to at' by':Int} {H0:Heap} (hL:H0.low ≤ H0.size) (hl:SlG H0 (.slice a ls.length c) ls r o)
    (rW:H0.read W 0 4 = some [.int .i64 fr,.int .i64 to,.int .i64 at',.int .i64 by']) (hW:W < H0.size) (rT:H0.read T 0 1 = some [.slice a ls.length c]) (hT:T < H0.size) :
    KOk S H0 66 [] [.pointer (some ⟨W,0,none⟩),.pointer (some ⟨T,0,none⟩)] ls.length (fun i => decide ((ls.getD i default).f = fr ∧ at' ≤ (ls.getD i default).d)):=fun H i hk hi => by
  suffices h:WCall Try.prog S (.fn 66) [.int .i64 (i:Int),.pointer (some ⟨W,0,none⟩),.pointer (some ⟨T,0,none⟩)] H (fun u H' => u = .bool (decide ((ls.getD i default).f = fr ∧ at' ≤ (ls.getD i default).d)) ∧ Keep H H') by
    obtain ⟨_,H',hr,rfl,hk⟩:=h; exact ⟨H',hk,hr⟩
  have rW:=hk.read hW rW;have rT:=hk.read hT rT;have hLh:=hk.low hL;obtain ⟨q,hix,hrd,_⟩:=SlG_at (hl.keep hk) hi;obtain ⟨x,hx⟩:∃ x,x = ls.getD i default:=⟨_,rfl⟩;rw [← hx] at hrd;rw [← hx];obtain ⟨H6a,H6,hK6,hL6,f6,fd6⟩:=drawn hLh (begins_runs hS fr to at' by' x (H.relow H.size))
  unfold wv at f6;obtain ⟨b,hb⟩:∃ b,b = decide (x.f = fr ∧ at' ≤ x.d):=⟨_,rfl⟩;rw [← hb] at f6;rw [← hb];clear hl hb hx hk;refine Zaba Try.func66 rfl (Nat.le_of_ble_eq_true rfl) (hS.no rfl _ _) ?_
  rw [Try.ntmps66,Try.results66]
  repeat' (first | simp only [↓Zabv,↓Zabx,↓Zabz,↓Zaby,↓Zacw,↓Zacv,↓Zaco,↓Zaak,↓Zacj,↓sxDL_assign,↓Zaci,↓Zacg,↓Zach,↓Zacn,↓Zadb,↓Zaau,↓Zaam,↓Zaat,↓Zaaq,↓Zaar,↓Zaay,↓bxPut,↓Zabs,↓Zabq,↓Zacz,↓Zada,↓Zadc,↓Zabg,↓Zabe,↓Zabf,Zacx,Zacb,Zabm,List.map,List.nil_append,List.append_nil,↓reduceIte,Nat.reduceEqDiff,Nat.reduceLT,true_and,Zaab,Nat.add_zero,one1,Option.bind_some,Option.map_some, *,argF,List.getD_cons_zero,List.getD_cons_succ,ldW,ldLs,ldG,faT0,one1] | (with_reducible first | refine Zacd (by assumption) (by decide +kernel) ?_ | refine Zacc (by decide +kernel) ?_ | refine Zacm (by decide +kernel) ?_ | refine Zacf ?_))
theorem shortC2_ok {ls:List Lg} {a:Option Addr} {c r o T L9 last:Nat} {ch:Int} {v:Value} {H0:Heap} (hL:H0.low ≤ H0.size) (hl:SlG H0 (.slice a ls.length c) ls r o) (hlast:last < ls.length) (hf:Fit ch (ls.getD last default))
    (rT:H0.read T 0 3 = some [.slice a ls.length c,.int .i64 ch,v]) (hT:T < H0.size) (r9:H0.read L9 0 1 = some [.int .i64 (last:Int)]) (h9:L9 < H0.size) :
    KOk S H0 67 [] [.pointer (some ⟨T,0,none⟩),.pointer (some ⟨L9,0,none⟩)] ls.length (fun j => joinB ch (ls.getD last default) (ls.getD j default)):=fun H i hk hi => by
  suffices h:WCall Try.prog S (.fn 67) [.int .i64 (i:Int),.pointer (some ⟨T,0,none⟩),.pointer (some ⟨L9,0,none⟩)] H (fun u H' => u = .bool (joinB ch (ls.getD last default) (ls.getD i default)) ∧ Keep H H') by
    obtain ⟨_,H',hr,rfl,hk⟩:=h; exact ⟨H',hk,hr⟩
  have rT:=hk.read hT rT;have r9:=hk.read h9 r9;obtain ⟨H6,hK6,hR6⟩:=follows_runs hS ls a c r o ch v H (hk.low hL) (hl.keep hk) last i hlast hi hf;have f6:=hR6.bx;unfold tv at f6;clear hl hk hR6;refine Zaba Try.func67 rfl (Nat.le_of_ble_eq_true rfl) (hS.no rfl _ _) ?_
  rw [Try.ntmps67,Try.results67]
  repeat' simp only [↓Zabx,↓Zabz,↓Zaby,↓Zacw,↓Zacv,↓Zadb,↓Zaau,↓Zaam,↓Zaat,↓Zaay,↓bxPut,↓Zabs,↓Zabq,↓Zacz,↓Zada,↓Zadc,↓Zabg,↓Zabe,↓Zabf,Zacx,Zacb,Zabm,List.map,List.nil_append,List.append_nil,↓reduceIte,Nat.reduceEqDiff,Nat.reduceLT,and_self,one1,Option.bind_some,Option.map_some, *,argF,List.getD_cons_zero,List.getD_cons_succ,ldTt,ldC,one1]

set_option maxHeartbeats 4000000 in
theorem short_runs {ls:List Lg} {a:Option Addr} {c r o:Nat} {ch:Int} {ro:Nat} {R:Array Int} {H:Heap} (tt:TT ls a c r o ch ro R H) (fr to at' by':Int) (hL:H.low ≤ H.size) (hg:Grp H) :
    ∃ u H',Runs Try.prog S (.fn 38) [tvo ls a c ch ro,wv fr to at' by'] H u H' ∧ PostS ls ch fr to at' by' H u H':=by
  suffices h:WCall Try.prog S (.fn 38) [tvo ls a c ch ro,wv fr to at' by'] H (fun u H' => PostS ls ch fr to at' by' H u H') by
    obtain ⟨u,H',hr,h⟩:=h; exact ⟨u,H',hr,h⟩
  obtain ⟨H1,e1,hK1,t3,t0,_,_⟩:=boxT H a ls.length c ch (.slice (some ⟨ro,0,none⟩) ls.length ls.length);have z1:H.size < H1.size:=by rw [← e1,size_new]; omega
  obtain ⟨H2,e2,hK2,w4,w0,w1,w2,w3⟩:=boxW H1 fr to at' by'
  have z2:H1.size < H2.size:=by rw [← e2,size_new]; omega
  have hK02:=hK1.trans hK2;have hL2:=hK02.low hL;have z12:H.size < H2.size:=by omega
  have t3:=hK2.read z1 t3;have t0:=hK2.read z1 t0;refine Zaba Try.func38 rfl (Nat.le_of_ble_eq_true rfl) (hS.no rfl _ _) ?_
  rw [Try.ntmps38,Try.results38]
  by_cases hft:fr = to
  · have d1:decide (fr = to) = true:=decide_eq_true hft;have hp:∀ b,b = decide (at' ≤ by') → PostS ls ch fr to at' by' H (.tuple ⟨[.slice none 0 0,.bool b]⟩) H2:=fun b hb => ⟨_,b,[],rfl,hK02,fun _ => rfl,fun _ => ⟨hb,rfl⟩,fun h => absurd hft h⟩
    by_cases hab:at' ≤ by'
    · have hp:=hp true (decide_eq_true hab).symm;clear hft tt
      repeat' (first | simp only [↓Zaca,↓Zabv,↓Zabx,↓Zabz,↓Zaai,↓Zaaj,↓Zabu,↓Zaby,↓Zacw,↓Zacv,↓Zaco,↓Zaak,↓sxDL_assign,↓Zaci,↓Zace,↓Zacg,↓Zacn,↓Zadb,↓Zaau,↓Zaam,↓bxOp_box,↓Zaao,↓Zaat,↓Zaan,↓bxOp_makeFunc,↓Zaaq,↓Zaay,↓bxPut,↓Zabs,↓Zabt,↓Zabq,↓Zacz,↓Zada,↓Zadc,↓Zabg,↓Zabe,↓Zabf,Zacx,Zaae,Zabi,Zacb,Zacu,Zabn,List.nil_append,↓reduceIte,Nat.reduceEqDiff,Nat.reduceLT,dec_T,Zaab,Nat.add_zero,one1,Option.bind_some, *,argF,List.getD_cons_zero,List.getD_cons_succ,tvo,tv,wv,Zabb,faW0,faW1,faW2,faW3,ldC,one1,Zabn] | (with_reducible first | refine Zacd (by assumption) (by decide +kernel) ?_ | refine Zacc (by decide +kernel) ?_ | refine Zacm (by decide +kernel) ?_ | refine Zacf ?_))
    · have hp:=hp false (decide_eq_false hab).symm;clear hft tt
      repeat' (first | simp only [↓Zaca,↓Zabv,↓Zabx,↓Zabz,↓Zaai,↓Zaaj,↓Zabu,↓Zaby,↓Zacw,↓Zacv,↓Zaco,↓Zaak,↓sxDL_assign,↓Zaci,↓Zace,↓Zacg,↓Zacn,↓Zadb,↓Zaau,↓Zaam,↓bxOp_box,↓Zaao,↓Zaat,↓Zaan,↓bxOp_makeFunc,↓Zaaq,↓Zaay,↓bxPut,↓Zabs,↓Zabt,↓Zabq,↓Zacz,↓Zada,↓Zadc,↓Zabg,↓Zabe,↓Zabf,Zacx,Zaae,Zabi,Zacb,Zacu,Zabn,List.nil_append,↓reduceIte,Nat.reduceEqDiff,Nat.reduceLT,dec_F,Zaab,Nat.add_zero,one1,Option.bind_some, *,argF,List.getD_cons_zero,List.getD_cons_succ,tvo,tv,wv,Zabb,faW0,faW1,faW2,faW3,ldC,one1,Zabn] | (with_reducible first | refine Zacd (by assumption) (by decide +kernel) ?_ | refine Zacc (by decide +kernel) ?_ | refine Zacm (by decide +kernel) ?_ | refine Zacf ?_))
  have d1:decide (fr = to) = false:=decide_eq_false hft;have hlr:=least_runs hS ls a c r o ch ro R 64 [wv fr to at' by'] [] (woC to by') 1 H2 hL2 (hK02.grp hg) (tt.keep hK02).legs tt.few (tt.keep hK02).ord tt.ok tt.leg tt.fit (wCnt_runs hS fr to at' by')
    (fun i hi => by unfold woC; split <;> omega) (by decide)
  obtain ⟨u3,H3,hR3,LR,d,rfl,hK3,hO3,hLR,hdz,hLW⟩:=hlr;have hK03:=hK02.trans hK3;have hL3:=hK03.low hL;have f3:=hR3.bx;have h60:=tt.few;have hcnt:=cntOk_of hLW;have rW3:=hK3.read z2 w4;have rT3:=hK3.read z12 t0;have rT33:=hK3.read z12 t3;have zW:H1.size < H3.size:=Nat.lt_of_lt_of_le z2 hK3.size;have zT:H.size < H3.size:=Nat.lt_of_lt_of_le z12 hK3.size;have hko:=shortC1_ok hS hL3 (tt.keep hK03).legs rW3 zW rT3 zT;have hne:=nearest_runs hS H3 LR ls.length d 66 [] [.pointer (some ⟨H1.size,0,none⟩),.pointer (some ⟨H.size,0,none⟩)] _ hO3 hdz h60 hko;obtain ⟨z4,y4,H4,hK4,hnt4,hR4⟩:=hne;have f4:=hR4.bx;have hK34:=hK03.trans hK4;have ny1:notYield (.func 64) = true:=rfl;have ny2:notYield (.func 66) = true:=rfl;have ny3:notYield (.func 67) = true:=rfl;unfold tv wv at f3;have hz4:(z4 = -1 ∧ y4 = 10060 ∧ ∀ j,j < ls.length → decide ((ls.getD j default).f = fr ∧ at' ≤ (ls.getD j default).d) = true → ¬ d[j]! < 10060) ∨ ∃ i:Nat,z4 = (i:Int) ∧ NearK ls (fun j => BegB fr at' (ls.getD j default)) (fun j => d[j]!) i:=by
    rcases hnt4 with h | ⟨i,h1,h2,h3,h4,h5,h6⟩
    · exact .inl h
    · exact .inr ⟨i,h1,h3,of_decide_eq_true (p:=(ls.getD i default).f = fr ∧ at' ≤ (ls.getD i default).d) h4,h5,fun j hj hB => h6 j hj (decide_eq_true (p:=(ls.getD j default).f = fr ∧ at' ≤ (ls.getD j default).d) hB)⟩
  clear hnt4 hR3 hR4 hko;rcases hz4 with ⟨rfl,_,hno⟩ | ⟨i,rfl,hnk⟩
  · have hp:PostS ls ch fr to at' by' H (.tuple ⟨[.slice none 0 0,.bool false]⟩) H4:=⟨_,false,[],rfl,hK34,fun _ => rfl,fun h => absurd h hft,fun _ => .inl ⟨rfl,rfl,fun i r hc hB hE => by
      have h1:=hno i hc.lt (decide_eq_true (p:=(ls.getD i default).f = fr ∧ at' ≤ (ls.getD i default).d) hB);have h2:=hcnt.le i r hc hE;have h3:=hc.len tt.leg
      omega⟩⟩
    have hn1:(-1:Int) < 0:=by decide
    clear hno hcnt hLW tt hK02 hK03 hK34 hO3 hft
    repeat' (first | simp only [↓Zaca,↓Zabv,↓Zabx,↓Zabz,↓Zaai,↓Zaaj,↓Zabu,↓Zaby,↓Zacw,↓Zacv,↓Zaco,↓Zaak,↓sxDL_assign,↓Zaci,↓Zace,↓Zacg,↓Zadb,↓Zaau,↓Zaam,↓bxOp_box,↓Zaao,↓Zaat,↓Zaan,↓bxOp_makeFunc,↓Zaaq,↓Zaay,↓bxPut,↓Zabs,↓Zabt,↓Zabq,↓Zacz,↓Zada,↓Zadc,↓Zabg,↓Zabe,↓Zabf,Zacx,Zaae,Zabi,Zacb,Zacu,Zact,Zabn,List.map,List.nil_append,List.append_nil,↓reduceIte,Nat.reduceEqDiff,Nat.reduceLT,dec_T,and_self,Nat.add_zero,one1,Option.bind_some,Option.map_some, *,argF,List.getD_cons_zero,List.getD_cons_succ,tvo,tv,wv,Zabb,faW0,faW1,ldTt,ldW,ldC,one1,Zabn] | (with_reducible first | refine Zacd (by assumption) (by decide +kernel) ?_ | refine Zacc (by decide +kernel) ?_ | refine Zacm (by decide +kernel) ?_ | refine Zacf ?_))
  have hil:=hnk.1;have hn1:¬ (i:Int) < 0:=by omega
  have bs5:=bsI H4 (i:Int);have hK5n:=Keep.newExact H4 [.int .i64 (i:Int)] 3;have ho5:=Own.new H4 [.int .i64 (i:Int)] 3;obtain ⟨H5,h5⟩:∃ H5,H5 = H4.newExact [.int .i64 (i:Int)] 3:=⟨_,rfl⟩;rw [← h5] at bs5 hK5n ho5;have hK35:=hK4.trans hK5n;have hjl5:JL H3.size H5 (.slice (some ⟨H4.size,0,none⟩) 1 1) [i]:=.inl ⟨i,H4.size,rfl,by omega,rfl,hK4.size,ho5⟩
  have hci:d[i]! < 10060:=hnk.2.2.1;clear h5
  repeat' (first | simp only [↓Zaca,↓Zabv,↓Zabx,↓Zabz,↓Zaai,↓Zaaj,↓Zabu,↓Zaby,↓Zacw,↓Zacv,↓Zaco,↓Zaak,↓sxDL_assign,↓Zaci,↓Zace,↓Zacg,↓Zadb,↓Zaau,↓Zaam,↓bxOp_box,↓Zaao,↓Zaat,↓Zaan,↓bxOp_makeFunc,↓Zaaq,↓Zaay,↓bxPut,↓Zabs,↓Zabt,↓Zabq,↓Zacz,↓Zada,↓Zadc,↓Zabg,↓Zabe,↓Zabf,Zacx,Zaae,Zabi,Zacb,Zact,Zabn,List.map,List.nil_append,List.append_nil,↓reduceIte,Nat.reduceEqDiff,Nat.reduceLT,dec_F,true_and,Nat.add_zero,one1,Option.bind_some,Option.map_some, *,argF,List.getD_cons_zero,List.getD_cons_succ,tvo,tv,wv,Zabb,faW0,faW1,ldTt,ldW,ldC,one1,Zabn] | (with_reducible first | refine Zacd (by assumption) (by decide +kernel) ?_ | refine Zacc (by decide +kernel) ?_ | refine Zacm (by decide +kernel) ?_ | refine Zacf ?_))
  clear f3 f4 bs5 w0 w1 w2 w3 w4 t0 t3
  refine sxL_of (fun m ρ H6 => ∃ (pre:List Nat) (jv:Value),m = d[lastN i pre]!.toNat ∧ lastN i pre < ls.length ∧ d[lastN i pre]! < 10060 ∧ (pre.length:Int) + d[lastN i pre]! ≤ 10060 ∧ (∀ r,BestW ls ch (EndsB to by') (lastN i pre) r → BestW ls ch (EndsB to by') i (pre ++ r)) ∧
      Keep H3 H6 ∧ JL H3.size H6 jv (i :: pre) ∧ ρ 2 = .pointer (some ⟨H.size,0,none⟩) ∧ ρ 6 = .slice (some ⟨LR,0,none⟩) ls.length ls.length ∧ ρ 7 = .int .i64 (lastN i pre:Int) ∧ ρ 8 = jv)
    ⟨[],_,rfl,hil,hci,by show ((0:Nat):Int) + d[i]! ≤ 10060; omega,fun r h => h,hK35,hjl5,rfl,rfl,rfl,rfl⟩ ?_
  clear hjl5 ho5;rintro m ρ H6 ⟨pre,jv,rfl,hll,hlc,hlen,hbw,hK6,hjl,e2',e6,e7,e8⟩;obtain ⟨last,hlast⟩:∃ last,last = lastN i pre:=⟨_,rfl⟩;rw [← hlast] at hll hlc hlen hbw e7 ⊢;have hixl:Zaaa Try.prog 25 (.slice (some ⟨LR,0,none⟩) ls.length ls.length) (.int .i64 (last:Int)) = some (.pointer (some ⟨LR,last,none⟩)):=by
    rw [ixIs,if_pos ⟨by omega,by omega⟩,Int.toNat_natCast,Nat.mul_one,Nat.zero_add]
  have hrl:H6.read LR last 1 = some [.int .i64 d[last]!]:=by
    have h1:=(hO3.keep hK6).read (o:=last) (n:=1) (by rw [flat_len]; show last + 1 ≤ d.size * 1; omega)
    rw [h1];have h2:=flat_at (C:=celInt) d (i:=last) (by omega)
    have h2:((flat celInt d).drop (last * 1)).take 1 = [.int .i64 d[last]!]:=h2;rw [Nat.mul_one] at h2;rw [h2]
  have hK06:=hK03.trans hK6
  by_cases hc:1 < d[last]!
  case neg =>
    have hb:=hbw [] (BestW.nil hcnt hll hc);rw [List.append_nil] at hb;have hp:PostS ls ch fr to at' by' H (.tuple ⟨[jv,.bool true]⟩) H6:=⟨jv,true,i :: pre,rfl,hK06,fun h => (by cases h),fun h => absurd h hft,fun _ => .inr ⟨rfl,hjl.mono hK03.size,i,pre,rfl,Short.of hcnt hnk hb⟩⟩
    clear hb hbw hcnt hLW tt hK02 hK03 hK34 hO3 hft hnk hjl hK06 hlast
    repeat' simp only [↓Zaca,↓Zabx,↓Zabz,↓Zaai,↓Zabu,↓Zabw,↓Zacw,↓Zacv,↓Zadb,↓Zaau,↓Zaam,↓Zaal,↓Zaao,↓Zaat,↓Zaaw,↓Zaan,↓bxOp_makeFunc,↓Zaar,↓Zaay,↓bxOp_append,↓Zacy,↓bxPut,↓Zabs,↓Zabr,↓Zaag,↓Zaaf,↓Zabk,↓Zabj,↓Zadc,↓Zabg,↓Zabe,↓Zabf,Zacx,Zaae,Zabi,Zacb,Zact,List.nil_append,↓reduceIte,Nat.reduceEqDiff,Nat.reduceLT,dec_F,one1,Option.bind_some, *,ldC,one1]
  have hnx:=hcnt.next hll hc hlc;obtain ⟨j0,hj0,hjn0,hjc0,hjd0⟩:=hnx;have hal:=alC H6;have hng:=newC H6 (last:Int);obtain ⟨H7,s7,hK7,z7,r7⟩:=hng;have hK37:=hK6.trans hK7;have hK07:=hK03.trans hK37;have rT7:=hK37.read zT rT33;have zT7:H.size < H7.size:=Nat.lt_of_lt_of_le zT hK37.size;have hko:=shortC2_ok hS (hK07.low hL) (tt.keep hK07).legs hll (tt.fit last hll) rT7 zT7 r7 z7;have hne:=nearest_runs hS H7 LR ls.length d 67 [] [.pointer (some ⟨H.size,0,none⟩),.pointer (some ⟨H6.size,0,none⟩)] _ (hO3.keep hK37) hdz h60 hko;obtain ⟨z8,y8,H8,hK8,hnt8,hR8⟩:=hne;have hz8:∃ j:Nat,z8 = (j:Int) ∧ NearK ls (jn ls ch last) (fun j => d[j]!) j:=by
    rcases hnt8 with ⟨_,_,h3⟩ | ⟨i,h1,h2,h3,h4,h5,h6⟩
    · exact absurd hjc0 (h3 j0 hj0 hjn0)
    · exact ⟨i,h1,h3,h4,h5,fun j hj hB => h6 j hj hB⟩
  obtain ⟨j,rfl,hnj⟩:=hz8;have f8:=hR8.bx;have hK38:=hK37.trans hK8;have hK08:=hK03.trans hK38;have hjd:d[j]! < d[last]!:=by
    have hh:d[j]! ≤ d[j0]!:=(hnj.2.2.2 j0 hj0 hjn0).1;have hjd0:d[j0]! < d[last]!:=hjd0;omega
  have hjl8:=hjl.keep (hK7.trans hK8);have hrj:=(hLW j hnj.1).rng hnj.1 (fun i hi => by unfold woC; split <;> omega) (by decide)
  have hpu:=hjl8.push (H0:=H3) (hK08.grp hg) (hK03.grp hg) hK38 (Nat.le_refl _) hK38.size (j:=j) (by have:=hnj.1; omega) (by simp only [List.length_cons]; omega)
  obtain ⟨v9,H9,ap9,hjl9,hK9⟩:=hpu;have bs9:=bsI H8 (j:Int);have hl':lastN i (pre ++ [j]) = j:=lastN_snoc;have hbw':∀ r,BestW ls ch (EndsB to by') j r → BestW ls ch (EndsB to by') i ((pre ++ [j]) ++ r):=fun r hb => by
    rw [List.append_assoc];exact hbw (j :: r) (BestW.cons hcnt hll hc hnj hb)
  have hms:d[j]!.toNat < d[last]!.toNat:=by omega
  have hjl9:JL H3.size H9 v9 (i :: (pre ++ [j])):=hjl9;have hjc:d[j]! < 10060:=hnj.2.2.1;have hlen':((pre ++ [j]).length:Int) + d[j]! ≤ 10060:=by rw [List.length_append]; show ((pre.length + 1:Nat):Int) + d[j]! ≤ 10060; omega
  have hjl':j < ls.length:=hnj.1;clear hbw hcnt hLW tt hK02 hK03 hK34 hO3 hft hnk hjl hK06 hlast hko hR8 hnt8 hnj hjn0 hjd0 hjd hrj hlen hlc hci hK7 hK37 hK07 hK8 hK38 hK08 hjl8
  repeat' simp only [↓Zaca,↓Zabx,↓Zabz,↓Zaai,↓Zabu,↓Zabw,↓Zacw,↓Zacv,↓Zadb,↓Zaau,↓Zaam,↓Zaal,↓Zaao,↓Zaat,↓Zaaw,↓Zaan,↓bxOp_makeFunc,↓Zaar,↓Zaay,↓bxOp_append,↓Zacy,↓bxPut,↓Zabs,↓Zabr,↓Zaag,↓Zaaf,↓Zabk,↓Zabj,↓Zadc,↓Zabg,↓Zabe,↓Zabf,Zacx,Zaae,Zabi,Zacb,Zacu,List.map,List.nil_append,List.append_nil,↓reduceIte,Nat.reduceEqDiff,Nat.reduceLT,dec_T,true_and,one1,Option.bind_some, *,ldC,one1]
  exact ⟨_,hms,pre ++ [j],v9,by rw [hl'],by rw [hl']; exact hjl',by rw [hl']; exact hjc,by rw [hl']; exact hlen',by rw [hl']; exact hbw',hjl9,by rw [hl'],rfl⟩
end Go.Proofs.Yteechkbnccpicaa
