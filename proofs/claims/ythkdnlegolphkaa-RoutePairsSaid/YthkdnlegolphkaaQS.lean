/- The law RoutePairs once all calls are known. -/
import Derived.Test.YthkdnlegolphkaaR8
import Derived.Test.YthkdnlegolphkaaR3
import Derived.Test.YthkdnlegolphkaaQM
set_option linter.unusedVariables false
set_option linter.unusedSimpArgs false
set_option linter.unusedSectionVars false

namespace Go.Proofs.Ythkdnlegolphkaa
open Go Go.AM
set_option maxRecDepth 10000

theorem castL_getD (js:List Nat) (k:Nat):(castL js).getD k 0 = ((js.getD k 0:Nat):Int):=by
  unfold castL;rw [List.getD_eq_getElem?_getD,List.getD_eq_getElem?_getD,List.getElem?_map];cases js[k]? <;> rfl
theorem lastN_take:∀ (r:List Nat) (i k:Nat),k ≤ r.length → lastN i (r.take k) = (i :: r).getD k 0
  | [],i,k,h => by
    have:k = 0:=by simpa using h
    subst this; rfl
  | j :: r,i,0,h => rfl
  | j :: r,i,k + 1,h => by
    have:=lastN_take r j k (by simpa using h)
    simpa [lastN] using this
theorem chgs_take (ls:List Lg) (js:List Nat) (k:Nat) (h0:0 < k) (hk:k < js.length):chgs ls (js.take (k + 1)) = chgs ls (js.take k) + chg1 ls (js.getD (k - 1) 0) (js.getD k 0):=by
  obtain ⟨m,rfl⟩:∃ m,k = m + 1:=⟨k - 1,by omega⟩
  cases js with
  | nil => simp at hk
  | cons i r =>
    have hk':m < r.length:=by simpa using hk
    show chg ls i (r.take (m + 1)) = chg ls i (r.take m) + chg1 ls ((i :: r).getD m 0) (r.getD m 0);rw [List.take_add_one,List.getElem?_eq_getElem hk',Option.toList_some,chg_snoc,lastN_take r i m (by omega)]
    congr 2;rw [List.getD_eq_getElem?_getD,List.getElem?_eq_getElem hk']; rfl
theorem chgs_le (ls:List Lg) (js:List Nat):chgs ls js ≤ js.length:=by
  cases js with
  | nil => exact Nat.le_refl _
  | cons i r => have:=chg_le ls r i; simp only [chgs,List.length_cons]; omega

variable {S:AM.Sys} (hS:Only S 10)
include hS
set_option maxHeartbeats 8000000 in
theorem pair_leaf (n ch fr to at' x2:Int) (ls:List Lg) (l:List Pt) (js:List Nat) (a a1 aj:Option Addr) (c c1 cj r o rt ot rj:Nat) (H H1 H2 H3 H4:Heap)
    (hO:∀ H',S.O 10 [] H') (h80:(ls.length:Int) ≤ 80) (hm:js.length ≤ 10001) (hml:l.length ≤ 9223372036854775807)
    (hR1:Runs Try.prog S (.fn 18) [.int .i64 n,.slice a ls.length c,.int .i64 ch,.int .i64 fr,.int .i64 to,.int .i64 at'] H (.tuple ⟨[.slice a1 l.length c1,.int .i64 0]⟩) H1)
    (hR2:Runs Try.prog S (.fn 11) [.int .i64 n,.slice a ls.length c,.int .i64 ch,.int .i64 fr,.int .i64 to,.int .i64 at'] H1 (.tuple ⟨[.int .i64 x2,.slice aj js.length cj,.int .i64 0]⟩) H2)
    (hR3:Runs Try.prog S (.fn 12) [.int .i64 n,.slice a ls.length c,.int .i64 ch,.int .i64 fr,.int .i64 to,.int .i64 at',.slice aj js.length cj] H2 (.tuple ⟨[.bool true,.int .i64 0]⟩) H3)
    (hR4:Runs Try.prog S (.fn 19) [.int .i64 n,.slice a ls.length c,.int .i64 ch,.int .i64 fr,.int .i64 to,.slice (some ⟨H3.size,0,none⟩) 1 1] (H3.newExact [.int .i64 at'] 3) (.int .i64 0) H4)
    (hL2:H2.low ≤ H2.size) (k3:Keep H2 H3) (sl2:SlE stE H2 (.slice a1 l.length c1) l rt ot) (sj:SlI .i64 H2 (.slice aj (castL js).length cj) (castL js) rj 0) (sG:SlG H2 (.slice a ls.length c) ls r o)
    (hlt:∀ k,k < js.length → js.getD k 0 < ls.length) (hlp:0 < l.length) (hla:(l.getD (l.length - 1) default).2 = x2) (hl0:0 ≤ (l.getD 0 default).1) (hlc:(l.getD (l.length - 1) default).1 ≤ (chgs ls js:Nat))
    (hasc:∀ k,k + 1 < l.length → (l.getD k default).1 < (l.getD (k + 1) default).1 ∧ (l.getD (k + 1) default).2 < (l.getD k default).2) :
    WCall Try.prog S (.fn 8) [.int .i64 n,.slice a ls.length c,.int .i64 ch,.int .i64 fr,.int .i64 to,.int .i64 at'] H (fun v H' => v = .bool true):=by
  have hk1:∀ (H':Heap) (K:Value → Heap → Prop) (b:Blk K),sxCallB Try.prog S (.fn 10) [] H' K b = K (.bool true) H':=fun H' K b => known_bx (hO H')
  clear hO;have f0:=(few_runs hS a ls.length c H).bx;rw [decide_eq_true h80] at f0;have f1:=hR1.bx;have f2:=hR2.bx;have f3:=hR3.bx;have f4:=hR4.bx;clear hR1 hR2 hR3 hR4;have b4:=bsI H3 at';have ex0:∀ x y:Value,aExtract (.tuple ⟨[x,y]⟩) 0 = some x:=fun x y => by kernel_rfl
  have ex1:∀ x y:Value,aExtract (.tuple ⟨[x,y]⟩) 1 = some y:=fun x y => by kernel_rfl
  have ey0:∀ x y z:Value,aExtract (.tuple ⟨[x,y,z]⟩) 0 = some x:=fun x y z => by kernel_rfl
  have ey1:∀ x y z:Value,aExtract (.tuple ⟨[x,y,z]⟩) 1 = some y:=fun x y z => by kernel_rfl
  have ey2:∀ x y z:Value,aExtract (.tuple ⟨[x,y,z]⟩) 2 = some z:=fun x y z => by kernel_rfl
  have hob:=trip_at sl2 (k:=l.length - 1) (by omega)
  obtain ⟨qz,z1,_,z2,z3,_,_⟩:=hob;rw [hla] at z3;have z2':=k3.read (sl2.lt hlp) z2;have hob:=trip_at sl2 (k:=0) hlp;obtain ⟨q0,y1,_,y2,_,_,_⟩:=hob;have y2':=k3.read (sl2.lt hlp) y2;have y1:Zaaa Try.prog 46 (.slice a1 l.length c1) (.int .i64 0) = some (.pointer (some ⟨rt,q0,none⟩)):=y1;have hwl:IntKind.i64.wrap ((l.length:Int) - 1) = ((l.length - 1:Nat):Int):=by rw [IntWalk.i64_in _ (by omega)]; omega
  have d00:decide (¬ (0:Int) = 0) = false:=rfl;have d01:decide ((0:Int) = 0) = true:=rfl;have l0:decide (((l.length:Nat):Int) = 0) = false:=decide_eq_false (by omega)
  have hxx:decide (¬ x2 = x2) = false:=decide_eq_false (fun h => h rfl)
  have dl0:decide (0 ≤ (l.getD 0 default).1) = true:=decide_eq_true hl0;have dlc:decide ((l.getD (l.length - 1) default).1 ≤ ((chgs ls js:Nat):Int)) = true:=decide_eq_true hlc;have hlt0:=sl2.lt hlp;refine Zaba Try.func8 rfl (Nat.le_of_ble_eq_true rfl) (hS.no rfl _ _) ?_
  rw [Try.ntmps8,Try.results8];clear h80 k3 hla hlc hl0 y2 z2 hlt0
  repeat' (first | simp only [↓Zaca,↓Zabx,↓Zabz,↓Zaai,↓Zaaj,↓Zabu,↓Zaby,↓Zacv,↓Zacu,↓Zada,↓Zaaz,↓Zaau,↓Zaam,↓Zaav,↓Zaao,↓Zaat,↓Zaan,↓Zaax,↓Zaaq,↓Zaar,↓Zaap,↓Zaay,↓Zaas,↓bxPut,↓Zabs,↓Zabt,↓Zabq,↓Zacy,↓Zacz,↓Zadb,↓Zabg,↓Zabe,↓Zabf,↓dstAt,↓Zabh,Zacw,Zaae,Zabi,una_nt,Zaac,Zacb,Zacp,Zacs,Zabm,List.map_cons,List.map_nil,List.nil_append,List.append_nil,↓reduceIte,Nat.reduceEqDiff,Nat.reduceLT,dec_F,one1,Option.bind_some,not_true_eq_false, *,argF,List.getD_cons_zero,List.getD_cons_succ,lenT,faTr1,ldC,one1])
  refine sxL_of (fun m ρ X => ∃ k:Nat,m = l.length - k ∧ 1 ≤ k ∧ k ≤ l.length ∧ X = H2 ∧ ρ 0 = .int .i64 n ∧ ρ 1 = .slice a ls.length c ∧ ρ 2 = .int .i64 ch ∧ ρ 3 = .int .i64 fr ∧ ρ 4 = .int .i64 to ∧ ρ 5 = .int .i64 at' ∧
      ρ 13 = .slice a1 l.length c1 ∧ ρ 16 = .slice aj js.length cj ∧ ρ 18 = .int .i64 (k:Int))
    ⟨1,rfl,Nat.le_refl _,hlp,rfl,rfl,rfl,rfl,rfl,rfl,rfl,rfl,rfl,rfl⟩ ?_
  clear z3 hxx f0 f1 f2;rintro m ρ X ⟨k,rfl,hk0,hk,rfl,e0,e1,e2,e3,e4,e5,e13,e16,e18⟩
  by_cases hlk:k < l.length
  · have hlk':(k:Int) < (l.length:Int):=by omega
    have hob:=trip_at sl2 hlk;obtain ⟨p1,p2,_,p3,p4,_,_⟩:=hob;have hob:=trip_at sl2 (k:=k - 1) (by omega)
    obtain ⟨o1,o2,_,o3,o4,_,_⟩:=hob;have hw1:IntKind.i64.wrap ((k:Int) - 1) = ((k - 1:Nat):Int):=by rw [IntWalk.i64_in _ (by omega)]; omega
    have hw2:IntKind.i64.wrap ((k:Int) + 1) = ((k + 1:Nat):Int):=by rw [IntWalk.i64_in _ (by omega)]; omega
    have hob:=hasc (k - 1) (by omega)
    rw [show k - 1 + 1 = k by omega] at hob
    have n1:decide ((l.getD k default).1 ≤ (l.getD (k - 1) default).1) = false:=decide_eq_false (by omega)
    have n2:decide ((l.getD (k - 1) default).2 ≤ (l.getD k default).2) = false:=decide_eq_false (by omega)
    clear hob sj sG sl2 hlt hasc l0 hlp
    repeat' (first | simp only [↓Zaca,↓Zabv,↓Zabx,↓Zabz,↓Zaai,↓Zabu,↓Zabw,↓Zaby,↓Zacv,↓Zacu,↓Zaco,↓Zaak,↓Zacj,↓Zack,↓Zaci,↓Zace,↓Zacg,↓Zach,↓Zacn,↓Zada,↓Zaaz,↓Zaau,↓Zaam,↓Zaav,↓Zaat,↓Zaan,↓Zaaq,↓Zaar,↓Zaas,↓bxPut,↓Zabs,↓Zabr,↓Zabt,↓Zaag,↓Zaah,↓Zaaf,↓Zabk,↓Zabj,↓Zabl,↓Zabq,↓Zacy,↓Zacz,↓Zadb,↓Zabg,↓Zabe,↓dstAt,↓Zabh,Zacw,Zaae,Zabi,Zaac,Zacp,Zact,Zacs,Zabm,↓reduceIte,Nat.reduceEqDiff,Nat.reduceLT,dec_T,true_and,Zaab,Nat.add_zero,one1,Option.bind_some, *,lenT,faTr0,faTr1,ldC,one1] | (with_reducible first | refine Zacd (by assumption) (by decide +kernel) ?_ | refine Zacc (by decide +kernel) ?_ | refine Zacm (by decide +kernel) ?_ | refine Zacf ?_))
    exact ⟨l.length - (k + 1),by omega,k + 1,rfl,by omega,by omega,rfl⟩
  have hlk':¬ (k:Int) < (l.length:Int):=by omega
  clear hk hk0 hasc l0
  repeat' (first | simp only [↓Zaca,↓Zabv,↓Zabx,↓Zabz,↓Zaai,↓Zabu,↓Zabw,↓Zaby,↓Zacv,↓Zacu,↓Zaco,↓Zaak,↓Zacj,↓Zack,↓Zaci,↓Zace,↓Zacg,↓Zach,↓Zada,↓Zaaz,↓Zaau,↓Zaam,↓Zaav,↓Zaat,↓Zaan,↓Zaaq,↓Zaar,↓Zaas,↓bxPut,↓Zabs,↓Zabr,↓Zabt,↓Zaag,↓Zaah,↓Zaaf,↓Zabk,↓Zabj,↓Zabl,↓Zabq,↓Zacy,↓Zacz,↓Zadb,↓Zabg,↓Zabe,↓dstAt,↓Zabh,Zacw,Zaae,Zabi,Zacs,Zabm,↓reduceIte,Nat.reduceEqDiff,Nat.reduceLT,dec_F, *,lenT] | (with_reducible first | refine Zacd (by assumption) (by decide +kernel) ?_ | refine Zacc (by decide +kernel) ?_ | refine Zacm (by decide +kernel) ?_ | refine Zacf ?_))
  refine sxL_of (fun m ρ Y => ∃ k:Nat,m = js.length - k ∧ 1 ≤ k ∧ Y = X ∧ ρ 0 = .int .i64 n ∧ ρ 1 = .slice a ls.length c ∧ ρ 2 = .int .i64 ch ∧ ρ 3 = .int .i64 fr ∧ ρ 4 = .int .i64 to ∧ ρ 5 = .int .i64 at' ∧
      ρ 13 = .slice a1 l.length c1 ∧ ρ 16 = .slice aj js.length cj ∧ ρ 19 = .int .i64 ((chgs ls (js.take k):Nat):Int) ∧ ρ 20 = .int .i64 (k:Int))
    ⟨1,rfl,Nat.le_refl _,rfl,e0,e1,e2,e3,e4,e5,e13,e16,by cases js <;> rfl,rfl⟩ ?_
  clear e0 e1 e2 e3 e4 e5 e13 e16 e18 hlk hlk' ρ;rintro m ρ Y ⟨k,rfl,hk0,rfl,e0,e1,e2,e3,e4,e5,e13,e16,e19,e20⟩
  by_cases hjk:k < js.length
  · have hjk':(k:Int) < (js.length:Int):=by omega
    have hob:=SlI_at sj (k:=k) (by rw [castL_len]; exact hjk)
    obtain ⟨p1,p2⟩:=hob;have hob:=SlI_at sj (k:=k - 1) (by rw [castL_len]; omega)
    obtain ⟨o1,o2⟩:=hob;rw [castL_len] at p1 o1;rw [castL_getD] at p2 o2;have g1:=hlt k hjk;have g2:=hlt (k - 1) (by omega)
    have hob:=SlG_at sG g1;obtain ⟨x1,x2',_,_,_,_,_,x3⟩:=hob;have hob:=SlG_at sG g2;obtain ⟨w1,w2,_,_,_,_,_,w3⟩:=hob;have hw1:IntKind.i64.wrap ((k:Int) - 1) = ((k - 1:Nat):Int):=by rw [IntWalk.i64_in _ (by omega)]; omega
    have hw2:IntKind.i64.wrap ((k:Int) + 1) = ((k + 1:Nat):Int):=by rw [IntWalk.i64_in _ (by omega)]; omega
    have hct:=chgs_take ls js k (by omega) hjk
    have hcl:=chgs_le ls (js.take k);rw [List.length_take] at hcl;have hw3:IntKind.i64.wrap (((chgs ls (js.take k):Nat):Int) + 1) = ((chgs ls (js.take k) + 1:Nat):Int):=by rw [IntWalk.i64_in _ (by omega)]; omega
    have t1:decide (((js.getD k 0:Nat):Int) < 0) = false:=decide_eq_false (by omega)
    have t2:decide ((ls.length:Int) ≤ ((js.getD k 0:Nat):Int)) = false:=decide_eq_false (by omega)
    have t3:decide (((js.getD (k - 1) 0:Nat):Int) < 0) = false:=decide_eq_false (by omega)
    have t4:decide ((ls.length:Int) ≤ ((js.getD (k - 1) 0:Nat):Int)) = false:=decide_eq_false (by omega)
    clear hcl sj sG sl2 hlt hlp g1 g2
    by_cases hll:(ls.getD (js.getD (k - 1) 0) default).l = (ls.getD (js.getD k 0) default).l
    · have hd:decide (¬ (ls.getD (js.getD k 0) default).l = (ls.getD (js.getD (k - 1) 0) default).l) = false:=decide_eq_false (fun h => h hll.symm)
      have hc1:chgs ls (js.take k) = chgs ls (js.take (k + 1)):=by rw [hct]; unfold chg1; rw [if_pos hll]; rfl
      clear hct hll
      repeat' (first | simp only [↓Zaca,↓Zabv,↓Zabx,↓Zabz,↓Zaai,↓Zabu,↓Zabw,↓Zaby,↓Zacv,↓Zacu,↓Zaco,↓Zaak,↓Zacj,↓Zaci,↓Zace,↓Zacg,↓Zach,↓Zacn,↓Zada,↓Zaaz,↓Zaau,↓Zaam,↓Zaav,↓Zaat,↓Zaan,↓Zaaq,↓Zaar,↓Zaas,↓bxPut,↓Zabs,↓Zabr,↓Zabt,↓Zaag,↓Zaah,↓Zaaf,↓Zabk,↓Zabj,↓Zabl,↓Zabq,↓Zacy,↓Zacz,↓Zadb,↓Zabg,↓Zabe,↓dstAt,↓Zabh,Zacw,Zaae,Zabi,Zaac,Zacp,Zact,Zacs,Zabm,↓reduceIte,Nat.reduceEqDiff,Nat.reduceLT,dec_T,true_and,Zaab,one1,Option.bind_some, *,lenIs,lenG,faG4,ldC,one1] | (with_reducible first | refine Zacd (by assumption) (by decide +kernel) ?_ | refine Zacc (by decide +kernel) ?_ | refine Zacm (by decide +kernel) ?_ | refine Zacf ?_))
      exact ⟨js.length - (k + 1),by omega,k + 1,rfl,by omega,rfl,rfl⟩
    · have hd:decide (¬ (ls.getD (js.getD k 0) default).l = (ls.getD (js.getD (k - 1) 0) default).l) = true:=decide_eq_true (fun h => hll h.symm)
      have hc1:chgs ls (js.take k) + 1 = chgs ls (js.take (k + 1)):=by rw [hct]; unfold chg1; rw [if_neg hll]
      clear hct hll
      repeat' (first | simp only [↓Zaca,↓Zabv,↓Zabx,↓Zabz,↓Zaai,↓Zabu,↓Zabw,↓Zaby,↓Zacv,↓Zacu,↓Zaco,↓Zaak,↓Zacj,↓Zaci,↓Zace,↓Zacg,↓Zach,↓Zacn,↓Zada,↓Zaaz,↓Zaau,↓Zaam,↓Zaav,↓Zaat,↓Zaan,↓Zaaq,↓Zaar,↓Zaas,↓bxPut,↓Zabs,↓Zabr,↓Zabt,↓Zaag,↓Zaah,↓Zaaf,↓Zabk,↓Zabj,↓Zabl,↓Zabq,↓Zacy,↓Zacz,↓Zadb,↓Zabg,↓Zabe,↓dstAt,↓Zabh,Zacw,Zaae,Zabi,Zaac,Zacp,Zact,Zacs,Zabm,↓reduceIte,Nat.reduceEqDiff,Nat.reduceLT,dec_T,true_and,Zaab,one1,Option.bind_some, *,lenIs,lenG,faG4,ldC,one1] | (with_reducible first | refine Zacd (by assumption) (by decide +kernel) ?_ | refine Zacc (by decide +kernel) ?_ | refine Zacm (by decide +kernel) ?_ | refine Zacf ?_))
      exact ⟨js.length - (k + 1),by omega,k + 1,rfl,by omega,by rw [← hc1],rfl⟩
  have hjk':¬ (k:Int) < (js.length:Int):=by omega
  rw [List.take_of_length_le (by omega)] at e19
  clear hk0 hjk sj sG sl2 hlt hlp
  repeat' (first | simp only [↓Zaca,↓Zabv,↓Zabx,↓Zabz,↓Zaai,↓Zabu,↓Zabw,↓Zaby,↓Zacv,↓Zacu,↓Zaco,↓Zaak,↓Zacj,↓Zaci,↓Zace,↓Zacg,↓Zach,↓Zada,↓Zaaz,↓Zaau,↓Zaam,↓Zaav,↓Zaat,↓Zaan,↓Zaaq,↓Zaar,↓Zaas,↓bxPut,↓Zabs,↓Zabr,↓Zabt,↓Zaag,↓Zaah,↓Zaaf,↓Zabk,↓Zabj,↓Zabl,↓Zabq,↓Zacy,↓Zacz,↓Zadb,↓Zabg,↓Zabe,↓dstAt,↓Zabh,Zacw,Zaae,Zabi,Zaad,Zacr,Zacs,Zabm,List.map_cons,List.map_nil,List.append_nil,↓reduceIte,Nat.reduceEqDiff,Nat.reduceLT,dec_T,dec_F,Nat.add_zero,one1,Option.bind_some, *,lenT,lenIs,faTr0,ldC,one1] | (with_reducible first | refine Zacd (by assumption) (by decide +kernel) ?_ | refine Zacc (by decide +kernel) ?_ | refine Zacm (by decide +kernel) ?_ | refine Zacf ?_))
end Go.Proofs.Ythkdnlegolphkaa

namespace Go.Proofs.Ythkdnlegolphkaa
open Go Go.AM
set_option maxRecDepth 10000

variable {S:AM.Sys} (hS:Only S 10)
include hS

set_option maxHeartbeats 8000000 in
theorem lawPair_runs (n:Int) (ls:List Lg) (lv:Value) (r o:Nat) (ch fr to at':Int) (H:Heap) (hL:H.low ≤ H.size) (hg:Grp H) (hl:SlG H lv ls r o) (hat:R64 at') (hO:∀ H',S.O 10 [] H') :
    ∃ H',Runs Try.prog S (.fn 8) [.int .i64 n,lv,.int .i64 ch,.int .i64 fr,.int .i64 to,.int .i64 at'] H (.bool true) H':=by
  suffices h:WCall Try.prog S (.fn 8) [.int .i64 n,lv,.int .i64 ch,.int .i64 fr,.int .i64 to,.int .i64 at'] H (fun v H' => v = .bool true) by
    obtain ⟨_,H',hr,rfl⟩:=h; exact ⟨H',hr⟩
  have hk1:∀ (H':Heap) (K:Value → Heap → Prop) (b:Blk K),sxCallB Try.prog S (.fn 10) [] H' K b = K (.bool true) H':=fun H' K b => known_bx (hO H')
  have hlv:=hl.v0;obtain ⟨a,c,rfl⟩:=hlv;have f0:=(few_runs hS a ls.length c H).bx
  by_cases h80:(ls.length:Int) ≤ 80
  case neg =>
    rw [decide_eq_false h80] at f0;clear hl h80;refine Zaba Try.func8 rfl (Nat.le_of_ble_eq_true rfl) (hS.no rfl _ _) ?_
    rw [Try.ntmps8,Try.results8]
    repeat' (first | simp only [↓Zaca,↓Zabx,↓Zabz,↓Zaai,↓Zaaj,↓Zabu,↓Zaby,↓Zacv,↓Zacu,↓Zada,↓Zaaz,↓Zaau,↓Zaam,↓Zaav,↓Zaao,↓Zaat,↓Zaan,↓Zaax,↓Zaaq,↓Zaar,↓Zaap,↓Zaay,↓Zaas,↓bxPut,↓Zabs,↓Zabt,↓Zabq,↓Zacy,↓Zacz,↓Zadb,↓Zabg,↓Zabe,↓Zabf,↓dstAt,↓Zabh,Zacw,una_nf,Zacb,Zact,Zabm,List.map_cons,List.map_nil,List.nil_append,List.append_nil,↓reduceIte,Nat.reduceEqDiff,Nat.reduceLT, *,argF,List.getD_cons_zero,List.getD_cons_succ])
  rw [decide_eq_true h80] at f0;have ex0:∀ x y:Value,aExtract (.tuple ⟨[x,y]⟩) 0 = some x:=fun x y => by kernel_rfl
  have ex1:∀ x y:Value,aExtract (.tuple ⟨[x,y]⟩) 1 = some y:=fun x y => by kernel_rfl
  have ey0:∀ x y z:Value,aExtract (.tuple ⟨[x,y,z]⟩) 0 = some x:=fun x y z => by kernel_rfl
  have ey1:∀ x y z:Value,aExtract (.tuple ⟨[x,y,z]⟩) 1 = some y:=fun x y z => by kernel_rfl
  have ey2:∀ x y z:Value,aExtract (.tuple ⟨[x,y,z]⟩) 2 = some z:=fun x y z => by kernel_rfl
  have hob:=Trips_runs hS n ls _ r o ch fr to at' hat H hL hg hl;obtain ⟨u1,H1,hR1,tv1,l,e1,rfl,k1,hv1,ha1,hb1,hc1⟩:=hob;have hob:=Earl_runs hS n ls _ r o ch fr to at' hat H1 (k1.low hL) (k1.grp hg) (hl.keep k1);obtain ⟨u2,H2,hR2,x2,e2,jv,js,rfl,k2,hj0,hj1,ha2,hb2,hc2⟩:=hob;have f1:=hR1.bx;have f2:=hR2.bx;have hv0:=hv1.1;obtain ⟨a1,c1,rfl⟩:=hv0;have hge:∃ e0,e0 = errC n ls ch fr to [at']:=⟨_,rfl⟩;obtain ⟨e0,he0⟩:=hge;rw [← he0] at ha1 hb1 hc1 ha2 hb2 hc2;have dd:∀ e:Int,decide (¬ e = e) = false:=fun e => decide_eq_false fun h => h rfl
  by_cases h0:e0 = 0
  case neg =>
    have h1:=ha1 h0;have h2:=ha2 h0;obtain ⟨p1,p2⟩:=h1;obtain ⟨p3,p4,p5⟩:=h2;rw [p1,p2] at f1;rw [p3,p4] at f2;have d0:decide (¬ e0 = 0) = true:=decide_eq_true h0;have l0:decide ((([] : List Pt).length:Int) = 0) = true:=rfl;clear hl h80 hv1 ha1 hb1 hc1 ha2 hb2 hc2 hR1 hR2 k1 k2 hj0 hj1 he0 h0 p1 p2 p3 p4 p5;refine Zaba Try.func8 rfl (Nat.le_of_ble_eq_true rfl) (hS.no rfl _ _) ?_
    rw [Try.ntmps8,Try.results8]
    repeat' (first | simp only [↓Zaca,↓Zabx,↓Zabz,↓Zaai,↓Zaaj,↓Zabu,↓Zaby,↓Zacv,↓Zacu,↓Zada,↓Zaaz,↓Zaau,↓Zaam,↓Zaav,↓Zaao,↓Zaat,↓Zaan,↓Zaax,↓Zaaq,↓Zaar,↓Zaap,↓Zaay,↓Zaas,↓bxPut,↓Zabs,↓Zabt,↓Zabq,↓Zacy,↓Zacz,↓Zadb,↓Zabg,↓Zabe,↓Zabf,↓dstAt,↓Zabh,Zacw,Zaae,Zabi,una_nt,Zaad,Zacb,Zacr,Zact,Zacs,Zabm,List.map_cons,List.map_nil,List.nil_append,List.append_nil,↓reduceIte,Nat.reduceEqDiff,Nat.reduceLT,dec_F,not_true_eq_false, *,argF,List.getD_cons_zero,List.getD_cons_succ,lenT])
  subst h0;have hq:=errC_zero he0.symm;obtain ⟨q1,q2,q3,q4⟩:=hq;have hlk:=LOk.of q2 q3
  by_cases hno:fr ≠ to ∧ e2 = 10
  · obtain ⟨hft,he2⟩:=hno;have ht:=hc1 rfl hft;have hj:=hc2 rfl hft;obtain ⟨htj,ht0,ht1⟩:=ht;have hnoj:∀ i r,Ch ls ch i r → BegB fr at' (ls.getD i default) → (ls.getD (lastN i r) default).t ≠ to:=by
      rcases hj with ⟨_,_,_,h⟩ | ⟨h,_⟩
      · exact h
      · omega
    have hl0:l = []:=by
      rcases List.eq_nil_or_concat l with h | ⟨l',p,h⟩
      · exact h
      · obtain ⟨_,i,r,w1,w2,w3,_⟩:=htj.src (p:=p) (by rw [h]; simp)
        exact absurd w3 (hnoj i r w1 w2)
    have he1:=ht0 hl0;rw [he1,hl0] at f1;rw [he2] at f2;have d0:decide (¬ (10:Int) = 0) = true:=rfl;have l0:decide ((([] : List Pt).length:Int) = 0) = true:=rfl;clear hl h80 hv1 ha1 hb1 hc1 ha2 hb2 hc2 hR1 hR2 k1 k2 hj0 hj1 he0 htj ht0 ht1 hj hnoj he1 he2 hl0 hft q1 q2 q3 q4 hlk;refine Zaba Try.func8 rfl (Nat.le_of_ble_eq_true rfl) (hS.no rfl _ _) ?_
    rw [Try.ntmps8,Try.results8]
    repeat' (first | simp only [↓Zaca,↓Zabx,↓Zabz,↓Zaai,↓Zaaj,↓Zabu,↓Zaby,↓Zacv,↓Zacu,↓Zada,↓Zaaz,↓Zaau,↓Zaam,↓Zaav,↓Zaao,↓Zaat,↓Zaan,↓Zaax,↓Zaaq,↓Zaar,↓Zaap,↓Zaay,↓Zaas,↓bxPut,↓Zabs,↓Zabt,↓Zabq,↓Zacy,↓Zacz,↓Zadb,↓Zabg,↓Zabe,↓Zabf,↓dstAt,↓Zabh,Zacw,Zaae,Zabi,una_nt,Zaad,Zacb,Zacr,Zact,Zacs,Zabm,List.map_cons,List.map_nil,List.nil_append,List.append_nil,↓reduceIte,Nat.reduceEqDiff,Nat.reduceLT,dec_F,not_true_eq_false, *,argF,List.getD_cons_zero,List.getD_cons_succ,lenT])
  have hF:e1 = 0 ∧ e2 = 0 ∧ 0 < l.length ∧ (l.getD (l.length - 1) default).2 = x2 ∧ 0 ≤ (l.getD 0 default).1 ∧ (l.getD (l.length - 1) default).1 ≤ (chgs ls js:Nat) ∧ (∀ k,k + 1 < l.length → (l.getD k default).1 < (l.getD (k + 1) default).1 ∧ (l.getD (k + 1) default).2 < (l.getD k default).2) ∧
      ((js = [] ∧ fr = to) ∨ ∃ i r,js = i :: r ∧ Ch ls ch i r ∧ BegB fr at' (ls.getD i default) ∧ (ls.getD (lastN i r) default).t = to):=by
    by_cases hft:fr = to
    · obtain ⟨h1,h2⟩:=hb1 rfl hft;obtain ⟨h3,h4,h5⟩:=hb2 rfl hft;subst h2;exact ⟨h1,h4,Nat.one_pos,h3.symm,Int.le_refl _,by show (0:Int) ≤ _; omega,fun k hk => absurd hk (by show ¬ k + 1 < 1; omega),.inl ⟨h5,hft⟩⟩
    · obtain ⟨h1,h2,h3⟩:=hc1 rfl hft;have h4:=hc2 rfl hft;obtain ⟨m1,m2,m3,m4,m5,m6⟩:=both hlk (by omega) h1 h4 (fun h => hno ⟨hft,h⟩)
      exact ⟨h3 (fun h => by rw [h] at m2; exact absurd m2 (Nat.lt_irrefl 0)),m1,m2,m3,m4,m5,fun k hk => h1.asc hk,.inr m6⟩
  obtain ⟨he1,he2,hlp,hla,hl0,hlc,hasc,hjs⟩:=hF;have hvs:=hv1.2 hlp;obtain ⟨rt,ot,hsl⟩:=hvs;have hsl2:=hsl.keep k2;have hK02:=k1.trans k2;have hjl:∀ k,k < js.length → js.getD k 0 < ls.length:=fun k hk => by
    rcases hjs with ⟨h,_⟩ | ⟨i,r,rfl,h,_⟩
    · subst h; simp at hk
    · exact h.mem_lt _ (getD_mem hk)
  have hjm:js.length ≤ 10001:=by
    rcases hjs with ⟨h,_⟩ | ⟨i,r,rfl,h,_⟩
    · subst h; simp
    · have:=h.len hlk; simp; omega
  have hsj:∃ rj,SlI .i64 H2 jv (castL js) rj 0:=by
    by_cases hz:js = []
    · subst hz; rw [hj0 rfl]; exact ⟨0,nilI H2⟩
    · exact (hj1 hz).sl (by omega) fun j hj => by
        obtain ⟨k,hk,rfl⟩:=List.getElem_of_mem hj;have:=hjl k hk;rw [List.getD_eq_getElem?_getD,List.getElem?_eq_getElem hk] at this;have h2:js[k] < ls.length:=this;omega
  obtain ⟨rj,hsj⟩:=hsj;have hv2:=hsj.v0;obtain ⟨aj,cj,rfl⟩:=hv2;have hob:=Is_runs hS n ls _ r o ch fr to at' (castL js) _ rj 0 H2 (hK02.low hL) (hK02.grp hg) (hl.keep hK02) hsj hat (by rw [castL_len]; omega)
  obtain ⟨u3,H3,hR3,b3,rfl,k3,_,i3⟩:=hob;have hI3:=i3 he0.symm;rw [← he0] at hR3;have hb3:b3 = true:=by
    rcases hjs with ⟨h,hft⟩ | ⟨i,r,rfl,h1,h2,h3⟩
    · subst h;have:=hI3.1 rfl;have h10:=q4 at' (List.mem_singleton.2 rfl);rw [this]; exact decide_eq_true ⟨hft,by omega⟩
    · exact isJ_true hI3 hlk h1 h2 h3
  subst hb3;have hK03:=hK02.trans k3;have hob:=good_runs hS n ls (.slice a ls.length c) r o ch fr to [at'] _ H3.size 0 _ (hl.keep (hK03.trans (Keep.newExact H3 [.int .i64 at'] 3))) (one_sl H3 at' hat);obtain ⟨H4,_,hR4⟩:=hob;rw [← he0] at hR4;rw [castL_len] at hR2 hR3;rw [he1] at hR1;rw [he2] at hR2;have hml:l.length ≤ 9223372036854775807:=hsl.ml;exact pair_leaf hS n ch fr to at' x2 ls l js a a1 aj c c1 cj r o rt ot rj H H1 H2 H3 H4 hO h80 hjm hml hR1 hR2 hR3 hR4 (hK02.low hL) k3 hsl2 (by rw [castL_len]; rw [castL_len] at hsj; exact hsj) (hl.keep hK02) hjl hlp hla hl0 hlc hasc
end Go.Proofs.Ythkdnlegolphkaa
