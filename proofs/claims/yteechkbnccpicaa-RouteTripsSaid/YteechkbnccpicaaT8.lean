/- Are points the same; the law RouteLooks on the canonical machine. -/
import Derived.Test.YteechkbnccpicaaT7
import Derived.Test.YteechkbnccpicaaQW
import Derived.Test.YteechkbnccpicaaL7
set_option linter.unusedVariables false
set_option linter.unusedSimpArgs false
set_option linter.unusedSectionVars false

namespace Go.Proofs.Yteechkbnccpicaa
open Go Go.AM
set_option maxRecDepth 10000

variable {S:AM.Sys} (hS:Only S 11)
include hS

end Go.Proofs.Yteechkbnccpicaa

namespace Go.Proofs.Yteechkbnccpicaa
open Go Go.AM
set_option maxRecDepth 10000

theorem neT (a b c d:Int):binP Try.prog .neq 50 (.agg ⟨[.int .i64 a,.int .i64 b]⟩) (.agg ⟨[.int .i64 c,.int .i64 d]⟩) = some (.bool (decide (¬ [a,b] = [c,d]))):=by
  have h:=(binP_eqlS (P:=Try.prog) (t:=50) (ty:=3) (k:=.i64) Try.underlying50 (by kernel_rfl) (by kernel_rfl) Try.underlying3 (by kernel_rfl) [a,b] [c,d] rfl rfl (fun i hi => by
    match i,hi with
    | 0,_ => exact ⟨rfl,rfl,show ("Changes" : String) ≠ "_" by decide⟩
    | 1,_ => exact ⟨rfl,rfl,show ("Arr" : String) ≠ "_" by decide⟩)).2
  exact h
theorem ldT (H:Heap) (r o:Nat):aLoad Try.prog H 50 (.pointer (some ⟨r,o,none⟩)) = (H.read r o 2).map fun l => .agg ⟨l⟩:=by kernel_rfl

variable {S:AM.Sys} (hS:Only S 11)
include hS

set_option maxHeartbeats 8000000 in
theorem lawTrip_runs (n:Int) (ls:List Lg) (lv:Value) (r o:Nat) (ch fr to at':Int) (H:Heap) (hL:H.low ≤ H.size) (hg:Grp H) (hl:SlG H lv ls r o) (hat:R64 at') (hO:∀ H',S.O 11 [] H') :
    ∃ H',Runs Try.prog S (.fn 8) [.int .i64 n,lv,.int .i64 ch,.int .i64 fr,.int .i64 to,.int .i64 at'] H (.bool true) H':=by
  suffices h:WCall Try.prog S (.fn 8) [.int .i64 n,lv,.int .i64 ch,.int .i64 fr,.int .i64 to,.int .i64 at'] H (fun v H' => v = .bool true) by
    obtain ⟨_,H',hr,rfl⟩:=h; exact ⟨H',hr⟩
  have hk1:∀ (H':Heap) (K:Value → Heap → Prop) (b:Blk K),sxCallB Try.prog S (.fn 11) [] H' K b = K (.bool true) H':=fun H' K b => known_bx (hO H')
  have hlv:=hl.v0;obtain ⟨a,c,rfl⟩:=hlv;have f0:=(few_runs hS a ls.length c H).bx
  by_cases h80:(ls.length:Int) ≤ 80
  case neg =>
    rw [decide_eq_false h80] at f0;clear hl h80;refine Zabc Try.func8 rfl (Nat.le_of_ble_eq_true rfl) (hS.no rfl _ _) ?_
    rw [Try.ntmps8,Try.results8]
    repeat' (first | simp only [↓Zacc,↓Zabz,↓Zacb,↓Zaai,↓Zaaj,↓Zabw,↓Zaca,↓Zacy,↓Zacx,↓Zadd,↓Zabb,↓Zaaw,↓Zaan,↓Zaax,↓Zaao,↓Zaaz,↓Zaar,↓Zaba,↓Zaau,↓bxPut,↓Zabu,↓Zabv,↓Zabs,↓Zadb,↓Zadc,↓Zade,↓Zabi,↓Zabg,↓Zabh,↓dstAt,↓Zabj,Zacz,una_nf,Zacd,Zacw,Zabo,List.map_cons,List.map_nil,List.nil_append,List.append_nil,↓reduceIte,Nat.reduceEqDiff,Nat.reduceLT, *,argF,List.getD_cons_zero,List.getD_cons_succ])
  rw [decide_eq_true h80] at f0;have ex0:∀ x y:Value,aExtract (.tuple ⟨[x,y]⟩) 0 = some x:=fun x y => by kernel_rfl
  have ex1:∀ x y:Value,aExtract (.tuple ⟨[x,y]⟩) 1 = some y:=fun x y => by kernel_rfl
  have hob:=Trips_runs hS n ls _ r o ch fr to at' hat H hL hg hl;obtain ⟨u1,H1,hR1,tv1,l,e1,rfl,k1,hv1,ha1,hb1,hc1⟩:=hob;have hob:=rTrips_runs hS n ls _ r o ch fr to at' hat H1 (k1.low hL) (k1.grp hg) (hl.keep k1);obtain ⟨u2,H2,hR2,tv2,m,e2,rfl,k2,hv2,ha2,hb2,hc2⟩:=hob;have hL2:=(k1.trans k2).low hL;have hee:e2 = e1 ∧ m = l:=by
    by_cases h0:errC n ls ch fr to [at'] = 0
    case neg => exact ⟨(ha2 h0).1.trans (ha1 h0).1.symm,(ha2 h0).2.trans (ha1 h0).2.symm⟩
    by_cases hft:fr = to
    · exact ⟨(hb2 h0 hft).1.trans (hb1 h0 hft).1.symm,(hb2 h0 hft).2.trans (hb1 h0 hft).2.symm⟩
    obtain ⟨q1,q2,q3,q4⟩:=errC_zero h0;obtain ⟨t1,t2,t3⟩:=hc1 h0 hft;obtain ⟨p1,p2,p3⟩:=hc2 h0 hft;obtain ⟨w1,w2⟩:=t1.par (LOk.of q2 q3) (by omega)
    have hml:m = l:=par_of w1 w2 p1.asc (fun p hp => (p1.src p hp).1) (fun x y hx hT => p1.cov x y (by omega) hT)
    subst hml;refine ⟨?_,rfl⟩
    by_cases hm:m = []
    · rw [p2 hm,t2 hm]
    · rw [p3 hm,t3 hm]
  obtain ⟨rfl,rfl⟩:=hee;have f1:=hR1.bx;have f2:=hR2.bx;clear hR1 hR2 ha1 hb1 hc1 ha2 hb2 hc2;have hv0:=hv1.1;obtain ⟨a1,c1,rfl⟩:=hv0;have hv0:=hv2.1;obtain ⟨a2,c2,rfl⟩:=hv0;have d1:decide (¬ e2 = e2) = false:=decide_eq_false fun h => h rfl
  have d2:decide (¬ ((m.length:Nat):Int) = ((m.length:Nat):Int)) = false:=decide_eq_false fun h => h rfl
  have hK1:=hv1.2;have hK2:=hv2.2;clear hv1 hv2;refine Zabc Try.func8 rfl (Nat.le_of_ble_eq_true rfl) (hS.no rfl _ _) ?_
  rw [Try.ntmps8,Try.results8];clear hl h80
  repeat' (first | simp only [↓Zacc,↓Zabz,↓Zacb,↓Zaai,↓Zaaj,↓Zabw,↓Zaca,↓Zacy,↓Zacx,↓Zadd,↓Zabb,↓Zaaw,↓Zaan,↓Zaax,↓Zaao,↓Zaaz,↓Zaar,↓Zaba,↓Zaau,↓bxPut,↓Zabu,↓Zabv,↓Zabs,↓Zadb,↓Zadc,↓Zade,↓Zabi,↓Zabg,↓Zabh,↓dstAt,↓Zabj,Zacz,Zaae,Zabk,una_nt,Zaac,Zacd,Zacr,Zacv,Zabo,List.map_cons,List.map_nil,List.nil_append,List.append_nil,↓reduceIte,Nat.reduceEqDiff,Nat.reduceLT,dec_F,not_true_eq_false, *,argF,List.getD_cons_zero,List.getD_cons_succ,lenT])
  refine sxL_of (fun k' ρ X => ∃ k:Nat,k' = m.length - k ∧ k ≤ m.length ∧ X = H2 ∧ ρ 13 = .slice a1 m.length c1 ∧ ρ 15 = .slice a2 m.length c2 ∧ ρ 17 = .int .i64 (k:Int))
    ⟨0,rfl,Nat.zero_le _,rfl,rfl,rfl,rfl⟩ ?_
  rintro k' ρ X ⟨k,rfl,hk,rfl,e13,e15,e17⟩
  by_cases hlt:k < m.length
  · have hlt':(k:Int) < (m.length:Int):=by omega
    have hob:=hK1 (by omega)
    obtain ⟨r1,o1,s1⟩:=hob;have hob:=hK2 (by omega)
    obtain ⟨r2,o2,s2⟩:=hob;have hw:=wrap_succ hlt s1.ml;have hob:=trip_at (s1.keep k2) hlt;obtain ⟨q,hix,hrd,_⟩:=hob;have hob2:=trip_at s2 hlt;obtain ⟨q2,hix2,hrd2,_⟩:=hob2;have hgx:∃ x,x = m.getD k default:=⟨_,rfl⟩;obtain ⟨x,hx⟩:=hgx;rw [← hx] at hrd hrd2;unfold pc at hrd hrd2;have hne:binP Try.prog .neq 50 (.agg ⟨[.int .i64 x.1,.int .i64 x.2]⟩) (.agg ⟨[.int .i64 x.1,.int .i64 x.2]⟩) = some (.bool false):=by rw [neT,decide_eq_false fun h => h rfl]
    clear s1 s2 hx hK1 hK2 f0 f1 f2
    repeat' (first | simp only [↓Zacc,↓Zabx,↓Zabz,↓Zacb,↓Zaai,↓Zabw,↓Zaby,↓Zaca,↓Zacy,↓Zacx,↓Zacq,↓Zaak,↓Zacl,↓Zack,↓Zacg,↓Zacj,↓Zacp,↓Zadd,↓Zaaw,↓Zaan,↓Zaav,↓Zaao,↓Zaat,↓Zaau,↓bxPut,↓Zabu,↓Zabt,↓Zabv,↓Zaag,↓Zaah,↓Zaaf,↓Zabm,↓Zabl,↓Zabn,↓Zabs,↓Zadb,↓Zadc,↓Zade,↓Zabi,↓Zabg,Zacz,Zaae,Zabk,Zacw,Zacv,Zabo,↓reduceIte,Nat.reduceEqDiff,Nat.reduceLT,dec_T,true_and,Zaab,Option.map_some, *,lenT,ldT] | (with_reducible first | refine Zacf (by assumption) (by decide +kernel) ?_ | refine Zace (by decide +kernel) ?_ | refine Zaco (by decide +kernel) ?_ | refine Zach ?_))
    exact ⟨m.length - (k + 1),by omega,k + 1,rfl,by omega,rfl⟩
  · have hke:k = m.length:=by omega
    subst hke;have hlt':¬ (((m.length:Nat):Int) < ((m.length:Nat):Int)):=by omega
    clear hK1 hK2 f0 f1 f2
    repeat' (first | simp only [↓Zacc,↓Zabx,↓Zabz,↓Zacb,↓Zaai,↓Zabw,↓Zaby,↓Zaca,↓Zacy,↓Zacx,↓Zacq,↓Zaak,↓Zacl,↓Zack,↓Zacg,↓Zacj,↓Zadd,↓Zaaw,↓Zaan,↓Zaav,↓Zaao,↓Zaat,↓Zaau,↓bxPut,↓Zabu,↓Zabt,↓Zabv,↓Zaag,↓Zaah,↓Zaaf,↓Zabm,↓Zabl,↓Zabn,↓Zabs,↓Zadb,↓Zadc,↓Zade,↓Zabi,↓Zabg,Zacz,Zaae,Zabk,Zacv,Zabo,List.map_nil,List.append_nil,↓reduceIte,Nat.reduceEqDiff,Nat.reduceLT,dec_F, *,lenT] | (with_reducible first | refine Zacf (by assumption) (by decide +kernel) ?_ | refine Zace (by decide +kernel) ?_ | refine Zaco (by decide +kernel) ?_ | refine Zach ?_))
end Go.Proofs.Yteechkbnccpicaa
