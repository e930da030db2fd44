/- The law QuotaGames on the canonical machine. -/
import Derived.Test.YtmpbapffjapghaaG5
set_option linter.unusedVariables false
set_option linter.unusedSimpArgs false
set_option linter.unusedSectionVars false

namespace Go.Proofs.Ytmpbapffjapghaa
open Go Go.AM
set_option maxRecDepth 10000

theorem nilI3 (H:Heap):SlI .i64 H (.slice none 0 0) [] 0 0:=⟨⟨none,0,rfl,fun h => absurd h (Nat.lt_irrefl 0)⟩,fun i hi => absurd hi (Nat.not_lt_zero i),fun h => absurd h (Nat.lt_irrefl 0),Nat.zero_le _⟩

variable {S:AM.Sys} (hS:Only S 5)
include hS

theorem same_runs (v1 v2:Value) (w:List Int) (r1 o1 r2 o2:Nat) (H:Heap) (hL:H.low ≤ H.size) (h1:SlI .i64 H v1 w r1 o1) (h2:SlI .i64 H v2 w r2 o2):Runs Try.prog S (.fn 8) [v1,v2] H (.bool true) H:=by
  suffices h:WCall Try.prog S (.fn 8) [v1,v2] H (fun v H' => v = .bool true ∧ H' = H) by
    obtain ⟨_,_,hr,rfl,rfl⟩:=h; exact hr
  obtain ⟨a1,c1,rfl⟩:=h1.v0;obtain ⟨a2,c2,rfl⟩:=h2.v0;have d0:decide (¬ ((w.length:Nat):Int) = ((w.length:Nat):Int)) = false:=decide_eq_false fun h => h rfl
  refine call_of Try.func8 rfl (Nat.le_of_ble_eq_true rfl) (hS.no rfl _ _) ?_
  rw [Try.ntmps8,Try.results8]
  repeat' simp only [↓Zadl,↓Zadi,↓Zadk,↓Zaas,↓Zaat,↓Zade,↓Zadj,↓Zafk,↓Zafj,↓Zafq,↓Zabt,↓Zaay,↓Zaaz,↓Zabm,↓bxPut,↓Zadb,↓Zadc,↓Zacy,↓Zafo,↓Zafp,↓Zafs,↓Zacj,↓Zacg,Zafm,Zaak,Zacm,Zafg,Zacs,↓reduceIte,Nat.reduceEqDiff,Nat.reduceLT,dec_F,not_true_eq_false, *,argF,List.getD_cons_zero,List.getD_cons_succ,lenIs]
  refine sxL_of (fun m ρ H1 => ∃ k:Nat,m = w.length - k ∧ k ≤ w.length ∧ H1 = H ∧ ρ 0 = .slice a1 w.length c1 ∧ ρ 1 = .slice a2 w.length c2 ∧ ρ 5 = .int .i64 (k:Int))
    ⟨0,rfl,Nat.zero_le _,rfl,rfl,rfl,rfl⟩ ?_
  rintro m ρ H1 ⟨k,rfl,hk,rfl,e0,e1,e5⟩
  by_cases hlt:k < w.length
  · have hlt':(k:Int) < (w.length:Int):=by omega
    have hw:=wrap_succ hlt h1.ml;have hob:=SlI_at h1 hlt;obtain ⟨p1,q1⟩:=hob;have hob:=SlI_at h2 hlt;obtain ⟨p2,q2⟩:=hob;have d1:decide (¬ w.getD k 0 = w.getD k 0) = false:=decide_eq_false fun h => h rfl
    clear h1 h2 d0
    repeat' (first | simp only [↓Zadl,↓Zadf,↓Zadi,↓Zadk,↓Zaas,↓Zade,↓Zadg,↓Zadj,↓Zafk,↓Zafj,↓Zaey,↓Zaau,↓Zaeo,↓Zaeg,↓Zads,↓Zaee,↓Zaex,↓Zafq,↓Zabt,↓Zaay,↓Zabn,↓Zaaz,↓Zabl,↓Zabm,↓bxPut,↓Zadb,↓Zacz,↓Zadc,↓Zaaq,↓Zaar,↓Zaao,↓Zacp,↓Zacn,↓Zacq,↓Zacy,↓Zafo,↓Zafp,↓Zafs,↓Zacj,↓Zacg,Zafm,Zaak,Zacm,Zafi,Zafg,Zacs,↓reduceIte,Nat.reduceEqDiff,Nat.reduceLT,dec_T,dec_F,true_and,Zaae,one1,Option.bind_some,not_true_eq_false, *,lenIs,ldC,one1] | (with_reducible first | refine Zadr (by assumption) (by decide +kernel) ?_ | refine Zadq (by decide +kernel) ?_ | refine Zaew (by decide +kernel) ?_ | refine Zadw ?_))
    exact ⟨w.length - (k + 1),by omega,k + 1,rfl,by omega,rfl⟩
  · have hke:k = w.length:=by omega
    subst hke;have hlt':¬ (((w.length:Nat):Int) < ((w.length:Nat):Int)):=by omega
    clear h1 h2 d0
    repeat' (first | simp only [↓Zadl,↓Zadf,↓Zadi,↓Zadk,↓Zaas,↓Zade,↓Zadg,↓Zadj,↓Zafk,↓Zafj,↓Zaey,↓Zaau,↓Zaeo,↓Zaeg,↓Zads,↓Zaee,↓Zafq,↓Zabt,↓Zaay,↓Zabn,↓Zaaz,↓Zabl,↓Zabm,↓bxPut,↓Zadb,↓Zacz,↓Zadc,↓Zaaq,↓Zaar,↓Zaao,↓Zacp,↓Zacn,↓Zacq,↓Zacy,↓Zafo,↓Zafp,↓Zafs,↓Zacj,↓Zacg,Zafm,Zaak,Zacm,Zafg,Zacs,↓reduceIte,Nat.reduceEqDiff,Nat.reduceLT,dec_F,and_self, *,lenIs] | (with_reducible first | refine Zadr (by assumption) (by decide +kernel) ?_ | refine Zadq (by decide +kernel) ?_ | refine Zaew (by decide +kernel) ?_ | refine Zadw ?_))

set_option maxHeartbeats 8000000 in
theorem lawGames_runs (e:Int) (v v2:Value) (c w:List Int) (d:Int) (r o r2 o2:Nat) (H:Heap) (hg:Grp H) (hL:H.low ≤ H.size) (hc:SlI .i64 H v c r o) (hl:SlI .i64 H v2 w r2 o2) (hO:∀ H',S.O 5 [] H') :
    ∃ H',Runs Try.prog S (.fn 3) [.int .i64 e,v,.agg ⟨[v2,.int .i64 d]⟩] H (.bool true) H':=by
  suffices h:WCall Try.prog S (.fn 3) [.int .i64 e,v,.agg ⟨[v2,.int .i64 d]⟩] H (fun v H' => v = .bool true) by
    obtain ⟨_,H',hr,rfl⟩:=h; exact ⟨H',hr⟩
  have hk1:∀ (H':Heap) (K:Value → Heap → Prop) (b:Blk K),sxCallB Try.prog S (.fn 5) [] H' K b = K (.bool true) H':=fun H' K b => known_bx (hO H')
  clear hO;obtain ⟨a,cap,rfl⟩:=hc.v0;obtain ⟨a2,cap2,rfl⟩:=hl.v0;obtain ⟨H1,e1,hK1,hz1,rd2,rd0,rd1⟩:=Q.boxP H (.slice a2 w.length cap2) (.int .i64 d);have fw1:=(few_runs hS a c.length cap H1).bx;have fw2:=(few_runs hS a2 w.length cap2 H1).bx
  by_cases h1:(c.length:Int) ≤ 40
  case neg =>
    rw [decide_eq_false h1] at fw1;clear hc hl h1 fw2;refine call_of Try.func3 rfl (Nat.le_of_ble_eq_true rfl) (hS.no rfl _ _) ?_
    rw [Try.ntmps3,Try.results3]
    repeat' simp only [↓Zadl,↓Zadi,↓Zadk,↓Zaas,↓Zadj,↓Zafk,↓Zafj,↓Zafq,↓Zacb,↓Zabt,↓Zaay,↓Zabv,↓Zaba,↓Zabn,↓Zaaz,↓Zaby,↓Zabj,↓Zabh,↓Zabz,↓bxPut,↓Zadb,↓Zadc,↓Zacy,↓Zafo,↓Zafp,↓Zafs,↓Zacj,↓Zacg,↓Zach,↓dstAt,↓Zacl,Zafm,una_nf,Zaag,Zadm,Zafb,Zafi,Zacs,List.map,List.nil_append,List.append_nil,↓reduceIte,Nat.reduceEqDiff,Nat.reduceLT, *,argF,List.getD_cons_zero,List.getD_cons_succ,Q.cells_agg]
  rw [decide_eq_true h1] at fw1
  by_cases h2:(w.length:Int) ≤ 40
  case neg =>
    rw [decide_eq_false h2] at fw2;clear hc hl h1 h2;refine call_of Try.func3 rfl (Nat.le_of_ble_eq_true rfl) (hS.no rfl _ _) ?_
    rw [Try.ntmps3,Try.results3]
    repeat' simp only [↓Zadl,↓Zadi,↓Zadk,↓Zaas,↓Zadj,↓Zafk,↓Zafj,↓Zafq,↓Zacb,↓Zabt,↓Zaay,↓Zabv,↓Zaba,↓Zabn,↓Zaaz,↓Zaby,↓Zabj,↓Zabh,↓Zabz,↓bxPut,↓Zadb,↓Zadc,↓Zacy,↓Zafo,↓Zafp,↓Zafs,↓Zacj,↓Zacg,↓Zach,↓dstAt,↓Zacl,Zafm,una_nt,una_nf,Zaaf,Zadm,Zaez,Zafi,Zacs,List.map,List.nil_append,List.append_nil,↓reduceIte,Nat.reduceEqDiff,Nat.reduceLT,one1,Option.bind_some, *,argF,List.getD_cons_zero,List.getD_cons_succ,Q.cells_agg,Q.fldP0,ldIs]
  rw [decide_eq_true h2] at fw2;have ex0:∀ x y:Value,aExtract (.tuple ⟨[x,y]⟩) 0 = some x:=fun x y => by kernel_rfl
  have ex1:∀ x y:Value,aExtract (.tuple ⟨[x,y]⟩) 1 = some y:=fun x y => by kernel_rfl
  have hL1:=hK1.low hL;have hg1:=hK1.grp hg;obtain ⟨u1,H2,f,RG,k2,b1,b2⟩:=Game_runs hS e _ c r o H1 hg1 hL1 (hc.keep hK1);have k02:=hK1.trans k2;obtain ⟨u2,H3,f',RH,k3,b3,b4⟩:=rGame_runs hS e _ c r o H2 (k02.grp hg) (k02.low hL) (hc.keep k02);have k03:=k02.trans k3;have hff:f = f' ∧ ∃ L ra rb,SlI .i64 H3 u1 L ra 0 ∧ SlI .i64 H3 u2 L rb 0:=by
    by_cases hp:Q.Prob e c
    · obtain ⟨g1,ra,g2,_⟩:=b2 hp;obtain ⟨g3,rb,g4⟩:=b4 hp;exact ⟨g1.trans g3.symm,_,ra,rb,g2.keep k3,g4⟩
    · obtain ⟨g1,g2⟩:=b1 hp;obtain ⟨g3,g4⟩:=b3 hp;subst g2 g4;exact ⟨g1.trans g3.symm,[],0,0,nilI3 H3,nilI3 H3⟩
  obtain ⟨rfl,L,ra,rb,sa,sb⟩:=hff;have hL3:=k03.low hL;have fs:=(same_runs hS u1 u2 L ra 0 rb 0 H3 hL3 sa sb).bx;obtain ⟨w1,H4,RX,v4,f4,rfl,k4,b5,b6⟩:=Exc_runs hS e _ _ c w d r o r2 o2 H3 (k03.grp hg) hL3 (hc.keep k03) (hl.keep k03);have k04:=k03.trans k4;obtain ⟨w2,H5,RY,v5,f5,rfl,k5,b7,b8⟩:=rExc_runs hS e _ _ c w d r o r2 o2 H4 (k04.grp hg) (k04.low hL) (hc.keep k04) (hl.keep k04);have k05:=k04.trans k5;have hxx:f4 = f5 ∧ ∃ L ra rb,SlI .i64 H5 v4 L ra 0 ∧ SlI .i64 H5 v5 L rb 0:=by
    by_cases hp:Q.Prob e c ∧ Q.Shr e c w d
    · obtain ⟨g1,L,ra,g2,x1⟩:=b6 hp;obtain ⟨g3,M,rb,g4,x2⟩:=b8 hp;have:=x1.eq x2;subst this;exact ⟨g1.trans g3.symm,L,ra,rb,g2.keep k5,g4⟩
    · obtain ⟨g1,g2⟩:=b5 hp;obtain ⟨g3,g4⟩:=b7 hp;subst g2 g4;exact ⟨g1.trans g3.symm,[],0,0,nilI3 H5,nilI3 H5⟩
  obtain ⟨rfl,M,rc,rd,sc,sd⟩:=hxx;have fs2:=(same_runs hS v4 v5 M rc 0 rd 0 H5 (k05.low hL) sc sd).bx;have fg:=RG.bx;have fh:=RH.bx;have fx:=RX.bx;have fy:=RY.bx;have rdx3:=(k3.read (Nat.lt_of_lt_of_le hz1 k2.size) (k2.read hz1 rd2));have rdx4:=k4.read (Nat.lt_of_lt_of_le (Nat.lt_of_lt_of_le hz1 k2.size) k3.size) rdx3;have d1:decide (¬ f = f) = false:=decide_eq_false fun h => h rfl
  have d2:decide (f4 = f4) = true:=decide_eq_true rfl;clear RG RH RX RY hc hl sa sb sc sd b1 b2 b3 b4 b5 b6 b7 b8 h1 h2 k02 k03 k04 k05 k2 k3 k4 k5 hK1 rd1 hz1;refine call_of Try.func3 rfl (Nat.le_of_ble_eq_true rfl) (hS.no rfl _ _) ?_
  rw [Try.ntmps3,Try.results3]
  repeat' simp only [↓Zadl,↓Zadi,↓Zadk,↓Zaas,↓Zadj,↓Zafk,↓Zafj,↓Zafq,↓Zacb,↓Zabt,↓Zaay,↓Zabv,↓Zaba,↓Zabn,↓Zaaz,↓Zaby,↓Zabj,↓Zabh,↓Zabz,↓bxPut,↓Zadb,↓Zadc,↓Zacy,↓Zafo,↓Zafp,↓Zafs,↓Zacj,↓Zacg,↓Zach,↓dstAt,↓Zacl,Zafm,Zaak,Zacm,una_nt,Zaag,Zaaf,Zadm,Zafe,Zaez,Zafg,Zacs,List.map,List.nil_append,List.append_nil,↓reduceIte,Nat.reduceEqDiff,Nat.reduceLT,dec_T,dec_F,one1,Option.bind_some,not_true_eq_false,Option.map_some, *,argF,List.getD_cons_zero,List.getD_cons_succ,Q.cells_agg,Q.fldP0,Q.ldPa,ldIs]
end Go.Proofs.Ytmpbapffjapghaa
