/- Share, by both, in one form; Parts compared. -/
import Derived.Test.YtpeoleimmabceaaGreatFE
set_option linter.unusedVariables false
set_option linter.unusedSimpArgs false
set_option linter.unusedSectionVars false

namespace Go.Proofs.YtpeoleimmabceaaGreat
open Go Go.AM
set_option maxRecDepth 10000

def ResS (rule e:Int) (c w:List Int) (z f:Int):Prop:=(Q.Prob e c ∧ isRule rule ∧ f = 0 ∧ Q.Shr e c w z ∧ Awd RunR rule e c w z) ∨ (¬ (Q.Prob e c ∧ isRule rule) ∧ f = 2 ∧ w = [] ∧ z = 0)
theorem SlI_e0 {k:IntKind} (H:Heap) (a:Option Addr) (c:Nat):SlI k H (.slice a 0 c) [] 0 0:=⟨⟨a,c,rfl,fun h => absurd h (Nat.lt_irrefl 0)⟩,fun i hi => absurd hi (Nat.not_lt_zero i),fun h => absurd h (Nat.lt_irrefl 0),Nat.zero_le _⟩

variable {S:AM.Sys} (hS:Only S 5)
include hS

theorem ShareU (rule e:Int) (v:Value) (c:List Int) (r o:Nat) (H:Heap) (hg:Grp H) (hL:H.low ≤ H.size) (hl:SlI .i64 H v c r o) :
    ∃ a cp w z f rw' H',Keep H H' ∧ ResS rule e c w z f ∧ SlI .i64 H' (.slice a w.length cp) w rw' 0 ∧ (0 < w.length → a = some ⟨rw',0,none⟩ ∧ cp = w.length ∧ H.size ≤ rw' ∧ Own H' rw' 3 (w.map fun z => .int .i64 z)) ∧ Runs Tryz.prog S (.fn 7) [.int .i64 rule,.int .i64 e,v] H (.tuple ⟨[.agg ⟨[.slice a w.length cp,.int .i64 z]⟩,.int .i64 f]⟩) H':=by
  obtain ⟨u,H',hR,a,n,cp,z,f,rfl,k,hb,hgd⟩:=ShareR_runs hS rule e v c r o H hg hL hl
  by_cases hok:Q.Prob e c ∧ isRule rule
  · obtain ⟨rfl,w,rfl,hs,ha,_,rr,he,hrr,ho⟩:=hgd hok;cases he;have hcr:∀ x ∈ w,IntKind.i64.min ≤ x ∧ x ≤ IntKind.i64.max:=all_of (d:=0) fun i hi => by
      have h1:=hs.2.2.1 i hi;have h2:=hok.1.2.2.1 _ (Zabb (d:=0) (show i < c.length by rw [← hs.1]; exact hi))
      have h3:c.getD i 0 * z ≤ 100000 * 1000000:=Int.mul_le_mul h2.2 hs.2.1.2 (by have:=hs.2.1.1; omega) (by omega)
      have m1:IntKind.i64.min = -9223372036854775808:=by decide
      have m2:IntKind.i64.max = 9223372036854775807:=by decide
      omega
    have hml:w.length ≤ Go.maxLen:=by have:Go.maxLen = 9223372036854775807:=rfl; have:=hs.1; have:=hok.1.2.1; omega
    exact ⟨some ⟨rr,0,none⟩,w.length,w,z,0,rr,H',k,.inl ⟨hok.1,hok.2,rfl,hs,ha⟩,Own.sl ho hcr hml w.length,fun _ => ⟨rfl,rfl,hrr,ho⟩,hR⟩
  · obtain ⟨rfl,rfl,rfl⟩:=hb hok;exact ⟨a,cp,[],0,2,0,H',k,.inr ⟨hok,rfl,rfl,rfl⟩,SlI_e0 H' a cp,fun h => absurd h (Nat.lt_irrefl 0),hR⟩
theorem rShareU (rule e:Int) (v:Value) (c:List Int) (r o:Nat) (H:Heap) (hg:Grp H) (hL:H.low ≤ H.size) (hl:SlI .i64 H v c r o) :
    ∃ a cp w z f rw' ow' H',Keep H H' ∧ (∀ w2 z2 f2,ResS rule e c w2 z2 f2 → w = w2 ∧ z = z2 ∧ f = f2) ∧ SlI .i64 H' (.slice a w.length cp) w rw' ow' ∧ Runs Tryz.prog S (.fn 6) [.int .i64 rule,.int .i64 e,v] H (.tuple ⟨[.agg ⟨[.slice a w.length cp,.int .i64 z]⟩,.int .i64 f]⟩) H':=by
  obtain ⟨u,H',hR,v',z,f,rfl,k,_,hb,hgd⟩:=rShare_runs hS rule e v c r o H hg hL hl
  by_cases hok:Q.Prob e c ∧ isRule rule
  · obtain ⟨rfl,w,r',o',hs,_,hu⟩:=hgd hok;obtain ⟨a,cp,rfl⟩:=hs.v0;refine ⟨a,cp,w,z,0,r',o',H',k,fun w2 z2 f2 h => ?_,hs,hR⟩
    rcases h with ⟨_,_,h1,h2,h3⟩ | ⟨h1,_⟩
    · obtain ⟨k1,k2⟩:=hu w2 z2 h2 h3;exact ⟨k1,k2,h1.symm⟩
    · exact absurd hok h1
  · obtain ⟨rfl,rfl,rfl⟩:=hb hok;refine ⟨none,0,[],0,2,0,0,H',k,fun w2 z2 f2 h => ?_,SlI_e0 H' none 0,hR⟩
    rcases h with ⟨h1,h2,_⟩ | ⟨_,h1,h2,h3⟩
    · exact absurd ⟨h1,h2⟩ hok
    · exact ⟨h2.symm,h3.symm,h1.symm⟩

theorem sameG_runs (v1 v2:Value) (w u:List Int) (r1 o1 r2 o2:Nat) (H:Heap) (hL:H.low ≤ H.size) (h1:SlI .i64 H v1 w r1 o1) (h2:SlI .i64 H v2 u r2 o2):Runs Tryz.prog S (.fn 9) [v1,v2] H (.bool (decide (w = u))) H:=by
  suffices h:WCall Tryz.prog S (.fn 9) [v1,v2] H (fun v H' => v = .bool (decide (w = u)) ∧ H' = H) by
    obtain ⟨_,_,hr,rfl,rfl⟩:=h; exact hr
  obtain ⟨a1,c1,rfl⟩:=h1.v0;obtain ⟨a2,c2,rfl⟩:=h2.v0;have hml:=h1.ml
  by_cases hlen:(w.length:Int) = (u.length:Int)
  case neg =>
    have hne:¬ w = u:=fun h => hlen (by rw [h])
    have d0:decide (¬ (w.length:Int) = (u.length:Int)) = true:=decide_eq_true hlen;rw [decide_eq_false hne];clear h1 h2 hne hlen;refine Zaaw Tryz.func9 rfl (Nat.le_of_ble_eq_true rfl) (hS.no rfl _ _) ?_
    rw [Tryz.ntmps9,Tryz.results9]
    repeat' (first | simp only [↓Zabs,↓Zabp,↓Zabr,↓Zaae,↓Zaaf,↓Zabm,↓Zabq,↓Zacj,↓Zaci,↓Zaco,↓Zaaq,↓Zaaj,↓Zaak,↓Zaao,↓bxPut,↓Zabk,↓Zabl,↓Zabi,↓Zacm,↓Zacn,↓Zacp,↓Zaba,↓Zaay,Zack,Zaab,Zabd,Zach,Zabg,↓reduceIte,Nat.reduceEqDiff,Nat.reduceLT,and_self, *,argF,List.getD_cons_zero,List.getD_cons_succ,lenI])
  have d0:decide (¬ (w.length:Int) = (u.length:Int)) = false:=decide_eq_false fun h => h hlen
  have hl1:u.length ≤ w.length ∧ w.length ≤ u.length:=by omega
  clear hlen;have hgb:∃ b,b = decide (w = u):=⟨_,rfl⟩;obtain ⟨b,hb⟩:=hgb;rw [← hb];refine Zaaw Tryz.func9 rfl (Nat.le_of_ble_eq_true rfl) (hS.no rfl _ _) ?_
  rw [Tryz.ntmps9,Tryz.results9]
  repeat' (first | simp only [↓Zabs,↓Zabp,↓Zabr,↓Zaae,↓Zaaf,↓Zabm,↓Zabq,↓Zacj,↓Zaci,↓Zaco,↓Zaaq,↓Zaaj,↓Zaak,↓Zaao,↓bxPut,↓Zabk,↓Zabl,↓Zabi,↓Zacm,↓Zacn,↓Zacp,↓Zaba,↓Zaay,Zack,Zaab,Zabd,Zacg,Zabg,↓reduceIte,Nat.reduceEqDiff,Nat.reduceLT, *,argF,List.getD_cons_zero,List.getD_cons_succ,lenI])
  refine sxL_of (fun m ρ H1 => ∃ k:Nat,m = w.length - k ∧ k ≤ w.length ∧ H1 = H ∧ (∀ i,i < k → w.getD i 0 = u.getD i 0) ∧ ρ 0 = .slice a1 w.length c1 ∧ ρ 1 = .slice a2 u.length c2 ∧ ρ 5 = .int .i64 k)
    ⟨0,rfl,Nat.zero_le _,rfl,fun i hi => absurd hi (Nat.not_lt_zero i),rfl,rfl,rfl⟩ ?_
  rintro m ρ H1 ⟨k,rfl,hk,rfl,hall,e0,e1,e5⟩
  by_cases hlt:k < w.length
  · have hlt':(k:Int) < (w.length:Int):=by omega
    have hw:=wrap_succ hlt hml;have p1:=SlI_ix h1 hlt;have p2:=SlI_ix h2 (show k < u.length by omega)
    have q1:=(h1.rdI hlt).1;have q2:=(h2.rdI (i:=k) (by omega)).1
    by_cases hxy:w.getD k 0 = u.getD k 0
    · have hall2:∀ i,i < k + 1 → w.getD i 0 = u.getD i 0:=fun i hi => by
        rcases Nat.lt_or_ge i k with h | h
        · exact hall i h
        · rw [show i = k by omega]; exact hxy
      have d1:decide (¬ u.getD k 0 = u.getD k 0) = false:=decide_eq_false fun h => h rfl
      rw [hxy] at q1;have hgx:∃ x,x = u.getD k 0:=⟨_,rfl⟩;obtain ⟨x,hx⟩:=hgx;rw [← hx] at q1 q2 d1;clear h1 h2 hall hxy hb hx
      repeat' (first | simp only [↓Zabs,↓Zabn,↓Zabp,↓Zabr,↓Zaae,↓Zabm,↓Zabo,↓Zabq,↓Zacj,↓Zaci,↓Zacd,↓Zaag,↓Zacb,↓Zaca,↓Zabw,↓Zabz,↓sxD_same,↓Zaco,↓Zaaq,↓Zaaj,↓Zaap,↓Zaak,↓Zaan,↓Zaao,↓bxPut,↓Zabk,↓Zabj,↓Zabl,↓Zaad,↓blockQ_ret,↓Zaac,↓Zabf,↓Zabe,↓loopQ_ret,↓Zabi,↓Zacm,↓Zacn,↓Zacp,↓Zaba,↓Zaay,Zack,Zaab,Zabd,Zach,Zacg,Zabg,↓reduceIte,Nat.reduceEqDiff,Nat.reduceLT,dec_T,dec_F,true_and,Zaaa,one1,Option.bind_some,not_true_eq_false, *,lenI,ldI] | (with_reducible first | refine Zabv (by assumption) (by decide +kernel) ?_ | refine Zabu (by decide +kernel) ?_ | refine Zacc (by decide +kernel) ?_ | refine Zabx ?_))
      exact ⟨_,by omega,k + 1,rfl,by omega,hall2,rfl⟩
    · have d1:decide (¬ w.getD k 0 = u.getD k 0) = true:=decide_eq_true hxy;have hbf:b = false:=by rw [hb]; exact decide_eq_false fun h => hxy (by rw [h])
      subst hbf;clear h1 h2 hall hxy hb
      repeat' (first | simp only [↓Zabs,↓Zabn,↓Zabp,↓Zabr,↓Zaae,↓Zabm,↓Zabo,↓Zabq,↓Zacj,↓Zaci,↓Zacd,↓Zaag,↓Zacb,↓Zaca,↓Zabw,↓Zabz,↓sxD_same,↓Zaco,↓Zaaq,↓Zaaj,↓Zaap,↓Zaak,↓Zaan,↓Zaao,↓bxPut,↓Zabk,↓Zabj,↓Zabl,↓Zaad,↓blockQ_ret,↓Zaac,↓Zabf,↓Zabe,↓loopQ_ret,↓Zabi,↓Zacm,↓Zacn,↓Zacp,↓Zaba,↓Zaay,Zack,Zaab,Zabd,Zach,Zabg,↓reduceIte,Nat.reduceEqDiff,Nat.reduceLT,dec_T,and_self,Zaaa,one1,Option.bind_some, *,lenI,ldI] | (with_reducible first | refine Zabv (by assumption) (by decide +kernel) ?_ | refine Zabu (by decide +kernel) ?_ | refine Zacc (by decide +kernel) ?_ | refine Zabx ?_))
  · have hlt':¬ (k:Int) < (w.length:Int):=by omega
    have hbt:b = true:=by
      rw [hb];exact decide_eq_true (list_is (fun i => u.getD i 0) rfl (by omega) (fun i hi => hall i (by omega)) (fun i hi => rfl))
    subst hbt;clear h1 h2 hall hb
    repeat' (first | simp only [↓Zabs,↓Zabn,↓Zabp,↓Zabr,↓Zaae,↓Zabm,↓Zabo,↓Zabq,↓Zacj,↓Zaci,↓Zacd,↓Zaag,↓Zacb,↓Zaca,↓Zabw,↓Zabz,↓Zaco,↓Zaaq,↓Zaaj,↓Zaap,↓Zaak,↓Zaan,↓Zaao,↓bxPut,↓Zabk,↓Zabj,↓Zabl,↓Zaad,↓blockQ_ret,↓Zaac,↓Zabf,↓Zabe,↓loopQ_ret,↓Zabi,↓Zacm,↓Zacn,↓Zacp,↓Zaba,↓Zaay,Zack,Zaab,Zabd,Zacg,Zabg,↓reduceIte,Nat.reduceEqDiff,Nat.reduceLT,dec_F,and_self, *,lenI] | (with_reducible first | refine Zabv (by assumption) (by decide +kernel) ?_ | refine Zabu (by decide +kernel) ?_ | refine Zacc (by decide +kernel) ?_ | refine Zabx ?_))
theorem cpartsG_runs (v1 v2:Value) (w u:List Int) (d x:Int) (r1 o1 r2 o2:Nat) (H:Heap) (hL:H.low ≤ H.size) (h1:SlI .i64 H v1 w r1 o1) (h2:SlI .i64 H v2 u r2 o2):∃ H',Keep H H' ∧ Runs Tryz.prog S (.fn 8) [.agg ⟨[v1,.int .i64 d]⟩,.agg ⟨[v2,.int .i64 x]⟩] H (.bool (decide (d = x ∧ w = u))) H':=by
  suffices h:WCall Tryz.prog S (.fn 8) [.agg ⟨[v1,.int .i64 d]⟩,.agg ⟨[v2,.int .i64 x]⟩] H (fun v H' => v = .bool (decide (d = x ∧ w = u)) ∧ Keep H H') by
    obtain ⟨_,H',hr,rfl,hk⟩:=h; exact ⟨H',hk,hr⟩
  obtain ⟨a1,c1,rfl⟩:=h1.v0;obtain ⟨a2,c2,rfl⟩:=h2.v0;obtain ⟨H1,e1,k1,s1,rd2,rd0,rd1⟩:=Q.boxP H (.slice a1 w.length c1) (.int .i64 d);obtain ⟨H2,e2,k2,s2,re2,re0,re1⟩:=Q.boxP H1 (.slice a2 u.length c2) (.int .i64 x);have k12:=k1.trans k2;have m0:=k2.read s1 rd0;have m1:=k2.read s1 rd1;have hL2:=k12.low hL;have fs:=(sameG_runs hS _ _ w u r1 o1 r2 o2 (H2.relow H2.size) (Nat.le_refl _) ((h1.keep k12).keep (Keep.relowS _)) ((h2.keep k12).keep (Keep.relowS _))).bx;have fs2:=(sameG_runs hS _ _ w u r1 o1 r2 o2 H2 hL2 (h1.keep k12) (h2.keep k12)).bx;have hgb:∃ b,b = decide (w = u):=⟨_,rfl⟩;obtain ⟨b,hb⟩:=hgb;have hres:decide (d = x ∧ w = u) = (decide (d = x) && b):=by rw [hb]; exact Bool.decide_and _ _
  rw [← hb] at fs fs2;rw [hres];clear h1 h2 rd2 re2 hb hres
  by_cases hdx:d = x
  · have d0:decide (d = x) = true:=decide_eq_true hdx;rw [d0,Bool.true_and];clear hdx;refine Zaaw Tryz.func8 rfl (Nat.le_of_ble_eq_true rfl) (hS.no rfl _ _) ?_
    rw [Tryz.ntmps8,Tryz.results8]
    repeat' (first | simp only [↓Zabp,↓Zabr,↓Zabq,↓Zacj,↓Zaci,↓Zaco,↓Zaav,↓Zaaq,↓Zaaj,↓Zaar,↓bxOp_box,↓Zaap,↓Zaak,↓Zaam,↓Zaat,↓bxPut,↓Zabk,↓Zabi,↓Zacm,↓Zacn,↓Zacp,↓Zaba,↓Zaay,↓Zaaz,↓dstAt,↓Zabc,Zack,Zaab,Zabd,aPick_true,Zabt,sxGuardB_tt,Zabg,List.map_cons,List.map_nil,List.nil_append,List.append_nil,↓reduceIte,Nat.reduceEqDiff,Nat.reduceLT,and_self,Nat.add_zero,one1,Option.bind_some, *,argF,List.getD_cons_zero,List.getD_cons_succ,ldI,ldIs,paG0,paG1,Q.cells_agg,Nat.zero_add])
  · have d0:decide (d = x) = false:=decide_eq_false hdx;rw [d0,Bool.false_and];clear hdx;refine Zaaw Tryz.func8 rfl (Nat.le_of_ble_eq_true rfl) (hS.no rfl _ _) ?_
    rw [Tryz.ntmps8,Tryz.results8]
    repeat' (first | simp only [↓Zabp,↓Zabr,↓Zabq,↓Zacj,↓Zaci,↓Zaco,↓Zaav,↓Zaaq,↓Zaaj,↓Zaar,↓bxOp_box,↓Zaap,↓Zaak,↓Zaam,↓Zaat,↓bxPut,↓Zabk,↓Zabi,↓Zacm,↓Zacn,↓Zacp,↓Zaba,↓Zaay,↓Zaaz,↓dstAt,↓Zabc,Zack,Zaab,Zabd,aPick_false,Zabt,sxGuardB_tf,Zabg,List.nil_append,↓reduceIte,Nat.reduceEqDiff,Nat.reduceLT,and_self,one1,Option.bind_some, *,argF,List.getD_cons_zero,List.getD_cons_succ,ldI,paG1,Q.cells_agg,Nat.zero_add])
end Go.Proofs.YtpeoleimmabceaaGreat
