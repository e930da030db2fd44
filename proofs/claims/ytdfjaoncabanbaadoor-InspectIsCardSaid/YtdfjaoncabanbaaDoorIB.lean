/- Mixtures, by the program. -/
import Derived.Test.YtdfjaoncabanbaaDoorQ0
set_option linter.unusedVariables false
set_option linter.unusedSimpArgs false
set_option linter.unusedSectionVars false

namespace Go.Proofs.YtdfjaoncabanbaaDoor
open Go Go.AM
set_option maxRecDepth 10000

variable {S:AM.Sys} (hS:Only S 5)
include hS

set_option maxHeartbeats 4000000 in
theorem isMix_runs (v:Value) (w:List Int) (d n most:Int) (hm:most ≤ 2199023255552) (hn:n ≤ 1000) (r o:Nat) (H:Heap) (hl:SlI .i64 H v w r o) :
    ∃ H',Keep H H' ∧ Runs Tryd.prog S (.fn 13) [.agg ⟨[v,.int .i64 d]⟩,.int .i64 n,.int .i64 most] H (.bool (decide (Mix w d n most))) H':=by
  obtain ⟨b0,hb0⟩:∃ b,decide (Mix w d n most) = b:=⟨_,rfl⟩;rw [hb0]
  suffices h:WCall Tryd.prog S (.fn 13) [.agg ⟨[v,.int .i64 d]⟩,.int .i64 n,.int .i64 most] H (fun v H' => v = .bool b0 ∧ Keep H H') by
    obtain ⟨_,H',hr,rfl,hk⟩:=h; exact ⟨H',hk,hr⟩
  obtain ⟨a,cap,rfl⟩:=hl.v0;refine Zaaw Tryd.func13 rfl (Nat.le_of_ble_eq_true rfl) (hS.no rfl _ _) ?_
  rw [Tryd.ntmps13,Tryd.results13];obtain ⟨H1,e1,hK1,hz1,rd2,rd0,rd1⟩:=Q.boxP H (.slice a w.length cap) (.int .i64 d)
  by_cases h1:(w.length:Int) = n
  case neg =>
    have d1:decide (¬ (w.length:Int) = n) = true:=decide_eq_true h1;have hb:b0 = false:=by rw [← hb0]; exact decide_eq_false fun h => h1 h.1
    subst hb;clear hl hb0 h1
    repeat' simp only [↓Zabr,↓Zabo,↓Zabq,↓Zaag,↓Zaah,↓Zabl,↓Zabp,↓Zaci,↓Zach,↓Zacn,↓Zaav,↓Zaar,↓Zaaj,↓Zaas,↓Zaal,↓Zaaq,↓Zaak,↓bxOp_un,↓Zaan,↓Zaau,↓Zaap,↓bxPut,↓Zabj,↓Zabk,↓Zabh,↓Zacl,↓Zacm,↓Zaco,↓Zaba,↓Zaay,↓Zaaz,↓dstAt,↓Zabb,Zacj,Zaad,Zabc,Zaac,Zabs,sxGuardB_ft,Zacg,Zabf,List.nil_append,↓reduceIte,Nat.reduceEqDiff,Nat.reduceLT,and_self,one1,Option.bind_some, *,argF,List.getD_cons_zero,List.getD_cons_succ,lenI,Q.cells_agg,Q.fldP0,ldIs]
  subst h1;have d1:decide (¬ (w.length:Int) = (w.length:Int)) = false:=decide_eq_false fun h => h rfl
  have fw:=(isWithin_runs hS d 1 most H1).bx
  by_cases h2:1 ≤ d ∧ d ≤ most
  case neg =>
    rw [decide_eq_false h2] at fw;have hb:b0 = false:=by rw [← hb0]; exact decide_eq_false fun h => h2 h.2.1
    subst hb;clear hl hb0 h2
    repeat' simp only [↓Zabr,↓Zabo,↓Zabq,↓Zaag,↓Zaah,↓Zabl,↓Zabp,↓Zaci,↓Zach,↓Zacn,↓Zaav,↓Zaar,↓Zaaj,↓Zaas,↓Zaal,↓Zaaq,↓Zaak,↓bxOp_un,↓Zaan,↓Zaau,↓Zaap,↓bxPut,↓Zabj,↓Zabk,↓Zabh,↓Zacl,↓Zacm,↓Zaco,↓Zaba,↓Zaay,↓Zaaz,↓dstAt,↓Zabb,Zacj,Zaad,Zabc,una_nf,Zaac,Zaab,Zabs,sxGuardB_ft,Zacc,Zacg,Zabf,List.map,List.nil_append,List.append_nil,↓reduceIte,Nat.reduceEqDiff,Nat.reduceLT,dec_F,and_self,one1,Option.bind_some,not_true_eq_false, *,argF,List.getD_cons_zero,List.getD_cons_succ,lenI,Q.cells_agg,Q.fldP0,Q.fldP1,ldI,ldIs]
  rw [decide_eq_true h2] at fw;have hob:=areWithin_runs hS 0 d _ w r o H1 (hl.keep hK1);obtain ⟨H2,k2,R2⟩:=hob;have f2:=R2.bx;have k02:=hK1.trans k2;have r0:=k2.read hz1 rd0;have r1:=k2.read hz1 rd1;have r2:=k2.read hz1 rd2
  by_cases h3:∀ x ∈ w,0 ≤ x ∧ x ≤ d
  case neg =>
    rw [decide_eq_false h3] at f2;have hb:b0 = false:=by rw [← hb0]; exact decide_eq_false fun h => h3 h.2.2.1
    subst hb;clear hl hb0 h2 h3 R2 k2 r0 r1 r2
    repeat' simp only [↓Zabr,↓Zabo,↓Zabq,↓Zaag,↓Zaah,↓Zabl,↓Zabp,↓Zaci,↓Zach,↓Zacn,↓Zaav,↓Zaar,↓Zaaj,↓Zaas,↓Zaal,↓Zaaq,↓Zaak,↓bxOp_un,↓Zaan,↓Zaau,↓Zaap,↓bxPut,↓Zabj,↓Zabk,↓Zabh,↓Zacl,↓Zacm,↓Zaco,↓Zaba,↓Zaay,↓Zaaz,↓dstAt,↓Zabb,Zacj,Zaad,Zabc,una_nt,una_nf,Zaab,Zabs,Zacc,Zacg,Zabf,List.map,List.nil_append,List.append_nil,↓reduceIte,Nat.reduceEqDiff,Nat.reduceLT,dec_F,and_self,one1,Option.bind_some,not_true_eq_false, *,argF,List.getD_cons_zero,List.getD_cons_succ,lenI,Q.cells_agg,Q.fldP0,Q.fldP1,ldI,ldIs]
  rw [decide_eq_true h3] at f2;have hml:=hl.ml;have hnn:∀ x ∈ w,0 ≤ x:=fun x hx => (h3 x hx).1
  obtain ⟨H3,k3,R3⟩:=cdivI_runs hS _ w d r o H2 (hl.keep k02) (fun x hx => by have:=h3 x hx; omega) (by omega)
  have f3:=R3.bx;have k03:=k02.trans k3;have l2:=hl.keep k02;clear R2 R3 hl hK1 k2 k3
  repeat' simp only [↓Zabr,↓Zabo,↓Zabq,↓Zaag,↓Zaah,↓Zabl,↓Zabp,↓Zaci,↓Zach,↓Zacn,↓Zaav,↓Zaar,↓Zaaj,↓Zaas,↓Zaal,↓Zaaq,↓Zaak,↓bxOp_un,↓Zaan,↓Zaau,↓Zaap,↓bxPut,↓Zabj,↓Zabk,↓Zabh,↓Zacl,↓Zacm,↓Zaco,↓Zaba,↓Zaay,↓Zaaz,↓dstAt,↓Zabb,Zacj,Zaad,Zabc,una_nt,Zaab,Zabs,Zacc,Zacf,Zabf,List.map,List.nil_append,List.append_nil,↓reduceIte,Nat.reduceEqDiff,Nat.reduceLT,dec_F,one1,Option.bind_some,not_true_eq_false, *,argF,List.getD_cons_zero,List.getD_cons_succ,lenI,Q.cells_agg,Q.fldP0,Q.fldP1,ldI,ldIs]
  have hsr:∀ k,k ≤ w.length → 0 ≤ (w.take k).sum ∧ (w.take k).sum ≤ 2199023255552000:=fun k hk => by
    have q1:=Q.sum_take_le w hnn k;have q2:=Q.sum_le 2199023255552 w (fun x hx => by have:=h3 x hx; omega)
    omega
  refine sxL_of (fun m ρ X => ∃ k:Nat,m = w.length - k ∧ k ≤ w.length ∧ X = H2 ∧ ρ 3 = .pointer (some ⟨H.size,0,none⟩) ∧ ρ 7 = .int .i64 (w.take k).sum ∧ ρ 31 = .slice a w.length cap ∧ ρ 32 = .int .i64 (w.length:Int) ∧ ρ 33 = .int .i64 (k:Int))
    ⟨0,rfl,Nat.zero_le _,rfl,rfl,rfl,rfl,rfl,rfl⟩ ?_
  clear e1 rd0 rd1 rd2 fw f2;rintro m ρ X ⟨k,rfl,hk,rfl,e3,e7,e31,e32,e33⟩
  by_cases hlt:k < w.length
  · have hlt':(k:Int) < (w.length:Int):=by omega
    have hw:=wrap_succ hlt hml;have hix:=SlI_ix l2 hlt;have hrd:=(l2.rdI hlt).1;have hs1:=hsr k hk;have hs2:=hsr (k + 1) hlt;have hsk:=Q.sum_take_succ w hlt;have hwz:IntKind.i64.wrap ((w.take k).sum + w.getD k 0) = (w.take (k + 1)).sum:=by rw [← hsk]; exact IntWalk.i64_in _ (by omega)
    clear l2 hsr hnn h2 h3 hs1 hs2 hsk hb0 f3
    repeat' simp only [↓Zabr,↓Zabo,↓Zabq,↓Zaag,↓Zabl,↓Zabn,↓Zaci,↓Zach,↓Zacn,↓Zaar,↓Zaaj,↓Zaaq,↓Zaak,↓Zaao,↓bxPut,↓Zabj,↓Zabi,↓Zaaf,↓Zaae,↓Zabe,↓Zabd,↓Zaco,↓Zaba,↓Zaay,Zacj,Zaad,Zabc,Zacg,↓reduceIte,Nat.reduceEqDiff,Nat.reduceLT,dec_T,true_and,one1,Option.bind_some, *,ldI]
    exact ⟨w.length - (k + 1),by omega,k + 1,rfl,by omega,rfl,rfl⟩
  · have hlt':¬ (k:Int) < (w.length:Int):=by omega
    have hke:k = w.length:=by omega
    have hsm:(w.take k).sum = w.sum:=by rw [hke,List.take_length]
    rw [hsm] at e7
    by_cases h4:w.sum = d
    · have d4:decide (w.sum = d) = true:=decide_eq_true h4;have hbv:decide (Q.gcdAll d w = 1) = b0:=by
        rw [← hb0];exact decide_eq_decide.2 ⟨fun h => ⟨rfl,h2,h3,h4,h⟩,fun h => h.2.2.2.2⟩
      clear l2 hsr hnn h2 h3 h4 hb0 hke hsm
      repeat' simp only [↓Zabr,↓Zabo,↓Zabq,↓Zaag,↓Zabl,↓Zabn,↓Zaci,↓Zach,↓Zacn,↓Zaar,↓Zaaj,↓Zaaq,↓Zaak,↓Zaao,↓bxPut,↓Zabj,↓Zabi,↓Zaaf,↓Zaae,↓Zabe,↓Zabd,↓Zaco,↓Zaba,↓Zaay,Zacj,Zaad,Zabc,Zaac,sxGuardB_tt,Zacf,List.map,List.append_nil,↓reduceIte,Nat.reduceEqDiff,Nat.reduceLT,dec_F,and_self,one1,Option.bind_some,Option.map_some, *,ldI,Q.fldP1,Q.ldP]
    · have d4:decide (w.sum = d) = false:=decide_eq_false h4;have hb:b0 = false:=by rw [← hb0]; exact decide_eq_false fun h => h4 h.2.2.2.1
      subst hb;clear l2 hsr hnn h2 h3 h4 hb0 hke hsm f3
      repeat' simp only [↓Zabr,↓Zabo,↓Zabq,↓Zaag,↓Zabl,↓Zabn,↓Zaci,↓Zach,↓Zacn,↓Zaar,↓Zaaj,↓Zaaq,↓Zaak,↓Zaao,↓bxPut,↓Zabj,↓Zabi,↓Zaaf,↓Zaae,↓Zabe,↓Zabd,↓Zaco,↓Zaba,↓Zaay,Zacj,Zaad,Zabc,Zaab,sxGuardB_tf,Zacf,↓reduceIte,Nat.reduceEqDiff,Nat.reduceLT,dec_F,and_self,one1,Option.bind_some, *,ldI,Q.fldP1]
end Go.Proofs.YtdfjaoncabanbaaDoor
