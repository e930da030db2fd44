/- Mixtures, by the reference: the check. -/
import Derived.Test.YtdfjaoncabanbaaDoorID
set_option linter.unusedVariables false
set_option linter.unusedSimpArgs false
set_option linter.unusedSectionVars false

namespace Go.Proofs.YtdfjaoncabanbaaDoor
open Go Go.AM
set_option maxRecDepth 10000

variable {S:AM.Sys} (hS:Only S 5)
include hS

set_option maxHeartbeats 4000000 in
theorem rMix_runs (v:Value) (w:List Int) (d n most:Int) (hd:R63 d) (hm:most ≤ 2199023255552) (hn:n ≤ 1000) (r o:Nat) (H:Heap) (hL:H.low ≤ H.size) (hl:SlI .i64 H v w r o) :
    ∃ H',Keep H H' ∧ Runs Tryd.prog S (.fn 35) [.agg ⟨[v,.int .i64 d]⟩,.int .i64 n,.int .i64 most] H (.bool (decide (Mix w d n most))) H':=by
  obtain ⟨b0,hb0⟩:∃ b,decide (Mix w d n most) = b:=⟨_,rfl⟩;rw [hb0]
  suffices h:WCall Tryd.prog S (.fn 35) [.agg ⟨[v,.int .i64 d]⟩,.int .i64 n,.int .i64 most] H (fun v H' => v = .bool b0 ∧ Keep H H') by
    obtain ⟨_,H',hr,rfl,hk⟩:=h; exact ⟨H',hk,hr⟩
  obtain ⟨a,cap,rfl⟩:=hl.v0;refine Zaaw Tryd.func35 rfl (Nat.le_of_ble_eq_true rfl) (hS.no rfl _ _) ?_
  rw [Tryd.ntmps35,Tryd.results35];obtain ⟨H1,e1,hK1,hz1,rd2,rd0,rd1⟩:=Q.boxP H (.slice a w.length cap) (.int .i64 d)
  by_cases h1:(w.length:Int) = n
  case neg =>
    have d1:decide (¬ (w.length:Int) = n) = true:=decide_eq_true h1;have hb:b0 = false:=by rw [← hb0]; exact decide_eq_false fun h => h1 h.1
    subst hb;clear hl hb0 h1 hd
    repeat' simp only [↓Zabr,↓Zabo,↓Zabq,↓Zaag,↓Zaah,↓Zabl,↓Zabp,↓Zaci,↓Zach,↓Zacn,↓Zaav,↓Zaar,↓Zaaj,↓Zaas,↓Zaal,↓Zaaq,↓Zaak,↓bxOp_un,↓Zaan,↓Zaau,↓Zaap,↓bxPut,↓Zabj,↓Zabk,↓Zabh,↓Zacl,↓Zacm,↓Zaco,↓Zaba,↓Zaay,↓Zaaz,↓dstAt,↓Zabb,Zacj,Zaad,Zabc,Zaac,Zabs,sxGuardB_ft,Zacg,Zabf,List.nil_append,↓reduceIte,Nat.reduceEqDiff,Nat.reduceLT,and_self,one1,Option.bind_some, *,argF,List.getD_cons_zero,List.getD_cons_succ,lenI,Q.cells_agg,Q.fldP0,ldIs]
  subst h1;have d1:decide (¬ (w.length:Int) = (w.length:Int)) = false:=decide_eq_false fun h => h rfl
  by_cases h2:d < 1
  · have d2:decide (d < 1) = true:=decide_eq_true h2;have hb:b0 = false:=by rw [← hb0]; exact decide_eq_false fun h => by have:=h.2.1.1; omega
    subst hb;clear hl hb0 h2 hd
    repeat' simp only [↓Zabr,↓Zabo,↓Zabq,↓Zaag,↓Zaah,↓Zabl,↓Zabp,↓Zaci,↓Zach,↓Zacn,↓Zaav,↓Zaar,↓Zaaj,↓Zaas,↓Zaal,↓Zaaq,↓Zaak,↓bxOp_un,↓Zaan,↓Zaau,↓Zaap,↓bxPut,↓Zabj,↓Zabk,↓Zabh,↓Zacl,↓Zacm,↓Zaco,↓Zaba,↓Zaay,↓Zaaz,↓dstAt,↓Zabb,Zacj,Zaad,Zabc,Zaac,Zaab,Zabs,sxGuardB_ft,Zacc,Zacg,Zabf,List.nil_append,↓reduceIte,Nat.reduceEqDiff,Nat.reduceLT,dec_F,and_self,one1,Option.bind_some,not_true_eq_false, *,argF,List.getD_cons_zero,List.getD_cons_succ,lenI,Q.cells_agg,Q.fldP0,Q.fldP1,ldI,ldIs]
  have d2:decide (d < 1) = false:=decide_eq_false h2
  by_cases h3:most < d
  · have d3:decide (most < d) = true:=decide_eq_true h3;have hb:b0 = false:=by rw [← hb0]; exact decide_eq_false fun h => by have:=h.2.1.2; omega
    subst hb;clear hl hb0 h2 h3 hd
    repeat' simp only [↓Zabr,↓Zabo,↓Zabq,↓Zaag,↓Zaah,↓Zabl,↓Zabp,↓Zaci,↓Zach,↓Zacn,↓Zaav,↓Zaar,↓Zaaj,↓Zaas,↓Zaal,↓Zaaq,↓Zaak,↓bxOp_un,↓Zaan,↓Zaau,↓Zaap,↓bxPut,↓Zabj,↓Zabk,↓Zabh,↓Zacl,↓Zacm,↓Zaco,↓Zaba,↓Zaay,↓Zaaz,↓dstAt,↓Zabb,Zacj,Zaad,Zabc,Zaac,Zaab,Zabs,sxGuardB_ft,Zacc,Zacg,Zabf,List.nil_append,↓reduceIte,Nat.reduceEqDiff,Nat.reduceLT,dec_F,and_self,one1,Option.bind_some,not_true_eq_false, *,argF,List.getD_cons_zero,List.getD_cons_succ,lenI,Q.cells_agg,Q.fldP0,Q.fldP1,ldI,ldIs]
  have d3:decide (most < d) = false:=decide_eq_false h3;have hlow:∃ b H2,Keep H1 H2 ∧ Runs Tryd.prog S (.fn 59) [.agg ⟨[.slice a w.length cap,.int .i64 d]⟩] H1 (.bool b) H2 ∧ ((∀ x ∈ w,0 ≤ x) → b = decide (Q.gcdAll d w = 1)):=by
    by_cases hp:∀ x ∈ w,0 ≤ x
    · obtain ⟨H2,k2,R2⟩:=Q.Lowest_runs hS _ w d r o H1 (hK1.low hL) (hl.keep hK1) hp (by omega)
      exact ⟨_,H2,k2,R2,fun _ => rfl⟩
    · obtain ⟨b,H2,k2,R2⟩:=Lowest_any hS _ w d hd r o H1 (hK1.low hL) (hl.keep hK1);exact ⟨b,H2,k2,R2,fun h => absurd h hp⟩
  obtain ⟨b,H2,k2,R2,hbb⟩:=hlow;have f2:=R2.bx;have k02:=hK1.trans k2;have r0:=k2.read hz1 rd0;have r1:=k2.read hz1 rd1;cases b with
  | false =>
    have hb:b0 = false:=by
      rw [← hb0];refine decide_eq_false fun h => ?_
      have:=hbb fun x hx => (h.2.2.1 x hx).1
      rw [decide_eq_true h.2.2.2.2] at this;cases this
    subst hb;clear hl hb0 h2 h3 hd R2 hbb k2 hK1 r0 r1
    repeat' simp only [↓Zabr,↓Zabo,↓Zabq,↓Zaag,↓Zaah,↓Zabl,↓Zabp,↓Zaci,↓Zach,↓Zacn,↓Zaav,↓Zaar,↓Zaaj,↓Zaas,↓Zaal,↓Zaaq,↓Zaak,↓bxOp_un,↓Zaan,↓Zaau,↓Zaap,↓bxPut,↓Zabj,↓Zabk,↓Zabh,↓Zacl,↓Zacm,↓Zaco,↓Zaba,↓Zaay,↓Zaaz,↓dstAt,↓Zabb,Zacj,Zaad,Zabc,una_nf,Zaab,Zabs,Zacc,Zacg,Zabf,List.map,List.nil_append,List.append_nil,↓reduceIte,Nat.reduceEqDiff,Nat.reduceLT,dec_F,and_self,one1,Option.bind_some,not_true_eq_false,Option.map_some, *,argF,List.getD_cons_zero,List.getD_cons_succ,lenI,Q.cells_agg,Q.fldP0,Q.fldP1,Q.ldP,ldI,ldIs]
  | true =>
  have l2:=hl.keep k02;have hml:=hl.ml;have hL2:=k02.low hL;have hdb:1 ≤ d ∧ d ≤ most:=by omega
  clear hl R2 k2 hK1 hd h2 h3
  repeat' simp only [↓Zabr,↓Zabo,↓Zabq,↓Zaag,↓Zaah,↓Zabl,↓Zabp,↓Zaci,↓Zach,↓Zacn,↓Zaav,↓Zaar,↓Zaaj,↓Zaas,↓Zaal,↓Zaaq,↓Zaak,↓bxOp_un,↓Zaan,↓Zaau,↓Zaap,↓bxPut,↓Zabj,↓Zabk,↓Zabh,↓Zacl,↓Zacm,↓Zaco,↓Zaba,↓Zaay,↓Zaaz,↓dstAt,↓Zabb,Zacj,Zaad,Zabc,una_nt,Zaab,Zabs,Zacc,Zacf,Zabf,List.map,List.nil_append,List.append_nil,↓reduceIte,Nat.reduceEqDiff,Nat.reduceLT,dec_F,one1,Option.bind_some,not_true_eq_false,Option.map_some, *,argF,List.getD_cons_zero,List.getD_cons_succ,lenI,Q.cells_agg,Q.fldP0,Q.fldP1,Q.ldP,ldI,ldIs]
  clear e1 rd0 rd1 rd2 f2 d1 d2 d3;refine sxL_of (fun m ρ X => ∃ k:Nat,m = w.length - k ∧ k ≤ w.length ∧ X = H2 ∧ (∀ i,i < k → 0 ≤ w.getD i 0 ∧ w.getD i 0 ≤ d) ∧ ρ 1 = .int .i64 (w.length:Int) ∧ ρ 3 = .pointer (some ⟨H.size,0,none⟩) ∧ ρ 7 = .int .i64 (w.take k).sum ∧ ρ 8 = .int .i64 (k:Int))
    ⟨0,rfl,Nat.zero_le _,rfl,fun i hi => absurd hi (Nat.not_lt_zero i),rfl,rfl,rfl,rfl⟩ ?_
  rintro m ρ X ⟨k,rfl,hk,rfl,hall,e1,e3,e7,e8⟩
  by_cases hlt:k < w.length
  · have hlt':(k:Int) < (w.length:Int):=by omega
    have hw:=wrap_succ hlt hml;have hix:=SlI_ix l2 hlt;have hrd:=(l2.rdI hlt).1
    by_cases h4:w.getD k 0 < 0
    · have d4:decide (w.getD k 0 < 0) = true:=decide_eq_true h4;have hb:b0 = false:=by rw [← hb0]; exact decide_eq_false fun h => by have:=h.2.2.1 _ (getD_mem (d:=0) hlt); omega
      subst hb;clear l2 hall hb0 hbb h4 hdb
      repeat' (first | simp only [↓Zabr,↓Zabm,↓Zabo,↓Zabq,↓Zaag,↓Zabl,↓Zabn,↓Zabp,↓Zaci,↓Zach,↓Zacb,↓Zaai,↓Zabz,↓sxDL_pick,↓Zaby,↓sxDL_binOp,↓Zabw,↓Zabx,↓sxD_same,↓Zacn,↓Zaav,↓Zaar,↓Zaaj,↓Zaas,↓Zaaq,↓Zaak,↓Zaan,↓Zaao,↓bxPut,↓Zabj,↓Zabi,↓Zabk,↓Zaaf,↓blockQ_ret,↓Zaae,↓Zabe,↓Zabd,↓loopQ_ret,↓Zabh,↓Zacl,↓Zacm,↓Zaco,↓Zaba,↓Zaay,↓dstAt,↓Zabb,Zacj,Zaad,Zabc,Zaac,sxGuardB_ft,Zacg,Zabf,↓reduceIte,Nat.reduceEqDiff,Nat.reduceLT,dec_T,and_self,Zaaa,one1,Option.bind_some, *,ldI,ldIs,Q.fldP0] | (with_reducible first | refine Zabu (by assumption) (by decide +kernel) ?_ | refine Zabt (by decide +kernel) ?_ | refine Zaca (by decide +kernel) ?_ | refine Zabv ?_))
    have d4:decide (w.getD k 0 < 0) = false:=decide_eq_false h4
    by_cases h5:d < w.getD k 0
    · have d5:decide (d < w.getD k 0) = true:=decide_eq_true h5;have hb:b0 = false:=by rw [← hb0]; exact decide_eq_false fun h => by have:=h.2.2.1 _ (getD_mem (d:=0) hlt); omega
      subst hb;clear l2 hall hb0 hbb h4 h5 hdb
      repeat' (first | simp only [↓Zabr,↓Zabm,↓Zabo,↓Zabq,↓Zaag,↓Zabl,↓Zabn,↓Zabp,↓Zaci,↓Zach,↓Zacb,↓Zaai,↓Zabz,↓sxDL_pick,↓Zaby,↓sxDL_binOp,↓Zabw,↓Zabx,↓sxD_same,↓Zacn,↓Zaav,↓Zaar,↓Zaaj,↓Zaas,↓Zaaq,↓Zaak,↓Zaan,↓Zaao,↓bxPut,↓Zabj,↓Zabi,↓Zabk,↓Zaaf,↓blockQ_ret,↓Zaae,↓Zabe,↓Zabd,↓loopQ_ret,↓Zabh,↓Zacl,↓Zacm,↓Zaco,↓Zaba,↓Zaay,↓dstAt,↓Zabb,Zacj,Zaad,Zabc,Zaab,Zacc,Zacg,Zabf,↓reduceIte,Nat.reduceEqDiff,Nat.reduceLT,dec_T,and_self,Zaaa,one1,Option.bind_some, *,ldI,ldIs,Q.fldP0,Q.fldP1] | (with_reducible first | refine Zabu (by assumption) (by decide +kernel) ?_ | refine Zabt (by decide +kernel) ?_ | refine Zaca (by decide +kernel) ?_ | refine Zabv ?_))
    have d5:decide (d < w.getD k 0) = false:=decide_eq_false h5;have hall2:∀ i,i < k + 1 → 0 ≤ w.getD i 0 ∧ w.getD i 0 ≤ d:=fun i hi => by
      rcases Nat.lt_or_ge i k with h | h
      · exact hall i h
      · have:i = k:=by omega
        subst this; omega
    have hsm:=Q.sum_takeB' w d (k:=k) hk hall;have hsk:=Q.sum_take_succ w hlt;have hkd:(k:Int) * d ≤ 2199023255552000:=by
      have:(k:Int) * d ≤ 1000 * 2199023255552:=Int.mul_le_mul (by omega) (by omega) (by omega) (by decide)
      omega
    have hwz:IntKind.i64.wrap ((w.take k).sum + w.getD k 0) = (w.take (k + 1)).sum:=by rw [← hsk]; exact IntWalk.i64_in _ (by omega)
    clear l2 hall hb0 hbb h4 h5 hdb hsm hsk hkd
    repeat' (first | simp only [↓Zabr,↓Zabm,↓Zabo,↓Zabq,↓Zaag,↓Zabl,↓Zabn,↓Zabp,↓Zaci,↓Zach,↓Zacb,↓Zaai,↓Zabz,↓sxDL_pick,↓Zaby,↓sxDL_binOp,↓Zabw,↓Zabx,↓sxD_same,↓Zacn,↓Zaav,↓Zaar,↓Zaaj,↓Zaas,↓Zaaq,↓Zaak,↓Zaan,↓Zaao,↓bxPut,↓Zabj,↓Zabi,↓Zabk,↓Zaaf,↓blockQ_ret,↓Zaae,↓Zabe,↓Zabd,↓loopQ_ret,↓Zabh,↓Zacl,↓Zacm,↓Zaco,↓Zaba,↓Zaay,↓dstAt,↓Zabb,Zacj,Zaad,Zabc,Zaab,Zacc,Zacg,Zacf,Zabf,↓reduceIte,Nat.reduceEqDiff,Nat.reduceLT,dec_T,true_and,Zaaa,one1,Option.bind_some, *,ldI,ldIs,Q.fldP0,Q.fldP1] | (with_reducible first | refine Zabu (by assumption) (by decide +kernel) ?_ | refine Zabt (by decide +kernel) ?_ | refine Zaca (by decide +kernel) ?_ | refine Zabv ?_))
    exact ⟨w.length - (k + 1),by omega,k + 1,rfl,by omega,hall2,rfl,rfl⟩
  · have hlt':¬ (k:Int) < (w.length:Int):=by omega
    have hke:k = w.length:=by omega
    have hsm:(w.take k).sum = w.sum:=by rw [hke,List.take_length]
    rw [hsm] at e7;have hav:∀ x ∈ w,0 ≤ x ∧ x ≤ d:=fun x hx => by
      obtain ⟨i,hi,rfl⟩:=List.getElem_of_mem hx;have:=hall i (by omega)
      rwa [List.getD_eq_getElem?_getD,List.getElem?_eq_getElem hi] at this
    have hg1:=of_decide_eq_true (hbb fun x hx => (hav x hx).1).symm
    have hbv:decide (w.sum = d) = b0:=by
      rw [← hb0];exact decide_eq_decide.2 ⟨fun h => ⟨rfl,hdb,hav,h,hg1⟩,fun h => h.2.2.2.1⟩
    clear l2 hall hb0 hbb hdb hav hg1 hke hsm
    repeat' (first | simp only [↓Zabr,↓Zabm,↓Zabo,↓Zabq,↓Zaag,↓Zabl,↓Zabn,↓Zabp,↓Zaci,↓Zach,↓Zacb,↓Zaai,↓Zabz,↓sxDL_pick,↓Zaby,↓sxDL_binOp,↓Zabw,↓Zabx,↓Zacn,↓Zaav,↓Zaar,↓Zaaj,↓Zaas,↓Zaaq,↓Zaak,↓Zaan,↓Zaao,↓bxPut,↓Zabj,↓Zabi,↓Zabk,↓Zaaf,↓blockQ_ret,↓Zaae,↓Zabe,↓Zabd,↓loopQ_ret,↓Zabh,↓Zacl,↓Zacm,↓Zaco,↓Zaba,↓Zaay,↓dstAt,↓Zabb,Zacj,Zaad,Zabc,Zacf,Zabf,↓reduceIte,Nat.reduceEqDiff,Nat.reduceLT,dec_F,and_self,one1,Option.bind_some, *,ldI,Q.fldP1] | (with_reducible first | refine Zabu (by assumption) (by decide +kernel) ?_ | refine Zabt (by decide +kernel) ?_ | refine Zaca (by decide +kernel) ?_ | refine Zabv ?_))
end Go.Proofs.YtdfjaoncabanbaaDoor
