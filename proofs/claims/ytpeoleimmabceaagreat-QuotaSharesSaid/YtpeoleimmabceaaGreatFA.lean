/- What a rule gives, by the reference. -/
import Derived.Test.YtpeoleimmabceaaGreatF9
set_option linter.unusedVariables false
set_option linter.unusedSimpArgs false
set_option linter.unusedSectionVars false

namespace Go.Proofs.YtpeoleimmabceaaGreat
open Go Go.AM
set_option maxRecDepth 10000

variable {S:AM.Sys} (hS:Only S 5)
include hS

set_option maxHeartbeats 8000000 in
theorem rRule0_runs (e:Int) (v:Value) (c:List Int) (r o:Nat) (H:Heap) (hg:Grp H) (hL:H.low ≤ H.size) (hl:SlI .i64 H v c r o) (hp:Q.Prob e c) :
    ∃ u H',Runs Tryz.prog S (.fn 13) [.int .i64 0,.int .i64 e,v] H u H' ∧ PostRl c 0 e H u H':=by
  suffices h:WCall Tryz.prog S (.fn 13) [.int .i64 0,.int .i64 e,v] H (fun u H' => PostRl c 0 e H u H') by
    obtain ⟨u,H',hr,h⟩:=h; exact ⟨u,H',hr,h⟩
  obtain ⟨v7,r7,o7,H1,ve,H2,Ha,H4,vt,H5,Hb,H7,vm,H8,Hc,H10,K10,g10,s7,qe,qt,qm,owe,owt,owm,f1,f2,al1,st1,f3,al2,st2,ld1,ld2,f4,al3,st3⟩:=rule_pre hS e v c r o H hg hL hl hp;have h7:=hp.2.1;have hc:=hp.2.2.1;have he:=hp.1;have hs:=hp.2.2.2;have hsm:=Q.sum_le 100000 c fun x hx => (hc x hx).2
  have lo10:=K10.low hL;have l00:decide ((0:Int) = 0) = true:=rfl;have l01:decide ((0:Int) = 1) = false:=rfl;have l02:decide ((0:Int) = 2) = false:=rfl;have l03:decide ((0:Int) = 3) = false:=rfl;have s8:=qd_scale (k:=840) (by omega) s7
  rw [Int.one_mul] at s8;have qe8:=qe.as (n2:=e * 840) (d2:=840) (by omega) (by omega)
  have hob:=rEqual_runs hS ve v7 (e * 840) (c.map fun x => x * 840) r7 o7 H10 g10 lo10 qe8 s8 (by rw [List.length_map]; omega) (fun i hi => by
    have hi:i < c.length:=by simpa using hi
    rw [map_mul_at hi]
    have:=hc _ (Zabb (d:=0) hi); omega) ⟨by omega,by rw [map_mul_sum]; omega,by omega⟩ (by omega)
  obtain ⟨w,⟨hw1,hw2,P,hP,hw3⟩,H11,u,r11,o11,k11,g11,s11,R11⟩:=hob;have f5:=R11.bx;have lde:=own_ldQ owe qe;have hpost:PostRl c 0 e H u H11:=by
    have hwl:w.length = c.length:=by simpa using hw1
    have hwi:∀ i,i < c.length → w.getD i 0 = min (c.getD i 0 * 840) P:=fun i hi => by rw [hw3 i (by simpa using hi),map_mul_at hi]
    refine ⟨840,w,r11,o11,by omega,hwl,fun i hi => ?_,?_,K10.trans k11,g11,s11⟩
    · have:=hc _ (Zabb (d:=0) hi);rw [hwi i hi]; omega
    · unfold Awd;rw [if_pos rfl];exact ⟨P,840,by omega,hP,fun i hi => by rw [hwi i hi]; omega,hw2⟩
  clear s7 s8 qe qe8 qt qm owe owt owm hw1 hw2 hw3 s11 R11 k11 g11 g10 K10 hc hs hsm hl hp;refine Zaaw Tryz.func13 rfl (Nat.le_of_ble_eq_true rfl) (hS.no rfl _ _) ?_
  rw [Tryz.ntmps13,Tryz.results13]
  repeat' (first | simp only [↓Zabs,↓Zabn,↓Zabp,↓Zabr,↓Zaae,↓Zaaf,↓Zabm,↓Zabq,↓Zacj,↓Zaci,↓Zacd,↓Zaag,↓Zacb,↓Zaca,↓Zabw,↓Zaco,↓Zaaq,↓Zaaj,↓Zaah,↓Zaap,↓Zaas,↓Zaak,↓bxOp_makeSlice,↓Zaam,↓Zaat,↓Zaao,↓Zacl,↓bxPut,↓Zabk,↓Zabl,↓Zaad,↓blockQ_ret,↓Zabi,↓Zacm,↓Zacn,↓Zacp,↓Zaba,↓Zaay,↓Zaaz,Zack,Zaab,Zabd,Zabt,Zach,Zabg,List.map_cons,List.map_nil,List.nil_append,List.append_nil,↓reduceIte,Nat.reduceEqDiff,Nat.reduceLT,dec_T, *,argF,List.getD_cons_zero,List.getD_cons_succ] | (with_reducible first | refine Zabv (by assumption) (by decide +kernel) ?_ | refine Zabu (by decide +kernel) ?_ | refine Zacc (by decide +kernel) ?_ | refine Zabx ?_))

set_option maxHeartbeats 8000000 in
theorem rRule1_runs (e:Int) (v:Value) (c:List Int) (r o:Nat) (H:Heap) (hg:Grp H) (hL:H.low ≤ H.size) (hl:SlI .i64 H v c r o) (hp:Q.Prob e c) :
    ∃ u H',Runs Tryz.prog S (.fn 13) [.int .i64 1,.int .i64 e,v] H u H' ∧ PostRl c 1 e H u H':=by
  suffices h:WCall Tryz.prog S (.fn 13) [.int .i64 1,.int .i64 e,v] H (fun u H' => PostRl c 1 e H u H') by
    obtain ⟨u,H',hr,h⟩:=h; exact ⟨u,H',hr,h⟩
  obtain ⟨v7,r7,o7,H1,ve,H2,Ha,H4,vt,H5,Hb,H7,vm,H8,Hc,H10,K10,g10,s7,qe,qt,qm,owe,owt,owm,f1,f2,al1,st1,f3,al2,st2,ld1,ld2,f4,al3,st3⟩:=rule_pre hS e v c r o H hg hL hl hp;have h7:=hp.2.1;have hc:=hp.2.2.1;have he:=hp.1;have hs:=hp.2.2.2;have hsm:=Q.sum_le 100000 c fun x hx => (hc x hx).2
  have lo10:=K10.low hL;have l10:decide ((1:Int) = 0) = false:=rfl;have l11:decide ((1:Int) = 1) = true:=rfl;have l12:decide ((1:Int) = 2) = false:=rfl;have l13:decide ((1:Int) = 3) = false:=rfl;have s8:=qd_scale (k:=840) (by omega) s7
  rw [Int.one_mul] at s8;have qm8:=qm.as (n2:=(c.sum - e) * 840) (d2:=840) (by omega) (by omega)
  have hcm:∀ i,i < (c.map fun x => x * 840).length → 0 ≤ (c.map fun x => x * 840).getD i 0 ∧ (c.map fun x => x * 840).getD i 0 % 420 = 0 ∧ (c.map fun x => x * 840).getD i 0 ≤ 84000000:=fun i hi => by
    have hi:i < c.length:=by simpa using hi
    rw [map_mul_at hi];have:=hc _ (Zabb (d:=0) hi); omega
  have hob:=rEqual_runs hS vm v7 ((c.sum - e) * 840) (c.map fun x => x * 840) r7 o7 H10 g10 lo10 qm8 s8 (by rw [List.length_map]; omega) (fun i hi => ⟨⟨(hcm i hi).1,(hcm i hi).2.1⟩,(hcm i hi).2.2⟩) ⟨by omega,by rw [map_mul_sum]; omega,by omega⟩ (by omega)
  obtain ⟨w,⟨hw1,hw2,P,hP,hw3⟩,H11,u,r11,o11,k11,g11,s11,R11⟩:=hob;have f5:=R11.bx;have hwl:w.length = c.length:=by simpa using hw1
  have hwi:∀ i,i < c.length → w.getD i 0 = min (c.getD i 0 * 840) P:=fun i hi => by rw [hw3 i (by simpa using hi),map_mul_at hi]
  have hob:=rLess_runs hS v7 u (c.map fun x => x * 840) w 840 r7 o7 r11 o11 H11 g11 (k11.low lo10) (s8.keep k11) s11 (by simp; omega) (by simp; omega) (by omega) (fun i hi => by
    have h1:=hcm i hi;have hi:i < c.length:=by simpa using hi
    have h2:=hwi i hi;rw [map_mul_at hi] at h1 ⊢
    exact ⟨⟨by omega,by omega⟩,⟨by omega,by omega⟩⟩)
  obtain ⟨H12,u2,r12,o12,k12,g12,s12,R12⟩:=hob;have f6:=R12.bx;have ldm:=own_ldQ owm qm;have hpost:PostRl c 1 e H u2 H12:=by
    have hx:∀ i,i < c.length → ((List.range (c.map fun x => x * 840).length).map fun i => (c.map fun x => x * 840).getD i 0 - w.getD i 0).getD i 0 = c.getD i 0 * 840 - w.getD i 0:=fun i hi => by
      rw [List.getD_eq_getElem?_getD,List.getElem?_map,List.getElem?_range (by simpa using hi),Option.map_some,Option.getD_some,map_mul_at hi]
    obtain ⟨zs,hzs⟩:∃ zs,zs = (List.range (c.map fun x => x * 840).length).map fun i => (c.map fun x => x * 840).getD i 0 - w.getD i 0:=⟨_,rfl⟩
    have hzl:zs.length = c.length:=by rw [hzs]; simp
    rw [← hzs] at hx s12;refine ⟨840,zs,r12,o12,by omega,hzl,fun i hi => ?_,?_,(K10.trans k11).trans k12,g12,s12⟩
    · have:=hc _ (Zabb (d:=0) hi);rw [hx i hi,hwi i hi]; omega
    · unfold Awd;rw [if_neg (by omega),if_pos rfl]
      have hz:zipL c zs 840 = w:=list_is (fun i => w.getD i 0) (zipL_len _ _ _) hwl (fun i hi => by rw [zipL_at hi,hx i hi]; omega) (fun i hi => rfl)
      rw [hz];exact ⟨P,840,by omega,hP,fun i hi => by rw [hwi i hi]; omega,hw2⟩
  clear s7 s8 qe qm8 qt qm owe owt owm hw1 hw2 hw3 s11 R11 R12 k11 g11 k12 g12 s12 g10 K10 hc hs hsm hl hp hcm hwl hwi;refine Zaaw Tryz.func13 rfl (Nat.le_of_ble_eq_true rfl) (hS.no rfl _ _) ?_
  rw [Tryz.ntmps13,Tryz.results13]
  repeat' (first | simp only [↓Zabs,↓Zabn,↓Zabp,↓Zabr,↓Zaae,↓Zaaf,↓Zabm,↓Zabq,↓Zacj,↓Zaci,↓Zacd,↓Zaag,↓Zacb,↓Zaca,↓Zabw,↓Zaco,↓Zaaq,↓Zaaj,↓Zaah,↓Zaap,↓Zaas,↓Zaak,↓bxOp_makeSlice,↓Zaam,↓Zaat,↓Zaao,↓Zacl,↓bxPut,↓Zabk,↓Zabl,↓Zaad,↓blockQ_ret,↓Zabi,↓Zacm,↓Zacn,↓Zacp,↓Zaba,↓Zaay,↓Zaaz,Zack,Zaab,Zabd,Zabt,Zach,Zacg,Zabg,List.map_cons,List.map_nil,List.nil_append,List.append_nil,↓reduceIte,Nat.reduceEqDiff,Nat.reduceLT,dec_T, *,argF,List.getD_cons_zero,List.getD_cons_succ] | (with_reducible first | refine Zabv (by assumption) (by decide +kernel) ?_ | refine Zabu (by decide +kernel) ?_ | refine Zacc (by decide +kernel) ?_ | refine Zabx ?_))
end Go.Proofs.YtpeoleimmabceaaGreat

namespace Go.Proofs.YtpeoleimmabceaaGreat
open Go Go.AM
set_option maxRecDepth 10000

variable {S:AM.Sys} (hS:Only S 5)
include hS

set_option maxHeartbeats 8000000 in
theorem rRule3_runs (e:Int) (v:Value) (c:List Int) (r o:Nat) (H:Heap) (hg:Grp H) (hL:H.low ≤ H.size) (hl:SlI .i64 H v c r o) (hp:Q.Prob e c) :
    ∃ u H',Runs Tryz.prog S (.fn 13) [.int .i64 3,.int .i64 e,v] H u H' ∧ PostRl c 3 e H u H':=by
  suffices h:WCall Tryz.prog S (.fn 13) [.int .i64 3,.int .i64 e,v] H (fun u H' => PostRl c 3 e H u H') by
    obtain ⟨u,H',hr,h⟩:=h; exact ⟨u,H',hr,h⟩
  obtain ⟨v7,r7,o7,H1,ve,H2,Ha,H4,vt,H5,Hb,H7,vm,H8,Hc,H10,K10,g10,s7,qe,qt,qm,owe,owt,owm,f1,f2,al1,st1,f3,al2,st2,ld1,ld2,f4,al3,st3⟩:=rule_pre hS e v c r o H hg hL hl hp;have h7:=hp.2.1;have hc:=hp.2.2.1;have he:=hp.1;have hs:=hp.2.2.2;have hsm:=Q.sum_le 100000 c fun x hx => (hc x hx).2
  have lo10:=K10.low hL;have l30:decide ((3:Int) = 0) = false:=rfl;have l31:decide ((3:Int) = 1) = false:=rfl;have l32:decide ((3:Int) = 2) = false:=rfl;have l33:decide ((3:Int) = 3) = true:=rfl;have hcs:∀ i,i < c.length → Sml (c.getD i 0):=fun i hi => by have:=hc _ (Zabb (d:=0) hi); exact ⟨by omega,by omega⟩
  have hnn:∀ k,0 ≤ (c.take k).sum ∧ (c.take k).sum ≤ c.sum:=Q.sum_take_le c (fun x hx => (hc x hx).1)
  have hob:=rHalves_runs hS v7 c r7 o7 H10 g10 lo10 s7 (by omega) hcs
  obtain ⟨H11,vh,rh,oh,k11,g11,s11,R11⟩:=hob;have f5:=R11.bx;have lo11:=k11.low lo10;have hr:=Keep.relowS H11;have hob:=drawnQ lo11 (rTotal_runs hS vh c 2 rh oh (H11.relow H11.size) (hr.grp g11) (Nat.le_refl _) (s11.keep hr) (by omega) (by omega) (fun k _ => ⟨by have:=hnn k; omega,by have:=hnn k; omega⟩) hcs)
  obtain ⟨vx,Hd,He,kd,ld,f6,fd6,qx⟩:=hob;have hr2:=Keep.relowS He;have hob:=drawn ld (Cmp_all hS ve vx e 1 c.sum 2 (He.relow He.size) (hr2.grp (kd.grp g11)) (Nat.le_refl _) ((qe.keep k11).keep kd).addr qx.addr (by omega) (by omega))
  obtain ⟨Hf,Hg,kf,lf,f7,fd7⟩:=hob;have K13:=(k11.trans kd).trans kf;have g13:=K13.grp g10;have lde:=own_ldQ (owe.keep k11) (qe.keep k11);have s8:=qd_scale (k:=420) (by omega) ((s11.keep kd).keep kf)
  have hcm:∀ i,i < (c.map fun x => x * 420).length → 0 ≤ (c.map fun x => x * 420).getD i 0 ∧ (c.map fun x => x * 420).getD i 0 % 420 = 0 ∧ (c.map fun x => x * 420).getD i 0 ≤ 84000000:=fun i hi => by
    have hi:i < c.length:=by simpa using hi
    rw [map_mul_at hi];have:=hc _ (Zabb (d:=0) hi); omega
  have hsg:sgn3 (e * 2) (c.sum * 1) ≤ 0 ↔ e ≤ c.sum - e:=by
    unfold sgn3;split
    · omega
    · split <;> omega
  by_cases hhalf:e ≤ c.sum - e
  · have dh:decide (sgn3 (e * 2) (c.sum * 1) ≤ 0) = true:=decide_eq_true (hsg.2 hhalf);have qe8:=(qe.keep K13).as (n2:=e * 840) (d2:=840) (by omega) (by omega)
    have hob:=rEqual_runs hS ve vh (e * 840) (c.map fun x => x * 420) rh oh Hg g13 lf qe8 s8 (by rw [List.length_map]; omega) (fun i hi => ⟨⟨(hcm i hi).1,(hcm i hi).2.1⟩,(hcm i hi).2.2⟩) ⟨by omega,by rw [map_mul_sum]; omega,by omega⟩ (by omega)
    obtain ⟨w,⟨hw1,hw2,P,hP,hw3⟩,H14,u,r14,o14,k14,g14,s14,R14⟩:=hob;have f8:=R14.bx;have lde2:=own_ldQ (owe.keep K13) (qe.keep K13);have hpost:PostRl c 3 e H u H14:=by
      have hwl:w.length = c.length:=by simpa using hw1
      have hwi:∀ i,i < c.length → w.getD i 0 = min (c.getD i 0 * 420) P:=fun i hi => by rw [hw3 i (by simpa using hi),map_mul_at hi]
      refine ⟨840,w,r14,o14,by omega,hwl,fun i hi => ?_,?_,(K10.trans K13).trans k14,g14,s14⟩
      · have:=hc _ (Zabb (d:=0) hi);rw [hwi i hi]; omega
      · unfold Awd;rw [if_neg (by omega),if_neg (by omega),if_neg (by omega),if_pos rfl,if_pos hhalf]
        exact ⟨2 * P,840,by omega,by omega,fun i hi => by rw [dbl_at (by omega),hwi i hi]; omega,by rw [sum_dbl,hw2]; omega⟩
    clear s7 s8 qe qe8 qt qm owe owt owm hw1 hw2 hw3 s14 R14 k14 g14 g10 K10 hc hs hsm hl hp hcm K13 g13 kd kf qx hr hr2 k11 g11 s11 R11 hsg hhalf hcs hnn;refine Zaaw Tryz.func13 rfl (Nat.le_of_ble_eq_true rfl) (hS.no rfl _ _) ?_
    rw [Tryz.ntmps13,Tryz.results13]
    repeat' (first | simp only [↓Zabs,↓Zabn,↓Zabp,↓Zabr,↓Zaae,↓Zaaf,↓Zabm,↓Zabq,↓Zacj,↓Zaci,↓Zacd,↓Zaag,↓Zacb,↓Zaca,↓Zabw,↓sxD_same,↓Zaco,↓Zaaq,↓Zaaj,↓Zaah,↓Zaap,↓Zaas,↓Zaak,↓bxOp_makeSlice,↓Zaam,↓Zaat,↓Zaao,↓Zacl,↓bxPut,↓Zabk,↓Zabl,↓Zaad,↓blockQ_ret,↓Zabi,↓Zacm,↓Zacn,↓Zacp,↓Zaba,↓Zaay,↓Zaaz,Zack,Zaab,Zabd,Zabt,Zach,Zacg,Zabg,List.map_cons,List.map_nil,List.nil_append,List.append_nil,↓reduceIte,Nat.reduceEqDiff,Nat.reduceLT,dec_T,Zaaa, *,argF,List.getD_cons_zero,List.getD_cons_succ] | (with_reducible first | refine Zabv (by assumption) (by decide +kernel) ?_ | refine Zabu (by decide +kernel) ?_ | refine Zacc (by decide +kernel) ?_ | refine Zabx ?_))
  · have dh:decide (sgn3 (e * 2) (c.sum * 1) ≤ 0) = false:=decide_eq_false (fun h => hhalf (hsg.1 h))
    have qm8:=(qm.keep K13).as (n2:=(c.sum - e) * 840) (d2:=840) (by omega) (by omega)
    have hob:=rEqual_runs hS vm vh ((c.sum - e) * 840) (c.map fun x => x * 420) rh oh Hg g13 lf qm8 s8 (by rw [List.length_map]; omega) (fun i hi => ⟨⟨(hcm i hi).1,(hcm i hi).2.1⟩,(hcm i hi).2.2⟩) ⟨by omega,by rw [map_mul_sum]; omega,by omega⟩ (by omega)
    obtain ⟨w,⟨hw1,hw2,P,hP,hw3⟩,H14,u,r14,o14,k14,g14,s14,R14⟩:=hob;have f8:=R14.bx;have hwl:w.length = c.length:=by simpa using hw1
    have hwi:∀ i,i < c.length → w.getD i 0 = min (c.getD i 0 * 420) P:=fun i hi => by rw [hw3 i (by simpa using hi),map_mul_at hi]
    have s9:=qd_scale (k:=840) (by omega) ((s7.keep K13).keep k14)
    rw [Int.one_mul] at s9
    have hob:=rLess_runs hS v7 u (c.map fun x => x * 840) w 840 r7 o7 r14 o14 H14 g14 (k14.low lf) s9 s14 (by simp; omega) (by simp; omega) (by omega) (fun i hi => by
      have hi:i < c.length:=by simpa using hi
      have h2:=hwi i hi;have h3:=hc _ (Zabb (d:=0) hi);rw [map_mul_at hi]
      exact ⟨⟨by omega,by omega⟩,⟨by omega,by omega⟩⟩)
    obtain ⟨H15,u2,r15,o15,k15,g15,s15,R15⟩:=hob;have f9:=R15.bx;have ldm2:=own_ldQ (owm.keep K13) (qm.keep K13);have hpost:PostRl c 3 e H u2 H15:=by
      have hx:∀ i,i < c.length → ((List.range (c.map fun x => x * 840).length).map fun i => (c.map fun x => x * 840).getD i 0 - w.getD i 0).getD i 0 = c.getD i 0 * 840 - w.getD i 0:=fun i hi => by
        rw [List.getD_eq_getElem?_getD,List.getElem?_map,List.getElem?_range (by simpa using hi),Option.map_some,Option.getD_some,map_mul_at hi]
      obtain ⟨zs,hzs⟩:∃ zs,zs = (List.range (c.map fun x => x * 840).length).map fun i => (c.map fun x => x * 840).getD i 0 - w.getD i 0:=⟨_,rfl⟩
      have hzl:zs.length = c.length:=by rw [hzs]; simp
      rw [← hzs] at hx s15;refine ⟨840,zs,r15,o15,by omega,hzl,fun i hi => ?_,?_,((K10.trans K13).trans k14).trans k15,g15,s15⟩
      · have:=hc _ (Zabb (d:=0) hi);rw [hx i hi,hwi i hi]; omega
      · unfold Awd;rw [if_neg (by omega),if_neg (by omega),if_neg (by omega),if_pos rfl,if_neg hhalf]
        have hz:zipL c zs 840 = w:=list_is (fun i => w.getD i 0) (zipL_len _ _ _) hwl (fun i hi => by rw [zipL_at hi,hx i hi]; omega) (fun i hi => rfl)
        rw [hz];exact ⟨2 * P,840,by omega,by omega,fun i hi => by rw [dbl_at (by omega),hwi i hi]; omega,by rw [sum_dbl,hw2]; omega⟩
    clear s7 s8 s9 qe qm8 qt qm owe owt owm hw1 hw2 hw3 s14 R14 k14 g14 g10 K10 hc hs hsm hl hp hcm K13 g13 kd kf qx hr hr2 k11 g11 s11 R11 hsg hhalf hcs hnn k15 g15 s15 R15 hwl hwi;refine Zaaw Tryz.func13 rfl (Nat.le_of_ble_eq_true rfl) (hS.no rfl _ _) ?_
    rw [Tryz.ntmps13,Tryz.results13]
    repeat' (first | simp only [↓Zabs,↓Zabn,↓Zabp,↓Zabr,↓Zaae,↓Zaaf,↓Zabm,↓Zabq,↓Zacj,↓Zaci,↓Zacd,↓Zaag,↓Zacb,↓Zaca,↓Zabw,↓sxD_same,↓Zaco,↓Zaaq,↓Zaaj,↓Zaah,↓Zaap,↓Zaas,↓Zaak,↓bxOp_makeSlice,↓Zaam,↓Zaat,↓Zaao,↓Zacl,↓bxPut,↓Zabk,↓Zabl,↓Zaad,↓blockQ_ret,↓Zabi,↓Zacm,↓Zacn,↓Zacp,↓Zaba,↓Zaay,↓Zaaz,Zack,Zaab,Zabd,Zabt,Zach,Zacg,Zabg,List.map_cons,List.map_nil,List.nil_append,List.append_nil,↓reduceIte,Nat.reduceEqDiff,Nat.reduceLT,dec_T,Zaaa, *,argF,List.getD_cons_zero,List.getD_cons_succ] | (with_reducible first | refine Zabv (by assumption) (by decide +kernel) ?_ | refine Zabu (by decide +kernel) ?_ | refine Zacc (by decide +kernel) ?_ | refine Zabx ?_))
end Go.Proofs.YtpeoleimmabceaaGreat
