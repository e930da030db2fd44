/- What a rule gives, by the reference. -/
import Derived.Test.YtpeoleimmabceaaGreatF9
set_option linter.unusedVariables false
set_option linter.unusedSimpArgs false
set_option linter.unusedSectionVars false

namespace Go.Proofs.YtpeoleimmabceaaGreat
open Go Go.AM
set_option maxRecDepth 10000

variable {S:AM.Sys} (hS:Only S 5)
include hS

set_option maxHeartbeats 8000000 in
theorem rRule4_runs (e:Int) (v:Value) (c:List Int) (r o:Nat) (H:Heap) (hg:Grp H) (hL:H.low ≤ H.size) (hl:SlI .i64 H v c r o) (hp:Q.Prob e c) :
    ∃ u H',Runs Tryz.prog S (.fn 13) [.int .i64 4,.int .i64 e,v] H u H' ∧ PostRl c 4 e H u H':=by
  suffices h:WCall Tryz.prog S (.fn 13) [.int .i64 4,.int .i64 e,v] H (fun u H' => PostRl c 4 e H u H') by
    obtain ⟨u,H',hr,h⟩:=h; exact ⟨u,H',hr,h⟩
  obtain ⟨v7,r7,o7,H1,ve,H2,Ha,H4,vt,H5,Hb,H7,vm,H8,Hc,H10,K10,g10,s7,qe,qt,qm,owe,owt,owm,f1,f2,al1,st1,f3,al2,st2,ld1,ld2,f4,al3,st3⟩:=rule_pre hS e v c r o H hg hL hl hp;have h7:=hp.2.1;have hc:=hp.2.2.1;have he:=hp.1;have hs:=hp.2.2.2;have hsm:=Q.sum_le 100000 c fun x hx => (hc x hx).2
  have lo10:=K10.low hL;have l40:decide ((4:Int) = 0) = false:=rfl;have l41:decide ((4:Int) = 1) = false:=rfl;have l42:decide ((4:Int) = 2) = false:=rfl;have l43:decide ((4:Int) = 3) = false:=rfl;have hv:=hl.v0;obtain ⟨va,vc,rfl⟩:=hv;have hnp:0 < c.length:=by omega
  have mk:=mkI H10 (l:=(c.length:Int)) (by omega) (by omega)
  rw [Int.toNat_natCast] at mk;obtain ⟨H11,e11⟩:∃ H11,H11 = H10.newExact ((List.replicate c.length (0:Int)).map fun z => Value.int .i64 z) 3:=⟨_,rfl⟩
  have k11:Keep H10 H11:=by rw [e11]; exact Keep.newExact _ _ _
  have ow11:Own H11 H10.size 3 ((List.replicate c.length (0:Int)).map fun z => Value.int .i64 z):=by rw [e11]; exact Own.new _ _ _
  rw [← e11] at mk;have lo11:=k11.low lo10;have g11:=k11.grp g10;have hlx:=hl.keep K10;have hrlt:=hlx.lt hnp;refine Zaaw Tryz.func13 rfl (Nat.le_of_ble_eq_true rfl) (hS.no rfl _ _) ?_
  rw [Tryz.ntmps13,Tryz.results13];clear s7 qe qt qm owe owt owm e11
  repeat' (first | simp only [↓Zabs,↓Zabn,↓Zabp,↓Zabr,↓Zaae,↓Zaaf,↓Zabm,↓Zabq,↓Zacj,↓Zaci,↓Zacd,↓Zaag,↓Zacb,↓Zaca,↓Zabw,↓Zaco,↓Zaaq,↓Zaaj,↓Zaah,↓Zaap,↓Zaas,↓Zaak,↓bxOp_makeSlice,↓Zaam,↓Zaat,↓Zaao,↓Zacl,↓bxPut,↓Zabk,↓Zabl,↓Zaad,↓blockQ_ret,↓Zabi,↓Zacm,↓Zacn,↓Zacp,↓Zaba,↓Zaay,↓Zaaz,Zack,Zaab,Zabd,Zabt,Zacg,Zabg,List.map_cons,List.map_nil,List.nil_append,List.append_nil,↓reduceIte,Nat.reduceEqDiff,Nat.reduceLT, *,argF,List.getD_cons_zero,List.getD_cons_succ,lenI] | (with_reducible first | refine Zabv (by assumption) (by decide +kernel) ?_ | refine Zabu (by decide +kernel) ?_ | refine Zacc (by decide +kernel) ?_ | refine Zabx ?_))
  clear f1 f2 f3 f4 al1 al2 al3 st1 st2 st3 ld1 ld2 mk;refine sxL_of (fun m ρ X => ∃ (k:Nat) (lv:Value),m = c.length - k ∧ k ≤ c.length ∧ Keep H11 X ∧ Grp X ∧ LstG (intE .i64) 3 H11.size X lv (castN (List.range k)) ∧ ρ 1 = .int .i64 e ∧ ρ 2 = .slice va c.length vc ∧ ρ 14 = .int .i64 (c.length:Int) ∧ ρ 15 = .slice (some ⟨H10.size,0,none⟩) c.length c.length ∧ ρ 16 = .int .i64 (factN k) ∧ ρ 17 = lv ∧ ρ 18 = .int .i64 (k:Int))
    ⟨0,.slice none 0 0,rfl,Nat.zero_le _,Keep.refl _,g11,LstG.nil,rfl,rfl,rfl,rfl,rfl,rfl,rfl⟩ ?_
  rintro m ρ X ⟨k,lv,rfl,hk,kX,gX,hlst,e1,e2,e14,e15,e16,e17,e18⟩;have hLX:=kX.low lo11
  by_cases hlt:k < c.length
  · have hlt':(k:Int) < (c.length:Int):=by omega
    have hw:IntKind.i64.wrap ((k:Int) + 1) = ((k + 1:Nat):Int):=IntWalk.i64_in _ (by omega)
    have hfs:=factN_small (k + 1) (by omega)
    have hfe:factN k * ((k + 1:Nat):Int) = factN (k + 1):=by rw [factN_succ,Int.mul_comm]
    have hw2:IntKind.i64.wrap (factN k * ((k + 1:Nat):Int)) = factN (k + 1):=by rw [hfe]; exact IntWalk.i64_in _ (by omega)
    have m1:IntKind.i64.min = -9223372036854775808:=by decide
    have m2:IntKind.i64.max = 9223372036854775807:=by decide
    have hob:=hlst.push (P:=Tryz.prog) (ts:=#[22,22]) okI1 (stable_int _ 0) gX kX.size (x:=(k:Int)) (es:=[.int .i64 (k:Int)]) ⟨rfl,by rw [m1]; omega,by rw [m2]; omega⟩ rfl (by rw [castN_len,List.length_range]; omega) 3
    obtain ⟨v2,X2,ap2,l2,gr2⟩:=hob;have hcr:castN (List.range k) ++ [(k:Int)] = castN (List.range (k + 1)):=by unfold castN; rw [List.range_succ,List.map_append]; rfl
    rw [hcr] at l2;have bs2:=bsI X (k:Int);have kX2:=gr2.base H11 g11 kX (Nat.le_refl _);have gX2:=gr2.grp gX;clear hlst kX gX hcr gr2 hfs hfe m1 m2 K10 k11 hc hs hsm hp ow11 hlx
    repeat' (first | simp only [↓Zabs,↓Zabp,↓Zabr,↓Zaae,↓Zabm,↓Zabo,↓Zacj,↓Zaci,↓Zaco,↓Zaaq,↓Zaaj,↓Zaal,↓Zaak,↓Zaai,↓bxPut,↓Zabk,↓Zabj,↓Zaad,↓Zaac,↓Zabf,↓Zabe,↓Zacp,↓Zaba,↓Zaay,Zack,Zaab,Zabd,Zach,List.map_cons,List.map_nil,↓reduceIte,Nat.reduceEqDiff,Nat.reduceLT,dec_T,true_and, *])
    exact ⟨c.length - (k + 1),by omega,k + 1,v2,rfl,by omega,l2,rfl,rfl,rfl⟩
  have hlt':¬ (k:Int) < (c.length:Int):=by omega
  have hke:k = c.length:=Nat.le_antisymm hk (Nat.not_lt.1 hlt);rw [hke] at hlst e16;have hrr:∀ i,i < c.length → (List.replicate c.length (0:Int)).getD i 0 = 0:=fun i _ => getD_repl0 _ _
  have hp8:c.length < 8:=by omega
  have hob:=rRun_runs hS c va vc r o H10.size (by omega) hc c.length (List.range c.length) e (List.replicate c.length 0) lv H11.size X (by simp) hp8 (fun x hx => List.mem_range.1 hx) hlst ow11.lt ((hl.keep (K10.trans k11)).keep kX) (fun _ => Nat.ne_of_lt hrlt) (ow11.keep kX) (by simp) gX hLX (by omega) (fun i hi => by
    rw [hrr i hi,RSum_run hp8 e hi];have h1:=(VR_bound c hp8 c.length 0 e (zeros c.length) i (Nat.two_pow_pos _) (cnt_all _) hi (by simp [zeros])).2 (by simp)
    have h2:=DR_fact c.length hp8;have h3:=hc _ (Zabb (d:=0) hi);have h4:DR c.length c.length 0 * c.getD i 0 ≤ 5040 * 100000:=Int.mul_le_mul h2.2 h3.2 h3.1 (by omega)
    have hBB:BB = 1000000000000:=rfl;unfold RunV
    omega)
  obtain ⟨H12,sums,R12,x12,o12,sl12,p12⟩:=hob;have f5:=R12.bx;have k12:=x12.base H10 g10 (k11.trans kX) (Nat.le_refl _);have g12:=x12.grp gX;have lo12:=x12.low hLX;have hsr:∀ i,i < c.length → sums.getD i 0 = RunV e c i:=fun i hi => by rw [p12 i hi,hrr i hi,RSum_run hp8 e hi,Int.zero_add]
  have hob:=run_good hp sl12 hsr;obtain ⟨hgood,hrunR⟩:=hob;rw [DR_eq hp8 c.length 0 (Nat.two_pow_pos _) (cnt_all _)] at hgood hrunR;have hfn:=factN_small c.length hp8;have ss1:sums.length ≤ c.length:=by omega
  have ss2:c.length ≤ sums.length:=by omega
  clear hlst hke hlt kX gX ow11 p12 R12 x12 hrr hlx hrlt hLX
  repeat' (first | simp only [↓Zabs,↓Zabp,↓Zabr,↓Zaae,↓Zabm,↓Zabo,↓Zacj,↓Zaci,↓Zaco,↓Zaaq,↓Zaaj,↓Zaal,↓Zaak,↓Zaai,↓bxPut,↓Zabk,↓Zabj,↓Zaad,↓Zaac,↓Zabf,↓Zabe,↓Zacp,↓Zaba,↓Zaay,Zack,Zaab,Zabd,Zacg,List.map_cons,List.map_nil,List.append_nil,↓reduceIte,Nat.reduceEqDiff,Nat.reduceLT,dec_F, *])
  clear f5 e1 e2 e17 e18;refine sxL_of (fun m ρ X => ∃ (k:Nat) (lv:Value),m = c.length - k ∧ k ≤ c.length ∧ Keep H12 X ∧ Grp X ∧ LstG (qdE (factN c.length)) 53 H12.size X lv (sums.take k) ∧ ρ 14 = .int .i64 (c.length:Int) ∧ ρ 15 = .slice (some ⟨H10.size,0,none⟩) c.length c.length ∧ ρ 16 = .int .i64 (factN c.length) ∧ ρ 19 = lv ∧ ρ 20 = .int .i64 (k:Int))
    ⟨0,.slice none 0 0,rfl,Nat.zero_le _,Keep.refl _,g12,LstG.nil,e14,e15,e16,rfl,rfl⟩ ?_
  clear e14 e15 e16 ρ;rintro m ρ X ⟨k,lv,rfl,hk,kX,gX,hlst,e14,e15,e16,e19,e20⟩;have hLX:=kX.low lo12
  by_cases hlt:k < c.length
  · have hlt':(k:Int) < (c.length:Int):=by omega
    have hw:IntKind.i64.wrap ((k:Int) + 1) = ((k + 1:Nat):Int):=IntWalk.i64_in _ (by omega)
    have oX:=o12.keep kX;have rds:=ownI_rd oX (k:=k) (by omega)
    have ixs:aIndexAt Tryz.prog 22 (.slice (some ⟨H10.size,0,none⟩) c.length c.length) (.int .i64 (k:Int)) = some (.pointer (some ⟨H10.size,k,none⟩)):=by
      rw [ixI,if_pos ⟨by omega,hlt'⟩,Int.toNat_natCast,Nat.mul_one,Nat.zero_add]
    have hrk:=hgood.rng k hlt;have hck:=hc _ (Zabb (d:=0) hlt);have hbd:c.getD k 0 * factN c.length ≤ 100000 * 5040:=Int.mul_le_mul hck.2 hfn.2 (by omega) (by omega)
    have hob:=Frac_any hS (sums.getD k 0) (factN c.length) X gX hLX (by omega) (by omega) (by omega)
    obtain ⟨X1,vx,k1,g1,q1,R1⟩:=hob;have f1:=R1.bx;have hln:(sums.take k).length = k:=by rw [List.length_take]; omega
    have hob:=pushQ g1 (hlst.keep k1) (Nat.le_trans kX.size k1.size) q1 (by omega)
    obtain ⟨X2,v2,X3,b2,a2,l3,gr⟩:=hob;rw [← take_snoc (by omega)] at l3
    have kX3:=gr.base H12 g12 (kX.trans k1) (Nat.le_refl _);have gX3:=gr.grp g1;clear hlst kX gX k1 g1 q1 R1 gr hrk hck hbd oX o12 K10 k11 k12 hc hs hsm hp hgood hrunR hsr
    repeat' (first | simp only [↓Zabs,↓Zabp,↓Zabr,↓Zaae,↓Zabm,↓Zabo,↓Zacj,↓Zaci,↓Zaco,↓Zaaq,↓Zaaj,↓Zaal,↓Zaap,↓Zaak,↓Zaan,↓Zaat,↓Zaai,↓bxPut,↓Zabk,↓Zabj,↓Zaad,↓Zaac,↓Zabf,↓Zabe,↓Zacp,↓Zaba,↓Zaay,↓Zaaz,Zack,Zaab,Zabd,Zabt,Zach,List.map_cons,List.map_nil,List.nil_append,List.append_nil,↓reduceIte,Nat.reduceEqDiff,Nat.reduceLT,dec_T,true_and,one1,Option.bind_some, *,ldI,one1])
    exact ⟨c.length - (k + 1),by omega,k + 1,v2,rfl,by omega,l3,rfl,rfl⟩
  have hlt':¬ (k:Int) < (c.length:Int):=by omega
  have hke:k = c.length:=Nat.le_antisymm hk (Nat.not_lt.1 hlt);rw [hke,List.take_of_length_le ss1] at hlst;have hmx:Go.maxLen = 9223372036854775807:=rfl;have hob:=hlst.sl (by omega)
  obtain ⟨r',hsl,_⟩:=hob;have hpost:PostRl c 4 e H lv X:=by
    refine ⟨factN c.length,sums,r',0,by omega,sl12,hgood.rng,?_,(K10.trans k12).trans kX,gX,hsl⟩
    unfold Awd;rw [if_neg (by omega),if_neg (by omega),if_neg (by omega),if_neg (by omega)]
    exact hrunR
  clear hlst hke hlt kX gX K10 k11 k12 hc hs hsm hp hgood hrunR hsr hsl o12
  repeat' (first | simp only [↓Zabs,↓Zabp,↓Zabr,↓Zaae,↓Zabm,↓Zabo,↓Zacj,↓Zaci,↓Zaco,↓Zaaq,↓Zaaj,↓Zaal,↓Zaap,↓Zaak,↓Zaan,↓Zaat,↓Zaai,↓bxPut,↓Zabk,↓Zabj,↓Zaad,↓Zaac,↓Zabf,↓Zabe,↓Zacp,↓Zaba,↓Zaay,↓Zaaz,Zack,Zaab,Zabd,Zabt,Zacg,List.nil_append,↓reduceIte,Nat.reduceEqDiff,Nat.reduceLT,dec_F, *])
end Go.Proofs.YtpeoleimmabceaaGreat
