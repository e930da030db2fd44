/- What a rule gives, by the reference. -/
import Derived.Test.YtpeoleimmabceaaGreatFA
set_option linter.unusedVariables false
set_option linter.unusedSimpArgs false
set_option linter.unusedSectionVars false

namespace Go.Proofs.YtpeoleimmabceaaGreat
open Go Go.AM
set_option maxRecDepth 10000

variable {S:AM.Sys} (hS:Only S 5)
include hS

set_option maxHeartbeats 8000000 in
theorem rRule2_runs (e:Int) (v:Value) (c:List Int) (r o:Nat) (H:Heap) (hg:Grp H) (hL:H.low ≤ H.size) (hl:SlI .i64 H v c r o) (hp:Q.Prob e c) :
    ∃ u H',Runs Tryz.prog S (.fn 13) [.int .i64 2,.int .i64 e,v] H u H' ∧ PostRl c 2 e H u H':=by
  suffices h:WCall Tryz.prog S (.fn 13) [.int .i64 2,.int .i64 e,v] H (fun u H' => PostRl c 2 e H u H') by
    obtain ⟨u,H',hr,h⟩:=h; exact ⟨u,H',hr,h⟩
  obtain ⟨v7,r7,o7,H1,ve,H2,Ha,H4,vt,H5,Hb,H7,vm,H8,Hc,H10,K10,g10,s7,qe,qt,qm,owe,owt,owm,f1,f2,al1,st1,f3,al2,st2,ld1,ld2,f4,al3,st3⟩:=rule_pre hS e v c r o H hg hL hl hp;have h7:=hp.2.1;have hc:=hp.2.2.1;have he:=hp.1;have hs:=hp.2.2.2;have hsm:=Q.sum_le 100000 c fun x hx => (hc x hx).2
  have lo10:=K10.low hL;have l20:decide ((2:Int) = 0) = false:=rfl;have l21:decide ((2:Int) = 1) = false:=rfl;have l22:decide ((2:Int) = 2) = true:=rfl;have l23:decide ((2:Int) = 3) = false:=rfl;have hnn:∀ k,0 ≤ (c.take k).sum ∧ (c.take k).sum ≤ c.sum:=Q.sum_take_le c (fun x hx => (hc x hx).1)
  have hs0:0 ≤ c.sum:=by have:=hnn 0; omega
  have hql:=QV.whole qt;obtain ⟨⟨t1,t2,t3,t4,hvt,hbig,_⟩,_⟩:=hql;have owt':=owt;rw [hvt] at owt';have rdn:H10.read H5.size 0 2 = some [t1,t2]:=owt'.read (o:=0) (n:=2) (show 0 + 2 ≤ 4 by omega)
  have hob:=Zero_runs hS _ c.sum _ H10 hbig;obtain ⟨H11,k11,R11⟩:=hob;have f5:=R11.bx;have lo11:=k11.low lo10;have faN (r o:Nat):aFieldAt Tryz.prog 53 0 (.pointer (some ⟨r,o,none⟩)) = some (.pointer (some ⟨r,o + 0,none⟩)):=by kernel_rfl
  by_cases hz:c.sum = 0
  · have dz:decide (c.sum = 0) = true:=decide_eq_true hz;have hpost:PostRl c 2 e H v7 H11:=by
      refine ⟨1,c,r7,o7,by omega,rfl,fun i hi => ?_,?_,K10.trans k11,(K10.trans k11).grp hg,s7.keep k11⟩
      · have:=hc _ (Zabb (d:=0) hi); omega
      · unfold Awd;rw [if_neg (by omega),if_neg (by omega),if_pos rfl]
        intro i hi;have h1:=hc _ (Zabb (d:=0) hi);have h2:=hnn (i + 1);have h3:=hnn i;rw [Q.sum_take_succ c hi] at h2;have h4:c.getD i 0 = 0:=by omega
        rw [h4]; simp
    clear s7 qe qt qm owe owt owt' owm K10 hc hs hsm hl hp hnn hbig hvt R11 k11 g10 hz;refine Zaaw Tryz.func13 rfl (Nat.le_of_ble_eq_true rfl) (hS.no rfl _ _) ?_
    rw [Tryz.ntmps13,Tryz.results13]
    repeat' (first | simp only [↓Zabs,↓Zabn,↓Zabp,↓Zabr,↓Zaae,↓Zaaf,↓Zabm,↓Zabq,↓Zacj,↓Zaci,↓Zacd,↓Zaag,↓Zacb,↓Zaca,↓Zabw,↓Zaco,↓Zaaq,↓Zaaj,↓Zaah,↓Zaap,↓Zaas,↓Zaak,↓bxOp_makeSlice,↓Zaam,↓Zaat,↓Zaao,↓Zacl,↓bxPut,↓Zabk,↓Zabl,↓Zaad,↓blockQ_ret,↓Zabi,↓Zacm,↓Zacn,↓Zacp,↓Zaba,↓Zaay,↓Zaaz,Zack,Zaab,Zabd,Zabt,Zach,Zacg,Zabg,List.map_cons,List.map_nil,List.nil_append,List.append_nil,↓reduceIte,Nat.reduceEqDiff,Nat.reduceLT,dec_T,Nat.add_zero,Option.map_some, *,argF,List.getD_cons_zero,List.getD_cons_succ,ldBig,Nat.add_zero] | (with_reducible first | refine Zabv (by assumption) (by decide +kernel) ?_ | refine Zabu (by decide +kernel) ?_ | refine Zacc (by decide +kernel) ?_ | refine Zabx ?_))
  have dz:decide (c.sum = 0) = false:=decide_eq_false hz;have s11:=s7.keep k11;have g11:=k11.grp g10;have qe1:=qe.keep k11;have qt1:=qt.keep k11;have owe1:=owe.keep k11;have owt1:=owt.keep k11;have hv7:=s7.v0;obtain ⟨a7,c7,rfl⟩:=hv7;have hsp:0 < c.sum:=by omega
  refine Zaaw Tryz.func13 rfl (Nat.le_of_ble_eq_true rfl) (hS.no rfl _ _) ?_
  rw [Tryz.ntmps13,Tryz.results13];clear s7 qe qt qm owe owt owt' owm hl hbig hvt R11 g10 hz hs0
  repeat' (first | simp only [↓Zabs,↓Zabn,↓Zabp,↓Zabr,↓Zaae,↓Zaaf,↓Zabm,↓Zabq,↓Zacj,↓Zaci,↓Zacd,↓Zaag,↓Zacb,↓Zaca,↓Zabw,↓Zaco,↓Zaaq,↓Zaaj,↓Zaah,↓Zaap,↓Zaas,↓Zaak,↓bxOp_makeSlice,↓Zaam,↓Zaat,↓Zaao,↓Zacl,↓bxPut,↓Zabk,↓Zabl,↓Zaad,↓blockQ_ret,↓Zabi,↓Zacm,↓Zacn,↓Zacp,↓Zaba,↓Zaay,↓Zaaz,Zack,Zaab,Zabd,Zabt,Zach,Zacg,Zabg,List.map_cons,List.map_nil,List.nil_append,List.append_nil,↓reduceIte,Nat.reduceEqDiff,Nat.reduceLT,dec_T,Nat.add_zero,Option.map_some, *,argF,List.getD_cons_zero,List.getD_cons_succ,ldBig,Nat.add_zero] | (with_reducible first | refine Zabv (by assumption) (by decide +kernel) ?_ | refine Zabu (by decide +kernel) ?_ | refine Zacc (by decide +kernel) ?_ | refine Zabx ?_))
  clear f1 f2 f3 f4 f5 al1 al2 al3 st1 st2 st3 ld1 ld2 rdn dz;obtain ⟨ws,hws⟩:∃ ws,ws = c.map fun x => e * x:=⟨_,rfl⟩
  have hwl1:ws.length ≤ c.length:=by rw [hws]; simp
  have hwl2:c.length ≤ ws.length:=by rw [hws]; simp
  have hwi:∀ i,i < c.length → ws.getD i 0 = e * c.getD i 0:=fun i hi => by rw [hws,map_getD (f:=fun x => e * x) hi]
  clear hws;refine sxL_of (fun m ρ X => ∃ (k:Nat) (lv:Value),m = c.length - k ∧ k ≤ c.length ∧ Keep H11 X ∧ Grp X ∧ LstG (qdE c.sum) 53 H11.size X lv (ws.take k) ∧ ρ 7 = .slice a7 c.length c7 ∧ ρ 8 = .pointer (some ⟨H2.size,0,none⟩) ∧ ρ 9 = .pointer (some ⟨H5.size,0,none⟩) ∧ ρ 11 = lv ∧ ρ 12 = .int .i64 (k:Int))
    ⟨0,.slice none 0 0,rfl,Nat.zero_le _,Keep.refl _,g11,LstG.nil,rfl,rfl,rfl,rfl,rfl⟩ ?_
  rintro m ρ X ⟨k,lv,rfl,hk,kX,gX,hlst,e7,e8,e9,e11,e12⟩;have hLX:=kX.low lo11
  by_cases hlt:k < c.length
  · have hlt':(k:Int) < (c.length:Int):=by omega
    have hw:IntKind.i64.wrap ((k:Int) + 1) = ((k + 1:Nat):Int):=IntWalk.i64_in _ (by omega)
    have lde:=own_ldQ (owe1.keep kX) (qe1.keep kX);have hob:=qd_at (s11.keep kX) hlt;obtain ⟨x,p,ix1,ldx,qx,_⟩:=hob;have hr:=Keep.relowS X;have sme:Sml e:=⟨by omega,by omega⟩
    have sm1:Sml 1:=⟨by omega,by omega⟩
    have hck:=hc _ (Zabb (d:=0) hlt);have smc:Sml (c.getD k 0):=⟨by omega,by omega⟩
    have smt:Sml c.sum:=⟨by omega,by omega⟩
    have hob:=drawnQ hLX (Mul_all hS ve x e 1 (c.getD k 0) 1 (X.relow X.size) (hr.grp gX) (Nat.le_refl _) (qe1.keep kX).addr qx.addr (by omega) (by omega) sme.lt sm1.lt' smc.lt sm1.lt')
    obtain ⟨y,Xa,Xb,kb,lb,f6,fd6,qy⟩:=hob;have ldt:=own_ldQ ((owt1.keep kX).keep kb) ((qt1.keep kX).keep kb);have hr2:=Keep.relowS Xb;have hec:0 ≤ e * c.getD k 0 ∧ e * c.getD k 0 ≤ 100000 * 100000:=⟨Int.mul_nonneg he.1 hck.1,Int.mul_le_mul he.2 hck.2 hck.1 (by omega)⟩
    have smec:Sml (e * c.getD k 0):=⟨by omega,by omega⟩
    have sm11:Sml (1 * 1):=⟨by omega,by omega⟩
    have hob:=drawnQ lb (Div_all hS y vt (e * c.getD k 0) (1 * 1) c.sum 1 (Xb.relow Xb.size) (hr2.grp (kb.grp gX)) (Nat.le_refl _) qy.addr ((qt1.keep kX).keep kb).addr (by omega) (by omega) smec.lt sm11.lt' smt.lt sm1.lt' hsp)
    obtain ⟨z,Xc,Xd,kd,ld,f7,fd7,qz⟩:=hob;have qz:=qz.as (n2:=ws.getD k 0) (d2:=c.sum) (by omega) (by rw [hwi k hlt]; simp)
    have hln:(ws.take k).length = k:=by rw [List.length_take]; omega
    have hob:=pushQD (kd.grp (kb.grp gX)) ld ((hlst.keep kb).keep kd) (Nat.le_trans kX.size (Nat.le_trans kb.size kd.size)) qz (by omega)
    obtain ⟨X1,X2,w2,X3,X4,bs,fd3,l2,ap,rl,l4,base,g4,ge4,low4⟩:=hob;rw [← take_snoc (by omega)] at l4
    have kX4:=base H11 g11 ((kX.trans kb).trans kd) (Nat.le_refl _);clear hlst kX gX kb kd qz qx qy base ge4 hr hr2 sme sm1 smc smt smec sm11 hec hck K10 k11 s11 hc hs hsm hp hnn owe1 owt1 qe1 qt1 hwi he hsp
    repeat' (first | simp only [↓Zabs,↓Zabn,↓Zabp,↓Zabr,↓Zaae,↓Zabm,↓Zabo,↓Zacj,↓Zaci,↓Zacd,↓Zaag,↓Zacb,↓sxDL_assign,↓sxDL_buildSlice,↓Zaca,↓Zabz,↓sxD_same,↓Zaco,↓Zaaq,↓Zaaj,↓Zaal,↓Zaap,↓Zaak,↓Zaan,↓Zaat,↓Zaao,↓Zaai,↓bxPut,↓Zabk,↓Zabj,↓Zaad,↓Zaac,↓Zabf,↓Zabe,↓Zacp,↓Zaba,↓Zaay,↓Zaaz,Zack,Zaab,Zabd,Zabt,Zach,List.map_cons,List.map_nil,List.nil_append,List.append_nil,↓reduceIte,Nat.reduceEqDiff,Nat.reduceLT,dec_T,true_and,Zaaa, *,lenQ] | (with_reducible first | refine Zabv (by assumption) (by decide +kernel) ?_ | refine Zabu (by decide +kernel) ?_ | refine Zacc (by decide +kernel) ?_ | refine Zabx ?_))
    exact ⟨c.length - (k + 1),by omega,k + 1,w2,rfl,by omega,l4,rfl,rfl⟩
  have hlt':¬ (k:Int) < (c.length:Int):=by omega
  have hke:k = c.length:=Nat.le_antisymm hk (Nat.not_lt.1 hlt);rw [hke,List.take_of_length_le (by omega)] at hlst
  have hmx:Go.maxLen = 9223372036854775807:=rfl;have hob:=hlst.sl (by omega)
  obtain ⟨r',hsl,_⟩:=hob;have hwlx:ws.length = c.length:=by omega
  have hob:=Good.part hc (by omega) he.1 hs
  obtain ⟨hgood,hawd⟩:=hob;have hmax:max 1 c.sum = c.sum:=by omega
  rw [hmax] at hgood hawd;have hwm:ws = c.map fun x => e * x:=list_is (fun i => e * c.getD i 0) hwlx (by simp) hwi (fun i hi => by rw [map_getD (f:=fun x => e * x) hi])
  have hpost:PostRl c 2 e H lv X:=by
    refine ⟨c.sum,ws,r',0,by omega,hwlx,fun i hi => by rw [hwm]; exact hgood.rng i hi,?_,(K10.trans k11).trans kX,gX,hsl⟩
    unfold Awd;rw [if_neg (by omega),if_neg (by omega),if_pos rfl,hmax,hwm]
    exact hawd
  clear hlst hke hlt s11 kX gX K10 k11 hc hs hsm hp hnn owe1 owt1 qe1 qt1 hwi hgood hawd hwm hsl
  repeat' (first | simp only [↓Zabs,↓Zabn,↓Zabp,↓Zabr,↓Zaae,↓Zabm,↓Zabo,↓Zacj,↓Zaci,↓Zacd,↓Zaag,↓Zacb,↓sxDL_assign,↓sxDL_buildSlice,↓Zaca,↓Zabz,↓Zaco,↓Zaaq,↓Zaaj,↓Zaal,↓Zaap,↓Zaak,↓Zaan,↓Zaat,↓Zaao,↓Zaai,↓bxPut,↓Zabk,↓Zabj,↓Zaad,↓Zaac,↓Zabf,↓Zabe,↓Zacp,↓Zaba,↓Zaay,↓Zaaz,Zack,Zaab,Zabd,Zabt,Zacg,List.nil_append,↓reduceIte,Nat.reduceEqDiff,Nat.reduceLT,dec_F, *,lenQ] | (with_reducible first | refine Zabv (by assumption) (by decide +kernel) ?_ | refine Zabu (by decide +kernel) ?_ | refine Zacc (by decide +kernel) ?_ | refine Zabx ?_))
end Go.Proofs.YtpeoleimmabceaaGreat
