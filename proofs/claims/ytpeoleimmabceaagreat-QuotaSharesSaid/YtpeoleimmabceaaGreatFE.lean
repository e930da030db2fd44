/- Share, by the reference; both are one. -/
import Derived.Test.YtpeoleimmabceaaGreatFC
import Derived.Test.YtpeoleimmabceaaGreatFD
set_option linter.unusedVariables false
set_option linter.unusedSimpArgs false
set_option linter.unusedSectionVars false

namespace Go.Proofs.YtpeoleimmabceaaGreat
open Go Go.AM
set_option maxRecDepth 10000

theorem lcmOf_min {m:Nat}:∀ {xs:List (Int × Int)},(∀ x ∈ xs,x.2.toNat ∣ m) → lcmOf xs ∣ m:=by
  have h:∀ (l:List (Int × Int)) (a:Nat),a ∣ m → (∀ x ∈ l,x.2.toNat ∣ m) → l.foldl (fun a x => Nat.lcm a x.2.toNat) a ∣ m:=by
    intro l
    induction l with
    | nil => intro a h0 _; exact h0
    | cons x l ih => intro a h0 hl; exact ih _ (Nat.lcm_dvd h0 (hl x (List.mem_cons_self ..))) fun y hy => hl y (List.mem_cons_of_mem _ hy)
  intro xs hx;exact h xs 1 (Nat.one_dvd m) hx
theorem den_dvd {y1 y2 w D:Int} (h2:0 < y2) (hg:y1.natAbs.gcd y2.natAbs = 1) (h:y1 * D = w * y2):y2.toNat ∣ D.natAbs:=by
  have h1:y2.natAbs ∣ y1.natAbs * D.natAbs:=by
    rw [← Int.natAbs_mul,h,Int.natAbs_mul]; exact Nat.dvd_mul_left _ _
  have h3:y2.natAbs.Coprime y1.natAbs:=by rw [Nat.Coprime,Nat.gcd_comm]; exact hg
  have h4:=h3.dvd_of_dvd_mul_left h1;rwa [show y2.toNat = y2.natAbs by omega]
theorem parts_one {ys:List (Int × Int)} {w:List Int} {z:Int} (hl:w.length = ys.length) (hy:∀ i,i < ys.length → 0 < (ys.getD i default).2 ∧ (ys.getD i default).1.natAbs.gcd (ys.getD i default).2.natAbs = 1 ∧ (ys.getD i default).1 * z = w.getD i 0 * (ys.getD i default).2) (hz:1 ≤ z) (hw:∀ x ∈ w,0 ≤ x) (hg:Q.gcdAll z w = 1) :
    (ys.map fun x => x.1 * ((lcmOf ys:Int) / x.2)) = w ∧ (lcmOf ys:Int) = z:=by
  have hd:∀ x ∈ ys,x.2.toNat ∣ z.natAbs:=all_of (d:=default) fun i hi => by
    obtain ⟨h1,h2,h3⟩:=hy i hi;exact den_dvd h1 h2 h3
  have hp:0 < lcmOf ys:=lcmOf_pos (all_of (d:=default) fun i hi => (hy i hi).1)
  obtain ⟨g,hg2⟩:=lcmOf_min hd;have hzz:z = (lcmOf ys:Int) * (g:Int):=by
    rw [← Int.natCast_mul,← hg2]; omega
  have hg0:0 < g:=by
    rcases Nat.eq_zero_or_pos g with h | h
    · subst h; simp at hzz; omega
    · exact h
  have hx:∀ i,i < ys.length → w.getD i 0 = (g:Int) * ((ys.getD i default).1 * ((lcmOf ys:Int) / (ys.getD i default).2)):=fun i hi => by
    obtain ⟨h1,h2,h3⟩:=hy i hi;obtain ⟨q,hq⟩:=(lcmOf_dvd ys ys.length).2 i hi hi;rw [List.take_length] at hq;have hq2:(lcmOf ys:Int) = (ys.getD i default).2 * (q:Int):=by
      rw [hq,Int.natCast_mul,Int.toNat_of_nonneg (by omega)]
    rw [hq2,Int.mul_ediv_cancel_left _ (by omega)]
    have h4:w.getD i 0 * (ys.getD i default).2 = ((g:Int) * ((ys.getD i default).1 * (q:Int))) * (ys.getD i default).2:=by
      rw [← h3,hzz,hq2]; ac_rfl
    exact Int.eq_of_mul_eq_mul_right (by omega) h4
  have hm:(ys.map fun x => x.1 * ((lcmOf ys:Int) / x.2)).length = ys.length:=by simp
  have hat:∀ i,i < ys.length → (ys.map fun x => x.1 * ((lcmOf ys:Int) / x.2)).getD i 0 = (ys.getD i default).1 * ((lcmOf ys:Int) / (ys.getD i default).2):=fun i hi => by
    rw [List.getD_eq_getElem?_getD,List.getElem?_map,List.getElem?_eq_getElem hi,List.getD_eq_getElem?_getD,List.getElem?_eq_getElem hi]; rfl
  have hwm:w = (ys.map fun x => x.1 * ((lcmOf ys:Int) / x.2)).map fun x => (g:Int) * x:=list_is (fun i => w.getD i 0) rfl (by simp [hl]) (fun i hi => rfl) (fun i hi => by
    rw [map_getD (f:=fun x => (g:Int) * x) (by rw [hm]; omega),hat i (by omega),hx i (by omega)])
  have hnn:∀ x ∈ (ys.map fun x => x.1 * ((lcmOf ys:Int) / x.2)),0 ≤ x:=all_of (d:=0) fun i hi => by
    have hi:i < ys.length:=by simpa using hi
    have h1:=hx i hi;have h2:=hw _ (Zabb (d:=0) (show i < w.length by omega))
    rw [hat i hi];rcases Int.lt_or_le ((ys.getD i default).1 * ((lcmOf ys:Int) / (ys.getD i default).2)) 0 with h3 | h3
    · have:=Int.mul_neg_of_pos_of_neg (show (0:Int) < (g:Int) by omega) h3; omega
    · exact h3
  have hgm:=gcdAll_mul (g:Int) (by omega) (ys.map fun x => x.1 * ((lcmOf ys:Int) / x.2)) (lcmOf ys:Int) (by omega) hnn
  rw [← hwm,Int.mul_comm,← hzz,hg] at hgm;have hg1:(g:Int) = 1:=by
    have hpos:=Q.gcdAll_pos (lcmOf ys:Int) (ys.map fun x => x.1 * ((lcmOf ys:Int) / x.2)) (by omega)
    have h5:(g:Int) * 1 ≤ (g:Int) * Q.gcdAll (lcmOf ys:Int) (ys.map fun x => x.1 * ((lcmOf ys:Int) / x.2)):=Int.mul_le_mul_of_nonneg_left (by omega) (by omega)
    omega
  rw [hg1] at hwm hzz;simp only [Int.one_mul,List.map_id',Int.mul_one] at hwm hzz;exact ⟨hwm.symm,hzz.symm⟩
def PostRS (H:Heap) (rule e:Int) (c:List Int) (u:Value) (H':Heap):Prop:=
  ∃ v z f,u = .tuple ⟨[.agg ⟨[v,.int .i64 z]⟩,.int .i64 f]⟩ ∧ Keep H H' ∧ Grp H' ∧ (¬ (Q.Prob e c ∧ isRule rule) → f = 2 ∧ v = .slice none 0 0 ∧ z = 0) ∧
    (Q.Prob e c ∧ isRule rule → f = 0 ∧ ∃ w r o,SlI .i64 H' v w r o ∧ (0 < w.length → H.size ≤ r) ∧ ∀ w2 z2,Q.Shr e c w2 z2 → Awd RunR rule e c w2 z2 → w = w2 ∧ z = z2)

variable {S:AM.Sys} (hS:Only S 5)
include hS

theorem rRule_runs (rule e:Int) (v:Value) (c:List Int) (r o:Nat) (H:Heap) (hg:Grp H) (hL:H.low ≤ H.size) (hl:SlI .i64 H v c r o) (hp:Q.Prob e c) (hr:isRule rule) :
    ∃ u H',Runs Tryz.prog S (.fn 13) [.int .i64 rule,.int .i64 e,v] H u H' ∧ PostRl c rule e H u H':=by
  have:rule = 0 ∨ rule = 1 ∨ rule = 2 ∨ rule = 3 ∨ rule = 4:=by unfold isRule at hr; omega
  rcases this with rfl | rfl | rfl | rfl | rfl
  · exact rRule0_runs hS e v c r o H hg hL hl hp
  · exact rRule1_runs hS e v c r o H hg hL hl hp
  · exact rRule2_runs hS e v c r o H hg hL hl hp
  · exact rRule3_runs hS e v c r o H hg hL hl hp
  · exact rRule4_runs hS e v c r o H hg hL hl hp

set_option maxHeartbeats 4000000 in
theorem rShare_runs (rule e:Int) (v:Value) (c:List Int) (r o:Nat) (H:Heap) (hg:Grp H) (hL:H.low ≤ H.size) (hl:SlI .i64 H v c r o) :
    ∃ u H',Runs Tryz.prog S (.fn 6) [.int .i64 rule,.int .i64 e,v] H u H' ∧ PostRS H rule e c u H':=by
  suffices h:WCall Tryz.prog S (.fn 6) [.int .i64 rule,.int .i64 e,v] H (fun u H' => PostRS H rule e c u H') by
    obtain ⟨u,H',hr,h⟩:=h; exact ⟨u,H',hr,h⟩
  obtain ⟨H1,e1,k1,s1,-,-⟩:=box1 H [.slice none 0 0,.int .i64 0] 26;have ow1:Own H1 H.size 26 [.slice none 0 0,.int .i64 0]:=e1 ▸ Own.new H _ _;have al1:aAlloc Tryz.prog H 26 = some (.pointer (some ⟨H.size,0,none⟩),H1):=by rw [alP,e1]
  have lo1:=k1.low hL;have g1:=k1.grp hg;have f2:=(Q.Problem_runs hS e _ c r o H1 lo1 (hl.keep k1)).bx
  by_cases hok:Q.Prob e c ∧ isRule rule
  case neg =>
    obtain ⟨H3,st3,o3,z3,x3,k03⟩:=stPX ow1 rfl none 0 0 0 k1 (Nat.le_refl _);have rd3:=(ownP o3).1;have hpo:PostRS H rule e c (.tuple ⟨[.agg ⟨[.slice none 0 0,.int .i64 0]⟩,.int .i64 2]⟩) H3:=⟨_,0,2,rfl,k03,k03.grp hg,fun _ => ⟨rfl,rfl,rfl⟩,fun h => absurd h hok⟩
    clear hl ow1 o3 z3 x3 k03 k1 s1 e1 g1
    by_cases hp:Q.Prob e c
    · have d0:decide (Q.Prob e c) = true:=decide_eq_true hp;have hr:¬ isRule rule:=fun h => hok ⟨hp,h⟩
      unfold isRule at hr
      by_cases hr0:rule < 0
      · have d1:decide (rule < 0) = true:=decide_eq_true hr0;clear hok hr hp hr0;refine Zaaw Tryz.func6 rfl (Nat.le_of_ble_eq_true rfl) (hS.no rfl _ _) ?_
        rw [Tryz.ntmps6,Tryz.results6]
        repeat' (first | simp only [↓Zabs,↓Zabp,↓Zabr,↓Zaae,↓Zabq,↓Zacj,↓Zaci,↓Zaco,↓Zaav,↓Zaaq,↓Zaaj,↓Zaar,↓Zaah,↓bxOp_build,↓Zaas,↓Zaak,↓bxOp_un,↓Zaat,↓Zacl,↓bxPut,↓Zabk,↓Zabl,↓Zabi,↓Zacm,↓Zacn,↓Zaau,↓Zacp,↓Zaba,↓Zaay,↓Zaaz,↓dstAt,↓Zabc,Zack,Zaab,Zabd,una_nt,aPick_true,aPick_false,Zabt,sxGuardB_ft,sxGuardB_ff,Zach,packRes_two,List.map_cons,List.map_nil,List.nil_append,List.append_nil,↓reduceIte,Nat.reduceEqDiff,Nat.reduceLT,Option.map_some, *,argF,List.getD_cons_zero,List.getD_cons_succ,ldP,bdP0])
      · have d1:decide (rule < 0) = false:=decide_eq_false hr0;have d2:decide (4 < rule) = true:=decide_eq_true (by omega)
        clear hok hr hp hr0;refine Zaaw Tryz.func6 rfl (Nat.le_of_ble_eq_true rfl) (hS.no rfl _ _) ?_
        rw [Tryz.ntmps6,Tryz.results6]
        repeat' (first | simp only [↓Zabs,↓Zabp,↓Zabr,↓Zaae,↓Zabq,↓Zacj,↓Zaci,↓Zaco,↓Zaav,↓Zaaq,↓Zaaj,↓Zaar,↓Zaah,↓bxOp_build,↓Zaas,↓Zaak,↓bxOp_un,↓Zaat,↓Zacl,↓bxPut,↓Zabk,↓Zabl,↓Zabi,↓Zacm,↓Zacn,↓Zaau,↓Zacp,↓Zaba,↓Zaay,↓Zaaz,↓dstAt,↓Zabc,Zack,Zaab,Zabd,una_nt,aPick_false,Zabt,sxGuardB_ff,Zach,packRes_two,List.map_cons,List.map_nil,List.nil_append,List.append_nil,↓reduceIte,Nat.reduceEqDiff,Nat.reduceLT,Option.map_some, *,argF,List.getD_cons_zero,List.getD_cons_succ,ldP,bdP0])
    · have d0:decide (Q.Prob e c) = false:=decide_eq_false hp;clear hok hp;refine Zaaw Tryz.func6 rfl (Nat.le_of_ble_eq_true rfl) (hS.no rfl _ _) ?_
      rw [Tryz.ntmps6,Tryz.results6]
      repeat' (first | simp only [↓Zabs,↓Zabp,↓Zabr,↓Zaae,↓Zabq,↓Zacj,↓Zaci,↓Zaco,↓Zaav,↓Zaaq,↓Zaaj,↓Zaar,↓Zaah,↓bxOp_build,↓Zaas,↓Zaak,↓bxOp_un,↓Zaat,↓Zacl,↓bxPut,↓Zabk,↓Zabl,↓Zabi,↓Zacm,↓Zacn,↓Zaau,↓Zacp,↓Zaba,↓Zaay,↓Zaaz,↓dstAt,↓Zabc,Zack,una_nf,aPick_true,Zabt,sxGuardB_ft,Zach,packRes_two,List.map_cons,List.map_nil,List.nil_append,List.append_nil,↓reduceIte,Nat.reduceEqDiff,Nat.reduceLT,Option.map_some, *,argF,List.getD_cons_zero,List.getD_cons_succ,ldP,bdP0])
  have hp:=hok.1;have hr:=hok.2;have hc:=hp.2.2.1;have d0:decide (Q.Prob e c) = true:=decide_eq_true hp;have d1:decide (rule < 0) = false:=decide_eq_false (by unfold isRule at hr; omega)
  have d2:decide (4 < rule) = false:=decide_eq_false (by unfold isRule at hr; omega)
  obtain ⟨vr,H2,R2,D,ws,rr,oo,hD,hwl,hwr,haw,k2,g2,sw⟩:=rRule_runs hS rule e v c r o H1 g1 lo1 (hl.keep k1) hp hr;have f3:=R2.bx;obtain ⟨ys,sy,hyl,hy⟩:=qd_ql (by omega) sw
  have hyl2:ys.length = c.length:=hyl.trans hwl;have hy2:∀ i,i < ys.length → 0 < (ys.getD i default).2 ∧ (ys.getD i default).1.natAbs.gcd (ys.getD i default).2.natAbs = 1 ∧ (ys.getD i default).1 * D = ws.getD i 0 * (ys.getD i default).2:=fun i hi => by
    have h:=hy i (by omega); exact ⟨h.2.1,h.2.2,h.1⟩
  have hy1:∀ i,i < ys.length → 0 ≤ (ys.getD i default).1 ∧ (ys.getD i default).1 ≤ ws.getD i 0:=fun i hi => by
    obtain ⟨h1,h2,h3⟩:=hy2 i hi;have h4:=hwr i (by omega)
    have h5:=Nat.le_of_dvd (by omega) (den_dvd h1 h2 h3)
    have h6:0 ≤ (ys.getD i default).1:=by
      rcases Int.lt_or_le (ys.getD i default).1 0 with h | h
      · have:=Int.mul_neg_of_neg_of_pos h (show 0 < D by omega)
        have:=Int.mul_nonneg h4.1 (show 0 ≤ (ys.getD i default).2 by omega)
        omega
      · exact h
    refine ⟨h6,?_⟩;have h7:(ys.getD i default).1 * D ≤ ws.getD i 0 * D:=by rw [h3]; exact Int.mul_le_mul_of_nonneg_left (by omega) h4.1
    exact Int.le_of_mul_le_mul_right h7 (by omega)
  have hlc:lcmOf ys ∣ D.natAbs:=lcmOf_min (all_of (d:=default) fun i hi => by obtain ⟨h1,h2,h3⟩:=hy2 i hi; exact den_dvd h1 h2 h3)
  have hlc2:=Nat.le_of_dvd (by omega) hlc
  have hpos:∀ x ∈ ys,0 ≤ x.1 ∧ 0 < x.2:=all_of (d:=default) fun i hi => ⟨(hy1 i hi).1,(hy2 i hi).1⟩
  have hbig:∀ x ∈ ys,x.1 * ((lcmOf ys:Int) / x.2) ≤ 1152921504606846976:=all_of (d:=default) fun i hi => by
    have h1:=hy1 i hi;have h4:=hwr i (by omega)
    have h8:=hc _ (Zabb (d:=0) (show i < c.length by omega))
    have h9:c.getD i 0 * D ≤ 100000 * 1000000:=Int.mul_le_mul h8.2 hD.2 (by omega) (by omega)
    have h10:(lcmOf ys:Int) / (ys.getD i default).2 ≤ 1000000:=Int.le_trans (Int.ediv_le_self _ (by omega)) (by omega)
    have h11:0 ≤ (lcmOf ys:Int) / (ys.getD i default).2:=Int.ediv_nonneg (by omega) (by have:=(hy2 i hi).1; omega)
    have h12:(ys.getD i default).1 * ((lcmOf ys:Int) / (ys.getD i default).2) ≤ 100000000000 * 1000000:=Int.mul_le_mul (by omega) h10 h11 (by omega)
    omega
  obtain ⟨H3,v3,r3,o3,k3,g3,s3,hr3,R3⟩:=Parts_runs hS vr ys rr oo H2 g2 (k2.low lo1) sy (by have:=hp.2.1; omega) hpos (by omega) hbig
  have f4:=R3.bx;have K3:=(k1.trans k2).trans k3;have hv3:=s3.v0;obtain ⟨a3,c3,rfl⟩:=hv3;obtain ⟨H4,st4,o4,z4,x4,k04⟩:=stPX ((ow1.keep k2).keep k3) rfl a3 (ys.map fun x => x.1 * ((lcmOf ys:Int) / x.2)).length c3 (lcmOf ys:Int) K3 (Nat.le_refl _)
  have rd4:=(ownP o4).1;have hsz2:H.size < H2.size:=Nat.lt_of_lt_of_le s1 k2.size;have s4:=sl_keepX s3 x4 (fun h0 => by have:=hr3 (by simpa using h0); omega)
  have hpo:PostRS H rule e c (.tuple ⟨[.agg ⟨[.slice a3 (ys.map fun x => x.1 * ((lcmOf ys:Int) / x.2)).length c3,.int .i64 (lcmOf ys)]⟩,.int .i64 0]⟩) H4:=by
    refine ⟨_,_,0,rfl,k04,k04.grp hg,fun h => absurd hok h,fun _ => ⟨rfl,_,r3,o3,s4,fun h0 => by have:=hr3 (by simpa using h0); omega,fun w2 z2 hsh haw2 => ?_⟩⟩
    have hl2:w2.length = c.length:=hsh.1;refine parts_one (by omega) (fun i hi => ?_) hsh.2.1.1 (all_of (d:=0) fun i hi => (hsh.2.2.1 i hi).1) hsh.2.2.2.2
    obtain ⟨h1,h2,h3⟩:=hy2 i hi;refine ⟨h1,h2,?_⟩;have h4:=awd_same hp hwl hl2 (by omega) hsh.2.1.1 haw haw2 (i:=i) (by omega)
    have h5:((ys.getD i default).1 * z2) * D = (w2.getD i 0 * (ys.getD i default).2) * D:=by
      calc ((ys.getD i default).1 * z2) * D = ((ys.getD i default).1 * D) * z2:=by ac_rfl
        _ = (ws.getD i 0 * z2) * (ys.getD i default).2:=by rw [h3]; ac_rfl
        _ = (w2.getD i 0 * (ys.getD i default).2) * D:=by rw [h4]; ac_rfl
    exact Int.eq_of_mul_eq_mul_right (by omega) h5
  have hlg:∃ nn,nn = (ys.map fun x => x.1 * ((lcmOf ys:Int) / x.2)).length:=⟨_,rfl⟩
  obtain ⟨nn,hnn⟩:=hlg;rw [← hnn] at st4 rd4 hpo f4;clear hl ow1 o4 z4 x4 k04 k1 s1 e1 g1 hok hp hr hc hwl hwr haw k2 g2 sw R2 sy hyl hy hyl2 hy2 hy1 hlc hlc2 hpos hbig k3 g3 s3 hr3 R3 K3 s4 hsz2 hnn hD;refine Zaaw Tryz.func6 rfl (Nat.le_of_ble_eq_true rfl) (hS.no rfl _ _) ?_
  rw [Tryz.ntmps6,Tryz.results6]
  repeat' (first | simp only [↓Zabs,↓Zabp,↓Zabr,↓Zaae,↓Zabq,↓Zacj,↓Zaci,↓Zaco,↓Zaav,↓Zaaq,↓Zaaj,↓Zaar,↓Zaah,↓bxOp_build,↓Zaas,↓Zaak,↓bxOp_un,↓Zaat,↓Zacl,↓bxPut,↓Zabk,↓Zabl,↓Zabi,↓Zacm,↓Zacn,↓Zaau,↓Zacp,↓Zaba,↓Zaay,↓Zaaz,↓dstAt,↓Zabc,Zack,Zaab,Zabd,una_nt,aPick_false,Zabt,sxGuardB_ff,Zacg,packRes_two,List.map_cons,List.map_nil,List.nil_append,List.append_nil,↓reduceIte,Nat.reduceEqDiff,Nat.reduceLT,Option.map_some, *,argF,List.getD_cons_zero,List.getD_cons_succ,ldP])
end Go.Proofs.YtpeoleimmabceaaGreat
