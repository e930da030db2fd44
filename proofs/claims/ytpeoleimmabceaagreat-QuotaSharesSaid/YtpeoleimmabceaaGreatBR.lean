/- The Parts of fractions, by the reference. -/
import Derived.Test.YtpeoleimmabceaaGreatBM
set_option linter.unusedVariables false
set_option linter.unusedSimpArgs false
set_option linter.unusedSectionVars false

namespace Go.Proofs.YtpeoleimmabceaaGreat
open Go Go.AM
set_option maxRecDepth 10000

variable {S:AM.Sys} (hS:Only S 5)
include hS

theorem Parts_runs (v:Value) (xs:List (Int × Int)) (r o:Nat) (H:Heap) (hg:Grp H) (hL:H.low ≤ H.size) (hl:SlE qE H v xs r o) (hs:xs.length ≤ 1000) (hp:∀ x ∈ xs,0 ≤ x.1 ∧ 0 < x.2) (hb:lcmOf xs ≤ 1152921504606846976)
    (hn:∀ x ∈ xs,x.1 * ((lcmOf xs:Int) / x.2) ≤ 1152921504606846976) :
    ∃ H' v' r' o',Keep H H' ∧ Grp H' ∧ SlI .i64 H' v' (xs.map fun x => x.1 * ((lcmOf xs:Int) / x.2)) r' o' ∧ (0 < xs.length → H.size ≤ r') ∧ Runs Tryz.prog S (.fn 12) [v] H (.agg ⟨[v',.int .i64 (lcmOf xs)]⟩) H':=by
  suffices h:WCall Tryz.prog S (.fn 12) [v] H (fun u H' => ∃ v' r' o',u = .agg ⟨[v',.int .i64 (lcmOf xs)]⟩ ∧ Keep H H' ∧ Grp H' ∧ SlI .i64 H' v' (xs.map fun x => x.1 * ((lcmOf xs:Int) / x.2)) r' o' ∧ (0 < xs.length → H.size ≤ r')) by
    obtain ⟨_,H',hr,v',r',o',rfl,h1,h2,h3,h4⟩:=h; exact ⟨H',v',r',o',h1,h2,h3,h4,hr⟩
  obtain ⟨a,cap,rfl⟩:=hl.v0;obtain ⟨Ha,e1,k1,s1,-,-⟩:=box1 H [.slice none 0 0,.int .i64 0] 26;have ow2:Own Ha H.size 26 [.slice none 0 0,.int .i64 0]:=e1 ▸ Own.new H _ _;have gA:=k1.grp hg;have lA:=k1.low hL;have hLp:=lcmOf_pos (xs:=xs) fun x hx => (hp x hx).2
  refine Zaaw Tryz.func12 rfl (Nat.le_of_ble_eq_true rfl) (hS.no rfl _ _) ?_
  rw [Tryz.ntmps12,Tryz.results12]
  repeat' (first | simp only [↓Zabp,↓Zabr,↓Zaaf,↓Zabm,↓Zabq,↓Zacj,↓Zaci,↓Zaco,↓Zaaq,↓Zaaj,↓Zaah,↓bxOp_build,↓Zaap,↓Zaas,↓Zacl,↓bxPut,↓Zabk,↓Zabi,↓Zacm,↓Zaau,↓Zaba,↓Zaay,Zack,Zabg,Nat.reduceLT, *,alP])
  refine sxL_of (fun m ρ H2 => ∃ k:Nat,m = xs.length - k ∧ k ≤ xs.length ∧ Keep Ha H2 ∧ ρ 0 = .slice a xs.length cap ∧ ρ 2 = .pointer (some ⟨H.size,0,none⟩) ∧ ρ 3 = .int .i64 (lcmOf (xs.take k)) ∧ ρ 4 = .int .i64 k)
    ⟨0,rfl,Nat.zero_le _,Keep.refl _,rfl,rfl,rfl,rfl⟩ ?_
  clear e1;rintro m ρ H2 ⟨k,rfl,hk,hK,e0,e2,e3,e4⟩;have lc:=(lcmOf_dvd xs k).1;have hlk:0 < lcmOf (xs.take k):=Nat.pos_of_dvd_of_pos lc hLp;have hlk2:=Nat.le_of_dvd hLp lc;have hk12:=k1.trans hK;have hl2:=hl.keep hk12;have hL2:=hK.low lA;have hg2:=hK.grp gA
  by_cases hlt:k < xs.length
  · have hlt':(k:Int) < (xs.length:Int):=by omega
    have hw:=wrap_succ hlt hl.ml;obtain ⟨b1,a1,n1,c1,b2,a2,n2,c2,rd4,rd2,hq,hB⟩:=qs_at hl2 hlt;have hd:=(hp _ (Zabb (d:=default) hlt)).2;have hdd:=(lcmOf_dvd xs (k + 1)).2 k (by omega) hlt
    have lc1:=(lcmOf_dvd xs (k + 1)).1;have hlk1:=Nat.le_of_dvd hLp lc1;have hlkp:0 < lcmOf (xs.take (k + 1)):=Nat.pos_of_dvd_of_pos lc1 hLp;have hdle:=Nat.le_of_dvd hlkp hdd;have hlcm:=lcmOf_take hlt;have hix:=ixQ r o xs.length cap .i64 (k:Int);obtain ⟨_,_,hea,hea2⟩:=hl2.isv;cases hea;obtain rfl:=hea2 (by omega)
    rw [if_pos ⟨by omega,by omega⟩,Int.toNat_natCast] at hix
    generalize (xs.getD k default).2 = d at *;generalize hL1d:lcmOf (xs.take (k + 1)) = L1 at *;generalize lcmOf (xs.take k) = L0 at *;obtain ⟨H3,kw,Rw⟩:=Within_runs hS _ d 1152921504606846976 400 H2 hg2 hL2 hB (by omega) (by omega) (by omega)
    have fw:=Rw.bx;obtain ⟨H4,kg,Rg⟩:=Gcd_runs hS (L0:Int) d H3 (by omega) (by omega) (by omega) (by omega)
    have fg:=Rg.bx;rw [Int.toNat_natCast] at fg;have hgd:Nat.gcd L0 d.toNat ∣ L0:=Nat.gcd_dvd_left _ _;have hgp:0 < Nat.gcd L0 d.toNat:=Nat.gcd_pos_of_pos_left _ hlk;have hgl:=Nat.le_of_dvd hlk hgd;have hL1:((L0:Int).tdiv (Nat.gcd L0 d.toNat:Nat)) * d = (L1:Int):=by
      rw [Int.tdiv_eq_ediv_of_nonneg (by omega),hlcm]
      unfold Nat.lcm;rw [Nat.mul_comm,Nat.mul_div_assoc _ hgd,Int.natCast_mul,Int.natCast_ediv,Int.mul_comm,Int.toNat_of_nonneg (by omega)]
    have hq0:0 ≤ (L0:Int).tdiv (Nat.gcd L0 d.toNat:Nat) ∧ (L0:Int).tdiv (Nat.gcd L0 d.toNat:Nat) ≤ L0:=by
      rw [Int.tdiv_eq_ediv_of_nonneg (by omega)]
      exact ⟨Int.ediv_nonneg (by omega) (by omega),Int.ediv_le_self _ (by omega)⟩
    generalize Nat.gcd L0 d.toNat = G at *;have hG0:¬ (G:Int) = 0:=by omega
    have fdv:IntKind.i64.wrap ((L0:Int).tdiv G) = (L0:Int).tdiv G:=IntWalk.i64_in _ (by omega)
    have fml:IntKind.i64.wrap ((L0:Int).tdiv G * d) = (L1:Int):=by rw [hL1]; exact IntWalk.i64_in _ (by omega)
    have hKK:=(hK.trans kw).trans kg;clear hl hl2 hea2 Rw Rg hq hB hp hn hlcm hdd lc lc1 hL1 hgd
    repeat' (first | simp only [↓Zabs,↓Zabp,↓Zabr,↓Zaae,↓Zabm,↓Zabo,↓Zacj,↓Zaci,↓Zaco,↓Zaaq,↓Zaaj,↓Zaap,↓Zaak,↓Zaam,↓Zaan,↓bxOp_extract,↓Zaat,↓Zaao,↓bxPut,↓Zabk,↓Zabj,↓Zaad,↓Zaac,↓Zabf,↓Zabe,↓Zacp,↓Zaba,↓Zaay,↓Zaaz,Zack,Zaab,Zabd,Zabt,Zach,List.map_cons,List.map_nil,List.nil_append,List.append_nil,↓reduceIte,Nat.reduceEqDiff,Nat.reduceLT,dec_T,true_and,ne_eq,not_false_eq_true,Option.map_some, *,lenQ,qaG1,ldBig,ex20,ex21])
    exact ⟨_,by omega,k + 1,rfl,by omega,by rw [hL1d],rfl⟩
  · have hlt':¬ (k:Int) < (xs.length:Int):=by omega
    have hke:xs.length ≤ k:=by omega
    rw [List.take_of_length_le hke] at e3;generalize hLdef:lcmOf xs = L at *;obtain ⟨H3,e5,k5,s5,-,-⟩:=box1 H2 [.slice none 0 0,.int .i64 0] 26;have ow7:Own H3 H2.size 26 [.slice none 0 0,.int .i64 0]:=e5 ▸ Own.new H2 _ _;obtain ⟨H4,ps4,ow4,z4,rr4,kk4⟩:=stP ow7 rfl none 0 0 (L:Int);have k24:=kk4 H2 k5 (Nat.le_refl _);clear z4
    repeat' (first | simp only [↓Zabs,↓Zabp,↓Zabr,↓Zaae,↓Zabm,↓Zabo,↓Zacj,↓Zaci,↓Zaco,↓Zaaq,↓Zaaj,↓Zaap,↓Zaak,↓Zaam,↓Zaan,↓bxOp_extract,↓Zaat,↓Zaao,↓bxPut,↓Zabk,↓Zabj,↓Zaad,↓Zaac,↓Zabf,↓Zabe,↓Zacp,↓Zaba,↓Zaay,↓Zaaz,Zack,Zaab,Zabd,Zabt,Zacg,List.map_cons,List.map_nil,List.nil_append,↓reduceIte,Nat.reduceEqDiff,Nat.reduceLT,dec_F, *,lenQ,alP,bdP1])
    refine sxL_of (fun m ρ H5 => ∃ (i:Nat) (w:List Int) (u:Value),m = xs.length - i ∧ i ≤ xs.length ∧ Lst 3 .i64 H2 H5 u w ∧ w = (xs.take i).map (fun x => x.1 * ((L:Int) / x.2)) ∧ Own H5 H2.size 26 [u,.int .i64 L] ∧
        ρ 0 = .slice a xs.length cap ∧ ρ 2 = .pointer (some ⟨H.size,0,none⟩) ∧ ρ 3 = .int .i64 L ∧ ρ 7 = .pointer (some ⟨H2.size,0,none⟩) ∧ ρ 8 = .int .i64 i)
      ⟨0,[],_,rfl,Nat.zero_le _,Lst.nil k24 (k24.grp hg2),rfl,ow4,by first | rfl | assumption,by first | rfl | assumption,by first | rfl | assumption,rfl,rfl⟩ ?_
    clear e0 e2 e3 e4 e5 ps4 rr4 kk4 ow7 ow4;rintro m ρ H5 ⟨i,w,u,rfl,hi,hLst,hw,ow5,e0,e2,e3,e7,e8⟩;have k25:=hLst.keep;have hk15:=hk12.trans k25;have hl5:=hl.keep hk15;have hL5:=k25.low hL2;have hg5:=hLst.grp;obtain ⟨o50,o51,o52⟩:=ownP ow5
    by_cases hlt:i < xs.length
    · have hlt':(i:Int) < (xs.length:Int):=by omega
      have hwr:=wrap_succ hlt hl.ml;obtain ⟨b1,a1,n1,c1,b2,a2,n2,c2,rd4,rd2,hq,hB⟩:=qs_at hl5 hlt;have hpi:=hp _ (Zabb (d:=default) hlt);have hni:=hn _ (Zabb (d:=default) hlt);have hdd:=(lcmOf_dvd xs xs.length).2 i hlt hlt;rw [List.take_length,hLdef] at hdd;have hdle:=Nat.le_of_dvd hLp hdd;have hix:=ixQ r o xs.length cap .i64 (i:Int);obtain ⟨_,_,hea,hea2⟩:=hl5.isv;cases hea;obtain rfl:=hea2 (by omega)
      rw [if_pos ⟨by omega,by omega⟩,Int.toNat_natCast] at hix
      have hts:(xs.take (i + 1)).map (fun x => x.1 * ((L:Int) / x.2)) = w ++ [(xs.getD i default).1 * ((L:Int) / (xs.getD i default).2)]:=by
        rw [hw,List.take_add_one,List.getElem?_eq_getElem hlt,List.getD_eq_getElem?_getD,List.getElem?_eq_getElem hlt,List.map_append];rfl
      have hdv:(xs.getD i default).2 ∣ (L:Int):=by
        have:=Int.ofNat_dvd.2 hdd;rwa [Int.toNat_of_nonneg (by omega)] at this
      have hwl:w.length = i:=by rw [hw,List.length_map,List.length_take]; omega
      generalize (xs.getD i default).2 = d at *;generalize (xs.getD i default).1 = n at *;obtain ⟨q,hLq⟩:=hdv;have hq0:0 < q:=by
        rcases Int.lt_or_le 0 q with h | h
        · exact h
        · have:=Int.mul_nonpos_of_nonneg_of_nonpos (show 0 ≤ d by omega) h
          omega
      have hqe:(L:Int) / d = q:=by rw [hLq]; exact Int.mul_ediv_cancel_left _ (by omega)
      rw [hqe] at hni hts;have b20:(10000:Int) ^ 20 = 100000000000000000000000000000000000000000000000000000000000000000000000000000000:=by decide
      have hnq:n ≤ n * q:=by
        have:=Int.mul_le_mul_of_nonneg_left (show 1 ≤ q by omega) hpi.1
        omega
      have hnq0:0 ≤ n * q:=Int.mul_nonneg hpi.1 (by omega)
      have krl:=Keep.relowS H5;obtain ⟨t1,H6',H6,k6,l6,f6,d6,q6⟩:=drawnQ hL5 (Frac_all hS (L:Int) 1 (H5.relow H5.size) (krl.grp hg5) (Nat.le_refl _) (by omega) (by omega) (by omega) (by omega))
      have krl6:=Keep.relowS H6;obtain ⟨t2,H7',H7,k7,l7,f7,d7,q7⟩:=drawnQ l6 (Mul_all hS _ t1 n d (L:Int) 1 (H6.relow H6.size) (krl6.grp (k6.grp hg5)) (Nat.le_refl _) ((hq.qv.keep k6).keep krl6) (q6.keep krl6) hpi.2 (by omega) (by omega) (by omega) (by omega) (by omega))
      have q7':QV H7 t2 (n * q) 1:=q7.as (by omega) (by rw [hLq,Int.mul_one,Int.mul_one]; ac_rfl)
      obtain ⟨⟨y1,y2,y3,y4,rfl,z1,z2⟩,_⟩:=q7'.whole;obtain ⟨u1,ww1,r1,o1,hu1,ss1,kk1⟩:=z1;obtain ⟨u2,ww2,r2,o2,hu2,ss2,kk2⟩:=z2;cases hu1;cases hu2;obtain ⟨a3,c3,rfl⟩:=ss1.v0;obtain ⟨a4,c4,rfl⟩:=ss2.v0;have krl7:=Keep.relowS H7;have zB:BigIs (H7.relow H7.size) (.agg ⟨[.bool (decide (n * q < 0)),.slice a3 ww1.length c3]⟩) (n * q) 400:=⟨_,ww1,r1,o1,rfl,ss1.keep krl7,kk1⟩;obtain ⟨H8',H8,k8,l8,f8,d8⟩:=drawn (P:=Tryz.prog) l7 (Within_runs hS _ (n * q) 1152921504606846976 400 (H7.relow H7.size) (krl7.grp (k7.grp (k6.grp hg5))) (Nat.le_refl _) zB (by omega) (by omega) (by omega))
      have k58:=(k6.trans k7).trans k8;obtain ⟨o80,o81,o82⟩:=ownP (ow5.keep k58);obtain ⟨v9,H9,p9,L9,own9⟩:=(hLst.on k58).pushO okI hg2 (by omega) (n * q)
      have b9:=bsI H8 (n * q);have ow9:=own9 _ _ _ (ow5.keep k58);obtain ⟨a9,hv9⟩:=L9.isv;subst hv9;obtain ⟨H10,ps10,ow10,z10,rr10,kk10⟩:=stP0 ow9 a9 (w ++ [n * q]).length (w ++ [n * q]).length;have kb10:=kk10 H2 L9.keep (Nat.le_refl _);have L10:=L9.other hg2 ow9 ps10 kb10;clear z10 rr10 kk10 own9 L9 hLst ow5 ow9 hl hl5 hea2 hq hB hp hn hni hw hdd q6 q7 q7' ss1 ss2 kk1 kk2 zB hLdef hLq hqe hwl;generalize (w ++ [n * q]).length = wl at *
      repeat' (first | simp only [↓Zabs,↓Zabn,↓Zabp,↓Zabr,↓Zaae,↓Zabm,↓Zabo,↓Zacj,↓Zaci,↓Zacd,↓Zaag,↓Zacb,↓sxDL_assign,↓Zaca,↓sxDL_field,↓Zabz,↓sxDL_extract,↓sxD_same,↓Zaco,↓Zaaq,↓Zaaj,↓Zaal,↓Zaap,↓Zaas,↓Zaak,↓Zaam,↓bxOp_field,↓Zaan,↓bxOp_extract,↓Zaat,↓Zaao,↓Zaai,↓Zacl,↓bxPut,↓Zabk,↓Zabj,↓Zaad,↓Zaac,↓Zabf,↓Zabe,↓Zacp,↓Zaba,↓Zaay,↓Zaaz,Zack,Zaab,Zabd,Zabt,Zach,List.map_cons,List.map_nil,List.nil_append,List.append_nil,↓reduceIte,Nat.reduceEqDiff,Nat.reduceLT,dec_T,true_and,Zaaa,Nat.add_zero,one1,Option.bind_some,Option.map_some, *,lenQ,ldQ,afN,paG0,ldIs,ex20,ex21] | (with_reducible first | refine Zabv (by assumption) (by decide +kernel) ?_ | refine Zabu (by decide +kernel) ?_ | refine Zacc (by decide +kernel) ?_ | refine Zabx ?_))
      exact ⟨_,by omega,i + 1,_,_,rfl,by omega,L10,hts.symm,ow10,rfl⟩
    · have hlt':¬ (i:Int) < (xs.length:Int):=by omega
      rw [List.take_of_length_le (by omega)] at hw
      have hwr:∀ z ∈ w,IntKind.i64.min ≤ z ∧ z ≤ IntKind.i64.max:=fun z hz => by
        rw [hw] at hz;obtain ⟨x,hx,rfl⟩:=List.mem_map.1 hz;have h1:=hn x hx;have h2:=hp x hx;have h3:=Int.mul_nonneg h2.1 (Int.ediv_nonneg (show 0 ≤ (L:Int) by omega) (Int.le_of_lt h2.2))
        show -9223372036854775808 ≤ _ ∧ _ ≤ 9223372036854775807;omega
      have hwl:w.length = xs.length:=by rw [hw,List.length_map]
      have hml:=hl.ml;obtain ⟨rr,sl,hfr⟩:=hLst.slF hwr (by omega)
      have hfr2:0 < xs.length → H.size ≤ rr:=fun h0 => by have:=hfr (by omega); have:=s1; have:=hK.size; omega
      obtain ⟨aa,hu⟩:=hLst.isv;subst hu;have ow2':=(ow2.keep hK).keep k25;obtain ⟨H6,ps6,ow6,z6,rr6,kk6⟩:=stP ow2' rfl aa w.length w.length (L:Int);have k06:=kk6 H (k1.trans (hK.trans k25)) (Nat.le_refl _);have hH2:H.size < H2.size:=Nat.lt_of_lt_of_le s1 hK.size;have sl6:=SlE.other ow2' ps6 z6 sl (fun h0 => by have:=hfr h0; omega)
      obtain ⟨o60,o61,o62⟩:=ownP ow6;have g06:=k06.grp hg;clear hLst sl hfr ow2 ow2' ow5 ow6 z6 rr6 kk6 hl hl5 hp hn hwr hLdef hwl;generalize w.length = wl at *
      repeat' (first | simp only [↓Zabs,↓Zabn,↓Zabp,↓Zabr,↓Zaae,↓Zabm,↓Zabo,↓Zacj,↓Zaci,↓Zacd,↓Zaag,↓Zacb,↓sxDL_assign,↓Zaca,↓sxDL_field,↓Zabz,↓sxDL_extract,↓Zaco,↓Zaaq,↓Zaaj,↓Zaal,↓Zaap,↓Zaas,↓Zaak,↓Zaam,↓bxOp_field,↓Zaan,↓bxOp_extract,↓Zaat,↓Zaao,↓Zaai,↓Zacl,↓bxPut,↓Zabk,↓Zabj,↓Zaad,↓Zaac,↓Zabf,↓Zabe,↓Zacp,↓Zaba,↓Zaay,↓Zaaz,Zack,Zaab,Zabd,Zabt,Zacg,List.nil_append,↓reduceIte,Nat.reduceEqDiff,Nat.reduceLT,dec_F,true_and,Option.map_some, *,lenQ,ldP] | (with_reducible first | refine Zabv (by assumption) (by decide +kernel) ?_ | refine Zabu (by decide +kernel) ?_ | refine Zacc (by decide +kernel) ?_ | refine Zabx ?_))
      exact ⟨_,_,_,rfl,by rw [← hw]; exact sl6,hfr2⟩
end Go.Proofs.YtpeoleimmabceaaGreat
