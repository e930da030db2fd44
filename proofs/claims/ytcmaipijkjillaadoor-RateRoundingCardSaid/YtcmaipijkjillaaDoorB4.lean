/- Whole numbers of any size, continued: the digits of a quotient and of what is left over. -/
import Derived.Test.YtcmaipijkjillaaDoorB3
set_option linter.unusedVariables false
set_option linter.unusedSimpArgs false
set_option linter.unusedSectionVars false

namespace Go.Proofs.YtcmaipijkjillaaDoor
open Go Go.AM
set_option maxRecDepth 10000
variable {S:AM.Sys} (hS:Only S 6)
include hS

theorem digit_facts (v2:Value) (b:List Int) (r2 o2:Nat) (H:Heap) (hg:Grp H) (hL:H.low ≤ H.size) (h2:SlI .i64 H v2 b r2 o2) (hb:Digs b) (hsb:b.length ≤ 999) (z:Int) (hz:0 ≤ z ∧ z ≤ 9999) :
    ∃ v3 H3 v4 H4 w r4 o4,Runs Tryd.prog S (.fn 65) [.slice (some ⟨H.size,0,none⟩) 1 1] (H.newExact [.int .i64 z] 3) v3 H3 ∧ Runs Tryd.prog S (.fn 57) [v2,v3] H3 v4 H4 ∧ Keep H H4 ∧ Grp H4 ∧ SlI .i64 H4 v4 w r4 o4 ∧ Fine v4 ∧
      Digs w ∧ Norm w ∧ val w = val b * z ∧ w.length ≤ b.length + 1:=by
  have hk:=Keep.newExact H [.int .i64 z] 3;have ho:=Own.new H ([z].map fun z => Value.int .i64 z) 3
  have hmx:Go.maxLen = 9223372036854775807:=rfl;have sl:=ho.sl (k:=.i64) (w:=[z]) (fun y hy => by rw [List.mem_singleton.1 hy]; show -9223372036854775808 ≤ z ∧ z ≤ 9223372036854775807; omega) (by simp; omega) 1
  have hob:=trim_runs hS _ [z] H.size 0 _ (hk.grp hg) (hk.low hL) sl (by simp)
  obtain ⟨H3,v3,r3,o3,hK3,hg3,s3,hF3,hfr3,hR3⟩:=hob;have hd:Digs [z]:=Digs.one hz;have hkk:=hk.trans hK3;have hob2:=mulD_runs hS v2 v3 b (trimL [z]) r2 o2 r3 o3 H3 hg3 (hkk.low hL) (h2.keep hkk) s3 hb (trimL_digs hd) (by omega) (by have:=trimL_le [z]; simp at this; omega)
  obtain ⟨w,hdg,hle,H4,v4,r4,o4,hK4,hg4,s4,hF4,hfr4,hR4⟩:=hob2;have hv:val b * val (trimL [z]) = val b * z:=by rw [trimL_val]; simp [val]
  refine ⟨v3,H3,v4,H4,w,r4,o4,hR3,hR4,hkk.trans hK4,hg4,s4,hF4,hdg.1,hdg.2.1,?_,by have:=trimL_le [z]; simp at this; omega⟩
  rw [hdg.2.2,hv,Int.toNat_of_nonneg (Int.mul_nonneg hb.nonneg hz.1)]

set_option maxHeartbeats 1000000 in
theorem divD_runs (v1 v2:Value) (a b:List Int) (r1 o1 r2 o2:Nat) (H:Heap) (hg:Grp H) (hL:H.low ≤ H.size) (h1:SlI .i64 H v1 a r1 o1) (h2:SlI .i64 H v2 b r2 o2) (ha:Digs a) (hb:Digs b) (hbn:Norm b) (hb0:0 < b.length) (hsa:a.length ≤ 400) (hsb:b.length ≤ 400) :
    ∃ H' vq vr q rem rq oq rr or',Keep H H' ∧ Grp H' ∧ SlI .i64 H' vq q rq oq ∧ SlI .i64 H' vr rem rr or' ∧ Fine vr ∧ Digs q ∧ Norm q ∧ q.length ≤ a.length ∧ Digs rem ∧ Norm rem ∧ val a = val q * val b + val rem ∧ val rem < val b ∧ rem.length ≤ b.length ∧
      Runs Tryd.prog S (.fn 66) [v1,v2] H (.tuple #[vq,vr]) H':=by
  suffices h:WCall Tryd.prog S (.fn 66) [v1,v2] H (fun v H' => ∃ vq vr q rem rq oq rr or',v = .tuple #[vq,vr] ∧ Keep H H' ∧ Grp H' ∧ SlI .i64 H' vq q rq oq ∧ SlI .i64 H' vr rem rr or' ∧ Fine vr ∧ Digs q ∧ Norm q ∧ q.length ≤ a.length ∧ Digs rem ∧ Norm rem ∧ val a = val q * val b + val rem ∧ val rem < val b ∧ rem.length ≤ b.length) by
    obtain ⟨_,H',hr,vq,vr,q,rem,rq,oq,rr,or',rfl,h1,h2,h3,h4,h5,h6,h7,h8,h9,h10,h11,h12,h13⟩:=h;exact ⟨H',vq,vr,q,rem,rq,oq,rr,or',h1,h2,h3,h4,h5,h6,h7,h8,h9,h10,h11,h12,h13,hr⟩
  obtain ⟨a1,c1,rfl⟩:=h1.v0;obtain ⟨a2,c2,rfl⟩:=h2.v0;have hmk:=mkI H (l:=(a.length:Int)) (by omega) (by omega)
  rw [Int.toNat_natCast] at hmk;obtain ⟨H1,e1,hK1,hs1,zz,_⟩:=box1 H ((List.replicate a.length (0:Int)).map fun z => .int .i64 z) 3
  have w1:Own H1 H.size 3 ((List.replicate a.length (0:Int)).map fun z => .int .i64 z):=e1 ▸ Own.new H _ _
  have hnz:¬ (b.length:Int) = 0:=by omega
  have hwa:IntKind.i64.wrap ((a.length:Int) - 1) = (a.length:Int) - 1:=IntWalk.i64_in _ (by omega)
  have hB:=norm_pos hb hbn hb0;have hmx:Go.maxLen = 9223372036854775807:=rfl;clear zz;refine call_of Tryd.func66 rfl (Nat.le_of_ble_eq_true rfl) (hS.no rfl _ _) ?_
  rw [Tryd.ntmps66,Tryd.results66]
  repeat' (first | (with_reducible refine Zacf (fun h => ?_) (fun h => ?_)) | (with_reducible refine Zace (fun h => ?_) (fun h => ?_)) | (with_reducible refine sxIfB_sp (fun h => ?_) (fun h => ?_)) | simp only [↓Zabr,↓Zabo,↓Zabq,↓Zaah,↓bxC_loop,↓Zabl,↓Zabp,↓Zacj,↓Zaci,↓Zaco,↓Zaar,↓Zaak,↓Zaal,↓bxOp_makeSlice,↓Zaau,↓Zaap,↓bxPut,↓Zabj,↓Zabk,↓Zabh,↓Zacm,↓Zacn,↓Zacp,↓Zaaz,↓Zaax,↓Zaay,Zack,Zaad,Zabb,Zabs,Zacg,Zabf,List.nil_append,↓reduceIte,Nat.reduceEqDiff,Nat.reduceLT,dec_F, *,argF,List.getD_cons_zero,List.getD_cons_succ,lenI])
  refine sxL_of (fun m ρ H2 => ∃ (Q R:List Int) (v':Value) (rr oo:Nat),m ≤ a.length ∧ Q.length = a.length ∧ Digs Q ∧ Digs R ∧ Norm R ∧ val R < val b ∧ val (a.drop m) = val (Q.drop m) * val b + val R ∧ Keep H H2 ∧ Grp H2 ∧ SlI .i64 H2 v' R rr oo ∧ Fine v' ∧ Own H2 H.size 3 (Q.map fun z => .int .i64 z) ∧
    ρ 0 = .slice a1 a.length c1 ∧ ρ 1 = .slice a2 b.length c2 ∧ ρ 6 = .slice (some ⟨H.size,0,none⟩) a.length a.length ∧ ρ 7 = v' ∧ ρ 8 = .int .i64 ((m:Int) - 1))
    (n:=a.length) ⟨List.replicate a.length 0,[],_,0,0,Nat.le_refl _,by simp,(fun x hx => by rw [List.eq_of_mem_replicate hx]; omega),(fun x hx => absurd hx (List.not_mem_nil)),.inl rfl,(by simpa [val] using hB),(by simp [val]),hK1,hK1.grp hg,nilSl _,fine_nil,w1,rfl,rfl,rfl,rfl,rfl⟩ ?_
  clear w1 hmk hwa hs1 e1 hnz;rintro m ρ H2 ⟨Q,R,v',rr,oo,hm,hQl,hQd,hRd,hRn,hRb,hval,hK2,hg2,sR,hF,w2,e0,e1,e6,e7,e8⟩;have hRl:=len_le hRd hRn hb (Int.le_of_lt hRb);have hL2:=hK2.low hL;cases m with
  | zero =>
    have h00:¬ (0:Int) ≤ ((0:Nat):Int) - 1:=by omega
    have slq:=w2.sl (k:=.i64) (fun z hz => by have:=hQd z hz; show -9223372036854775808 ≤ z ∧ z ≤ 9223372036854775807; omega) (by omega) a.length
    rw [hQl] at slq;have hob:=trim_runs hS _ Q H.size 0 H2 hg2 hL2 slq (by omega)
    obtain ⟨H3,v3,r3,o3,hK3,hg3,s3,hF3,hfr3,hR3⟩:=hob;have f3:=hR3.bx;have hKK:=hK2.trans hK3;have sR3:=sR.keep hK3;have hq1:=trimL_digs hQd;have hq2:=trimL_norm Q;have hq3:(trimL Q).length ≤ a.length:=by rw [← hQl]; exact trimL_le Q
    have hq4:val a ≤ val (trimL Q) * val b + val R ∧ val (trimL Q) * val b + val R ≤ val a:=by
      have hv0:val a = val (trimL Q) * val b + val R:=by rw [trimL_val]; simpa using hval
      omega
    clear hR3 h1 h2 w2 slq hval hQl hQd hmx
    repeat' (first | (with_reducible refine Zacf (fun h => ?_) (fun h => ?_)) | (with_reducible refine Zace (fun h => ?_) (fun h => ?_)) | (with_reducible refine sxIfB_sp (fun h => ?_) (fun h => ?_)) | simp only [↓Zabr,↓Zabo,↓Zabq,↓Zaah,↓bxC_loop,↓Zabl,↓Zabn,↓Zacj,↓Zaci,↓Zaco,↓Zaar,↓Zaak,↓Zaam,↓Zaaq,↓Zaat,↓Zaal,↓Zaao,↓Zaau,↓bxOp_append,↓Zacl,↓bxPut,↓Zabj,↓Zabi,↓Zaaf,↓Zaae,↓Zabd,↓Zabc,↓Zacp,↓Zaaz,↓Zaax,↓Zaay,Zack,Zaad,Zabb,Zabs,Zacg,List.map,List.nil_append,List.append_nil,↓reduceIte,Nat.reduceEqDiff,Nat.reduceLT,dec_F,true_and, *])
    exact ⟨_,_,trimL Q,R,r3,o3,rr,oo,rfl,s3,sR3,hF,hq1,hq2,hq3,hRd,hRn,by omega,hRb,hRl⟩
  | succ i =>
    have hlt:i < a.length:=by omega
    have hidx:((i + 1:Nat):Int) - 1 = (i:Int):=by omega
    rw [hidx] at e8;have hge:(0:Int) ≤ (i:Int):=by omega
    have hwi:IntKind.i64.wrap ((i:Int) - 1) = (i:Int) - 1:=IntWalk.i64_in _ (by omega)
    have p0:=SlI_ix h1 hlt;have q0:=((h1.keep hK2).rdI hlt).1;have hx:=ha.getD i;have b0:=bsI H2 (a.getD i 0);have hk:=Keep.newExact H2 [.int .i64 (a.getD i 0)] 3;have ho:=Own.new H2 ([a.getD i 0].map fun z => Value.int .i64 z) 3
    have hob:=append_own okI (hk.grp hg2) ho (by simp) (sR.keep hk) hF (fun z hz => by rw [List.mem_singleton.1 hz]; show -9223372036854775808 ≤ a.getD i 0 ∧ a.getD i 0 ≤ 9223372036854775807; omega) (by simp; omega)
    obtain ⟨v3,H3,r3,p3,hK3,hg3,s3⟩:=hob;have p3:aAppend Tryd.prog (H2.newExact [.int .i64 (a.getD i 0)] 3) #[23,23] (.slice (some ⟨H2.size,0,none⟩) 1 1) v' = some (v3,H3):=p3;have hK23:=hk.trans hK3;have hd3:Digs ([a.getD i 0] ++ R):=(Digs.one hx).append hRd;have hob2:=trim_runs hS _ _ r3 0 H3 hg3 (hK23.low hL2) s3 (by simp; omega)
    obtain ⟨H4,v4,r4,o4,hK4,hg4,s4,hF4,hfr4,hR4⟩:=hob2;have f4:=hR4.bx;have hK24:=hK23.trans hK4;have hT:val (trimL ([a.getD i 0] ++ R)) ≤ a.getD i 0 + 10000 * val R ∧ a.getD i 0 + 10000 * val R ≤ val (trimL ([a.getD i 0] ++ R)):=by rw [trimL_val]; simp [val]
    have hTd:=trimL_digs hd3;have hTn:=trimL_norm ([a.getD i 0] ++ R);have hTl:(trimL ([a.getD i 0] ++ R)).length ≤ b.length + 1:=by have:=trimL_le ([a.getD i 0] ++ R); rw [List.length_append,List.length_singleton] at this; omega
    have w4:=w2.keep hK24;have hKH4:=hK2.trans hK24;have hadr:=drop_cons hlt;generalize hTT:trimL ([a.getD i 0] ++ R) = T at *;clear hR4 s3 hd3 ho hk hTT
    repeat' (first | (with_reducible refine Zacf (fun h => ?_) (fun h => ?_)) | (with_reducible refine Zace (fun h => ?_) (fun h => ?_)) | (with_reducible refine sxIfB_sp (fun h => ?_) (fun h => ?_)) | simp only [↓Zabr,↓Zabo,↓Zabq,↓Zaah,↓bxC_loop,↓Zabl,↓Zabn,↓Zacj,↓Zaci,↓Zaco,↓Zaar,↓Zaak,↓Zaam,↓Zaaq,↓Zaat,↓Zaal,↓Zaao,↓Zaau,↓bxOp_append,↓Zacl,↓bxPut,↓Zabj,↓Zabi,↓Zaaf,↓Zaae,↓Zabd,↓Zabc,↓Zacp,↓Zaaz,↓Zaax,↓Zaay,Zack,Zaad,Zabb,Zabs,Zach,List.map,List.nil_append,List.append_nil,↓reduceIte,Nat.reduceEqDiff,Nat.reduceLT,dec_T,one1,Option.bind_some, *,ldI])
    have hT2:val T < val b * (9999 + 1):=by omega
    have hL4:=hKH4.low hL
    refine sxL_of (fun m ρ H5 => ∃ lo hi:Int,m = (hi - lo).toNat ∧ (0 ≤ lo ∧ lo ≤ hi ∧ hi ≤ 9999) ∧ val b * lo ≤ val T ∧ val T < val b * (hi + 1) ∧ Keep H4 H5 ∧ Grp H5 ∧
      ρ 0 = .slice a1 a.length c1 ∧ ρ 1 = .slice a2 b.length c2 ∧ ρ 6 = .slice (some ⟨H.size,0,none⟩) a.length a.length ∧ ρ 7 = v4 ∧ ρ 8 = .int .i64 (i:Int) ∧ ρ 10 = .int .i64 lo ∧ ρ 11 = .int .i64 hi)
      ⟨0,9999,rfl,by omega,(by rw [Int.mul_zero]; exact hTd.nonneg),hT2,Keep.refl _,hg4,by assumption,by assumption,by assumption,rfl,by assumption,rfl,rfl⟩ ?_
    clear e0 e1 e6 e7 e8 b0 p3 f4 p0 q0;rintro m ρ H5 ⟨lo,hi,rfl,hlh,hlo,hhi,hK5,hg5,e0,e1,e6,e7,e8,e10,e11⟩;have hK25:=hKH4.trans hK5;have hL5:=hK25.low hL;have s5:=s4.keep hK5;have w5:=w4.keep hK5
    by_cases hlt2:lo < hi
    · have hmid:lo < (lo + hi + 1) / 2 ∧ (lo + hi + 1) / 2 ≤ hi:=by omega
      have f1:IntKind.i64.wrap (lo + hi) = lo + hi:=IntWalk.i64_in _ (by omega)
      have f2:IntKind.i64.wrap (lo + hi + 1) = lo + hi + 1:=IntWalk.i64_in _ (by omega)
      have f3:(lo + hi + 1).tdiv 2 = (lo + hi + 1) / 2:=Int.tdiv_eq_ediv_of_nonneg (by omega)
      have f0:¬ (2:Int) = 0:=by omega
      generalize (lo + hi + 1) / 2 = mid at hmid f3;have f5:IntKind.i64.wrap mid = mid:=IntWalk.i64_in _ (by omega)
      have f6:IntKind.i64.wrap (mid - 1) = mid - 1:=IntWalk.i64_in _ (by omega)
      have hob3:=digit_facts hS _ b r2 o2 H5 hg5 hL5 (h2.keep hK25) hb (by omega) mid (by omega)
      obtain ⟨v6,H6,v7,H7,w,r7,o7,hR6,hR7,hK7,hg7,s7,hF7,hwd,hwn,hwv,hwl⟩:=hob3;have hR8:=cmpD_runs hS v7 v4 w T r7 o7 r4 o4 H7 (hK7.low hL5) s7 (s5.keep hK7);have hcv:=cmpL_val hwd hwn hTd hTn;rw [hwv] at hcv;have g1:=hR6.bx;have g2:=hR7.bx;have g3:=hR8.bx;have b5:=bsI H5 mid;have hK57:=hK5.trans hK7;have hle:cmpL w T ≤ 0 → val b * mid ≤ val T:=fun h => by
        rw [hcv] at h
        by_cases c1:val b * mid < val T
        · omega
        · by_cases c2:val T < val b * mid
          · rw [if_neg c1,if_pos c2] at h; omega
          · omega
      have hgt:¬ cmpL w T ≤ 0 → val T < val b * (mid - 1 + 1):=fun h => by
        rw [show mid - 1 + 1 = mid by omega]
        rw [hcv] at h
        by_cases c1:val b * mid < val T
        · rw [if_pos c1] at h; omega
        · by_cases c2:val T < val b * mid
          · exact c2
          · rw [if_neg c1,if_neg c2] at h; omega
      clear hR6 hR7 hR8 hcv s7 s5 w5 s4 w4 h1 h2 sR w2 hwd hwn hwv;generalize cmpL w T = cm at *
      repeat' (first | (with_reducible refine Zacf (fun h => ?_) (fun h => ?_)) | (with_reducible refine Zace (fun h => ?_) (fun h => ?_)) | (with_reducible refine sxIfB_sp (fun h => ?_) (fun h => ?_)) | simp only [↓Zabr,↓Zabo,↓Zabq,↓Zaah,↓Zabl,↓Zabn,↓Zacj,↓Zaci,↓Zaco,↓Zaar,↓Zaak,↓Zaam,↓Zaal,↓Zaau,↓bxPut,↓Zabj,↓Zabi,↓Zaaf,↓Zaae,↓Zabd,↓Zabc,↓Zacp,↓Zaaz,↓Zaax,↓Zaay,Zack,Zaad,Zabb,Zabs,Zach,List.map,List.nil_append,List.append_nil,↓reduceIte,Nat.reduceEqDiff,Nat.reduceLT,dec_T,true_and,ne_eq,not_false_eq_true, *])
      · exact ⟨(hi - mid).toNat,by omega,mid,hi,rfl,by omega,hle (by assumption),hhi,rfl,rfl⟩
      · exact ⟨(mid - 1 - lo).toNat,by omega,lo,mid - 1,rfl,by omega,hlo,hgt (by assumption),rfl,rfl⟩
    · have hlhe:hi = lo:=by omega
      have hhi2:val T < val b * (lo + 1):=by rw [← hlhe]; exact hhi
      have p5:aIndexAt Tryd.prog 23 (.slice (some ⟨H.size,0,none⟩) a.length a.length) (.int .i64 (i:Int)) = some (.pointer (some ⟨H.size,i,none⟩)):=by rw [ixI,if_pos ⟨by omega,by omega⟩,Int.toNat_natCast,Nat.zero_add,Nat.mul_one]
      have hsz3:H.size < H3.size:=Nat.lt_of_lt_of_le w2.lt hK23.size;have hob4:=stI w5 lo (o:=i) (by omega)
      obtain ⟨H6,ps,w6,hkp,hsz6⟩:=hob4;have hK6:=hkp H hK25 (Nat.le_refl _);have hL6:=hK6.low hL;have hg6:=hK6.grp hg;have s6:=SlE.other w5 ps hsz6 s5 (fun h0 => by have:=hfr4 h0; omega)
      have hob5:=digit_facts hS _ b r2 o2 H6 hg6 hL6 (h2.keep hK6) hb (by omega) lo (by omega)
      obtain ⟨v7,H7,v8,H8,w,r8,o8,hR7,hR8,hK8,hg8,s8,hF8,hwd,hwn,hwv,hwl⟩:=hob5;have hwT:val w ≤ val T:=by rw [hwv]; exact hlo
      have hob6:=subD_runs hS v4 v8 T w r4 o4 r8 o8 H8 hg8 (hK8.low hL6) (s6.keep hK8) s8 hTd hwd (by omega) (len_le hwd hwn hTd hwT) hwT
      obtain ⟨y,hdy,hyl,H9,v9,r9,o9,hK9,hg9,s9,hF9,hfr9,hR9⟩:=hob6;have hK69:=hK8.trans hK9;have hK09:=hK6.trans hK69;have w9:=w6.keep hK69;have b6:=bsI H6 lo;have g1:=hR7.bx;have g2:=hR8.bx;have g3:=hR9.bx;have hyv:val y = val T - val b * lo:=by
        rw [hdy.2.2,hwv,Int.toNat_of_nonneg (by omega)]
      have hyb:val y < val b:=by
        rw [hyv];rw [Int.mul_add,Int.mul_one] at hhi2;omega
      have hyd:=hdy.1;have hyn:=hdy.2.1;have hQ2l:(Q.set i lo).length = a.length:=by rw [List.length_set]; exact hQl
      have hQ2d:Digs (Q.set i lo):=hQd.set (by omega)
      have hfin:val (a.drop i) = val ((Q.set i lo).drop i) * val b + val y:=by
        rw [hadr,set_drop (by omega),hyv]
        simp only [val];rw [show val T = a.getD i 0 + 10000 * val R by omega]
        exact div_step hval
      clear hR7 hR8 hR9 s6 s8 s5 w5 w6 s4 w4 h1 h2 sR w2 hwd hwn hwv hval hdy hyv hQl hQd hlhe hkp hhi hhi2 hlo hwT hyl hwl hfr4 hfr9 hsz6 hadr
      repeat' (first | (with_reducible refine Zacf (fun h => ?_) (fun h => ?_)) | (with_reducible refine Zace (fun h => ?_) (fun h => ?_)) | (with_reducible refine sxIfB_sp (fun h => ?_) (fun h => ?_)) | simp only [↓Zabr,↓Zabo,↓Zabq,↓Zaah,↓Zabl,↓Zabn,↓Zacj,↓Zaci,↓Zaco,↓Zaar,↓Zaak,↓Zaam,↓Zaal,↓Zaau,↓bxPut,↓Zabj,↓Zabi,↓Zaaf,↓Zaae,↓Zabd,↓Zabc,↓Zacp,↓Zaaz,↓Zaax,↓Zaay,Zack,Zaad,Zabb,Zabs,Zacg,List.map,List.nil_append,List.append_nil,↓reduceIte,Nat.reduceEqDiff,Nat.reduceLT,dec_F,true_and, *])
      exact ⟨i,by omega,Q.set i lo,y,_,r9,o9,by omega,hQ2l,hQ2d,hyd,hyn,hyb,hfin,s9,hF9,w9,rfl,rfl⟩

end Go.Proofs.YtcmaipijkjillaaDoor
