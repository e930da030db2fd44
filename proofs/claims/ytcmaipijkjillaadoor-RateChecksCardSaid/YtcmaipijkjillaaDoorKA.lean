/- Gains, by the reference. -/
import Derived.Test.YtcmaipijkjillaaDoorK9
import Derived.Test.YtcmaipijkjillaaDoorBM
set_option linter.unusedVariables false
set_option linter.unusedSimpArgs false
set_option linter.unusedSectionVars false

namespace Go.Proofs.YtcmaipijkjillaaDoor
open Go Go.AM
set_option maxRecDepth 10000

theorem sgn3_more {x y:Int}:0 < sgn3 x y ↔ y < x:=by
  unfold sgn3;split
  · exact ⟨fun h => absurd h (by decide),fun _ => by omega⟩
  · split
    · exact ⟨fun _ => by omega,fun _ => by decide⟩
    · exact ⟨fun h => absurd h (by decide),fun _ => by omega⟩
theorem sgn3_less {x y:Int}:sgn3 x y < 0 ↔ x < y:=by
  unfold sgn3;split
  · exact ⟨fun _ => by omega,fun _ => by decide⟩
  · split
    · exact ⟨fun h => absurd h (by decide),fun _ => by omega⟩
    · exact ⟨fun h => absurd h (by decide),fun _ => by omega⟩
theorem big20:(10000:Int) ^ 20 = 100000000000000000000000000000000000000000000000000000000000000000000000000000000:=by decide
theorem lt20 {z:Int} (h:0 ≤ z ∧ z ≤ 1000000000000000000):(z.natAbs:Int) < 10000 ^ 20:=by rw [big20]; omega
theorem lt20' {z:Int} (h:0 ≤ z ∧ z ≤ 1000000000000000000):z < 10000 ^ 20:=by rw [big20]; omega

variable {S:AM.Sys} (hS:Only S 6)
include hS

theorem rate_runs (x:Off) (H:Heap) (hg:Grp H) (hL:H.low ≤ H.size) (hn:0 ≤ x.n ∧ x.n ≤ 9223372036854775807) (hd:0 < x.d ∧ x.d ≤ 9223372036854775807):QOut S 27 [.agg ⟨x.cells⟩] H x.n x.d:=by
  suffices h:WCall Tryd.prog S (.fn 27) [.agg ⟨x.cells⟩] H (fun v H' => Keep H H' ∧ Grp H' ∧ QV H' v x.n x.d) by
    obtain ⟨v,H',hr,h1,h2,h3⟩:=h; exact ⟨H',v,h1,h2,h3,hr⟩
  obtain ⟨Ha,ea,ka,za,-,-,-,ga2,ga3⟩:=boxO H x;obtain ⟨H3,b3,hK3,hs3,zz3,hr3⟩:=box1 Ha [.bool false,.slice none 0 0,.bool false,.slice none 0 0] 37;have ow3:Own H3 Ha.size 37 [.bool false,.slice none 0 0,.bool false,.slice none 0 0]:=(b3 ▸ Own.new Ha _ _);clear zz3 hr3;have q0:=hK3.read za ga2;have q1:=hK3.read za ga3;have k3:=ka.trans hK3;obtain ⟨H4,vx,hK4,hg4,bx,hR4⟩:=Frac_all hS x.n x.d H3 (k3.grp hg) (k3.low hL) hn.1 hd.1 hn.2 hd.2;have f4:=hR4.bx;obtain ⟨H7,ps,hld,hq7,hkp⟩:=retQV (ow3.keep hK4) bx;have hK7:=hkp H (k3.trans hK4) ka.size;have hg7:=hK7.grp hg;have hcx:(Value.agg ⟨x.cells⟩).cells.toList = x.cells:=rfl;refine call_of Tryd.func27 rfl (Nat.le_of_ble_eq_true rfl) (hS.no rfl _ _) ?_
  rw [Tryd.ntmps27,Tryd.results27];clear hR4 bx ow3 hkp ga2 ga3
  repeat' simp only [↓Zabo,↓Zabq,↓Zabp,↓Zaci,↓Zach,↓Zacn,↓Zaaj,↓bxOp_box,↓Zaaq,↓Zaat,↓Zaan,↓Zaau,↓Zack,↓bxPut,↓Zabj,↓Zabh,↓Zacl,↓bxRes_cell,↓Zaco,↓Zaaz,↓Zaay,Zacj,Zabs,Zabe,List.map,List.nil_append,List.append_nil,↓reduceIte,Nat.reduceEqDiff,Nat.reduceLT,and_self,one1,Option.bind_some, *,argF,List.getD_cons_zero,ldI,faO2,faO3,alQ,Nat.zero_add]

set_option maxHeartbeats 8000000 in
theorem rGains_runs (n:Int) (l:List Off) (w:List Int) (vl vw:Value) (r o r' o':Nat) (H:Heap) (hgr:Grp H) (hL:H.low ≤ H.size) (hl:SlO H vl l r o) (hw:SlI .i64 H vw w r' o') :
    ∃ u H',Runs Tryd.prog S (.fn 8) [.int .i64 n,vl,vw] H u H' ∧ PostG n l w H u H':=by
  suffices h:WCall Tryd.prog S (.fn 8) [.int .i64 n,vl,vw] H (fun u H' => PostG n l w H u H') by
    obtain ⟨u,H',hr,h⟩:=h; exact ⟨u,H',hr,h⟩
  obtain ⟨H1,k1,R1⟩:=Good_runs hS n vl l r o H hl;obtain ⟨a,cap,rfl⟩:=hl.v0;obtain ⟨a',cap',rfl⟩:=hw.v0;have f1:=R1.bx;refine call_of Tryd.func8 rfl (Nat.le_of_ble_eq_true rfl) (hS.no rfl _ _) ?_
  rw [Tryd.ntmps8,Tryd.results8]
  by_cases hck:chk n l = 0
  case neg =>
    have hpo:PostG n l w H (.tuple ⟨[.bool false,.int .i64 (chk n l)]⟩) H1:=⟨false,_,rfl,k1,fun _ => ⟨rfl,rfl⟩,fun h => absurd h hck⟩
    generalize chk n l = e at *;clear hl hw R1 k1
    repeat' (first | simp only [↓Zabr,↓Zabm,↓Zabo,↓Zabq,↓Zaah,↓bxC_loop,↓Zabl,↓Zabp,↓Zaci,↓Zach,↓Zacc,↓Zaai,↓Zaca,↓sxDL_assign,↓sxDL_pick,↓Zabz,↓Zabv,↓sxDL_unOp,↓Zabx,↓Zaby,↓Zacn,↓Zaav,↓Zaar,↓Zaak,↓Zaas,↓Zaaj,↓Zaaq,↓Zaat,↓Zaal,↓bxOp_un,↓Zaan,↓Zaao,↓Zaau,↓Zaap,↓Zack,↓bxPut,↓Zabj,↓Zabk,↓Zabh,↓Zacl,↓Zacm,↓Zaco,↓Zaaz,↓Zaax,↓Zaay,↓dstAt,↓Zaba,Zacj,Zaad,Zabb,Zabs,Zacg,Zabf,List.map,List.nil_append,List.append_nil,↓reduceIte,Nat.reduceEqDiff,Nat.reduceLT,dec_T,not_false_eq_true, *,argF,List.getD_cons_zero,List.getD_cons_succ,Zabf] | (with_reducible first | refine Zabu (by assumption) (by decide +kernel) ?_ | refine Zabt (by decide +kernel) ?_ | refine Zacb (by decide +kernel) ?_ | refine Zabw ?_))
  rw [hck] at f1;have no:∀ X,Keep H X → ¬ GnOk l w → PostG n l w H (.tuple ⟨[.bool false,.int .i64 0]⟩) X:=fun X hk hn => ⟨false,0,rfl,hk,fun h => absurd hck h,fun _ => ⟨rfl,⟨fun h => (by cases h),fun h => absurd h hn⟩⟩⟩
  have l1:=k1.low hL
  by_cases hw0:w.length = 0
  · have hpo:=no H1 k1 (fun h => by have:=h.1; omega)
    have hz:(w.length:Int) = 0:=by omega
    clear hl hw R1 k1 no hck hw0
    repeat' (first | simp only [↓Zabr,↓Zabm,↓Zabo,↓Zabq,↓Zaah,↓bxC_loop,↓Zabl,↓Zabp,↓Zaci,↓Zach,↓Zacc,↓Zaai,↓Zaca,↓sxDL_assign,↓sxDL_pick,↓Zabz,↓Zabv,↓sxDL_unOp,↓Zabx,↓Zaby,↓sxD_same,↓Zacn,↓Zaav,↓Zaar,↓Zaak,↓Zaas,↓Zaaj,↓Zaaq,↓Zaat,↓Zaal,↓bxOp_un,↓Zaan,↓Zaao,↓Zaau,↓Zaap,↓Zack,↓bxPut,↓Zabj,↓Zabk,↓Zabh,↓Zacl,↓Zacm,↓Zaco,↓Zaaz,↓Zaax,↓Zaay,↓dstAt,↓Zaba,Zacj,Zaad,Zabb,Zaac,Zabs,sxGuardB_ft,Zacg,sxIfB_f,Zabf,List.map,List.nil_append,List.append_nil,↓reduceIte,Nat.reduceEqDiff,Nat.reduceLT,dec_T,dec_F,not_true_eq_false, *,argF,List.getD_cons_zero,List.getD_cons_succ,lenI,Zabf] | (with_reducible first | refine Zabu (by assumption) (by decide +kernel) ?_ | refine Zabt (by decide +kernel) ?_ | refine Zacb (by decide +kernel) ?_ | refine Zabw ?_))
  have hz:¬ (w.length:Int) = 0:=by omega
  have hwp:0 < w.length:=by omega
  obtain ⟨⟨n2,n6⟩,-,-⟩:=chk_zero hck
  by_cases hwn:n < (w.length:Int)
  · have hng:¬ GnOk l w:=by
      rintro ⟨_,h2,h3,_⟩;have hrng:=fun k (hk:k < w.length) => (wk_off hck h2 hk).1
      have key:∀ k,k ≤ w.length → ∃ b,Rch l w n k b:=fun k => by
        induction k with
        | zero => exact fun _ => ⟨_,Rch.zero⟩
        | succ k ih =>
          intro hk;obtain ⟨b,hb⟩:=ih (by omega)
          have h4:=hrng k (by omega)
          obtain ⟨c,hc⟩:∃ c:Nat,(offW l w k).t = (c:Int):=⟨(offW l w k).t.toNat,by omega⟩
          refine ⟨_,hb.next (c:=c) (by omega) ?_ hc⟩
          cases hbc:b.getD c false with
          | false => rfl
          | true =>
            obtain ⟨j,hj,he⟩:=(hb.iff c).1 hbc;exact absurd (he.trans hc.symm) (h3.1 j k hj (by omega))
      obtain ⟨b,hb⟩:=key w.length (Nat.le_refl _);have:=hb.le (by omega) hrng
      omega
    have hpo:=no H1 k1 hng;clear hl hw R1 k1 no hck hw0 hng
    repeat' (first | simp only [↓Zabr,↓Zabm,↓Zabo,↓Zabq,↓Zaah,↓bxC_loop,↓Zabl,↓Zabp,↓Zaci,↓Zach,↓Zacc,↓Zaai,↓Zaca,↓sxDL_assign,↓sxDL_pick,↓Zabz,↓Zabv,↓sxDL_unOp,↓Zabx,↓Zaby,↓sxD_same,↓Zacn,↓Zaav,↓Zaar,↓Zaak,↓Zaas,↓Zaaj,↓Zaaq,↓Zaat,↓Zaal,↓bxOp_un,↓Zaan,↓Zaao,↓Zaau,↓Zaap,↓Zack,↓bxPut,↓Zabj,↓Zabk,↓Zabh,↓Zacl,↓Zacm,↓Zaco,↓Zaaz,↓Zaax,↓Zaay,↓dstAt,↓Zaba,Zacj,Zaad,Zabb,Zaac,Zaab,Zabs,sxGuardB_ft,Zacd,Zacg,sxIfB_f,Zabf,List.map,List.nil_append,List.append_nil,↓reduceIte,Nat.reduceEqDiff,Nat.reduceLT,dec_T,dec_F,not_true_eq_false, *,argF,List.getD_cons_zero,List.getD_cons_succ,lenI,Zabf] | (with_reducible first | refine Zabu (by assumption) (by decide +kernel) ?_ | refine Zabt (by decide +kernel) ?_ | refine Zacb (by decide +kernel) ?_ | refine Zabw ?_))
  obtain ⟨bb,R2,hbb⟩:=Walk_runs hS l w _ _ r o r' o' (H1.relow H1.size) (Nat.le_refl _) ((hl.keep k1).keep (Keep.relowS H1)) ((hw.keep k1).keep (Keep.relowS H1));obtain ⟨Ha,H2,k2,l2,f2,d2⟩:=drawn l1 ⟨_,Keep.refl _,R2⟩;have k02:=k1.trans k2;cases hbv:bb with
  | false =>
    rw [hbv] at f2 hbb;have hpo:=no H2 k02 (fun h => by have:=hbb.2 h.2.1; cases this)
    clear hl hw R1 R2 k1 k2 k02 no hck hbb hbv hw0
    repeat' (first | simp only [↓Zabr,↓Zabm,↓Zabo,↓Zabq,↓Zaah,↓bxC_loop,↓Zabl,↓Zabp,↓Zaci,↓Zach,↓Zacc,↓Zaai,↓Zaca,↓sxDL_assign,↓sxDL_pick,↓Zabz,↓Zabv,↓sxDL_unOp,↓Zabx,↓Zaby,↓sxD_same,↓Zacn,↓Zaav,↓Zaar,↓Zaak,↓Zaas,↓Zaaj,↓Zaaq,↓Zaat,↓Zaal,↓bxOp_un,↓Zaan,↓Zaao,↓Zaau,↓Zaap,↓Zack,↓bxPut,↓Zabj,↓Zabk,↓Zabh,↓Zacl,↓Zacm,↓Zaco,↓Zaaz,↓Zaax,↓Zaay,↓dstAt,↓Zaba,Zacj,Zaad,Zabb,una_nf,Zaac,Zaab,Zabs,sxGuardB_ft,Zacd,Zacg,sxIfB_f,Zabf,List.map,List.nil_append,List.append_nil,↓reduceIte,Nat.reduceEqDiff,Nat.reduceLT,dec_F,not_true_eq_false, *,argF,List.getD_cons_zero,List.getD_cons_succ,lenI,Zabf] | (with_reducible first | refine Zabu (by assumption) (by decide +kernel) ?_ | refine Zabt (by decide +kernel) ?_ | refine Zacb (by decide +kernel) ?_ | refine Zabw ?_))
  | true =>
  rw [hbv] at f2 hbb;have hwk:WkOk l w:=hbb.1 rfl;have hw2:=hw.keep k02;have hl2:=hl.keep k02;obtain ⟨p,hp⟩:∃ p,w.length = p + 1:=⟨w.length - 1,by omega⟩
  have hpl:p < w.length:=by omega
  have hwl:IntKind.i64.wrap ((w.length:Int) - 1) = (p:Int):=by
    have:=hw.ml;have:Go.maxLen = 9223372036854775807:=rfl;rw [IntWalk.i64_in _ (by omega)]; omega
  obtain ⟨j1,j2,j3,j4⟩:=wk_at hl2 (hwk.1 0 hwp);obtain ⟨g1,g2,g3,g4⟩:=wk_at hl2 (hwk.1 p hpl);have ix0:aIndexAt Tryd.prog 23 (.slice a' w.length cap') (.int .i64 0) = some (.pointer (some ⟨r',o',none⟩)):=SlI_ix' hw2 hwp;have rd0:H2.read r' o' 1 = some [.int .i64 (w.getD 0 0)]:=(hw2.rdI hwp).1;have ixp:=SlI_ix' hw2 hpl;have rdp:=(hw2.rdI hpl).1;have hwlp:w.length - 1 = p:=by omega
  by_cases hcl:(offW l w p).t = (offW l w 0).f
  case neg =>
    have hpo:=no H2 k02 (fun h => hcl (by have:=h.2.2.2.1; rwa [hwlp] at this))
    generalize (offW l w p).t = u1 at *;generalize (offW l w 0).f = u2 at *;clear hl hw hl2 hw2 R1 R2 k1 k2 k02 no hck hbb hbv hw0 hp hwlp hwk j2 j4 g2 g3
    repeat' (first | simp only [↓Zabr,↓Zabm,↓Zabo,↓Zabq,↓Zaah,↓bxC_loop,↓Zabl,↓Zabp,↓Zaci,↓Zach,↓Zacc,↓Zaai,↓Zaca,↓sxDL_assign,↓sxDL_pick,↓Zabz,↓Zabv,↓sxDL_unOp,↓Zabx,↓Zaby,↓sxD_same,↓Zacn,↓Zaav,↓Zaar,↓Zaak,↓Zaas,↓Zaaj,↓Zaaq,↓Zaat,↓Zaal,↓bxOp_un,↓Zaan,↓Zaao,↓Zaau,↓Zaap,↓Zack,↓bxPut,↓Zabj,↓Zabk,↓Zabh,↓Zacl,↓Zacm,↓Zaco,↓Zaaz,↓Zaax,↓Zaay,↓dstAt,↓Zaba,Zacj,Zaad,Zabb,una_nt,Zaab,Zabs,Zacd,Zacg,sxIfB_f,Zabf,List.map,List.nil_append,List.append_nil,↓reduceIte,Nat.reduceEqDiff,Nat.reduceLT,dec_T,dec_F,Zaaa,Nat.add_zero,one1,Option.bind_some,not_true_eq_false,not_false_eq_true, *,argF,List.getD_cons_zero,List.getD_cons_succ,lenI,ldI,faO0,faO1,Zabf,Nat.add_zero] | (with_reducible first | refine Zabu (by assumption) (by decide +kernel) ?_ | refine Zabt (by decide +kernel) ?_ | refine Zacb (by decide +kernel) ?_ | refine Zabw ?_))
  have hclW:(offW l w (w.length - 1)).t = (offW l w 0).f:=by rw [hwlp]; exact hcl
  have htf:=trl_froms hwp hwk hclW;have hclW2:=hclW;have hrng:=fun k (hk:k < w.length) => wk_off hck hwk hk
  have hpr:=pr_rng (l:=l) (w:=w) (fun k hk => (hrng k hk).2.2)
  obtain ⟨H3,v3,k3,g3',q3,R3⟩:=Frac_all hS 1 1 H2 (k02.grp hgr) l2 (by decide) (by decide) (by decide) (by decide)
  have f3:=R3.bx;have k03:=k02.trans k3;obtain ⟨H4,e4,k4,z4,-,-⟩:=box1 H3 [.bool false,.slice none 0 0,.bool false,.slice none 0 0] 37;have ow4:Own H4 H3.size 37 [.bool false,.slice none 0 0,.bool false,.slice none 0 0]:=e4 ▸ Own.new H3 _ _;obtain ⟨H5,p5,s5,ow5,qo5,-,kp5⟩:=storeQ ow4 QShape.empty (q3.keep k4);have q5:=qo5 _ _ _ (q3.keep k4);have k5:=kp5 H3 k4 (Nat.le_refl _);have q5:QV H5 v3 (prN l w 0) (prD l w 0):=q5;rw [hcl] at g4;generalize (offW l w 0).f = s0 at j3 g4;clear R1 R2 R3 ow4 qo5 kp5 hbb hbv hw0 j2 j4 g2 g3 hl2 hw2 q3 hp hwlp hclW hcl
  repeat' (first | simp only [↓Zabr,↓Zabm,↓Zabo,↓Zabq,↓Zaah,↓bxC_loop,↓Zabl,↓Zabp,↓Zaci,↓Zach,↓Zacc,↓Zaai,↓Zaca,↓sxDL_assign,↓sxDL_pick,↓Zabz,↓Zabv,↓sxDL_unOp,↓Zabx,↓Zaby,↓sxD_same,↓Zacn,↓Zaav,↓Zaar,↓Zaak,↓Zaas,↓Zaaj,↓Zaaq,↓Zaat,↓Zaal,↓bxOp_un,↓Zaan,↓Zaao,↓Zaau,↓Zaap,↓Zack,↓bxPut,↓Zabj,↓Zabk,↓Zabh,↓Zacl,↓Zacm,↓Zaco,↓Zaaz,↓Zaax,↓Zaay,↓dstAt,↓Zaba,Zacj,Zaad,Zabb,una_nt,Zaab,Zabs,Zacd,sxIfB_f,Zabf,List.map,List.nil_append,List.append_nil,↓reduceIte,Nat.reduceEqDiff,Nat.reduceLT,dec_F,Zaaa,Nat.add_zero,one1,Option.bind_some,not_true_eq_false, *,argF,List.getD_cons_zero,List.getD_cons_succ,lenI,ldI,faO0,faO1,alQ,Zabf,Nat.add_zero] | (with_reducible first | refine Zabu (by assumption) (by decide +kernel) ?_ | refine Zabt (by decide +kernel) ?_ | refine Zacb (by decide +kernel) ?_ | refine Zabw ?_))
  clear e4 p5 f1 f2 f3 d2 ix0 rd0 ixp rdp j1 j3 g1 g4;refine sxL_of (fun m ρ X => ∃ (k:Nat) (v:Value),m = w.length - k ∧ k ≤ w.length ∧ Keep H3 X ∧ Own X H3.size 37 v.cells.toList ∧ QV X v (prN l w k) (prD l w k) ∧ (∀ i,i < k → ∀ j,j < i → (offW l w j).f ≠ (offW l w i).f) ∧ ρ 1 = .slice a l.length cap ∧ ρ 2 = .slice a' w.length cap' ∧ ρ 9 = .pointer (some ⟨H3.size,0,none⟩) ∧ ρ 10 = .int .i64 (k:Int))
    ⟨0,v3,rfl,Nat.zero_le _,k5,ow5,q5,fun i hi => absurd hi (Nat.not_lt_zero i),rfl,rfl,rfl,rfl⟩ ?_
  clear k5 ow5 q5 s5;rintro m ρ X ⟨k,v,rfl,hk,kX,owX,qX,hall,e1,e2,e9,e10⟩;have kHX:=k03.trans kX;have gX:=kHX.grp hgr;have lX:=kHX.low hL;have hml:=hw.ml;have hp:=hpr k hk;have hp50:=pow50 (show k ≤ 6 by omega)
  by_cases hkw:k < w.length
  case neg =>
    have hlt:¬ (k:Int) < (w.length:Int):=by omega
    have hke:k = w.length:=by omega
    have ldX:=own_ldQ owX qX;obtain ⟨vb,Xb,X2,kb,l2',fb,db,qb⟩:=drawnQ lX (Frac_all hS 1 1 (X.relow X.size) ((Keep.relowS X).grp gX) (Nat.le_refl _) (by decide) (by decide) (by decide) (by decide))
    have g2:=kb.grp gX;obtain ⟨Xc,X3,kc,l3,fc,dc⟩:=drawn l2' (Cmp_all hS v vb (prN l w k) (prD l w k) 1 1 (X2.relow X2.size) ((Keep.relowS X2).grp g2) (Nat.le_refl _) ((qX.keep kb).addr) qb.addr (by omega) (by decide))
    rw [Int.mul_one,Int.one_mul] at fc;have hgn:0 < sgn3 (prN l w k) (prD l w k) ↔ GnOk l w:=by
      rw [sgn3_more,hke];rw [hke] at hall;exact ⟨fun h => ⟨hwp,hwk,htf.2 hall,hclW2,h⟩,fun h => h.2.2.2.2⟩
    have hpo:PostG n l w H (.tuple ⟨[.bool (decide (0 < sgn3 (prN l w k) (prD l w k))),.int .i64 0]⟩) X3:=⟨_,0,rfl,(kHX.trans kb).trans kc,fun h => absurd hck h,fun _ => ⟨rfl,by rw [decide_eq_true_iff]; exact hgn⟩⟩
    generalize sgn3 (prN l w k) (prD l w k) = sg at *;clear hl hw kHX kX kb kc hgn hke hkw hk owX qX qb hp hp50 hpr hrng hwk no hck htf hclW2 g2 gX hall
    repeat' (first | simp only [↓Zabr,↓Zabm,↓Zabo,↓Zabq,↓Zaah,↓bxC_loop,↓Zabl,↓Zabn,↓Zaci,↓Zach,↓Zacc,↓Zaai,↓Zaca,↓Zabz,↓Zaby,↓sxD_same,↓Zacn,↓Zaar,↓Zaak,↓Zaaq,↓Zaat,↓Zaal,↓Zaao,↓Zaau,↓Zaap,↓Zack,↓bxPut,↓Zabj,↓Zabi,↓Zaaf,↓Zaae,↓Zabd,↓Zabc,↓Zaco,↓Zaaz,↓Zaax,↓Zaay,Zacj,Zaad,Zabb,Zabs,sxIfB_f,List.map,List.nil_append,List.append_nil,↓reduceIte,Nat.reduceEqDiff,Nat.reduceLT,dec_F,Zaaa,ne_eq, *,lenI] | (with_reducible first | refine Zabu (by assumption) (by decide +kernel) ?_ | refine Zabt (by decide +kernel) ?_ | refine Zacb (by decide +kernel) ?_ | refine Zabw ?_))
  have hlt:(k:Int) < (w.length:Int):=by omega
  have hwi:=wrap_succ hkw hml
  repeat' (first | simp only [↓Zabr,↓Zabm,↓Zabo,↓Zabq,↓Zaah,↓bxC_loop,↓Zabl,↓Zabn,↓Zaci,↓Zach,↓Zacc,↓Zaai,↓Zaca,↓Zabz,↓Zaby,↓Zacn,↓Zaar,↓Zaak,↓Zaaq,↓Zaat,↓Zaal,↓Zaao,↓Zaau,↓Zaap,↓Zack,↓bxPut,↓Zabj,↓Zabi,↓Zaaf,↓Zaae,↓Zabd,↓Zabc,↓Zaco,↓Zaaz,↓Zaax,↓Zaay,Zacj,Zaad,Zabb,Zabs,Zacg,List.nil_append,↓reduceIte,Nat.reduceEqDiff,Nat.reduceLT,dec_T,ne_eq, *,lenI] | (with_reducible first | refine Zabu (by assumption) (by decide +kernel) ?_ | refine Zabt (by decide +kernel) ?_ | refine Zacb (by decide +kernel) ?_ | refine Zabw ?_))
  refine sxL_of (fun m ρ Y => ∃ j:Nat,m = k - j ∧ j ≤ k ∧ Y = X ∧ (∀ i,i < j → (offW l w i).f ≠ (offW l w k).f) ∧ ρ 1 = .slice a l.length cap ∧ ρ 2 = .slice a' w.length cap' ∧ ρ 9 = .pointer (some ⟨H3.size,0,none⟩) ∧ ρ 10 = .int .i64 (k:Int) ∧ ρ 11 = .int .i64 (j:Int))
    ⟨0,rfl,Nat.zero_le _,rfl,fun i hi => absurd hi (Nat.not_lt_zero i),e1,e2,e9,e10,rfl⟩ ?_
  clear e1 e2 e9 e10 ρ;rintro m ρ Y ⟨j,rfl,hj,rfl,hin,e1,e2,e9,e10,e11⟩;have ixk:=SlI_ix' (hw.keep kHX) hkw;have rdk:=((hw.keep kHX).rdI hkw).1;obtain ⟨j1,j2,j3,-⟩:=wk_at (hl.keep kHX) (hwk.1 k hkw)
  by_cases hjk:j < k
  · have hltj:(j:Int) < (k:Int):=by omega
    have hwj:IntKind.i64.wrap ((j:Int) + 1) = ((j + 1:Nat):Int):=by
      have:Go.maxLen = 9223372036854775807:=rfl;exact IntWalk.i64_in _ (by omega)
    have ixj:=SlI_ix' (hw.keep kHX) (show j < w.length by omega)
    have rdj:=((hw.keep kHX).rdI (show j < w.length by omega)).1
    obtain ⟨g1,g2,g3,-⟩:=wk_at (hl.keep kHX) (hwk.1 j (by omega))
    by_cases he:(offW l w j).f = (offW l w k).f
    · have hpo:=no Y kHX (fun h => htf.1 h.2.2.1 k hkw j hjk he)
      generalize (offW l w j).f = u1 at *;generalize (offW l w k).f = u2 at *;subst he;clear hl hw kHX kX hkw hk owX qX hp hp50 hpr hrng hwk no hck htf hclW2 gX hall hin j2 g2
      repeat' (first | simp only [↓Zabr,↓Zabm,↓Zabo,↓Zabq,↓Zaah,↓Zabl,↓Zabn,↓Zabp,↓Zaci,↓Zach,↓Zacc,↓Zaai,↓Zaca,↓Zabz,↓Zabv,↓Zabx,↓Zaby,↓sxD_same,↓Zacn,↓Zaar,↓Zaak,↓Zaaq,↓Zaal,↓Zaan,↓Zaao,↓bxPut,↓Zabj,↓Zabi,↓Zabk,↓Zaaf,↓Zaag,↓Zaae,↓Zabd,↓Zabc,↓loopQ_ret,↓Zabh,↓Zacl,↓Zacm,↓Zaco,↓Zaaz,↓Zaax,Zacj,Zaad,Zabb,Zacg,Zabf,↓reduceIte,Nat.reduceEqDiff,Nat.reduceLT,dec_T,Zaaa,Nat.add_zero,one1,Option.bind_some,ne_eq, *,ldI,faO0,Zabf,Nat.add_zero] | (with_reducible first | refine Zabu (by assumption) (by decide +kernel) ?_ | refine Zabt (by decide +kernel) ?_ | refine Zacb (by decide +kernel) ?_ | refine Zabw ?_))
    · have hin2:∀ i,i < j + 1 → (offW l w i).f ≠ (offW l w k).f:=fun i hi => by
        rcases Nat.lt_or_ge i j with h | h
        · exact hin i h
        · rw [show i = j by omega]; exact he
      clear hl hw kHX kX hkw hk owX qX hp hp50 hpr hrng hwk no hck htf hclW2 gX hall hin j2 g2;generalize (offW l w j).f = u1 at g3 he;generalize (offW l w k).f = u2 at *
      repeat' (first | simp only [↓Zabr,↓Zabm,↓Zabo,↓Zabq,↓Zaah,↓Zabl,↓Zabn,↓Zabp,↓Zaci,↓Zach,↓Zacc,↓Zaai,↓Zaca,↓Zabz,↓Zabv,↓Zabx,↓Zaby,↓sxD_same,↓Zacn,↓Zaar,↓Zaak,↓Zaaq,↓Zaal,↓Zaan,↓Zaao,↓bxPut,↓Zabj,↓Zabi,↓Zabk,↓Zaaf,↓Zaag,↓Zaae,↓Zabd,↓Zabc,↓loopQ_ret,↓Zabh,↓Zacl,↓Zacm,↓Zaco,↓Zaaz,↓Zaax,Zacj,Zaad,Zabb,Zacg,sxIfB_f,Zabf,↓reduceIte,Nat.reduceEqDiff,Nat.reduceLT,dec_T,dec_F,true_and,Zaaa,Nat.add_zero,one1,Option.bind_some,ne_eq, *,ldI,faO0,Zabf,Nat.add_zero] | (with_reducible first | refine Zabu (by assumption) (by decide +kernel) ?_ | refine Zabt (by decide +kernel) ?_ | refine Zacb (by decide +kernel) ?_ | refine Zabw ?_))
      exact ⟨k - (j + 1),by omega,j + 1,rfl,by omega,hin2,rfl⟩
  have hltj:¬ (j:Int) < (k:Int):=by omega
  have hje:j = k:=by omega
  rw [hje] at hin;have hall2:∀ i,i < k + 1 → ∀ j,j < i → (offW l w j).f ≠ (offW l w i).f:=fun i hi j hji => by
    rcases Nat.lt_or_ge i k with h | h
    · exact hall i h j hji
    · have:i = k:=by omega
      subst this; exact hin j hji
  have ldX:=own_ldQ owX qX;have hr1:=(hrng k hkw).2.2;have hpn:=hpr (k + 1) hkw;have hp50':=pow50 (show k + 1 ≤ 6 by omega)
  obtain ⟨va,Xa,X1,ka,l1',fa,da,qa⟩:=drawnQ lX (rate_runs hS (offW l w k) (Y.relow Y.size) ((Keep.relowS Y).grp gX) (Nat.le_refl _) (by omega) (by omega))
  have g1:=ka.grp gX;obtain ⟨vb,Xb,X2,kb,l2',fb,db,qb⟩:=drawnQ l1' (Mul_all hS v va (prN l w k) (prD l w k) (offW l w k).n (offW l w k).d (X1.relow X1.size) ((Keep.relowS X1).grp g1) (Nat.le_refl _) ((qX.keep ka).addr) qa.addr (by omega) (by omega) (lt20 (by omega)) (lt20' (by omega)) (lt20 (by omega)) (lt20' (by omega)))
  have qb:QV X2 vb (prN l w (k + 1)) (prD l w (k + 1)):=qb;have kab:=ka.trans kb;obtain ⟨Hz,X5,pz,qz,kz,sz,lz,owz,oz,-⟩:=storeQD (kX.trans kab) (Nat.le_refl _) l2' (owX.keep kab) qX.shape.2 qb;have qz5:=oz _ _ _ qb;generalize hxo:offW l w k = x at fa j2;clear hl hw kHX kX hkw hk owX qX hp hp50 hpr hrng hwk no hck htf hclW2 gX hall hin ka kb kab qa qb oz g1 hr1 hpn hp50' hje hxo sz j3
  repeat' (first | simp only [↓Zabr,↓Zabm,↓Zabo,↓Zabq,↓Zaah,↓Zabl,↓Zabn,↓Zabp,↓Zaci,↓Zach,↓Zacc,↓Zaai,↓Zaca,↓Zabz,↓Zabv,↓Zabx,↓Zaby,↓sxD_same,↓Zacn,↓Zaar,↓Zaak,↓Zaaq,↓Zaal,↓Zaan,↓Zaao,↓bxPut,↓Zabj,↓Zabi,↓Zabk,↓Zaaf,↓Zaag,↓Zaae,↓Zabd,↓Zabc,↓loopQ_ret,↓Zabh,↓Zacl,↓Zacm,↓Zaco,↓Zaaz,↓Zaax,Zacj,Zaad,Zabb,sxIfB_f,Zabf,List.map,List.append_nil,↓reduceIte,Nat.reduceEqDiff,Nat.reduceLT,dec_F,true_and,Zaaa,one1,Option.bind_some,ne_eq,Option.map_some, *,ldI,ldO,Zabf] | (with_reducible first | refine Zabu (by assumption) (by decide +kernel) ?_ | refine Zabt (by decide +kernel) ?_ | refine Zacb (by decide +kernel) ?_ | refine Zabw ?_))
  exact ⟨w.length - (k + 1),by omega,k + 1,vb,rfl,by omega,owz,qz5,hall2,rfl⟩
end Go.Proofs.YtcmaipijkjillaaDoor
