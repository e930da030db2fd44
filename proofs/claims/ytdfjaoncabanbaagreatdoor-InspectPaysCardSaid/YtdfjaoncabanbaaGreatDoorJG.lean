/- What a mixture of rows pays against one of columns, by the reference. -/
import Derived.Test.YtdfjaoncabanbaaGreatDoorJF
set_option linter.unusedVariables false
set_option linter.unusedSimpArgs false
set_option linter.unusedSectionVars false

namespace Go.Proofs.YtdfjaoncabanbaaGreatDoor
open Go Go.AM
set_option maxRecDepth 10000

theorem pay_dot {g:List (List Int)} {x y:List Int} {dx dy:Int} (h:PayOk g x dx y dy) {i:Nat} (hi:i < g.length):-1000000000 ≤ dotL (g.getD i []) y y.length ∧ dotL (g.getD i []) y y.length ≤ 1000000000:=by
  obtain ⟨b1,b2,b3,b4,b5,b6,b7,b8,b9⟩:=ok_rng h;have q:∀ k,k ≤ y.length → -(100000000 * (k:Int)) ≤ dotL (g.getD i []) y k ∧ dotL (g.getD i []) y k ≤ 100000000 * (k:Int):=fun k => by
    induction k with
    | zero => intro _; simp [dotL]
    | succ k ih =>
      intro hk;have h1:=ih (by omega)
      have h2:=b8 i k hi (by omega)
      rw [dotL_succ]; omega
  have:=q y.length (Nat.le_refl _);omega
theorem pay_rng {g:List (List Int)} {x y:List Int} {dx dy:Int} (h:PayOk g x dx y dy) {k:Nat} (hk:k ≤ g.length):-(1000000000000000 * (k:Int)) ≤ payS g x y k ∧ payS g x y k ≤ 1000000000000000 * (k:Int):=by
  obtain ⟨b1,b2,b3,b4,b5,b6,b7,b8,b9⟩:=ok_rng h
  induction k with
  | zero => simp [payS]
  | succ k ih =>
    have h1:=ih (by omega)
    have h2:=pay_dot h (show k < g.length by omega)
    have h3:=b9 k (by omega)
    rw [payS_succ];have h4:=Int.mul_le_mul_of_nonneg_left h2.1 h3.1;have h5:=Int.mul_le_mul_of_nonneg_left h2.2 h3.1;have h6:x.getD k 0 * 1000000000 ≤ 1000000 * 1000000000:=Int.mul_le_mul_of_nonneg_right h3.2 (by decide)
    rw [Int.mul_neg] at h4;omega
theorem lt20 {z:Int} (h:-10000000000000000 ≤ z ∧ z ≤ 10000000000000000):(z.natAbs:Int) < 10000 ^ 20:=by rw [big20]; omega
theorem lt20' {z:Int} (h:0 < z ∧ z ≤ 10000000000000000):z < 10000 ^ 20:=by rw [big20]; omega

variable {S:AM.Sys} (hS:Only S 5)
include hS

set_option maxHeartbeats 8000000 in
theorem rPay_runs (g:List (List Int)) (gv v1 v2:Value) (x y:List Int) (dx dy:Int) (r o r1 o1 r2 o2:Nat) (H:Heap) (hdx:R63 dx) (hdy:R63 dy) (hgr:Grp H) (hL:H.low ≤ H.size) (hg:SlG H gv g r o) (hx:SlI .i64 H v1 x r1 o1) (hy:SlI .i64 H v2 y r2 o2) :
    ∃ u H',Runs Tryz.prog S (.fn 7) [gv,.agg ⟨[v1,.int .i64 dx]⟩,.agg ⟨[v2,.int .i64 dy]⟩] H u H' ∧ PostPay g x dx y dy H u H':=by
  suffices h:WCall Tryz.prog S (.fn 7) [gv,.agg ⟨[v1,.int .i64 dx]⟩,.agg ⟨[v2,.int .i64 dy]⟩] H (fun u H' => PostPay g x dx y dy H u H') by
    obtain ⟨u,H',hr,h⟩:=h; exact ⟨u,H',hr,h⟩
  have hgv:=hg.v0;obtain ⟨a,cap,rfl⟩:=hgv;obtain ⟨a1,cap1,rfl⟩:=hx.v0;obtain ⟨a2,cap2,rfl⟩:=hy.v0;obtain ⟨H1,e1,k1,z1,rx2,rx0,rx1⟩:=Q.boxP H (.slice a1 x.length cap1) (.int .i64 dx);obtain ⟨H2,e2,k2,z2,ry2,ry0,ry1⟩:=Q.boxP H1 (.slice a2 y.length cap2) (.int .i64 dy);obtain ⟨H3,e3,k3,z3,ow3,-,-,-⟩:=box2 H2 0 0 29;have k02:=k1.trans k2;have k03:=k02.trans k3;have lo3:=k03.low hL;have zb1:H.size < H2.size:=Nat.lt_of_lt_of_le z1 k2.size;have rx3:=k3.read zb1 (k2.read z1 rx2);have ry3:=k3.read z2 ry2;have zb3:H.size < H3.size:=Nat.lt_of_lt_of_le zb1 k3.size;have zc3:H1.size < H3.size:=Nat.lt_of_lt_of_le z2 k3.size;have hob:=drawn lo3 ⟨_,Keep.refl _,rGame_runs hS g _ r o (H3.relow H3.size) (Nat.le_refl _) ((hg.keep k03).keep (Keep.relowS H3))⟩;obtain ⟨Ha,H4,k4,lo4,f4,fd4⟩:=hob;have k04:=k03.trans k4;refine call_of Tryz.func7 rfl (Nat.le_of_ble_eq_true rfl) (hS.no rfl _ _) ?_
  rw [Tryz.ntmps7,Tryz.results7]
  by_cases h1:IsG g
  case neg =>
    rw [decide_eq_false h1] at f4;obtain ⟨H5,p5,k5,zz5,ow5,-⟩:=stH infR.1 k04 k02.size (ow3.keep k4) (v:=.agg ⟨[.int .i64 0,.int .i64 0]⟩) (new:=[.int .i64 0,.int .i64 0]) rfl infR.2 rfl rfl;obtain ⟨m5,-,-⟩:=own2 ow5;have hpo:PostPay g x dx y dy H (.tuple ⟨[.agg ⟨[.int .i64 0,.int .i64 0]⟩,.int .i64 2]⟩) H5:=⟨0,0,2,rfl,k5,fun _ => ⟨rfl,rfl,rfl⟩,fun h => absurd h.1 h1⟩
    clear hg hx hy h1 ow3 ow5 k1 k2 k3 k02 k03 k4 k04 k5 hgr zz5
    repeat' (first | simp only [↓Zabr,↓Zabm,↓Zabo,↓Zabq,↓Zaaf,↓Zaag,↓Zabl,↓Zabp,↓Zaci,↓Zach,↓Zacb,↓Zaah,↓Zabz,↓sxDL_pick,↓Zaby,↓sxDL_unOp,↓Zabx,↓sxD_same,↓Zacn,↓Zaaw,↓Zaar,↓Zaaj,↓Zaas,↓Zaai,↓Zaal,↓bxOp_build,↓Zaaq,↓Zaat,↓bxOp_un,↓Zaao,↓bxOp_extract,↓Zaau,↓Zaap,↓Zack,↓bxPut,↓Zabj,↓Zabk,↓Zabh,↓Zacl,↓Zacm,↓Zaav,↓Zaco,↓Zaba,↓Zaay,↓Zaaz,↓dstAt,↓Zabb,Zacj,una_nf,aPick_true,Zabs,sxGuardB_ft,Zacg,packRes_two,List.map,List.nil_append,List.append_nil,↓reduceIte,Nat.reduceEqDiff,Nat.reduceLT,Option.map_some, *,argF,List.getD_cons_zero,List.getD_cons_succ,alR,bdR0,ldRt,cells2] | (with_reducible first | refine Zabu (by assumption) (by decide +kernel) ?_ | refine Zabt (by decide +kernel) ?_ | refine Zaca (by decide +kernel) ?_ | refine Zabv ?_))
  rw [decide_eq_true h1] at f4;have hgl:=h1.1;have hgl2:=h1.2.1;have hob:=drawn lo4 (rMix_runs hS _ x dx (g.length:Int) 1000000 hdx (by decide) (by omega) r1 o1 (H4.relow H4.size) (Nat.le_refl _) ((hx.keep k04).keep (Keep.relowS H4)))
  obtain ⟨Hb,H5,k5,lo5,f5,fd5⟩:=hob;have k05:=k04.trans k5;have rx4:=k4.read zb3 rx3;have ry4:=k4.read zc3 ry3
  by_cases h2:Mix x dx (g.length:Int) 1000000
  case neg =>
    rw [decide_eq_false h2] at f5;obtain ⟨H6,p5,k6,zz5,ow5,-⟩:=stH infR.1 k05 k02.size ((ow3.keep k4).keep k5) (v:=.agg ⟨[.int .i64 0,.int .i64 0]⟩) (new:=[.int .i64 0,.int .i64 0]) rfl infR.2 rfl rfl;obtain ⟨m5,-,-⟩:=own2 ow5;have hpo:PostPay g x dx y dy H (.tuple ⟨[.agg ⟨[.int .i64 0,.int .i64 0]⟩,.int .i64 2]⟩) H6:=⟨0,0,2,rfl,k6,fun _ => ⟨rfl,rfl,rfl⟩,fun h => absurd h.2.1 h2⟩
    clear hg hx hy h1 h2 ow3 ow5 k1 k2 k3 k02 k03 k4 k04 k5 k05 k6 hgr hgl hgl2 zz5
    repeat' (first | simp only [↓Zabr,↓Zabm,↓Zabo,↓Zabq,↓Zaaf,↓Zaag,↓Zabl,↓Zabp,↓Zaci,↓Zach,↓Zacb,↓Zaah,↓Zabz,↓sxDL_pick,↓Zaby,↓sxDL_unOp,↓Zabx,↓sxD_same,↓Zacn,↓Zaaw,↓Zaar,↓Zaaj,↓Zaas,↓Zaai,↓Zaal,↓bxOp_build,↓Zaaq,↓Zaat,↓bxOp_un,↓Zaao,↓bxOp_extract,↓Zaau,↓Zaap,↓Zack,↓bxPut,↓Zabj,↓Zabk,↓Zabh,↓Zacl,↓Zacm,↓Zaav,↓Zaco,↓Zaba,↓Zaay,↓Zaaz,↓dstAt,↓Zabb,Zacj,una_nt,una_nf,aPick_true,Zaab,Zabs,sxGuardB_ft,Zacc,Zacg,packRes_two,List.map,List.nil_append,List.append_nil,↓reduceIte,Nat.reduceEqDiff,Nat.reduceLT,Zaaa,Option.map_some, *,argF,List.getD_cons_zero,List.getD_cons_succ,alR,bdR0,ldRt,cells2,Q.ldP,lenG] | (with_reducible first | refine Zabu (by assumption) (by decide +kernel) ?_ | refine Zabt (by decide +kernel) ?_ | refine Zaca (by decide +kernel) ?_ | refine Zabv ?_))
  rw [decide_eq_true h2] at f5;have hob:=SlG_at (hg.keep k05) (k:=0) (by omega)
  obtain ⟨ix0,xv0,r00,o00,rd00,s00⟩:=hob;obtain ⟨a00,c00,rfl⟩:=s00.v0;have ix0:aIndexAt Tryz.prog 22 (.slice a g.length cap) (.int .i64 0) = some (.pointer (some ⟨r,o,none⟩)):=ix0;have rd00:H5.read r o 1 = some [.slice a00 (g.getD 0 default).length c00]:=rd00;obtain ⟨gw,hgw⟩:∃ gw,(g.getD 0 default).length = gw:=⟨_,rfl⟩;rw [hgw] at rd00;have hob:=drawn lo5 (rMix_runs hS _ y dy (gw:Int) 1000000 hdy (by decide) (by omega) r2 o2 (H5.relow H5.size) (Nat.le_refl _) ((hy.keep k05).keep (Keep.relowS H5)))
  obtain ⟨Hc,H6,k6,lo6,f6,fd6⟩:=hob;have k06:=k05.trans k6;have ry5:=k5.read (Nat.lt_of_lt_of_le zc3 k4.size) ry4
  by_cases h3:Mix y dy (gw:Int) 1000000
  case neg =>
    rw [decide_eq_false h3] at f6;obtain ⟨H7,p5,k7,zz5,ow5,-⟩:=stH infR.1 k06 k02.size (((ow3.keep k4).keep k5).keep k6) (v:=.agg ⟨[.int .i64 0,.int .i64 0]⟩) (new:=[.int .i64 0,.int .i64 0]) rfl infR.2 rfl rfl;obtain ⟨m5,-,-⟩:=own2 ow5;have hpo:PostPay g x dx y dy H (.tuple ⟨[.agg ⟨[.int .i64 0,.int .i64 0]⟩,.int .i64 2]⟩) H7:=⟨0,0,2,rfl,k7,fun _ => ⟨rfl,rfl,rfl⟩,fun h => absurd (by have:=h.2.2; rwa [hgw] at this) h3⟩
    clear hg hx hy h1 h2 h3 ow3 ow5 k1 k2 k3 k02 k03 k4 k04 k5 k05 k6 k06 k7 hgr hgl hgl2 hgw s00 zz5
    repeat' (first | simp only [↓Zabr,↓Zabm,↓Zabo,↓Zabq,↓Zaaf,↓Zaag,↓Zabl,↓Zabp,↓Zaci,↓Zach,↓Zacb,↓Zaah,↓Zabz,↓sxDL_pick,↓Zaby,↓sxDL_unOp,↓Zabx,↓sxD_same,↓Zacn,↓Zaaw,↓Zaar,↓Zaaj,↓Zaas,↓Zaai,↓Zaal,↓bxOp_build,↓Zaaq,↓Zaat,↓bxOp_un,↓Zaao,↓bxOp_extract,↓Zaau,↓Zaap,↓Zack,↓bxPut,↓Zabj,↓Zabk,↓Zabh,↓Zacl,↓Zacm,↓Zaav,↓Zaco,↓Zaba,↓Zaay,↓Zaaz,↓dstAt,↓Zabb,Zacj,una_nt,una_nf,Zaab,Zabs,Zacc,Zacg,packRes_two,List.map,List.nil_append,List.append_nil,↓reduceIte,Nat.reduceEqDiff,Nat.reduceLT,Zaaa,one1,Option.bind_some,Option.map_some, *,argF,List.getD_cons_zero,List.getD_cons_succ,alR,bdR0,ldRt,cells2,Q.ldP,lenG,lenI,ldIs,one1] | (with_reducible first | refine Zabu (by assumption) (by decide +kernel) ?_ | refine Zabt (by decide +kernel) ?_ | refine Zaca (by decide +kernel) ?_ | refine Zabv ?_))
  rw [decide_eq_true h3] at f6;have hok:PayOk g x dx y dy:=⟨h1,h2,by rw [hgw]; exact h3⟩
  obtain ⟨b1,b2,b3,b4,b5,b6,b7,b8,b9⟩:=ok_rng hok;have b1a:=Nat.le_of_eq b1;have b1b:=Nat.le_of_eq b1.symm;have zx6:=Nat.lt_of_lt_of_le (Nat.lt_of_lt_of_le (Nat.lt_of_lt_of_le zb3 k4.size) k5.size) k6.size;have zy6:=Nat.lt_of_lt_of_le (Nat.lt_of_lt_of_le (Nat.lt_of_lt_of_le zc3 k4.size) k5.size) k6.size;have rx6:=k6.read (Nat.lt_of_lt_of_le (Nat.lt_of_lt_of_le zb3 k4.size) k5.size) (k5.read (Nat.lt_of_lt_of_le zb3 k4.size) rx4);have ry6:=k6.read (Nat.lt_of_lt_of_le (Nat.lt_of_lt_of_le zc3 k4.size) k5.size) ry5;have ow6:=((ow3.keep k4).keep k5).keep k6;have g6:=k06.grp hgr;have hd0:0 < dx * dy:=Int.mul_pos (by omega) (by omega)
  have hd1:dx * dy ≤ 1000000 * 1000000:=Int.mul_le_mul b5.2 b6.2 (by omega) (by decide)
  obtain ⟨H7,v7,k7,g7,q7,R7⟩:=Frac_any hS 0 1 H6 g6 (k06.low hL) (by decide) (by decide) (by decide)
  have f7:=R7.bx;have q7:QV H7 v7 0 (dx * dy):=q7.as (by decide) (by simp)
  have k07:=k06.trans k7;obtain ⟨H8,e8,k8,z8,-,-⟩:=box1 H7 [.bool false,.slice none 0 0,.bool false,.slice none 0 0] 48;have ow8:Own H8 H7.size 48 [.bool false,.slice none 0 0,.bool false,.slice none 0 0]:=e8 ▸ Own.new H7 _ _;obtain ⟨H9,p9,s9,ow9,qo9,-,kp9⟩:=storeQ ow8 QShape.empty (q7.keep k8);have q9:=qo9 _ _ _ (q7.keep k8);have k9:=kp9 H7 k8 (Nat.le_refl _);have rx7:=k7.read zx6 rx6;have ry7:=k7.read zy6 ry6;have ow7:=ow6.keep k7;have zx7:=Nat.lt_of_lt_of_le zx6 k7.size;have zy7:=Nat.lt_of_lt_of_le zy6 k7.size;have p0:payS g x y 0 = 0:=rfl;rw [← p0] at q9;have l06:=k06.low hL;clear h1 h2 h3 hgl hgl2 hgw s00 b1 R7 rx0 rx1 ry0 ry1 ow3 ow6 ow8 q7 qo9 kp9 p0 k4 k5 k6 k03 k04 k05 rx6 ry6
  repeat' (first | simp only [↓Zabr,↓Zabm,↓Zabo,↓Zabq,↓Zaaf,↓Zaag,↓Zabl,↓Zabp,↓Zaci,↓Zach,↓Zacb,↓Zaah,↓Zabz,↓sxDL_pick,↓Zaby,↓sxDL_unOp,↓Zabx,↓sxD_same,↓Zacn,↓Zaaw,↓Zaar,↓Zaaj,↓Zaas,↓Zaai,↓Zaal,↓bxOp_build,↓Zaaq,↓Zaat,↓bxOp_un,↓Zaao,↓bxOp_extract,↓Zaau,↓Zaap,↓Zack,↓bxPut,↓Zabj,↓Zabk,↓Zabh,↓Zacl,↓Zacm,↓Zaav,↓Zaco,↓Zaba,↓Zaay,↓Zaaz,↓dstAt,↓Zabb,Zacj,una_nt,Zaab,Zabs,Zacc,Zacf,packRes_two,List.map,List.nil_append,List.append_nil,↓reduceIte,Nat.reduceEqDiff,Nat.reduceLT,Zaaa,one1,Option.bind_some,Option.map_some, *,argF,List.getD_cons_zero,List.getD_cons_succ,alR,alQ,cells2,Q.ldP,lenG,lenI,ldIs,one1] | (with_reducible first | refine Zabu (by assumption) (by decide +kernel) ?_ | refine Zabt (by decide +kernel) ?_ | refine Zaca (by decide +kernel) ?_ | refine Zabv ?_))
  clear e1 e2 e3 e8 p9 f4 f5 f6 f7 fd4 fd5 fd6 rx3 ry3 rx4 ry4 ry5 rd00 ix0 rx2 ry2;refine sxL_of (fun m ρ X => ∃ (k:Nat) (v:Value),m = g.length - k ∧ k ≤ g.length ∧ Keep H7 X ∧ Own X H7.size 48 v.cells.toList ∧ QV X v (payS g x y k) (dx * dy) ∧ ρ 0 = .slice a g.length cap ∧ ρ 4 = .pointer (some ⟨H.size,0,none⟩) ∧ ρ 5 = .pointer (some ⟨H1.size,0,none⟩) ∧ ρ 6 = .pointer (some ⟨H2.size,0,none⟩) ∧ ρ 8 = .pointer (some ⟨H7.size,0,none⟩) ∧ ρ 9 = .int .i64 (k:Int))
    ⟨0,v7,rfl,Nat.zero_le _,k9,ow9,q9,rfl,rfl,rfl,rfl,rfl,rfl⟩ ?_
  clear k9 ow9 q9 s9;rintro m ρ X ⟨k,v,rfl,hk,kX,owX,qX,e0,e4,e5,e6,e8,e9⟩;have kHX:=k07.trans kX;have gX:=kHX.grp hgr;have lX:=kHX.low hL;have ldX:=own_ldQ owX qX;have hpk:=pay_rng hok hk
  by_cases hkl:k < g.length
  case neg =>
    have hlt:¬ (k:Int) < (g.length:Int):=by omega
    have hke:k = g.length:=by omega
    rw [hke] at qX;obtain ⟨X2,kb,R6⟩:=ToRatio_runs hS v (payS g x y g.length) (dx * dy) X gX lX qX hd0 (by rw [hke] at hpk; omega)
    have f6:=R6.bx;have hrt':∃ rt,rat (payS g x y g.length) (dx * dy) = rt:=⟨_,rfl⟩;obtain ⟨rt,hrt⟩:=hrt';rw [hrt] at f6;have kb0:=kHX.trans kb;obtain ⟨X3,e10,kc,zc,owc,-,-,-⟩:=box2 X2 0 0 29;have kc0:=kb0.trans kc;obtain ⟨X4,p4,kd,zd,owd,oth⟩:=stH infR.1 kc0 kb0.size owc (v:=.agg ⟨[.int .i64 rt.1,.int .i64 rt.2]⟩) (new:=[.int .i64 rt.1,.int .i64 rt.2]) rfl infR.2 rfl rfl;obtain ⟨m4,-,-⟩:=own2 owd;have hne:H2.size ≠ X2.size:=by
      have h1:=ow7.lt;have h2:=kX.size;have h4:=kb.size;omega
    have ow5:=oth _ _ _ hne ((ow7.keep kX).keep (kb.trans kc));obtain ⟨X5,p5,ke,ze,owe,-⟩:=stH infR.1 kd k02.size ow5 (v:=.agg ⟨[.int .i64 rt.1,.int .i64 rt.2]⟩) (new:=[.int .i64 rt.1,.int .i64 rt.2]) rfl infR.2 rfl rfl;obtain ⟨m5,-,-⟩:=own2 owe;have hpo:PostPay g x dx y dy H (.tuple ⟨[.agg ⟨[.int .i64 rt.1,.int .i64 rt.2]⟩,.int .i64 0]⟩) X5:=⟨rt.1,rt.2,0,rfl,ke,fun h => absurd hok h,fun _ => ⟨rfl,hrt.symm⟩⟩
    clear hg hx hy k1 k2 k3 k02 k07 k7 kX kHX kb kb0 kc kc0 kd ke R6 hok hrt hke hkl hk hpk owX qX ow7 owc owd ow5 owe oth hne zd ze zc b7 b8 b9 b1a b1b hd0 hd1
    repeat' (first | simp only [↓Zabr,↓Zabm,↓Zabo,↓Zabq,↓Zaaf,↓Zabl,↓Zabn,↓Zaci,↓Zach,↓Zacb,↓Zaah,↓Zabz,↓Zaby,↓Zacn,↓Zaar,↓Zaaj,↓Zaaq,↓Zaat,↓Zaak,↓Zaau,↓Zaap,↓Zack,↓bxPut,↓Zabj,↓Zabi,↓Zaae,↓Zaad,↓Zabe,↓Zabd,↓Zaco,↓Zaba,↓Zaay,↓Zaaz,Zacj,Zaac,Zabc,Zabs,Zacf,List.map,List.nil_append,List.append_nil,↓reduceIte,Nat.reduceEqDiff,Nat.reduceLT,dec_F,Option.map_some, *,lenG,alR,ldRt,ex20,ex21] | (with_reducible first | refine Zabu (by assumption) (by decide +kernel) ?_ | refine Zabt (by decide +kernel) ?_ | refine Zaca (by decide +kernel) ?_ | refine Zabv ?_))
  have hlt:(k:Int) < (g.length:Int):=by omega
  have hw:IntKind.i64.wrap ((k:Int) + 1) = ((k + 1:Nat):Int):=IntWalk.i64_in _ (by omega)
  have hkx:k < x.length:=by omega
  have rxX:=kX.read zx7 rx7;have ryX:=kX.read zy7 ry7;have hpd:=pay_dot hok hkl;have h9:=b9 k hkx;have hrow:=b7 k hkl;have hob:=drawnQ lX (rPart_runs hS _ x dx k r1 o1 (X.relow X.size) ((Keep.relowS X).grp gX) (Nat.le_refl _) ((hx.keep kHX).keep (Keep.relowS X)) hkx (by omega) b5.2)
  obtain ⟨va,Xa,X1,ka,l1,fa,da,qa⟩:=hob;have g1:=ka.grp gX;have kH1:=kHX.trans ka;have ryX1:=ka.read (Nat.lt_of_lt_of_le zy7 kX.size) ryX;have hob:=drawnQ l1 (rRow_runs hS g _ _ y dy k r o r2 o2 (X1.relow X1.size) ((Keep.relowS X1).grp g1) (Nat.le_refl _) ((hg.keep kH1).keep (Keep.relowS X1)) ((hy.keep kH1).keep (Keep.relowS X1)) hkl (by omega) (by omega) b4 (by omega) hpd)
  obtain ⟨vb,Xb,X2,kb,l2,fb,db,qb⟩:=hob;have g2:=kb.grp g1;have hob:=drawnQ l2 (Mul_all hS va vb (x.getD k 0) dx (dotL (g.getD k []) y y.length) dy (X2.relow X2.size) ((Keep.relowS X2).grp g2) (Nat.le_refl _) ((qa.keep kb).addr) qb.addr (by omega) (by omega) (lt20 (by omega)) (lt20' (by omega)) (lt20 (by omega)) (lt20' (by omega)))
  obtain ⟨vc,Xc,X3,kc,l3,fc,dc,qc⟩:=hob;have g3:=kc.grp g2;have kab:=(ka.trans kb).trans kc;have hps:=payS_succ g x y k;have hp2:=pay_rng hok (show k + 1 ≤ g.length from hkl)
  have hob:=drawnQ l3 (Add_all hS v vc (payS g x y k) (dx * dy) (x.getD k 0 * dotL (g.getD k []) y y.length) (dx * dy) (X3.relow X3.size) ((Keep.relowS X3).grp g3) (Nat.le_refl _) ((qX.keep kab).addr) qc.addr hd0 hd0 (lt20 (by omega)) (lt20' (by omega)) (lt20 (by omega)) (lt20' (by omega)))
  obtain ⟨vd,Xd,X4,kd,l4,fd,dd,qd⟩:=hob;have qd:QV X4 vd (payS g x y (k + 1)) (dx * dy):=qd.as (Int.mul_pos hd0 hd0) (by rw [hps,← Int.add_mul,Int.mul_assoc])
  have kad:=kab.trans kd;obtain ⟨Hz,X5,pz,qz,kz,sz,lz,owz,oz,-⟩:=storeQD (kX.trans kad) (Nat.le_refl _) l4 (owX.keep kad) qX.shape.2 qd;have qz5:=oz _ _ _ qd;clear hg hx hy k1 k2 k3 k02 k07 k7 kX kHX owX qX ow7 b7 b8 b9 b1a b1b hok hkx hk ka kb kc kd kab kad kH1 hps hp2 qa qb qc qd hpk hpd h9 hrow g1 g2 g3 gX oz hd0 hd1
  repeat' (first | simp only [↓Zabr,↓Zabm,↓Zabo,↓Zabq,↓Zaaf,↓Zabl,↓Zabn,↓Zaci,↓Zach,↓Zacb,↓Zaah,↓Zabz,↓Zaby,↓sxD_same,↓Zacn,↓Zaar,↓Zaaj,↓Zaaq,↓Zaat,↓Zaak,↓Zaau,↓Zaap,↓Zack,↓bxPut,↓Zabj,↓Zabi,↓Zaae,↓Zaad,↓Zabe,↓Zabd,↓Zaco,↓Zaba,↓Zaay,↓Zaaz,Zacj,Zaac,Zabc,Zabs,Zacg,List.map,List.nil_append,List.append_nil,↓reduceIte,Nat.reduceEqDiff,Nat.reduceLT,dec_T,true_and,Zaaa,Option.map_some, *,lenG,Q.ldP] | (with_reducible first | refine Zabu (by assumption) (by decide +kernel) ?_ | refine Zabt (by decide +kernel) ?_ | refine Zaca (by decide +kernel) ?_ | refine Zabv ?_))
  exact ⟨g.length - (k + 1),by omega,k + 1,vd,rfl,by omega,owz,qz5,rfl⟩
end Go.Proofs.YtdfjaoncabanbaaGreatDoor
