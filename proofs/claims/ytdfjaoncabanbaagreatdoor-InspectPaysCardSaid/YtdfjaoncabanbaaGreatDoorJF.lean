/- The best answer to a mixture of rows, by the reference. -/
import Derived.Test.YtdfjaoncabanbaaGreatDoorJE
set_option linter.unusedVariables false
set_option linter.unusedSimpArgs false
set_option linter.unusedSectionVars false

namespace Go.Proofs.YtdfjaoncabanbaaGreatDoor
open Go Go.AM
set_option maxRecDepth 10000

theorem sgn3_less {x y:Int}:sgn3 x y < 0 ↔ x < y:=by
  unfold sgn3;split
  · exact ⟨fun _ => by omega,fun _ => by decide⟩
  · split
    · exact ⟨fun h => absurd h (by decide),fun _ => by omega⟩
    · exact ⟨fun h => absurd h (by decide),fun _ => by omega⟩

variable {S:AM.Sys} (hS:Only S 5)
include hS

set_option maxHeartbeats 8000000 in
theorem rAnswer_runs (g:List (List Int)) (gv v1:Value) (x:List Int) (dx:Int) (r o r1 o1:Nat) (H:Heap) (hdx:R63 dx) (hgr:Grp H) (hL:H.low ≤ H.size) (hg:SlG H gv g r o) (hx:SlI .i64 H v1 x r1 o1) :
    ∃ u H',Runs Tryz.prog S (.fn 9) [gv,.agg ⟨[v1,.int .i64 dx]⟩] H u H' ∧ PostAns g x dx H u H':=by
  suffices h:WCall Tryz.prog S (.fn 9) [gv,.agg ⟨[v1,.int .i64 dx]⟩] H (fun u H' => PostAns g x dx H u H') by
    obtain ⟨u,H',hr,h⟩:=h; exact ⟨u,H',hr,h⟩
  obtain ⟨a,cap,rfl⟩:=hg.v0;obtain ⟨a1,cap1,rfl⟩:=hx.v0;obtain ⟨H1,e1,k1,z1,rx2,rx0,rx1⟩:=Q.boxP H (.slice a1 x.length cap1) (.int .i64 dx);obtain ⟨H2,e2,k2,z2,ow2,-,-,-⟩:=box2 H1 0 0 29;have k02:=k1.trans k2;have z12:H.size < H2.size:=Nat.lt_of_lt_of_le z1 k2.size;have R3:=rGame_runs hS g _ r o H2 (k02.low hL) (hg.keep k02);have f3:=R3.bx;have rx2':=k2.read z1 rx2;refine call_of Tryz.func9 rfl (Nat.le_of_ble_eq_true rfl) (hS.no rfl _ _) ?_
  rw [Tryz.ntmps9,Tryz.results9]
  by_cases h1:IsG g
  case neg =>
    rw [decide_eq_false h1] at f3;obtain ⟨H5,p5,k5,zz5,ow5,-⟩:=stH infR.1 k02 k1.size ow2 (v:=.agg ⟨[.int .i64 0,.int .i64 0]⟩) (new:=[.int .i64 0,.int .i64 0]) rfl infR.2 rfl rfl;obtain ⟨m5,-,-⟩:=own2 ow5;have hpo:PostAns g x dx H (.tuple ⟨[.int .i64 0,.agg ⟨[.int .i64 0,.int .i64 0]⟩,.int .i64 2]⟩) H5:=⟨0,0,0,2,rfl,k5,fun _ => ⟨rfl,rfl,rfl,rfl⟩,fun h => absurd h.1 h1⟩
    clear hg hx h1 ow2 ow5 k1 k2 k02 k5 hgr R3
    repeat' (first | simp only [↓Zabr,↓Zabm,↓Zabo,↓Zabq,↓Zaaf,↓Zaag,↓Zabl,↓Zabp,↓Zaci,↓Zach,↓Zacb,↓Zaah,↓Zabz,↓sxDL_assign,↓Zaby,↓Zacn,↓Zaaw,↓Zaar,↓Zaaj,↓Zaas,↓Zaai,↓Zaal,↓bxOp_build,↓Zaaq,↓Zaat,↓bxOp_un,↓bxOp_extract,↓Zaau,↓Zaap,↓Zack,↓bxPut,↓Zabj,↓Zabk,↓Zabh,↓Zacl,↓Zacm,↓Zaav,↓Zaco,↓Zaba,↓Zaay,↓Zaaz,↓dstAt,↓Zabb,Zacj,una_nf,aPick_true,Zabs,sxGuardB_ft,Zacg,packRes_two,List.map,List.nil_append,List.append_nil,↓reduceIte,Nat.reduceEqDiff,Nat.reduceLT,Option.map_some, *,argF,List.getD_cons_zero,List.getD_cons_succ,alR,bdR0,ldRt,cells2] | (with_reducible first | refine Zabu (by assumption) (by decide +kernel) ?_ | refine Zabt (by decide +kernel) ?_ | refine Zaca (by decide +kernel) ?_ | refine Zabv ?_))
  rw [decide_eq_true h1] at f3;have hgl:=h1.1;have hgl2:=h1.2.1;obtain ⟨H4,k4,R4⟩:=rMix_runs hS _ x dx (g.length:Int) 1000000 hdx (by decide) (by omega) r1 o1 H2 (k02.low hL) (hx.keep k02)
  have f4:=R4.bx;have k04:=k02.trans k4
  by_cases h2:Mix x dx (g.length:Int) 1000000
  case neg =>
    rw [decide_eq_false h2] at f4;obtain ⟨H5,p5,k5,zz5,ow5,-⟩:=stH infR.1 k04 k1.size (ow2.keep k4) (v:=.agg ⟨[.int .i64 0,.int .i64 0]⟩) (new:=[.int .i64 0,.int .i64 0]) rfl infR.2 rfl rfl;obtain ⟨m5,-,-⟩:=own2 ow5;have hpo:PostAns g x dx H (.tuple ⟨[.int .i64 0,.agg ⟨[.int .i64 0,.int .i64 0]⟩,.int .i64 2]⟩) H5:=⟨0,0,0,2,rfl,k5,fun _ => ⟨rfl,rfl,rfl,rfl⟩,fun h => absurd h.2 h2⟩
    clear hg hx h1 h2 ow2 ow5 k1 k2 k02 k4 k04 k5 hgr R3 R4 hgl hgl2
    repeat' (first | simp only [↓Zabr,↓Zabm,↓Zabo,↓Zabq,↓Zaaf,↓Zaag,↓Zabl,↓Zabp,↓Zaci,↓Zach,↓Zacb,↓Zaah,↓Zabz,↓sxDL_assign,↓Zaby,↓Zacn,↓Zaaw,↓Zaar,↓Zaaj,↓Zaas,↓Zaai,↓Zaal,↓bxOp_build,↓Zaaq,↓Zaat,↓bxOp_un,↓bxOp_extract,↓Zaau,↓Zaap,↓Zack,↓bxPut,↓Zabj,↓Zabk,↓Zabh,↓Zacl,↓Zacm,↓Zaav,↓Zaco,↓Zaba,↓Zaay,↓Zaaz,↓dstAt,↓Zabb,Zacj,una_nt,una_nf,Zaab,Zabs,Zacc,Zacg,packRes_two,List.map,List.nil_append,List.append_nil,↓reduceIte,Nat.reduceEqDiff,Nat.reduceLT,Option.map_some, *,argF,List.getD_cons_zero,List.getD_cons_succ,alR,bdR0,ldRt,cells2,Q.ldP,lenG] | (with_reducible first | refine Zabu (by assumption) (by decide +kernel) ?_ | refine Zabt (by decide +kernel) ?_ | refine Zaca (by decide +kernel) ?_ | refine Zabv ?_))
  rw [decide_eq_true h2] at f4;have hok:AnsOk g x dx:=⟨h1,h2⟩;obtain ⟨b1,b2,b3,b4,b5,b6,b7,b8⟩:=ans_rng hok;have z14:H.size < H4.size:=Nat.lt_of_lt_of_le z12 k4.size;have rx4:=k4.read z12 rx2';have ow4:=ow2.keep k4;have hob:=SlG_at hg (k:=0) b3;obtain ⟨ix0,xv,r2,o2,rd0,sx⟩:=hob;obtain ⟨ax,cx,rfl⟩:=sx.v0;have ix0:aIndexAt Tryz.prog 22 (.slice a g.length cap) (.int .i64 0) = some (.pointer (some ⟨r,o,none⟩)):=ix0;have rd0:H.read r o 1 = some [.slice ax (g.getD 0 default).length cx]:=rd0;obtain ⟨n,hn⟩:∃ n,(g.getD 0 default).length = n:=⟨_,rfl⟩;rw [hn] at rd0 b5 b6;clear b1 b7 b8 h1 h2 hgl hgl2 R3 R4 rx0 rx1 sx ow2
  repeat' (first | simp only [↓Zabr,↓Zabm,↓Zabo,↓Zabq,↓Zaaf,↓Zaag,↓Zabl,↓Zabp,↓Zaci,↓Zach,↓Zacb,↓Zaah,↓Zabz,↓sxDL_assign,↓Zaby,↓Zacn,↓Zaaw,↓Zaar,↓Zaaj,↓Zaas,↓Zaai,↓Zaal,↓bxOp_build,↓Zaaq,↓Zaat,↓bxOp_un,↓bxOp_extract,↓Zaau,↓Zaap,↓Zack,↓bxPut,↓Zabj,↓Zabk,↓Zabh,↓Zacl,↓Zacm,↓Zaav,↓Zaco,↓Zaba,↓Zaay,↓Zaaz,↓dstAt,↓Zabb,Zacj,una_nt,Zaab,Zabs,Zacc,Zacf,packRes_two,List.map,List.nil_append,List.append_nil,↓reduceIte,Nat.reduceEqDiff,Nat.reduceLT,Option.map_some, *,argF,List.getD_cons_zero,List.getD_cons_succ,alR,cells2,Q.ldP,lenG] | (with_reducible first | refine Zabu (by assumption) (by decide +kernel) ?_ | refine Zabt (by decide +kernel) ?_ | refine Zaca (by decide +kernel) ?_ | refine Zabv ?_))
  clear e1 e2 f3 f4 rx2 rx2';refine sxL_of (fun m ρ X => ∃ k b:Nat,m = n - k ∧ k ≤ n ∧ Keep H4 X ∧ Arg (colS g x) k b ∧ ρ 0 = .slice a g.length cap ∧ ρ 3 = .pointer (some ⟨H.size,0,none⟩) ∧ ρ 5 = .pointer (some ⟨H1.size,0,none⟩) ∧ ρ 7 = .int .i64 (b:Int) ∧ ρ 8 = .int .i64 (k:Int))
    ⟨1,0,rfl,b5,Keep.refl _,Arg.one,rfl,rfl,rfl,rfl,rfl⟩ ?_
  rintro m ρ X ⟨k,b,rfl,hk,kX,har,e0,e3,e5,e7,e8⟩;have kHX:=k04.trans kX;have gX:=kHX.grp hgr;have lX:=kHX.low hL;have rx4X:=kX.read z14 rx4;have rd0X:=kHX.read (hg.lt b3) rd0
  by_cases hkl:k < n
  case neg =>
    have hlt:¬ (k:Int) < (n:Int):=by omega
    have hke:k = n:=by omega
    rw [hke] at har;have hcr:=colS_rng hok (show b < (g.getD 0 default).length by have:=har.1; omega)
    obtain ⟨X1,vq,ka,g1,hq,R5⟩:=rCol_runs hS g _ _ x dx b r o r1 o1 X gX lX (hg.keep kHX) (hx.keep kHX) hok (by have:=har.1; omega)
    have f5:=R5.bx;have k01:=kHX.trans ka;obtain ⟨X2,kb,R6⟩:=ToRatio_runs hS vq (colS g x b) dx X1 g1 (k01.low hL) hq (by omega) (by omega)
    have f6:=R6.bx;have hrt':∃ rt,rat (colS g x b) dx = rt:=⟨_,rfl⟩;obtain ⟨rt,hrt⟩:=hrt';rw [hrt] at f6;have kb0:=k01.trans kb;obtain ⟨X3,e9,kc,zc,owc,-,-,-⟩:=box2 X2 0 0 29;have kc0:=kb0.trans kc;obtain ⟨X4,p4,kd,zd,owd,oth⟩:=stH infR.1 kc0 kb0.size owc (v:=.agg ⟨[.int .i64 rt.1,.int .i64 rt.2]⟩) (new:=[.int .i64 rt.1,.int .i64 rt.2]) rfl infR.2 rfl rfl;obtain ⟨m4,-,-⟩:=own2 owd;have lod:=kd.low hL;have hne:H1.size ≠ X2.size:=by
      have h1:=ow4.lt;have h2:=kX.size;have h3:=ka.size;have h4:=kb.size;omega
    have ow5:=oth _ _ _ hne (((ow4.keep kX).keep ka).keep (kb.trans kc));obtain ⟨Hc,Hd,pc,qc,kz,zz,ld,-,owz,-⟩:=stG infR.1 kd k1.size (kd.low hL) ow5 (v:=.agg ⟨[.int .i64 rt.1,.int .i64 rt.2]⟩) (new:=[.int .i64 rt.1,.int .i64 rt.2]) rfl infR.2 rfl rfl;obtain ⟨m9,-,-⟩:=own2 owz;have hpo:PostAns g x dx H (.tuple ⟨[.int .i64 (b:Int),.agg ⟨[.int .i64 rt.1,.int .i64 rt.2]⟩,.int .i64 0]⟩) Hd:=⟨b,rt.1,rt.2,0,rfl,kz,fun h => absurd hok h,fun _ => ⟨rfl,b,rfl,by rw [hn]; exact har,hrt.symm⟩⟩
    clear hg hx k1 k2 k02 k4 k04 kX kHX ka k01 kb kb0 kc kc0 kd R5 R6 hok hcr hrt har hke hkl hk owc owd oth ow5 owz ow4 hn hq hne zd zz zc
    repeat' (first | simp only [↓Zabr,↓Zabm,↓Zabo,↓Zabq,↓Zaaf,↓Zabl,↓Zabn,↓Zaci,↓Zach,↓Zacb,↓Zaah,↓Zabz,↓Zaby,↓sxDL_binOp,↓sxD_same,↓Zacn,↓Zaar,↓Zaaj,↓Zaaq,↓Zaak,↓Zaao,↓Zaau,↓Zaap,↓bxPut,↓Zabj,↓Zabi,↓Zaae,↓Zaad,↓Zabe,↓Zabd,↓Zaco,↓Zaba,↓Zaay,↓Zaaz,Zacj,Zaac,Zabc,Zabs,Zacf,List.map,List.nil_append,List.append_nil,↓reduceIte,Nat.reduceEqDiff,Nat.reduceLT,dec_F,Zaaa,one1,Option.bind_some,Option.map_some, *,lenI,ldIs,Q.ldP,alR,ldRt,ex20,ex21] | (with_reducible first | refine Zabu (by assumption) (by decide +kernel) ?_ | refine Zabt (by decide +kernel) ?_ | refine Zaca (by decide +kernel) ?_ | refine Zabv ?_))
  have hlt:(k:Int) < (n:Int):=by omega
  have hw:IntKind.i64.wrap ((k:Int) + 1) = ((k + 1:Nat):Int):=IntWalk.i64_in _ (by omega)
  have hob:=drawnQ lX (rCol_runs hS g _ _ x dx k r o r1 o1 (X.relow X.size) ((Keep.relowS X).grp gX) (Nat.le_refl _) ((hg.keep kHX).keep (Keep.relowS X)) ((hx.keep kHX).keep (Keep.relowS X)) hok (by omega))
  obtain ⟨va,Xa,X1,ka,l1,fa,da,qa⟩:=hob;have g1:=ka.grp gX;have kH1:=kHX.trans ka;have rx41:=ka.read (Nat.lt_of_lt_of_le z14 kX.size) rx4X;have hob:=drawnQ l1 (rCol_runs hS g _ _ x dx b r o r1 o1 (X1.relow X1.size) ((Keep.relowS X1).grp g1) (Nat.le_refl _) ((hg.keep kH1).keep (Keep.relowS X1)) ((hx.keep kH1).keep (Keep.relowS X1)) hok (by have:=har.1; omega))
  obtain ⟨vb,Xb,X2,kb,l2,fb,db,qb⟩:=hob;have g2:=kb.grp g1;have hob:=drawn l2 (Cmp_all hS va vb (colS g x k) dx (colS g x b) dx (X2.relow X2.size) ((Keep.relowS X2).grp g2) (Nat.le_refl _) ((qa.keep kb).addr) qb.addr (by omega) (by omega))
  obtain ⟨Xc,X3,kc,l3,fc,dc⟩:=hob;rw [sgn3_mul (show 0 < dx by omega)] at fc
  have k43:=((kX.trans ka).trans kb).trans kc;have hsg:=sgn3_less (x:=colS g x k) (y:=colS g x b)
  by_cases hc:colS g x k < colS g x b
  · have har2:=har.less hc;have hs:=hsg.2 hc;have hsd:decide (sgn3 (colS g x k) (colS g x b) < 0) = true:=decide_eq_true hs;clear hg hx k1 k2 k02 k4 k04 kX kHX ka kb kc kH1 hok har hk ow4 hn qa qb hc hsg hs g1 g2 gX
    repeat' (first | simp only [↓Zabr,↓Zabm,↓Zabo,↓Zabq,↓Zaaf,↓Zabl,↓Zabn,↓Zaci,↓Zach,↓Zacb,↓Zaah,↓Zabz,↓Zaby,↓sxDL_binOp,↓sxD_same,↓Zacn,↓Zaar,↓Zaaj,↓Zaaq,↓Zaak,↓Zaao,↓Zaau,↓Zaap,↓bxPut,↓Zabj,↓Zabi,↓Zaae,↓Zaad,↓Zabe,↓Zabd,↓Zaco,↓Zaba,↓Zaay,↓Zaaz,Zacj,Zaac,Zabc,Zabs,Zacg,List.map,List.nil_append,List.append_nil,↓reduceIte,Nat.reduceEqDiff,Nat.reduceLT,dec_T,true_and,Zaaa,one1,Option.bind_some,Option.map_some, *,lenI,ldIs,Q.ldP] | (with_reducible first | refine Zabu (by assumption) (by decide +kernel) ?_ | refine Zabt (by decide +kernel) ?_ | refine Zaca (by decide +kernel) ?_ | refine Zabv ?_))
    exact ⟨n - (k + 1),by omega,k + 1,k,rfl,by omega,har2,rfl,rfl⟩
  · have har2:=har.stay (by omega)
    have hs:=fun h => hc (hsg.1 h)
    have hsd:decide (sgn3 (colS g x k) (colS g x b) < 0) = false:=decide_eq_false hs;clear hg hx k1 k2 k02 k4 k04 kX kHX ka kb kc kH1 hok har hk ow4 hn qa qb hc hsg hs g1 g2 gX
    repeat' (first | simp only [↓Zabr,↓Zabm,↓Zabo,↓Zabq,↓Zaaf,↓Zabl,↓Zabn,↓Zaci,↓Zach,↓Zacb,↓Zaah,↓Zabz,↓Zaby,↓sxDL_binOp,↓sxD_same,↓Zacn,↓Zaar,↓Zaaj,↓Zaaq,↓Zaak,↓Zaao,↓Zaau,↓Zaap,↓bxPut,↓Zabj,↓Zabi,↓Zaae,↓Zaad,↓Zabe,↓Zabd,↓Zaco,↓Zaba,↓Zaay,↓Zaaz,Zacj,Zaac,Zabc,Zabs,Zacg,Zacf,List.map,List.nil_append,List.append_nil,↓reduceIte,Nat.reduceEqDiff,Nat.reduceLT,dec_T,true_and,Zaaa,one1,Option.bind_some,Option.map_some, *,lenI,ldIs,Q.ldP] | (with_reducible first | refine Zabu (by assumption) (by decide +kernel) ?_ | refine Zabt (by decide +kernel) ?_ | refine Zaca (by decide +kernel) ?_ | refine Zabv ?_))
    exact ⟨n - (k + 1),by omega,k + 1,b,rfl,by omega,har2,rfl,rfl⟩
end Go.Proofs.YtdfjaoncabanbaaGreatDoor
