/- What a row and a column pay, by the reference; a part. -/
import Derived.Test.YtdfjaoncabanbaaDoorBD2
import Derived.Test.YtdfjaoncabanbaaDoorJB
set_option linter.unusedVariables false
set_option linter.unusedSimpArgs false
set_option linter.unusedSectionVars false

namespace Go.Proofs.YtdfjaoncabanbaaDoor
open Go Go.AM
set_option maxRecDepth 10000

theorem big20:(10000:Int) ^ 20 = 100000000000000000000000000000000000000000000000000000000000000000000000000000000:=by decide

variable {S:AM.Sys} (hS:Only S 5)
include hS

set_option maxHeartbeats 4000000 in
theorem rCol_runs (g:List (List Int)) (gv v1:Value) (x:List Int) (dx:Int) (j:Nat) (r o r1 o1:Nat) (H:Heap) (hgr:Grp H) (hL:H.low ≤ H.size) (hg:SlG H gv g r o) (hx:SlI .i64 H v1 x r1 o1) (hok:AnsOk g x dx) (hj:j < (g.getD 0 default).length) :
    QOut S 39 [gv,.int .i64 (j:Int),.agg ⟨[v1,.int .i64 dx]⟩] H (colS g x j) dx:=by
  suffices h:WCall Tryd.prog S (.fn 39) [gv,.int .i64 (j:Int),.agg ⟨[v1,.int .i64 dx]⟩] H (fun v H' => Keep H H' ∧ Grp H' ∧ QV H' v (colS g x j) dx) by
    obtain ⟨v,H',hr,h1,h2,h3⟩:=h; exact ⟨H',v,h1,h2,h3,hr⟩
  have hcr:=colS_rng hok hj;obtain ⟨b1,b2,b3,b4,b5,b6,b7,b8⟩:=ans_rng hok;have b1a:=Nat.le_of_eq b1;have b1b:=Nat.le_of_eq b1.symm;clear b1;obtain ⟨a,cap,rfl⟩:=hg.v0;obtain ⟨a1,cap1,rfl⟩:=hx.v0;obtain ⟨H1,e1,k1,z1,rx2,rx0,rx1⟩:=Q.boxP H (.slice a1 x.length cap1) (.int .i64 dx);obtain ⟨H2,e2,k2,z2,-,-⟩:=box1 H1 [.bool false,.slice none 0 0,.bool false,.slice none 0 0] 68;have ow2:Own H2 H1.size 68 [.bool false,.slice none 0 0,.bool false,.slice none 0 0]:=e2 ▸ Own.new H1 _ _;have k02:=k1.trans k2;obtain ⟨H3,v3,k3,g3,bg3,R3⟩:=Of_runs hS 0 H2 (k02.grp hgr) (k02.low hL) (by decide)
  have f3:=R3.bx;have k03:=k02.trans k3;obtain ⟨H4,e4,k4,z4,-,-⟩:=box1 H3 [.bool false,.slice none 0 0] 66;have ow4:Own H4 H3.size 66 [.bool false,.slice none 0 0]:=e4 ▸ Own.new H3 _ _;obtain ⟨H5,p5,s5,ow5,bg5,-,kp5⟩:=storeB ow4 BShape.empty (bg3.keep k4);have k5:=kp5 H3 k4 (Nat.le_refl _);have rx0':=k3.read (Nat.lt_of_lt_of_le z1 k2.size) (k2.read z1 rx0);have rx1':=k3.read (Nat.lt_of_lt_of_le z1 k2.size) (k2.read z1 rx1);have ow3:=ow2.keep k3;have z3:H.size < H3.size:=Nat.lt_of_lt_of_le z1 (k2.trans k3).size;have z3b:H1.size < H3.size:=Nat.lt_of_lt_of_le z2 k3.size;refine Zaaw Tryd.func39 rfl (Nat.le_of_ble_eq_true rfl) (hS.no rfl _ _) ?_
  rw [Tryd.ntmps39,Tryd.results39];clear R3 rx2 rx0 rx1 ow2 bg3 ow4 kp5
  repeat' simp only [↓Zabo,↓Zabq,↓Zaah,↓Zabl,↓Zabp,↓Zaci,↓Zach,↓Zacn,↓Zaaj,↓bxOp_alloc,↓Zaal,↓Zaaq,↓Zaat,↓Zaan,↓Zaau,↓Zack,↓bxPut,↓Zabj,↓Zabh,↓Zacl,↓bxRes_cell,↓Zaco,↓Zaba,↓Zaay,↓Zaaz,Zacj,Zabs,Zabf,List.map,List.nil_append,List.append_nil,↓reduceIte,Nat.reduceEqDiff,Nat.reduceLT, *,argF,List.getD_cons_zero,List.getD_cons_succ,alQ,alBig,Q.cells_agg]
  clear e1 e2 e4 p5 f3;refine sxL_of (fun m ρ X => ∃ (k:Nat) (v:Value),m = g.length - k ∧ k ≤ g.length ∧ Keep H3 X ∧ Own X H3.size 66 v.cells.toList ∧ BigIs X v (dotL (colT g j g.length) x k) (5 + 11 * k) ∧ ρ 0 = .slice a g.length cap ∧ ρ 1 = .int .i64 (j:Int) ∧ ρ 5 = .pointer (some ⟨H.size,0,none⟩) ∧ ρ 6 = .pointer (some ⟨H1.size,0,none⟩) ∧ ρ 7 = .pointer (some ⟨H3.size,0,none⟩) ∧ ρ 8 = .int .i64 (k:Int))
    ⟨0,v3,rfl,Nat.zero_le _,k5,ow5,bg5,rfl,rfl,rfl,rfl,rfl,rfl⟩ ?_
  clear k5 ow5 bg5 s5;rintro m ρ X ⟨k,v,rfl,hk,kX,owX,bgX,e0,e1,e5,e6,e7,e8⟩;have kHX:=k03.trans kX;have gX:=kHX.grp hgr;have lX:=kHX.low hL;have ldX:=own_ldB owX bgX
  by_cases hkl:k < g.length
  case neg =>
    have hlt:¬ (k:Int) < (g.length:Int):=by omega
    have hke:k = x.length:=by omega
    rw [hke] at bgX;have bgX:BigIs X v (colS g x j) (5 + 11 * x.length):=bgX;have rx1X:=kX.read z3 rx1';have owq:=ow3.keep kX;have hob:=rOver_runs hS v (colS g x j) dx _ X gX lX bgX (by omega) (by rw [big20]; omega) (by omega) b4.2
    obtain ⟨H6,vq,k6,g6,hq,R6⟩:=hob;have f6:=R6.bx;obtain ⟨H7,ps,hld,hq7,hkp⟩:=retQV (owq.keep k6) hq;have hK7:=hkp H (kHX.trans k6) k1.size;have hg7:=hK7.grp hgr;clear hg hx k1 k2 k02 k3 k03 k4 kX kHX owX bgX owq R6 hq hkp ow3 b7 b8 hcr hok hke hkl hk k6
    repeat' (first | simp only [↓Zabr,↓Zabm,↓Zabo,↓Zabq,↓Zaag,↓Zabl,↓Zabn,↓Zaci,↓Zach,↓Zacb,↓Zaai,↓Zabz,↓Zaby,↓Zabw,↓Zabx,↓Zacn,↓Zaar,↓Zaaj,↓Zaaq,↓Zaat,↓Zaak,↓Zaan,↓Zaao,↓Zaau,↓Zaap,↓Zack,↓bxPut,↓Zabj,↓Zabi,↓Zaaf,↓Zaae,↓Zabe,↓Zabd,↓Zaco,↓Zaba,↓Zaay,↓Zaaz,Zacj,Zaad,Zabc,Zabs,Zacf,List.map,List.nil_append,List.append_nil,↓reduceIte,Nat.reduceEqDiff,Nat.reduceLT,dec_F,and_self,one1,Option.bind_some, *,lenG,Q.fldP1,ldI,Nat.zero_add] | (with_reducible first | refine Zabu (by assumption) (by decide +kernel) ?_ | refine Zabt (by decide +kernel) ?_ | refine Zaca (by decide +kernel) ?_ | refine Zabv ?_))
  have hlt:(k:Int) < (g.length:Int):=by omega
  have hw:IntKind.i64.wrap ((k:Int) + 1) = ((k + 1:Nat):Int):=IntWalk.i64_in _ (by omega)
  have hob:=SlG_at (hg.keep kHX) hkl;obtain ⟨ixk,xv,r2,o2,rdk,sx⟩:=hob;obtain ⟨ax,cx,rfl⟩:=sx.v0;have hgd:g.getD k default = g.getD k []:=rfl;rw [hgd] at sx rdk;have hjr:j < (g.getD k []).length:=by rw [b7 k hkl]; exact hj
  have ixj:=SlI_ix sx hjr;have hrj:=sx.rdI hjr;obtain ⟨rdj,hzr⟩:=hrj;have h5:IntKind.i64.min = -9223372036854775808:=rfl;have h6:IntKind.i64.max = 9223372036854775807:=rfl;rw [h5,h6] at hzr;obtain ⟨va,Xa,X1,ka,l1,fa,da,ba⟩:=drawnBig lX (Of_runs hS ((g.getD k []).getD j 0) (X.relow X.size) ((Keep.relowS X).grp gX) (Nat.le_refl _) hzr);have g1:=ka.grp gX;have kH1:=kHX.trans ka;have hkx:k < x.length:=by omega
  have ixx:=SlI_ix (hx.keep kH1) hkx;have hrx:=(hx.keep kH1).rdI hkx;obtain ⟨rdx,hzx⟩:=hrx;rw [h5,h6] at hzx;have rx0X:=(kX.trans ka).read z3 rx0';obtain ⟨vb,Xb,X2,kb,l2,fb,db,bb⟩:=drawnBig l1 (Of_runs hS (x.getD k 0) (X1.relow X1.size) ((Keep.relowS X1).grp g1) (Nat.le_refl _) hzx);have g2:=kb.grp g1;obtain ⟨vc,Xc,X3,kc,l3,fc,dc,bc⟩:=drawnBig l2 (Times_runs hS va vb ((g.getD k []).getD j 0) (x.getD k 0) 5 5 (X2.relow X2.size) ((Keep.relowS X2).grp g2) (Nat.le_refl _) ((ba.keep kb).addr0) bb.addr0 (by decide) (by decide))
  have g3:=kc.grp g2;have kab:=(ka.trans kb).trans kc;obtain ⟨vd,Xd,X4,kd,l4,fd,dd,bd⟩:=drawnBig l3 (Plus_runs hS v vc (dotL (colT g j g.length) x k) ((g.getD k []).getD j 0 * x.getD k 0) (5 + 11 * k) 10 (X3.relow X3.size) ((Keep.relowS X3).grp g3) (Nat.le_refl _) ((bgX.keep kab).addr0) bc.addr0 (by omega) (by decide))
  have kad:=kab.trans kd;have hds:dotL (colT g j g.length) x (k + 1) = dotL (colT g j g.length) x k + (g.getD k []).getD j 0 * x.getD k 0:=by rw [dotL_succ,colT_at g j hkl]
  rw [← hds,show 5 + 11 * k + 10 + 1 = 5 + 11 * (k + 1) by omega] at bd
  obtain ⟨Hz,X5,pz,qz,kz,sz,lz,owz,bz,-⟩:=storeBD (kX.trans kad) (Nat.le_refl _) l4 (owX.keep kad) bgX.shape.2 bd;clear hg hx k1 k2 k02 k3 k03 k4 kX kHX owX bgX ow3 b7 b8 hcr hok hkx hk ka kb kc kd kab kad kH1 sx hds hzr hzx ba bb bc bd h5 h6 hjr hgd g1 g2 g3 gX
  repeat' (first | simp only [↓Zabr,↓Zabm,↓Zabo,↓Zabq,↓Zaag,↓Zabl,↓Zabn,↓Zaci,↓Zach,↓Zacb,↓Zaai,↓Zabz,↓Zaby,↓Zabw,↓Zabx,↓sxD_same,↓Zacn,↓Zaar,↓Zaaj,↓Zaaq,↓Zaat,↓Zaak,↓Zaan,↓Zaao,↓Zaau,↓Zaap,↓Zack,↓bxPut,↓Zabj,↓Zabi,↓Zaaf,↓Zaae,↓Zabe,↓Zabd,↓Zaco,↓Zaba,↓Zaay,↓Zaaz,Zacj,Zaad,Zabc,Zabs,Zacg,List.map,List.nil_append,List.append_nil,↓reduceIte,Nat.reduceEqDiff,Nat.reduceLT,dec_T,true_and,Zaaa,one1,Option.bind_some, *,lenG,ldI,ldIs,Q.fldP0] | (with_reducible first | refine Zabu (by assumption) (by decide +kernel) ?_ | refine Zabt (by decide +kernel) ?_ | refine Zaca (by decide +kernel) ?_ | refine Zabv ?_))
  exact ⟨g.length - (k + 1),by omega,k + 1,vd,rfl,by omega,owz,bz,rfl⟩

set_option maxHeartbeats 4000000 in
theorem rRow_runs (g:List (List Int)) (gv v1:Value) (x:List Int) (dx:Int) (i:Nat) (r o r1 o1:Nat) (H:Heap) (hgr:Grp H) (hL:H.low ≤ H.size) (hg:SlG H gv g r o) (hx:SlI .i64 H v1 x r1 o1) (hi:i < g.length) (hl1:(g.getD i []).length ≤ x.length) (hl2:x.length ≤ (g.getD i []).length) (hn:x.length ≤ 5) (b4:0 < dx ∧ dx ≤ 2199023255552) (hcr:-2199023255552000 ≤ dotL (g.getD i []) x x.length ∧ dotL (g.getD i []) x x.length ≤ 2199023255552000) :
    QOut S 40 [gv,.int .i64 (i:Int),.agg ⟨[v1,.int .i64 dx]⟩] H (dotL (g.getD i []) x x.length) dx:=by
  suffices h:WCall Tryd.prog S (.fn 40) [gv,.int .i64 (i:Int),.agg ⟨[v1,.int .i64 dx]⟩] H (fun v H' => Keep H H' ∧ Grp H' ∧ QV H' v (dotL (g.getD i []) x x.length) dx) by
    obtain ⟨v,H',hr,h1,h2,h3⟩:=h; exact ⟨H',v,h1,h2,h3,hr⟩
  have hgm:∃ y,g.getD i [] = y:=⟨_,rfl⟩;obtain ⟨y,hy⟩:=hgm;rw [hy] at hl1 hl2 hcr;rw [hy];obtain ⟨a,cap,rfl⟩:=hg.v0;obtain ⟨a1,cap1,rfl⟩:=hx.v0;obtain ⟨H1,e1,k1,z1,rx2,rx0,rx1⟩:=Q.boxP H (.slice a1 x.length cap1) (.int .i64 dx);obtain ⟨H2,e2,k2,z2,-,-⟩:=box1 H1 [.bool false,.slice none 0 0,.bool false,.slice none 0 0] 68;have ow2:Own H2 H1.size 68 [.bool false,.slice none 0 0,.bool false,.slice none 0 0]:=e2 ▸ Own.new H1 _ _;have k02:=k1.trans k2;obtain ⟨H3,v3,k3,g3,bg3,R3⟩:=Of_runs hS 0 H2 (k02.grp hgr) (k02.low hL) (by decide)
  have f3:=R3.bx;have k03:=k02.trans k3;obtain ⟨H4,e4,k4,z4,-,-⟩:=box1 H3 [.bool false,.slice none 0 0] 66;have ow4:Own H4 H3.size 66 [.bool false,.slice none 0 0]:=e4 ▸ Own.new H3 _ _;obtain ⟨H5,p5,s5,ow5,bg5,-,kp5⟩:=storeB ow4 BShape.empty (bg3.keep k4);have k5:=kp5 H3 k4 (Nat.le_refl _);have rx0':=k3.read (Nat.lt_of_lt_of_le z1 k2.size) (k2.read z1 rx0);have rx1':=k3.read (Nat.lt_of_lt_of_le z1 k2.size) (k2.read z1 rx1);have ow3:=ow2.keep k3;have z3:H.size < H3.size:=Nat.lt_of_lt_of_le z1 (k2.trans k3).size;have z3b:H1.size < H3.size:=Nat.lt_of_lt_of_le z2 k3.size;have hob:=SlG_at hg hi;obtain ⟨ixk,xv,r2,o2,rdk,sx⟩:=hob;obtain ⟨ax,cx,rfl⟩:=sx.v0;have hgd:g.getD i default = y:=hy;rw [hgd] at sx rdk;have hgz:H.size ≤ H3.size:=k03.size;refine Zaaw Tryd.func40 rfl (Nat.le_of_ble_eq_true rfl) (hS.no rfl _ _) ?_
  rw [Tryd.ntmps40,Tryd.results40];clear R3 rx2 rx0 rx1 ow2 bg3 ow4 kp5
  repeat' simp only [↓Zabo,↓Zabq,↓Zaah,↓Zabl,↓Zabp,↓Zaci,↓Zach,↓Zacn,↓Zaaj,↓bxOp_alloc,↓Zaal,↓Zaaq,↓Zaat,↓Zaan,↓Zaau,↓Zack,↓bxPut,↓Zabj,↓Zabh,↓Zacl,↓bxRes_cell,↓Zaco,↓Zaba,↓Zaay,↓Zaaz,Zacj,Zabs,Zabf,List.map,List.nil_append,List.append_nil,↓reduceIte,Nat.reduceEqDiff,Nat.reduceLT, *,argF,List.getD_cons_zero,List.getD_cons_succ,alQ,alBig,Q.cells_agg]
  clear e1 e2 e4 p5 f3;refine sxL_of (fun m ρ X => ∃ (k:Nat) (v:Value),m = y.length - k ∧ k ≤ y.length ∧ Keep H3 X ∧ Own X H3.size 66 v.cells.toList ∧ BigIs X v (dotL y x k) (5 + 11 * k) ∧ ρ 0 = .slice a g.length cap ∧ ρ 1 = .int .i64 (i:Int) ∧ ρ 5 = .pointer (some ⟨H.size,0,none⟩) ∧ ρ 6 = .pointer (some ⟨H1.size,0,none⟩) ∧ ρ 7 = .pointer (some ⟨H3.size,0,none⟩) ∧ ρ 8 = .int .i64 (k:Int))
    ⟨0,v3,rfl,Nat.zero_le _,k5,ow5,bg5,rfl,rfl,rfl,rfl,rfl,rfl⟩ ?_
  clear k5 ow5 bg5 s5;rintro m ρ X ⟨k,v,rfl,hk,kX,owX,bgX,e0,e1,e5,e6,e7,e8⟩;have kHX:=k03.trans kX;have gX:=kHX.grp hgr;have lX:=kHX.low hL;have ldX:=own_ldB owX bgX;have rdkX:=kHX.read (hg.lt (by omega)) rdk
  by_cases hkl:k < y.length
  case neg =>
    have hlt:¬ (k:Int) < (y.length:Int):=by omega
    have hke:k = x.length:=by omega
    rw [hke] at bgX;have bgX:BigIs X v (dotL y x x.length) (5 + 11 * x.length):=bgX;have rx1X:=kX.read z3 rx1';have owq:=ow3.keep kX;have hob:=rOver_runs hS v (dotL y x x.length) dx _ X gX lX bgX (by omega) (by rw [big20]; omega) b4.1 b4.2
    obtain ⟨H6,vq,k6,g6,hq,R6⟩:=hob;have f6:=R6.bx;obtain ⟨H7,ps,hld,hq7,hkp⟩:=retQV (owq.keep k6) hq;have hK7:=hkp H (kHX.trans k6) k1.size;have hg7:=hK7.grp hgr;clear hg hx k1 k2 k02 k3 k03 k4 kX kHX owX bgX owq R6 hq hkp ow3 hcr hke hkl hk k6 sx hl1 hl2 hgd hy
    repeat' (first | simp only [↓Zabr,↓Zabm,↓Zabo,↓Zabq,↓Zaag,↓Zabl,↓Zabn,↓Zaci,↓Zach,↓Zacb,↓Zaai,↓Zabz,↓Zaby,↓Zabw,↓Zabx,↓Zacn,↓Zaar,↓Zaaj,↓Zaaq,↓Zaat,↓Zaak,↓Zaan,↓Zaao,↓Zaau,↓Zaap,↓Zack,↓bxPut,↓Zabj,↓Zabi,↓Zaaf,↓Zaae,↓Zabe,↓Zabd,↓Zaco,↓Zaba,↓Zaay,↓Zaaz,Zacj,Zaad,Zabc,Zabs,Zacf,List.map,List.nil_append,List.append_nil,↓reduceIte,Nat.reduceEqDiff,Nat.reduceLT,dec_F,and_self,one1,Option.bind_some, *,lenI,ldIs,Q.fldP1,ldI,Nat.zero_add] | (with_reducible first | refine Zabu (by assumption) (by decide +kernel) ?_ | refine Zabt (by decide +kernel) ?_ | refine Zaca (by decide +kernel) ?_ | refine Zabv ?_))
  have hlt:(k:Int) < (y.length:Int):=by omega
  have hw:IntKind.i64.wrap ((k:Int) + 1) = ((k + 1:Nat):Int):=IntWalk.i64_in _ (by omega)
  have hjr:=hkl;have sxX:=sx.keep kHX;have ixj:=SlI_ix sxX hjr;have hrj:=sxX.rdI hjr;obtain ⟨rdj,hzr⟩:=hrj;have h5:IntKind.i64.min = -9223372036854775808:=rfl;have h6:IntKind.i64.max = 9223372036854775807:=rfl;rw [h5,h6] at hzr;obtain ⟨va,Xa,X1,ka,l1,fa,da,ba⟩:=drawnBig lX (Of_runs hS (y.getD k 0) (X.relow X.size) ((Keep.relowS X).grp gX) (Nat.le_refl _) hzr);have g1:=ka.grp gX;have kH1:=kHX.trans ka;have hkx:k < x.length:=by omega
  have ixx:=SlI_ix (hx.keep kH1) hkx;have hrx:=(hx.keep kH1).rdI hkx;obtain ⟨rdx,hzx⟩:=hrx;rw [h5,h6] at hzx;have rx0X:=(kX.trans ka).read z3 rx0';obtain ⟨vb,Xb,X2,kb,l2,fb,db,bb⟩:=drawnBig l1 (Of_runs hS (x.getD k 0) (X1.relow X1.size) ((Keep.relowS X1).grp g1) (Nat.le_refl _) hzx);have g2:=kb.grp g1;obtain ⟨vc,Xc,X3,kc,l3,fc,dc,bc⟩:=drawnBig l2 (Times_runs hS va vb (y.getD k 0) (x.getD k 0) 5 5 (X2.relow X2.size) ((Keep.relowS X2).grp g2) (Nat.le_refl _) ((ba.keep kb).addr0) bb.addr0 (by decide) (by decide))
  have g3:=kc.grp g2;have kab:=(ka.trans kb).trans kc;obtain ⟨vd,Xd,X4,kd,l4,fd,dd,bd⟩:=drawnBig l3 (Plus_runs hS v vc (dotL y x k) (y.getD k 0 * x.getD k 0) (5 + 11 * k) 10 (X3.relow X3.size) ((Keep.relowS X3).grp g3) (Nat.le_refl _) ((bgX.keep kab).addr0) bc.addr0 (by omega) (by decide))
  have kad:=kab.trans kd;have hds:dotL y x (k + 1) = dotL y x k + y.getD k 0 * x.getD k 0:=by rw [dotL_succ]
  rw [← hds,show 5 + 11 * k + 10 + 1 = 5 + 11 * (k + 1) by omega] at bd
  obtain ⟨Hz,X5,pz,qz,kz,sz,lz,owz,bz,-⟩:=storeBD (kX.trans kad) (Nat.le_refl _) l4 (owX.keep kad) bgX.shape.2 bd;clear hg hx k1 k2 k02 k3 k03 k4 kX kHX owX bgX ow3 hcr hkx hk sxX hl1 hl2 hgd hy ka kb kc kd kab kad kH1 sx hds hzr hzx ba bb bc bd h5 h6 hjr g1 g2 g3 gX
  repeat' (first | simp only [↓Zabr,↓Zabm,↓Zabo,↓Zabq,↓Zaag,↓Zabl,↓Zabn,↓Zaci,↓Zach,↓Zacb,↓Zaai,↓Zabz,↓Zaby,↓Zabw,↓Zabx,↓sxD_same,↓Zacn,↓Zaar,↓Zaaj,↓Zaaq,↓Zaat,↓Zaak,↓Zaan,↓Zaao,↓Zaau,↓Zaap,↓Zack,↓bxPut,↓Zabj,↓Zabi,↓Zaaf,↓Zaae,↓Zabe,↓Zabd,↓Zaco,↓Zaba,↓Zaay,↓Zaaz,Zacj,Zaad,Zabc,Zabs,Zacg,List.map,List.nil_append,List.append_nil,↓reduceIte,Nat.reduceEqDiff,Nat.reduceLT,dec_T,true_and,Zaaa,one1,Option.bind_some, *,lenI,ldI,ldIs,Q.fldP0] | (with_reducible first | refine Zabu (by assumption) (by decide +kernel) ?_ | refine Zabt (by decide +kernel) ?_ | refine Zaca (by decide +kernel) ?_ | refine Zabv ?_))
  exact ⟨y.length - (k + 1),by omega,k + 1,vd,rfl,by omega,owz,bz,rfl⟩
end Go.Proofs.YtdfjaoncabanbaaDoor
