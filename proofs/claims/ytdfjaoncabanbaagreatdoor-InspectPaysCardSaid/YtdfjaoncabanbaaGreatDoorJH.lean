/- The law InspectPays on the canonical machine. -/
import Derived.Test.YtdfjaoncabanbaaGreatDoorJG
set_option linter.unusedVariables false
set_option linter.unusedSimpArgs false
set_option linter.unusedSectionVars false

namespace Go.Proofs.YtdfjaoncabanbaaGreatDoor
open Go Go.AM
set_option maxRecDepth 10000

theorem eqlR (a b c d:Int):binP Tryz.prog .eql 29 (.agg ⟨[.int .i64 a,.int .i64 b]⟩) (.agg ⟨[.int .i64 c,.int .i64 d]⟩) = some (.bool (decide (a = c ∧ b = d))) ∧
    binP Tryz.prog .neq 29 (.agg ⟨[.int .i64 a,.int .i64 b]⟩) (.agg ⟨[.int .i64 c,.int .i64 d]⟩) = some (.bool (decide (¬ (a = c ∧ b = d)))):=by
  have h:=binP_eqlS (P:=Tryz.prog) (t:=29) (ty:=3) (k:=.i64) Tryz.underlying29 (by kernel_rfl) (by kernel_rfl) Tryz.underlying3 (by kernel_rfl) [a,b] [c,d] rfl rfl (fun i hi => by
    match i,hi with
    | 0,_ => exact ⟨rfl,rfl,show ("Num" : String) ≠ "_" by decide⟩
    | 1,_ => exact ⟨rfl,rfl,show ("Den" : String) ≠ "_" by decide⟩)
  refine ⟨Eq.trans h.1 ?_,Eq.trans h.2 ?_⟩
  · refine congrArg some (congrArg Value.bool (decide_eq_decide.2 ?_));simp
  · refine congrArg some (congrArg Value.bool (decide_eq_decide.2 ?_));simp
theorem eqR (a b:Int):binP Tryz.prog .eql 29 (.agg ⟨[.int .i64 a,.int .i64 b]⟩) (.agg ⟨[.int .i64 a,.int .i64 b]⟩) = some (.bool true):=by
  rw [(eqlR a b a b).1,decide_eq_true ⟨rfl,rfl⟩]
theorem neR (a b:Int):binP Tryz.prog .neq 29 (.agg ⟨[.int .i64 a,.int .i64 b]⟩) (.agg ⟨[.int .i64 a,.int .i64 b]⟩) = some (.bool false):=by
  rw [(eqlR a b a b).2,decide_eq_false (fun h => h ⟨rfl,rfl⟩)]
theorem xt20 (a b:Value):aExtract (.tuple ⟨[a,b]⟩) 0 = some a:=rfl
theorem xt21 (a b:Value):aExtract (.tuple ⟨[a,b]⟩) 1 = some b:=rfl
theorem xt30 (a b c:Value):aExtract (.tuple ⟨[a,b,c]⟩) 0 = some a:=rfl
theorem xt31 (a b c:Value):aExtract (.tuple ⟨[a,b,c]⟩) 1 = some b:=rfl
theorem xt32 (a b c:Value):aExtract (.tuple ⟨[a,b,c]⟩) 2 = some c:=rfl
theorem bothPay {g:List (List Int)} {x y:List Int} {dx dy:Int} {H1 H1' H2 H2':Heap} {u1 u2:Value} (h1:PostPay g x dx y dy H1 u1 H1') (h2:PostPay g x dx y dy H2 u2 H2') :
    ∃ p q e,u1 = .tuple ⟨[.agg ⟨[.int .i64 p,.int .i64 q]⟩,.int .i64 e]⟩ ∧ u2 = .tuple ⟨[.agg ⟨[.int .i64 p,.int .i64 q]⟩,.int .i64 e]⟩ ∧ Keep H1 H1' ∧ Keep H2 H2':=by
  obtain ⟨p,q,e,rfl,k1,a1,a2⟩:=h1;obtain ⟨p',q',e',rfl,k2,b1,b2⟩:=h2
  by_cases hok:PayOk g x dx y dy
  · obtain ⟨rfl,h3⟩:=a2 hok;obtain ⟨rfl,h4⟩:=b2 hok;rw [← h3] at h4;cases h4;exact ⟨p,q,0,rfl,rfl,k1,k2⟩
  · obtain ⟨rfl,rfl,rfl⟩:=a1 hok;obtain ⟨rfl,rfl,rfl⟩:=b1 hok;exact ⟨0,0,2,rfl,rfl,k1,k2⟩
theorem bothAns {g:List (List Int)} {x:List Int} {dx:Int} {H1 H1' H2 H2':Heap} {u1 u2:Value} (h1:PostAns g x dx H1 u1 H1') (h2:PostAns g x dx H2 u2 H2') :
    ∃ i p q e,u1 = .tuple ⟨[.int .i64 i,.agg ⟨[.int .i64 p,.int .i64 q]⟩,.int .i64 e]⟩ ∧ u2 = .tuple ⟨[.int .i64 i,.agg ⟨[.int .i64 p,.int .i64 q]⟩,.int .i64 e]⟩ ∧ Keep H1 H1' ∧ Keep H2 H2':=by
  obtain ⟨i,p,q,e,rfl,k1,a1,a2⟩:=h1;obtain ⟨i',p',q',e',rfl,k2,b1,b2⟩:=h2
  by_cases hok:AnsOk g x dx
  · obtain ⟨rfl,b,rfl,c1,h3⟩:=a2 hok;obtain ⟨rfl,b',rfl,c2,h4⟩:=b2 hok;obtain rfl:=c1.uniq c2;rw [← h3] at h4;cases h4;exact ⟨_,p,q,0,rfl,rfl,k1,k2⟩
  · obtain ⟨rfl,rfl,rfl,rfl⟩:=a1 hok;obtain ⟨rfl,rfl,rfl,rfl⟩:=b1 hok;exact ⟨0,0,0,2,rfl,rfl,k1,k2⟩

variable {S:AM.Sys} (hS:Only S 5)
include hS

set_option maxHeartbeats 8000000 in
theorem pays_law (g:List (List Int)) (gv v1 v2:Value) (x y:List Int) (dx dy:Int) (r o r1 o1 r2 o2:Nat) (H:Heap) (hdx:R63 dx) (hdy:R63 dy) (hgr:Grp H) (hL:H.low ≤ H.size) (hg:SlG H gv g r o) (hx:SlI .i64 H v1 x r1 o1) (hy:SlI .i64 H v2 y r2 o2)
    (hO:∀ H',Keep H H' → S.O 5 [] H'):∃ H',Runs Tryz.prog S (.fn 3) [gv,.agg ⟨[v1,.int .i64 dx]⟩,.agg ⟨[v2,.int .i64 dy]⟩] H (.bool true) H':=by
  suffices h:WCall Tryz.prog S (.fn 3) [gv,.agg ⟨[v1,.int .i64 dx]⟩,.agg ⟨[v2,.int .i64 dy]⟩] H (fun v H' => v = .bool true) by
    obtain ⟨_,H',hr,rfl⟩:=h; exact ⟨H',hr⟩
  have hgv:=hg.v0;obtain ⟨a,cap,rfl⟩:=hgv;obtain ⟨a1,cap1,rfl⟩:=hx.v0;obtain ⟨a2,cap2,rfl⟩:=hy.v0;obtain ⟨H1,e1,k1,z1,rx2,rx0,rx1⟩:=Q.boxP H (.slice a1 x.length cap1) (.int .i64 dx);obtain ⟨H2,e2,k2,z2,ry2,ry0,ry1⟩:=Q.boxP H1 (.slice a2 y.length cap2) (.int .i64 dy);have k02:=k1.trans k2;have zb1:H.size < H2.size:=Nat.lt_of_lt_of_le z1 k2.size;have rx22:=k2.read z1 rx2;have rx02:=k2.read z1 rx0;obtain ⟨b,R0⟩:=few_runs hS g _ r o H2 (k02.low hL) (hg.keep k02);have f0:=R0.bx;have al:∀ (H':Heap),Keep H H' → ∀ (K:Value → Heap → Prop) (b:Blk K),sxCallB Tryz.prog S (.fn 5) [] H' K b = K (.bool true) H':=fun H' hk K b => known_bx (hO H' hk)
  have al2:=al H2 k02;obtain ⟨u3,H3,R3,hp3⟩:=Pay_runs hS g _ _ _ x y dx dy r o r1 o1 r2 o2 H2 (k02.grp hgr) (k02.low hL) (hg.keep k02) (hx.keep k02) (hy.keep k02);have k3:Keep H2 H3:=by obtain ⟨_,_,_,_,k,_⟩:=hp3; exact k
  have k03:=k02.trans k3;obtain ⟨H4,e4,k4,z4,ow4,-,-,-⟩:=box2 H3 0 0 29;have k04:=k03.trans k4;have step5:∀ p q:Int,∃ H5,aStore Tryz.prog H4 29 (.pointer (some ⟨H3.size,0,none⟩)) (.agg ⟨[.int .i64 p,.int .i64 q]⟩) = some H5 ∧ Keep H2 H5 ∧ H5.size = H4.size ∧ Own H5 H3.size 29 [.int .i64 p,.int .i64 q]:=fun p q => by
    obtain ⟨H5,p5,k5,s5,ow5,-⟩:=stH infR.1 (k3.trans k4) k3.size ow4 (v:=.agg ⟨[.int .i64 p,.int .i64 q]⟩) (new:=[.int .i64 p,.int .i64 q]) rfl infR.2 rfl rfl;exact ⟨H5,p5,k5,s5,ow5⟩
  obtain ⟨p,q,e,hu3,hr3⟩:=hp3;have hp3:PostPay g x dx y dy H2 u3 H3:=⟨p,q,e,hu3,hr3⟩;obtain ⟨H5,p5,k5,s5,ow5⟩:=step5 p q;have k05:=k02.trans k5;obtain ⟨u6,H6,R6,hp6⟩:=rPay_runs hS g _ _ _ x y dx dy r o r1 o1 r2 o2 H5 hdx hdy (k05.grp hgr) (k05.low hL) (hg.keep k05) (hx.keep k05) (hy.keep k05);obtain ⟨p',q',e',h1,h2,-,k6⟩:=bothPay hp3 hp6;rw [hu3] at h1;cases h1;subst hu3;subst h2;have f3:=R3.bx;have f6:=R6.bx;have k06:=k05.trans k6;have k26:=k5.trans k6;obtain ⟨H7,e7,k7,z7,ow7,-,-,-⟩:=box2 H6 0 0 29;have z35:H3.size < H5.size:=ow5.lt;have z36:H3.size < H6.size:=Nat.lt_of_lt_of_le z35 k6.size;obtain ⟨H8,p8,k8,s8,ow8,oth8⟩:=stH infR.1 (k26.trans k7) k26.size ow7 (v:=.agg ⟨[.int .i64 p,.int .i64 q]⟩) (new:=[.int .i64 p,.int .i64 q]) rfl infR.2 rfl rfl;have ow83:=oth8 H3.size _ _ (by omega) ((ow5.keep k6).keep k7)
  obtain ⟨m8,-,-⟩:=own2 ow8;obtain ⟨m83,-,-⟩:=own2 ow83;have k08:=k02.trans k8;have rx5:=k5.read zb1 rx22;have ry5:=k5.read z2 ry2;have rx8:=k8.read zb1 rx22;obtain ⟨u9,H9,R9,hp9⟩:=pAnswer_runs hS g _ _ x dx r o r1 o1 H8 (k08.grp hgr) (k08.low hL) (hg.keep k08) (hx.keep k08);obtain ⟨i,pa,qa,ea,hu9,k9,hr9⟩:=hp9;have hp9:PostAns g x dx H8 u9 H9:=⟨i,pa,qa,ea,hu9,k9,hr9⟩;have k29:=k8.trans k9;obtain ⟨H10,p10,k10,s10,ow10,oth10⟩:=stH infR.1 k29 k3.size (ow83.keep k9) (v:=.agg ⟨[.int .i64 pa,.int .i64 qa]⟩) (new:=[.int .i64 pa,.int .i64 qa]) rfl infR.2 rfl rfl;have ow106:=oth10 H6.size _ _ (by omega) (ow8.keep k9)
  have k010:=k02.trans k10;obtain ⟨u11,H11,R11,hp11⟩:=rAnswer_runs hS g _ _ x dx r o r1 o1 H10 hdx (k010.grp hgr) (k010.low hL) (hg.keep k010) (hx.keep k010);obtain ⟨i',pa',qa',ea',h1,h2,-,k11⟩:=bothAns hp9 hp11;rw [hu9] at h1;cases h1;subst hu9;subst h2;have f9:=R9.bx;have f11:=R11.bx;have k211:=k10.trans k11;obtain ⟨H12,p12,k12,s12,ow12,oth12⟩:=stH infR.1 k211 k26.size (ow106.keep k11) (v:=.agg ⟨[.int .i64 pa,.int .i64 qa]⟩) (new:=[.int .i64 pa,.int .i64 qa]) rfl infR.2 rfl rfl;have ow123:=oth12 H3.size _ _ (by omega) (ow10.keep k11)
  obtain ⟨m12,-,-⟩:=own2 ow12;obtain ⟨m123,-,-⟩:=own2 ow123;have rx10:=k10.read zb1 rx22;have al12:=al H12 (k02.trans k12);have n1:=neR p q;have n2:=eqR pa qa;refine call_of Tryz.func3 rfl (Nat.le_of_ble_eq_true rfl) (hS.no rfl _ _) ?_
  rw [Tryz.ntmps3,Tryz.results3];clear R0 R3 R6 R9 R11 hr3 hp3 hp6 hp9 hp11 hr9 ow4 ow5 ow7 ow8 ow83 ow10 ow106 ow12 ow123 oth8 oth10 oth12 step5 al k1 k2 k3 k4 k5 k6 k7 k8 k9 k10 k11 k12 k02 k03 k04 k05 k06 k08 k010 k26 k29 k211 s5 s8 s10 s12 z35 z36 hg hx hy hO rx1 ry1;cases b with
  | false => repeat' simp only [↓Zabr,↓Zabo,↓Zabq,↓Zaaf,↓Zabp,↓Zaci,↓Zach,↓Zacn,↓Zaaw,↓Zaar,↓Zaaj,↓Zaas,↓Zaai,↓Zaal,↓Zaaq,↓Zaat,↓Zaak,↓bxOp_un,↓Zaan,↓bxOp_extract,↓Zaau,↓Zaap,↓Zack,↓bxPut,↓Zabj,↓Zabk,↓Zabh,↓Zacl,↓Zacm,↓Zaco,↓Zaba,↓Zaay,↓Zaaz,↓dstAt,↓Zabb,Zacj,una_nf,aPick_true,Zabs,sxGuardB_ft,Zacg,Zabf,List.map,List.nil_append,List.append_nil,↓reduceIte,Nat.reduceEqDiff,Nat.reduceLT, *,argF,List.getD_cons_zero,List.getD_cons_succ,Q.cells_agg]
  | true =>
    by_cases hx20:20 < (x.length:Int)
    · repeat' simp only [↓Zabr,↓Zabo,↓Zabq,↓Zaaf,↓Zabp,↓Zaci,↓Zach,↓Zacn,↓Zaaw,↓Zaar,↓Zaaj,↓Zaas,↓Zaai,↓Zaal,↓Zaaq,↓Zaat,↓Zaak,↓bxOp_un,↓Zaan,↓bxOp_extract,↓Zaau,↓Zaap,↓Zack,↓bxPut,↓Zabj,↓Zabk,↓Zabh,↓Zacl,↓Zacm,↓Zaco,↓Zaba,↓Zaay,↓Zaaz,↓dstAt,↓Zabb,Zacj,Zaac,Zabc,una_nt,aPick_true,Zaab,Zabs,sxGuardB_ft,Zacc,Zacg,Zabf,List.map,List.nil_append,List.append_nil,↓reduceIte,Nat.reduceEqDiff,Nat.reduceLT,dec_T,one1,Option.bind_some, *,argF,List.getD_cons_zero,List.getD_cons_succ,Q.cells_agg,Q.fldP0,lenI,ldIs]
    by_cases hy20:20 < (y.length:Int)
    · repeat' simp only [↓Zabr,↓Zabo,↓Zabq,↓Zaaf,↓Zabp,↓Zaci,↓Zach,↓Zacn,↓Zaaw,↓Zaar,↓Zaaj,↓Zaas,↓Zaai,↓Zaal,↓Zaaq,↓Zaat,↓Zaak,↓bxOp_un,↓Zaan,↓bxOp_extract,↓Zaau,↓Zaap,↓Zack,↓bxPut,↓Zabj,↓Zabk,↓Zabh,↓Zacl,↓Zacm,↓Zaco,↓Zaba,↓Zaay,↓Zaaz,↓dstAt,↓Zabb,Zacj,Zaac,Zabc,una_nt,Zaab,Zabs,Zacc,Zacg,Zabf,List.map,List.nil_append,List.append_nil,↓reduceIte,Nat.reduceEqDiff,Nat.reduceLT,dec_T,dec_F,one1,Option.bind_some, *,argF,List.getD_cons_zero,List.getD_cons_succ,Q.cells_agg,Q.fldP0,lenI,ldIs]
    repeat' simp only [↓Zabr,↓Zabo,↓Zabq,↓Zaaf,↓Zabp,↓Zaci,↓Zach,↓Zacn,↓Zaaw,↓Zaar,↓Zaaj,↓Zaas,↓Zaai,↓Zaal,↓Zaaq,↓Zaat,↓Zaak,↓bxOp_un,↓Zaan,↓bxOp_extract,↓Zaau,↓Zaap,↓Zack,↓bxPut,↓Zabj,↓Zabk,↓Zabh,↓Zacl,↓Zacm,↓Zaco,↓Zaba,↓Zaay,↓Zaaz,↓dstAt,↓Zabb,Zacj,Zaac,Zabc,una_nt,aPick_true,Zaab,Zabs,sxGuardB_tt,Zacc,Zacf,Zabf,List.map,List.nil_append,List.append_nil,↓reduceIte,Nat.reduceEqDiff,Nat.reduceLT,dec_T,dec_F,one1,Option.bind_some,not_true_eq_false,Option.map_some, *,argF,List.getD_cons_zero,List.getD_cons_succ,Q.cells_agg,Q.ldP,Q.fldP0,lenI,ldIs,alR,ldRt,xt20,xt21,xt30,xt31,xt32]
end Go.Proofs.YtdfjaoncabanbaaGreatDoor
