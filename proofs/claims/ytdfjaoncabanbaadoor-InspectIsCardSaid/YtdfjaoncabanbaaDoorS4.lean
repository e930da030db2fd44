/- The law InspectIs on the canonical machine. -/
import Derived.Test.YtdfjaoncabanbaaDoorS3
set_option linter.unusedVariables false
set_option linter.unusedSimpArgs false
set_option linter.unusedSectionVars false

namespace Go.Proofs.YtdfjaoncabanbaaDoor
open Go Go.AM
set_option maxRecDepth 10000

theorem xt20 (a b:Value):aExtract (.tuple ⟨[a,b]⟩) 0 = some a:=rfl
theorem xt21 (a b:Value):aExtract (.tuple ⟨[a,b]⟩) 1 = some b:=rfl
theorem eqBB (b:Bool):binP Tryd.prog .eql 4 (.bool b) (.bool b) = some (.bool true):=by rw [eqlB]; cases b <;> rfl
theorem bothIs {g:List (List Int)} {p q:Int} {x y:List Int} {dx dy:Int} {H1 H1' H2 H2':Heap} {u1 u2:Value} (h1:PostIs g p q x dx y dy H1 u1 H1') (h2:PostIs g p q x dx y dy H2 u2 H2') :
    ∃ b e,u1 = .tuple ⟨[.bool b,.int .i64 e]⟩ ∧ u2 = .tuple ⟨[.bool b,.int .i64 e]⟩ ∧ Keep H1 H1' ∧ Keep H2 H2':=by
  obtain ⟨b,e,rfl,k1,a1,a2⟩:=h1;obtain ⟨b',e',rfl,k2,c1,c2⟩:=h2
  by_cases hG:IsG g
  · obtain ⟨rfl,h3⟩:=a2 hG;obtain ⟨rfl,h4⟩:=c2 hG;have hb:b = b':=by
      have h5:=h3.trans h4.symm;cases b <;> cases b' <;> simp_all
    subst hb;exact ⟨b,0,rfl,rfl,k1,k2⟩
  · obtain ⟨rfl,rfl⟩:=a1 hG;obtain ⟨rfl,rfl⟩:=c1 hG;exact ⟨false,2,rfl,rfl,k1,k2⟩

variable {S:AM.Sys} (hS:Only S 5)
include hS

set_option maxHeartbeats 4000000 in
theorem rIs_runs (g:List (List Int)) (gv v1 v2:Value) (p q:Int) (x y:List Int) (dx dy:Int) (r o r1 o1 r2 o2:Nat) (H:Heap) (hdx:R63 dx) (hdy:R63 dy) (hgr:Grp H) (hL:H.low ≤ H.size) (hg:SlG H gv g r o) (hx:SlI .i64 H v1 x r1 o1) (hy:SlI .i64 H v2 y r2 o2) :
    ∃ u H',Runs Tryd.prog S (.fn 7) [gv,.agg ⟨[.int .i64 p,.int .i64 q,v1,.int .i64 dx,v2,.int .i64 dy]⟩] H u H' ∧ PostIs g p q x dx y dy H u H':=by
  suffices h:WCall Tryd.prog S (.fn 7) [gv,.agg ⟨[.int .i64 p,.int .i64 q,v1,.int .i64 dx,v2,.int .i64 dy]⟩] H (fun u H' => PostIs g p q x dx y dy H u H') by
    obtain ⟨u,H',hr,h⟩:=h; exact ⟨u,H',hr,h⟩
  obtain ⟨a,cap,rfl⟩:=hg.v0;obtain ⟨a1,cap1,rfl⟩:=hx.v0;obtain ⟨a2,cap2,rfl⟩:=hy.v0;obtain ⟨H1,e1,k1,sb1⟩:=boxS H p q dx dy (.slice a1 x.length cap1) (.slice a2 y.length cap2);have f2:=(rGame_runs hS g _ r o H1 (k1.low hL) (hg.keep k1)).bx;have hcs:(Value.agg ⟨[.int .i64 p,.int .i64 q,.slice a1 x.length cap1,.int .i64 dx,.slice a2 y.length cap2,.int .i64 dy]⟩).cells.toList = [.int .i64 p,.int .i64 q,.slice a1 x.length cap1,.int .i64 dx,.slice a2 y.length cap2,.int .i64 dy]:=rfl;refine Zaaw Tryd.func7 rfl (Nat.le_of_ble_eq_true rfl) (hS.no rfl _ _) ?_
  rw [Tryd.ntmps7,Tryd.results7];have al:=sb1.all
  by_cases hG:IsG g
  case neg =>
    rw [decide_eq_false hG] at f2;have hpo:PostIs g p q x dx y dy H (.tuple ⟨[.bool false,.int .i64 2]⟩) H1:=⟨false,2,rfl,k1,fun _ => ⟨rfl,rfl⟩,fun h => absurd h hG⟩
    clear hg hx hy hG k1 hgr sb1
    repeat' simp only [↓Zabr,↓Zabo,↓Zabq,↓Zaag,↓Zabp,↓Zaci,↓Zach,↓Zacn,↓Zaar,↓Zaaj,↓Zaal,↓Zaaq,↓bxOp_un,↓Zaau,↓bxPut,↓Zabj,↓Zabk,↓Zabh,↓Zacl,↓Zacm,↓Zaco,↓Zaba,↓Zaay,↓Zaaz,Zacj,una_nf,Zabs,Zacg,packRes_two,List.map,List.nil_append,List.append_nil,↓reduceIte,Nat.reduceEqDiff,Nat.reduceLT, *,argF,List.getD_cons_zero,List.getD_cons_succ,packRes_two]
  rw [decide_eq_true hG] at f2;obtain ⟨bb,H2,R3,k2,hiff⟩:=rSaddle_runs hS g _ _ _ p q x y dx dy r o r1 o1 r2 o2 H1 hdx hdy (k1.grp hgr) (k1.low hL) (hg.keep k1) (hx.keep k1) (hy.keep k1) hG;have f3:=R3.bx;have hpo:PostIs g p q x dx y dy H (.tuple ⟨[.bool bb,.int .i64 0]⟩) H2:=⟨bb,0,rfl,k1.trans k2,fun h => absurd hG h,fun _ => ⟨rfl,hiff⟩⟩
  clear hg hx hy hG k1 hgr sb1 k2 hiff R3
  repeat' simp only [↓Zabr,↓Zabo,↓Zabq,↓Zaag,↓Zabp,↓Zaci,↓Zach,↓Zacn,↓Zaar,↓Zaaj,↓Zaal,↓Zaaq,↓bxOp_un,↓Zaau,↓bxPut,↓Zabj,↓Zabk,↓Zabh,↓Zacl,↓Zacm,↓Zaco,↓Zaba,↓Zaay,↓Zaaz,Zacj,una_nt,Zabs,Zacf,packRes_two,List.map,List.nil_append,List.append_nil,↓reduceIte,Nat.reduceEqDiff,Nat.reduceLT,Option.map_some, *,argF,List.getD_cons_zero,List.getD_cons_succ,ldSa,packRes_two]

set_option maxHeartbeats 4000000 in
theorem is_law (g:List (List Int)) (gv v1 v2:Value) (p q:Int) (x y:List Int) (dx dy:Int) (r o r1 o1 r2 o2:Nat) (H:Heap) (hdx:R63 dx) (hdy:R63 dy) (hgr:Grp H) (hL:H.low ≤ H.size) (hg:SlG H gv g r o) (hx:SlI .i64 H v1 x r1 o1) (hy:SlI .i64 H v2 y r2 o2)
    (hO:∀ H',Keep H H' → S.O 5 [] H'):∃ H',Runs Tryd.prog S (.fn 3) [gv,.agg ⟨[.int .i64 p,.int .i64 q,v1,.int .i64 dx,v2,.int .i64 dy]⟩] H (.bool true) H':=by
  suffices h:WCall Tryd.prog S (.fn 3) [gv,.agg ⟨[.int .i64 p,.int .i64 q,v1,.int .i64 dx,v2,.int .i64 dy]⟩] H (fun v H' => v = .bool true) by
    obtain ⟨_,H',hr,rfl⟩:=h; exact ⟨H',hr⟩
  obtain ⟨a,cap,rfl⟩:=hg.v0;obtain ⟨a1,cap1,rfl⟩:=hx.v0;obtain ⟨a2,cap2,rfl⟩:=hy.v0;obtain ⟨H1,e1,k1,sb1⟩:=boxS H p q dx dy (.slice a1 x.length cap1) (.slice a2 y.length cap2);have hcs:(Value.agg ⟨[.int .i64 p,.int .i64 q,.slice a1 x.length cap1,.int .i64 dx,.slice a2 y.length cap2,.int .i64 dy]⟩).cells.toList = [.int .i64 p,.int .i64 q,.slice a1 x.length cap1,.int .i64 dx,.slice a2 y.length cap2,.int .i64 dy]:=rfl;obtain ⟨b,R0⟩:=few_runs hS g _ r o H1 (k1.low hL) (hg.keep k1);have f0:=R0.bx;have al:∀ (H':Heap),Keep H H' → ∀ (K:Value → Heap → Prop) (b:Blk K),sxCallB Tryd.prog S (.fn 5) [] H' K b = K (.bool true) H':=fun H' hk K b => known_bx (hO H' hk)
  have al1:=al H1 k1;obtain ⟨u2,H2,R2,hp2⟩:=pIs_runs hS g _ _ _ p q x y dx dy r o r1 o1 r2 o2 H1 (k1.grp hgr) (k1.low hL) (hg.keep k1) (hx.keep k1) (hy.keep k1);have k2:Keep H1 H2:=by obtain ⟨_,_,_,k,_⟩:=hp2; exact k
  have k02:=k1.trans k2;obtain ⟨u3,H3,R3,hp3⟩:=rIs_runs hS g _ _ _ p q x y dx dy r o r1 o1 r2 o2 H2 hdx hdy (k02.grp hgr) (k02.low hL) (hg.keep k02) (hx.keep k02) (hy.keep k02);obtain ⟨bb,e,rfl,rfl,-,k3⟩:=bothIs hp2 hp3;have al3:=al H3 (k02.trans k3);have f2:=R2.bx;have f3:=R3.bx;have a1':=sb1.all;have rn1:=sb1.rnum;have cn1:=sb1.cnum;have a2':=(sb1.keep k2).all;refine Zaaw Tryd.func3 rfl (Nat.le_of_ble_eq_true rfl) (hS.no rfl _ _) ?_
  rw [Tryd.ntmps3,Tryd.results3];clear R0 R2 R3 hp2 hp3 k1 k2 k3 k02 hg hx hy hO al sb1;cases b with
  | false => repeat' simp only [↓Zabr,↓Zabo,↓Zabq,↓Zaag,↓Zabp,↓Zaci,↓Zach,↓Zacn,↓Zaav,↓Zaar,↓Zaaj,↓Zaas,↓Zaal,↓Zaaq,↓Zaak,↓bxOp_un,↓Zaan,↓bxOp_extract,↓Zaau,↓Zaap,↓bxPut,↓Zabj,↓Zabk,↓Zabh,↓Zacl,↓Zacm,↓Zaco,↓Zaba,↓Zaay,↓Zaaz,↓dstAt,↓Zabb,Zacj,una_nf,Zaac,Zabs,sxGuardB_ft,Zacg,Zabf,List.map,List.nil_append,List.append_nil,↓reduceIte,Nat.reduceEqDiff,Nat.reduceLT, *,argF,List.getD_cons_zero,List.getD_cons_succ]
  | true =>
    by_cases hx20:20 < (x.length:Int)
    · repeat' simp only [↓Zabr,↓Zabo,↓Zabq,↓Zaag,↓Zabp,↓Zaci,↓Zach,↓Zacn,↓Zaav,↓Zaar,↓Zaaj,↓Zaas,↓Zaal,↓Zaaq,↓Zaak,↓bxOp_un,↓Zaan,↓bxOp_extract,↓Zaau,↓Zaap,↓bxPut,↓Zabj,↓Zabk,↓Zabh,↓Zacl,↓Zacm,↓Zaco,↓Zaba,↓Zaay,↓Zaaz,↓dstAt,↓Zabb,Zacj,Zaad,Zabc,una_nt,Zaac,Zaab,Zabs,sxGuardB_ft,Zacc,Zacg,Zabf,List.map,List.nil_append,List.append_nil,↓reduceIte,Nat.reduceEqDiff,Nat.reduceLT,dec_T,one1,Option.bind_some, *,argF,List.getD_cons_zero,List.getD_cons_succ,faS1,Q.fldP0,lenI,ldIs,Nat.zero_add]
    by_cases hy20:20 < (y.length:Int)
    · repeat' simp only [↓Zabr,↓Zabo,↓Zabq,↓Zaag,↓Zabp,↓Zaci,↓Zach,↓Zacn,↓Zaav,↓Zaar,↓Zaaj,↓Zaas,↓Zaal,↓Zaaq,↓Zaak,↓bxOp_un,↓Zaan,↓bxOp_extract,↓Zaau,↓Zaap,↓bxPut,↓Zabj,↓Zabk,↓Zabh,↓Zacl,↓Zacm,↓Zaco,↓Zaba,↓Zaay,↓Zaaz,↓dstAt,↓Zabb,Zacj,Zaad,Zabc,una_nt,Zaab,Zabs,Zacc,Zacg,Zabf,List.map,List.nil_append,List.append_nil,↓reduceIte,Nat.reduceEqDiff,Nat.reduceLT,dec_T,dec_F,one1,Option.bind_some, *,argF,List.getD_cons_zero,List.getD_cons_succ,faS1,faS2,Q.fldP0,lenI,ldIs,Nat.zero_add]
    repeat' simp only [↓Zabr,↓Zabo,↓Zabq,↓Zaag,↓Zabp,↓Zaci,↓Zach,↓Zacn,↓Zaav,↓Zaar,↓Zaaj,↓Zaas,↓Zaal,↓Zaaq,↓Zaak,↓bxOp_un,↓Zaan,↓bxOp_extract,↓Zaau,↓Zaap,↓bxPut,↓Zabj,↓Zabk,↓Zabh,↓Zacl,↓Zacm,↓Zaco,↓Zaba,↓Zaay,↓Zaaz,↓dstAt,↓Zabb,Zacj,Zaad,Zabc,una_nt,Zaac,Zaab,Zabs,sxGuardB_tt,Zacc,Zacf,Zabf,List.map,List.nil_append,List.append_nil,↓reduceIte,Nat.reduceEqDiff,Nat.reduceLT,dec_T,dec_F,one1,Option.bind_some,Option.map_some, *,argF,List.getD_cons_zero,List.getD_cons_succ,faS1,faS2,Q.fldP0,lenI,ldIs,ldSa,xt20,xt21,eqBB,Nat.zero_add]
end Go.Proofs.YtdfjaoncabanbaaDoor
