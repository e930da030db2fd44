/- Whole numbers of any size, continued: a number of a sign and digits. -/
import Derived.Test.YtdfjaoncabanbaaDoorB4
set_option linter.unusedVariables false
set_option linter.unusedSimpArgs false
set_option linter.unusedSectionVars false

namespace Go.Proofs.YtdfjaoncabanbaaDoor
open Go Go.AM
set_option maxRecDepth 10000
variable {S:AM.Sys} (hS:Only S 5)
include hS

theorem whole_runs (neg:Bool) (v:Value) (d:List Int) (r o:Nat) (H:Heap) (hg:Grp H) (hL:H.low ≤ H.size) (hd:SlI .i64 H v d r o) (hs:d.length ≤ 100000) :
    ∃ H' v' r' o',Keep H H' ∧ Grp H' ∧ SlI .i64 H' v' (trimL d) r' o' ∧ Fine v' ∧ (0 < (trimL d).length → H.size ≤ r') ∧ Runs Tryd.prog S (.fn 80) [.bool neg,v] H (.agg ⟨[.bool (neg && decide (0 < (trimL d).length)),v']⟩) H':=by
  suffices h:WCall Tryd.prog S (.fn 80) [.bool neg,v] H (fun v' H' => ∃ v3 r' o',v' = .agg ⟨[.bool (neg && decide (0 < (trimL d).length)),v3]⟩ ∧ Keep H H' ∧ Grp H' ∧ SlI .i64 H' v3 (trimL d) r' o' ∧ Fine v3 ∧ (0 < (trimL d).length → H.size ≤ r')) by
    obtain ⟨_,H',hr,v3,r',o',rfl,h1,h2,h3,h4,h5⟩:=h; exact ⟨H',v3,r',o',h1,h2,h3,h4,h5,hr⟩
  obtain ⟨H1,e1,hK1,hs1,zz,_⟩:=box1 H [.bool false,.slice none 0 0] 66;have w1:Own H1 H.size 66 [.bool false,.slice none 0 0]:=e1 ▸ Own.new H _ _;have hal:aAlloc Tryd.prog H 66 = some (.pointer (some ⟨H.size,0,none⟩),H.newExact [.bool false,.slice none 0 0] 66):=by kernel_rfl
  have hob:=trim_runs hS v d r o H1 (hK1.grp hg) (hK1.low hL) (hd.keep hK1) hs;obtain ⟨H3,v3,r3,o3,hK3,hg3,s3,hF3,hfr3,hR3⟩:=hob;have f3:=hR3.bx;obtain ⟨a3,c3,rfl⟩:=s3.v0;have w3:=w1.keep hK3;have hK13:=hK1.trans hK3;have hob2:=w3.store (P:=Tryd.prog) (t:=66) (i:=Tryd.t66) (by kernel_rfl) (v:=.agg ⟨[.bool (neg && decide (0 < (trimL d).length)),.slice a3 (trimL d).length c3]⟩) (new:=[.bool (neg && decide (0 < (trimL d).length)),.slice a3 (trimL d).length c3]) rfl (by kernel_rfl) rfl (o:=0) (show 0 + 2 ≤ 2 by omega)
  obtain ⟨H4,ps,w4,hsz4,_,hkp⟩:=hob2;have hK4:=hkp H hK13 (Nat.le_refl _);have s4:=SlE.other w3 ps hsz4 s3 (fun h0 => by have:=hfr3 h0; omega)
  have q4:=w4.read (o:=0) (n:=2) (by rw [splice_length (show 0 + 2 ≤ 2 by omega)]; show 0 + 2 ≤ 2; omega)
  have q5:H4.read H.size 0 2 = some [.bool (neg && decide (0 < (trimL d).length)),.slice a3 (trimL d).length c3]:=q4;have hld:∀ (H:Heap) (r o:Nat),aLoad Tryd.prog H 66 (.pointer (some ⟨r,o,none⟩)) = (H.read r o 2).map fun l => .agg ⟨l⟩:=fun H r o => by kernel_rfl
  have hbd:∀ (x:Bool) (a:Option Addr) (n c:Nat),aBuild Tryd.prog 66 [(0,.bool x),(1,.slice a n c)] = some (.agg ⟨[.bool x,.slice a n c]⟩):=fun x a n c => by kernel_rfl
  have hfr:0 < (trimL d).length → H.size ≤ r3:=fun h => by have:=hfr3 h; omega
  have hg4:=hK4.grp hg;have hpos:(0:Int) < ((trimL d).length:Int) ↔ 0 < (trimL d).length:=by omega
  clear zz hs1;refine Zaaw Tryd.func80 rfl (Nat.le_of_ble_eq_true rfl) (hS.no rfl _ _) ?_
  rw [Tryd.ntmps80,Tryd.results80];clear hR3 hd s3 w1 w3 w4 q4 hkp hfr3;generalize trimL d = T at *;cases neg
  · simp only [Bool.false_and] at ps q5 ⊢
    repeat' simp only [↓Zabo,↓Zabq,↓Zabp,↓Zaci,↓Zach,↓Zacn,↓Zaav,↓Zaar,↓Zaaj,↓Zaas,↓bxOp_alloc,↓bxOp_build,↓Zaat,↓Zaak,↓Zaau,↓Zaap,↓Zack,↓bxPut,↓Zabj,↓Zabh,↓Zacl,↓bxRes_cell,↓Zaco,↓Zaba,↓Zaay,↓Zaaz,↓dstAt,↓Zabb,Zacj,Zaab,Zabs,sxGuardB_tf,Zabf,List.map,List.nil_append,List.append_nil,↓reduceIte,Nat.reduceEqDiff,Nat.reduceLT,true_and,Option.map_some, *,argF,List.getD_cons_zero,List.getD_cons_succ]
    exact ⟨_,r3,o3,rfl,s4,hF3,hfr⟩
  · simp only [Bool.true_and] at ps q5 ⊢
    repeat' simp only [↓Zabo,↓Zabq,↓Zabp,↓Zaci,↓Zach,↓Zacn,↓Zaav,↓Zaar,↓Zaaj,↓Zaas,↓bxOp_alloc,↓bxOp_build,↓Zaat,↓Zaak,↓Zaau,↓Zaap,↓Zack,↓bxPut,↓Zabj,↓Zabh,↓Zacl,↓bxRes_cell,↓Zaco,↓Zaba,↓Zaay,↓Zaaz,↓dstAt,↓Zabb,Zacj,Zaad,Zabc,Zaac,Zabs,sxGuardB_tt,Zabf,List.map,List.nil_append,List.append_nil,↓reduceIte,Nat.reduceEqDiff,Nat.reduceLT,true_and,Option.map_some, *,argF,List.getD_cons_zero,List.getD_cons_succ,lenI]
    exact ⟨_,r3,o3,rfl,s4,hF3,hfr⟩
end Go.Proofs.YtdfjaoncabanbaaDoor

namespace Go.Proofs.YtdfjaoncabanbaaDoor
open Go Go.AM
set_option maxRecDepth 10000
theorem ex20 (a b:Value):aExtract (.tuple #[a,b]) 0 = some a:=rfl
theorem ex21 (a b:Value):aExtract (.tuple #[a,b]) 1 = some b:=rfl
variable {S:AM.Sys} (hS:Only S 5)
include hS
theorem gcdD_runs (v1 v2:Value) (a b:List Int) (r1 o1 r2 o2:Nat) (H:Heap) (hg:Grp H) (hL:H.low ≤ H.size) (h1:SlI .i64 H v1 a r1 o1) (h2:SlI .i64 H v2 b r2 o2) (ha:Digs a) (hna:Norm a) (hb:Digs b) (hnb:Norm b) (hsa:a.length ≤ 400) (hsb:b.length ≤ 400) :
    ∃ H' v' w r' o',Keep H H' ∧ Grp H' ∧ SlI .i64 H' v' w r' o' ∧ Digs w ∧ Norm w ∧ w.length ≤ 400 ∧ (val w).toNat = Nat.gcd (val a).toNat (val b).toNat ∧ Runs Tryd.prog S (.fn 94) [v1,v2] H v' H':=by
  suffices h:WCall Tryd.prog S (.fn 94) [v1,v2] H (fun v' H' => ∃ w r' o',Keep H H' ∧ Grp H' ∧ SlI .i64 H' v' w r' o' ∧ Digs w ∧ Norm w ∧ w.length ≤ 400 ∧ (val w).toNat = Nat.gcd (val a).toNat (val b).toNat) by
    obtain ⟨v',H',hr,w,r',o',h1,h2,h3,h4,h5,h6,h7⟩:=h; exact ⟨H',v',w,r',o',h1,h2,h3,h4,h5,h6,h7,hr⟩
  obtain ⟨a1,c1,rfl⟩:=h1.v0;obtain ⟨a2,c2,rfl⟩:=h2.v0;refine Zaaw Tryd.func94 rfl (Nat.le_of_ble_eq_true rfl) (hS.no rfl _ _) ?_
  rw [Tryd.ntmps94,Tryd.results94]
  repeat' simp only [↓Zabo,↓Zabq,↓Zaah,↓Zabl,↓Zabp,↓Zaci,↓Zach,↓Zacn,↓Zaar,↓Zaaj,↓bxPut,↓Zabj,↓Zabh,↓Zacl,↓Zacm,↓Zaba,↓Zaay,Zabf,Nat.reduceLT, *]
  refine sxL_of (fun m ρ H2 => ∃ (x y:List Int) (vx vy:Value) (rx ox ry oy:Nat),m = (val y).toNat ∧ Keep H H2 ∧ Grp H2 ∧ SlI .i64 H2 vx x rx ox ∧ SlI .i64 H2 vy y ry oy ∧ Digs x ∧ Norm x ∧ Digs y ∧ Norm y ∧ x.length ≤ 400 ∧ y.length ≤ 400 ∧
    Nat.gcd (val x).toNat (val y).toNat = Nat.gcd (val a).toNat (val b).toNat ∧ ρ 0 = vx ∧ ρ 1 = vy)
    ⟨a,b,_,_,r1,o1,r2,o2,rfl,Keep.refl _,hg,h1,h2,ha,hna,hb,hnb,hsa,hsb,rfl,rfl,rfl⟩ ?_
  clear h1 h2 ha hna hb hnb hsa hsb;rintro m ρ H2 ⟨x,y,vx,vy,rx,ox,ry,oy,rfl,hK,hg2,sx,sy,hxd,hxn,hyd,hyn,hxl,hyl,hgcd,e0,e1⟩;have hL2:=hK.low hL;have hov:=sy.v0;obtain ⟨ay,cy,rfl⟩:=hov
  by_cases hlt:0 < y.length
  · have hlt':(0:Int) < (y.length:Int):=by omega
    have hY:=norm_pos hyd hyn hlt;have hob:=divD_runs hS vx _ x y rx ox ry oy H2 hg2 hL2 sx sy hxd hyd hyn hlt hxl hyl;obtain ⟨H3,vq,vr,q,rem,rq,oq,rr,or',hK3,hg3,sq,sr,hF,hqd,hqn,hql,hrd,hrn,hv,hrb,hrl,hR⟩:=hob;have f3:=hR.bx;have hKK:=hK.trans hK3;have sy3:=sy.keep hK3;have hq0:=hqd.nonneg;have hr0:=hrd.nonneg;have hg4:Nat.gcd (val y).toNat (val rem).toNat = Nat.gcd (val a).toNat (val b).toNat:=by
      rw [← hgcd];have h5:(val x).toNat = (val q).toNat * (val y).toNat + (val rem).toNat:=by
        have h6:((val x).toNat:Int) = (((val q).toNat * (val y).toNat + (val rem).toNat:Nat):Int):=by
          rw [Int.natCast_add,Int.natCast_mul,Int.toNat_of_nonneg hq0,Int.toNat_of_nonneg hr0,Int.toNat_of_nonneg hxd.nonneg,Int.toNat_of_nonneg (Int.le_of_lt hY)];exact hv
        exact Int.ofNat_inj.1 h6
      rw [h5,Nat.gcd_comm ((val q).toNat * (val y).toNat + (val rem).toNat),Nat.gcd_mul_right_add_right]
    clear hR sx sq sy hv hql hgcd hxd hxn
    repeat' simp only [↓Zabr,↓Zabo,↓Zabq,↓Zaag,↓Zabl,↓Zabn,↓Zaci,↓Zach,↓Zacn,↓Zaar,↓Zaaj,↓Zaak,↓bxOp_extract,↓Zaau,↓Zaap,↓bxPut,↓Zabj,↓Zabi,↓Zaaf,↓Zaae,↓Zabe,↓Zabd,↓Zaco,↓Zaba,↓Zaay,↓Zaaz,Zacj,Zaad,Zabc,Zabs,Zacg,List.map,List.nil_append,List.append_nil,↓reduceIte,Nat.reduceEqDiff,Nat.reduceLT,dec_T,true_and, *,lenI,ex20,ex21]
    exact ⟨(val rem).toNat,by omega,y,rem,_,_,ry,oy,rr,or',rfl,sy3,sr,hyd,hyn,hrd,hrn,hyl,by omega,hg4,rfl,rfl⟩
  · have hlt':¬ (0:Int) < (y.length:Int):=by omega
    have hy0:y = []:=List.length_eq_zero_iff.1 (by omega)
    have hg4:(val x).toNat = Nat.gcd (val a).toNat (val b).toNat:=by
      rw [← hgcd,hy0]; simp [val]
    clear sy hgcd hy0
    repeat' simp only [↓Zabr,↓Zabo,↓Zabq,↓Zaag,↓Zabl,↓Zabn,↓Zaci,↓Zach,↓Zacn,↓Zaar,↓Zaaj,↓Zaak,↓bxOp_extract,↓Zaau,↓Zaap,↓bxPut,↓Zabj,↓Zabi,↓Zaaf,↓Zaae,↓Zabe,↓Zabd,↓Zaco,↓Zaba,↓Zaay,↓Zaaz,Zacj,Zaad,Zabc,Zabs,Zacf,List.nil_append,↓reduceIte,Nat.reduceEqDiff,Nat.reduceLT,dec_F,true_and, *,lenI]
    exact ⟨x,rx,ox,sx,hxd,hxn,hxl,hg4⟩
end Go.Proofs.YtdfjaoncabanbaaDoor
