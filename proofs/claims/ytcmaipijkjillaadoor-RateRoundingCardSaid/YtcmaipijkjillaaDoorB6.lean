/- Whole numbers of any size, continued: the greatest common divisor. -/
import Derived.Test.YtcmaipijkjillaaDoorB4
set_option linter.unusedVariables false
set_option linter.unusedSimpArgs false
set_option linter.unusedSectionVars false

namespace Go.Proofs.YtcmaipijkjillaaDoor
open Go Go.AM
set_option maxRecDepth 10000
theorem ex20 (a b:Value):aExtract (.tuple #[a,b]) 0 = some a:=rfl
theorem ex21 (a b:Value):aExtract (.tuple #[a,b]) 1 = some b:=rfl
variable {S:AM.Sys} (hS:Only S 6)
include hS
theorem gcdD_runs (v1 v2:Value) (a b:List Int) (r1 o1 r2 o2:Nat) (H:Heap) (hg:Grp H) (hL:H.low ≤ H.size) (h1:SlI .i64 H v1 a r1 o1) (h2:SlI .i64 H v2 b r2 o2) (ha:Digs a) (hna:Norm a) (hb:Digs b) (hnb:Norm b) (hsa:a.length ≤ 400) (hsb:b.length ≤ 400) :
    ∃ H' v' w r' o',Keep H H' ∧ Grp H' ∧ SlI .i64 H' v' w r' o' ∧ Digs w ∧ Norm w ∧ w.length ≤ 400 ∧ (val w).toNat = Nat.gcd (val a).toNat (val b).toNat ∧ Runs Tryd.prog S (.fn 55) [v1,v2] H v' H':=by
  suffices h:WCall Tryd.prog S (.fn 55) [v1,v2] H (fun v' H' => ∃ w r' o',Keep H H' ∧ Grp H' ∧ SlI .i64 H' v' w r' o' ∧ Digs w ∧ Norm w ∧ w.length ≤ 400 ∧ (val w).toNat = Nat.gcd (val a).toNat (val b).toNat) by
    obtain ⟨v',H',hr,w,r',o',h1,h2,h3,h4,h5,h6,h7⟩:=h; exact ⟨H',v',w,r',o',h1,h2,h3,h4,h5,h6,h7,hr⟩
  obtain ⟨a1,c1,rfl⟩:=h1.v0;obtain ⟨a2,c2,rfl⟩:=h2.v0;refine call_of Tryd.func55 rfl (Nat.le_of_ble_eq_true rfl) (hS.no rfl _ _) ?_
  rw [Tryd.ntmps55,Tryd.results55]
  repeat' simp only [↓Zabo,↓Zabq,↓bxC_loop,↓Zabl,↓Zabp,↓Zacj,↓Zaci,↓Zaco,↓Zaar,↓Zaak,↓bxPut,↓Zabj,↓Zabh,↓Zacm,↓Zacn,↓Zaaz,↓Zaax,Zabe,Nat.reduceLT, *]
  refine sxL_of (fun m ρ H2 => ∃ (x y:List Int) (vx vy:Value) (rx ox ry oy:Nat),m = (val y).toNat ∧ Keep H H2 ∧ Grp H2 ∧ SlI .i64 H2 vx x rx ox ∧ SlI .i64 H2 vy y ry oy ∧ Digs x ∧ Norm x ∧ Digs y ∧ Norm y ∧ x.length ≤ 400 ∧ y.length ≤ 400 ∧
    Nat.gcd (val x).toNat (val y).toNat = Nat.gcd (val a).toNat (val b).toNat ∧ ρ 0 = vx ∧ ρ 1 = vy)
    ⟨a,b,_,_,r1,o1,r2,o2,rfl,Keep.refl _,hg,h1,h2,ha,hna,hb,hnb,hsa,hsb,rfl,rfl,rfl⟩ ?_
  clear h1 h2 ha hna hb hnb hsa hsb;rintro m ρ H2 ⟨x,y,vx,vy,rx,ox,ry,oy,rfl,hK,hg2,sx,sy,hxd,hxn,hyd,hyn,hxl,hyl,hgcd,e0,e1⟩;have hL2:=hK.low hL;have hov:=sy.v0;obtain ⟨ay,cy,rfl⟩:=hov
  by_cases hlt:0 < y.length
  · have hlt':(0:Int) < (y.length:Int):=by omega
    have hY:=norm_pos hyd hyn hlt;have hob:=divD_runs hS vx _ x y rx ox ry oy H2 hg2 hL2 sx sy hxd hyd hyn hlt hxl hyl;obtain ⟨H3,vq,vr,q,rem,rq,oq,rr,or',hK3,hg3,sq,sr,hF,hqd,hqn,hql,hrd,hrn,hv,hrb,hrl,hR⟩:=hob;have f3:=hR.bx;have hKK:=hK.trans hK3;have sy3:=sy.keep hK3;have hq0:=hqd.nonneg;have hr0:=hrd.nonneg;have hg4:Nat.gcd (val y).toNat (val rem).toNat = Nat.gcd (val a).toNat (val b).toNat:=by
      rw [← hgcd];have h5:(val x).toNat = (val q).toNat * (val y).toNat + (val rem).toNat:=by
        have h6:((val x).toNat:Int) = (((val q).toNat * (val y).toNat + (val rem).toNat:Nat):Int):=by
          rw [Int.natCast_add,Int.natCast_mul,Int.toNat_of_nonneg hq0,Int.toNat_of_nonneg hr0,Int.toNat_of_nonneg hxd.nonneg,Int.toNat_of_nonneg (Int.le_of_lt hY)];exact hv
        exact Int.ofNat_inj.1 h6
      rw [h5,Nat.gcd_comm ((val q).toNat * (val y).toNat + (val rem).toNat),Nat.gcd_mul_right_add_right]
    clear hR sx sq sy hv hql hgcd hxd hxn
    repeat' simp only [↓Zabr,↓Zabo,↓Zabq,↓Zaah,↓Zabl,↓Zabn,↓Zacj,↓Zaci,↓Zaco,↓Zaar,↓Zaak,↓Zaal,↓bxOp_extract,↓Zaau,↓Zaap,↓bxPut,↓Zabj,↓Zabi,↓Zaaf,↓Zaae,↓Zabd,↓Zabc,↓Zacp,↓Zaaz,↓Zaax,↓Zaay,Zack,Zaad,Zabb,Zabs,Zach,List.map,List.nil_append,List.append_nil,↓reduceIte,Nat.reduceEqDiff,Nat.reduceLT,dec_T,true_and, *,lenI,ex20,ex21]
    exact ⟨(val rem).toNat,by omega,y,rem,_,_,ry,oy,rr,or',rfl,sy3,sr,hyd,hyn,hrd,hrn,hyl,by omega,hg4,rfl,rfl⟩
  · have hlt':¬ (0:Int) < (y.length:Int):=by omega
    have hy0:y = []:=List.length_eq_zero_iff.1 (by omega)
    have hg4:(val x).toNat = Nat.gcd (val a).toNat (val b).toNat:=by
      rw [← hgcd,hy0]; simp [val]
    clear sy hgcd hy0
    repeat' simp only [↓Zabr,↓Zabo,↓Zabq,↓Zaah,↓Zabl,↓Zabn,↓Zacj,↓Zaci,↓Zaco,↓Zaar,↓Zaak,↓Zaal,↓bxOp_extract,↓Zaau,↓Zaap,↓bxPut,↓Zabj,↓Zabi,↓Zaaf,↓Zaae,↓Zabd,↓Zabc,↓Zacp,↓Zaaz,↓Zaax,↓Zaay,Zack,Zaad,Zabb,Zabs,Zacg,List.nil_append,↓reduceIte,Nat.reduceEqDiff,Nat.reduceLT,dec_F,true_and, *,lenI]
    exact ⟨x,rx,ox,sx,hxd,hxn,hxl,hg4⟩
end Go.Proofs.YtcmaipijkjillaaDoor
