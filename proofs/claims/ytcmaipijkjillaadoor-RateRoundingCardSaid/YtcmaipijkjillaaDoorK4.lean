/- Fractions of the program, continued; prices. -/
import Derived.Test.YtcmaipijkjillaaDoorK3
set_option linter.unusedVariables false
set_option linter.unusedSimpArgs false
set_option linter.unusedSectionVars false

namespace Go.Proofs.YtcmaipijkjillaaDoor
open Go Go.AM
set_option maxRecDepth 10000

variable {S:AM.Sys} (hS:Only S 6)
include hS

theorem times_runs (an ad bn bd:Int) (H:Heap) (h1:-9223372036854775808 ≤ an * bn ∧ an * bn ≤ 9223372036854775807) (h2:-9223372036854775808 ≤ ad * bd ∧ ad * bd ≤ 9223372036854775807) :
    ∃ H',Keep H H' ∧ Runs Tryd.prog S (.fn 30) [.agg ⟨[.int .i64 an,.int .i64 ad]⟩,.agg ⟨[.int .i64 bn,.int .i64 bd]⟩] H (.agg ⟨[.int .i64 (an * bn),.int .i64 (ad * bd)]⟩) H':=by
  suffices h:WCall Tryd.prog S (.fn 30) [.agg ⟨[.int .i64 an,.int .i64 ad]⟩,.agg ⟨[.int .i64 bn,.int .i64 bd]⟩] H (fun v H' => v = .agg ⟨[.int .i64 (an * bn),.int .i64 (ad * bd)]⟩ ∧ Keep H H') by
    obtain ⟨_,H',hr,rfl,hk⟩:=h; exact ⟨H',hk,hr⟩
  obtain ⟨Ha,e1,k1,s1,-,ra0,ra1⟩:=box2 H an ad 58;obtain ⟨Hb,e2,k2,s2,-,rb0,rb1⟩:=box2 Ha bn bd 58;obtain ⟨Hc,e3,k3,s3,-,-⟩:=box1 Hb [.int .i64 0,.int .i64 0] 58;have ow:Own Hc Hb.size 58 [.int .i64 0,.int .i64 0]:=e3 ▸ Own.new Hb _ _;obtain ⟨Hd,ps,ow',z,-,kk⟩:=st2 58 _ infF.1 infF.2 ow (an * bn) (ad * bd);have k:=kk H ((k1.trans k2).trans k3) (k1.trans k2).size;have qa0:=(k2.trans k3).read s1 ra0;have qa1:=(k2.trans k3).read s1 ra1;have qb0:=k3.read s2 rb0;have qb1:=k3.read s2 rb1;obtain ⟨x2,x0,x1⟩:=own2 ow';have w1:IntKind.i64.wrap (an * bn) = an * bn:=IntWalk.i64_in _ h1;have w2:IntKind.i64.wrap (ad * bd) = ad * bd:=IntWalk.i64_in _ h2;clear z kk ra0 ra1 rb0 rb1;refine call_of Tryd.func30 rfl (Nat.le_of_ble_eq_true rfl) (hS.no rfl _ _) ?_
  rw [Tryd.ntmps30,Tryd.results30]
  repeat' simp only [↓Zabo,↓Zabq,↓Zabp,↓Zacj,↓Zaci,↓Zaco,↓Zaaj,↓bxOp_box,↓bxOp_build,↓Zaaq,↓Zaat,↓Zaal,↓Zaan,↓Zacl,↓bxPut,↓Zabj,↓Zabh,↓Zacm,↓bxRes_cell,↓Zacp,↓Zaaz,Zack,Zaad,Zabb,Zabe,List.map,↓reduceIte,Nat.reduceEqDiff,Nat.reduceLT,and_self,Nat.add_zero,one1,Option.bind_some,Option.map_some, *,argF,List.getD_cons_zero,List.getD_cons_succ,faF0,faF1,ldI,ldF,alF,bdF,cells2,Nat.zero_add]

theorem rateOf_runs (x:Off) (H:Heap):∃ H',Keep H H' ∧ Runs Tryd.prog S (.fn 29) [.agg ⟨x.cells⟩] H (.agg ⟨[.int .i64 x.n,.int .i64 x.d]⟩) H':=by
  suffices h:WCall Tryd.prog S (.fn 29) [.agg ⟨x.cells⟩] H (fun v H' => v = .agg ⟨[.int .i64 x.n,.int .i64 x.d]⟩ ∧ Keep H H') by
    obtain ⟨_,H',hr,rfl,hk⟩:=h; exact ⟨H',hk,hr⟩
  obtain ⟨Ha,e1,k1,s1,-,-,-,r2,r3⟩:=boxO H x;obtain ⟨Hc,e3,k3,s3,-,-⟩:=box1 Ha [.int .i64 0,.int .i64 0] 58;have ow:Own Hc Ha.size 58 [.int .i64 0,.int .i64 0]:=e3 ▸ Own.new Ha _ _;obtain ⟨Hd,ps,ow',z,-,kk⟩:=st2 58 _ infF.1 infF.2 ow x.n x.d;have k:=kk H (k1.trans k3) k1.size;have q2:=k3.read s1 r2;have q3:=k3.read s1 r3;obtain ⟨x2,x0,x1⟩:=own2 ow';clear z kk r2 r3;refine call_of Tryd.func29 rfl (Nat.le_of_ble_eq_true rfl) (hS.no rfl _ _) ?_
  rw [Tryd.ntmps29,Tryd.results29]
  repeat' simp only [↓Zabo,↓Zabq,↓Zabp,↓Zacj,↓Zaci,↓Zaco,↓Zaaj,↓bxOp_box,↓bxOp_build,↓Zaaq,↓Zaat,↓Zaan,↓Zacl,↓bxPut,↓Zabj,↓Zabh,↓Zacm,↓bxRes_cell,↓Zacp,↓Zaaz,Zack,Zabe,List.map,↓reduceIte,Nat.reduceEqDiff,Nat.reduceLT,and_self,one1,Option.bind_some,Option.map_some, *,argF,List.getD_cons_zero,faO2,faO3,ldI,ldF,alF,bdF,cells2,Nat.zero_add]

def IsPrice (a b:Int):Prop:=(1 ≤ a ∧ a ≤ 1099511627776) ∧ (1 ≤ b ∧ b ≤ 1099511627776) ∧ Nat.gcd a.toNat b.toNat = 1
instance (a b:Int):Decidable (IsPrice a b):=by unfold IsPrice; infer_instance

end Go.Proofs.YtcmaipijkjillaaDoor
