/- Fractions of the program, continued; prices. -/
import Derived.Test.YtcmaipijkjillaaDoorK3
set_option linter.unusedVariables false
set_option linter.unusedSimpArgs false
set_option linter.unusedSectionVars false

namespace Go.Proofs.YtcmaipijkjillaaDoor
open Go Go.AM
set_option maxRecDepth 10000

theorem eqlR (a b c d:Int):binP Tryd.prog .eql 48 (.agg ⟨[.int .i64 a,.int .i64 b]⟩) (.agg ⟨[.int .i64 c,.int .i64 d]⟩) = some (.bool (decide (a = c ∧ b = d))):=by
  have h:=(binP_eqlS (P:=Tryd.prog) (t:=48) (ty:=3) (k:=.i64) Tryd.underlying48 (by kernel_rfl) (by kernel_rfl) Tryd.underlying3 (by kernel_rfl) [a,b] [c,d] rfl rfl (fun i hi => by
    match i,hi with
    | 0,_ => exact ⟨rfl,rfl,show ("Num" : String) ≠ "_" by decide⟩
    | 1,_ => exact ⟨rfl,rfl,show ("Den" : String) ≠ "_" by decide⟩)).1
  refine Eq.trans h ?_
  refine congrArg some (congrArg Value.bool (decide_eq_decide.2 ?_));simp
variable {S:AM.Sys} (hS:Only S 6)
include hS

theorem times_runs (an ad bn bd:Int) (H:Heap) (h1:-9223372036854775808 ≤ an * bn ∧ an * bn ≤ 9223372036854775807) (h2:-9223372036854775808 ≤ ad * bd ∧ ad * bd ≤ 9223372036854775807) :
    ∃ H',Keep H H' ∧ Runs Tryd.prog S (.fn 30) [.agg ⟨[.int .i64 an,.int .i64 ad]⟩,.agg ⟨[.int .i64 bn,.int .i64 bd]⟩] H (.agg ⟨[.int .i64 (an * bn),.int .i64 (ad * bd)]⟩) H':=by
  suffices h:WCall Tryd.prog S (.fn 30) [.agg ⟨[.int .i64 an,.int .i64 ad]⟩,.agg ⟨[.int .i64 bn,.int .i64 bd]⟩] H (fun v H' => v = .agg ⟨[.int .i64 (an * bn),.int .i64 (ad * bd)]⟩ ∧ Keep H H') by
    obtain ⟨_,H',hr,rfl,hk⟩:=h; exact ⟨H',hk,hr⟩
  obtain ⟨Ha,e1,k1,s1,-,ra0,ra1⟩:=box2 H an ad 58;obtain ⟨Hb,e2,k2,s2,-,rb0,rb1⟩:=box2 Ha bn bd 58;obtain ⟨Hc,e3,k3,s3,-,-⟩:=box1 Hb [.int .i64 0,.int .i64 0] 58;have ow:Own Hc Hb.size 58 [.int .i64 0,.int .i64 0]:=e3 ▸ Own.new Hb _ _;obtain ⟨Hd,ps,ow',z,-,kk⟩:=st2 58 _ infF.1 infF.2 ow (an * bn) (ad * bd);have k:=kk H ((k1.trans k2).trans k3) (k1.trans k2).size;have qa0:=(k2.trans k3).read s1 ra0;have qa1:=(k2.trans k3).read s1 ra1;have qb0:=k3.read s2 rb0;have qb1:=k3.read s2 rb1;obtain ⟨x2,x0,x1⟩:=own2 ow';have w1:IntKind.i64.wrap (an * bn) = an * bn:=IntWalk.i64_in _ h1;have w2:IntKind.i64.wrap (ad * bd) = ad * bd:=IntWalk.i64_in _ h2;clear z kk ra0 ra1 rb0 rb1;refine call_of Tryd.func30 rfl (Nat.le_of_ble_eq_true rfl) (hS.no rfl _ _) ?_
  rw [Tryd.ntmps30,Tryd.results30]
  repeat' simp only [↓Zabo,↓Zabq,↓Zabp,↓Zaci,↓Zach,↓Zacn,↓Zaaj,↓bxOp_box,↓bxOp_build,↓Zaaq,↓Zaat,↓Zaal,↓Zaan,↓Zack,↓bxPut,↓Zabj,↓Zabh,↓Zacl,↓bxRes_cell,↓Zaco,↓Zaaz,Zacj,Zaad,Zabb,Zabe,List.map,↓reduceIte,Nat.reduceEqDiff,Nat.reduceLT,and_self,Nat.add_zero,one1,Option.bind_some,Option.map_some, *,argF,List.getD_cons_zero,List.getD_cons_succ,faF0,faF1,ldI,ldF,alF,bdF,cells2,Nat.zero_add]

theorem rateOf_runs (x:Off) (H:Heap):∃ H',Keep H H' ∧ Runs Tryd.prog S (.fn 29) [.agg ⟨x.cells⟩] H (.agg ⟨[.int .i64 x.n,.int .i64 x.d]⟩) H':=by
  suffices h:WCall Tryd.prog S (.fn 29) [.agg ⟨x.cells⟩] H (fun v H' => v = .agg ⟨[.int .i64 x.n,.int .i64 x.d]⟩ ∧ Keep H H') by
    obtain ⟨_,H',hr,rfl,hk⟩:=h; exact ⟨H',hk,hr⟩
  obtain ⟨Ha,e1,k1,s1,-,-,-,r2,r3⟩:=boxO H x;obtain ⟨Hc,e3,k3,s3,-,-⟩:=box1 Ha [.int .i64 0,.int .i64 0] 58;have ow:Own Hc Ha.size 58 [.int .i64 0,.int .i64 0]:=e3 ▸ Own.new Ha _ _;obtain ⟨Hd,ps,ow',z,-,kk⟩:=st2 58 _ infF.1 infF.2 ow x.n x.d;have k:=kk H (k1.trans k3) k1.size;have q2:=k3.read s1 r2;have q3:=k3.read s1 r3;obtain ⟨x2,x0,x1⟩:=own2 ow';clear z kk r2 r3;refine call_of Tryd.func29 rfl (Nat.le_of_ble_eq_true rfl) (hS.no rfl _ _) ?_
  rw [Tryd.ntmps29,Tryd.results29]
  repeat' simp only [↓Zabo,↓Zabq,↓Zabp,↓Zaci,↓Zach,↓Zacn,↓Zaaj,↓bxOp_box,↓bxOp_build,↓Zaaq,↓Zaat,↓Zaan,↓Zack,↓bxPut,↓Zabj,↓Zabh,↓Zacl,↓bxRes_cell,↓Zaco,↓Zaaz,Zacj,Zabe,List.map,↓reduceIte,Nat.reduceEqDiff,Nat.reduceLT,and_self,one1,Option.bind_some,Option.map_some, *,argF,List.getD_cons_zero,faO2,faO3,ldI,ldF,alF,bdF,cells2,Nat.zero_add]

theorem gdiv_runs (x y:Int) (H:Heap) (hx:0 ≤ x ∧ x ≤ 9223372036854775807) (hy:0 ≤ y ∧ y ≤ 9223372036854775807):∃ H',Keep H H' ∧ Runs Tryd.prog S (.fn 61) [.int .i64 x,.int .i64 y] H (.int .i64 (Nat.gcd x.toNat y.toNat:Nat)) H':=by
  suffices h:WCall Tryd.prog S (.fn 61) [.int .i64 x,.int .i64 y] H (fun v H' => v = .int .i64 (Nat.gcd x.toNat y.toNat:Nat) ∧ Keep H H') by
    obtain ⟨_,H',hr,rfl,hk⟩:=h; exact ⟨H',hk,hr⟩
  refine call_of Tryd.func61 rfl (Nat.le_of_ble_eq_true rfl) (hS.no rfl _ _) ?_
  rw [Tryd.ntmps61,Tryd.results61]
  repeat' simp only [↓Zabo,↓Zabq,↓bxC_loop,↓Zabl,↓Zabp,↓Zaci,↓Zach,↓Zacn,↓Zaar,↓Zaak,↓bxPut,↓Zabj,↓Zabh,↓Zacl,↓Zacm,↓Zaaz,↓Zaax,Zabe,Nat.reduceLT, *]
  refine sxL_of (fun m ρ H2 => ∃ a b:Int,m = b.toNat ∧ 0 ≤ a ∧ 0 ≤ b ∧ a ≤ 9223372036854775807 ∧ b ≤ 9223372036854775807 ∧ Nat.gcd a.toNat b.toNat = Nat.gcd x.toNat y.toNat ∧ Keep H H2 ∧ ρ 0 = .int .i64 a ∧ ρ 1 = .int .i64 b)
    ⟨x,y,rfl,hx.1,hy.1,hx.2,hy.2,rfl,Keep.refl H,rfl,rfl⟩ ?_
  rintro m ρ H2 ⟨a,b,rfl,ha,hb,ha2,hb2,hG,hK,e0,e1⟩;generalize Nat.gcd x.toNat y.toNat = G at *
  by_cases hb0:b = 0
  · subst hb0;have hG2:(G:Int) = a:=by rw [← hG,show (0:Int).toNat = 0 from rfl,Nat.gcd_zero_right]; omega
    clear hG
    repeat' (first | simp only [↓Zabr,↓Zabm,↓Zabo,↓Zabq,↓Zaah,↓Zabl,↓Zabn,↓Zaci,↓Zach,↓Zacc,↓Zaai,↓Zaca,↓sxDL_assign,↓Zabv,↓Zacn,↓Zaar,↓Zaak,↓Zaal,↓bxPut,↓Zabj,↓Zabi,↓Zaaf,↓Zaae,↓Zabd,↓Zabc,↓Zaco,↓Zaaz,↓Zaax,Zacj,Zaad,Zabb,sxIfB_f,↓reduceIte,Nat.reduceEqDiff,Nat.reduceLT,dec_F,and_self,not_true_eq_false, *] | (with_reducible first | refine Zabu (by assumption) (by decide +kernel) ?_ | refine Zabt (by decide +kernel) ?_ | refine Zacb (by decide +kernel) ?_ | refine Zabw ?_))
  · have hm:a.tmod b = a % b:=Int.tmod_eq_emod_of_nonneg ha;have h1:=Int.emod_nonneg a hb0;have h2:=Int.emod_lt_of_pos a (show 0 < b by omega)
    have f1:IntKind.i64.wrap (a % b) = a % b:=IntWalk.i64_in _ (by omega)
    have hg2:Nat.gcd b.toNat (a % b).toNat = G:=by
      rw [← hG,Int.toNat_emod ha hb,Nat.gcd_comm b.toNat (a.toNat % b.toNat),← Nat.gcd_rec,Nat.gcd_comm]
    repeat' (first | simp only [↓Zabr,↓Zabm,↓Zabo,↓Zabq,↓Zaah,↓Zabl,↓Zabn,↓Zaci,↓Zach,↓Zacc,↓Zaai,↓Zaca,↓sxDL_assign,↓Zabv,↓Zacn,↓Zaar,↓Zaak,↓Zaal,↓bxPut,↓Zabj,↓Zabi,↓Zaaf,↓Zaae,↓Zabd,↓Zabc,↓Zaco,↓Zaaz,↓Zaax,Zacj,Zaad,Zabb,Zacg,↓reduceIte,Nat.reduceEqDiff,Nat.reduceLT,dec_T,size_relow,low_relow,relow_relow,ne_eq,not_false_eq_true, *] | (with_reducible first | refine Zabu (by assumption) (by decide +kernel) ?_ | refine Zabt (by decide +kernel) ?_ | refine Zacb (by decide +kernel) ?_ | refine Zabw ?_))
    refine ⟨_,?_,b,a % b,rfl,hb,h1,hb2,by omega,hg2,?_,rfl,?_⟩
    · omega
    · have z1:min H.low H.size ≤ H2.size:=Nat.le_trans (Nat.min_le_right _ _) hK.size;exact { size:=hK.size,low:=fun _ => Nat.min_le_right _ _,lo:=by repeat' (first | exact hK.lo | exact z1 | refine Nat.le_min.2 ⟨?_,?_⟩),row:=hK.row,grp:=hK.grp,mem:=hK.mem }
    · rfl

def IsPrice (a b:Int):Prop:=(1 ≤ a ∧ a ≤ 1099511627776) ∧ (1 ≤ b ∧ b ≤ 1099511627776) ∧ Nat.gcd a.toNat b.toNat = 1
instance (a b:Int):Decidable (IsPrice a b):=by unfold IsPrice; infer_instance

theorem qlowest_runs (a b:Int) (H:Heap) (hL:H.low ≤ H.size) (ha:1 ≤ a ∧ a ≤ 9223372036854775807) (hb:1 ≤ b ∧ b ≤ 9223372036854775807) :
    ∃ H',Keep H H' ∧ Runs Tryd.prog S (.fn 41) [.agg ⟨[.int .i64 a,.int .i64 b]⟩] H (.agg ⟨[.int .i64 (a / (Nat.gcd a.toNat b.toNat:Nat)),.int .i64 (b / (Nat.gcd a.toNat b.toNat:Nat))]⟩) H':=by
  suffices h:WCall Tryd.prog S (.fn 41) [.agg ⟨[.int .i64 a,.int .i64 b]⟩] H (fun v H' => v = .agg ⟨[.int .i64 (a / (Nat.gcd a.toNat b.toNat:Nat)),.int .i64 (b / (Nat.gcd a.toNat b.toNat:Nat))]⟩ ∧ Keep H H') by
    obtain ⟨_,H',hr,rfl,hk⟩:=h; exact ⟨H',hk,hr⟩
  obtain ⟨Ha,e1,k1,s1,-,ra0,ra1⟩:=box2 H a b 58;obtain ⟨Hb,e2,k2,s2,-,-⟩:=box1 Ha [.int .i64 0,.int .i64 0] 48;have ow:Own Hb Ha.size 48 [.int .i64 0,.int .i64 0]:=e2 ▸ Own.new Ha _ _;obtain ⟨Hc,k3,R3⟩:=gdiv_runs hS a b Hb (by omega) (by omega)
  have f3:=R3.bx;have l3:=((k1.trans k2).trans k3).low hL;have hgp:0 < Nat.gcd a.toNat b.toNat:=Nat.gcd_pos_of_pos_left _ (by omega)
  generalize Nat.gcd a.toNat b.toNat = G at *;have w1:IntKind.i64.wrap (a.tdiv G) = a / G:=by
    have h0:=Int.ediv_nonneg (show 0 ≤ a by omega) (show 0 ≤ (G:Int) by omega)
    have h1:=Int.ediv_le_self (G:Int) (show 0 ≤ a by omega)
    rw [Int.tdiv_eq_ediv_of_nonneg (by omega),IntWalk.i64_in _ (by omega)]
  have w2:IntKind.i64.wrap (b.tdiv G) = b / G:=by
    have h0:=Int.ediv_nonneg (show 0 ≤ b by omega) (show 0 ≤ (G:Int) by omega)
    have h1:=Int.ediv_le_self (G:Int) (show 0 ≤ b by omega)
    rw [Int.tdiv_eq_ediv_of_nonneg (by omega),IntWalk.i64_in _ (by omega)]
  have hG0:¬ (G:Int) = 0:=by omega
  obtain ⟨Hd,ps,ow',z,-,kk⟩:=st2 48 _ infR.1 infR.2 ((ow.keep k3).addr (l:=Hc.size)) (a / G) (b / G);have k13:=(k1.trans k2).trans k3;have k:=Keep.lower k13 (kk H (k13.trans (Keep.relowS Hc)) k1.size);have m0:=(k2.trans k3).read s1 ra0;have m1:=(k2.trans k3).read s1 ra1;have n0:=k2.read s1 ra0;have n1:=k2.read s1 ra1;obtain ⟨x2,x0,x1⟩:=own2 ow';clear z kk ra0 ra1 R3;refine call_of Tryd.func41 rfl (Nat.le_of_ble_eq_true rfl) (hS.no rfl _ _) ?_
  rw [Tryd.ntmps41,Tryd.results41]
  repeat' (first | simp only [↓Zabm,↓Zabo,↓Zabq,↓Zabp,↓Zaci,↓Zach,↓Zacc,↓Zaai,↓Zaca,↓sxDL_build,↓Zabz,↓Zabv,↓Zabx,↓sxD_same,↓Zacn,↓Zaar,↓Zaak,↓Zaaj,↓bxOp_box,↓bxOp_build,↓Zaaq,↓Zaat,↓Zaal,↓Zaan,↓Zaau,↓Zack,↓bxPut,↓Zabj,↓Zabh,↓Zacl,↓bxRes_cell,↓Zaco,↓Zaaz,↓Zaay,Zacj,Zaad,Zabb,Zabs,Zabe,List.map,List.nil_append,List.append_nil,↓reduceIte,Nat.reduceEqDiff,Nat.reduceLT,and_self,read_relow,Zaaa,Nat.add_zero,one1,Option.bind_some,ne_eq,not_false_eq_true,Option.map_some, *,argF,List.getD_cons_zero,faF0,faF1,ldI,ldRt,alR,bdR,cells2,Nat.zero_add] | (with_reducible first | refine Zabu (by assumption) (by decide +kernel) ?_ | refine Zabt (by decide +kernel) ?_ | refine Zacb (by decide +kernel) ?_ | refine Zabw ?_))

theorem isPrice_runs (a b:Int) (H:Heap) (hL:H.low ≤ H.size):∃ H',Keep H H' ∧ Runs Tryd.prog S (.fn 28) [.agg ⟨[.int .i64 a,.int .i64 b]⟩] H (.bool (decide (IsPrice a b))) H':=by
  suffices h:WCall Tryd.prog S (.fn 28) [.agg ⟨[.int .i64 a,.int .i64 b]⟩] H (fun v H' => v = .bool (decide (IsPrice a b)) ∧ Keep H H') by
    obtain ⟨_,H',hr,rfl,hk⟩:=h; exact ⟨H',hk,hr⟩
  obtain ⟨Ha,e1,k1,s1,ra2,ra0,ra1⟩:=box2 H a b 48;have lA:=k1.low hL
  by_cases hb:(1 ≤ a ∧ a ≤ 1099511627776) ∧ (1 ≤ b ∧ b ≤ 1099511627776)
  · obtain ⟨⟨b1,b2⟩,b3,b4⟩:=hb;obtain ⟨Hb,Hc,k3,l3,f3,d3⟩:=drawn (P:=Tryd.prog) lA (qlowest_runs hS a b (Ha.relow Ha.size) (Nat.le_refl _) (by omega) (by omega))
    have m2:=k3.read s1 ra2;have k13:=k1.trans k3;have hgp:0 < Nat.gcd a.toNat b.toNat:=Nat.gcd_pos_of_pos_left _ (by omega)
    have hend:(a / (Nat.gcd a.toNat b.toNat:Nat) = a ∧ b / (Nat.gcd a.toNat b.toNat:Nat) = b) ↔ IsPrice a b:=by
      unfold IsPrice;constructor
      · rintro ⟨h1,_⟩;refine ⟨⟨b1,b2⟩,⟨b3,b4⟩,?_⟩;generalize Nat.gcd a.toNat b.toNat = G at *;rcases Nat.lt_or_ge 1 G with h | h
        · exfalso;have h2:a / (G:Int) ≤ a / 2:=by
            have h5:=Int.ediv_mul_le a (show (G:Int) ≠ 0 by omega)
            have h6:a / (G:Int) * 2 ≤ a / (G:Int) * G:=Int.mul_le_mul_of_nonneg_left (by omega) (Int.ediv_nonneg (by omega) (by omega))
            omega
          omega
        · omega
      · rintro ⟨_,_,h⟩;rw [h];simp
    refine call_of Tryd.func28 rfl (Nat.le_of_ble_eq_true rfl) (hS.no rfl _ _) ?_
    rw [Tryd.ntmps28,Tryd.results28]
    repeat' (first | simp only [↓Zabm,↓Zabo,↓Zabq,↓Zabp,↓Zaci,↓Zach,↓Zacc,↓Zaai,↓Zaca,↓sxDL_assign,↓sxDL_pick,↓Zabz,↓Zabv,↓Zabx,↓sxD_same,↓Zacn,↓Zaav,↓Zaar,↓Zaak,↓Zaas,↓bxOp_box,↓Zaaq,↓Zaal,↓Zaan,↓Zaau,↓bxPut,↓Zabj,↓Zabh,↓Zacl,↓Zacm,↓Zaco,↓Zaaz,↓Zaax,↓Zaay,↓dstAt,↓Zaba,Zacj,Zaad,Zabb,Zaac,Zabs,sxGuardB_tt,Zabe,List.map,List.nil_append,List.append_nil,↓reduceIte,Nat.reduceEqDiff,Nat.reduceLT,dec_T,and_self,Zaaa,Nat.add_zero,one1,Option.bind_some,Option.map_some, *,argF,List.getD_cons_zero,faR0,faR1,ldI,ldRt,eqlR,cells2,Nat.zero_add] | (with_reducible first | refine Zabu (by assumption) (by decide +kernel) ?_ | refine Zabt (by decide +kernel) ?_ | refine Zacb (by decide +kernel) ?_ | refine Zabw ?_))
    all_goals first | exact bool_d hend | skip
  · have hf:¬ IsPrice a b:=fun h => hb ⟨h.1,h.2.1⟩
    refine call_of Tryd.func28 rfl (Nat.le_of_ble_eq_true rfl) (hS.no rfl _ _) ?_
    rw [Tryd.ntmps28,Tryd.results28];clear ra2;rcases (show ¬ 1 ≤ a ∨ (1 ≤ a ∧ ¬ a ≤ 1099511627776) ∨ (1 ≤ a ∧ a ≤ 1099511627776 ∧ ¬ 1 ≤ b) ∨ (1 ≤ a ∧ a ≤ 1099511627776 ∧ 1 ≤ b ∧ ¬ b ≤ 1099511627776) by omega) with h | ⟨h,h2⟩ | ⟨h,h2,h3⟩ | ⟨h,h2,h3,h4⟩
    all_goals
      clear hb
      repeat' (first | simp only [↓Zabm,↓Zabo,↓Zabq,↓Zabp,↓Zaci,↓Zach,↓Zacc,↓Zaai,↓Zaca,↓sxDL_assign,↓sxDL_pick,↓Zabz,↓Zabv,↓Zabx,↓sxD_same,↓Zacn,↓Zaav,↓Zaar,↓Zaak,↓Zaas,↓bxOp_box,↓Zaaq,↓Zaal,↓Zaan,↓Zaau,↓bxPut,↓Zabj,↓Zabh,↓Zacl,↓Zacm,↓Zaco,↓Zaaz,↓Zaax,↓Zaay,↓dstAt,↓Zaba,Zacj,Zaad,Zabb,Zaac,Zaab,Zabs,sxGuardB_tt,sxGuardB_tf,Zabe,List.nil_append,↓reduceIte,Nat.reduceEqDiff,Nat.reduceLT,dec_T,dec_F,true_and,Zaaa,Nat.add_zero,one1,Option.bind_some, *,argF,List.getD_cons_zero,faR0,faR1,ldI,cells2,Nat.zero_add] | (with_reducible first | refine Zabu (by assumption) (by decide +kernel) ?_ | refine Zabt (by decide +kernel) ?_ | refine Zacb (by decide +kernel) ?_ | refine Zabw ?_))
      all_goals first | exact bool_f hf | skip
end Go.Proofs.YtcmaipijkjillaaDoor
