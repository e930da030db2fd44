/- Agree, by the reference. -/
import Derived.Test.YtcmaipijkjillaaDoorKB
set_option linter.unusedVariables false
set_option linter.unusedSimpArgs false
set_option linter.unusedSectionVars false

namespace Go.Proofs.YtcmaipijkjillaaDoor
open Go Go.AM
set_option maxRecDepth 10000

variable {S:AM.Sys} (hS:Only S 6)
include hS

theorem Price_runs (p q:Int) (H:Heap):∃ H',Keep H H' ∧ Runs Tryd.prog S (.fn 32) [.agg ⟨[.int .i64 p,.int .i64 q]⟩] H (.bool (decide (IsPrice p q))) H':=by
  obtain ⟨b0,hb0⟩:∃ b0,decide (IsPrice p q) = b0:=⟨_,rfl⟩;rw [hb0]
  suffices h:WCall Tryd.prog S (.fn 32) [.agg ⟨[.int .i64 p,.int .i64 q]⟩] H (fun v H' => v = .bool b0 ∧ Keep H H') by
    obtain ⟨_,H',hr,rfl,hk⟩:=h; exact ⟨H',hk,hr⟩
  obtain ⟨H1,e1,k1,z1,rx2,rx0,rx1⟩:=box2 H p q 48;refine call_of Tryd.func32 rfl (Nat.le_of_ble_eq_true rfl) (hS.no rfl _ _) ?_
  rw [Tryd.ntmps32,Tryd.results32]
  by_cases h1:1 ≤ p
  case neg =>
    have hb:b0 = false:=by rw [← hb0]; exact decide_eq_false fun h => h1 h.1.1
    subst hb;clear hb0
    repeat' simp only [↓Zabo,↓Zabq,↓Zabp,↓Zaci,↓Zach,↓Zacn,↓Zaav,↓Zaar,↓Zaak,↓Zaas,↓bxOp_box,↓Zaaq,↓Zaal,↓Zaan,↓Zaau,↓bxPut,↓Zabj,↓Zabh,↓Zacl,↓Zacm,↓Zaco,↓Zaaz,↓Zaax,↓Zaay,↓dstAt,↓Zaba,Zacj,Zaad,Zabb,Zaab,Zabs,sxGuardB_tf,Zabe,List.nil_append,↓reduceIte,Nat.reduceEqDiff,Nat.reduceLT,dec_F,and_self,Nat.add_zero,one1,Option.bind_some, *,argF,List.getD_cons_zero,cells2,faR0,ldI]
  by_cases h2:p ≤ 1099511627776
  case neg =>
    have hb:b0 = false:=by rw [← hb0]; exact decide_eq_false fun h => h2 h.1.2
    subst hb;clear hb0
    repeat' simp only [↓Zabo,↓Zabq,↓Zabp,↓Zaci,↓Zach,↓Zacn,↓Zaav,↓Zaar,↓Zaak,↓Zaas,↓bxOp_box,↓Zaaq,↓Zaal,↓Zaan,↓Zaau,↓bxPut,↓Zabj,↓Zabh,↓Zacl,↓Zacm,↓Zaco,↓Zaaz,↓Zaax,↓Zaay,↓dstAt,↓Zaba,Zacj,Zaad,Zabb,Zaac,Zaab,Zabs,sxGuardB_tt,sxGuardB_tf,Zabe,List.nil_append,↓reduceIte,Nat.reduceEqDiff,Nat.reduceLT,dec_T,dec_F,and_self,Nat.add_zero,one1,Option.bind_some, *,argF,List.getD_cons_zero,cells2,faR0,ldI]
  by_cases h3:1 ≤ q
  case neg =>
    have hb:b0 = false:=by rw [← hb0]; exact decide_eq_false fun h => h3 h.2.1.1
    subst hb;clear hb0
    repeat' simp only [↓Zabo,↓Zabq,↓Zabp,↓Zaci,↓Zach,↓Zacn,↓Zaav,↓Zaar,↓Zaak,↓Zaas,↓bxOp_box,↓Zaaq,↓Zaal,↓Zaan,↓Zaau,↓bxPut,↓Zabj,↓Zabh,↓Zacl,↓Zacm,↓Zaco,↓Zaaz,↓Zaax,↓Zaay,↓dstAt,↓Zaba,Zacj,Zaad,Zabb,Zaac,Zaab,Zabs,sxGuardB_tt,sxGuardB_tf,Zabe,List.nil_append,↓reduceIte,Nat.reduceEqDiff,Nat.reduceLT,dec_T,dec_F,and_self,Nat.add_zero,one1,Option.bind_some, *,argF,List.getD_cons_zero,cells2,faR0,faR1,ldI,Nat.zero_add]
  by_cases h4:q ≤ 1099511627776
  case neg =>
    have hb:b0 = false:=by rw [← hb0]; exact decide_eq_false fun h => h4 h.2.1.2
    subst hb;clear hb0
    repeat' simp only [↓Zabo,↓Zabq,↓Zabp,↓Zaci,↓Zach,↓Zacn,↓Zaav,↓Zaar,↓Zaak,↓Zaas,↓bxOp_box,↓Zaaq,↓Zaal,↓Zaan,↓Zaau,↓bxPut,↓Zabj,↓Zabh,↓Zacl,↓Zacm,↓Zaco,↓Zaaz,↓Zaax,↓Zaay,↓dstAt,↓Zaba,Zacj,Zaad,Zabb,Zaac,Zaab,Zabs,sxGuardB_tt,sxGuardB_tf,Zabe,List.nil_append,↓reduceIte,Nat.reduceEqDiff,Nat.reduceLT,dec_T,dec_F,and_self,Nat.add_zero,one1,Option.bind_some, *,argF,List.getD_cons_zero,cells2,faR0,faR1,ldI,Nat.zero_add]
  obtain ⟨H2,k2,R3⟩:=Gcd_runs hS p q H1 (by omega) (by omega) (by omega) (by omega)
  have f3:=R3.bx;have k02:=k1.trans k2;have hbv:decide (((Nat.gcd p.toNat q.toNat:Nat):Int) = 1) = b0:=by
    rw [← hb0];exact decide_eq_decide.2 ⟨fun h => ⟨⟨h1,h2⟩,⟨h3,h4⟩,by omega⟩,fun h => by have:=h.2.2; omega⟩
  clear hb0 R3 k1 k2;generalize ((Nat.gcd p.toNat q.toNat:Nat):Int) = G at *
  repeat' simp only [↓Zabo,↓Zabq,↓Zabp,↓Zaci,↓Zach,↓Zacn,↓Zaav,↓Zaar,↓Zaak,↓Zaas,↓bxOp_box,↓Zaaq,↓Zaal,↓Zaan,↓Zaau,↓bxPut,↓Zabj,↓Zabh,↓Zacl,↓Zacm,↓Zaco,↓Zaaz,↓Zaax,↓Zaay,↓dstAt,↓Zaba,Zacj,Zaad,Zabb,Zaac,Zabs,sxGuardB_tt,Zabe,List.map,List.nil_append,List.append_nil,↓reduceIte,Nat.reduceEqDiff,Nat.reduceLT,dec_T,and_self,Nat.add_zero,one1,Option.bind_some, *,argF,List.getD_cons_zero,cells2,faR0,faR1,ldI,Nat.zero_add]

theorem FromRatio_runs (x y:Int) (H:Heap) (hg:Grp H) (hL:H.low ≤ H.size) (hx:0 ≤ x ∧ x ≤ 9223372036854775807) (hy:0 < y) (hy2:y ≤ 9223372036854775807):QOut S 33 [.agg ⟨[.int .i64 x,.int .i64 y]⟩] H x y:=by
  suffices h:WCall Tryd.prog S (.fn 33) [.agg ⟨[.int .i64 x,.int .i64 y]⟩] H (fun v H' => Keep H H' ∧ Grp H' ∧ QV H' v x y) by
    obtain ⟨v,H',hr,h1,h2,h3⟩:=h; exact ⟨H',v,h1,h2,h3,hr⟩
  obtain ⟨Ha,ea,ka,za,-,ga0,ga1⟩:=box2 H x y 48;obtain ⟨H3,b3,hK3,hs3,zz3,hr3⟩:=box1 Ha [.bool false,.slice none 0 0,.bool false,.slice none 0 0] 37;have ow3:Own H3 Ha.size 37 [.bool false,.slice none 0 0,.bool false,.slice none 0 0]:=(b3 ▸ Own.new Ha _ _);clear zz3 hr3;have q0:=hK3.read za ga0;have q1:=hK3.read za ga1;have k3:=ka.trans hK3;obtain ⟨H4,vx,hK4,hg4,bx,hR4⟩:=Frac_all hS x y H3 (k3.grp hg) (k3.low hL) hx.1 hy hx.2 hy2;have f4:=hR4.bx;obtain ⟨H7,ps,hld,hq7,hkp⟩:=retQV (ow3.keep hK4) bx;have hK7:=hkp H (k3.trans hK4) ka.size;have hg7:=hK7.grp hg;refine call_of Tryd.func33 rfl (Nat.le_of_ble_eq_true rfl) (hS.no rfl _ _) ?_
  rw [Tryd.ntmps33,Tryd.results33];clear hR4 bx ow3 hkp ga0 ga1
  repeat' simp only [↓Zabo,↓Zabq,↓Zabp,↓Zaci,↓Zach,↓Zacn,↓Zaaj,↓bxOp_box,↓Zaaq,↓Zaat,↓Zaan,↓Zaau,↓Zack,↓bxPut,↓Zabj,↓Zabh,↓Zacl,↓bxRes_cell,↓Zaco,↓Zaaz,↓Zaay,Zacj,Zabs,Zabe,List.map,List.nil_append,List.append_nil,↓reduceIte,Nat.reduceEqDiff,Nat.reduceLT,and_self,Nat.add_zero,one1,Option.bind_some, *,argF,List.getD_cons_zero,ldI,faR0,faR1,cells2,alQ,Nat.zero_add]

set_option maxHeartbeats 8000000 in
theorem rAgree_runs (n:Int) (l:List Off) (ps:List (Int × Int)) (vl vp:Value) (r o r' o':Nat) (H:Heap) (hgr:Grp H) (hL:H.low ≤ H.size) (hl:SlO H vl l r o) (hp:SlP H vp ps r' o') :
    ∃ u H',Runs Tryd.prog S (.fn 10) [.int .i64 n,vl,vp] H u H' ∧ PostA n l ps H u H':=by
  suffices h:WCall Tryd.prog S (.fn 10) [.int .i64 n,vl,vp] H (fun u H' => PostA n l ps H u H') by
    obtain ⟨u,H',hr,h⟩:=h; exact ⟨u,H',hr,h⟩
  obtain ⟨H1,k1,R1⟩:=Good_runs hS n vl l r o H hl;obtain ⟨a,cap,rfl⟩:=hl.v0;obtain ⟨a',cap',rfl⟩:=hp.v0;have f1:=R1.bx;refine call_of Tryd.func10 rfl (Nat.le_of_ble_eq_true rfl) (hS.no rfl _ _) ?_
  rw [Tryd.ntmps10,Tryd.results10]
  by_cases hck:chk n l = 0
  case neg =>
    have hpo:PostA n l ps H (.tuple ⟨[.bool false,.int .i64 (chk n l)]⟩) H1:=⟨false,_,rfl,k1,fun _ => ⟨rfl,rfl⟩,fun h => absurd h hck⟩
    generalize chk n l = e at *;clear hl hp R1 k1
    repeat' simp only [↓Zabr,↓Zabo,↓Zabq,↓Zaah,↓bxC_loop,↓Zabl,↓Zabp,↓Zaci,↓Zach,↓Zacn,↓Zaar,↓Zaak,↓Zaal,↓Zaau,↓Zaap,↓bxPut,↓Zabj,↓Zabk,↓Zabh,↓Zacl,↓Zacm,↓Zaco,↓Zaaz,↓Zaax,↓Zaay,Zacj,Zaad,Zabb,Zabs,Zacg,Zabf,List.map,List.nil_append,List.append_nil,↓reduceIte,Nat.reduceEqDiff,Nat.reduceLT,dec_T,not_false_eq_true, *,argF,List.getD_cons_zero,List.getD_cons_succ,Zabf]
  rw [hck] at f1;have ba:∀ X,Keep H X → ¬ ((ps.length:Int) = n ∧ PrOk ps) → PostA n l ps H (.tuple ⟨[.bool false,.int .i64 2]⟩) X:=fun X hk hn => ⟨false,2,rfl,hk,fun h => absurd hck h,fun _ => ⟨fun _ => ⟨rfl,rfl⟩,fun h => absurd h hn⟩⟩
  have l1:=k1.low hL
  by_cases hpn:(ps.length:Int) = n
  case neg =>
    have hpo:=ba H1 k1 (fun h => hpn h.1)
    clear hl hp R1 k1 ba hck
    repeat' simp only [↓Zabr,↓Zabo,↓Zabq,↓Zaah,↓bxC_loop,↓Zabl,↓Zabp,↓Zaci,↓Zach,↓Zacn,↓Zaar,↓Zaak,↓Zaal,↓Zaau,↓Zaap,↓bxPut,↓Zabj,↓Zabk,↓Zabh,↓Zacl,↓Zacm,↓Zaco,↓Zaaz,↓Zaax,↓Zaay,Zacj,Zaad,Zabb,Zabs,Zacg,sxIfB_f,Zabf,List.map,List.nil_append,List.append_nil,↓reduceIte,Nat.reduceEqDiff,Nat.reduceLT,dec_T,dec_F,not_true_eq_false,not_false_eq_true, *,argF,List.getD_cons_zero,List.getD_cons_succ,lenP,Zabf]
  obtain ⟨⟨n2,n6⟩,hl40,hoff⟩:=chk_zero hck;have hml:=hp.ml;have hpn1:=Int.le_of_eq hpn;have hpn2:=Int.le_of_eq hpn.symm;have hne:decide (¬ (ps.length:Int) = n) = false:=decide_eq_false (fun h => h hpn)
  have hpnE:∃ z:Int,z = n ∧ (ps.length:Int) = z:=⟨n,rfl,hpn⟩;clear hpn
  repeat' simp only [↓Zabr,↓Zabo,↓Zabq,↓Zaah,↓bxC_loop,↓Zabl,↓Zabp,↓Zaci,↓Zach,↓Zacn,↓Zaar,↓Zaak,↓Zaal,↓Zaau,↓Zaap,↓bxPut,↓Zabj,↓Zabk,↓Zabh,↓Zacl,↓Zacm,↓Zaco,↓Zaaz,↓Zaax,↓Zaay,Zacj,Zaad,Zabb,Zabs,sxIfB_f,Zabf,List.map,List.nil_append,List.append_nil,↓reduceIte,Nat.reduceEqDiff,Nat.reduceLT,dec_F,not_true_eq_false, *,argF,List.getD_cons_zero,List.getD_cons_succ,lenP,Zabf]
  refine sxL_of (fun m ρ X => ∃ k:Nat,m = ps.length - k ∧ k ≤ ps.length ∧ Keep H X ∧ (∀ i,i < k → IsPrice (ps.getD i default).1 (ps.getD i default).2) ∧ ρ 0 = .int .i64 n ∧ ρ 1 = .slice a l.length cap ∧ ρ 2 = .slice a' ps.length cap' ∧ ρ 9 = .int .i64 (k:Int))
    ⟨0,rfl,Nat.zero_le _,k1,fun i hi => absurd hi (Nat.not_lt_zero i),rfl,rfl,rfl,rfl⟩ ?_
  clear f1 hne;rintro m ρ X ⟨k,rfl,hk,kX,hall,e0,e1,e2,e9⟩;have hpnE':(ps.length:Int) = n:=by obtain ⟨z,rfl,h⟩:=hpnE; exact h
  have lX:=kX.low hL
  by_cases hkl:k < ps.length
  · have hlt:(k:Int) < n:=by omega
    have hwi:=wrap_succ hkl hml;have hob:=SlP_at (hp.keep kX) (i:=(k:Int)) (by omega) (by omega)
    obtain ⟨ix,rd⟩:=hob;rw [Int.toNat_natCast] at ix rd;obtain ⟨X3,k3,R3⟩:=Price_runs hS (ps.getD k default).1 (ps.getD k default).2 X;have f3:=R3.bx;have kX3:=kX.trans k3;have hall2:IsPrice (ps.getD k default).1 (ps.getD k default).2 → ∀ i,i < k + 1 → IsPrice (ps.getD i default).1 (ps.getD i default).2:=fun h i hi => by
      rcases Nat.lt_or_ge i k with h1 | h1
      · exact hall i h1
      · rw [show i = k by omega]; exact h
    have hno:¬ IsPrice (ps.getD k default).1 (ps.getD k default).2 → ¬ ((ps.length:Int) = n ∧ PrOk ps):=fun h h1 => h (h1.2 k hkl)
    by_cases hpr:IsPrice (ps.getD k default).1 (ps.getD k default).2
    · rw [decide_eq_true hpr] at f3;replace hall2:=hall2 hpr;clear hl hp hpr hno hall ba hck R3 kX k3 hpnE' hoff;generalize (ps.getD k default).1 = x at rd f3;generalize (ps.getD k default).2 = y at rd f3
      repeat' simp only [↓Zabr,↓Zabo,↓Zabq,↓Zaah,↓Zabl,↓Zabn,↓Zabp,↓Zaci,↓Zach,↓Zacn,↓Zaar,↓Zaak,↓Zaaq,↓Zaal,↓bxOp_un,↓Zaao,↓Zaau,↓bxPut,↓Zabj,↓Zabi,↓Zabk,↓Zaaf,↓Zaag,↓Zaae,↓Zabd,↓Zabc,↓loopQ_ret,↓Zabh,↓Zacl,↓Zacm,↓Zaco,↓Zaaz,↓Zaax,↓Zaay,Zacj,Zaad,Zabb,una_nt,Zabs,Zacg,sxIfB_f,Zabf,List.map,List.nil_append,List.append_nil,↓reduceIte,Nat.reduceEqDiff,Nat.reduceLT,dec_T,true_and,Option.map_some, *,ldRt]
      exact ⟨ps.length - (k + 1),by omega,k + 1,rfl,by omega,hall2,rfl⟩
    · rw [decide_eq_false hpr] at f3;have hpo:=ba X3 kX3 (hno hpr);clear hl hp hpr hno hall ba hck R3 kX k3 hpnE' hoff hall2;generalize (ps.getD k default).1 = x at rd f3;generalize (ps.getD k default).2 = y at rd f3
      repeat' simp only [↓Zabr,↓Zabo,↓Zabq,↓Zaah,↓Zabl,↓Zabn,↓Zabp,↓Zaci,↓Zach,↓Zacn,↓Zaar,↓Zaak,↓Zaaq,↓Zaal,↓bxOp_un,↓Zaao,↓Zaau,↓bxPut,↓Zabj,↓Zabi,↓Zabk,↓Zaaf,↓Zaag,↓Zaae,↓Zabd,↓Zabc,↓loopQ_ret,↓Zabh,↓Zacl,↓Zacm,↓Zaco,↓Zaaz,↓Zaax,↓Zaay,Zacj,Zaad,Zabb,una_nf,Zabs,Zacg,Zabf,List.map,List.nil_append,List.append_nil,↓reduceIte,Nat.reduceEqDiff,Nat.reduceLT,dec_T,Option.map_some, *,ldRt,Zabf]
  have hlt:¬ (k:Int) < n:=by omega
  have hke:k = ps.length:=by omega
  rw [hke] at hall;have hprA:PrOk ps:=hall;have gd:∀ X bb,Keep H X → (bb = true ↔ AgOk l ps) → PostA n l ps H (.tuple ⟨[.bool bb,.int .i64 0]⟩) X:=fun X bb hk hn => ⟨bb,0,rfl,hk,fun h => absurd hck h,fun _ => ⟨fun h => absurd ⟨hpnE',hprA⟩ h,fun _ => ⟨rfl,hn⟩⟩⟩
  have hmo:=hl.ml;clear hall hke hkl hk ba hpnE'
  repeat' simp only [↓Zabr,↓Zabo,↓Zabq,↓Zaah,↓Zabl,↓Zabn,↓Zabp,↓Zaci,↓Zach,↓Zacn,↓Zaar,↓Zaak,↓Zaaq,↓Zaal,↓bxOp_un,↓Zaao,↓Zaau,↓bxPut,↓Zabj,↓Zabi,↓Zabk,↓Zaaf,↓Zaag,↓Zaae,↓Zabd,↓Zabc,↓loopQ_ret,↓Zabh,↓Zacl,↓Zacm,↓Zaco,↓Zaaz,↓Zaax,↓Zaay,Zacj,Zaad,Zabb,Zabs,sxIfB_f,Zabf,List.nil_append,↓reduceIte,Nat.reduceEqDiff,Nat.reduceLT,dec_F, *]
  refine sxL_of (fun m ρ Y => ∃ j:Nat,m = l.length - j ∧ j ≤ l.length ∧ Keep H Y ∧ (∀ i,i < j → NoG ps (l.getD i default)) ∧ ρ 1 = .slice a l.length cap ∧ ρ 2 = .slice a' ps.length cap' ∧ ρ 10 = .int .i64 (j:Int))
    ⟨0,rfl,Nat.zero_le _,kX,fun i hi => absurd hi (Nat.not_lt_zero i),e1,e2,rfl⟩ ?_
  clear kX lX e0 e1 e2 e9 hlt k ρ X;rintro m ρ X ⟨k,rfl,hk,kX,hall,e1,e2,e10⟩;have lX:=kX.low hL;have gX:=kX.grp hgr
  by_cases hkl:k < l.length
  case neg =>
    have hlt:¬ (k:Int) < (l.length:Int):=by omega
    have hke:k = l.length:=by omega
    rw [hke] at hall;have hpo:=gd X true kX ⟨fun _ => hall,fun _ => rfl⟩
    clear hl hp hall gd hck kX hoff hprA hke hkl hk
    repeat' (first | simp only [↓Zabr,↓Zabm,↓Zabo,↓Zabq,↓Zaah,↓Zabl,↓Zabn,↓Zabp,↓Zaci,↓Zach,↓Zacc,↓Zaai,↓Zaca,↓Zabz,↓Zabv,↓Zabx,↓Zaby,↓Zacn,↓Zaar,↓Zaak,↓Zaaq,↓Zaal,↓Zaan,↓Zaao,↓Zaau,↓Zaap,↓bxPut,↓Zabj,↓Zabi,↓Zabk,↓Zaaf,↓Zaag,↓Zaae,↓Zabd,↓Zabc,↓loopQ_ret,↓Zabh,↓Zacl,↓Zacm,↓Zaco,↓Zaaz,↓Zaax,↓Zaay,Zacj,Zaad,Zabb,Zabs,sxIfB_f,Zabf,List.nil_append,↓reduceIte,Nat.reduceEqDiff,Nat.reduceLT,dec_F, *,lenO,Zabf] | (with_reducible first | refine Zabu (by assumption) (by decide +kernel) ?_ | refine Zabt (by decide +kernel) ?_ | refine Zacb (by decide +kernel) ?_ | refine Zabw ?_))
  have hlt:(k:Int) < (l.length:Int):=by omega
  have hwi:=wrap_succ hkl hmo;have ixk:=SlO_ixN (hl.keep kX) hkl;have hmem:=hoff _ (getD_mem (l:=l) (d:=default) hkl);obtain ⟨-,s0,-⟩:=off_at (hl.keep kX) hkl;obtain ⟨x,hx⟩:∃ x,l.getD k default = x:=⟨_,rfl⟩;rw [hx] at hmem s0;obtain ⟨⟨a1,a2⟩,⟨a3,a4⟩,a5,a6,a7,a8,a9⟩:=hmem;have hbF:=SlP_at (hp.keep kX) (i:=x.f) (by omega) (by omega)
  obtain ⟨ixf,rdf⟩:=hbF;have hpF:=hprA x.f.toNat (by omega)
  have hpT:=hprA x.t.toNat (by omega)
  obtain ⟨⟨b1,b2⟩,⟨b3,b4⟩,-⟩:=hpF;obtain ⟨⟨d1,d2⟩,⟨d3,d4⟩,-⟩:=hpT;obtain ⟨va,Xa,X1,ka,l1',fa,da,qa⟩:=drawnQ lX (FromRatio_runs hS (ps.getD x.f.toNat default).1 (ps.getD x.f.toNat default).2 (X.relow X.size) ((Keep.relowS X).grp gX) (Nat.le_refl _) (by omega) (by omega) (by omega))
  have g1:=ka.grp gX;have k1':=kX.trans ka;obtain ⟨rd4,-⟩:=off_at (hl.keep k1') hkl;obtain ⟨vb,Xb,X2,kb,l2',fb,db,qb⟩:=drawnQ l1' (rate_runs hS x (X1.relow X1.size) ((Keep.relowS X1).grp g1) (Nat.le_refl _) (by omega) (by omega))
  have g2:=kb.grp g1;have k2':=k1'.trans kb;obtain ⟨-,-,s1,-⟩:=off_at (hl.keep k2') hkl;rw [hx] at rd4 s1;have hbT:=SlP_at (hp.keep k2') (i:=x.t) (by omega) (by omega)
  obtain ⟨ixt,rdt⟩:=hbT;obtain ⟨vc,Xc,X3,kc,l3',fc,dc,qc⟩:=drawnQ l2' (FromRatio_runs hS (ps.getD x.t.toNat default).1 (ps.getD x.t.toNat default).2 (X2.relow X2.size) ((Keep.relowS X2).grp g2) (Nat.le_refl _) (by omega) (by omega) (by omega))
  have g3:=kc.grp g2;obtain ⟨vd,Xd,X4,kd,l4',fd',dd,qd⟩:=drawnQ l3' (Mul_all hS vb vc x.n x.d (ps.getD x.t.toNat default).1 (ps.getD x.t.toNat default).2 (X3.relow X3.size) ((Keep.relowS X3).grp g3) (Nat.le_refl _) ((qb.keep kc).addr) qc.addr (by omega) (by omega) (lt20 (by omega)) (lt20' (by omega)) (lt20 (by omega)) (lt20' (by omega)))
  have g4:=kd.grp g3;have hm4:0 < x.d * (ps.getD x.t.toNat default).2:=Int.mul_pos (by omega) (by omega)
  obtain ⟨Xe,X5,ke,l5',fe,de⟩:=drawn l4' (Cmp_all hS va vd (ps.getD x.f.toNat default).1 (ps.getD x.f.toNat default).2 (x.n * (ps.getD x.t.toNat default).1) (x.d * (ps.getD x.t.toNat default).2) (X4.relow X4.size) ((Keep.relowS X4).grp g4) (Nat.le_refl _) ((qa.keep ((kb.trans kc).trans kd)).addr) qd.addr (by omega) hm4)
  have kX5:=(((k1'.trans kb).trans kc).trans kd).trans ke;have hsg:=sgn3_less (x:=(ps.getD x.f.toNat default).1 * (x.d * (ps.getD x.t.toNat default).2)) (y:=x.n * (ps.getD x.t.toNat default).1 * (ps.getD x.f.toNat default).2);have hng:NoG ps x ↔ ¬ (ps.getD x.f.toNat default).1 * (x.d * (ps.getD x.t.toNat default).2) < x.n * (ps.getD x.t.toNat default).1 * (ps.getD x.f.toNat default).2:=Iff.rfl;obtain ⟨sg,hsgE⟩:∃ sg,sgn3 ((ps.getD x.f.toNat default).1 * (x.d * (ps.getD x.t.toNat default).2)) (x.n * (ps.getD x.t.toNat default).1 * (ps.getD x.f.toNat default).2) = sg:=⟨_,rfl⟩;rw [hsgE] at fe hsg
  by_cases hgn:(ps.getD x.f.toNat default).1 * (x.d * (ps.getD x.t.toNat default).2) < x.n * (ps.getD x.t.toNat default).1 * (ps.getD x.f.toNat default).2
  · have hs:sg < 0:=hsg.2 hgn;have hpo:=gd X5 false kX5 ⟨fun h => (by cases h),fun h => absurd hgn (hng.1 (by have:=h k hkl; rwa [hx] at this))⟩
    clear hl hp hall gd hck hoff hprA hkl hk hgn hng hm4 kX ka kb kc kd ke kX5 k1' k2' qa qb qc qd hsg hsgE hx a1 a2 a3 a4 a5 a6 a7 a8 a9 b1 b2 b3 b4 d1 d2 d3 d4 gX g1 g2 g3 g4;generalize (ps.getD x.f.toNat default).1 = fn at *;generalize (ps.getD x.f.toNat default).2 = fdd at *;generalize (ps.getD x.t.toNat default).1 = tn at *;generalize (ps.getD x.t.toNat default).2 = td at *
    repeat' (first | simp only [↓Zabr,↓Zabm,↓Zabo,↓Zabq,↓Zaah,↓Zabl,↓Zabn,↓Zabp,↓Zaci,↓Zach,↓Zacc,↓Zaai,↓Zaca,↓Zabz,↓Zabv,↓Zabx,↓Zaby,↓sxD_same,↓Zacn,↓Zaar,↓Zaak,↓Zaaq,↓Zaal,↓Zaan,↓Zaao,↓Zaau,↓Zaap,↓bxPut,↓Zabj,↓Zabi,↓Zabk,↓Zaaf,↓Zaag,↓Zaae,↓Zabd,↓Zabc,↓loopQ_ret,↓Zabh,↓Zacl,↓Zacm,↓Zaco,↓Zaaz,↓Zaax,↓Zaay,Zacj,Zaad,Zabb,Zabs,Zacg,Zabf,List.map,List.nil_append,List.append_nil,↓reduceIte,Nat.reduceEqDiff,Nat.reduceLT,dec_T,Zaaa,Nat.add_zero,one1,Option.bind_some,Option.map_some, *,lenO,ldO,ldI,ldRt,faO0,faO1,Zabf,Nat.add_zero] | (with_reducible first | refine Zabu (by assumption) (by decide +kernel) ?_ | refine Zabt (by decide +kernel) ?_ | refine Zacb (by decide +kernel) ?_ | refine Zabw ?_))
  · have hs:¬ sg < 0:=fun h => hgn (hsg.1 h)
    have hall2:∀ i,i < k + 1 → NoG ps (l.getD i default):=fun i hi => by
      rcases Nat.lt_or_ge i k with h1 | h1
      · exact hall i h1
      · rw [show i = k by omega,hx]; exact hng.2 hgn
    clear hl hp hall gd hck hoff hprA hkl hk hgn hng hm4 kX ka kb kc kd ke k1' k2' qa qb qc qd hsg hsgE hx a1 a2 a3 a4 a5 a6 a7 a8 a9 b1 b2 b3 b4 d1 d2 d3 d4 gX g1 g2 g3 g4;generalize (ps.getD x.f.toNat default).1 = fn at *;generalize (ps.getD x.f.toNat default).2 = fdd at *;generalize (ps.getD x.t.toNat default).1 = tn at *;generalize (ps.getD x.t.toNat default).2 = td at *
    repeat' (first | simp only [↓Zabr,↓Zabm,↓Zabo,↓Zabq,↓Zaah,↓Zabl,↓Zabn,↓Zabp,↓Zaci,↓Zach,↓Zacc,↓Zaai,↓Zaca,↓Zabz,↓Zabv,↓Zabx,↓Zaby,↓sxD_same,↓Zacn,↓Zaar,↓Zaak,↓Zaaq,↓Zaal,↓Zaan,↓Zaao,↓Zaau,↓Zaap,↓bxPut,↓Zabj,↓Zabi,↓Zabk,↓Zaaf,↓Zaag,↓Zaae,↓Zabd,↓Zabc,↓loopQ_ret,↓Zabh,↓Zacl,↓Zacm,↓Zaco,↓Zaaz,↓Zaax,↓Zaay,Zacj,Zaad,Zabb,Zabs,Zacg,sxIfB_f,Zabf,List.map,List.nil_append,List.append_nil,↓reduceIte,Nat.reduceEqDiff,Nat.reduceLT,dec_T,dec_F,true_and,Zaaa,Nat.add_zero,one1,Option.bind_some,Option.map_some, *,lenO,ldO,ldI,ldRt,faO0,faO1,Zabf,Nat.add_zero] | (with_reducible first | refine Zabu (by assumption) (by decide +kernel) ?_ | refine Zabt (by decide +kernel) ?_ | refine Zacb (by decide +kernel) ?_ | refine Zabw ?_))
    exact ⟨l.length - (k + 1),by omega,k + 1,rfl,by omega,hall2,rfl⟩
end Go.Proofs.YtcmaipijkjillaaDoor
