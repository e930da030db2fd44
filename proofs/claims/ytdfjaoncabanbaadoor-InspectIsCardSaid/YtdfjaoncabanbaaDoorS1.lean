/- Values of saddles, by the program and by the reference; the box of a saddle. -/
import Derived.Test.YtdfjaoncabanbaaDoorN6
import Derived.Test.YtdfjaoncabanbaaDoorJE
set_option linter.unusedVariables false
set_option linter.unusedSimpArgs false
set_option linter.unusedSectionVars false

namespace Go.Proofs.YtdfjaoncabanbaaDoor
open Go Go.AM
set_option maxRecDepth 10000

def ValOk (p q:Int):Prop:=(1 ≤ q ∧ q ≤ 2199023255552) ∧ (-2199023255552 ≤ p ∧ p ≤ 2199023255552) ∧ Nat.gcd q.natAbs p.natAbs = 1
instance (p q:Int):Decidable (ValOk p q):=by unfold ValOk; infer_instance
theorem faS0 (r o:Nat):aFieldAt Tryd.prog 29 0 (.pointer (some ⟨r,o,none⟩)) = some (.pointer (some ⟨r,o,none⟩)):=by kernel_rfl
theorem faS1 (r o:Nat):aFieldAt Tryd.prog 29 1 (.pointer (some ⟨r,o,none⟩)) = some (.pointer (some ⟨r,o + 2,none⟩)):=by kernel_rfl
theorem faS2 (r o:Nat):aFieldAt Tryd.prog 29 2 (.pointer (some ⟨r,o,none⟩)) = some (.pointer (some ⟨r,o + 4,none⟩)):=by kernel_rfl
theorem ldSa (H:Heap) (r o:Nat):aLoad Tryd.prog H 29 (.pointer (some ⟨r,o,none⟩)) = (H.read r o 6).map fun l => .agg ⟨l⟩:=by kernel_rfl
structure SB (X:Heap) (r:Nat) (p q dx dy:Int) (v1 v2:Value):Prop where
  lt:r < X.size
  all:X.read r 0 6 = some [.int .i64 p,.int .i64 q,v1,.int .i64 dx,v2,.int .i64 dy]
  val:X.read r 0 2 = some [.int .i64 p,.int .i64 q]
  rows:X.read r 2 2 = some [v1,.int .i64 dx]
  cols:X.read r 4 2 = some [v2,.int .i64 dy]
  rnum:X.read r 2 1 = some [v1]
  rden:X.read r 3 1 = some [.int .i64 dx]
  cnum:X.read r 4 1 = some [v2]
  cden:X.read r 5 1 = some [.int .i64 dy]
theorem SB.keep {X Y:Heap} {r:Nat} {p q dx dy:Int} {v1 v2:Value} (h:SB X r p q dx dy v1 v2) (k:Keep X Y):SB Y r p q dx dy v1 v2:=
  ⟨Nat.lt_of_lt_of_le h.lt k.size,k.read h.lt h.all,k.read h.lt h.val,k.read h.lt h.rows,k.read h.lt h.cols,k.read h.lt h.rnum,k.read h.lt h.rden,k.read h.lt h.cnum,k.read h.lt h.cden⟩
theorem boxS (H:Heap) (p q dx dy:Int) (v1 v2:Value):∃ H1,H.newExact [.int .i64 p,.int .i64 q,v1,.int .i64 dx,v2,.int .i64 dy] 29 = H1 ∧ Keep H H1 ∧ SB H1 H.size p q dx dy v1 v2:=by
  obtain ⟨H1,e1,k1,z1,_,hr⟩:=box1 H [.int .i64 p,.int .i64 q,v1,.int .i64 dx,v2,.int .i64 dy] 29;exact ⟨H1,e1,k1,z1,hr 0 6 (show 6 ≤ 6 by decide),hr 0 2 (show 2 ≤ 6 by decide),hr 2 2 (show 4 ≤ 6 by decide),hr 4 2 (show 6 ≤ 6 by decide),hr 2 1 (show 3 ≤ 6 by decide),hr 3 1 (show 4 ≤ 6 by decide),hr 4 1 (show 5 ≤ 6 by decide),hr 5 1 (show 6 ≤ 6 by decide)⟩

variable {S:AM.Sys} (hS:Only S 5)
include hS

theorem isValue_runs (p q:Int) (H:Heap):∃ H',Keep H H' ∧ Runs Tryd.prog S (.fn 12) [.agg ⟨[.int .i64 p,.int .i64 q]⟩] H (.bool (decide (ValOk p q))) H':=by
  obtain ⟨b0,hb0⟩:∃ b0,decide (ValOk p q) = b0:=⟨_,rfl⟩;rw [hb0]
  suffices h:WCall Tryd.prog S (.fn 12) [.agg ⟨[.int .i64 p,.int .i64 q]⟩] H (fun v H' => v = .bool b0 ∧ Keep H H') by
    obtain ⟨_,H',hr,rfl,hk⟩:=h; exact ⟨H',hk,hr⟩
  obtain ⟨H1,e1,k1,z1,-,rx2,rx0,rx1⟩:=box2 H p q 24;have f1:=(isWithin_runs hS q 1 2199023255552 H1).bx;have f2:=(isWithin_runs hS p (-2199023255552) 2199023255552 H1).bx;refine Zaaw Tryd.func12 rfl (Nat.le_of_ble_eq_true rfl) (hS.no rfl _ _) ?_
  rw [Tryd.ntmps12,Tryd.results12]
  by_cases h1:1 ≤ q ∧ q ≤ 2199023255552
  case neg =>
    rw [decide_eq_false h1] at f1;have hb:b0 = false:=by rw [← hb0]; exact decide_eq_false fun h => h1 h.1
    subst hb;clear hb0 h1 f2
    repeat' simp only [↓Zabo,↓Zabq,↓Zabp,↓Zaci,↓Zach,↓Zacn,↓Zaav,↓Zaar,↓Zaaj,↓Zaas,↓Zaal,↓Zaaq,↓Zaak,↓Zaan,↓Zaau,↓bxPut,↓Zabj,↓Zabh,↓Zacl,↓Zacm,↓Zaco,↓Zaba,↓Zaay,↓Zaaz,↓dstAt,↓Zabb,Zacj,Zaab,Zabs,sxGuardB_tf,Zabf,List.map,List.nil_append,List.append_nil,↓reduceIte,Nat.reduceEqDiff,Nat.reduceLT,and_self,one1,Option.bind_some, *,argF,List.getD_cons_zero,cells2,faR1,ldI,Nat.zero_add]
  rw [decide_eq_true h1] at f1
  by_cases h2:-2199023255552 ≤ p ∧ p ≤ 2199023255552
  case neg =>
    rw [decide_eq_false h2] at f2;have hb:b0 = false:=by rw [← hb0]; exact decide_eq_false fun h => h2 h.2.1
    subst hb;clear hb0 h1 h2
    repeat' simp only [↓Zabo,↓Zabq,↓Zabp,↓Zaci,↓Zach,↓Zacn,↓Zaav,↓Zaar,↓Zaaj,↓Zaas,↓Zaal,↓Zaaq,↓Zaak,↓Zaan,↓Zaau,↓bxPut,↓Zabj,↓Zabh,↓Zacl,↓Zacm,↓Zaco,↓Zaba,↓Zaay,↓Zaaz,↓dstAt,↓Zabb,Zacj,Zaac,Zaab,Zabs,sxGuardB_tt,sxGuardB_tf,Zabf,List.map,List.nil_append,List.append_nil,↓reduceIte,Nat.reduceEqDiff,Nat.reduceLT,and_self,Nat.add_zero,one1,Option.bind_some, *,argF,List.getD_cons_zero,cells2,faR0,faR1,ldI,Nat.zero_add]
  rw [decide_eq_true h2] at f2;obtain ⟨H2,k2,R3⟩:=gdv_runs hS q p H1 (by omega) (by omega)
  have f3:=R3.bx;have k02:=k1.trans k2;have hbv:decide (((Nat.gcd q.natAbs p.natAbs:Nat):Int) = 1) = b0:=by
    rw [← hb0];exact decide_eq_decide.2 ⟨fun h => ⟨h1,h2,by omega⟩,fun h => by have:=h.2.2; omega⟩
  clear hb0 h1 h2 R3 k1 k2;generalize ((Nat.gcd q.natAbs p.natAbs:Nat):Int) = G at *
  repeat' simp only [↓Zabo,↓Zabq,↓Zabp,↓Zaci,↓Zach,↓Zacn,↓Zaav,↓Zaar,↓Zaaj,↓Zaas,↓Zaal,↓Zaaq,↓Zaak,↓Zaan,↓Zaau,↓bxPut,↓Zabj,↓Zabh,↓Zacl,↓Zacm,↓Zaco,↓Zaba,↓Zaay,↓Zaaz,↓dstAt,↓Zabb,Zacj,Zaad,Zabc,Zaac,Zabs,sxGuardB_tt,Zabf,List.map,List.nil_append,List.append_nil,↓reduceIte,Nat.reduceEqDiff,Nat.reduceLT,and_self,Nat.add_zero,one1,Option.bind_some, *,argF,List.getD_cons_zero,cells2,faR0,faR1,ldI,Nat.zero_add]

theorem GcdS_runs (x y:Int) (H:Heap) (hx:-4611686018427387904 ≤ x ∧ x ≤ 4611686018427387904) (hy:-4611686018427387904 ≤ y ∧ y ≤ 4611686018427387904):∃ H',Keep H H' ∧ Runs Tryd.prog S (.fn 60) [.int .i64 x,.int .i64 y] H (.int .i64 (Nat.gcd x.natAbs y.natAbs:Nat)) H':=by
  suffices h:WCall Tryd.prog S (.fn 60) [.int .i64 x,.int .i64 y] H (fun v H' => v = .int .i64 (Nat.gcd x.natAbs y.natAbs:Nat) ∧ Keep H H') by
    obtain ⟨_,H',hr,rfl,hk⟩:=h; exact ⟨H',hk,hr⟩
  refine Zaaw Tryd.func60 rfl (Nat.le_of_ble_eq_true rfl) (hS.no rfl _ _) ?_
  rw [Tryd.ntmps60,Tryd.results60]
  repeat' simp only [↓Zabo,↓Zabq,↓Zaah,↓Zabl,↓Zabp,↓Zaci,↓Zach,↓Zacn,↓Zaar,↓Zaaj,↓bxOp_un,↓bxOp_max,↓bxPut,↓Zabj,↓Zabh,↓Zacl,↓Zacm,↓Zaba,↓Zaay,Zabf,Nat.reduceLT, *]
  refine sxL_of (fun m ρ H2 => ∃ a b:Int,m = b.natAbs ∧ (-4611686018427387904 ≤ a ∧ a ≤ 4611686018427387904) ∧ (-4611686018427387904 ≤ b ∧ b ≤ 4611686018427387904) ∧ Nat.gcd a.natAbs b.natAbs = Nat.gcd x.natAbs y.natAbs ∧ Keep H H2 ∧ ρ 0 = .int .i64 a ∧ ρ 1 = .int .i64 b)
    ⟨x,y,rfl,hx,hy,rfl,Keep.refl H,rfl,rfl⟩ ?_
  rintro m ρ H2 ⟨a,b,rfl,ha,hb,hG,hK,e0,e1⟩;generalize Nat.gcd x.natAbs y.natAbs = G at *
  by_cases hb0:b = 0
  · subst hb0;have hG2:(G:Int) = max a (0 - a):=by rw [← hG,show (0:Int).natAbs = 0 from rfl,Nat.gcd_zero_right]; omega
    have f1:IntKind.i64.wrap (0 - a) = 0 - a:=IntWalk.i64_in _ (by omega)
    clear hG
    repeat' (first | simp only [↓Zabr,↓Zabm,↓Zabo,↓Zabq,↓Zaag,↓Zabl,↓Zabn,↓Zaci,↓Zach,↓Zacb,↓Zaai,↓Zabz,↓sxDL_assign,↓sxDL_binOp,↓Zacn,↓Zaar,↓Zaaj,↓Zaak,↓bxPut,↓Zabj,↓Zabi,↓Zaaf,↓Zaae,↓Zabe,↓Zabd,↓Zaco,↓Zaba,↓Zaay,Zacj,mm_max,Zaad,Zabc,una_neg,Zacf,↓reduceIte,Nat.reduceEqDiff,Nat.reduceLT,dec_F,and_true,not_true_eq_false, *] | (with_reducible first | refine Zabu (by assumption) (by decide +kernel) ?_ | refine Zabt (by decide +kernel) ?_ | refine Zaca (by decide +kernel) ?_ | refine Zabv ?_))
    refine congrArg _ ?_
    split <;> omega
  · have h1:(a.tmod b).natAbs = a.natAbs % b.natAbs:=Int.natAbs_tmod a b;have h2:a.natAbs % b.natAbs < b.natAbs:=Nat.mod_lt _ (by omega)
    have f1:IntKind.i64.wrap (a.tmod b) = a.tmod b:=IntWalk.i64_in _ (by omega)
    have hg2:Nat.gcd b.natAbs (a.tmod b).natAbs = G:=by
      rw [← hG,h1,Nat.gcd_comm b.natAbs (a.natAbs % b.natAbs),← Nat.gcd_rec,Nat.gcd_comm]
    repeat' (first | simp only [↓Zabr,↓Zabm,↓Zabo,↓Zabq,↓Zaag,↓Zabl,↓Zabn,↓Zaci,↓Zach,↓Zacb,↓Zaai,↓Zabz,↓sxDL_assign,↓sxDL_binOp,↓Zacn,↓Zaar,↓Zaaj,↓Zaak,↓bxPut,↓Zabj,↓Zabi,↓Zaaf,↓Zaae,↓Zabe,↓Zabd,↓Zaco,↓Zaba,↓Zaay,Zacj,Zaad,Zabc,Zacg,↓reduceIte,Nat.reduceEqDiff,Nat.reduceLT,dec_T,size_relow,low_relow,relow_relow,ne_eq,not_false_eq_true, *] | (with_reducible first | refine Zabu (by assumption) (by decide +kernel) ?_ | refine Zabt (by decide +kernel) ?_ | refine Zaca (by decide +kernel) ?_ | refine Zabv ?_))
    refine ⟨_,?_,b,a.tmod b,rfl,hb,by omega,hg2,?_,rfl,?_⟩
    · omega
    · have z1:min H.low H.size ≤ H2.size:=Nat.le_trans (Nat.min_le_right _ _) hK.size;exact { size:=hK.size,low:=fun _ => Nat.min_le_right _ _,lo:=by repeat' (first | exact hK.lo | exact z1 | refine Nat.le_min.2 ⟨?_,?_⟩),row:=hK.row,grp:=hK.grp,mem:=hK.mem }
    · rfl


theorem rvalue_runs (p q:Int) (H:Heap):∃ H',Keep H H' ∧ Runs Tryd.prog S (.fn 36) [.agg ⟨[.int .i64 p,.int .i64 q]⟩] H (.bool (decide (ValOk p q))) H':=by
  obtain ⟨b0,hb0⟩:∃ b0,decide (ValOk p q) = b0:=⟨_,rfl⟩;rw [hb0]
  suffices h:WCall Tryd.prog S (.fn 36) [.agg ⟨[.int .i64 p,.int .i64 q]⟩] H (fun v H' => v = .bool b0 ∧ Keep H H') by
    obtain ⟨_,H',hr,rfl,hk⟩:=h; exact ⟨H',hk,hr⟩
  obtain ⟨H1,e1,k1,z1,-,rx2,rx0,rx1⟩:=box2 H p q 24;refine Zaaw Tryd.func36 rfl (Nat.le_of_ble_eq_true rfl) (hS.no rfl _ _) ?_
  rw [Tryd.ntmps36,Tryd.results36]
  by_cases h1:1 ≤ q
  case neg =>
    have hb:b0 = false:=by rw [← hb0]; exact decide_eq_false fun h => h1 h.1.1
    subst hb;clear hb0
    repeat' simp only [↓Zabo,↓Zabq,↓Zabp,↓Zaci,↓Zach,↓Zacn,↓Zaav,↓Zaar,↓Zaaj,↓Zaas,↓Zaal,↓Zaaq,↓Zaak,↓Zaan,↓Zaau,↓bxPut,↓Zabj,↓Zabh,↓Zacl,↓Zacm,↓Zaco,↓Zaba,↓Zaay,↓Zaaz,↓dstAt,↓Zabb,Zacj,Zaad,Zabc,Zaab,Zabs,sxGuardB_tf,Zabf,List.nil_append,↓reduceIte,Nat.reduceEqDiff,Nat.reduceLT,dec_F,and_self,one1,Option.bind_some, *,argF,List.getD_cons_zero,cells2,faR1,ldI,Nat.zero_add]
  by_cases h2:q ≤ 2199023255552
  case neg =>
    have hb:b0 = false:=by rw [← hb0]; exact decide_eq_false fun h => h2 h.1.2
    subst hb;clear hb0
    repeat' simp only [↓Zabo,↓Zabq,↓Zabp,↓Zaci,↓Zach,↓Zacn,↓Zaav,↓Zaar,↓Zaaj,↓Zaas,↓Zaal,↓Zaaq,↓Zaak,↓Zaan,↓Zaau,↓bxPut,↓Zabj,↓Zabh,↓Zacl,↓Zacm,↓Zaco,↓Zaba,↓Zaay,↓Zaaz,↓dstAt,↓Zabb,Zacj,Zaad,Zabc,Zaac,Zaab,Zabs,sxGuardB_tt,sxGuardB_tf,Zabf,List.nil_append,↓reduceIte,Nat.reduceEqDiff,Nat.reduceLT,dec_T,dec_F,and_self,one1,Option.bind_some, *,argF,List.getD_cons_zero,cells2,faR1,ldI,Nat.zero_add]
  by_cases h3:-2199023255552 ≤ p
  case neg =>
    have hb:b0 = false:=by rw [← hb0]; exact decide_eq_false fun h => h3 h.2.1.1
    subst hb;clear hb0
    repeat' simp only [↓Zabo,↓Zabq,↓Zabp,↓Zaci,↓Zach,↓Zacn,↓Zaav,↓Zaar,↓Zaaj,↓Zaas,↓Zaal,↓Zaaq,↓Zaak,↓Zaan,↓Zaau,↓bxPut,↓Zabj,↓Zabh,↓Zacl,↓Zacm,↓Zaco,↓Zaba,↓Zaay,↓Zaaz,↓dstAt,↓Zabb,Zacj,Zaad,Zabc,Zaac,Zaab,Zabs,sxGuardB_tt,sxGuardB_tf,Zabf,List.nil_append,↓reduceIte,Nat.reduceEqDiff,Nat.reduceLT,dec_T,dec_F,and_self,Nat.add_zero,one1,Option.bind_some, *,argF,List.getD_cons_zero,cells2,faR0,faR1,ldI,Nat.zero_add]
  by_cases h4:p ≤ 2199023255552
  case neg =>
    have hb:b0 = false:=by rw [← hb0]; exact decide_eq_false fun h => h4 h.2.1.2
    subst hb;clear hb0
    repeat' simp only [↓Zabo,↓Zabq,↓Zabp,↓Zaci,↓Zach,↓Zacn,↓Zaav,↓Zaar,↓Zaaj,↓Zaas,↓Zaal,↓Zaaq,↓Zaak,↓Zaan,↓Zaau,↓bxPut,↓Zabj,↓Zabh,↓Zacl,↓Zacm,↓Zaco,↓Zaba,↓Zaay,↓Zaaz,↓dstAt,↓Zabb,Zacj,Zaad,Zabc,Zaac,Zaab,Zabs,sxGuardB_tt,sxGuardB_tf,Zabf,List.nil_append,↓reduceIte,Nat.reduceEqDiff,Nat.reduceLT,dec_T,dec_F,and_self,Nat.add_zero,one1,Option.bind_some, *,argF,List.getD_cons_zero,cells2,faR0,faR1,ldI,Nat.zero_add]
  obtain ⟨H2,k2,R3⟩:=GcdS_runs hS p q H1 (by omega) (by omega)
  have f3:=R3.bx;have k02:=k1.trans k2;rw [Nat.gcd_comm] at f3;have hbv:decide (((Nat.gcd q.natAbs p.natAbs:Nat):Int) = 1) = b0:=by
    rw [← hb0];exact decide_eq_decide.2 ⟨fun h => ⟨⟨h1,h2⟩,⟨h3,h4⟩,by omega⟩,fun h => by have:=h.2.2; omega⟩
  clear hb0 R3 k1 k2;generalize ((Nat.gcd q.natAbs p.natAbs:Nat):Int) = G at *
  repeat' simp only [↓Zabo,↓Zabq,↓Zabp,↓Zaci,↓Zach,↓Zacn,↓Zaav,↓Zaar,↓Zaaj,↓Zaas,↓Zaal,↓Zaaq,↓Zaak,↓Zaan,↓Zaau,↓bxPut,↓Zabj,↓Zabh,↓Zacl,↓Zacm,↓Zaco,↓Zaba,↓Zaay,↓Zaaz,↓dstAt,↓Zabb,Zacj,Zaad,Zabc,Zaac,Zabs,sxGuardB_tt,Zabf,List.map,List.nil_append,List.append_nil,↓reduceIte,Nat.reduceEqDiff,Nat.reduceLT,dec_T,and_self,Nat.add_zero,one1,Option.bind_some, *,argF,List.getD_cons_zero,cells2,faR0,faR1,ldI,Nat.zero_add]

theorem FromRatio_all (x y:Int) (H:Heap) (hg:Grp H) (hL:H.low ≤ H.size) (hx:-9223372036854775808 ≤ x ∧ x ≤ 9223372036854775807) (hy:0 < y) (hy2:y ≤ 9223372036854775807):QOut S 37 [.agg ⟨[.int .i64 x,.int .i64 y]⟩] H x y:=by
  suffices h:WCall Tryd.prog S (.fn 37) [.agg ⟨[.int .i64 x,.int .i64 y]⟩] H (fun v H' => Keep H H' ∧ Grp H' ∧ QV H' v x y) by
    obtain ⟨v,H',hr,h1,h2,h3⟩:=h; exact ⟨H',v,h1,h2,h3,hr⟩
  obtain ⟨Ha,ea,ka,za,-,-,ga0,ga1⟩:=box2 H x y 24;obtain ⟨H3,b3,hK3,hs3,zz3,hr3⟩:=box1 Ha [.bool false,.slice none 0 0,.bool false,.slice none 0 0] 68;have ow3:Own H3 Ha.size 68 [.bool false,.slice none 0 0,.bool false,.slice none 0 0]:=(b3 ▸ Own.new Ha _ _);clear zz3 hr3;have q0:=hK3.read za ga0;have q1:=hK3.read za ga1;have k3:=ka.trans hK3;obtain ⟨H4,vx,hK4,hg4,bx,hR4⟩:=Frac_any hS x y H3 (k3.grp hg) (k3.low hL) hx hy hy2;have f4:=hR4.bx;obtain ⟨H7,ps,hld,hq7,hkp⟩:=retQV (ow3.keep hK4) bx;have hK7:=hkp H (k3.trans hK4) ka.size;have hg7:=hK7.grp hg;refine Zaaw Tryd.func37 rfl (Nat.le_of_ble_eq_true rfl) (hS.no rfl _ _) ?_
  rw [Tryd.ntmps37,Tryd.results37];clear hR4 bx ow3 hkp ga0 ga1
  repeat' simp only [↓Zabo,↓Zabq,↓Zabp,↓Zaci,↓Zach,↓Zacn,↓bxOp_alloc,↓Zaal,↓Zaaq,↓Zaat,↓Zaan,↓Zaau,↓Zack,↓bxPut,↓Zabj,↓Zabh,↓Zacl,↓bxRes_cell,↓Zaco,↓Zaba,↓Zaaz,Zacj,Zabs,Zabf,List.map,List.nil_append,List.append_nil,↓reduceIte,Nat.reduceEqDiff,Nat.reduceLT,and_self,Nat.add_zero,one1,Option.bind_some, *,argF,List.getD_cons_zero,ldI,faR0,faR1,cells2,alQ,Nat.zero_add]
end Go.Proofs.YtdfjaoncabanbaaDoor
