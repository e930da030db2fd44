/- Mixtures, by the reference. -/
import Derived.Test.YtdfjaoncabanbaaDoorIB
import Derived.Test.YtdfjaoncabanbaaDoorQ1
set_option linter.unusedVariables false
set_option linter.unusedSimpArgs false
set_option linter.unusedSectionVars false

namespace Go.Proofs.YtdfjaoncabanbaaDoor
open Go Go.AM
set_option maxRecDepth 10000

def R63 (z:Int):Prop:=-9223372036854775808 ≤ z ∧ z ≤ 9223372036854775807
theorem neg_r (a:Int) (h:R63 a):∃ z,R63 z ∧ IntKind.i64.wrap (0 - a) = z:=by
  obtain ⟨h1,h2⟩:=h
  by_cases h3:a = -9223372036854775808
  · subst h3;exact ⟨-9223372036854775808,⟨by decide,by decide⟩,by decide⟩
  · exact ⟨0 - a,⟨by omega,by omega⟩,IntWalk.i64_in _ (by omega)⟩

variable {S:AM.Sys} (hS:Only S 5)
include hS

set_option maxHeartbeats 2000000 in
theorem Gcd_any (x y:Int) (H:Heap) (hx:R63 x) (hy:R63 y):∃ z H',R63 z ∧ Keep H H' ∧ Runs Tryd.prog S (.fn 60) [.int .i64 x,.int .i64 y] H (.int .i64 z) H':=by
  suffices h:WCall Tryd.prog S (.fn 60) [.int .i64 x,.int .i64 y] H (fun v H' => ∃ z,v = .int .i64 z ∧ R63 z ∧ Keep H H') by
    obtain ⟨_,H',hr,z,rfl,h1,h2⟩:=h; exact ⟨z,H',h1,h2,hr⟩
  refine Zaaw Tryd.func60 rfl (Nat.le_of_ble_eq_true rfl) (hS.no rfl _ _) ?_
  rw [Tryd.ntmps60,Tryd.results60]
  repeat' simp only [↓Zabo,↓Zabq,↓Zaah,↓Zabl,↓Zabp,↓Zaci,↓Zach,↓Zacn,↓Zaar,↓Zaaj,↓bxOp_un,↓bxOp_max,↓bxPut,↓Zabj,↓Zabh,↓Zacl,↓Zacm,↓Zaba,↓Zaay,Zabf,Nat.reduceLT, *]
  refine sxL_of (fun m ρ H2 => ∃ a b:Int,m = b.natAbs ∧ R63 a ∧ R63 b ∧ Keep H H2 ∧ ρ 0 = .int .i64 a ∧ ρ 1 = .int .i64 b)
    ⟨x,y,rfl,hx,hy,Keep.refl H,rfl,rfl⟩ ?_
  rintro m ρ H2 ⟨a,b,rfl,ha,hb,hK,e0,e1⟩
  by_cases hb0:b = 0
  · subst hb0;obtain ⟨w,hw1,hw2⟩:=neg_r a ha;obtain ⟨z,hz⟩:∃ z,z = if w > a then w else a:=⟨_,rfl⟩
    have hmx:aMinMax .max (.int .i64 a) (.int .i64 w) = some (.int .i64 z):=by rw [hz]; rfl
    have hpo:∃ z',Value.int .i64 z = .int .i64 z' ∧ R63 z' ∧ Keep H H2:=⟨z,rfl,by rw [hz]; split <;> assumption,hK⟩
    clear hz ha hb hw1 hK
    repeat' (first | simp only [↓Zabr,↓Zabm,↓Zabo,↓Zabq,↓Zaag,↓Zabl,↓Zabn,↓Zaci,↓Zach,↓Zacb,↓Zaai,↓Zabz,↓sxDL_assign,↓sxDL_binOp,↓Zacn,↓Zaar,↓Zaaj,↓Zaak,↓bxPut,↓Zabj,↓Zabi,↓Zaaf,↓Zaae,↓Zabe,↓Zabd,↓Zaco,↓Zaba,↓Zaay,Zacj,Zaad,Zabc,una_neg,Zacf,↓reduceIte,Nat.reduceEqDiff,Nat.reduceLT,dec_F,not_true_eq_false, *] | (with_reducible first | refine Zabu (by assumption) (by decide +kernel) ?_ | refine Zabt (by decide +kernel) ?_ | refine Zaca (by decide +kernel) ?_ | refine Zabv ?_))
  · have h1:(a.tmod b).natAbs = a.natAbs % b.natAbs:=Int.natAbs_tmod a b;have h2:a.natAbs % b.natAbs < b.natAbs:=Nat.mod_lt _ (by omega)
    have hR:R63 (a.tmod b):=⟨by have:=hb.1; have:=hb.2; omega,by have:=hb.1; have:=hb.2; omega⟩
    have f1:IntKind.i64.wrap (a.tmod b) = a.tmod b:=IntWalk.i64_in _ (by have:=hR.1; have:=hR.2; omega)
    have hms:(a.tmod b).natAbs < b.natAbs:=by omega
    clear h1 h2
    repeat' (first | simp only [↓Zabr,↓Zabm,↓Zabo,↓Zabq,↓Zaag,↓Zabl,↓Zabn,↓Zaci,↓Zach,↓Zacb,↓Zaai,↓Zabz,↓sxDL_assign,↓sxDL_binOp,↓Zacn,↓Zaar,↓Zaaj,↓Zaak,↓bxPut,↓Zabj,↓Zabi,↓Zaaf,↓Zaae,↓Zabe,↓Zabd,↓Zaco,↓Zaba,↓Zaay,Zacj,Zaad,Zabc,Zacg,↓reduceIte,Nat.reduceEqDiff,Nat.reduceLT,dec_T,size_relow,low_relow,relow_relow,ne_eq,not_false_eq_true, *] | (with_reducible first | refine Zabu (by assumption) (by decide +kernel) ?_ | refine Zabt (by decide +kernel) ?_ | refine Zaca (by decide +kernel) ?_ | refine Zabv ?_))
    refine ⟨_,hms,b,a.tmod b,rfl,hb,hR,?_,rfl,rfl⟩;have z1:min H.low H.size ≤ H2.size:=Nat.le_trans (Nat.min_le_right _ _) hK.size;exact { size:=hK.size,low:=fun _ => Nat.min_le_right _ _,lo:=by repeat' (first | exact hK.lo | exact z1 | refine Nat.le_min.2 ⟨?_,?_⟩),row:=hK.row,grp:=hK.grp,mem:=hK.mem }
set_option maxHeartbeats 2000000 in
theorem Lowest_any (v:Value) (w:List Int) (d:Int) (hd:R63 d) (r o:Nat) (H:Heap) (hL:H.low ≤ H.size) (hl:SlI .i64 H v w r o):∃ b H',Keep H H' ∧ Runs Tryd.prog S (.fn 59) [.agg ⟨[v,.int .i64 d]⟩] H (.bool b) H':=by
  suffices h:WCall Tryd.prog S (.fn 59) [.agg ⟨[v,.int .i64 d]⟩] H (fun v H' => ∃ b,v = .bool b ∧ Keep H H') by
    obtain ⟨_,H',hr,b,rfl,hk⟩:=h; exact ⟨b,H',hk,hr⟩
  obtain ⟨a,cap,rfl⟩:=hl.v0;obtain ⟨H1,e1,hK1,hz1,rd2,rd0,rd1⟩:=Q.boxP H (.slice a w.length cap) (.int .i64 d);refine Zaaw Tryd.func59 rfl (Nat.le_of_ble_eq_true rfl) (hS.no rfl _ _) ?_
  rw [Tryd.ntmps59,Tryd.results59]
  repeat' simp only [↓Zabo,↓Zabq,↓Zaah,↓Zabl,↓Zabp,↓Zaci,↓Zach,↓Zacn,↓Zaar,↓Zaaj,↓Zaal,↓Zaaq,↓Zaak,↓Zaan,↓bxPut,↓Zabj,↓Zabh,↓Zacl,↓Zacm,↓Zaco,↓Zaba,↓Zaay,Zacj,Zabf,↓reduceIte,Nat.reduceEqDiff,Nat.reduceLT,one1,Option.bind_some, *,argF,List.getD_cons_zero,Q.cells_agg,Q.fldP1,ldI]
  refine sxL_of (fun m ρ H2 => ∃ (k:Nat) (z:Int),m = w.length - k ∧ k ≤ w.length ∧ Keep H1 H2 ∧ R63 z ∧ ρ 1 = .pointer (some ⟨H.size,0,none⟩) ∧ ρ 3 = .int .i64 z ∧ ρ 4 = .int .i64 k)
    ⟨0,d,rfl,Nat.zero_le _,Keep.refl _,hd,rfl,rfl,rfl⟩ ?_
  clear e1 rd1 rd2;rintro m ρ H2 ⟨k,z,rfl,hk,hK,hz,e1,e3,e4⟩;have q0:=hK.read hz1 rd0
  by_cases hlt:k < w.length
  · have hl2:=(hl.keep hK1).keep hK;have hix:=SlI_ix hl2 hlt;have hrd:=(hl2.rdI hlt).1;have hw:=wrap_succ hlt hl.ml;have hlt':(k:Int) < (w.length:Int):=by omega
    have g4:R63 (w.getD k 0):=by
      have:=hl.rng k;have h1:IntKind.i64.max = 9223372036854775807:=rfl;have h2:IntKind.i64.min = -9223372036854775808:=rfl;exact ⟨by omega,by omega⟩
    have hob:=Gcd_any hS z (w.getD k 0) H2 hz g4;obtain ⟨z3,H3,hz3,hK3,hR3⟩:=hob;have hb3:=hR3.bx;have hK4:=hK.trans hK3;clear hl hl2 hR3 g4 hK hK3 hz
    repeat' simp only [↓Zabr,↓Zabo,↓Zabq,↓Zaag,↓Zabl,↓Zabn,↓Zaci,↓Zach,↓Zacn,↓Zaar,↓Zaaj,↓Zaaq,↓Zaak,↓Zaan,↓Zaao,↓Zaau,↓Zaap,↓bxPut,↓Zabj,↓Zabi,↓Zaaf,↓Zaae,↓Zabe,↓Zabd,↓Zaco,↓Zaba,↓Zaay,↓Zaaz,Zacj,Zaad,Zabc,Zabs,Zacg,List.map,List.nil_append,List.append_nil,↓reduceIte,Nat.reduceEqDiff,Nat.reduceLT,dec_T,true_and,one1,Option.bind_some, *,lenI,ldI,ldIs,Q.fldP0]
    exact ⟨_,by omega,k + 1,z3,rfl,by omega,hz3,rfl,rfl⟩
  · have hlt':¬ (k:Int) < (w.length:Int):=by omega
    have hK4:=hK1.trans hK;have hpo:∃ b,Value.bool (decide (z = 1)) = .bool b ∧ Keep H H2:=⟨_,rfl,hK4⟩;clear hl hz hK hK1 hK4 hk hd
    repeat' simp only [↓Zabr,↓Zabo,↓Zabq,↓Zaag,↓Zabl,↓Zabn,↓Zaci,↓Zach,↓Zacn,↓Zaar,↓Zaaj,↓Zaaq,↓Zaak,↓Zaan,↓Zaao,↓Zaau,↓Zaap,↓bxPut,↓Zabj,↓Zabi,↓Zaaf,↓Zaae,↓Zabe,↓Zabd,↓Zaco,↓Zaba,↓Zaay,↓Zaaz,Zacj,Zaad,Zabc,Zabs,Zacf,List.nil_append,↓reduceIte,Nat.reduceEqDiff,Nat.reduceLT,dec_F,one1,Option.bind_some, *,lenI,ldIs,Q.fldP0]
end Go.Proofs.YtdfjaoncabanbaaDoor
