/- Whole numbers of any size, continued: which one is greater. -/
import Derived.Test.YtcmaipijkjillaaDoorB8
set_option linter.unusedVariables false
set_option linter.unusedSimpArgs false
set_option linter.unusedSectionVars false

namespace Go.Proofs.YtcmaipijkjillaaDoor
open Go Go.AM
set_option maxRecDepth 10000
def sgn3 (x y:Int):Int:=if x < y then -1 else if y < x then 1 else 0

variable {S:AM.Sys} (hS:Only S 6)
include hS

theorem Compare_runs (v1 v2:Value) (x y:Int) (l1 l2:Nat) (H:Heap) (hL:H.low ≤ H.size) (h1:BigIs H v1 x l1) (h2:BigIs H v2 y l2):∃ H',Keep H H' ∧ Runs Tryd.prog S (.fn 37) [v1,v2] H (.int .i64 (sgn3 x y)) H':=by
  suffices h:WCall Tryd.prog S (.fn 37) [v1,v2] H (fun v H' => v = .int .i64 (sgn3 x y) ∧ Keep H H') by
    obtain ⟨_,H',hr,rfl,hk⟩:=h; exact ⟨H',hk,hr⟩
  obtain ⟨u1,w1,r1,o1,rfl,s1,d1,n1,e1,g1⟩:=h1;obtain ⟨u2,w2,r2,o2,rfl,s2,d2,n2,e2,g2⟩:=h2;obtain ⟨a1,c1,rfl⟩:=s1.v0;obtain ⟨a2,c2,rfl⟩:=s2.v0;obtain ⟨H1,b1,hK1,hs1,zz1,hr1⟩:=box1 H [.bool (decide (x < 0)),.slice a1 w1.length c1] 35;obtain ⟨H2,b2,hK2,hs2,zz2,hr2⟩:=box1 H1 [.bool (decide (y < 0)),.slice a2 w2.length c2] 35;clear zz1 zz2;have q0:H2.read H.size 0 1 = some [.bool (decide (x < 0))]:=hK2.read hs1 (hr1 0 1 (show 0 + 1 ≤ 2 by omega))
  have q1:H2.read H.size 1 1 = some [.slice a1 w1.length c1]:=hK2.read hs1 (hr1 1 1 (show 1 + 1 ≤ 2 by omega))
  have q2:H2.read H1.size 0 1 = some [.bool (decide (y < 0))]:=hr2 0 1 (show 0 + 1 ≤ 2 by omega)
  have q3:H2.read H1.size 1 1 = some [.slice a2 w2.length c2]:=hr2 1 1 (show 1 + 1 ≤ 2 by omega)
  have hK02:=hK1.trans hK2;have hL2:=hK02.low hL;have hrl:=Keep.relowS H2;have hR1:=cmpD_runs hS _ _ w1 w2 r1 o1 r2 o2 H2 hL2 (s1.keep hK02) (s2.keep hK02);have hR2:=cmpD_runs hS _ _ w1 w2 r1 o1 r2 o2 (H2.relow H2.size) (Nat.le_refl _) ((s1.keep hK02).keep hrl) ((s2.keep hK02).keep hrl);have f1:=hR1.bx;have f2:=hR2.bx;have hcv:=cmpL_val d1 n1 d2 n2;rw [e1,e2] at hcv;have hb:-1 ≤ cmpL w1 w2 ∧ cmpL w1 w2 ≤ 1:=by rw [hcv]; split <;> first | omega | (split <;> omega)
  have hw:IntKind.i64.wrap (0 - cmpL w1 w2) = 0 - cmpL w1 w2:=IntWalk.i64_in _ (by omega)
  have hc1:(Value.agg ⟨[.bool (decide (x < 0)),.slice a1 w1.length c1]⟩).cells.toList = [.bool (decide (x < 0)),.slice a1 w1.length c1]:=rfl;have hc2:(Value.agg ⟨[.bool (decide (y < 0)),.slice a2 w2.length c2]⟩).cells.toList = [.bool (decide (y < 0)),.slice a2 w2.length c2]:=rfl;refine call_of Tryd.func37 rfl (Nat.le_of_ble_eq_true rfl) (hS.no rfl _ _) ?_
  rw [Tryd.ntmps37,Tryd.results37];have k1:x < 0 → ¬ y < 0 → (-1:Int) = sgn3 x y:=fun a b => by unfold sgn3; rw [if_pos (by omega)]
  have k2:¬ x < 0 → y < 0 → (1:Int) = sgn3 x y:=fun a b => by unfold sgn3; rw [if_neg (by omega),if_pos (by omega)]
  have k3:x < 0 → y < 0 → 0 - cmpL w1 w2 = sgn3 x y:=fun a b => by
    rw [hcv]; unfold sgn3
    by_cases t1:x < y
    · rw [if_pos t1,if_neg (by omega),if_pos (by omega)]; rfl
    · by_cases t2:y < x
      · rw [if_neg t1,if_pos t2,if_pos (by omega)]; rfl
      · rw [if_neg t1,if_neg t2,if_neg (by omega),if_neg (by omega)]; rfl
  have k4:¬ x < 0 → ¬ y < 0 → cmpL w1 w2 = sgn3 x y:=fun a b => by
    rw [hcv]; unfold sgn3
    by_cases t1:x < y
    · rw [if_pos t1,if_pos (by omega)]
    · by_cases t2:y < x
      · rw [if_neg t1,if_pos t2,if_neg (by omega),if_pos (by omega)]
      · rw [if_neg t1,if_neg t2,if_neg (by omega),if_neg (by omega)]
  have t1:(true == true) = true:=rfl;have t2:(true == false) = false:=rfl;have t3:(false == true) = false:=rfl;have t4:(false == false) = true:=rfl;have t5:(!true) = false:=rfl;have t6:(!false) = true:=rfl;clear hR1 hR2 s1 s2 hr1 hr2 d1 d2 n1 n2 e1 e2 g1 g2 hcv hb;generalize cmpL w1 w2 = cm at *
  by_cases hx:x < 0 <;> by_cases hy:y < 0
  · rw [decide_eq_true hx] at *;rw [decide_eq_true hy] at *;replace k3:=k3 hx hy;clear k1 k2 k4 hx hy
    repeat' simp only [↓Zabr,↓Zabo,↓Zabq,↓Zaah,↓Zabp,↓Zacj,↓Zaci,↓Zaco,↓Zaar,↓Zaak,↓bxOp_box,↓Zaaq,↓Zaal,↓bxOp_un,↓Zaan,↓Zaau,↓bxPut,↓Zabj,↓Zabk,↓Zabh,↓Zacm,↓Zacn,↓Zacp,↓Zaaz,↓Zaax,↓Zaay,Zack,una_neg,Zabs,Zach,Zacg,Zabe,List.map,List.nil_append,List.append_nil,↓reduceIte,Nat.reduceEqDiff,Nat.reduceLT,and_true,Nat.add_zero,one1,Option.bind_some, *,argF,List.getD_cons_zero,List.getD_cons_succ,faG0,faG1,ldB4,ldIs,neqB,Nat.zero_add]
    all_goals exact congrArg (Value.int .i64) (IntWalk.i64_in _ (by unfold sgn3; split <;> first | omega | (split <;> omega)))
  · rw [decide_eq_true hx] at *;rw [decide_eq_false hy] at *;replace k1:=k1 hx hy;clear k3 k2 k4 hx hy
    repeat' simp only [↓Zabr,↓Zabo,↓Zabq,↓Zaah,↓Zabp,↓Zacj,↓Zaci,↓Zaco,↓Zaar,↓Zaak,↓bxOp_box,↓Zaaq,↓Zaal,↓bxOp_un,↓Zaan,↓Zaau,↓bxPut,↓Zabj,↓Zabk,↓Zabh,↓Zacm,↓Zacn,↓Zacp,↓Zaaz,↓Zaax,↓Zaay,Zack,Zabs,Zach,Zabe,List.nil_append,↓reduceIte,Nat.reduceEqDiff,Nat.reduceLT,and_self,Nat.add_zero,one1,Option.bind_some, *,argF,List.getD_cons_zero,List.getD_cons_succ,faG0,ldB4,neqB]
  · rw [decide_eq_false hx] at *;rw [decide_eq_true hy] at *;replace k2:=k2 hx hy;clear k1 k3 k4 hx hy
    repeat' simp only [↓Zabr,↓Zabo,↓Zabq,↓Zaah,↓Zabp,↓Zacj,↓Zaci,↓Zaco,↓Zaar,↓Zaak,↓bxOp_box,↓Zaaq,↓Zaal,↓bxOp_un,↓Zaan,↓Zaau,↓bxPut,↓Zabj,↓Zabk,↓Zabh,↓Zacm,↓Zacn,↓Zacp,↓Zaaz,↓Zaax,↓Zaay,Zack,Zabs,Zach,Zacg,Zabe,List.nil_append,↓reduceIte,Nat.reduceEqDiff,Nat.reduceLT,and_self,Nat.add_zero,one1,Option.bind_some, *,argF,List.getD_cons_zero,List.getD_cons_succ,faG0,ldB4,neqB]
  · rw [decide_eq_false hx] at *;rw [decide_eq_false hy] at *;replace k4:=k4 hx hy;clear k1 k2 k3 hx hy
    repeat' simp only [↓Zabr,↓Zabo,↓Zabq,↓Zaah,↓Zabp,↓Zacj,↓Zaci,↓Zaco,↓Zaar,↓Zaak,↓bxOp_box,↓Zaaq,↓Zaal,↓bxOp_un,↓Zaan,↓Zaau,↓bxPut,↓Zabj,↓Zabk,↓Zabh,↓Zacm,↓Zacn,↓Zacp,↓Zaaz,↓Zaax,↓Zaay,Zack,Zabs,Zacg,Zabe,List.map,List.nil_append,List.append_nil,↓reduceIte,Nat.reduceEqDiff,Nat.reduceLT,and_self,Nat.add_zero,one1,Option.bind_some, *,argF,List.getD_cons_zero,List.getD_cons_succ,faG0,faG1,ldB4,ldIs,neqB,Nat.zero_add]
end Go.Proofs.YtcmaipijkjillaaDoor
