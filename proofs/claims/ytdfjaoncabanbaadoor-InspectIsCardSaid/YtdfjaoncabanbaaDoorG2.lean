/- Games: what is one, on the canonical machine. -/
import Derived.Test.YtdfjaoncabanbaaDoorG1
set_option linter.unusedVariables false
set_option linter.unusedSimpArgs false
set_option linter.unusedSectionVars false

namespace Go.Proofs.YtdfjaoncabanbaaDoor
open Go Go.AM
set_option maxRecDepth 10000

def rowOk (g:List (List Int)) (x:List Int):Prop:=x.length = (g.getD 0 default).length ∧ ∀ z ∈ x,-100 ≤ z ∧ z ≤ 100
instance (g:List (List Int)) (x:List Int):Decidable (rowOk g x):=by unfold rowOk; infer_instance
def IsG (g:List (List Int)):Prop:=(1 ≤ (g.length:Int) ∧ (g.length:Int) ≤ 5) ∧ (1 ≤ ((g.getD 0 default).length:Int) ∧ ((g.getD 0 default).length:Int) ≤ 5) ∧ ∀ x ∈ g,rowOk g x
instance (g:List (List Int)):Decidable (IsG g):=by unfold IsG; infer_instance

variable {S:AM.Sys} (hS:Only S 5)
include hS

theorem isGameL_runs (g:List (List Int)) (gv xv:Value) (x:List Int) (r o rx ox rb:Nat) (H:Heap) (hg:SlG H gv g r o) (h0:0 < g.length) (hx:SlI .i64 H xv x rx ox) (qb:H.read rb 0 1 = some [gv]) :
    ∃ H',Keep H H' ∧ Runs Tryd.prog S (.fn 28) [xv,.pointer (some ⟨rb,0,none⟩)] H (.bool (decide (¬ rowOk g x))) H':=by
  suffices h:WCall Tryd.prog S (.fn 28) [xv,.pointer (some ⟨rb,0,none⟩)] H (fun v H' => v = .bool (decide (¬ rowOk g x)) ∧ Keep H H') by
    obtain ⟨_,H',hr,rfl,hk⟩:=h; exact ⟨H',hk,hr⟩
  obtain ⟨a,c,rfl⟩:=hg.v0;obtain ⟨a1,c1,rfl⟩:=hx.v0;obtain ⟨ix,y,r1,o1,rd,hy⟩:=SlG_at hg h0;have ix0:aIndexAt Tryd.prog 22 (.slice a g.length c) (.int .i64 0) = some (.pointer (some ⟨r,o,none⟩)):=ix;have rd0:H.read r o 1 = some [y]:=rd;obtain ⟨a2,c2,rfl⟩:=hy.v0;clear rd;obtain ⟨H1,k1,R1⟩:=areWithin_runs hS (-100) 100 _ x rx ox H hx;have f1:=R1.bx;unfold rowOk;clear R1 ix hg hx hy;refine Zaaw Tryd.func28 rfl (Nat.le_of_ble_eq_true rfl) (hS.no rfl _ _) ?_
  rw [Tryd.ntmps28,Tryd.results28]
  by_cases hl:x.length = (g.getD 0 default).length
  · have hl':((x.length:Int) = ((g.getD 0 default).length:Int)) = True:=eq_true (by omega)
    have hf:(¬ ∀ z ∈ x,-100 ≤ z ∧ z ≤ 100) ↔ ¬ (x.length = (g.getD 0 default).length ∧ ∀ z ∈ x,-100 ≤ z ∧ z ≤ 100):=⟨fun h h2 => h h2.2,fun h h2 => h ⟨hl,h2⟩⟩
    clear hl
    repeat' simp only [↓Zabo,↓Zabq,↓Zabp,↓Zaci,↓Zach,↓Zacn,↓Zaav,↓Zaar,↓Zaaj,↓Zaas,↓Zaaq,↓Zaak,↓bxOp_un,↓Zaao,↓Zaau,↓Zaap,↓bxPut,↓Zabj,↓Zabh,↓Zacl,↓Zacm,↓Zaco,↓Zaba,↓Zaay,↓Zaaz,↓dstAt,↓Zabb,Zacj,Zaad,Zabc,una_not_dec,Zaab,Zabs,Zacc,Zabf,List.map,List.nil_append,List.append_nil,↓reduceIte,Nat.reduceEqDiff,Nat.reduceLT,dec_F,and_self,one1,Option.bind_some,not_true_eq_false, *,argF,List.getD_cons_zero,List.getD_cons_succ,lenI,ldG,ldIs]
  · have hl':¬ (x.length:Int) = ((g.getD 0 default).length:Int):=by omega
    have hf:¬ (x.length = (g.getD 0 default).length ∧ ∀ z ∈ x,-100 ≤ z ∧ z ≤ 100):=fun h => hl h.1
    clear hl
    repeat' simp only [↓Zabo,↓Zabq,↓Zabp,↓Zaci,↓Zach,↓Zacn,↓Zaav,↓Zaar,↓Zaaj,↓Zaas,↓Zaaq,↓Zaak,↓bxOp_un,↓Zaao,↓Zaau,↓Zaap,↓bxPut,↓Zabj,↓Zabh,↓Zacl,↓Zacm,↓Zaco,↓Zaba,↓Zaay,↓Zaaz,↓dstAt,↓Zabb,Zacj,Zaad,Zabc,Zaac,Zabs,sxGuardB_ft,Zabf,List.nil_append,↓reduceIte,Nat.reduceEqDiff,Nat.reduceLT,dec_T,true_and,one1,Option.bind_some,not_false_eq_true, *,argF,List.getD_cons_zero,List.getD_cons_succ,lenI,ldG,ldIs]
    exact Keep.refl _

theorem isGame_runs (g:List (List Int)) (gv:Value) (r o:Nat) (H:Heap) (hg:SlG H gv g r o) :
    ∃ H',Keep H H' ∧ Runs Tryd.prog S (.fn 11) [gv] H (.bool (decide (IsG g))) H':=by
  suffices h:WCall Tryd.prog S (.fn 11) [gv] H (fun v H' => v = .bool (decide (IsG g)) ∧ Keep H H') by
    obtain ⟨_,H',hr,rfl,hk⟩:=h; exact ⟨H',hk,hr⟩
  obtain ⟨a,c,rfl⟩:=hg.v0;have cg:(Value.slice a g.length c).cells.toList = [.slice a g.length c]:=rfl;obtain ⟨H1,e1,k1,s1,-,q1⟩:=box1 H [.slice a g.length c] 22;have qb:H1.read H.size 0 1 = some [.slice a g.length c]:=q1 0 1 (show 0 + 1 ≤ 1 by omega)
  have hg1:=hg.keep k1;have w1:=(isWithin_runs hS (g.length:Int) 1 5 H1).bx;have hy:notYield (.func 28) = true:=rfl;clear q1
  by_cases h1:1 ≤ (g.length:Int) ∧ (g.length:Int) ≤ 5
  · have h0:0 < g.length:=by omega
    rw [decide_eq_true h1] at w1;obtain ⟨ix,y,r1,o1,rd,hy1⟩:=SlG_at hg1 h0;have ix0:aIndexAt Tryd.prog 22 (.slice a g.length c) (.int .i64 0) = some (.pointer (some ⟨r,o,none⟩)):=ix;have rd0:H1.read r o 1 = some [y]:=rd;obtain ⟨a2,c2,rfl⟩:=hy1.v0;clear rd;have w2:=(isWithin_runs hS ((g.getD 0 default).length:Int) 1 5 H1).bx
    by_cases h2:1 ≤ ((g.getD 0 default).length:Int) ∧ ((g.getD 0 default).length:Int) ≤ 5
    · rw [decide_eq_true h2] at w2;obtain ⟨H2,k2,R2⟩:=cfInts_runs hS (fun x => ¬ rowOk g x) _ g r o H1 hg1 (g:=28) (cs:=[.pointer (some ⟨H.size,0,none⟩)])
        fun Hx kx x z rz oz hz => isGameL_runs hS g _ x z r o rz oz H.size Hx (hg1.keep kx) h0 hz (kx.read s1 qb)
      have f2:=R2.bx;have k02:=k1.trans k2;have hfin:(¬ ¬ ∀ x ∈ g,¬ ¬ rowOk g x) ↔ IsG g:=by
        unfold IsG;simp only [Decidable.not_not];exact ⟨fun h => ⟨h1,h2,h⟩,fun h => h.2.2⟩
      clear R2 ix hg hg1 hy1 h1 h2;refine Zaaw Tryd.func11 rfl (Nat.le_of_ble_eq_true rfl) (hS.no rfl _ _) ?_
      rw [Tryd.ntmps11,Tryd.results11]
      repeat' simp only [↓Zabr,↓Zabo,↓Zabq,↓Zaag,↓Zabp,↓Zaci,↓Zach,↓Zacn,↓Zaav,↓Zaar,↓Zaaj,↓Zaas,↓Zaal,↓Zaaq,↓bxOp_un,↓bxOp_makeFunc,↓Zaao,↓Zaau,↓Zaap,↓bxPut,↓Zabj,↓Zabk,↓Zabh,↓Zacl,↓Zacm,↓Zaco,↓Zaba,↓Zaay,↓Zaaz,↓dstAt,↓Zabb,Zacj,una_not_dec,una_nt,Zaab,Zabs,Zacc,Zacf,Zabf,List.map,List.nil_append,List.append_nil,↓reduceIte,Nat.reduceEqDiff,Nat.reduceLT,and_self,one1,Option.bind_some, *,argF,List.getD_cons_zero,lenI,lenG,ldG,ldIs]
    · rw [decide_eq_false h2] at w2;have hfin:¬ IsG g:=fun h => h2 h.2.1
      clear ix hg hg1 hy1 h1 h2;refine Zaaw Tryd.func11 rfl (Nat.le_of_ble_eq_true rfl) (hS.no rfl _ _) ?_
      rw [Tryd.ntmps11,Tryd.results11]
      repeat' simp only [↓Zabr,↓Zabo,↓Zabq,↓Zaag,↓Zabp,↓Zaci,↓Zach,↓Zacn,↓Zaav,↓Zaar,↓Zaaj,↓Zaas,↓Zaal,↓Zaaq,↓bxOp_un,↓bxOp_makeFunc,↓Zaao,↓Zaau,↓Zaap,↓bxPut,↓Zabj,↓Zabk,↓Zabh,↓Zacl,↓Zacm,↓Zaco,↓Zaba,↓Zaay,↓Zaaz,↓dstAt,↓Zabb,Zacj,una_nt,una_nf,Zaab,Zabs,Zacc,Zacg,Zabf,List.map,List.nil_append,List.append_nil,↓reduceIte,Nat.reduceEqDiff,Nat.reduceLT,dec_F,and_self,one1,Option.bind_some, *,argF,List.getD_cons_zero,lenI,lenG,ldG,ldIs]
  · rw [decide_eq_false h1] at w1;have hfin:¬ IsG g:=fun h => h1 h.1
    clear hg hg1 h1;refine Zaaw Tryd.func11 rfl (Nat.le_of_ble_eq_true rfl) (hS.no rfl _ _) ?_
    rw [Tryd.ntmps11,Tryd.results11]
    repeat' simp only [↓Zabr,↓Zabo,↓Zabq,↓Zaag,↓Zabp,↓Zaci,↓Zach,↓Zacn,↓Zaav,↓Zaar,↓Zaaj,↓Zaas,↓Zaal,↓Zaaq,↓bxOp_un,↓bxOp_makeFunc,↓Zaao,↓Zaau,↓Zaap,↓bxPut,↓Zabj,↓Zabk,↓Zabh,↓Zacl,↓Zacm,↓Zaco,↓Zaba,↓Zaay,↓Zaaz,↓dstAt,↓Zabb,Zacj,una_nf,Zaac,Zabs,sxGuardB_ft,Zacg,Zabf,List.map,List.nil_append,List.append_nil,↓reduceIte,Nat.reduceEqDiff,Nat.reduceLT,dec_F,and_self,one1,Option.bind_some, *,argF,List.getD_cons_zero,lenG,ldG]
end Go.Proofs.YtdfjaoncabanbaaDoor
