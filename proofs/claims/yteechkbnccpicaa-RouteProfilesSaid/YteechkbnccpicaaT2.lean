/- Looking up: binary search. -/
import Derived.Test.YteechkbnccpicaaS1P
set_option linter.unusedVariables false
set_option linter.unusedSimpArgs false
set_option linter.unusedSectionVars false

namespace Go.Proofs.Yteechkbnccpicaa
open Go Go.AM
set_option maxRecDepth 10000

theorem cvI2U (z:Int):aConv Try.prog 3 108 (.int .i64 z) = some (.int .u64 (IntKind.u64.wrap z)):=by kernel_rfl
def cmp3 (x y:Int):Int:=if x < y then -1 else if y < x then 1 else 0
variable {S:AM.Sys} (hS:Only S 11)
include hS

theorem isNaNv_runs (x:Int) (H:Heap):Runs Try.prog S (.fn 79) [.int .i64 x] H (.bool false) H:=by
  suffices h:WCall Try.prog S (.fn 79) [.int .i64 x] H (fun v H' => v = .bool false ∧ H' = H) by
    obtain ⟨_,_,hr,rfl,rfl⟩:=h; exact hr
  have d:decide (¬ x = x) = false:=decide_eq_false fun h => h rfl
  refine Zabc Try.func79 rfl (Nat.le_of_ble_eq_true rfl) (hS.no rfl _ _) ?_
  rw [Try.ntmps79,Try.results79]
  repeat' (first | simp only [↓Zabz,↓Zacb,↓Zaca,↓Zacy,↓Zacx,↓Zadd,↓Zaaw,↓Zaan,↓Zaao,↓bxPut,↓Zabu,↓Zabs,↓Zadb,↓Zadc,↓Zade,↓Zabi,↓Zabg,Zacz,Zaae,Zabk,Zabo,↓reduceIte,Nat.reduceEqDiff,Nat.reduceLT,dec_F,and_self,not_true_eq_false, *,argF,List.getD_cons_zero])
theorem cmpV_runs (x y:Int) (H:Heap):Runs Try.prog S (.fn 60) [.int .i64 x,.int .i64 y] H (.int .i64 (cmp3 x y)) H:=by
  suffices h:WCall Try.prog S (.fn 60) [.int .i64 x,.int .i64 y] H (fun v H' => v = .int .i64 (cmp3 x y) ∧ H' = H) by
    obtain ⟨_,_,hr,rfl,rfl⟩:=h; exact hr
  have f1:=(isNaNv_runs hS x H).bx;have f2:=(isNaNv_runs hS y H).bx;obtain ⟨z,hz⟩:∃ z,z = cmp3 x y:=⟨_,rfl⟩;rw [← hz];unfold cmp3 at hz;refine Zabc Try.func60 rfl (Nat.le_of_ble_eq_true rfl) (hS.no rfl _ _) ?_
  rw [Try.ntmps60,Try.results60]
  by_cases h1:x < y
  · rw [if_pos h1] at hz;subst hz
    repeat' (first | simp only [↓Zacc,↓Zabz,↓Zacb,↓Zaai,↓Zaca,↓Zacy,↓Zacx,↓Zadd,↓Zaaw,↓Zaan,↓Zaao,↓Zaba,↓bxPut,↓Zabu,↓Zabv,↓Zabs,↓Zadb,↓Zadc,↓Zade,↓Zabi,↓Zabg,↓Zabh,Zacz,Zaae,Zabk,Zacd,Zacw,Zacv,Zabo,List.map_cons,List.map_nil,List.nil_append,List.append_nil,↓reduceIte,Nat.reduceEqDiff,Nat.reduceLT,dec_T,and_self, *,argF,List.getD_cons_zero,List.getD_cons_succ])
  · rw [if_neg h1] at hz
    by_cases h2:y < x
    · rw [if_pos h2] at hz;subst hz
      repeat' (first | simp only [↓Zacc,↓Zabz,↓Zacb,↓Zaai,↓Zaca,↓Zacy,↓Zacx,↓Zadd,↓Zaaw,↓Zaan,↓Zaao,↓Zaba,↓bxPut,↓Zabu,↓Zabv,↓Zabs,↓Zadb,↓Zadc,↓Zade,↓Zabi,↓Zabg,↓Zabh,Zacz,Zaae,Zabk,Zacd,Zacw,Zacv,Zabo,List.map_cons,List.map_nil,List.nil_append,List.append_nil,↓reduceIte,Nat.reduceEqDiff,Nat.reduceLT,dec_T,dec_F,and_self, *,argF,List.getD_cons_zero,List.getD_cons_succ])
    · rw [if_neg h2] at hz;subst hz
      repeat' (first | simp only [↓Zacc,↓Zabz,↓Zacb,↓Zaai,↓Zaca,↓Zacy,↓Zacx,↓Zadd,↓Zaaw,↓Zaan,↓Zaao,↓Zaba,↓bxPut,↓Zabu,↓Zabv,↓Zabs,↓Zadb,↓Zadc,↓Zade,↓Zabi,↓Zabg,↓Zabh,Zacz,Zaae,Zabk,Zacd,Zacv,Zabo,List.map_cons,List.map_nil,List.nil_append,List.append_nil,↓reduceIte,Nat.reduceEqDiff,Nat.reduceLT,dec_F,and_self, *,argF,List.getD_cons_zero,List.getD_cons_succ])

end Go.Proofs.Yteechkbnccpicaa
