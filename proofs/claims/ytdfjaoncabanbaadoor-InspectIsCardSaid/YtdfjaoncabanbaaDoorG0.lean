/- A few words for games, where the texts of fractions are not at hand; those state the same. -/
import Derived.Test.YtdfjaoncabanbaaDoorB2
set_option linter.unusedVariables false
set_option linter.unusedSimpArgs false
set_option linter.unusedSectionVars false

namespace Go.Proofs.YtdfjaoncabanbaaDoor
open Go Go.AM
set_option maxRecDepth 10000

theorem ex20 (a b:Value):aExtract (.tuple #[a,b]) 0 = some a:=rfl
theorem ex21 (a b:Value):aExtract (.tuple #[a,b]) 1 = some b:=rfl
theorem SlI_nil {k:IntKind} (H:Heap):SlI k H (.slice none 0 0) [] 0 0:=⟨⟨none,0,rfl,fun h => absurd h (Nat.lt_irrefl 0)⟩,fun i hi => absurd hi (Nat.not_lt_zero i),fun h => absurd h (Nat.lt_irrefl 0),Nat.zero_le _⟩

variable {S:AM.Sys} (hS:Only S 5)
include hS

theorem isWithin_runs (n a b:Int) (H:Heap):Runs Tryd.prog S (.fn 25) [.int .i64 n,.int .i64 a,.int .i64 b] H (.bool (decide (a ≤ n ∧ n ≤ b))) H:=by
  suffices h:WCall Tryd.prog S (.fn 25) [.int .i64 n,.int .i64 a,.int .i64 b] H (fun v H' => v = .bool (decide (a ≤ n ∧ n ≤ b)) ∧ H' = H) by
    obtain ⟨_,_,hr,rfl,rfl⟩:=h; exact hr
  refine Zaaw Tryd.func25 rfl (Nat.le_of_ble_eq_true rfl) (hS.no rfl _ _) ?_
  rw [Tryd.ntmps25,Tryd.results25]
  repeat' (first | (with_reducible refine Zace (fun h => ?_) (fun h => ?_)) | (with_reducible refine Zacd (fun h => ?_) (fun h => ?_)) | (with_reducible refine sxIfB_sp (fun h => ?_) (fun h => ?_)) | simp only [↓Zabo,↓Zabq,↓Zabp,↓Zaci,↓Zach,↓Zacn,↓Zaav,↓Zaar,↓Zaaj,↓Zaas,↓Zaak,↓bxPut,↓Zabj,↓Zabh,↓Zacl,↓Zacm,↓Zaco,↓Zaba,↓Zaay,↓dstAt,↓Zabb,Zacj,Zaad,Zabc,Zaac,Zaab,sxGuardB_tt,sxGuardB_tf,Zabf,↓reduceIte,Nat.reduceEqDiff,Nat.reduceLT,dec_T,dec_F,true_and,false_and,and_self, *,argF,List.getD_cons_zero,List.getD_cons_succ])
end Go.Proofs.YtdfjaoncabanbaaDoor
