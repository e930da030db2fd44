/- The closed example of the law comes to true on the machine, whatever the type that the block of the one package variable bears. -/
import Derived.Test.YtdfjaoncabanbaaDoorProg
import Derived.KernelRfl
import Derived.Test.YtdfjaoncabanbaaDoorGj
set_option linter.unusedVariables false
set_option linter.unusedSimpArgs false
set_option linter.unusedSectionVars false

namespace Go.Proofs.YtdfjaoncabanbaaDoor
open Go Go.AM
set_option maxRecDepth 10000

/-! What is closed: the program's form,and the example. -/
theorem okP:okProg Tryd.prog 1 = true:=by kernel_rfl
theorem mixP:Tryd.prog.follows .mixedOrders = true:=by kernel_rfl
def tabN:List Int:=[0,1,28,2,29,14,24,3,30,22,20,15,25,17,4,8,31,27,13,23,21,19,16,7,26,12,18,6,11,5,10,9]
def tab:List Value:=tabN.map fun n => .int .u8 n
noncomputable def row0 (t:TypeId):Row:={ cells:=tab,elem:=t,exact:=true,ro:=true,esz:=0,grp:=2 * emptyH.size,gpos:=0 }
noncomputable def H0 (t:TypeId):Heap:=emptyH.add (row0 t)
theorem aliveM (t:TypeId):comesTo Tryd.prog 1 20000 60 5 [] (H0 t) isTrue = true:=by kernel_rfl
theorem enterA:EnterOk Tryd.prog 5:=⟨Tryd.f5,Tryd.func5,by kernel_rfl,by kernel_rfl⟩

theorem H0_get (t:TypeId) (g:Nat) (x:Row) (h:(H0 t).rows.get g = some x):g = 0 ∧ x = row0 t:=by
  unfold H0 at h;rw [Heap.add_get] at h;split at h
  · cases h; exact ⟨‹_›,rfl⟩
  · unfold emptyH at h; cases h
theorem H0_glob (t:TypeId):GlobH 1 (H0 t) where
  size:=by unfold H0; rw [Heap.add_size]; rfl
  rows:=fun g x h => by
    obtain ⟨rfl,rfl⟩:=H0_get t g x h;exact ⟨by omega,rfl,rfl,rfl,rfl⟩
  all:=fun g hg => ⟨row0 t,by unfold H0; rw [Heap.add_get,if_pos (by show g = 0; omega)]⟩

noncomputable def sys (t:TypeId):AM.Sys:=closedS 1 5 (H0 t)
theorem sys_ok (t:TypeId):OrcOk Tryd.prog (sys t):=closedS_ok okP mixP (H0_glob t) (aliveM t) enterA
theorem sys_only (t:TypeId):Only (sys t) 5:=fun f args H h => h.1
theorem sys_known {t:TypeId} {H:Heap} (h:H.rows.get 0 = some (row0 t)):(sys t).O 5 [] H:=
  ⟨rfl,rfl,fun g x hx => by obtain ⟨rfl,rfl⟩:=H0_get t g x hx; exact h⟩
end Go.Proofs.YtdfjaoncabanbaaDoor
