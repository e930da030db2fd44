/- The closed example of the law comes to true on the machine, whatever the type that the block of the one package variable bears. -/
import Derived.Test.YtcmaipijkjillaaDoorProg
import Derived.KernelRfl
import Derived.Test.YtcmaipijkjillaaDoorGj
set_option linter.unusedVariables false
set_option linter.unusedSimpArgs false
set_option linter.unusedSectionVars false

namespace Go.Proofs.YtcmaipijkjillaaDoor
open Go Go.AM
set_option maxRecDepth 10000

/-! What is closed: the program's form,and the example of three offers. -/
theorem okP:okProg Tryd.prog 1 = true:=by kernel_rfl
theorem mixP:Tryd.prog.follows .mixedOrders = true:=by kernel_rfl
noncomputable def row0 (t:TypeId):Row:={ cells:=[.int .i64 1,.int .i64 1],elem:=t,exact:=true,ro:=true,esz:=0,grp:=2 * emptyH.size,gpos:=0 }
noncomputable def H0 (t:TypeId):Heap:=emptyH.add (row0 t)
theorem aliveM (t:TypeId):comesTo Tryd.prog 1 2000 60 6 [] (H0 t) isTrue = true:=by kernel_rfl
theorem enterA:EnterOk Tryd.prog 6:=⟨Tryd.f6,Tryd.func6,by kernel_rfl,by kernel_rfl⟩

theorem H0_get (t:TypeId) (g:Nat) (x:Row) (h:(H0 t).rows.get g = some x):g = 0 ∧ x = row0 t:=by
  unfold H0 at h;rw [Heap.add_get] at h;split at h
  · cases h; exact ⟨‹_›,rfl⟩
  · unfold emptyH at h; cases h
theorem H0_glob (t:TypeId):GlobH 1 (H0 t) where
  size:=by unfold H0; rw [Heap.add_size]; rfl
  rows:=fun g x h => by
    obtain ⟨rfl,rfl⟩:=H0_get t g x h;exact ⟨by omega,rfl,rfl,rfl,rfl⟩
  all:=fun g hg => ⟨row0 t,by unfold H0; rw [Heap.add_get,if_pos (by show g = 0; omega)]⟩

noncomputable def sys (t:TypeId):AM.Sys:=closedS 1 6 (H0 t)
theorem sys_ok (t:TypeId):OrcOk Tryd.prog (sys t):=closedS_ok okP mixP (H0_glob t) (aliveM t) enterA
theorem sys_only (t:TypeId):Only (sys t) 6:=fun f args H h => h.1
theorem sys_known {t:TypeId} {H:Heap} (h:H.rows.get 0 = some (row0 t)):(sys t).O 6 [] H:=
  ⟨rfl,rfl,fun g x hx => by obtain ⟨rfl,rfl⟩:=H0_get t g x hx; exact h⟩
end Go.Proofs.YtcmaipijkjillaaDoor
