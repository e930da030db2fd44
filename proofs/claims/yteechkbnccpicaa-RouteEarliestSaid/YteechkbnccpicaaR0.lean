/- The closed example of the law comes to true on the machine. -/
import Derived.Test.YteechkbnccpicaaProg
import Derived.KernelRfl
import Derived.Test.YteechkbnccpicaaGj
set_option linter.unusedVariables false
set_option linter.unusedSimpArgs false
set_option linter.unusedSectionVars false

namespace Go.Proofs.Yteechkbnccpicaa
open Go Go.AM
set_option maxRecDepth 10000

/-! What is closed: the program's form,and the example. -/
theorem okP:okProg Try.prog 0 = true:=by kernel_rfl
theorem mixP:Try.prog.follows .mixedOrders = true:=by kernel_rfl
theorem aliveM:comesTo Try.prog 0 2000 60 11 [] emptyH isTrue = true:=by kernel_rfl
theorem enterA:EnterOk Try.prog 11:=⟨Try.f11,Try.func11,by kernel_rfl,by kernel_rfl⟩
theorem H0_glob:GlobH 0 emptyH where
  size:=rfl
  rows:=fun g x h => by unfold emptyH at h; cases h
  all:=fun g hg => absurd hg (Nat.not_lt_zero g)
noncomputable def sys:AM.Sys:=closedS 0 11 emptyH
theorem sys_ok:OrcOk Try.prog sys:=closedS_ok okP mixP H0_glob aliveM enterA
theorem sys_only:Only sys 11:=fun f args H h => h.1
theorem sys_known {H:Heap}:sys.O 11 [] H:=
  ⟨rfl,rfl,fun g x hx => by unfold emptyH at hx; cases hx⟩
end Go.Proofs.Yteechkbnccpicaa
