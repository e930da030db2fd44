/- Walks and offers, by the reference. -/
import Derived.Test.YtcmaipijkjillaaDoorK7
set_option linter.unusedVariables false
set_option linter.unusedSimpArgs false
set_option linter.unusedSectionVars false

namespace Go.Proofs.YtcmaipijkjillaaDoor
open Go Go.AM
set_option maxRecDepth 10000

theorem alO (H:Heap):aAlloc Tryd.prog H 40 = some (.pointer (some ⟨H.size,0,none⟩),H.newExact [.int .i64 0,.int .i64 0,.int .i64 0,.int .i64 0] 40):=by kernel_rfl
theorem infO:Tryd.prog.info? 40 = some Tryd.t40 ∧ Tryd.t40.size = 4:=⟨by kernel_rfl,by kernel_rfl⟩
theorem varO (H:Heap) (x:Off):∃ H1 H2,H.newExact [.int .i64 0,.int .i64 0,.int .i64 0,.int .i64 0] 40 = H1 ∧ aStore Tryd.prog H1 40 (.pointer (some ⟨H.size,0,none⟩)) (.agg ⟨x.cells⟩) = some H2 ∧ Keep H H2 ∧ H.size < H2.size ∧ Own H2 H.size 40 x.cells:=by
  obtain ⟨H1,e1,k1,z1,-,-⟩:=box1 H [.int .i64 0,.int .i64 0,.int .i64 0,.int .i64 0] 40;have ow:Own H1 H.size 40 [.int .i64 0,.int .i64 0,.int .i64 0,.int .i64 0]:=e1 ▸ Own.new H _ _;obtain ⟨H2,h1,h2,h3,_,h5⟩:=ow.store (P:=Tryd.prog) (t:=40) infO.1 (v:=.agg ⟨x.cells⟩) (new:=x.cells) rfl (infO.2.trans rfl) rfl (o:=0) (Nat.le_refl 4);exact ⟨H1,H2,e1,h1,h5 H k1 (Nat.le_refl _),by rw [h3]; exact z1,h2⟩
theorem off_reads {H:Heap} {r:Nat} {x:Off} (h:Own H r 40 x.cells):H.read r 0 4 = some x.cells ∧ H.read r 0 1 = some [.int .i64 x.f] ∧ H.read r 1 1 = some [.int .i64 x.t] ∧ H.read r 2 1 = some [.int .i64 x.n] ∧ H.read r 3 1 = some [.int .i64 x.d]:=
  ⟨h.read (o:=0) (n:=4) (Nat.le_refl 4),h.read (o:=0) (n:=1) (show 1 ≤ 4 by decide),h.read (o:=1) (n:=1) (show 2 ≤ 4 by decide),h.read (o:=2) (n:=1) (show 3 ≤ 4 by decide),h.read (o:=3) (n:=1) (Nat.le_refl 4)⟩

variable {S:AM.Sys} (hS:Only S 6)
include hS

end Go.Proofs.YtcmaipijkjillaaDoor
