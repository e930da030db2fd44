/- Prices; Agree, by the program. -/
import Derived.Test.YtcmaipijkjillaaDoorKA
set_option linter.unusedVariables false
set_option linter.unusedSimpArgs false
set_option linter.unusedSectionVars false

namespace Go.Proofs.YtcmaipijkjillaaDoor
open Go Go.AM
set_option maxRecDepth 10000

abbrev ratioE:Enc (Int × Int):=prodE (intE .i64) (intE .i64)
abbrev SlP (H:Heap) (v:Value) (d:List (Int × Int)) (r o:Nat):Prop:=SlE ratioE H v d r o
def PrOk (ps:List (Int × Int)):Prop:=∀ i,i < ps.length → IsPrice (ps.getD i default).1 (ps.getD i default).2
def pOf (ps:List (Int × Int)) (c:Int):Int × Int:=ps.getD c.toNat default
def NoG (ps:List (Int × Int)) (x:Off):Prop:=¬ (pOf ps x.f).1 * (x.d * (pOf ps x.t).2) < x.n * (pOf ps x.t).1 * (pOf ps x.f).2
def AgOk (l:List Off) (ps:List (Int × Int)):Prop:=∀ k,k < l.length → NoG ps (l.getD k default)
def PostA (n:Int) (l:List Off) (ps:List (Int × Int)) (H:Heap) (u:Value) (H':Heap):Prop:=
  ∃ bb e,u = .tuple ⟨[.bool bb,.int .i64 e]⟩ ∧ Keep H H' ∧ (chk n l ≠ 0 → bb = false ∧ e = chk n l) ∧ (chk n l = 0 → (¬ ((ps.length:Int) = n ∧ PrOk ps) → bb = false ∧ e = 2) ∧ ((ps.length:Int) = n ∧ PrOk ps → e = 0 ∧ (bb = true ↔ AgOk l ps)))
variable {S:AM.Sys} (hS:Only S 6)
include hS

end Go.Proofs.YtcmaipijkjillaaDoor
