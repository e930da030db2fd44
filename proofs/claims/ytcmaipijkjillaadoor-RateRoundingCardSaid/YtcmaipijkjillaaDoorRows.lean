/-
  NARROWER THAN 'FOR EVERY INPUT', by the rows' own cells (each row's printed sentence says how): RateChecks: laid · RateRounding: laid.
  DERIVED. THE GIVEN ROWS OF THIS SEAT. 2 by the template 'for every input the law returns true; each argument reads behind the call as it read before'; 0 by the template 'total and deterministic' (their statements: YtcmaipijkjillaaDoorTotals.lean).
  GIVEN WITH THE SEED: the statements are not yours to turn. If you find one false, say at which input.
  Laid BY PROGRAM, IN A SANDBOX (cutbox-rows.mjs): the forced cells as the released guide's own fill.sh prints them over the translation 4b427d37aa74f42e… (all of the seat's roots in one cut). By AI agents, Wed Nov 11 2026. No macro, syntax, notation, axiom, sorry.
-/
import Derived.Test.YtcmaipijkjillaaDoorChecked
import GoSem.Claim
import GoSem.ClaimJoined
import GoSem.ClaimMapViews
import Derived.JoinedTies
import Derived.KernelRfl
namespace Go.Proofs.YtcmaipijkjillaaDoor
/- THE CELL 'sum', in the pinned program and in every row, IS THE sha256 OF THE DUMP (.gsa) THAT YtcmaipijkjillaaDoorProg.lean LOADS. Nothing in Lean hashes anything: it is a label: what it is worth is what the hold of that sum in a sandbox is worth. -/
noncomputable def Tryd.pinned : Pinned := { name := "ytcmaipijkjillaadoor", sum := "4b427d37aa74f42ebf51b6e4250d2a678a0ec8a0aae04fd6b761e55d479fc15d", checked := Tryd.checked }
namespace Rows
def none {H : Type} : Left H := { results := [], args := [] }

/- WHAT THE LISTED PACKAGE-LEVEL VARIABLES READ AS WHEN THE CALL BEGINS. Each datum BY PROGRAM (the guide's laid-datum.mjs) off the statement by which the dump's own 'gosem.cut.vars' lays the variable. In a bare row this is a premise. The card (YtcmaipijkjillaaDoorCards.lean) ties it to the program's text. -/
def laid_cocket_rate_one {H : Type} : DataW H := .agg [.lit (.int .i64 1), .lit (.int .i64 1)]

/-- 'cocketlaw01.RateChecks': WHATEVER THE INPUT: true; the input reads as it did. -/
def rateChecksSpec : ChangeSpec := { name := "rateChecks", fn := fun _ => fun
  | [d1, d2, d3, d4] => { results := [.lit (.bool true)], args := [d1, d2, d3, d4] }
  | _ => none }
def rateChecksRow : OpenClaim := { program := "ytcmaipijkjillaadoor", sum := "4b427d37aa74f42ebf51b6e4250d2a678a0ec8a0aae04fd6b761e55d479fc15d", func := "cocket/cocketlaw01.RateChecks", spec := "rateChecks", unfollowed := true, recurses := true, named := ["cocket/rate.one"], apart := false, laid := [("cocket/rate.one", laid_cocket_rate_one)] }
def RateChecksSaid : Prop := rateChecksRow.holds Tryd.pinned (OpenSpec.ofChange rateChecksSpec)

/-- ITS FALSE NEIGHBOUR: 'it returns false'. Refute it at one input. -/
def rateChecksWrong : ChangeSpec := { name := "rateChecks", fn := fun _ => fun
  | [d1, d2, d3, d4] => { results := [.lit (.bool false)], args := [d1, d2, d3, d4] }
  | _ => none }
def RateChecksWrongFalsely : Prop := rateChecksRow.holds Tryd.pinned (OpenSpec.ofChange rateChecksWrong)

/-- 'cocketlaw01.RateRounding': WHATEVER THE INPUT: true; the input reads as it did. -/
def rateRoundingSpec : ChangeSpec := { name := "rateRounding", fn := fun _ => fun
  | [d1, d2, d3, d4] => { results := [.lit (.bool true)], args := [d1, d2, d3, d4] }
  | _ => none }
def rateRoundingRow : OpenClaim := { program := "ytcmaipijkjillaadoor", sum := "4b427d37aa74f42ebf51b6e4250d2a678a0ec8a0aae04fd6b761e55d479fc15d", func := "cocket/cocketlaw01.RateRounding", spec := "rateRounding", unfollowed := true, recurses := true, named := ["cocket/rate.one"], apart := false, laid := [("cocket/rate.one", laid_cocket_rate_one)] }
def RateRoundingSaid : Prop := rateRoundingRow.holds Tryd.pinned (OpenSpec.ofChange rateRoundingSpec)

/-- ITS FALSE NEIGHBOUR: 'it returns false'. Refute it at one input. -/
def rateRoundingWrong : ChangeSpec := { name := "rateRounding", fn := fun _ => fun
  | [d1, d2, d3, d4] => { results := [.lit (.bool false)], args := [d1, d2, d3, d4] }
  | _ => none }
def RateRoundingWrongFalsely : Prop := rateRoundingRow.holds Tryd.pinned (OpenSpec.ofChange rateRoundingWrong)

/- THE SECOND FORM. 'bulk': how many values and letters a reading holds, each counted each time it is reached (what is shared counts as often as it is met; a slice's spare places count too). A statement '..UptoSaid' is the law's where the arguments, and the package variables that the reading takes, are together of bulk at most 1048576: NARROWER than '..Said'. Prove '..Said' where nothing that the law and all that it calls make is longer than what came in: it says more and counts as full. Else prove '..UptoSaid'. A law counts once. -/
mutual
def uptoBulk {H : Type} : DataW H → Nat
  | .lit (.string bytes) => bytes.length + 1
  | .lit _ => 1
  | .nil => 1
  | .ptr d => uptoBulk d + 1
  | .slice elems spare => uptoBulkAll elems + uptoBulkAll spare + 1
  | .agg parts => uptoBulkAll parts + 1
  | .iface _ d => uptoBulk d + 1
  | .map entries => uptoBulkEntries entries + 1
  | .held _ => 1
def uptoBulkAll {H : Type} : List (DataW H) → Nat
  | [] => 0
  | d :: r => uptoBulk d + uptoBulkAll r
def uptoBulkEntries {H : Type} : List (Lit × DataW H) → Nat
  | [] => 0
  | x :: r => uptoBulkEntry x + uptoBulkEntries r
def uptoBulkEntry {H : Type} : Lit × DataW H → Nat
  | (.string bytes, d) => bytes.length + uptoBulk d + 1
  | (_, d) => uptoBulk d + 1
 end
def uptoSmall : (H : Type) → List (DataW H) → Bool := fun _ ds => decide (uptoBulkAll ds ≤ 1048576)
def OpenSpec.upto (s : _root_.Go.ChangeSpec) : _root_.Go.OpenSpec := { _root_.Go.OpenSpec.ofChange s with cond := some uptoSmall }

/-- 'cocketlaw01.RateChecks', WHERE WHAT IT READS IS OF BULK AT MOST 1048576: true; the input reads as it did. -/
def rateChecksUptoRow : OpenClaim := { program := "ytcmaipijkjillaadoor", sum := "4b427d37aa74f42ebf51b6e4250d2a678a0ec8a0aae04fd6b761e55d479fc15d", func := "cocket/cocketlaw01.RateChecks", spec := "rateChecks", unfollowed := true, recurses := true, named := ["cocket/rate.one"], apart := false, laid := [("cocket/rate.one", laid_cocket_rate_one)], narrowed := true }
def RateChecksUptoSaid : Prop := rateChecksUptoRow.holds Tryd.pinned (OpenSpec.upto rateChecksSpec)

/-- 'cocketlaw01.RateRounding', WHERE WHAT IT READS IS OF BULK AT MOST 1048576: true; the input reads as it did. -/
def rateRoundingUptoRow : OpenClaim := { program := "ytcmaipijkjillaadoor", sum := "4b427d37aa74f42ebf51b6e4250d2a678a0ec8a0aae04fd6b761e55d479fc15d", func := "cocket/cocketlaw01.RateRounding", spec := "rateRounding", unfollowed := true, recurses := true, named := ["cocket/rate.one"], apart := false, laid := [("cocket/rate.one", laid_cocket_rate_one)], narrowed := true }
def RateRoundingUptoSaid : Prop := rateRoundingUptoRow.holds Tryd.pinned (OpenSpec.upto rateRoundingSpec)

end Rows
end Go.Proofs.YtcmaipijkjillaaDoor
