/-
  No cell of these rows narrows 'for every input' (looked for: loops, veiled, ifaces, maps, wideKeys, modest, calm, conditions, laid).
  DERIVED. THE GIVEN ROWS OF THIS SEAT. 5 by the template 'for every input the law returns true; each argument reads behind the call as it read before'; 0 by the template 'total and deterministic' (their statements: YtkijaalhbloehaaTotals.lean).
  GIVEN WITH THE SEED: the statements are not yours to turn. If you find one false, say at which input.
  Laid BY PROGRAM, IN A SANDBOX (cutbox-rows.mjs): the forced cells as the released guide's own fill.sh prints them over the translation eb7520ddd88ef0bb… (all of the seat's roots in one cut). By AI agents, Wed Nov 11 2026. No macro, syntax, notation, axiom, sorry.
-/
import Derived.Test.YtkijaalhbloehaaChecked
import GoSem.Claim
import GoSem.ClaimJoined
import GoSem.ClaimMapViews
import Derived.JoinedTies
import Derived.KernelRfl
namespace Go.Proofs.Ytkijaalhbloehaa
/- THE CELL 'sum', in the pinned program and in every row, IS THE sha256 OF THE DUMP (.gsa) THAT YtkijaalhbloehaaProg.lean LOADS. Nothing in Lean hashes anything: it is a label: what it is worth is what the hold of that sum in a sandbox is worth. -/
noncomputable def Try.pinned : Pinned := { name := "ytkijaalhbloehaa", sum := "eb7520ddd88ef0bb91b0176e9eb6cf123cb0af6a5a51eb7e66e2f0b3b726407b", checked := Try.checked }
namespace Rows
def none {H : Type} : Left H := { results := [], args := [] }

/-- 'cocketlaw07.MessageParses': WHATEVER THE INPUT: true; the input reads as it did. -/
def messageParsesSpec : ChangeSpec := { name := "messageParses", fn := fun _ => fun
  | [d] => { results := [.lit (.bool true)], args := [d] }
  | _ => none }
def messageParsesRow : OpenClaim := { program := "ytkijaalhbloehaa", sum := "eb7520ddd88ef0bb91b0176e9eb6cf123cb0af6a5a51eb7e66e2f0b3b726407b", func := "cocket/cocketlaw07.MessageParses", spec := "messageParses", inPlace := ["internal/bytealg.abigen_runtime_cmpstring"], unfollowed := true, recurses := true, apart := false }
def MessageParsesSaid : Prop := messageParsesRow.holds Try.pinned (OpenSpec.ofChange messageParsesSpec)

/-- ITS FALSE NEIGHBOUR: 'it returns false'. Refute it at one input. -/
def messageParsesWrong : ChangeSpec := { name := "messageParses", fn := fun _ => fun
  | [d] => { results := [.lit (.bool false)], args := [d] }
  | _ => none }
def MessageParsesWrongFalsely : Prop := messageParsesRow.holds Try.pinned (OpenSpec.ofChange messageParsesWrong)

/-- 'cocketlaw07.MessagePrints': WHATEVER THE INPUT: true; the input reads as it did. -/
def messagePrintsSpec : ChangeSpec := { name := "messagePrints", fn := fun _ => fun
  | [d] => { results := [.lit (.bool true)], args := [d] }
  | _ => none }
def messagePrintsRow : OpenClaim := { program := "ytkijaalhbloehaa", sum := "eb7520ddd88ef0bb91b0176e9eb6cf123cb0af6a5a51eb7e66e2f0b3b726407b", func := "cocket/cocketlaw07.MessagePrints", spec := "messagePrints", inPlace := ["internal/bytealg.abigen_runtime_cmpstring"], unfollowed := true, recurses := true, apart := false }
def MessagePrintsSaid : Prop := messagePrintsRow.holds Try.pinned (OpenSpec.ofChange messagePrintsSpec)

/-- ITS FALSE NEIGHBOUR: 'it returns false'. Refute it at one input. -/
def messagePrintsWrong : ChangeSpec := { name := "messagePrints", fn := fun _ => fun
  | [d] => { results := [.lit (.bool false)], args := [d] }
  | _ => none }
def MessagePrintsWrongFalsely : Prop := messagePrintsRow.holds Try.pinned (OpenSpec.ofChange messagePrintsWrong)

/-- 'cocketlaw07.MessageLimits': WHATEVER THE INPUT: true; the input reads as it did. -/
def messageLimitsSpec : ChangeSpec := { name := "messageLimits", fn := fun _ => fun
  | [d1, d2] => { results := [.lit (.bool true)], args := [d1, d2] }
  | _ => none }
def messageLimitsRow : OpenClaim := { program := "ytkijaalhbloehaa", sum := "eb7520ddd88ef0bb91b0176e9eb6cf123cb0af6a5a51eb7e66e2f0b3b726407b", func := "cocket/cocketlaw07.MessageLimits", spec := "messageLimits", inPlace := ["internal/bytealg.abigen_runtime_cmpstring"], unfollowed := true, recurses := true, apart := false }
def MessageLimitsSaid : Prop := messageLimitsRow.holds Try.pinned (OpenSpec.ofChange messageLimitsSpec)

/-- ITS FALSE NEIGHBOUR: 'it returns false'. Refute it at one input. -/
def messageLimitsWrong : ChangeSpec := { name := "messageLimits", fn := fun _ => fun
  | [d1, d2] => { results := [.lit (.bool false)], args := [d1, d2] }
  | _ => none }
def MessageLimitsWrongFalsely : Prop := messageLimitsRow.holds Try.pinned (OpenSpec.ofChange messageLimitsWrong)

/-- 'cocketlaw07.MessageBack': WHATEVER THE INPUT: true; the input reads as it did. -/
def messageBackSpec : ChangeSpec := { name := "messageBack", fn := fun _ => fun
  | [d1, d2] => { results := [.lit (.bool true)], args := [d1, d2] }
  | _ => none }
def messageBackRow : OpenClaim := { program := "ytkijaalhbloehaa", sum := "eb7520ddd88ef0bb91b0176e9eb6cf123cb0af6a5a51eb7e66e2f0b3b726407b", func := "cocket/cocketlaw07.MessageBack", spec := "messageBack", inPlace := ["internal/bytealg.abigen_runtime_cmpstring"], unfollowed := true, recurses := true, apart := false }
def MessageBackSaid : Prop := messageBackRow.holds Try.pinned (OpenSpec.ofChange messageBackSpec)

/-- ITS FALSE NEIGHBOUR: 'it returns false'. Refute it at one input. -/
def messageBackWrong : ChangeSpec := { name := "messageBack", fn := fun _ => fun
  | [d1, d2] => { results := [.lit (.bool false)], args := [d1, d2] }
  | _ => none }
def MessageBackWrongFalsely : Prop := messageBackRow.holds Try.pinned (OpenSpec.ofChange messageBackWrong)

/-- 'cocketlaw07.MessageFeeds': WHATEVER THE INPUT: true; the input reads as it did. -/
def messageFeedsSpec : ChangeSpec := { name := "messageFeeds", fn := fun _ => fun
  | [d1, d2] => { results := [.lit (.bool true)], args := [d1, d2] }
  | _ => none }
def messageFeedsRow : OpenClaim := { program := "ytkijaalhbloehaa", sum := "eb7520ddd88ef0bb91b0176e9eb6cf123cb0af6a5a51eb7e66e2f0b3b726407b", func := "cocket/cocketlaw07.MessageFeeds", spec := "messageFeeds", inPlace := ["internal/bytealg.abigen_runtime_cmpstring"], unfollowed := true, recurses := true, apart := false }
def MessageFeedsSaid : Prop := messageFeedsRow.holds Try.pinned (OpenSpec.ofChange messageFeedsSpec)

/-- ITS FALSE NEIGHBOUR: 'it returns false'. Refute it at one input. -/
def messageFeedsWrong : ChangeSpec := { name := "messageFeeds", fn := fun _ => fun
  | [d1, d2] => { results := [.lit (.bool false)], args := [d1, d2] }
  | _ => none }
def MessageFeedsWrongFalsely : Prop := messageFeedsRow.holds Try.pinned (OpenSpec.ofChange messageFeedsWrong)

/- THE SECOND FORM. 'bulk': how many values and letters a reading holds, each counted each time it is reached (what is shared counts as often as it is met; a slice's spare places count too). A statement '..UptoSaid' is the law's where the arguments, and the package variables that the reading takes, are together of bulk at most 1048576: NARROWER than '..Said'. Prove '..Said' where nothing that the law and all that it calls make is longer than what came in: it says more and counts as full. Else prove '..UptoSaid'. A law counts once. -/
mutual
def uptoBulk {H : Type} : DataW H → Nat
  | .lit (.string bytes) => bytes.length + 1
  | .lit _ => 1
  | .nil => 1
  | .ptr d => uptoBulk d + 1
  | .slice elems spare => uptoBulkAll elems + uptoBulkAll spare + 1
  | .agg parts => uptoBulkAll parts + 1
  | .iface _ d => uptoBulk d + 1
  | .map entries => uptoBulkEntries entries + 1
  | .held _ => 1
def uptoBulkAll {H : Type} : List (DataW H) → Nat
  | [] => 0
  | d :: r => uptoBulk d + uptoBulkAll r
def uptoBulkEntries {H : Type} : List (Lit × DataW H) → Nat
  | [] => 0
  | x :: r => uptoBulkEntry x + uptoBulkEntries r
def uptoBulkEntry {H : Type} : Lit × DataW H → Nat
  | (.string bytes, d) => bytes.length + uptoBulk d + 1
  | (_, d) => uptoBulk d + 1
 end
def uptoSmall : (H : Type) → List (DataW H) → Bool := fun _ ds => decide (uptoBulkAll ds ≤ 1048576)
def OpenSpec.upto (s : _root_.Go.ChangeSpec) : _root_.Go.OpenSpec := { _root_.Go.OpenSpec.ofChange s with cond := some uptoSmall }

/-- 'cocketlaw07.MessageParses', WHERE WHAT IT READS IS OF BULK AT MOST 1048576: true; the input reads as it did. -/
def messageParsesUptoRow : OpenClaim := { program := "ytkijaalhbloehaa", sum := "eb7520ddd88ef0bb91b0176e9eb6cf123cb0af6a5a51eb7e66e2f0b3b726407b", func := "cocket/cocketlaw07.MessageParses", spec := "messageParses", inPlace := ["internal/bytealg.abigen_runtime_cmpstring"], unfollowed := true, recurses := true, apart := false, narrowed := true }
def MessageParsesUptoSaid : Prop := messageParsesUptoRow.holds Try.pinned (OpenSpec.upto messageParsesSpec)

/-- 'cocketlaw07.MessagePrints', WHERE WHAT IT READS IS OF BULK AT MOST 1048576: true; the input reads as it did. -/
def messagePrintsUptoRow : OpenClaim := { program := "ytkijaalhbloehaa", sum := "eb7520ddd88ef0bb91b0176e9eb6cf123cb0af6a5a51eb7e66e2f0b3b726407b", func := "cocket/cocketlaw07.MessagePrints", spec := "messagePrints", inPlace := ["internal/bytealg.abigen_runtime_cmpstring"], unfollowed := true, recurses := true, apart := false, narrowed := true }
def MessagePrintsUptoSaid : Prop := messagePrintsUptoRow.holds Try.pinned (OpenSpec.upto messagePrintsSpec)

/-- 'cocketlaw07.MessageLimits', WHERE WHAT IT READS IS OF BULK AT MOST 1048576: true; the input reads as it did. -/
def messageLimitsUptoRow : OpenClaim := { program := "ytkijaalhbloehaa", sum := "eb7520ddd88ef0bb91b0176e9eb6cf123cb0af6a5a51eb7e66e2f0b3b726407b", func := "cocket/cocketlaw07.MessageLimits", spec := "messageLimits", inPlace := ["internal/bytealg.abigen_runtime_cmpstring"], unfollowed := true, recurses := true, apart := false, narrowed := true }
def MessageLimitsUptoSaid : Prop := messageLimitsUptoRow.holds Try.pinned (OpenSpec.upto messageLimitsSpec)

/-- 'cocketlaw07.MessageBack', WHERE WHAT IT READS IS OF BULK AT MOST 1048576: true; the input reads as it did. -/
def messageBackUptoRow : OpenClaim := { program := "ytkijaalhbloehaa", sum := "eb7520ddd88ef0bb91b0176e9eb6cf123cb0af6a5a51eb7e66e2f0b3b726407b", func := "cocket/cocketlaw07.MessageBack", spec := "messageBack", inPlace := ["internal/bytealg.abigen_runtime_cmpstring"], unfollowed := true, recurses := true, apart := false, narrowed := true }
def MessageBackUptoSaid : Prop := messageBackUptoRow.holds Try.pinned (OpenSpec.upto messageBackSpec)

/-- 'cocketlaw07.MessageFeeds', WHERE WHAT IT READS IS OF BULK AT MOST 1048576: true; the input reads as it did. -/
def messageFeedsUptoRow : OpenClaim := { program := "ytkijaalhbloehaa", sum := "eb7520ddd88ef0bb91b0176e9eb6cf123cb0af6a5a51eb7e66e2f0b3b726407b", func := "cocket/cocketlaw07.MessageFeeds", spec := "messageFeeds", inPlace := ["internal/bytealg.abigen_runtime_cmpstring"], unfollowed := true, recurses := true, apart := false, narrowed := true }
def MessageFeedsUptoSaid : Prop := messageFeedsUptoRow.holds Try.pinned (OpenSpec.upto messageFeedsSpec)

end Rows
end Go.Proofs.Ytkijaalhbloehaa
