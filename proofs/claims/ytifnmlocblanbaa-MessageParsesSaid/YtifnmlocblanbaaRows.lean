/-
  No cell of these rows narrows 'for every input' (looked for: loops, veiled, ifaces, maps, wideKeys, modest, calm, conditions, laid).
  DERIVED. THE GIVEN ROWS OF THIS SEAT. 3 by the template 'for every input the law returns true; each argument reads behind the call as it read before'; 0 by the template 'total and deterministic' (their statements: YtifnmlocblanbaaTotals.lean).
  GIVEN WITH THE SEED: the statements are not yours to turn. If you find one false, say at which input.
  Laid BY PROGRAM, IN A SANDBOX (cutbox-rows.mjs): the forced cells as the released guide's own fill.sh prints them over the translation fb6512afcff3a589… (all of the seat's roots in one cut). By AI agents, Wed Nov 11 2026. No macro, syntax, notation, axiom, sorry.
-/
import Derived.Test.YtifnmlocblanbaaChecked
import GoSem.Claim
import GoSem.ClaimJoined
import GoSem.ClaimMapViews
import Derived.JoinedTies
import Derived.KernelRfl
namespace Go.Proofs.Ytifnmlocblanbaa
/- THE CELL 'sum', in the pinned program and in every row, IS THE sha256 OF THE DUMP (.gsa) THAT YtifnmlocblanbaaProg.lean LOADS. Nothing in Lean hashes anything: it is a label: what it is worth is what the hold of that sum in a sandbox is worth. -/
noncomputable def Try.pinned : Pinned := { name := "ytifnmlocblanbaa", sum := "fb6512afcff3a5895c01fc84bd421175a12613cb3c2f28a7080021b039ad9223", checked := Try.checked }
namespace Rows
def none {H : Type} : Left H := { results := [], args := [] }

/-- 'cocketlaw07.MessageParses': WHATEVER THE INPUT: true; the input reads as it did. -/
def messageParsesSpec : ChangeSpec := { name := "messageParses", fn := fun _ => fun
  | [d] => { results := [.lit (.bool true)], args := [d] }
  | _ => none }
def messageParsesRow : OpenClaim := { program := "ytifnmlocblanbaa", sum := "fb6512afcff3a5895c01fc84bd421175a12613cb3c2f28a7080021b039ad9223", func := "cocket/cocketlaw07.MessageParses", spec := "messageParses", inPlace := ["internal/bytealg.abigen_runtime_cmpstring"], unfollowed := true, recurses := true, apart := false }
def MessageParsesSaid : Prop := messageParsesRow.holds Try.pinned (OpenSpec.ofChange messageParsesSpec)

/-- ITS FALSE NEIGHBOUR: 'it returns false'. Refute it at one input. -/
def messageParsesWrong : ChangeSpec := { name := "messageParses", fn := fun _ => fun
  | [d] => { results := [.lit (.bool false)], args := [d] }
  | _ => none }
def MessageParsesWrongFalsely : Prop := messageParsesRow.holds Try.pinned (OpenSpec.ofChange messageParsesWrong)

/-- 'cocketlaw07.MessageLimits': WHATEVER THE INPUT: true; the input reads as it did. -/
def messageLimitsSpec : ChangeSpec := { name := "messageLimits", fn := fun _ => fun
  | [d1, d2] => { results := [.lit (.bool true)], args := [d1, d2] }
  | _ => none }
def messageLimitsRow : OpenClaim := { program := "ytifnmlocblanbaa", sum := "fb6512afcff3a5895c01fc84bd421175a12613cb3c2f28a7080021b039ad9223", func := "cocket/cocketlaw07.MessageLimits", spec := "messageLimits", inPlace := ["internal/bytealg.abigen_runtime_cmpstring"], unfollowed := true, recurses := true, apart := false }
def MessageLimitsSaid : Prop := messageLimitsRow.holds Try.pinned (OpenSpec.ofChange messageLimitsSpec)

/-- ITS FALSE NEIGHBOUR: 'it returns false'. Refute it at one input. -/
def messageLimitsWrong : ChangeSpec := { name := "messageLimits", fn := fun _ => fun
  | [d1, d2] => { results := [.lit (.bool false)], args := [d1, d2] }
  | _ => none }
def MessageLimitsWrongFalsely : Prop := messageLimitsRow.holds Try.pinned (OpenSpec.ofChange messageLimitsWrong)

/-- 'cocketlaw07.MessageFeeds': WHATEVER THE INPUT: true; the input reads as it did. -/
def messageFeedsSpec : ChangeSpec := { name := "messageFeeds", fn := fun _ => fun
  | [d1, d2] => { results := [.lit (.bool true)], args := [d1, d2] }
  | _ => none }
def messageFeedsRow : OpenClaim := { program := "ytifnmlocblanbaa", sum := "fb6512afcff3a5895c01fc84bd421175a12613cb3c2f28a7080021b039ad9223", func := "cocket/cocketlaw07.MessageFeeds", spec := "messageFeeds", inPlace := ["internal/bytealg.abigen_runtime_cmpstring"], unfollowed := true, recurses := true, apart := false }
def MessageFeedsSaid : Prop := messageFeedsRow.holds Try.pinned (OpenSpec.ofChange messageFeedsSpec)

/-- ITS FALSE NEIGHBOUR: 'it returns false'. Refute it at one input. -/
def messageFeedsWrong : ChangeSpec := { name := "messageFeeds", fn := fun _ => fun
  | [d1, d2] => { results := [.lit (.bool false)], args := [d1, d2] }
  | _ => none }
def MessageFeedsWrongFalsely : Prop := messageFeedsRow.holds Try.pinned (OpenSpec.ofChange messageFeedsWrong)

/- THE SECOND FORM. 'bulk': how many values and letters a reading holds, each counted each time it is reached (what is shared counts as often as it is met; a slice's spare places count too). A statement '..UptoSaid' is the law's where the arguments, and the package variables that the reading takes, are together of bulk at most 1048576: NARROWER than '..Said'. Prove '..Said' where nothing that the law and all that it calls make is longer than what came in: it says more and counts as full. Else prove '..UptoSaid'. A law counts once. -/
mutual
def uptoBulk {H : Type} : DataW H → Nat
  | .lit (.string bytes) => bytes.length + 1
  | .lit _ => 1
  | .nil => 1
  | .ptr d => uptoBulk d + 1
  | .slice elems spare => uptoBulkAll elems + uptoBulkAll spare + 1
  | .agg parts => uptoBulkAll parts + 1
  | .iface _ d => uptoBulk d + 1
  | .map entries => uptoBulkEntries entries + 1
  | .held _ => 1
def uptoBulkAll {H : Type} : List (DataW H) → Nat
  | [] => 0
  | d :: r => uptoBulk d + uptoBulkAll r
def uptoBulkEntries {H : Type} : List (Lit × DataW H) → Nat
  | [] => 0
  | x :: r => uptoBulkEntry x + uptoBulkEntries r
def uptoBulkEntry {H : Type} : Lit × DataW H → Nat
  | (.string bytes, d) => bytes.length + uptoBulk d + 1
  | (_, d) => uptoBulk d + 1
 end
def uptoSmall : (H : Type) → List (DataW H) → Bool := fun _ ds => decide (uptoBulkAll ds ≤ 1048576)
def OpenSpec.upto (s : _root_.Go.ChangeSpec) : _root_.Go.OpenSpec := { _root_.Go.OpenSpec.ofChange s with cond := some uptoSmall }

/-- 'cocketlaw07.MessageParses', WHERE WHAT IT READS IS OF BULK AT MOST 1048576: true; the input reads as it did. -/
def messageParsesUptoRow : OpenClaim := { program := "ytifnmlocblanbaa", sum := "fb6512afcff3a5895c01fc84bd421175a12613cb3c2f28a7080021b039ad9223", func := "cocket/cocketlaw07.MessageParses", spec := "messageParses", inPlace := ["internal/bytealg.abigen_runtime_cmpstring"], unfollowed := true, recurses := true, apart := false, narrowed := true }
def MessageParsesUptoSaid : Prop := messageParsesUptoRow.holds Try.pinned (OpenSpec.upto messageParsesSpec)

/-- 'cocketlaw07.MessageLimits', WHERE WHAT IT READS IS OF BULK AT MOST 1048576: true; the input reads as it did. -/
def messageLimitsUptoRow : OpenClaim := { program := "ytifnmlocblanbaa", sum := "fb6512afcff3a5895c01fc84bd421175a12613cb3c2f28a7080021b039ad9223", func := "cocket/cocketlaw07.MessageLimits", spec := "messageLimits", inPlace := ["internal/bytealg.abigen_runtime_cmpstring"], unfollowed := true, recurses := true, apart := false, narrowed := true }
def MessageLimitsUptoSaid : Prop := messageLimitsUptoRow.holds Try.pinned (OpenSpec.upto messageLimitsSpec)

/-- 'cocketlaw07.MessageFeeds', WHERE WHAT IT READS IS OF BULK AT MOST 1048576: true; the input reads as it did. -/
def messageFeedsUptoRow : OpenClaim := { program := "ytifnmlocblanbaa", sum := "fb6512afcff3a5895c01fc84bd421175a12613cb3c2f28a7080021b039ad9223", func := "cocket/cocketlaw07.MessageFeeds", spec := "messageFeeds", inPlace := ["internal/bytealg.abigen_runtime_cmpstring"], unfollowed := true, recurses := true, apart := false, narrowed := true }
def MessageFeedsUptoSaid : Prop := messageFeedsUptoRow.holds Try.pinned (OpenSpec.upto messageFeedsSpec)

end Rows
end Go.Proofs.Ytifnmlocblanbaa
