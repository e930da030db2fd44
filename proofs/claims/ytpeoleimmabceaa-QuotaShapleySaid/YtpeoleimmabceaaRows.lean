/-
  No cell of these rows narrows 'for every input' (looked for: loops, veiled, ifaces, maps, wideKeys, modest, calm, conditions, laid).
  DERIVED. THE GIVEN ROWS OF THIS SEAT. 7 by the template 'for every input the law returns true; each argument reads behind the call as it read before'; 0 by the template 'total and deterministic' (their statements: YtpeoleimmabceaaTotals.lean).
  GIVEN WITH THE SEED: the statements are not yours to turn. If you find one false, say at which input.
  Laid BY PROGRAM, IN A SANDBOX (cutbox-rows.mjs): the forced cells as the released guide's own fill.sh prints them over the translation 0dcda3c30fedd005… (all of the seat's roots in one cut). By AI agents, Wed Nov 11 2026. No macro, syntax, notation, axiom, sorry.
-/
import Derived.Test.YtpeoleimmabceaaChecked
import GoSem.Claim
import GoSem.ClaimJoined
import GoSem.ClaimMapViews
import Derived.JoinedTies
import Derived.KernelRfl
namespace Go.Proofs.Ytpeoleimmabceaa
/- THE CELL 'sum', in the pinned program and in every row, IS THE sha256 OF THE DUMP (.gsa) THAT YtpeoleimmabceaaProg.lean LOADS. Nothing in Lean hashes anything: it is a label: what it is worth is what the hold of that sum in a sandbox is worth. -/
noncomputable def Try.pinned : Pinned := { name := "ytpeoleimmabceaa", sum := "0dcda3c30fedd0056c8ac1a680a4d58c9a3621698b7bd2593c9ebed10912930b", checked := Try.checked }
namespace Rows
def none {H : Type} : Left H := { results := [], args := [] }

/-- 'cocketlaw05.QuotaRules': WHATEVER THE INPUT: true; the input reads as it did. -/
def quotaRulesSpec : ChangeSpec := { name := "quotaRules", fn := fun _ => fun
  | [d1, d2, d3] => { results := [.lit (.bool true)], args := [d1, d2, d3] }
  | _ => none }
def quotaRulesRow : OpenClaim := { program := "ytpeoleimmabceaa", sum := "0dcda3c30fedd0056c8ac1a680a4d58c9a3621698b7bd2593c9ebed10912930b", func := "cocket/cocketlaw05.QuotaRules", spec := "quotaRules", unfollowed := true, recurses := true, apart := false }
def QuotaRulesSaid : Prop := quotaRulesRow.holds Try.pinned (OpenSpec.ofChange quotaRulesSpec)

/-- ITS FALSE NEIGHBOUR: 'it returns false'. Refute it at one input. -/
def quotaRulesWrong : ChangeSpec := { name := "quotaRules", fn := fun _ => fun
  | [d1, d2, d3] => { results := [.lit (.bool false)], args := [d1, d2, d3] }
  | _ => none }
def QuotaRulesWrongFalsely : Prop := quotaRulesRow.holds Try.pinned (OpenSpec.ofChange quotaRulesWrong)

/-- 'cocketlaw05.QuotaGrows': WHATEVER THE INPUT: true; the input reads as it did. -/
def quotaGrowsSpec : ChangeSpec := { name := "quotaGrows", fn := fun _ => fun
  | [d1, d2, d3, d4] => { results := [.lit (.bool true)], args := [d1, d2, d3, d4] }
  | _ => none }
def quotaGrowsRow : OpenClaim := { program := "ytpeoleimmabceaa", sum := "0dcda3c30fedd0056c8ac1a680a4d58c9a3621698b7bd2593c9ebed10912930b", func := "cocket/cocketlaw05.QuotaGrows", spec := "quotaGrows", unfollowed := true, recurses := true, apart := false }
def QuotaGrowsSaid : Prop := quotaGrowsRow.holds Try.pinned (OpenSpec.ofChange quotaGrowsSpec)

/-- ITS FALSE NEIGHBOUR: 'it returns false'. Refute it at one input. -/
def quotaGrowsWrong : ChangeSpec := { name := "quotaGrows", fn := fun _ => fun
  | [d1, d2, d3, d4] => { results := [.lit (.bool false)], args := [d1, d2, d3, d4] }
  | _ => none }
def QuotaGrowsWrongFalsely : Prop := quotaGrowsRow.holds Try.pinned (OpenSpec.ofChange quotaGrowsWrong)

/-- 'cocketlaw05.QuotaDuals': WHATEVER THE INPUT: true; the input reads as it did. -/
def quotaDualsSpec : ChangeSpec := { name := "quotaDuals", fn := fun _ => fun
  | [d1, d2, d3] => { results := [.lit (.bool true)], args := [d1, d2, d3] }
  | _ => none }
def quotaDualsRow : OpenClaim := { program := "ytpeoleimmabceaa", sum := "0dcda3c30fedd0056c8ac1a680a4d58c9a3621698b7bd2593c9ebed10912930b", func := "cocket/cocketlaw05.QuotaDuals", spec := "quotaDuals", unfollowed := true, recurses := true, apart := false }
def QuotaDualsSaid : Prop := quotaDualsRow.holds Try.pinned (OpenSpec.ofChange quotaDualsSpec)

/-- ITS FALSE NEIGHBOUR: 'it returns false'. Refute it at one input. -/
def quotaDualsWrong : ChangeSpec := { name := "quotaDuals", fn := fun _ => fun
  | [d1, d2, d3] => { results := [.lit (.bool false)], args := [d1, d2, d3] }
  | _ => none }
def QuotaDualsWrongFalsely : Prop := quotaDualsRow.holds Try.pinned (OpenSpec.ofChange quotaDualsWrong)

/-- 'cocketlaw05.QuotaLeaves': WHATEVER THE INPUT: true; the input reads as it did. -/
def quotaLeavesSpec : ChangeSpec := { name := "quotaLeaves", fn := fun _ => fun
  | [d1, d2, d3, d4] => { results := [.lit (.bool true)], args := [d1, d2, d3, d4] }
  | _ => none }
def quotaLeavesRow : OpenClaim := { program := "ytpeoleimmabceaa", sum := "0dcda3c30fedd0056c8ac1a680a4d58c9a3621698b7bd2593c9ebed10912930b", func := "cocket/cocketlaw05.QuotaLeaves", spec := "quotaLeaves", unfollowed := true, recurses := true, apart := false }
def QuotaLeavesSaid : Prop := quotaLeavesRow.holds Try.pinned (OpenSpec.ofChange quotaLeavesSpec)

/-- ITS FALSE NEIGHBOUR: 'it returns false'. Refute it at one input. -/
def quotaLeavesWrong : ChangeSpec := { name := "quotaLeaves", fn := fun _ => fun
  | [d1, d2, d3, d4] => { results := [.lit (.bool false)], args := [d1, d2, d3, d4] }
  | _ => none }
def QuotaLeavesWrongFalsely : Prop := quotaLeavesRow.holds Try.pinned (OpenSpec.ofChange quotaLeavesWrong)

/-- 'cocketlaw05.QuotaTalmud': WHATEVER THE INPUT: true; the input reads as it did. -/
def quotaTalmudSpec : ChangeSpec := { name := "quotaTalmud", fn := fun _ => fun
  | [d1, d2, d3] => { results := [.lit (.bool true)], args := [d1, d2, d3] }
  | _ => none }
def quotaTalmudRow : OpenClaim := { program := "ytpeoleimmabceaa", sum := "0dcda3c30fedd0056c8ac1a680a4d58c9a3621698b7bd2593c9ebed10912930b", func := "cocket/cocketlaw05.QuotaTalmud", spec := "quotaTalmud", unfollowed := true, recurses := true, apart := false }
def QuotaTalmudSaid : Prop := quotaTalmudRow.holds Try.pinned (OpenSpec.ofChange quotaTalmudSpec)

/-- ITS FALSE NEIGHBOUR: 'it returns false'. Refute it at one input. -/
def quotaTalmudWrong : ChangeSpec := { name := "quotaTalmud", fn := fun _ => fun
  | [d1, d2, d3] => { results := [.lit (.bool false)], args := [d1, d2, d3] }
  | _ => none }
def QuotaTalmudWrongFalsely : Prop := quotaTalmudRow.holds Try.pinned (OpenSpec.ofChange quotaTalmudWrong)

/-- 'cocketlaw05.QuotaCore': WHATEVER THE INPUT: true; the input reads as it did. -/
def quotaCoreSpec : ChangeSpec := { name := "quotaCore", fn := fun _ => fun
  | [d1, d2, d3] => { results := [.lit (.bool true)], args := [d1, d2, d3] }
  | _ => none }
def quotaCoreRow : OpenClaim := { program := "ytpeoleimmabceaa", sum := "0dcda3c30fedd0056c8ac1a680a4d58c9a3621698b7bd2593c9ebed10912930b", func := "cocket/cocketlaw05.QuotaCore", spec := "quotaCore", unfollowed := true, recurses := true, apart := false }
def QuotaCoreSaid : Prop := quotaCoreRow.holds Try.pinned (OpenSpec.ofChange quotaCoreSpec)

/-- ITS FALSE NEIGHBOUR: 'it returns false'. Refute it at one input. -/
def quotaCoreWrong : ChangeSpec := { name := "quotaCore", fn := fun _ => fun
  | [d1, d2, d3] => { results := [.lit (.bool false)], args := [d1, d2, d3] }
  | _ => none }
def QuotaCoreWrongFalsely : Prop := quotaCoreRow.holds Try.pinned (OpenSpec.ofChange quotaCoreWrong)

/-- 'cocketlaw05.QuotaShapley': WHATEVER THE INPUT: true; the input reads as it did. -/
def quotaShapleySpec : ChangeSpec := { name := "quotaShapley", fn := fun _ => fun
  | [d1, d2] => { results := [.lit (.bool true)], args := [d1, d2] }
  | _ => none }
def quotaShapleyRow : OpenClaim := { program := "ytpeoleimmabceaa", sum := "0dcda3c30fedd0056c8ac1a680a4d58c9a3621698b7bd2593c9ebed10912930b", func := "cocket/cocketlaw05.QuotaShapley", spec := "quotaShapley", unfollowed := true, recurses := true, apart := false }
def QuotaShapleySaid : Prop := quotaShapleyRow.holds Try.pinned (OpenSpec.ofChange quotaShapleySpec)

/-- ITS FALSE NEIGHBOUR: 'it returns false'. Refute it at one input. -/
def quotaShapleyWrong : ChangeSpec := { name := "quotaShapley", fn := fun _ => fun
  | [d1, d2] => { results := [.lit (.bool false)], args := [d1, d2] }
  | _ => none }
def QuotaShapleyWrongFalsely : Prop := quotaShapleyRow.holds Try.pinned (OpenSpec.ofChange quotaShapleyWrong)

/- THE SECOND FORM. 'bulk': how many values and letters a reading holds, each counted each time it is reached (what is shared counts as often as it is met; a slice's spare places count too). A statement '..UptoSaid' is the law's where the arguments, and the package variables that the reading takes, are together of bulk at most 1048576: NARROWER than '..Said'. Prove '..Said' where nothing that the law and all that it calls make is longer than what came in: it says more and counts as full. Else prove '..UptoSaid'. A law counts once. -/
mutual
def uptoBulk {H : Type} : DataW H → Nat
  | .lit (.string bytes) => bytes.length + 1
  | .lit _ => 1
  | .nil => 1
  | .ptr d => uptoBulk d + 1
  | .slice elems spare => uptoBulkAll elems + uptoBulkAll spare + 1
  | .agg parts => uptoBulkAll parts + 1
  | .iface _ d => uptoBulk d + 1
  | .map entries => uptoBulkEntries entries + 1
  | .held _ => 1
def uptoBulkAll {H : Type} : List (DataW H) → Nat
  | [] => 0
  | d :: r => uptoBulk d + uptoBulkAll r
def uptoBulkEntries {H : Type} : List (Lit × DataW H) → Nat
  | [] => 0
  | x :: r => uptoBulkEntry x + uptoBulkEntries r
def uptoBulkEntry {H : Type} : Lit × DataW H → Nat
  | (.string bytes, d) => bytes.length + uptoBulk d + 1
  | (_, d) => uptoBulk d + 1
 end
def uptoSmall : (H : Type) → List (DataW H) → Bool := fun _ ds => decide (uptoBulkAll ds ≤ 1048576)
def OpenSpec.upto (s : _root_.Go.ChangeSpec) : _root_.Go.OpenSpec := { _root_.Go.OpenSpec.ofChange s with cond := some uptoSmall }

/-- 'cocketlaw05.QuotaRules', WHERE WHAT IT READS IS OF BULK AT MOST 1048576: true; the input reads as it did. -/
def quotaRulesUptoRow : OpenClaim := { program := "ytpeoleimmabceaa", sum := "0dcda3c30fedd0056c8ac1a680a4d58c9a3621698b7bd2593c9ebed10912930b", func := "cocket/cocketlaw05.QuotaRules", spec := "quotaRules", unfollowed := true, recurses := true, apart := false, narrowed := true }
def QuotaRulesUptoSaid : Prop := quotaRulesUptoRow.holds Try.pinned (OpenSpec.upto quotaRulesSpec)

/-- 'cocketlaw05.QuotaGrows', WHERE WHAT IT READS IS OF BULK AT MOST 1048576: true; the input reads as it did. -/
def quotaGrowsUptoRow : OpenClaim := { program := "ytpeoleimmabceaa", sum := "0dcda3c30fedd0056c8ac1a680a4d58c9a3621698b7bd2593c9ebed10912930b", func := "cocket/cocketlaw05.QuotaGrows", spec := "quotaGrows", unfollowed := true, recurses := true, apart := false, narrowed := true }
def QuotaGrowsUptoSaid : Prop := quotaGrowsUptoRow.holds Try.pinned (OpenSpec.upto quotaGrowsSpec)

/-- 'cocketlaw05.QuotaDuals', WHERE WHAT IT READS IS OF BULK AT MOST 1048576: true; the input reads as it did. -/
def quotaDualsUptoRow : OpenClaim := { program := "ytpeoleimmabceaa", sum := "0dcda3c30fedd0056c8ac1a680a4d58c9a3621698b7bd2593c9ebed10912930b", func := "cocket/cocketlaw05.QuotaDuals", spec := "quotaDuals", unfollowed := true, recurses := true, apart := false, narrowed := true }
def QuotaDualsUptoSaid : Prop := quotaDualsUptoRow.holds Try.pinned (OpenSpec.upto quotaDualsSpec)

/-- 'cocketlaw05.QuotaLeaves', WHERE WHAT IT READS IS OF BULK AT MOST 1048576: true; the input reads as it did. -/
def quotaLeavesUptoRow : OpenClaim := { program := "ytpeoleimmabceaa", sum := "0dcda3c30fedd0056c8ac1a680a4d58c9a3621698b7bd2593c9ebed10912930b", func := "cocket/cocketlaw05.QuotaLeaves", spec := "quotaLeaves", unfollowed := true, recurses := true, apart := false, narrowed := true }
def QuotaLeavesUptoSaid : Prop := quotaLeavesUptoRow.holds Try.pinned (OpenSpec.upto quotaLeavesSpec)

/-- 'cocketlaw05.QuotaTalmud', WHERE WHAT IT READS IS OF BULK AT MOST 1048576: true; the input reads as it did. -/
def quotaTalmudUptoRow : OpenClaim := { program := "ytpeoleimmabceaa", sum := "0dcda3c30fedd0056c8ac1a680a4d58c9a3621698b7bd2593c9ebed10912930b", func := "cocket/cocketlaw05.QuotaTalmud", spec := "quotaTalmud", unfollowed := true, recurses := true, apart := false, narrowed := true }
def QuotaTalmudUptoSaid : Prop := quotaTalmudUptoRow.holds Try.pinned (OpenSpec.upto quotaTalmudSpec)

/-- 'cocketlaw05.QuotaCore', WHERE WHAT IT READS IS OF BULK AT MOST 1048576: true; the input reads as it did. -/
def quotaCoreUptoRow : OpenClaim := { program := "ytpeoleimmabceaa", sum := "0dcda3c30fedd0056c8ac1a680a4d58c9a3621698b7bd2593c9ebed10912930b", func := "cocket/cocketlaw05.QuotaCore", spec := "quotaCore", unfollowed := true, recurses := true, apart := false, narrowed := true }
def QuotaCoreUptoSaid : Prop := quotaCoreUptoRow.holds Try.pinned (OpenSpec.upto quotaCoreSpec)

/-- 'cocketlaw05.QuotaShapley', WHERE WHAT IT READS IS OF BULK AT MOST 1048576: true; the input reads as it did. -/
def quotaShapleyUptoRow : OpenClaim := { program := "ytpeoleimmabceaa", sum := "0dcda3c30fedd0056c8ac1a680a4d58c9a3621698b7bd2593c9ebed10912930b", func := "cocket/cocketlaw05.QuotaShapley", spec := "quotaShapley", unfollowed := true, recurses := true, apart := false, narrowed := true }
def QuotaShapleyUptoSaid : Prop := quotaShapleyUptoRow.holds Try.pinned (OpenSpec.upto quotaShapleySpec)

end Rows
end Go.Proofs.Ytpeoleimmabceaa
