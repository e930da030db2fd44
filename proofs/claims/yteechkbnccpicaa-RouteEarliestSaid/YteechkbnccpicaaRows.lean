/-
  No cell of these rows narrows 'for every input' (looked for: loops, veiled, ifaces, maps, wideKeys, modest, calm, conditions, laid).
  DERIVED. THE GIVEN ROWS OF THIS SEAT. 7 by the template 'for every input the law returns true; each argument reads behind the call as it read before'; 0 by the template 'total and deterministic' (their statements: YteechkbnccpicaaTotals.lean).
  GIVEN WITH THE SEED: the statements are not yours to turn. If you find one false, say at which input.
  Laid BY PROGRAM, IN A SANDBOX (cutbox-rows.mjs): the forced cells as the released guide's own fill.sh prints them over the translation e14497bc382e7e01… (all of the seat's roots in one cut). By AI agents, Wed Nov 11 2026. No macro, syntax, notation, axiom, sorry.
-/
import Derived.Test.YteechkbnccpicaaChecked
import GoSem.Claim
import GoSem.ClaimJoined
import GoSem.ClaimMapViews
import Derived.JoinedTies
import Derived.KernelRfl
namespace Go.Proofs.Yteechkbnccpicaa
/- THE CELL 'sum', in the pinned program and in every row, IS THE sha256 OF THE DUMP (.gsa) THAT YteechkbnccpicaaProg.lean LOADS. Nothing in Lean hashes anything: it is a label: what it is worth is what the hold of that sum in a sandbox is worth. -/
noncomputable def Try.pinned : Pinned := { name := "yteechkbnccpicaa", sum := "e14497bc382e7e01f12a30eafc3a87d43bac367bed4a6b3c7a21c6f0e178efdd", checked := Try.checked }
namespace Rows
def none {H : Type} : Left H := { results := [], args := [] }

/-- 'cocketlaw08.RouteEarliest': WHATEVER THE INPUT: true; the input reads as it did. -/
def routeEarliestSpec : ChangeSpec := { name := "routeEarliest", fn := fun _ => fun
  | [d1, d2, d3, d4, d5, d6] => { results := [.lit (.bool true)], args := [d1, d2, d3, d4, d5, d6] }
  | _ => none }
def routeEarliestRow : OpenClaim := { program := "yteechkbnccpicaa", sum := "e14497bc382e7e01f12a30eafc3a87d43bac367bed4a6b3c7a21c6f0e178efdd", func := "cocket/cocketlaw08.RouteEarliest", spec := "routeEarliest", unfollowed := true, recurses := true, apart := false }
def RouteEarliestSaid : Prop := routeEarliestRow.holds Try.pinned (OpenSpec.ofChange routeEarliestSpec)

/-- ITS FALSE NEIGHBOUR: 'it returns false'. Refute it at one input. -/
def routeEarliestWrong : ChangeSpec := { name := "routeEarliest", fn := fun _ => fun
  | [d1, d2, d3, d4, d5, d6] => { results := [.lit (.bool false)], args := [d1, d2, d3, d4, d5, d6] }
  | _ => none }
def RouteEarliestWrongFalsely : Prop := routeEarliestRow.holds Try.pinned (OpenSpec.ofChange routeEarliestWrong)

/-- 'cocketlaw08.RouteLatest': WHATEVER THE INPUT: true; the input reads as it did. -/
def routeLatestSpec : ChangeSpec := { name := "routeLatest", fn := fun _ => fun
  | [d1, d2, d3, d4, d5, d6] => { results := [.lit (.bool true)], args := [d1, d2, d3, d4, d5, d6] }
  | _ => none }
def routeLatestRow : OpenClaim := { program := "yteechkbnccpicaa", sum := "e14497bc382e7e01f12a30eafc3a87d43bac367bed4a6b3c7a21c6f0e178efdd", func := "cocket/cocketlaw08.RouteLatest", spec := "routeLatest", unfollowed := true, recurses := true, apart := false }
def RouteLatestSaid : Prop := routeLatestRow.holds Try.pinned (OpenSpec.ofChange routeLatestSpec)

/-- ITS FALSE NEIGHBOUR: 'it returns false'. Refute it at one input. -/
def routeLatestWrong : ChangeSpec := { name := "routeLatest", fn := fun _ => fun
  | [d1, d2, d3, d4, d5, d6] => { results := [.lit (.bool false)], args := [d1, d2, d3, d4, d5, d6] }
  | _ => none }
def RouteLatestWrongFalsely : Prop := routeLatestRow.holds Try.pinned (OpenSpec.ofChange routeLatestWrong)

/-- 'cocketlaw08.RouteIs': WHATEVER THE INPUT: true; the input reads as it did. -/
def routeIsSpec : ChangeSpec := { name := "routeIs", fn := fun _ => fun
  | [d1, d2, d3, d4, d5, d6, d7] => { results := [.lit (.bool true)], args := [d1, d2, d3, d4, d5, d6, d7] }
  | _ => none }
def routeIsRow : OpenClaim := { program := "yteechkbnccpicaa", sum := "e14497bc382e7e01f12a30eafc3a87d43bac367bed4a6b3c7a21c6f0e178efdd", func := "cocket/cocketlaw08.RouteIs", spec := "routeIs", unfollowed := true, recurses := true, apart := false }
def RouteIsSaid : Prop := routeIsRow.holds Try.pinned (OpenSpec.ofChange routeIsSpec)

/-- ITS FALSE NEIGHBOUR: 'it returns false'. Refute it at one input. -/
def routeIsWrong : ChangeSpec := { name := "routeIs", fn := fun _ => fun
  | [d1, d2, d3, d4, d5, d6, d7] => { results := [.lit (.bool false)], args := [d1, d2, d3, d4, d5, d6, d7] }
  | _ => none }
def RouteIsWrongFalsely : Prop := routeIsRow.holds Try.pinned (OpenSpec.ofChange routeIsWrong)

/-- 'cocketlaw08.RouteProfiles': WHATEVER THE INPUT: true; the input reads as it did. -/
def routeProfilesSpec : ChangeSpec := { name := "routeProfiles", fn := fun _ => fun
  | [d1, d2, d3, d4, d5] => { results := [.lit (.bool true)], args := [d1, d2, d3, d4, d5] }
  | _ => none }
def routeProfilesRow : OpenClaim := { program := "yteechkbnccpicaa", sum := "e14497bc382e7e01f12a30eafc3a87d43bac367bed4a6b3c7a21c6f0e178efdd", func := "cocket/cocketlaw08.RouteProfiles", spec := "routeProfiles", unfollowed := true, recurses := true, apart := false }
def RouteProfilesSaid : Prop := routeProfilesRow.holds Try.pinned (OpenSpec.ofChange routeProfilesSpec)

/-- ITS FALSE NEIGHBOUR: 'it returns false'. Refute it at one input. -/
def routeProfilesWrong : ChangeSpec := { name := "routeProfiles", fn := fun _ => fun
  | [d1, d2, d3, d4, d5] => { results := [.lit (.bool false)], args := [d1, d2, d3, d4, d5] }
  | _ => none }
def RouteProfilesWrongFalsely : Prop := routeProfilesRow.holds Try.pinned (OpenSpec.ofChange routeProfilesWrong)

/-- 'cocketlaw08.RouteLooks': WHATEVER THE INPUT: true; the input reads as it did. -/
def routeLooksSpec : ChangeSpec := { name := "routeLooks", fn := fun _ => fun
  | [d1, d2, d3, d4] => { results := [.lit (.bool true)], args := [d1, d2, d3, d4] }
  | _ => none }
def routeLooksRow : OpenClaim := { program := "yteechkbnccpicaa", sum := "e14497bc382e7e01f12a30eafc3a87d43bac367bed4a6b3c7a21c6f0e178efdd", func := "cocket/cocketlaw08.RouteLooks", spec := "routeLooks", unfollowed := true, recurses := true, apart := false }
def RouteLooksSaid : Prop := routeLooksRow.holds Try.pinned (OpenSpec.ofChange routeLooksSpec)

/-- ITS FALSE NEIGHBOUR: 'it returns false'. Refute it at one input. -/
def routeLooksWrong : ChangeSpec := { name := "routeLooks", fn := fun _ => fun
  | [d1, d2, d3, d4] => { results := [.lit (.bool false)], args := [d1, d2, d3, d4] }
  | _ => none }
def RouteLooksWrongFalsely : Prop := routeLooksRow.holds Try.pinned (OpenSpec.ofChange routeLooksWrong)

/-- 'cocketlaw08.RouteTrips': WHATEVER THE INPUT: true; the input reads as it did. -/
def routeTripsSpec : ChangeSpec := { name := "routeTrips", fn := fun _ => fun
  | [d1, d2, d3, d4, d5, d6] => { results := [.lit (.bool true)], args := [d1, d2, d3, d4, d5, d6] }
  | _ => none }
def routeTripsRow : OpenClaim := { program := "yteechkbnccpicaa", sum := "e14497bc382e7e01f12a30eafc3a87d43bac367bed4a6b3c7a21c6f0e178efdd", func := "cocket/cocketlaw08.RouteTrips", spec := "routeTrips", unfollowed := true, recurses := true, apart := false }
def RouteTripsSaid : Prop := routeTripsRow.holds Try.pinned (OpenSpec.ofChange routeTripsSpec)

/-- ITS FALSE NEIGHBOUR: 'it returns false'. Refute it at one input. -/
def routeTripsWrong : ChangeSpec := { name := "routeTrips", fn := fun _ => fun
  | [d1, d2, d3, d4, d5, d6] => { results := [.lit (.bool false)], args := [d1, d2, d3, d4, d5, d6] }
  | _ => none }
def RouteTripsWrongFalsely : Prop := routeTripsRow.holds Try.pinned (OpenSpec.ofChange routeTripsWrong)

/-- 'cocketlaw08.RouteLimit': WHATEVER THE INPUT: true; the input reads as it did. -/
def routeLimitSpec : ChangeSpec := { name := "routeLimit", fn := fun _ => fun
  | [d1, d2] => { results := [.lit (.bool true)], args := [d1, d2] }
  | _ => none }
def routeLimitRow : OpenClaim := { program := "yteechkbnccpicaa", sum := "e14497bc382e7e01f12a30eafc3a87d43bac367bed4a6b3c7a21c6f0e178efdd", func := "cocket/cocketlaw08.RouteLimit", spec := "routeLimit", unfollowed := true, recurses := true, apart := false }
def RouteLimitSaid : Prop := routeLimitRow.holds Try.pinned (OpenSpec.ofChange routeLimitSpec)

/-- ITS FALSE NEIGHBOUR: 'it returns false'. Refute it at one input. -/
def routeLimitWrong : ChangeSpec := { name := "routeLimit", fn := fun _ => fun
  | [d1, d2] => { results := [.lit (.bool false)], args := [d1, d2] }
  | _ => none }
def RouteLimitWrongFalsely : Prop := routeLimitRow.holds Try.pinned (OpenSpec.ofChange routeLimitWrong)

/- THE SECOND FORM. 'bulk': how many values and letters a reading holds, each counted each time it is reached (what is shared counts as often as it is met; a slice's spare places count too). A statement '..UptoSaid' is the law's where the arguments, and the package variables that the reading takes, are together of bulk at most 1048576: NARROWER than '..Said'. Prove '..Said' where nothing that the law and all that it calls make is longer than what came in: it says more and counts as full. Else prove '..UptoSaid'. A law counts once. -/
mutual
def uptoBulk {H : Type} : DataW H → Nat
  | .lit (.string bytes) => bytes.length + 1
  | .lit _ => 1
  | .nil => 1
  | .ptr d => uptoBulk d + 1
  | .slice elems spare => uptoBulkAll elems + uptoBulkAll spare + 1
  | .agg parts => uptoBulkAll parts + 1
  | .iface _ d => uptoBulk d + 1
  | .map entries => uptoBulkEntries entries + 1
  | .held _ => 1
def uptoBulkAll {H : Type} : List (DataW H) → Nat
  | [] => 0
  | d :: r => uptoBulk d + uptoBulkAll r
def uptoBulkEntries {H : Type} : List (Lit × DataW H) → Nat
  | [] => 0
  | x :: r => uptoBulkEntry x + uptoBulkEntries r
def uptoBulkEntry {H : Type} : Lit × DataW H → Nat
  | (.string bytes, d) => bytes.length + uptoBulk d + 1
  | (_, d) => uptoBulk d + 1
 end
def uptoSmall : (H : Type) → List (DataW H) → Bool := fun _ ds => decide (uptoBulkAll ds ≤ 1048576)
def OpenSpec.upto (s : _root_.Go.ChangeSpec) : _root_.Go.OpenSpec := { _root_.Go.OpenSpec.ofChange s with cond := some uptoSmall }

/-- 'cocketlaw08.RouteEarliest', WHERE WHAT IT READS IS OF BULK AT MOST 1048576: true; the input reads as it did. -/
def routeEarliestUptoRow : OpenClaim := { program := "yteechkbnccpicaa", sum := "e14497bc382e7e01f12a30eafc3a87d43bac367bed4a6b3c7a21c6f0e178efdd", func := "cocket/cocketlaw08.RouteEarliest", spec := "routeEarliest", unfollowed := true, recurses := true, apart := false, narrowed := true }
def RouteEarliestUptoSaid : Prop := routeEarliestUptoRow.holds Try.pinned (OpenSpec.upto routeEarliestSpec)

/-- 'cocketlaw08.RouteLatest', WHERE WHAT IT READS IS OF BULK AT MOST 1048576: true; the input reads as it did. -/
def routeLatestUptoRow : OpenClaim := { program := "yteechkbnccpicaa", sum := "e14497bc382e7e01f12a30eafc3a87d43bac367bed4a6b3c7a21c6f0e178efdd", func := "cocket/cocketlaw08.RouteLatest", spec := "routeLatest", unfollowed := true, recurses := true, apart := false, narrowed := true }
def RouteLatestUptoSaid : Prop := routeLatestUptoRow.holds Try.pinned (OpenSpec.upto routeLatestSpec)

/-- 'cocketlaw08.RouteIs', WHERE WHAT IT READS IS OF BULK AT MOST 1048576: true; the input reads as it did. -/
def routeIsUptoRow : OpenClaim := { program := "yteechkbnccpicaa", sum := "e14497bc382e7e01f12a30eafc3a87d43bac367bed4a6b3c7a21c6f0e178efdd", func := "cocket/cocketlaw08.RouteIs", spec := "routeIs", unfollowed := true, recurses := true, apart := false, narrowed := true }
def RouteIsUptoSaid : Prop := routeIsUptoRow.holds Try.pinned (OpenSpec.upto routeIsSpec)

/-- 'cocketlaw08.RouteProfiles', WHERE WHAT IT READS IS OF BULK AT MOST 1048576: true; the input reads as it did. -/
def routeProfilesUptoRow : OpenClaim := { program := "yteechkbnccpicaa", sum := "e14497bc382e7e01f12a30eafc3a87d43bac367bed4a6b3c7a21c6f0e178efdd", func := "cocket/cocketlaw08.RouteProfiles", spec := "routeProfiles", unfollowed := true, recurses := true, apart := false, narrowed := true }
def RouteProfilesUptoSaid : Prop := routeProfilesUptoRow.holds Try.pinned (OpenSpec.upto routeProfilesSpec)

/-- 'cocketlaw08.RouteLooks', WHERE WHAT IT READS IS OF BULK AT MOST 1048576: true; the input reads as it did. -/
def routeLooksUptoRow : OpenClaim := { program := "yteechkbnccpicaa", sum := "e14497bc382e7e01f12a30eafc3a87d43bac367bed4a6b3c7a21c6f0e178efdd", func := "cocket/cocketlaw08.RouteLooks", spec := "routeLooks", unfollowed := true, recurses := true, apart := false, narrowed := true }
def RouteLooksUptoSaid : Prop := routeLooksUptoRow.holds Try.pinned (OpenSpec.upto routeLooksSpec)

/-- 'cocketlaw08.RouteTrips', WHERE WHAT IT READS IS OF BULK AT MOST 1048576: true; the input reads as it did. -/
def routeTripsUptoRow : OpenClaim := { program := "yteechkbnccpicaa", sum := "e14497bc382e7e01f12a30eafc3a87d43bac367bed4a6b3c7a21c6f0e178efdd", func := "cocket/cocketlaw08.RouteTrips", spec := "routeTrips", unfollowed := true, recurses := true, apart := false, narrowed := true }
def RouteTripsUptoSaid : Prop := routeTripsUptoRow.holds Try.pinned (OpenSpec.upto routeTripsSpec)

/-- 'cocketlaw08.RouteLimit', WHERE WHAT IT READS IS OF BULK AT MOST 1048576: true; the input reads as it did. -/
def routeLimitUptoRow : OpenClaim := { program := "yteechkbnccpicaa", sum := "e14497bc382e7e01f12a30eafc3a87d43bac367bed4a6b3c7a21c6f0e178efdd", func := "cocket/cocketlaw08.RouteLimit", spec := "routeLimit", unfollowed := true, recurses := true, apart := false, narrowed := true }
def RouteLimitUptoSaid : Prop := routeLimitUptoRow.holds Try.pinned (OpenSpec.upto routeLimitSpec)

end Rows
end Go.Proofs.Yteechkbnccpicaa
