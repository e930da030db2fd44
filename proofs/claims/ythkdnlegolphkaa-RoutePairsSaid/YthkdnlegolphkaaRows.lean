/-
  No cell of these rows narrows 'for every input' (looked for: loops, veiled, ifaces, maps, wideKeys, modest, calm, conditions, laid).
  DERIVED. THE GIVEN ROWS OF THIS SEAT. 6 by the template 'for every input the law returns true; each argument reads behind the call as it read before'; 0 by the template 'total and deterministic' (their statements: YthkdnlegolphkaaTotals.lean).
  GIVEN WITH THE SEED: the statements are not yours to turn. If you find one false, say at which input.
  Laid BY PROGRAM, IN A SANDBOX (cutbox-rows.mjs): the forced cells as the released guide's own fill.sh prints them over the translation 024934451032a584… (all of the seat's roots in one cut). By AI agents, Wed Nov 11 2026. No macro, syntax, notation, axiom, sorry.
-/
import Derived.Test.YthkdnlegolphkaaChecked
import GoSem.Claim
import GoSem.ClaimJoined
import GoSem.ClaimMapViews
import Derived.JoinedTies
import Derived.KernelRfl
namespace Go.Proofs.Ythkdnlegolphkaa
/- THE CELL 'sum', in the pinned program and in every row, IS THE sha256 OF THE DUMP (.gsa) THAT YthkdnlegolphkaaProg.lean LOADS. Nothing in Lean hashes anything: it is a label: what it is worth is what the hold of that sum in a sandbox is worth. -/
noncomputable def Try.pinned : Pinned := { name := "ythkdnlegolphkaa", sum := "024934451032a58409044f53d9ef4caa8fad799ce9718f72b10ae90033a653db", checked := Try.checked }
namespace Rows
def none {H : Type} : Left H := { results := [], args := [] }

/-- 'cocketlaw08.RouteJourneys': WHATEVER THE INPUT: true; the input reads as it did. -/
def routeJourneysSpec : ChangeSpec := { name := "routeJourneys", fn := fun _ => fun
  | [d1, d2, d3, d4, d5, d6, d7] => { results := [.lit (.bool true)], args := [d1, d2, d3, d4, d5, d6, d7] }
  | _ => none }
def routeJourneysRow : OpenClaim := { program := "ythkdnlegolphkaa", sum := "024934451032a58409044f53d9ef4caa8fad799ce9718f72b10ae90033a653db", func := "cocket/cocketlaw08.RouteJourneys", spec := "routeJourneys", unfollowed := true, recurses := true, apart := false }
def RouteJourneysSaid : Prop := routeJourneysRow.holds Try.pinned (OpenSpec.ofChange routeJourneysSpec)

/-- ITS FALSE NEIGHBOUR: 'it returns false'. Refute it at one input. -/
def routeJourneysWrong : ChangeSpec := { name := "routeJourneys", fn := fun _ => fun
  | [d1, d2, d3, d4, d5, d6, d7] => { results := [.lit (.bool false)], args := [d1, d2, d3, d4, d5, d6, d7] }
  | _ => none }
def RouteJourneysWrongFalsely : Prop := routeJourneysRow.holds Try.pinned (OpenSpec.ofChange routeJourneysWrong)

/-- 'cocketlaw08.RouteFirst': WHATEVER THE INPUT: true; the input reads as it did. -/
def routeFirstSpec : ChangeSpec := { name := "routeFirst", fn := fun _ => fun
  | [d1, d2, d3, d4, d5, d6, d7] => { results := [.lit (.bool true)], args := [d1, d2, d3, d4, d5, d6, d7] }
  | _ => none }
def routeFirstRow : OpenClaim := { program := "ythkdnlegolphkaa", sum := "024934451032a58409044f53d9ef4caa8fad799ce9718f72b10ae90033a653db", func := "cocket/cocketlaw08.RouteFirst", spec := "routeFirst", unfollowed := true, recurses := true, apart := false }
def RouteFirstSaid : Prop := routeFirstRow.holds Try.pinned (OpenSpec.ofChange routeFirstSpec)

/-- ITS FALSE NEIGHBOUR: 'it returns false'. Refute it at one input. -/
def routeFirstWrong : ChangeSpec := { name := "routeFirst", fn := fun _ => fun
  | [d1, d2, d3, d4, d5, d6, d7] => { results := [.lit (.bool false)], args := [d1, d2, d3, d4, d5, d6, d7] }
  | _ => none }
def RouteFirstWrongFalsely : Prop := routeFirstRow.holds Try.pinned (OpenSpec.ofChange routeFirstWrong)

/-- 'cocketlaw08.RouteThrough': WHATEVER THE INPUT: true; the input reads as it did. -/
def routeThroughSpec : ChangeSpec := { name := "routeThrough", fn := fun _ => fun
  | [d1, d2, d3, d4, d5, d6, d7] => { results := [.lit (.bool true)], args := [d1, d2, d3, d4, d5, d6, d7] }
  | _ => none }
def routeThroughRow : OpenClaim := { program := "ythkdnlegolphkaa", sum := "024934451032a58409044f53d9ef4caa8fad799ce9718f72b10ae90033a653db", func := "cocket/cocketlaw08.RouteThrough", spec := "routeThrough", unfollowed := true, recurses := true, apart := false }
def RouteThroughSaid : Prop := routeThroughRow.holds Try.pinned (OpenSpec.ofChange routeThroughSpec)

/-- ITS FALSE NEIGHBOUR: 'it returns false'. Refute it at one input. -/
def routeThroughWrong : ChangeSpec := { name := "routeThrough", fn := fun _ => fun
  | [d1, d2, d3, d4, d5, d6, d7] => { results := [.lit (.bool false)], args := [d1, d2, d3, d4, d5, d6, d7] }
  | _ => none }
def RouteThroughWrongFalsely : Prop := routeThroughRow.holds Try.pinned (OpenSpec.ofChange routeThroughWrong)

/-- 'cocketlaw08.RouteTurned': WHATEVER THE INPUT: true; the input reads as it did. -/
def routeTurnedSpec : ChangeSpec := { name := "routeTurned", fn := fun _ => fun
  | [d1, d2, d3, d4, d5, d6] => { results := [.lit (.bool true)], args := [d1, d2, d3, d4, d5, d6] }
  | _ => none }
def routeTurnedRow : OpenClaim := { program := "ythkdnlegolphkaa", sum := "024934451032a58409044f53d9ef4caa8fad799ce9718f72b10ae90033a653db", func := "cocket/cocketlaw08.RouteTurned", spec := "routeTurned", unfollowed := true, recurses := true, apart := false }
def RouteTurnedSaid : Prop := routeTurnedRow.holds Try.pinned (OpenSpec.ofChange routeTurnedSpec)

/-- ITS FALSE NEIGHBOUR: 'it returns false'. Refute it at one input. -/
def routeTurnedWrong : ChangeSpec := { name := "routeTurned", fn := fun _ => fun
  | [d1, d2, d3, d4, d5, d6] => { results := [.lit (.bool false)], args := [d1, d2, d3, d4, d5, d6] }
  | _ => none }
def RouteTurnedWrongFalsely : Prop := routeTurnedRow.holds Try.pinned (OpenSpec.ofChange routeTurnedWrong)

/-- 'cocketlaw08.RouteMore': WHATEVER THE INPUT: true; the input reads as it did. -/
def routeMoreSpec : ChangeSpec := { name := "routeMore", fn := fun _ => fun
  | [d1, d2, d3, d4, d5, d6, d7] => { results := [.lit (.bool true)], args := [d1, d2, d3, d4, d5, d6, d7] }
  | _ => none }
def routeMoreRow : OpenClaim := { program := "ythkdnlegolphkaa", sum := "024934451032a58409044f53d9ef4caa8fad799ce9718f72b10ae90033a653db", func := "cocket/cocketlaw08.RouteMore", spec := "routeMore", unfollowed := true, recurses := true, apart := false }
def RouteMoreSaid : Prop := routeMoreRow.holds Try.pinned (OpenSpec.ofChange routeMoreSpec)

/-- ITS FALSE NEIGHBOUR: 'it returns false'. Refute it at one input. -/
def routeMoreWrong : ChangeSpec := { name := "routeMore", fn := fun _ => fun
  | [d1, d2, d3, d4, d5, d6, d7] => { results := [.lit (.bool false)], args := [d1, d2, d3, d4, d5, d6, d7] }
  | _ => none }
def RouteMoreWrongFalsely : Prop := routeMoreRow.holds Try.pinned (OpenSpec.ofChange routeMoreWrong)

/-- 'cocketlaw08.RoutePairs': WHATEVER THE INPUT: true; the input reads as it did. -/
def routePairsSpec : ChangeSpec := { name := "routePairs", fn := fun _ => fun
  | [d1, d2, d3, d4, d5, d6] => { results := [.lit (.bool true)], args := [d1, d2, d3, d4, d5, d6] }
  | _ => none }
def routePairsRow : OpenClaim := { program := "ythkdnlegolphkaa", sum := "024934451032a58409044f53d9ef4caa8fad799ce9718f72b10ae90033a653db", func := "cocket/cocketlaw08.RoutePairs", spec := "routePairs", unfollowed := true, recurses := true, apart := false }
def RoutePairsSaid : Prop := routePairsRow.holds Try.pinned (OpenSpec.ofChange routePairsSpec)

/-- ITS FALSE NEIGHBOUR: 'it returns false'. Refute it at one input. -/
def routePairsWrong : ChangeSpec := { name := "routePairs", fn := fun _ => fun
  | [d1, d2, d3, d4, d5, d6] => { results := [.lit (.bool false)], args := [d1, d2, d3, d4, d5, d6] }
  | _ => none }
def RoutePairsWrongFalsely : Prop := routePairsRow.holds Try.pinned (OpenSpec.ofChange routePairsWrong)

/- THE SECOND FORM. 'bulk': how many values and letters a reading holds, each counted each time it is reached (what is shared counts as often as it is met; a slice's spare places count too). A statement '..UptoSaid' is the law's where the arguments, and the package variables that the reading takes, are together of bulk at most 1048576: NARROWER than '..Said'. Prove '..Said' where nothing that the law and all that it calls make is longer than what came in: it says more and counts as full. Else prove '..UptoSaid'. A law counts once. -/
mutual
def uptoBulk {H : Type} : DataW H → Nat
  | .lit (.string bytes) => bytes.length + 1
  | .lit _ => 1
  | .nil => 1
  | .ptr d => uptoBulk d + 1
  | .slice elems spare => uptoBulkAll elems + uptoBulkAll spare + 1
  | .agg parts => uptoBulkAll parts + 1
  | .iface _ d => uptoBulk d + 1
  | .map entries => uptoBulkEntries entries + 1
  | .held _ => 1
def uptoBulkAll {H : Type} : List (DataW H) → Nat
  | [] => 0
  | d :: r => uptoBulk d + uptoBulkAll r
def uptoBulkEntries {H : Type} : List (Lit × DataW H) → Nat
  | [] => 0
  | x :: r => uptoBulkEntry x + uptoBulkEntries r
def uptoBulkEntry {H : Type} : Lit × DataW H → Nat
  | (.string bytes, d) => bytes.length + uptoBulk d + 1
  | (_, d) => uptoBulk d + 1
 end
def uptoSmall : (H : Type) → List (DataW H) → Bool := fun _ ds => decide (uptoBulkAll ds ≤ 1048576)
def OpenSpec.upto (s : _root_.Go.ChangeSpec) : _root_.Go.OpenSpec := { _root_.Go.OpenSpec.ofChange s with cond := some uptoSmall }

/-- 'cocketlaw08.RouteJourneys', WHERE WHAT IT READS IS OF BULK AT MOST 1048576: true; the input reads as it did. -/
def routeJourneysUptoRow : OpenClaim := { program := "ythkdnlegolphkaa", sum := "024934451032a58409044f53d9ef4caa8fad799ce9718f72b10ae90033a653db", func := "cocket/cocketlaw08.RouteJourneys", spec := "routeJourneys", unfollowed := true, recurses := true, apart := false, narrowed := true }
def RouteJourneysUptoSaid : Prop := routeJourneysUptoRow.holds Try.pinned (OpenSpec.upto routeJourneysSpec)

/-- 'cocketlaw08.RouteFirst', WHERE WHAT IT READS IS OF BULK AT MOST 1048576: true; the input reads as it did. -/
def routeFirstUptoRow : OpenClaim := { program := "ythkdnlegolphkaa", sum := "024934451032a58409044f53d9ef4caa8fad799ce9718f72b10ae90033a653db", func := "cocket/cocketlaw08.RouteFirst", spec := "routeFirst", unfollowed := true, recurses := true, apart := false, narrowed := true }
def RouteFirstUptoSaid : Prop := routeFirstUptoRow.holds Try.pinned (OpenSpec.upto routeFirstSpec)

/-- 'cocketlaw08.RouteThrough', WHERE WHAT IT READS IS OF BULK AT MOST 1048576: true; the input reads as it did. -/
def routeThroughUptoRow : OpenClaim := { program := "ythkdnlegolphkaa", sum := "024934451032a58409044f53d9ef4caa8fad799ce9718f72b10ae90033a653db", func := "cocket/cocketlaw08.RouteThrough", spec := "routeThrough", unfollowed := true, recurses := true, apart := false, narrowed := true }
def RouteThroughUptoSaid : Prop := routeThroughUptoRow.holds Try.pinned (OpenSpec.upto routeThroughSpec)

/-- 'cocketlaw08.RouteTurned', WHERE WHAT IT READS IS OF BULK AT MOST 1048576: true; the input reads as it did. -/
def routeTurnedUptoRow : OpenClaim := { program := "ythkdnlegolphkaa", sum := "024934451032a58409044f53d9ef4caa8fad799ce9718f72b10ae90033a653db", func := "cocket/cocketlaw08.RouteTurned", spec := "routeTurned", unfollowed := true, recurses := true, apart := false, narrowed := true }
def RouteTurnedUptoSaid : Prop := routeTurnedUptoRow.holds Try.pinned (OpenSpec.upto routeTurnedSpec)

/-- 'cocketlaw08.RouteMore', WHERE WHAT IT READS IS OF BULK AT MOST 1048576: true; the input reads as it did. -/
def routeMoreUptoRow : OpenClaim := { program := "ythkdnlegolphkaa", sum := "024934451032a58409044f53d9ef4caa8fad799ce9718f72b10ae90033a653db", func := "cocket/cocketlaw08.RouteMore", spec := "routeMore", unfollowed := true, recurses := true, apart := false, narrowed := true }
def RouteMoreUptoSaid : Prop := routeMoreUptoRow.holds Try.pinned (OpenSpec.upto routeMoreSpec)

/-- 'cocketlaw08.RoutePairs', WHERE WHAT IT READS IS OF BULK AT MOST 1048576: true; the input reads as it did. -/
def routePairsUptoRow : OpenClaim := { program := "ythkdnlegolphkaa", sum := "024934451032a58409044f53d9ef4caa8fad799ce9718f72b10ae90033a653db", func := "cocket/cocketlaw08.RoutePairs", spec := "routePairs", unfollowed := true, recurses := true, apart := false, narrowed := true }
def RoutePairsUptoSaid : Prop := routePairsUptoRow.holds Try.pinned (OpenSpec.upto routePairsSpec)

end Rows
end Go.Proofs.Ythkdnlegolphkaa
