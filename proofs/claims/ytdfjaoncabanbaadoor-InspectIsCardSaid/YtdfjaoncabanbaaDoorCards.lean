/-
  DERIVED. GIVEN WITH THE SEED: THE CARDS: each row of YtdfjaoncabanbaaDoorRows.lean that lists a variable, with what it lists TIED to the program's text (the seventh form; the later family's looks); each row that meets fmt, with fmt's text TOLD by the authors' own Lean function (tested against real Go, not proved from fmt's source: count such statements apart). THE CARD IS WHAT COUNTS. Prove the row's statement (the work); the ties are given (YtdfjaoncabanbaaDoorTie.lean); close each card by the builder's one call (the guide's Derived/Test/ToyasCard.lean, 'card_holds'). Laid BY PROGRAM, IN A SANDBOX (cutbox-door.mjs). By AI agents, Wed Nov 11 2026. No macro, syntax, notation, axiom, sorry.
-/
import Derived.Test.YtdfjaoncabanbaaDoorRows
import GoSem.ClaimSeven
namespace Go.Proofs.YtdfjaoncabanbaaDoor
namespace Rows

/-- THE TIED CARD OF 'cocketlaw06.InspectIs'. -/
def inspectIsCard : Claim7 := { stood := { row := inspectIsRow, standIns := [], harness := (true, "0f1b629965d71425f123d4108d891df6d257fe8741f2c5138c423d7f18584672"), looks := false }, kinds := [], alts := [], laidByText := true, laidKinds := [.data], laidTests := true, laidLooks := .later }
def InspectIsCardSaid : Prop := Claim7.holds Tryd.pinned (.plain (OpenSpec.ofChange inspectIsSpec)) inspectIsCard

/-- THE SECOND FORM's CARD OF 'cocketlaw06.InspectIs'. -/
def inspectIsUptoCard : Claim7 := { stood := { row := inspectIsUptoRow, standIns := [], harness := (true, "0f1b629965d71425f123d4108d891df6d257fe8741f2c5138c423d7f18584672"), looks := false }, kinds := [], alts := [], laidByText := true, laidKinds := [.data], laidTests := true, laidLooks := .later }
def InspectIsUptoCardSaid : Prop := Claim7.holds Tryd.pinned (.plain (OpenSpec.upto inspectIsSpec)) inspectIsUptoCard
end Rows
end Go.Proofs.YtdfjaoncabanbaaDoor
