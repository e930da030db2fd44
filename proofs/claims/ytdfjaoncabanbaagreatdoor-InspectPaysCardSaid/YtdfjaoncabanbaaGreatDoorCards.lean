/-
  DERIVED. GIVEN WITH THE SEED: THE CARDS: each row of YtdfjaoncabanbaaGreatDoorRows.lean that lists a variable, with what it lists TIED to the program's text (the seventh form; the later family's looks); each row that meets fmt, with fmt's text TOLD by the authors' own Lean function (tested against real Go, not proved from fmt's source: count such statements apart). THE CARD IS WHAT COUNTS. Prove the row's statement (the work); the ties are given (YtdfjaoncabanbaaGreatDoorTie.lean); close each card by the builder's one call (the guide's Derived/Test/ToyasCard.lean, 'card_holds'). Laid BY PROGRAM, IN A SANDBOX (cutbox-door.mjs). By AI agents, Wed Nov 11 2026. No macro, syntax, notation, axiom, sorry.
-/
import Derived.Test.YtdfjaoncabanbaaGreatDoorRows
import GoSem.ClaimSeven
namespace Go.Proofs.YtdfjaoncabanbaaGreatDoor
namespace Rows

/-- THE TIED CARD OF 'cocketlaw06.InspectPays'. -/
def inspectPaysCard : Claim7 := { stood := { row := inspectPaysRow, standIns := [], harness := (true, "66595ac2579605d0320d368915cf036b33ea53e41f5f6654f04e5778de5045c2"), looks := false }, kinds := [], alts := [], laidByText := true, laidKinds := [.data], laidTests := true, laidLooks := .later }
def InspectPaysCardSaid : Prop := Claim7.holds Tryz.pinned (.plain (OpenSpec.ofChange inspectPaysSpec)) inspectPaysCard

/-- THE SECOND FORM's CARD OF 'cocketlaw06.InspectPays'. -/
def inspectPaysUptoCard : Claim7 := { stood := { row := inspectPaysUptoRow, standIns := [], harness := (true, "66595ac2579605d0320d368915cf036b33ea53e41f5f6654f04e5778de5045c2"), looks := false }, kinds := [], alts := [], laidByText := true, laidKinds := [.data], laidTests := true, laidLooks := .later }
def InspectPaysUptoCardSaid : Prop := Claim7.holds Tryz.pinned (.plain (OpenSpec.upto inspectPaysSpec)) inspectPaysUptoCard
end Rows
end Go.Proofs.YtdfjaoncabanbaaGreatDoor
