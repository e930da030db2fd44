/-
  DERIVED. GIVEN WITH THE SEED: THE CARDS: each row of YtimbciadadjhiaaDoorRows.lean that lists a variable, with what it lists TIED to the program's text (the seventh form; the later family's looks); each row that meets fmt, with fmt's text TOLD by the authors' own Lean function (tested against real Go, not proved from fmt's source: count such statements apart). THE CARD IS WHAT COUNTS. Prove the row's statement (the work); the ties are given (YtimbciadadjhiaaDoorTie.lean); close each card by the builder's one call (the guide's Derived/Test/ToyasCard.lean, 'card_holds'). Laid BY PROGRAM, IN A SANDBOX (cutbox-door.mjs). By AI agents, Wed Nov 11 2026. No macro, syntax, notation, axiom, sorry.
-/
import Derived.Test.YtimbciadadjhiaaDoorRows
import GoSem.ClaimSeven
namespace Go.Proofs.YtimbciadadjhiaaDoor
namespace Rows

/-- THE TIED CARD OF 'cocketlaw01.RateChanges'. -/
def rateChangesCard : Claim7 := { stood := { row := rateChangesRow, standIns := [], harness := (true, "3c82ad72e9fd9cb1831a50b3ea9f1c8d306c2bccb7e95255a4a6c68d3bece4a9"), looks := false }, kinds := [], alts := [], laidByText := true, laidKinds := [.data], laidTests := true, laidLooks := .later }
def RateChangesCardSaid : Prop := Claim7.holds Tryd.pinned (.plain (OpenSpec.ofChange rateChangesSpec)) rateChangesCard

/-- THE SECOND FORM's CARD OF 'cocketlaw01.RateChanges'. -/
def rateChangesUptoCard : Claim7 := { stood := { row := rateChangesUptoRow, standIns := [], harness := (true, "3c82ad72e9fd9cb1831a50b3ea9f1c8d306c2bccb7e95255a4a6c68d3bece4a9"), looks := false }, kinds := [], alts := [], laidByText := true, laidKinds := [.data], laidTests := true, laidLooks := .later }
def RateChangesUptoCardSaid : Prop := Claim7.holds Tryd.pinned (.plain (OpenSpec.upto rateChangesSpec)) rateChangesUptoCard
end Rows
end Go.Proofs.YtimbciadadjhiaaDoor
