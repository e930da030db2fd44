/-
  DERIVED. GIVEN WITH THE SEED: THE CARDS: each row of YtcmaipijkjillaaDoorRows.lean that lists a variable, with what it lists TIED to the program's text (the seventh form; the later family's looks); each row that meets fmt, with fmt's text TOLD by the authors' own Lean function (tested against real Go, not proved from fmt's source: count such statements apart). THE CARD IS WHAT COUNTS. Prove the row's statement (the work); the ties are given (YtcmaipijkjillaaDoorTie.lean); close each card by the builder's one call (the guide's Derived/Test/ToyasCard.lean, 'card_holds'). Laid BY PROGRAM, IN A SANDBOX (cutbox-door.mjs). By AI agents, Wed Nov 11 2026. No macro, syntax, notation, axiom, sorry.
-/
import Derived.Test.YtcmaipijkjillaaDoorRows
import GoSem.ClaimSeven
namespace Go.Proofs.YtcmaipijkjillaaDoor
namespace Rows

/-- THE TIED CARD OF 'cocketlaw01.RateChecks'. -/
def rateChecksCard : Claim7 := { stood := { row := rateChecksRow, standIns := [], harness := (true, "56bed2f3b8f35311d8df1a26f3b960c31abe6f2e6262cb0a93110c16d614da01"), looks := false }, kinds := [], alts := [], laidByText := true, laidKinds := [.data], laidTests := true, laidLooks := .later }
def RateChecksCardSaid : Prop := Claim7.holds Tryd.pinned (.plain (OpenSpec.ofChange rateChecksSpec)) rateChecksCard

/-- THE TIED CARD OF 'cocketlaw01.RateRounding'. -/
def rateRoundingCard : Claim7 := { stood := { row := rateRoundingRow, standIns := [], harness := (true, "56bed2f3b8f35311d8df1a26f3b960c31abe6f2e6262cb0a93110c16d614da01"), looks := false }, kinds := [], alts := [], laidByText := true, laidKinds := [.data], laidTests := true, laidLooks := .later }
def RateRoundingCardSaid : Prop := Claim7.holds Tryd.pinned (.plain (OpenSpec.ofChange rateRoundingSpec)) rateRoundingCard

/-- THE SECOND FORM's CARD OF 'cocketlaw01.RateChecks'. -/
def rateChecksUptoCard : Claim7 := { stood := { row := rateChecksUptoRow, standIns := [], harness := (true, "56bed2f3b8f35311d8df1a26f3b960c31abe6f2e6262cb0a93110c16d614da01"), looks := false }, kinds := [], alts := [], laidByText := true, laidKinds := [.data], laidTests := true, laidLooks := .later }
def RateChecksUptoCardSaid : Prop := Claim7.holds Tryd.pinned (.plain (OpenSpec.upto rateChecksSpec)) rateChecksUptoCard

/-- THE SECOND FORM's CARD OF 'cocketlaw01.RateRounding'. -/
def rateRoundingUptoCard : Claim7 := { stood := { row := rateRoundingUptoRow, standIns := [], harness := (true, "56bed2f3b8f35311d8df1a26f3b960c31abe6f2e6262cb0a93110c16d614da01"), looks := false }, kinds := [], alts := [], laidByText := true, laidKinds := [.data], laidTests := true, laidLooks := .later }
def RateRoundingUptoCardSaid : Prop := Claim7.holds Tryd.pinned (.plain (OpenSpec.upto rateRoundingSpec)) rateRoundingUptoCard
end Rows
end Go.Proofs.YtcmaipijkjillaaDoor
