/-
  DERIVED. GIVEN WITH THE SEED: THE CARDS: each row of YtnbhjbelgmkpeaaDoorRows.lean that lists a variable, with what it lists TIED to the program's text (the seventh form; the later family's looks); each row that meets fmt, with fmt's text TOLD by the authors' own Lean function (tested against real Go, not proved from fmt's source: count such statements apart). THE CARD IS WHAT COUNTS. Prove the row's statement (the work); the ties are given (YtnbhjbelgmkpeaaDoorTie.lean); close each card by the builder's one call (the guide's Derived/Test/ToyasCard.lean, 'card_holds'). Laid BY PROGRAM, IN A SANDBOX (cutbox-door.mjs). By AI agents, Wed Nov 11 2026. No macro, syntax, notation, axiom, sorry.
-/
import Derived.Test.YtnbhjbelgmkpeaaDoorRows
import GoSem.ClaimSeven
namespace Go.Proofs.YtnbhjbelgmkpeaaDoor
namespace Rows

/-- THE TIED CARD OF 'cocketlaw06.InspectIs'. -/
def inspectIsCard : Claim7 := { stood := { row := inspectIsRow, standIns := [], harness := (true, "c363d187ada2d6685941a0968452692e25a568cfe7c08f87a520490f3eb77644"), looks := false }, kinds := [], alts := [], laidByText := true, laidKinds := [.data], laidTests := true, laidLooks := .later }
def InspectIsCardSaid : Prop := Claim7.holds Tryd.pinned (.plain (OpenSpec.ofChange inspectIsSpec)) inspectIsCard

/-- THE TIED CARD OF 'cocketlaw06.InspectLeans'. -/
def inspectLeansCard : Claim7 := { stood := { row := inspectLeansRow, standIns := [], harness := (true, "c363d187ada2d6685941a0968452692e25a568cfe7c08f87a520490f3eb77644"), looks := false }, kinds := [], alts := [], laidByText := true, laidKinds := [.data], laidTests := true, laidLooks := .later }
def InspectLeansCardSaid : Prop := Claim7.holds Tryd.pinned (.plain (OpenSpec.ofChange inspectLeansSpec)) inspectLeansCard

/-- THE TIED CARD OF 'cocketlaw06.InspectDays'. -/
def inspectDaysCard : Claim7 := { stood := { row := inspectDaysRow, standIns := [], harness := (true, "c363d187ada2d6685941a0968452692e25a568cfe7c08f87a520490f3eb77644"), looks := false }, kinds := [], alts := [], laidByText := true, laidKinds := [.data], laidTests := true, laidLooks := .later }
def InspectDaysCardSaid : Prop := Claim7.holds Tryd.pinned (.plain (OpenSpec.ofChange inspectDaysSpec)) inspectDaysCard

/-- THE TIED CARD OF 'cocketlaw06.InspectDresher'. -/
def inspectDresherCard : Claim7 := { stood := { row := inspectDresherRow, standIns := [], harness := (true, "c363d187ada2d6685941a0968452692e25a568cfe7c08f87a520490f3eb77644"), looks := false }, kinds := [], alts := [], laidByText := true, laidKinds := [.data], laidTests := true, laidLooks := .later }
def InspectDresherCardSaid : Prop := Claim7.holds Tryd.pinned (.plain (OpenSpec.ofChange inspectDresherSpec)) inspectDresherCard

/-- THE TIED CARD OF 'cocketlaw06.InspectMore'. -/
def inspectMoreCard : Claim7 := { stood := { row := inspectMoreRow, standIns := [], harness := (true, "c363d187ada2d6685941a0968452692e25a568cfe7c08f87a520490f3eb77644"), looks := false }, kinds := [], alts := [], laidByText := true, laidKinds := [.data], laidTests := true, laidLooks := .later }
def InspectMoreCardSaid : Prop := Claim7.holds Tryd.pinned (.plain (OpenSpec.ofChange inspectMoreSpec)) inspectMoreCard

/-- THE TIED CARD OF 'cocketlaw06.InspectPlans'. -/
def inspectPlansCard : Claim7 := { stood := { row := inspectPlansRow, standIns := [], harness := (true, "c363d187ada2d6685941a0968452692e25a568cfe7c08f87a520490f3eb77644"), looks := false }, kinds := [], alts := [], laidByText := true, laidKinds := [.data], laidTests := true, laidLooks := .later }
def InspectPlansCardSaid : Prop := Claim7.holds Tryd.pinned (.plain (OpenSpec.ofChange inspectPlansSpec)) inspectPlansCard

/-- THE SECOND FORM's CARD OF 'cocketlaw06.InspectIs'. -/
def inspectIsUptoCard : Claim7 := { stood := { row := inspectIsUptoRow, standIns := [], harness := (true, "c363d187ada2d6685941a0968452692e25a568cfe7c08f87a520490f3eb77644"), looks := false }, kinds := [], alts := [], laidByText := true, laidKinds := [.data], laidTests := true, laidLooks := .later }
def InspectIsUptoCardSaid : Prop := Claim7.holds Tryd.pinned (.plain (OpenSpec.upto inspectIsSpec)) inspectIsUptoCard

/-- THE SECOND FORM's CARD OF 'cocketlaw06.InspectLeans'. -/
def inspectLeansUptoCard : Claim7 := { stood := { row := inspectLeansUptoRow, standIns := [], harness := (true, "c363d187ada2d6685941a0968452692e25a568cfe7c08f87a520490f3eb77644"), looks := false }, kinds := [], alts := [], laidByText := true, laidKinds := [.data], laidTests := true, laidLooks := .later }
def InspectLeansUptoCardSaid : Prop := Claim7.holds Tryd.pinned (.plain (OpenSpec.upto inspectLeansSpec)) inspectLeansUptoCard

/-- THE SECOND FORM's CARD OF 'cocketlaw06.InspectDays'. -/
def inspectDaysUptoCard : Claim7 := { stood := { row := inspectDaysUptoRow, standIns := [], harness := (true, "c363d187ada2d6685941a0968452692e25a568cfe7c08f87a520490f3eb77644"), looks := false }, kinds := [], alts := [], laidByText := true, laidKinds := [.data], laidTests := true, laidLooks := .later }
def InspectDaysUptoCardSaid : Prop := Claim7.holds Tryd.pinned (.plain (OpenSpec.upto inspectDaysSpec)) inspectDaysUptoCard

/-- THE SECOND FORM's CARD OF 'cocketlaw06.InspectDresher'. -/
def inspectDresherUptoCard : Claim7 := { stood := { row := inspectDresherUptoRow, standIns := [], harness := (true, "c363d187ada2d6685941a0968452692e25a568cfe7c08f87a520490f3eb77644"), looks := false }, kinds := [], alts := [], laidByText := true, laidKinds := [.data], laidTests := true, laidLooks := .later }
def InspectDresherUptoCardSaid : Prop := Claim7.holds Tryd.pinned (.plain (OpenSpec.upto inspectDresherSpec)) inspectDresherUptoCard

/-- THE SECOND FORM's CARD OF 'cocketlaw06.InspectMore'. -/
def inspectMoreUptoCard : Claim7 := { stood := { row := inspectMoreUptoRow, standIns := [], harness := (true, "c363d187ada2d6685941a0968452692e25a568cfe7c08f87a520490f3eb77644"), looks := false }, kinds := [], alts := [], laidByText := true, laidKinds := [.data], laidTests := true, laidLooks := .later }
def InspectMoreUptoCardSaid : Prop := Claim7.holds Tryd.pinned (.plain (OpenSpec.upto inspectMoreSpec)) inspectMoreUptoCard

/-- THE SECOND FORM's CARD OF 'cocketlaw06.InspectPlans'. -/
def inspectPlansUptoCard : Claim7 := { stood := { row := inspectPlansUptoRow, standIns := [], harness := (true, "c363d187ada2d6685941a0968452692e25a568cfe7c08f87a520490f3eb77644"), looks := false }, kinds := [], alts := [], laidByText := true, laidKinds := [.data], laidTests := true, laidLooks := .later }
def InspectPlansUptoCardSaid : Prop := Claim7.holds Tryd.pinned (.plain (OpenSpec.upto inspectPlansSpec)) inspectPlansUptoCard
end Rows
end Go.Proofs.YtnbhjbelgmkpeaaDoor
