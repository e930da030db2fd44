/-
  DERIVED. GIVEN WITH THE SEED: THE CARDS: each row of YtmllfacipbpkfaaDoorRows.lean that lists a variable, with what it lists TIED to the program's text (the seventh form; the later family's looks); each row that meets fmt, with fmt's text TOLD by the authors' own Lean function (tested against real Go, not proved from fmt's source: count such statements apart). THE CARD IS WHAT COUNTS. Prove the row's statement (the work); the ties are given (YtmllfacipbpkfaaDoorTie.lean); close each card by the builder's one call (the guide's Derived/Test/ToyasCard.lean, 'card_holds'). Laid BY PROGRAM, IN A SANDBOX (cutbox-door.mjs). By AI agents, Wed Nov 11 2026. No macro, syntax, notation, axiom, sorry.
-/
import Derived.Test.YtmllfacipbpkfaaDoorRows
import GoSem.ClaimSeven
namespace Go.Proofs.YtmllfacipbpkfaaDoor
namespace Rows

/-- THE TIED CARD OF 'cocketlaw02.TariffCodes'. -/
def tariffCodesCard : Claim7 := { stood := { row := tariffCodesRow, standIns := [], harness := (true, "a77cdfefeecf941b397c7b4f70d1c135b3804a1096119e75b2452dc68c3f9d59"), looks := false }, kinds := [], alts := [], laidByText := true, laidKinds := [.data], laidTests := true, laidLooks := .later }
def TariffCodesCardSaid : Prop := Claim7.holds Tryd.pinned (.plain (OpenSpec.ofChange tariffCodesSpec)) tariffCodesCard

/-- THE TIED CARD OF 'cocketlaw02.TariffFollows'. -/
def tariffFollowsCard : Claim7 := { stood := { row := tariffFollowsRow, standIns := [], harness := (true, "a77cdfefeecf941b397c7b4f70d1c135b3804a1096119e75b2452dc68c3f9d59"), looks := false }, kinds := [], alts := [], laidByText := true, laidKinds := [.data], laidTests := true, laidLooks := .later }
def TariffFollowsCardSaid : Prop := Claim7.holds Tryd.pinned (.plain (OpenSpec.ofChange tariffFollowsSpec)) tariffFollowsCard

/-- THE TIED CARD OF 'cocketlaw02.TariffLimit'. -/
def tariffLimitCard : Claim7 := { stood := { row := tariffLimitRow, standIns := [], harness := (true, "a77cdfefeecf941b397c7b4f70d1c135b3804a1096119e75b2452dc68c3f9d59"), looks := false }, kinds := [], alts := [], laidByText := true, laidKinds := [.data], laidTests := true, laidLooks := .later }
def TariffLimitCardSaid : Prop := Claim7.holds Tryd.pinned (.plain (OpenSpec.ofChange tariffLimitSpec)) tariffLimitCard

/-- THE TIED CARD OF 'cocketlaw02.TariffClashes'. -/
def tariffClashesCard : Claim7 := { stood := { row := tariffClashesRow, standIns := [], harness := (true, "a77cdfefeecf941b397c7b4f70d1c135b3804a1096119e75b2452dc68c3f9d59"), looks := false }, kinds := [], alts := [], laidByText := true, laidKinds := [.data], laidTests := true, laidLooks := .later }
def TariffClashesCardSaid : Prop := Claim7.holds Tryd.pinned (.plain (OpenSpec.ofChange tariffClashesSpec)) tariffClashesCard

/-- THE SECOND FORM's CARD OF 'cocketlaw02.TariffCodes'. -/
def tariffCodesUptoCard : Claim7 := { stood := { row := tariffCodesUptoRow, standIns := [], harness := (true, "a77cdfefeecf941b397c7b4f70d1c135b3804a1096119e75b2452dc68c3f9d59"), looks := false }, kinds := [], alts := [], laidByText := true, laidKinds := [.data], laidTests := true, laidLooks := .later }
def TariffCodesUptoCardSaid : Prop := Claim7.holds Tryd.pinned (.plain (OpenSpec.upto tariffCodesSpec)) tariffCodesUptoCard

/-- THE SECOND FORM's CARD OF 'cocketlaw02.TariffFollows'. -/
def tariffFollowsUptoCard : Claim7 := { stood := { row := tariffFollowsUptoRow, standIns := [], harness := (true, "a77cdfefeecf941b397c7b4f70d1c135b3804a1096119e75b2452dc68c3f9d59"), looks := false }, kinds := [], alts := [], laidByText := true, laidKinds := [.data], laidTests := true, laidLooks := .later }
def TariffFollowsUptoCardSaid : Prop := Claim7.holds Tryd.pinned (.plain (OpenSpec.upto tariffFollowsSpec)) tariffFollowsUptoCard

/-- THE SECOND FORM's CARD OF 'cocketlaw02.TariffLimit'. -/
def tariffLimitUptoCard : Claim7 := { stood := { row := tariffLimitUptoRow, standIns := [], harness := (true, "a77cdfefeecf941b397c7b4f70d1c135b3804a1096119e75b2452dc68c3f9d59"), looks := false }, kinds := [], alts := [], laidByText := true, laidKinds := [.data], laidTests := true, laidLooks := .later }
def TariffLimitUptoCardSaid : Prop := Claim7.holds Tryd.pinned (.plain (OpenSpec.upto tariffLimitSpec)) tariffLimitUptoCard

/-- THE SECOND FORM's CARD OF 'cocketlaw02.TariffClashes'. -/
def tariffClashesUptoCard : Claim7 := { stood := { row := tariffClashesUptoRow, standIns := [], harness := (true, "a77cdfefeecf941b397c7b4f70d1c135b3804a1096119e75b2452dc68c3f9d59"), looks := false }, kinds := [], alts := [], laidByText := true, laidKinds := [.data], laidTests := true, laidLooks := .later }
def TariffClashesUptoCardSaid : Prop := Claim7.holds Tryd.pinned (.plain (OpenSpec.upto tariffClashesSpec)) tariffClashesUptoCard
end Rows
end Go.Proofs.YtmllfacipbpkfaaDoor
