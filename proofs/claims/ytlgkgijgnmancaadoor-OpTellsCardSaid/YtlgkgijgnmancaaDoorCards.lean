/-
  DERIVED. GIVEN WITH THE SEED: THE CARDS: each row of YtlgkgijgnmancaaDoorRows.lean that lists a variable, with what it lists TIED to the program's text (the seventh form; the later family's looks); each row that meets fmt, with fmt's text TOLD by the authors' own Lean function (tested against real Go, not proved from fmt's source: count such statements apart). THE CARD IS WHAT COUNTS. Prove the row's statement (the work); the ties are given (YtlgkgijgnmancaaDoorTie.lean); close each card by the builder's one call (the guide's Derived/Test/ToyasCard.lean, 'card_holds'). Laid BY PROGRAM, IN A SANDBOX (cutbox-door.mjs). By AI agents, Wed Nov 11 2026. No macro, syntax, notation, axiom, sorry.
-/
import Derived.Test.YtlgkgijgnmancaaDoorRows
import GoSem.ClaimSeven
namespace Go.Proofs.YtlgkgijgnmancaaDoor
namespace Rows

/-- THE TIED CARD OF 'quitrentlaw22.OpNames'. -/
def opNamesCard : Claim7 := { stood := { row := opNamesRow, standIns := [], harness := (true, "ddb4fe0978b7ff8fb3e4f0f9f52ca5a830dd8960b8bf7888391e5956585fc6b3"), looks := false }, kinds := [], alts := [], laidByText := true, laidKinds := [.data], laidTests := true, laidLooks := .later }
def OpNamesCardSaid : Prop := Claim7.holds Tryd.pinned (.plain (OpenSpec.ofChange opNamesSpec)) opNamesCard

/-- THE TIED CARD OF 'quitrentlaw22.OpTells'. -/
def opTellsCard : Claim7 := { stood := { row := opTellsRow, standIns := [], harness := (true, "ddb4fe0978b7ff8fb3e4f0f9f52ca5a830dd8960b8bf7888391e5956585fc6b3"), looks := false }, kinds := [], alts := [], laidByText := true, laidKinds := [.data], laidTests := true, laidLooks := .later }
def OpTellsCardSaid : Prop := Claim7.holds Tryd.pinned (.plain (OpenSpec.ofChange opTellsSpec)) opTellsCard

/-- THE TIED CARD OF 'quitrentlaw23.IdealPlays'. -/
def idealPlaysCard : Claim7 := { stood := { row := idealPlaysRow, standIns := [], harness := (true, "ddb4fe0978b7ff8fb3e4f0f9f52ca5a830dd8960b8bf7888391e5956585fc6b3"), looks := false }, kinds := [], alts := [], laidByText := true, laidKinds := [.data], laidTests := true, laidLooks := .later }
def IdealPlaysCardSaid : Prop := Claim7.holds Tryd.pinned (.plain (OpenSpec.ofChange idealPlaysSpec)) idealPlaysCard

/-- THE TIED CARD OF 'quitrentlaw23.IdealGone'. -/
def idealGoneCard : Claim7 := { stood := { row := idealGoneRow, standIns := [], harness := (true, "ddb4fe0978b7ff8fb3e4f0f9f52ca5a830dd8960b8bf7888391e5956585fc6b3"), looks := false }, kinds := [], alts := [], laidByText := true, laidKinds := [.data], laidTests := true, laidLooks := .later }
def IdealGoneCardSaid : Prop := Claim7.holds Tryd.pinned (.plain (OpenSpec.ofChange idealGoneSpec)) idealGoneCard

/-- THE TIED CARD OF 'quitrentlaw23.IdealCopies'. -/
def idealCopiesCard : Claim7 := { stood := { row := idealCopiesRow, standIns := [], harness := (true, "ddb4fe0978b7ff8fb3e4f0f9f52ca5a830dd8960b8bf7888391e5956585fc6b3"), looks := false }, kinds := [], alts := [], laidByText := true, laidKinds := [.data], laidTests := true, laidLooks := .later }
def IdealCopiesCardSaid : Prop := Claim7.holds Tryd.pinned (.plain (OpenSpec.ofChange idealCopiesSpec)) idealCopiesCard

/-- THE TIED CARD OF 'quitrentlaw23.IdealNobody'. -/
def idealNobodyCard : Claim7 := { stood := { row := idealNobodyRow, standIns := [], harness := (true, "ddb4fe0978b7ff8fb3e4f0f9f52ca5a830dd8960b8bf7888391e5956585fc6b3"), looks := false }, kinds := [], alts := [], laidByText := true, laidKinds := [.data], laidTests := true, laidLooks := .later }
def IdealNobodyCardSaid : Prop := Claim7.holds Tryd.pinned (.plain (OpenSpec.ofChange idealNobodySpec)) idealNobodyCard

/-- THE SECOND FORM's CARD OF 'quitrentlaw22.OpNames'. -/
def opNamesUptoCard : Claim7 := { stood := { row := opNamesUptoRow, standIns := [], harness := (true, "ddb4fe0978b7ff8fb3e4f0f9f52ca5a830dd8960b8bf7888391e5956585fc6b3"), looks := false }, kinds := [], alts := [], laidByText := true, laidKinds := [.data], laidTests := true, laidLooks := .later }
def OpNamesUptoCardSaid : Prop := Claim7.holds Tryd.pinned (.plain (OpenSpec.upto opNamesSpec)) opNamesUptoCard

/-- THE SECOND FORM's CARD OF 'quitrentlaw22.OpTells'. -/
def opTellsUptoCard : Claim7 := { stood := { row := opTellsUptoRow, standIns := [], harness := (true, "ddb4fe0978b7ff8fb3e4f0f9f52ca5a830dd8960b8bf7888391e5956585fc6b3"), looks := false }, kinds := [], alts := [], laidByText := true, laidKinds := [.data], laidTests := true, laidLooks := .later }
def OpTellsUptoCardSaid : Prop := Claim7.holds Tryd.pinned (.plain (OpenSpec.upto opTellsSpec)) opTellsUptoCard

/-- THE SECOND FORM's CARD OF 'quitrentlaw23.IdealPlays'. -/
def idealPlaysUptoCard : Claim7 := { stood := { row := idealPlaysUptoRow, standIns := [], harness := (true, "ddb4fe0978b7ff8fb3e4f0f9f52ca5a830dd8960b8bf7888391e5956585fc6b3"), looks := false }, kinds := [], alts := [], laidByText := true, laidKinds := [.data], laidTests := true, laidLooks := .later }
def IdealPlaysUptoCardSaid : Prop := Claim7.holds Tryd.pinned (.plain (OpenSpec.upto idealPlaysSpec)) idealPlaysUptoCard

/-- THE SECOND FORM's CARD OF 'quitrentlaw23.IdealGone'. -/
def idealGoneUptoCard : Claim7 := { stood := { row := idealGoneUptoRow, standIns := [], harness := (true, "ddb4fe0978b7ff8fb3e4f0f9f52ca5a830dd8960b8bf7888391e5956585fc6b3"), looks := false }, kinds := [], alts := [], laidByText := true, laidKinds := [.data], laidTests := true, laidLooks := .later }
def IdealGoneUptoCardSaid : Prop := Claim7.holds Tryd.pinned (.plain (OpenSpec.upto idealGoneSpec)) idealGoneUptoCard

/-- THE SECOND FORM's CARD OF 'quitrentlaw23.IdealCopies'. -/
def idealCopiesUptoCard : Claim7 := { stood := { row := idealCopiesUptoRow, standIns := [], harness := (true, "ddb4fe0978b7ff8fb3e4f0f9f52ca5a830dd8960b8bf7888391e5956585fc6b3"), looks := false }, kinds := [], alts := [], laidByText := true, laidKinds := [.data], laidTests := true, laidLooks := .later }
def IdealCopiesUptoCardSaid : Prop := Claim7.holds Tryd.pinned (.plain (OpenSpec.upto idealCopiesSpec)) idealCopiesUptoCard

/-- THE SECOND FORM's CARD OF 'quitrentlaw23.IdealNobody'. -/
def idealNobodyUptoCard : Claim7 := { stood := { row := idealNobodyUptoRow, standIns := [], harness := (true, "ddb4fe0978b7ff8fb3e4f0f9f52ca5a830dd8960b8bf7888391e5956585fc6b3"), looks := false }, kinds := [], alts := [], laidByText := true, laidKinds := [.data], laidTests := true, laidLooks := .later }
def IdealNobodyUptoCardSaid : Prop := Claim7.holds Tryd.pinned (.plain (OpenSpec.upto idealNobodySpec)) idealNobodyUptoCard
end Rows
end Go.Proofs.YtlgkgijgnmancaaDoor
