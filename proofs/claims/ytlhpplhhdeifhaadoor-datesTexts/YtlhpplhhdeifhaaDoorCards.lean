/-
  DERIVED. GIVEN WITH THE SEED: THE CARDS: each row of YtlhpplhhdeifhaaDoorRows.lean that lists a variable, with what it lists TIED to the program's text (the seventh form; the later family's looks); each row that meets fmt, with fmt's text TOLD by the authors' own Lean function (tested against real Go, not proved from fmt's source: count such statements apart). THE CARD IS WHAT COUNTS. Prove the row's statement (the work); the ties are given (YtlhpplhhdeifhaaDoorTie.lean); close each card by the builder's one call (the guide's Derived/Test/ToyasCard.lean, 'card_holds'). Laid BY PROGRAM, IN A SANDBOX (cutbox-door.mjs). By AI agents, Wed Nov 11 2026. No macro, syntax, notation, axiom, sorry.
-/
import Derived.Test.YtlhpplhhdeifhaaDoorRows
import GoSem.ClaimSeven
namespace Go.Proofs.YtlhpplhhdeifhaaDoor
namespace Rows

/-- THE TIED CARD OF 'foolscaplaw11.DatesSerials'. -/
def datesSerialsCard : Claim7 := { stood := { row := datesSerialsRow, standIns := [], harness := (true, "8e95ac321798bab3c24018c665f5dee2f443a1509e675dacc5f1c18bfd3416c6"), looks := true }, kinds := [], alts := [], laidByText := true, laidKinds := [.data, .data, .data, .sentinel, .sentinel, .data], laidTests := true, laidLooks := .later }
def DatesSerialsCardSaid : Prop := Claim7.holds Tryd.pinned (.plain (OpenSpec.ofChange datesSerialsSpec)) datesSerialsCard

/-- THE TIED CARD OF 'foolscaplaw11.DatesParts'. -/
def datesPartsCard : Claim7 := { stood := { row := datesPartsRow, standIns := [], harness := (true, "8e95ac321798bab3c24018c665f5dee2f443a1509e675dacc5f1c18bfd3416c6"), looks := true }, kinds := [], alts := [], laidByText := true, laidKinds := [.data, .data, .data, .sentinel, .sentinel, .data], laidTests := true, laidLooks := .later }
def DatesPartsCardSaid : Prop := Claim7.holds Tryd.pinned (.plain (OpenSpec.ofChange datesPartsSpec)) datesPartsCard

/-- THE TIED CARD OF 'foolscaplaw11.DatesMonths'. -/
def datesMonthsCard : Claim7 := { stood := { row := datesMonthsRow, standIns := [], harness := (true, "8e95ac321798bab3c24018c665f5dee2f443a1509e675dacc5f1c18bfd3416c6"), looks := true }, kinds := [], alts := [], laidByText := true, laidKinds := [.data, .data, .data, .sentinel, .sentinel, .data], laidTests := true, laidLooks := .later }
def DatesMonthsCardSaid : Prop := Claim7.holds Tryd.pinned (.plain (OpenSpec.ofChange datesMonthsSpec)) datesMonthsCard

/-- THE TIED CARD OF 'foolscaplaw11.DatesTexts'. -/
def datesTextsCard : Claim7 := { stood := { row := datesTextsRow, standIns := [], harness := (true, "8e95ac321798bab3c24018c665f5dee2f443a1509e675dacc5f1c18bfd3416c6"), looks := true }, kinds := [], alts := [], laidByText := true, laidKinds := [.data, .data, .data, .sentinel, .sentinel, .data], laidTests := true, laidLooks := .later }
def DatesTextsCardSaid : Prop := Claim7.holds Tryd.pinned (.plain (OpenSpec.ofChange datesTextsSpec)) datesTextsCard

/-- THE TIED CARD OF 'foolscaplaw11.DatesBack'. -/
def datesBackCard : Claim7 := { stood := { row := datesBackRow, standIns := [], harness := (true, "8e95ac321798bab3c24018c665f5dee2f443a1509e675dacc5f1c18bfd3416c6"), looks := true }, kinds := [], alts := [], laidByText := true, laidKinds := [.data, .data, .data, .sentinel, .sentinel, .data], laidTests := true, laidLooks := .later }
def DatesBackCardSaid : Prop := Claim7.holds Tryd.pinned (.plain (OpenSpec.ofChange datesBackSpec)) datesBackCard

/-- THE TIED CARD OF 'foolscaplaw11.DatesRow'. -/
def datesRowCard : Claim7 := { stood := { row := datesRowRow, standIns := [], harness := (true, "8e95ac321798bab3c24018c665f5dee2f443a1509e675dacc5f1c18bfd3416c6"), looks := true }, kinds := [], alts := [], laidByText := true, laidKinds := [.data, .data, .data, .sentinel, .sentinel, .data], laidTests := true, laidLooks := .later }
def DatesRowCardSaid : Prop := Claim7.holds Tryd.pinned (.plain (OpenSpec.ofChange datesRowSpec)) datesRowCard

/-- THE SECOND FORM's CARD OF 'foolscaplaw11.DatesSerials'. -/
def datesSerialsUptoCard : Claim7 := { stood := { row := datesSerialsUptoRow, standIns := [], harness := (true, "8e95ac321798bab3c24018c665f5dee2f443a1509e675dacc5f1c18bfd3416c6"), looks := true }, kinds := [], alts := [], laidByText := true, laidKinds := [.data, .data, .data, .sentinel, .sentinel, .data], laidTests := true, laidLooks := .later }
def DatesSerialsUptoCardSaid : Prop := Claim7.holds Tryd.pinned (.plain (OpenSpec.upto datesSerialsSpec)) datesSerialsUptoCard

/-- THE SECOND FORM's CARD OF 'foolscaplaw11.DatesParts'. -/
def datesPartsUptoCard : Claim7 := { stood := { row := datesPartsUptoRow, standIns := [], harness := (true, "8e95ac321798bab3c24018c665f5dee2f443a1509e675dacc5f1c18bfd3416c6"), looks := true }, kinds := [], alts := [], laidByText := true, laidKinds := [.data, .data, .data, .sentinel, .sentinel, .data], laidTests := true, laidLooks := .later }
def DatesPartsUptoCardSaid : Prop := Claim7.holds Tryd.pinned (.plain (OpenSpec.upto datesPartsSpec)) datesPartsUptoCard

/-- THE SECOND FORM's CARD OF 'foolscaplaw11.DatesMonths'. -/
def datesMonthsUptoCard : Claim7 := { stood := { row := datesMonthsUptoRow, standIns := [], harness := (true, "8e95ac321798bab3c24018c665f5dee2f443a1509e675dacc5f1c18bfd3416c6"), looks := true }, kinds := [], alts := [], laidByText := true, laidKinds := [.data, .data, .data, .sentinel, .sentinel, .data], laidTests := true, laidLooks := .later }
def DatesMonthsUptoCardSaid : Prop := Claim7.holds Tryd.pinned (.plain (OpenSpec.upto datesMonthsSpec)) datesMonthsUptoCard

/-- THE SECOND FORM's CARD OF 'foolscaplaw11.DatesTexts'. -/
def datesTextsUptoCard : Claim7 := { stood := { row := datesTextsUptoRow, standIns := [], harness := (true, "8e95ac321798bab3c24018c665f5dee2f443a1509e675dacc5f1c18bfd3416c6"), looks := true }, kinds := [], alts := [], laidByText := true, laidKinds := [.data, .data, .data, .sentinel, .sentinel, .data], laidTests := true, laidLooks := .later }
def DatesTextsUptoCardSaid : Prop := Claim7.holds Tryd.pinned (.plain (OpenSpec.upto datesTextsSpec)) datesTextsUptoCard

/-- THE SECOND FORM's CARD OF 'foolscaplaw11.DatesBack'. -/
def datesBackUptoCard : Claim7 := { stood := { row := datesBackUptoRow, standIns := [], harness := (true, "8e95ac321798bab3c24018c665f5dee2f443a1509e675dacc5f1c18bfd3416c6"), looks := true }, kinds := [], alts := [], laidByText := true, laidKinds := [.data, .data, .data, .sentinel, .sentinel, .data], laidTests := true, laidLooks := .later }
def DatesBackUptoCardSaid : Prop := Claim7.holds Tryd.pinned (.plain (OpenSpec.upto datesBackSpec)) datesBackUptoCard

/-- THE SECOND FORM's CARD OF 'foolscaplaw11.DatesRow'. -/
def datesRowUptoCard : Claim7 := { stood := { row := datesRowUptoRow, standIns := [], harness := (true, "8e95ac321798bab3c24018c665f5dee2f443a1509e675dacc5f1c18bfd3416c6"), looks := true }, kinds := [], alts := [], laidByText := true, laidKinds := [.data, .data, .data, .sentinel, .sentinel, .data], laidTests := true, laidLooks := .later }
def DatesRowUptoCardSaid : Prop := Claim7.holds Tryd.pinned (.plain (OpenSpec.upto datesRowSpec)) datesRowUptoCard
end Rows
end Go.Proofs.YtlhpplhhdeifhaaDoor
