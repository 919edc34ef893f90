/-
  DERIVED. GIVEN WITH THE SEED: THE CARDS: each row of YtmjjdcfobdcdpaaGreatDoorRows.lean that lists a variable, with what it lists TIED to the program's text (the seventh form; the later family's looks); each row that meets fmt, with fmt's text TOLD by the authors' own Lean function (tested against real Go, not proved from fmt's source: count such statements apart). THE CARD IS WHAT COUNTS. Prove the row's statement (the work); the ties are given (YtmjjdcfobdcdpaaGreatDoorTie.lean); close each card by the builder's one call (the guide's Derived/Test/ToyasCard.lean, 'card_holds'). Laid BY PROGRAM, IN A SANDBOX (cutbox-door.mjs). By AI agents, Wed Nov 11 2026. No macro, syntax, notation, axiom, sorry.
-/
import Derived.Test.YtmjjdcfobdcdpaaGreatDoorRows
import GoSem.ClaimSeven
namespace Go.Proofs.YtmjjdcfobdcdpaaGreatDoor
namespace Rows

/-- THE TIED CARD OF 'foolscaplaw12.CodesReads'. -/
def codesReadsCard : Claim7 := { stood := { row := codesReadsRow, standIns := [], harness := (true, "50becea8dff8f87b12249b1e72a64276d61926d64857f99508ad1b20c1303feb"), looks := true }, kinds := [], alts := [], laidByText := true, laidKinds := [.data, .data, .data, .data, .data, .pinned], laidTests := true, laidLooks := .later }
def CodesReadsCardSaid : Prop := Claim7.holds Tryz.pinned (.plain (OpenSpec.ofChange codesReadsSpec)) codesReadsCard

/-- THE TIED CARD OF 'foolscaplaw12.CodesWrites'. -/
def codesWritesCard : Claim7 := { stood := { row := codesWritesRow, standIns := [], harness := (true, "50becea8dff8f87b12249b1e72a64276d61926d64857f99508ad1b20c1303feb"), looks := true }, kinds := [], alts := [], laidByText := true, laidKinds := [.data, .data, .data, .data, .data, .pinned], laidTests := true, laidLooks := .later }
def CodesWritesCardSaid : Prop := Claim7.holds Tryz.pinned (.plain (OpenSpec.ofChange codesWritesSpec)) codesWritesCard

/-- THE TIED CARD OF 'foolscaplaw12.CodesDigits'. -/
def codesDigitsCard : Claim7 := { stood := { row := codesDigitsRow, standIns := [], harness := (true, "50becea8dff8f87b12249b1e72a64276d61926d64857f99508ad1b20c1303feb"), looks := true }, kinds := [], alts := [], laidByText := true, laidKinds := [.data, .data, .data, .data, .data, .pinned], laidTests := true, laidLooks := .later }
def CodesDigitsCardSaid : Prop := Claim7.holds Tryz.pinned (.plain (OpenSpec.ofChange codesDigitsSpec)) codesDigitsCard

/-- THE TIED CARD OF 'foolscaplaw12.CodesCommas'. -/
def codesCommasCard : Claim7 := { stood := { row := codesCommasRow, standIns := [], harness := (true, "50becea8dff8f87b12249b1e72a64276d61926d64857f99508ad1b20c1303feb"), looks := true }, kinds := [], alts := [], laidByText := true, laidKinds := [.data, .data, .data, .data, .data, .pinned], laidTests := true, laidLooks := .later }
def CodesCommasCardSaid : Prop := Claim7.holds Tryz.pinned (.plain (OpenSpec.ofChange codesCommasSpec)) codesCommasCard

/-- THE TIED CARD OF 'foolscaplaw12.CodesDays'. -/
def codesDaysCard : Claim7 := { stood := { row := codesDaysRow, standIns := [], harness := (true, "50becea8dff8f87b12249b1e72a64276d61926d64857f99508ad1b20c1303feb"), looks := true }, kinds := [], alts := [], laidByText := true, laidKinds := [.data, .data, .data, .data, .data, .pinned], laidTests := true, laidLooks := .later }
def CodesDaysCardSaid : Prop := Claim7.holds Tryz.pinned (.plain (OpenSpec.ofChange codesDaysSpec)) codesDaysCard

/-- THE TIED CARD OF 'foolscaplaw12.CodesTexts'. -/
def codesTextsCard : Claim7 := { stood := { row := codesTextsRow, standIns := [], harness := (true, "50becea8dff8f87b12249b1e72a64276d61926d64857f99508ad1b20c1303feb"), looks := true }, kinds := [], alts := [], laidByText := true, laidKinds := [.data, .data, .data, .data, .data, .pinned], laidTests := true, laidLooks := .later }
def CodesTextsCardSaid : Prop := Claim7.holds Tryz.pinned (.plain (OpenSpec.ofChange codesTextsSpec)) codesTextsCard

/-- THE SECOND FORM's CARD OF 'foolscaplaw12.CodesReads'. -/
def codesReadsUptoCard : Claim7 := { stood := { row := codesReadsUptoRow, standIns := [], harness := (true, "50becea8dff8f87b12249b1e72a64276d61926d64857f99508ad1b20c1303feb"), looks := true }, kinds := [], alts := [], laidByText := true, laidKinds := [.data, .data, .data, .data, .data, .pinned], laidTests := true, laidLooks := .later }
def CodesReadsUptoCardSaid : Prop := Claim7.holds Tryz.pinned (.plain (OpenSpec.upto codesReadsSpec)) codesReadsUptoCard

/-- THE SECOND FORM's CARD OF 'foolscaplaw12.CodesWrites'. -/
def codesWritesUptoCard : Claim7 := { stood := { row := codesWritesUptoRow, standIns := [], harness := (true, "50becea8dff8f87b12249b1e72a64276d61926d64857f99508ad1b20c1303feb"), looks := true }, kinds := [], alts := [], laidByText := true, laidKinds := [.data, .data, .data, .data, .data, .pinned], laidTests := true, laidLooks := .later }
def CodesWritesUptoCardSaid : Prop := Claim7.holds Tryz.pinned (.plain (OpenSpec.upto codesWritesSpec)) codesWritesUptoCard

/-- THE SECOND FORM's CARD OF 'foolscaplaw12.CodesDigits'. -/
def codesDigitsUptoCard : Claim7 := { stood := { row := codesDigitsUptoRow, standIns := [], harness := (true, "50becea8dff8f87b12249b1e72a64276d61926d64857f99508ad1b20c1303feb"), looks := true }, kinds := [], alts := [], laidByText := true, laidKinds := [.data, .data, .data, .data, .data, .pinned], laidTests := true, laidLooks := .later }
def CodesDigitsUptoCardSaid : Prop := Claim7.holds Tryz.pinned (.plain (OpenSpec.upto codesDigitsSpec)) codesDigitsUptoCard

/-- THE SECOND FORM's CARD OF 'foolscaplaw12.CodesCommas'. -/
def codesCommasUptoCard : Claim7 := { stood := { row := codesCommasUptoRow, standIns := [], harness := (true, "50becea8dff8f87b12249b1e72a64276d61926d64857f99508ad1b20c1303feb"), looks := true }, kinds := [], alts := [], laidByText := true, laidKinds := [.data, .data, .data, .data, .data, .pinned], laidTests := true, laidLooks := .later }
def CodesCommasUptoCardSaid : Prop := Claim7.holds Tryz.pinned (.plain (OpenSpec.upto codesCommasSpec)) codesCommasUptoCard

/-- THE SECOND FORM's CARD OF 'foolscaplaw12.CodesDays'. -/
def codesDaysUptoCard : Claim7 := { stood := { row := codesDaysUptoRow, standIns := [], harness := (true, "50becea8dff8f87b12249b1e72a64276d61926d64857f99508ad1b20c1303feb"), looks := true }, kinds := [], alts := [], laidByText := true, laidKinds := [.data, .data, .data, .data, .data, .pinned], laidTests := true, laidLooks := .later }
def CodesDaysUptoCardSaid : Prop := Claim7.holds Tryz.pinned (.plain (OpenSpec.upto codesDaysSpec)) codesDaysUptoCard

/-- THE SECOND FORM's CARD OF 'foolscaplaw12.CodesTexts'. -/
def codesTextsUptoCard : Claim7 := { stood := { row := codesTextsUptoRow, standIns := [], harness := (true, "50becea8dff8f87b12249b1e72a64276d61926d64857f99508ad1b20c1303feb"), looks := true }, kinds := [], alts := [], laidByText := true, laidKinds := [.data, .data, .data, .data, .data, .pinned], laidTests := true, laidLooks := .later }
def CodesTextsUptoCardSaid : Prop := Claim7.holds Tryz.pinned (.plain (OpenSpec.upto codesTextsSpec)) codesTextsUptoCard
end Rows
end Go.Proofs.YtmjjdcfobdcdpaaGreatDoor
