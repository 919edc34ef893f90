/-
  DERIVED. GIVEN WITH THE SEED: THE CARDS: each row of YtmjjdcfobdcdpabGreatDoorRows.lean that lists a variable, with what it lists TIED to the program's text (the seventh form; the later family's looks); each row that meets fmt, with fmt's text TOLD by the authors' own Lean function (tested against real Go, not proved from fmt's source: count such statements apart). THE CARD IS WHAT COUNTS. Prove the row's statement (the work); the ties are given (YtmjjdcfobdcdpabGreatDoorTie.lean); close each card by the builder's one call (the guide's Derived/Test/ToyasCard.lean, 'card_holds'). Laid BY PROGRAM, IN A SANDBOX (cutbox-door.mjs). By AI agents, Wed Nov 11 2026. No macro, syntax, notation, axiom, sorry.
-/
import Derived.Test.YtmjjdcfobdcdpabGreatDoorRows
import GoSem.ClaimSeven
namespace Go.Proofs.YtmjjdcfobdcdpabGreatDoor
namespace Rows

/-- THE TIED CARD OF 'foolscaplaw12.CodesSigns'. -/
def codesSignsCard : Claim7 := { stood := { row := codesSignsRow, standIns := [], harness := (true, "6d930772bc9b005b75dad4f48efc0ae0ef0a13c2eb0e309f866b392b4b2975d4"), looks := true }, kinds := [], alts := [], laidByText := true, laidKinds := [.data, .data, .data, .data, .data, .pinned], laidTests := true, laidLooks := .later }
def CodesSignsCardSaid : Prop := Claim7.holds Tryz.pinned (.plain (OpenSpec.ofChange codesSignsSpec)) codesSignsCard

/-- THE SECOND FORM's CARD OF 'foolscaplaw12.CodesSigns'. -/
def codesSignsUptoCard : Claim7 := { stood := { row := codesSignsUptoRow, standIns := [], harness := (true, "6d930772bc9b005b75dad4f48efc0ae0ef0a13c2eb0e309f866b392b4b2975d4"), looks := true }, kinds := [], alts := [], laidByText := true, laidKinds := [.data, .data, .data, .data, .data, .pinned], laidTests := true, laidLooks := .later }
def CodesSignsUptoCardSaid : Prop := Claim7.holds Tryz.pinned (.plain (OpenSpec.upto codesSignsSpec)) codesSignsUptoCard
end Rows
end Go.Proofs.YtmjjdcfobdcdpabGreatDoor
