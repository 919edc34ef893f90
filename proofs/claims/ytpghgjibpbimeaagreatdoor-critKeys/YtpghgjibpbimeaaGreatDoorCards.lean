/-
  DERIVED. GIVEN WITH THE SEED: THE CARDS: each row of YtpghgjibpbimeaaGreatDoorRows.lean that lists a variable, with what it lists TIED to the program's text (the seventh form; the later family's looks); each row that meets fmt, with fmt's text TOLD by the authors' own Lean function (tested against real Go, not proved from fmt's source: count such statements apart). THE CARD IS WHAT COUNTS. Prove the row's statement (the work); the ties are given (YtpghgjibpbimeaaGreatDoorTie.lean); close each card by the builder's one call (the guide's Derived/Test/ToyasCard.lean, 'card_holds'). Laid BY PROGRAM, IN A SANDBOX (cutbox-door.mjs). By AI agents, Wed Nov 11 2026. No macro, syntax, notation, axiom, sorry.
-/
import Derived.Test.YtpghgjibpbimeaaGreatDoorRows
import GoSem.ClaimSeven
namespace Go.Proofs.YtpghgjibpbimeaaGreatDoor
namespace Rows

/-- THE TIED CARD OF 'foolscaplaw13.CritKeys'. -/
def critKeysCard : Claim7 := { stood := { row := critKeysRow, standIns := [], harness := (true, "79da089f50e8a19f2d5fa715da695c3ef83488ec60958c062a06e06235d2da78"), looks := false }, kinds := [], alts := [], laidByText := true, laidKinds := [.data, .data, .data, .data, .data, .data, .pinned], laidTests := true, laidLooks := .later }
def CritKeysCardSaid : Prop := Claim7.holds Tryz.pinned (.plain (OpenSpec.ofChange critKeysSpec)) critKeysCard

/-- THE SECOND FORM's CARD OF 'foolscaplaw13.CritKeys'. -/
def critKeysUptoCard : Claim7 := { stood := { row := critKeysUptoRow, standIns := [], harness := (true, "79da089f50e8a19f2d5fa715da695c3ef83488ec60958c062a06e06235d2da78"), looks := false }, kinds := [], alts := [], laidByText := true, laidKinds := [.data, .data, .data, .data, .data, .data, .pinned], laidTests := true, laidLooks := .later }
def CritKeysUptoCardSaid : Prop := Claim7.holds Tryz.pinned (.plain (OpenSpec.upto critKeysSpec)) critKeysUptoCard
end Rows
end Go.Proofs.YtpghgjibpbimeaaGreatDoor
