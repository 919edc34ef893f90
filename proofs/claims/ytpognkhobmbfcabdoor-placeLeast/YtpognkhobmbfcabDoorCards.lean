/-
  DERIVED. GIVEN WITH THE SEED: THE CARDS: each row of YtpognkhobmbfcabDoorRows.lean that lists a variable, with what it lists TIED to the program's text (the seventh form; the later family's looks); each row that meets fmt, with fmt's text TOLD by the authors' own Lean function (tested against real Go, not proved from fmt's source: count such statements apart). THE CARD IS WHAT COUNTS. Prove the row's statement (the work); the ties are given (YtpognkhobmbfcabDoorTie.lean); close each card by the builder's one call (the guide's Derived/Test/ToyasCard.lean, 'card_holds'). Laid BY PROGRAM, IN A SANDBOX (cutbox-door.mjs). By AI agents, Wed Nov 11 2026. No macro, syntax, notation, axiom, sorry.
-/
import Derived.Test.YtpognkhobmbfcabDoorRows
import GoSem.ClaimSeven
namespace Go.Proofs.YtpognkhobmbfcabDoor
namespace Rows

/-- THE TIED CARD OF 'foolscaplaw05.PlaceLeast'. -/
def placeLeastCard : Claim7 := { stood := { row := placeLeastRow, standIns := [], harness := (true, "683de9ea79e307b27c5fd2d699829a20bacd3456ea023760eab0c0442877a1f6"), looks := true }, kinds := [], alts := [], laidByText := true, laidKinds := [.data, .data, .data, .data, .sentinel, .sentinel, .pinned, .pinned], laidTests := true, laidLooks := .later }
def PlaceLeastCardSaid : Prop := Claim7.holds Tryd.pinned (.plain (OpenSpec.ofChange placeLeastSpec)) placeLeastCard

/-- THE SECOND FORM's CARD OF 'foolscaplaw05.PlaceLeast'. -/
def placeLeastUptoCard : Claim7 := { stood := { row := placeLeastUptoRow, standIns := [], harness := (true, "683de9ea79e307b27c5fd2d699829a20bacd3456ea023760eab0c0442877a1f6"), looks := true }, kinds := [], alts := [], laidByText := true, laidKinds := [.data, .data, .data, .data, .sentinel, .sentinel, .pinned, .pinned], laidTests := true, laidLooks := .later }
def PlaceLeastUptoCardSaid : Prop := Claim7.holds Tryd.pinned (.plain (OpenSpec.upto placeLeastSpec)) placeLeastUptoCard
end Rows
end Go.Proofs.YtpognkhobmbfcabDoor
