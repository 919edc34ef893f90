/-
  DERIVED. GIVEN WITH THE SEED: THE CARDS: each row of YtnhaapcpklfkpaaGreatDoorRows.lean that lists a variable, with what it lists TIED to the program's text (the seventh form; the later family's looks); each row that meets fmt, with fmt's text TOLD by the authors' own Lean function (tested against real Go, not proved from fmt's source: count such statements apart). THE CARD IS WHAT COUNTS. Prove the row's statement (the work); the ties are given (YtnhaapcpklfkpaaGreatDoorTie.lean); close each card by the builder's one call (the guide's Derived/Test/ToyasCard.lean, 'card_holds'). Laid BY PROGRAM, IN A SANDBOX (cutbox-door.mjs). By AI agents, Wed Nov 11 2026. No macro, syntax, notation, axiom, sorry.
-/
import Derived.Test.YtnhaapcpklfkpaaGreatDoorRows
import GoSem.ClaimSeven
namespace Go.Proofs.YtnhaapcpklfkpaaGreatDoor
namespace Rows

/-- THE TIED CARD OF 'foolscaplaw12.CodesWrites'. -/
def codesWritesCard : Claim7 := { stood := { row := codesWritesRow, standIns := [], harness := (true, "9d2edd0c9e6efa5a1e82497c593ff6836a9dde7e05cdd4798fc082b5e0128dc5"), looks := true }, kinds := [], alts := [], laidByText := true, laidKinds := [.data, .data, .data, .data, .data, .pinned], laidTests := true, laidLooks := .later }
def CodesWritesCardSaid : Prop := Claim7.holds Tryz.pinned (.plain (OpenSpec.ofChange codesWritesSpec)) codesWritesCard

/-- THE SECOND FORM's CARD OF 'foolscaplaw12.CodesWrites'. -/
def codesWritesUptoCard : Claim7 := { stood := { row := codesWritesUptoRow, standIns := [], harness := (true, "9d2edd0c9e6efa5a1e82497c593ff6836a9dde7e05cdd4798fc082b5e0128dc5"), looks := true }, kinds := [], alts := [], laidByText := true, laidKinds := [.data, .data, .data, .data, .data, .pinned], laidTests := true, laidLooks := .later }
def CodesWritesUptoCardSaid : Prop := Claim7.holds Tryz.pinned (.plain (OpenSpec.upto codesWritesSpec)) codesWritesUptoCard
end Rows
end Go.Proofs.YtnhaapcpklfkpaaGreatDoor
