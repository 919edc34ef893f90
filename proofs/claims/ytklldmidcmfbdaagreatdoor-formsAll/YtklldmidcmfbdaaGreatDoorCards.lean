/-
  DERIVED. GIVEN WITH THE SEED: THE CARDS: each row of YtklldmidcmfbdaaGreatDoorRows.lean that lists a variable, with what it lists TIED to the program's text (the seventh form; the later family's looks); each row that meets fmt, with fmt's text TOLD by the authors' own Lean function (tested against real Go, not proved from fmt's source: count such statements apart). THE CARD IS WHAT COUNTS. Prove the row's statement (the work); the ties are given (YtklldmidcmfbdaaGreatDoorTie.lean); close each card by the builder's one call (the guide's Derived/Test/ToyasCard.lean, 'card_holds'). Laid BY PROGRAM, IN A SANDBOX (cutbox-door.mjs). By AI agents, Wed Nov 11 2026. No macro, syntax, notation, axiom, sorry.
-/
import Derived.Test.YtklldmidcmfbdaaGreatDoorRows
import GoSem.ClaimSeven
namespace Go.Proofs.YtklldmidcmfbdaaGreatDoor
namespace Rows

/-- THE TIED CARD OF 'foolscaplaw09.FormsAll'. -/
def formsAllCard : Claim7 := { stood := { row := formsAllRow, standIns := [], harness := (true, "384ac26dc611eb658203324ecaa4185974d6ec29d8686fdee8de6b95404533ae"), looks := false }, kinds := [], alts := [], laidByText := true, laidKinds := [.data, .pinned], laidTests := true, laidLooks := .later }
def FormsAllCardSaid : Prop := Claim7.holds Tryz.pinned (.plain (OpenSpec.ofChange formsAllSpec)) formsAllCard

/-- THE TIED CARD OF 'foolscaplaw09.FormsTable'. -/
def formsTableCard : Claim7 := { stood := { row := formsTableRow, standIns := [], harness := (true, "384ac26dc611eb658203324ecaa4185974d6ec29d8686fdee8de6b95404533ae"), looks := false }, kinds := [], alts := [], laidByText := true, laidKinds := [.data, .pinned], laidTests := true, laidLooks := .later }
def FormsTableCardSaid : Prop := Claim7.holds Tryz.pinned (.plain (OpenSpec.ofChange formsTableSpec)) formsTableCard

/-- THE SECOND FORM's CARD OF 'foolscaplaw09.FormsAll'. -/
def formsAllUptoCard : Claim7 := { stood := { row := formsAllUptoRow, standIns := [], harness := (true, "384ac26dc611eb658203324ecaa4185974d6ec29d8686fdee8de6b95404533ae"), looks := false }, kinds := [], alts := [], laidByText := true, laidKinds := [.data, .pinned], laidTests := true, laidLooks := .later }
def FormsAllUptoCardSaid : Prop := Claim7.holds Tryz.pinned (.plain (OpenSpec.upto formsAllSpec)) formsAllUptoCard

/-- THE SECOND FORM's CARD OF 'foolscaplaw09.FormsTable'. -/
def formsTableUptoCard : Claim7 := { stood := { row := formsTableUptoRow, standIns := [], harness := (true, "384ac26dc611eb658203324ecaa4185974d6ec29d8686fdee8de6b95404533ae"), looks := false }, kinds := [], alts := [], laidByText := true, laidKinds := [.data, .pinned], laidTests := true, laidLooks := .later }
def FormsTableUptoCardSaid : Prop := Claim7.holds Tryz.pinned (.plain (OpenSpec.upto formsTableSpec)) formsTableUptoCard
end Rows
end Go.Proofs.YtklldmidcmfbdaaGreatDoor
