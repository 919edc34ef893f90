/-
  DERIVED. GIVEN WITH THE SEED: THE CARDS: each row of YtjhldifilfkebabDoorRows.lean that lists a variable, with what it lists TIED to the program's text (the seventh form; the later family's looks); each row that meets fmt, with fmt's text TOLD by the authors' own Lean function (tested against real Go, not proved from fmt's source: count such statements apart). THE CARD IS WHAT COUNTS. Prove the row's statement (the work); the ties are given (YtjhldifilfkebabDoorTie.lean); close each card by the builder's one call (the guide's Derived/Test/ToyasCard.lean, 'card_holds'). Laid BY PROGRAM, IN A SANDBOX (cutbox-door.mjs). By AI agents, Wed Nov 11 2026. No macro, syntax, notation, axiom, sorry.
-/
import Derived.Test.YtjhldifilfkebabDoorRows
import GoSem.ClaimSeven
namespace Go.Proofs.YtjhldifilfkebabDoor
namespace Rows

/-- THE TIED CARD OF 'foolscaplaw01.NumHalves'. -/
def numHalvesCard : Claim7 := { stood := { row := numHalvesRow, standIns := [], harness := (true, "e88370c6ba687c73bba65fe752bb42d19dbe0c87ecf6a85bd493334a2efd3544"), looks := false }, kinds := [], alts := [], laidByText := true, laidKinds := [.data, .data, .data, .data, .pinned], laidTests := true, laidLooks := .later }
def NumHalvesCardSaid : Prop := Claim7.holds Tryd.pinned (.plain (OpenSpec.ofChange numHalvesSpec)) numHalvesCard

/-- THE TIED CARD OF 'foolscaplaw01.NumOrder'. -/
def numOrderCard : Claim7 := { stood := { row := numOrderRow, standIns := [], harness := (true, "e88370c6ba687c73bba65fe752bb42d19dbe0c87ecf6a85bd493334a2efd3544"), looks := false }, kinds := [], alts := [], laidByText := true, laidKinds := [.data, .data, .data, .data, .pinned], laidTests := true, laidLooks := .later }
def NumOrderCardSaid : Prop := Claim7.holds Tryd.pinned (.plain (OpenSpec.ofChange numOrderSpec)) numOrderCard

/-- THE TIED CARD OF 'foolscaplaw01.NumDivides'. -/
def numDividesCard : Claim7 := { stood := { row := numDividesRow, standIns := [], harness := (true, "e88370c6ba687c73bba65fe752bb42d19dbe0c87ecf6a85bd493334a2efd3544"), looks := false }, kinds := [], alts := [], laidByText := true, laidKinds := [.data, .data, .data, .data, .pinned], laidTests := true, laidLooks := .later }
def NumDividesCardSaid : Prop := Claim7.holds Tryd.pinned (.plain (OpenSpec.ofChange numDividesSpec)) numDividesCard

/-- THE SECOND FORM's CARD OF 'foolscaplaw01.NumHalves'. -/
def numHalvesUptoCard : Claim7 := { stood := { row := numHalvesUptoRow, standIns := [], harness := (true, "e88370c6ba687c73bba65fe752bb42d19dbe0c87ecf6a85bd493334a2efd3544"), looks := false }, kinds := [], alts := [], laidByText := true, laidKinds := [.data, .data, .data, .data, .pinned], laidTests := true, laidLooks := .later }
def NumHalvesUptoCardSaid : Prop := Claim7.holds Tryd.pinned (.plain (OpenSpec.upto numHalvesSpec)) numHalvesUptoCard

/-- THE SECOND FORM's CARD OF 'foolscaplaw01.NumOrder'. -/
def numOrderUptoCard : Claim7 := { stood := { row := numOrderUptoRow, standIns := [], harness := (true, "e88370c6ba687c73bba65fe752bb42d19dbe0c87ecf6a85bd493334a2efd3544"), looks := false }, kinds := [], alts := [], laidByText := true, laidKinds := [.data, .data, .data, .data, .pinned], laidTests := true, laidLooks := .later }
def NumOrderUptoCardSaid : Prop := Claim7.holds Tryd.pinned (.plain (OpenSpec.upto numOrderSpec)) numOrderUptoCard

/-- THE SECOND FORM's CARD OF 'foolscaplaw01.NumDivides'. -/
def numDividesUptoCard : Claim7 := { stood := { row := numDividesUptoRow, standIns := [], harness := (true, "e88370c6ba687c73bba65fe752bb42d19dbe0c87ecf6a85bd493334a2efd3544"), looks := false }, kinds := [], alts := [], laidByText := true, laidKinds := [.data, .data, .data, .data, .pinned], laidTests := true, laidLooks := .later }
def NumDividesUptoCardSaid : Prop := Claim7.holds Tryd.pinned (.plain (OpenSpec.upto numDividesSpec)) numDividesUptoCard
end Rows
end Go.Proofs.YtjhldifilfkebabDoor
