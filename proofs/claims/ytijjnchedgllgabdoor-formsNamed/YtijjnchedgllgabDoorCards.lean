/-
  DERIVED. GIVEN WITH THE SEED: THE CARDS: each row of YtijjnchedgllgabDoorRows.lean that lists a variable, with what it lists TIED to the program's text (the seventh form; the later family's looks); each row that meets fmt, with fmt's text TOLD by the authors' own Lean function (tested against real Go, not proved from fmt's source: count such statements apart). THE CARD IS WHAT COUNTS. Prove the row's statement (the work); the ties are given (YtijjnchedgllgabDoorTie.lean); close each card by the builder's one call (the guide's Derived/Test/ToyasCard.lean, 'card_holds'). Laid BY PROGRAM, IN A SANDBOX (cutbox-door.mjs). By AI agents, Wed Nov 11 2026. No macro, syntax, notation, axiom, sorry.
-/
import Derived.Test.YtijjnchedgllgabDoorRows
import GoSem.ClaimSeven
namespace Go.Proofs.YtijjnchedgllgabDoor
namespace Rows

/-- THE TIED CARD OF 'foolscaplaw09.FormsNamed'. -/
def formsNamedCard : Claim7 := { stood := { row := formsNamedRow, standIns := [], harness := (true, "26364917be3e43f0bc4ee05cdf227f5d891a65eff0cfa0bda76fc9a5a8e01220"), looks := false }, kinds := [], alts := [], laidByText := true, laidKinds := [.data, .pinned], laidTests := true, laidLooks := .later }
def FormsNamedCardSaid : Prop := Claim7.holds Tryd.pinned (.plain (OpenSpec.ofChange formsNamedSpec)) formsNamedCard

/-- THE SECOND FORM's CARD OF 'foolscaplaw09.FormsNamed'. -/
def formsNamedUptoCard : Claim7 := { stood := { row := formsNamedUptoRow, standIns := [], harness := (true, "26364917be3e43f0bc4ee05cdf227f5d891a65eff0cfa0bda76fc9a5a8e01220"), looks := false }, kinds := [], alts := [], laidByText := true, laidKinds := [.data, .pinned], laidTests := true, laidLooks := .later }
def FormsNamedUptoCardSaid : Prop := Claim7.holds Tryd.pinned (.plain (OpenSpec.upto formsNamedSpec)) formsNamedUptoCard
end Rows
end Go.Proofs.YtijjnchedgllgabDoor
