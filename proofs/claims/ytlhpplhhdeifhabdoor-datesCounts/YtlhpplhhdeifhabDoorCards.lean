/-
  DERIVED. GIVEN WITH THE SEED: THE CARDS: each row of YtlhpplhhdeifhabDoorRows.lean that lists a variable, with what it lists TIED to the program's text (the seventh form; the later family's looks); each row that meets fmt, with fmt's text TOLD by the authors' own Lean function (tested against real Go, not proved from fmt's source: count such statements apart). THE CARD IS WHAT COUNTS. Prove the row's statement (the work); the ties are given (YtlhpplhhdeifhabDoorTie.lean); close each card by the builder's one call (the guide's Derived/Test/ToyasCard.lean, 'card_holds'). Laid BY PROGRAM, IN A SANDBOX (cutbox-door.mjs). By AI agents, Wed Nov 11 2026. No macro, syntax, notation, axiom, sorry.
-/
import Derived.Test.YtlhpplhhdeifhabDoorRows
import GoSem.ClaimSeven
namespace Go.Proofs.YtlhpplhhdeifhabDoor
namespace Rows

/-- THE TIED CARD OF 'foolscaplaw11.DatesLeap'. -/
def datesLeapCard : Claim7 := { stood := { row := datesLeapRow, standIns := [], harness := (true, "42f556e1bfdfc5903132424b074c5d599d82528d228e597e30ed1f7f01aeaa7a"), looks := true }, kinds := [], alts := [], laidByText := true, laidKinds := [.data, .data, .data, .sentinel, .sentinel, .data], laidTests := true, laidLooks := .later }
def DatesLeapCardSaid : Prop := Claim7.holds Tryd.pinned (.plain (OpenSpec.ofChange datesLeapSpec)) datesLeapCard

/-- THE TIED CARD OF 'foolscaplaw11.DatesThere'. -/
def datesThereCard : Claim7 := { stood := { row := datesThereRow, standIns := [], harness := (true, "42f556e1bfdfc5903132424b074c5d599d82528d228e597e30ed1f7f01aeaa7a"), looks := true }, kinds := [], alts := [], laidByText := true, laidKinds := [.data, .data, .data, .sentinel, .sentinel, .data], laidTests := true, laidLooks := .later }
def DatesThereCardSaid : Prop := Claim7.holds Tryd.pinned (.plain (OpenSpec.ofChange datesThereSpec)) datesThereCard

/-- THE TIED CARD OF 'foolscaplaw11.DatesCounts'. -/
def datesCountsCard : Claim7 := { stood := { row := datesCountsRow, standIns := [], harness := (true, "42f556e1bfdfc5903132424b074c5d599d82528d228e597e30ed1f7f01aeaa7a"), looks := true }, kinds := [], alts := [], laidByText := true, laidKinds := [.data, .data, .data, .sentinel, .sentinel, .data], laidTests := true, laidLooks := .later }
def DatesCountsCardSaid : Prop := Claim7.holds Tryd.pinned (.plain (OpenSpec.ofChange datesCountsSpec)) datesCountsCard

/-- THE SECOND FORM's CARD OF 'foolscaplaw11.DatesLeap'. -/
def datesLeapUptoCard : Claim7 := { stood := { row := datesLeapUptoRow, standIns := [], harness := (true, "42f556e1bfdfc5903132424b074c5d599d82528d228e597e30ed1f7f01aeaa7a"), looks := true }, kinds := [], alts := [], laidByText := true, laidKinds := [.data, .data, .data, .sentinel, .sentinel, .data], laidTests := true, laidLooks := .later }
def DatesLeapUptoCardSaid : Prop := Claim7.holds Tryd.pinned (.plain (OpenSpec.upto datesLeapSpec)) datesLeapUptoCard

/-- THE SECOND FORM's CARD OF 'foolscaplaw11.DatesThere'. -/
def datesThereUptoCard : Claim7 := { stood := { row := datesThereUptoRow, standIns := [], harness := (true, "42f556e1bfdfc5903132424b074c5d599d82528d228e597e30ed1f7f01aeaa7a"), looks := true }, kinds := [], alts := [], laidByText := true, laidKinds := [.data, .data, .data, .sentinel, .sentinel, .data], laidTests := true, laidLooks := .later }
def DatesThereUptoCardSaid : Prop := Claim7.holds Tryd.pinned (.plain (OpenSpec.upto datesThereSpec)) datesThereUptoCard

/-- THE SECOND FORM's CARD OF 'foolscaplaw11.DatesCounts'. -/
def datesCountsUptoCard : Claim7 := { stood := { row := datesCountsUptoRow, standIns := [], harness := (true, "42f556e1bfdfc5903132424b074c5d599d82528d228e597e30ed1f7f01aeaa7a"), looks := true }, kinds := [], alts := [], laidByText := true, laidKinds := [.data, .data, .data, .sentinel, .sentinel, .data], laidTests := true, laidLooks := .later }
def DatesCountsUptoCardSaid : Prop := Claim7.holds Tryd.pinned (.plain (OpenSpec.upto datesCountsSpec)) datesCountsUptoCard
end Rows
end Go.Proofs.YtlhpplhhdeifhabDoor
