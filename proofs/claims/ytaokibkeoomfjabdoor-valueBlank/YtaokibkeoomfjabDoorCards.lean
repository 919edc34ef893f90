/-
  DERIVED. GIVEN WITH THE SEED: THE CARDS: each row of YtaokibkeoomfjabDoorRows.lean that lists a variable, with what it lists TIED to the program's text (the seventh form; the later family's looks); each row that meets fmt, with fmt's text TOLD by the authors' own Lean function (tested against real Go, not proved from fmt's source: count such statements apart). THE CARD IS WHAT COUNTS. Prove the row's statement (the work); the ties are given (YtaokibkeoomfjabDoorTie.lean); close each card by the builder's one call (the guide's Derived/Test/ToyasCard.lean, 'card_holds'). Laid BY PROGRAM, IN A SANDBOX (cutbox-door.mjs). By AI agents, Wed Nov 11 2026. No macro, syntax, notation, axiom, sorry.
-/
import Derived.Test.YtaokibkeoomfjabDoorRows
import GoSem.ClaimSeven
namespace Go.Proofs.YtaokibkeoomfjabDoor
namespace Rows

/-- THE TIED CARD OF 'foolscaplaw04.ValueFolds'. -/
def valueFoldsCard : Claim7 := { stood := { row := valueFoldsRow, standIns := [], harness := (true, "0665e855bcbcbb7e7c16efd3ec7f3014b31363041ca03c1b9c9b11c7dca118fd"), looks := false }, kinds := [], alts := [], laidByText := true, laidKinds := [.data, .data, .data, .data, .data, .pinned], laidTests := true, laidLooks := .later }
def ValueFoldsCardSaid : Prop := Claim7.holds Tryd.pinned (.plain (OpenSpec.ofChange valueFoldsSpec)) valueFoldsCard

/-- THE TIED CARD OF 'foolscaplaw04.ValueBlank'. -/
def valueBlankCard : Claim7 := { stood := { row := valueBlankRow, standIns := [], harness := (true, "0665e855bcbcbb7e7c16efd3ec7f3014b31363041ca03c1b9c9b11c7dca118fd"), looks := false }, kinds := [], alts := [], laidByText := true, laidKinds := [.data, .data, .data, .data, .data, .pinned], laidTests := true, laidLooks := .later }
def ValueBlankCardSaid : Prop := Claim7.holds Tryd.pinned (.plain (OpenSpec.ofChange valueBlankSpec)) valueBlankCard

/-- THE SECOND FORM's CARD OF 'foolscaplaw04.ValueFolds'. -/
def valueFoldsUptoCard : Claim7 := { stood := { row := valueFoldsUptoRow, standIns := [], harness := (true, "0665e855bcbcbb7e7c16efd3ec7f3014b31363041ca03c1b9c9b11c7dca118fd"), looks := false }, kinds := [], alts := [], laidByText := true, laidKinds := [.data, .data, .data, .data, .data, .pinned], laidTests := true, laidLooks := .later }
def ValueFoldsUptoCardSaid : Prop := Claim7.holds Tryd.pinned (.plain (OpenSpec.upto valueFoldsSpec)) valueFoldsUptoCard

/-- THE SECOND FORM's CARD OF 'foolscaplaw04.ValueBlank'. -/
def valueBlankUptoCard : Claim7 := { stood := { row := valueBlankUptoRow, standIns := [], harness := (true, "0665e855bcbcbb7e7c16efd3ec7f3014b31363041ca03c1b9c9b11c7dca118fd"), looks := false }, kinds := [], alts := [], laidByText := true, laidKinds := [.data, .data, .data, .data, .data, .pinned], laidTests := true, laidLooks := .later }
def ValueBlankUptoCardSaid : Prop := Claim7.holds Tryd.pinned (.plain (OpenSpec.upto valueBlankSpec)) valueBlankUptoCard
end Rows
end Go.Proofs.YtaokibkeoomfjabDoor
