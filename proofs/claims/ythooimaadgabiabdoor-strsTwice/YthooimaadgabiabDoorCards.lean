/-
  DERIVED. GIVEN WITH THE SEED: THE CARDS: each row of YthooimaadgabiabDoorRows.lean that lists a variable, with what it lists TIED to the program's text (the seventh form; the later family's looks); each row that meets fmt, with fmt's text TOLD by the authors' own Lean function (tested against real Go, not proved from fmt's source: count such statements apart). THE CARD IS WHAT COUNTS. Prove the row's statement (the work); the ties are given (YthooimaadgabiabDoorTie.lean); close each card by the builder's one call (the guide's Derived/Test/ToyasCard.lean, 'card_holds'). Laid BY PROGRAM, IN A SANDBOX (cutbox-door.mjs). By AI agents, Wed Nov 11 2026. No macro, syntax, notation, axiom, sorry.
-/
import Derived.Test.YthooimaadgabiabDoorRows
import GoSem.ClaimSeven
namespace Go.Proofs.YthooimaadgabiabDoor
namespace Rows

/-- THE TIED CARD OF 'foolscaplaw14.StrsPut'. -/
def strsPutCard : Claim7 := { stood := { row := strsPutRow, standIns := [], harness := (true, "a689c08edeadd10b35a771c845eeaa28621bea60bcfc13db4a86628fa296556c"), looks := true }, kinds := [], alts := [], laidByText := true, laidKinds := [.data, .pinned], laidTests := true, laidLooks := .later }
def StrsPutCardSaid : Prop := Claim7.holds Tryd.pinned (.plain (OpenSpec.ofChange strsPutSpec)) strsPutCard

/-- THE TIED CARD OF 'foolscaplaw14.StrsTwice'. -/
def strsTwiceCard : Claim7 := { stood := { row := strsTwiceRow, standIns := [], harness := (true, "a689c08edeadd10b35a771c845eeaa28621bea60bcfc13db4a86628fa296556c"), looks := true }, kinds := [], alts := [], laidByText := true, laidKinds := [.data, .pinned], laidTests := true, laidLooks := .later }
def StrsTwiceCardSaid : Prop := Claim7.holds Tryd.pinned (.plain (OpenSpec.ofChange strsTwiceSpec)) strsTwiceCard

/-- THE TIED CARD OF 'foolscaplaw14.StrsTurns'. -/
def strsTurnsCard : Claim7 := { stood := { row := strsTurnsRow, standIns := [], harness := (true, "a689c08edeadd10b35a771c845eeaa28621bea60bcfc13db4a86628fa296556c"), looks := true }, kinds := [], alts := [], laidByText := true, laidKinds := [.data, .pinned], laidTests := true, laidLooks := .later }
def StrsTurnsCardSaid : Prop := Claim7.holds Tryd.pinned (.plain (OpenSpec.ofChange strsTurnsSpec)) strsTurnsCard

/-- THE SECOND FORM's CARD OF 'foolscaplaw14.StrsPut'. -/
def strsPutUptoCard : Claim7 := { stood := { row := strsPutUptoRow, standIns := [], harness := (true, "a689c08edeadd10b35a771c845eeaa28621bea60bcfc13db4a86628fa296556c"), looks := true }, kinds := [], alts := [], laidByText := true, laidKinds := [.data, .pinned], laidTests := true, laidLooks := .later }
def StrsPutUptoCardSaid : Prop := Claim7.holds Tryd.pinned (.plain (OpenSpec.upto strsPutSpec)) strsPutUptoCard

/-- THE SECOND FORM's CARD OF 'foolscaplaw14.StrsTwice'. -/
def strsTwiceUptoCard : Claim7 := { stood := { row := strsTwiceUptoRow, standIns := [], harness := (true, "a689c08edeadd10b35a771c845eeaa28621bea60bcfc13db4a86628fa296556c"), looks := true }, kinds := [], alts := [], laidByText := true, laidKinds := [.data, .pinned], laidTests := true, laidLooks := .later }
def StrsTwiceUptoCardSaid : Prop := Claim7.holds Tryd.pinned (.plain (OpenSpec.upto strsTwiceSpec)) strsTwiceUptoCard

/-- THE SECOND FORM's CARD OF 'foolscaplaw14.StrsTurns'. -/
def strsTurnsUptoCard : Claim7 := { stood := { row := strsTurnsUptoRow, standIns := [], harness := (true, "a689c08edeadd10b35a771c845eeaa28621bea60bcfc13db4a86628fa296556c"), looks := true }, kinds := [], alts := [], laidByText := true, laidKinds := [.data, .pinned], laidTests := true, laidLooks := .later }
def StrsTurnsUptoCardSaid : Prop := Claim7.holds Tryd.pinned (.plain (OpenSpec.upto strsTurnsSpec)) strsTurnsUptoCard
end Rows
end Go.Proofs.YthooimaadgabiabDoor
