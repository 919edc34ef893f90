/-
  DERIVED. GIVEN WITH THE SEED: THE CARDS: each row of YthooimaadgabiaaDoorRows.lean that lists a variable, with what it lists TIED to the program's text (the seventh form; the later family's looks); each row that meets fmt, with fmt's text TOLD by the authors' own Lean function (tested against real Go, not proved from fmt's source: count such statements apart). THE CARD IS WHAT COUNTS. Prove the row's statement (the work); the ties are given (YthooimaadgabiaaDoorTie.lean); close each card by the builder's one call (the guide's Derived/Test/ToyasCard.lean, 'card_holds'). Laid BY PROGRAM, IN A SANDBOX (cutbox-door.mjs). By AI agents, Wed Nov 11 2026. No macro, syntax, notation, axiom, sorry.
-/
import Derived.Test.YthooimaadgabiaaDoorRows
import GoSem.ClaimSeven
namespace Go.Proofs.YthooimaadgabiaaDoor
namespace Rows

/-- THE TIED CARD OF 'foolscaplaw14.StrsParts'. -/
def strsPartsCard : Claim7 := { stood := { row := strsPartsRow, standIns := [], harness := (true, "61dae44b3c998b45595eabea60074107ecf62e23a04091567eef403f6789651a"), looks := true }, kinds := [], alts := [], laidByText := true, laidKinds := [.data, .pinned], laidTests := true, laidLooks := .later }
def StrsPartsCardSaid : Prop := Claim7.holds Tryd.pinned (.plain (OpenSpec.ofChange strsPartsSpec)) strsPartsCard

/-- THE TIED CARD OF 'foolscaplaw14.StrsFinds'. -/
def strsFindsCard : Claim7 := { stood := { row := strsFindsRow, standIns := [], harness := (true, "61dae44b3c998b45595eabea60074107ecf62e23a04091567eef403f6789651a"), looks := true }, kinds := [], alts := [], laidByText := true, laidKinds := [.data, .pinned], laidTests := true, laidLooks := .later }
def StrsFindsCardSaid : Prop := Claim7.holds Tryd.pinned (.plain (OpenSpec.ofChange strsFindsSpec)) strsFindsCard

/-- THE TIED CARD OF 'foolscaplaw14.StrsChanges'. -/
def strsChangesCard : Claim7 := { stood := { row := strsChangesRow, standIns := [], harness := (true, "61dae44b3c998b45595eabea60074107ecf62e23a04091567eef403f6789651a"), looks := true }, kinds := [], alts := [], laidByText := true, laidKinds := [.data, .pinned], laidTests := true, laidLooks := .later }
def StrsChangesCardSaid : Prop := Claim7.holds Tryd.pinned (.plain (OpenSpec.ofChange strsChangesSpec)) strsChangesCard

/-- THE TIED CARD OF 'foolscaplaw14.StrsMakes'. -/
def strsMakesCard : Claim7 := { stood := { row := strsMakesRow, standIns := [], harness := (true, "61dae44b3c998b45595eabea60074107ecf62e23a04091567eef403f6789651a"), looks := true }, kinds := [], alts := [], laidByText := true, laidKinds := [.data, .pinned], laidTests := true, laidLooks := .later }
def StrsMakesCardSaid : Prop := Claim7.holds Tryd.pinned (.plain (OpenSpec.ofChange strsMakesSpec)) strsMakesCard

/-- THE TIED CARD OF 'foolscaplaw14.StrsWhole'. -/
def strsWholeCard : Claim7 := { stood := { row := strsWholeRow, standIns := [], harness := (true, "61dae44b3c998b45595eabea60074107ecf62e23a04091567eef403f6789651a"), looks := true }, kinds := [], alts := [], laidByText := true, laidKinds := [.data, .pinned], laidTests := true, laidLooks := .later }
def StrsWholeCardSaid : Prop := Claim7.holds Tryd.pinned (.plain (OpenSpec.ofChange strsWholeSpec)) strsWholeCard

/-- THE TIED CARD OF 'foolscaplaw14.StrsFound'. -/
def strsFoundCard : Claim7 := { stood := { row := strsFoundRow, standIns := [], harness := (true, "61dae44b3c998b45595eabea60074107ecf62e23a04091567eef403f6789651a"), looks := true }, kinds := [], alts := [], laidByText := true, laidKinds := [.data, .pinned], laidTests := true, laidLooks := .later }
def StrsFoundCardSaid : Prop := Claim7.holds Tryd.pinned (.plain (OpenSpec.ofChange strsFoundSpec)) strsFoundCard

/-- THE SECOND FORM's CARD OF 'foolscaplaw14.StrsParts'. -/
def strsPartsUptoCard : Claim7 := { stood := { row := strsPartsUptoRow, standIns := [], harness := (true, "61dae44b3c998b45595eabea60074107ecf62e23a04091567eef403f6789651a"), looks := true }, kinds := [], alts := [], laidByText := true, laidKinds := [.data, .pinned], laidTests := true, laidLooks := .later }
def StrsPartsUptoCardSaid : Prop := Claim7.holds Tryd.pinned (.plain (OpenSpec.upto strsPartsSpec)) strsPartsUptoCard

/-- THE SECOND FORM's CARD OF 'foolscaplaw14.StrsFinds'. -/
def strsFindsUptoCard : Claim7 := { stood := { row := strsFindsUptoRow, standIns := [], harness := (true, "61dae44b3c998b45595eabea60074107ecf62e23a04091567eef403f6789651a"), looks := true }, kinds := [], alts := [], laidByText := true, laidKinds := [.data, .pinned], laidTests := true, laidLooks := .later }
def StrsFindsUptoCardSaid : Prop := Claim7.holds Tryd.pinned (.plain (OpenSpec.upto strsFindsSpec)) strsFindsUptoCard

/-- THE SECOND FORM's CARD OF 'foolscaplaw14.StrsChanges'. -/
def strsChangesUptoCard : Claim7 := { stood := { row := strsChangesUptoRow, standIns := [], harness := (true, "61dae44b3c998b45595eabea60074107ecf62e23a04091567eef403f6789651a"), looks := true }, kinds := [], alts := [], laidByText := true, laidKinds := [.data, .pinned], laidTests := true, laidLooks := .later }
def StrsChangesUptoCardSaid : Prop := Claim7.holds Tryd.pinned (.plain (OpenSpec.upto strsChangesSpec)) strsChangesUptoCard

/-- THE SECOND FORM's CARD OF 'foolscaplaw14.StrsMakes'. -/
def strsMakesUptoCard : Claim7 := { stood := { row := strsMakesUptoRow, standIns := [], harness := (true, "61dae44b3c998b45595eabea60074107ecf62e23a04091567eef403f6789651a"), looks := true }, kinds := [], alts := [], laidByText := true, laidKinds := [.data, .pinned], laidTests := true, laidLooks := .later }
def StrsMakesUptoCardSaid : Prop := Claim7.holds Tryd.pinned (.plain (OpenSpec.upto strsMakesSpec)) strsMakesUptoCard

/-- THE SECOND FORM's CARD OF 'foolscaplaw14.StrsWhole'. -/
def strsWholeUptoCard : Claim7 := { stood := { row := strsWholeUptoRow, standIns := [], harness := (true, "61dae44b3c998b45595eabea60074107ecf62e23a04091567eef403f6789651a"), looks := true }, kinds := [], alts := [], laidByText := true, laidKinds := [.data, .pinned], laidTests := true, laidLooks := .later }
def StrsWholeUptoCardSaid : Prop := Claim7.holds Tryd.pinned (.plain (OpenSpec.upto strsWholeSpec)) strsWholeUptoCard

/-- THE SECOND FORM's CARD OF 'foolscaplaw14.StrsFound'. -/
def strsFoundUptoCard : Claim7 := { stood := { row := strsFoundUptoRow, standIns := [], harness := (true, "61dae44b3c998b45595eabea60074107ecf62e23a04091567eef403f6789651a"), looks := true }, kinds := [], alts := [], laidByText := true, laidKinds := [.data, .pinned], laidTests := true, laidLooks := .later }
def StrsFoundUptoCardSaid : Prop := Claim7.holds Tryd.pinned (.plain (OpenSpec.upto strsFoundSpec)) strsFoundUptoCard
end Rows
end Go.Proofs.YthooimaadgabiaaDoor
