/-
  DERIVED. GIVEN WITH THE SEED: THE CARDS: each row of YtijjnchedgllgaaDoorRows.lean that lists a variable, with what it lists TIED to the program's text (the seventh form; the later family's looks); each row that meets fmt, with fmt's text TOLD by the authors' own Lean function (tested against real Go, not proved from fmt's source: count such statements apart). THE CARD IS WHAT COUNTS. Prove the row's statement (the work); the ties are given (YtijjnchedgllgaaDoorTie.lean); close each card by the builder's one call (the guide's Derived/Test/ToyasCard.lean, 'card_holds'). Laid BY PROGRAM, IN A SANDBOX (cutbox-door.mjs). By AI agents, Wed Nov 11 2026. No macro, syntax, notation, axiom, sorry.
-/
import Derived.Test.YtijjnchedgllgaaDoorRows
import GoSem.ClaimSeven
namespace Go.Proofs.YtijjnchedgllgaaDoor
namespace Rows

/-- THE TIED CARD OF 'foolscaplaw09.FormsFinds'. -/
def formsFindsCard : Claim7 := { stood := { row := formsFindsRow, standIns := [], harness := (true, "52da9ec441db93bb0acdb44b388ad1d1325a63333cb664135fe475e1fd8bc462"), looks := false }, kinds := [], alts := [], laidByText := true, laidKinds := [.data, .pinned], laidTests := true, laidLooks := .later }
def FormsFindsCardSaid : Prop := Claim7.holds Tryd.pinned (.plain (OpenSpec.ofChange formsFindsSpec)) formsFindsCard

/-- THE TIED CARD OF 'foolscaplaw09.FormsChecks'. -/
def formsChecksCard : Claim7 := { stood := { row := formsChecksRow, standIns := [], harness := (true, "52da9ec441db93bb0acdb44b388ad1d1325a63333cb664135fe475e1fd8bc462"), looks := false }, kinds := [], alts := [], laidByText := true, laidKinds := [.data, .pinned], laidTests := true, laidLooks := .later }
def FormsChecksCardSaid : Prop := Claim7.holds Tryd.pinned (.plain (OpenSpec.ofChange formsChecksSpec)) formsChecksCard

/-- THE TIED CARD OF 'foolscaplaw09.FormsRects'. -/
def formsRectsCard : Claim7 := { stood := { row := formsRectsRow, standIns := [], harness := (true, "52da9ec441db93bb0acdb44b388ad1d1325a63333cb664135fe475e1fd8bc462"), looks := false }, kinds := [], alts := [], laidByText := true, laidKinds := [.data, .pinned], laidTests := true, laidLooks := .later }
def FormsRectsCardSaid : Prop := Claim7.holds Tryd.pinned (.plain (OpenSpec.ofChange formsRectsSpec)) formsRectsCard

/-- THE TIED CARD OF 'foolscaplaw09.FormsKids'. -/
def formsKidsCard : Claim7 := { stood := { row := formsKidsRow, standIns := [], harness := (true, "52da9ec441db93bb0acdb44b388ad1d1325a63333cb664135fe475e1fd8bc462"), looks := false }, kinds := [], alts := [], laidByText := true, laidKinds := [.data, .pinned], laidTests := true, laidLooks := .later }
def FormsKidsCardSaid : Prop := Claim7.holds Tryd.pinned (.plain (OpenSpec.ofChange formsKidsSpec)) formsKidsCard

/-- THE SECOND FORM's CARD OF 'foolscaplaw09.FormsFinds'. -/
def formsFindsUptoCard : Claim7 := { stood := { row := formsFindsUptoRow, standIns := [], harness := (true, "52da9ec441db93bb0acdb44b388ad1d1325a63333cb664135fe475e1fd8bc462"), looks := false }, kinds := [], alts := [], laidByText := true, laidKinds := [.data, .pinned], laidTests := true, laidLooks := .later }
def FormsFindsUptoCardSaid : Prop := Claim7.holds Tryd.pinned (.plain (OpenSpec.upto formsFindsSpec)) formsFindsUptoCard

/-- THE SECOND FORM's CARD OF 'foolscaplaw09.FormsChecks'. -/
def formsChecksUptoCard : Claim7 := { stood := { row := formsChecksUptoRow, standIns := [], harness := (true, "52da9ec441db93bb0acdb44b388ad1d1325a63333cb664135fe475e1fd8bc462"), looks := false }, kinds := [], alts := [], laidByText := true, laidKinds := [.data, .pinned], laidTests := true, laidLooks := .later }
def FormsChecksUptoCardSaid : Prop := Claim7.holds Tryd.pinned (.plain (OpenSpec.upto formsChecksSpec)) formsChecksUptoCard

/-- THE SECOND FORM's CARD OF 'foolscaplaw09.FormsRects'. -/
def formsRectsUptoCard : Claim7 := { stood := { row := formsRectsUptoRow, standIns := [], harness := (true, "52da9ec441db93bb0acdb44b388ad1d1325a63333cb664135fe475e1fd8bc462"), looks := false }, kinds := [], alts := [], laidByText := true, laidKinds := [.data, .pinned], laidTests := true, laidLooks := .later }
def FormsRectsUptoCardSaid : Prop := Claim7.holds Tryd.pinned (.plain (OpenSpec.upto formsRectsSpec)) formsRectsUptoCard

/-- THE SECOND FORM's CARD OF 'foolscaplaw09.FormsKids'. -/
def formsKidsUptoCard : Claim7 := { stood := { row := formsKidsUptoRow, standIns := [], harness := (true, "52da9ec441db93bb0acdb44b388ad1d1325a63333cb664135fe475e1fd8bc462"), looks := false }, kinds := [], alts := [], laidByText := true, laidKinds := [.data, .pinned], laidTests := true, laidLooks := .later }
def FormsKidsUptoCardSaid : Prop := Claim7.holds Tryd.pinned (.plain (OpenSpec.upto formsKidsSpec)) formsKidsUptoCard
end Rows
end Go.Proofs.YtijjnchedgllgaaDoor
