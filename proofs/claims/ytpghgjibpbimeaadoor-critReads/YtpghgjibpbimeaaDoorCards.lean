/-
  DERIVED. GIVEN WITH THE SEED: THE CARDS: each row of YtpghgjibpbimeaaDoorRows.lean that lists a variable, with what it lists TIED to the program's text (the seventh form; the later family's looks); each row that meets fmt, with fmt's text TOLD by the authors' own Lean function (tested against real Go, not proved from fmt's source: count such statements apart). THE CARD IS WHAT COUNTS. Prove the row's statement (the work); the ties are given (YtpghgjibpbimeaaDoorTie.lean); close each card by the builder's one call (the guide's Derived/Test/ToyasCard.lean, 'card_holds'). Laid BY PROGRAM, IN A SANDBOX (cutbox-door.mjs). By AI agents, Wed Nov 11 2026. No macro, syntax, notation, axiom, sorry.
-/
import Derived.Test.YtpghgjibpbimeaaDoorRows
import GoSem.ClaimSeven
namespace Go.Proofs.YtpghgjibpbimeaaDoor
namespace Rows

/-- THE TIED CARD OF 'foolscaplaw13.CritReads'. -/
def critReadsCard : Claim7 := { stood := { row := critReadsRow, standIns := [], harness := (true, "adeb94ce6ca68b4b0642e9f0b1d9ab0f29e134ef1d3de17bf6c115fc432db3b1"), looks := false }, kinds := [], alts := [], laidByText := true, laidKinds := [.data, .data], laidTests := true, laidLooks := .later }
def CritReadsCardSaid : Prop := Claim7.holds Tryd.pinned (.plain (OpenSpec.ofChange critReadsSpec)) critReadsCard

/-- THE TIED CARD OF 'foolscaplaw13.CritFits'. -/
def critFitsCard : Claim7 := { stood := { row := critFitsRow, standIns := [], harness := (true, "adeb94ce6ca68b4b0642e9f0b1d9ab0f29e134ef1d3de17bf6c115fc432db3b1"), looks := false }, kinds := [], alts := [], laidByText := true, laidKinds := [.data, .data], laidTests := true, laidLooks := .later }
def CritFitsCardSaid : Prop := Claim7.holds Tryd.pinned (.plain (OpenSpec.ofChange critFitsSpec)) critFitsCard

/-- THE TIED CARD OF 'foolscaplaw13.CritMeans'. -/
def critMeansCard : Claim7 := { stood := { row := critMeansRow, standIns := [], harness := (true, "adeb94ce6ca68b4b0642e9f0b1d9ab0f29e134ef1d3de17bf6c115fc432db3b1"), looks := false }, kinds := [], alts := [], laidByText := true, laidKinds := [.data, .data], laidTests := true, laidLooks := .later }
def CritMeansCardSaid : Prop := Claim7.holds Tryd.pinned (.plain (OpenSpec.ofChange critMeansSpec)) critMeansCard

/-- THE TIED CARD OF 'foolscaplaw13.CritPatterns'. -/
def critPatternsCard : Claim7 := { stood := { row := critPatternsRow, standIns := [], harness := (true, "adeb94ce6ca68b4b0642e9f0b1d9ab0f29e134ef1d3de17bf6c115fc432db3b1"), looks := false }, kinds := [], alts := [], laidByText := true, laidKinds := [.data, .data], laidTests := true, laidLooks := .later }
def CritPatternsCardSaid : Prop := Claim7.holds Tryd.pinned (.plain (OpenSpec.ofChange critPatternsSpec)) critPatternsCard

/-- THE TIED CARD OF 'foolscaplaw13.CritOther'. -/
def critOtherCard : Claim7 := { stood := { row := critOtherRow, standIns := [], harness := (true, "adeb94ce6ca68b4b0642e9f0b1d9ab0f29e134ef1d3de17bf6c115fc432db3b1"), looks := false }, kinds := [], alts := [], laidByText := true, laidKinds := [.data, .data], laidTests := true, laidLooks := .later }
def CritOtherCardSaid : Prop := Claim7.holds Tryd.pinned (.plain (OpenSpec.ofChange critOtherSpec)) critOtherCard

/-- THE SECOND FORM's CARD OF 'foolscaplaw13.CritReads'. -/
def critReadsUptoCard : Claim7 := { stood := { row := critReadsUptoRow, standIns := [], harness := (true, "adeb94ce6ca68b4b0642e9f0b1d9ab0f29e134ef1d3de17bf6c115fc432db3b1"), looks := false }, kinds := [], alts := [], laidByText := true, laidKinds := [.data, .data], laidTests := true, laidLooks := .later }
def CritReadsUptoCardSaid : Prop := Claim7.holds Tryd.pinned (.plain (OpenSpec.upto critReadsSpec)) critReadsUptoCard

/-- THE SECOND FORM's CARD OF 'foolscaplaw13.CritFits'. -/
def critFitsUptoCard : Claim7 := { stood := { row := critFitsUptoRow, standIns := [], harness := (true, "adeb94ce6ca68b4b0642e9f0b1d9ab0f29e134ef1d3de17bf6c115fc432db3b1"), looks := false }, kinds := [], alts := [], laidByText := true, laidKinds := [.data, .data], laidTests := true, laidLooks := .later }
def CritFitsUptoCardSaid : Prop := Claim7.holds Tryd.pinned (.plain (OpenSpec.upto critFitsSpec)) critFitsUptoCard

/-- THE SECOND FORM's CARD OF 'foolscaplaw13.CritMeans'. -/
def critMeansUptoCard : Claim7 := { stood := { row := critMeansUptoRow, standIns := [], harness := (true, "adeb94ce6ca68b4b0642e9f0b1d9ab0f29e134ef1d3de17bf6c115fc432db3b1"), looks := false }, kinds := [], alts := [], laidByText := true, laidKinds := [.data, .data], laidTests := true, laidLooks := .later }
def CritMeansUptoCardSaid : Prop := Claim7.holds Tryd.pinned (.plain (OpenSpec.upto critMeansSpec)) critMeansUptoCard

/-- THE SECOND FORM's CARD OF 'foolscaplaw13.CritPatterns'. -/
def critPatternsUptoCard : Claim7 := { stood := { row := critPatternsUptoRow, standIns := [], harness := (true, "adeb94ce6ca68b4b0642e9f0b1d9ab0f29e134ef1d3de17bf6c115fc432db3b1"), looks := false }, kinds := [], alts := [], laidByText := true, laidKinds := [.data, .data], laidTests := true, laidLooks := .later }
def CritPatternsUptoCardSaid : Prop := Claim7.holds Tryd.pinned (.plain (OpenSpec.upto critPatternsSpec)) critPatternsUptoCard

/-- THE SECOND FORM's CARD OF 'foolscaplaw13.CritOther'. -/
def critOtherUptoCard : Claim7 := { stood := { row := critOtherUptoRow, standIns := [], harness := (true, "adeb94ce6ca68b4b0642e9f0b1d9ab0f29e134ef1d3de17bf6c115fc432db3b1"), looks := false }, kinds := [], alts := [], laidByText := true, laidKinds := [.data, .data], laidTests := true, laidLooks := .later }
def CritOtherUptoCardSaid : Prop := Claim7.holds Tryd.pinned (.plain (OpenSpec.upto critOtherSpec)) critOtherUptoCard
end Rows
end Go.Proofs.YtpghgjibpbimeaaDoor
