/-
  NARROWER THAN 'FOR EVERY INPUT', by the rows' own cells (each row's printed sentence says how): CritQuiet: laid · CritJoins: laid · CritSame: laid.
  DERIVED. THE GIVEN ROWS OF THIS SEAT. 3 by the template 'for every input the law returns true; each argument reads behind the call as it read before'; 0 by the template 'total and deterministic' (their statements: YtpghgjibpbimeabDoorTotals.lean).
  GIVEN WITH THE SEED: the statements are not yours to turn. If you find one false, say at which input.
  Laid BY PROGRAM, IN A SANDBOX (cutbox-rows.mjs): the forced cells as the released guide's own fill.sh prints them over the translation 504307c15067e236… (all of the seat's roots in one cut). By AI agents, Wed Nov 11 2026. No macro, syntax, notation, axiom, sorry.
-/
import Derived.Test.YtpghgjibpbimeabDoorChecked
import GoSem.Claim
import GoSem.ClaimJoined
import GoSem.ClaimMapViews
import Derived.JoinedTies
import Derived.KernelRfl
namespace Go.Proofs.YtpghgjibpbimeabDoor
/- THE CELL 'sum', in the pinned program and in every row, IS THE sha256 OF THE DUMP (.gsa) THAT YtpghgjibpbimeabDoorProg.lean LOADS. Nothing in Lean hashes anything: it is a label: what it is worth is what the hold of that sum in a sandbox is worth. -/
noncomputable def Tryd.pinned : Pinned := { name := "ytpghgjibpbimeabdoor", sum := "504307c15067e236ce0191c4da170002efd67bead2d57c66bc0db969492edf46", checked := Tryd.checked }
namespace Rows
def none {H : Type} : Left H := { results := [], args := [] }

/- WHAT THE LISTED PACKAGE-LEVEL VARIABLES READ AS WHEN THE CALL BEGINS. Each datum BY PROGRAM (the guide's laid-datum.mjs) off the statement by which the dump's own 'gosem.cut.vars' lays the variable. In a bare row this is a premise. The card (YtpghgjibpbimeabDoorCards.lean) ties it to the program's text. -/
def laid_foolscap_value_names {H : Type} : DataW H := .agg [.lit (.string []), .lit (.string [35, 68, 73, 86, 47, 48, 33]), .lit (.string [35, 86, 65, 76, 85, 69, 33]), .lit (.string [35, 82, 69, 70, 33]), .lit (.string [35, 78, 65, 77, 69, 63]), .lit (.string [35, 78, 85, 77, 33]), .lit (.string [35, 78, 47, 65]), .lit (.string [35, 67, 89, 67, 76, 69, 33])]
def laid_foolscap_crit_signs {H : Type} : DataW H := .agg [.lit (.string [60, 62]), .lit (.string [60, 61]), .lit (.string [62, 61]), .lit (.string [61]), .lit (.string [60]), .lit (.string [62])]

/-- 'foolscaplaw13.CritQuiet': WHATEVER THE INPUT: true; the input reads as it did. -/
def critQuietSpec : ChangeSpec := { name := "critQuiet", fn := fun _ => fun
  | [d1, d2] => { results := [.lit (.bool true)], args := [d1, d2] }
  | _ => none }
def critQuietRow : OpenClaim := { program := "ytpghgjibpbimeabdoor", sum := "504307c15067e236ce0191c4da170002efd67bead2d57c66bc0db969492edf46", func := "foolscap/foolscaplaw13.CritQuiet", spec := "critQuiet", inPlace := ["internal/bytealg.IndexByteString", "internal/bytealg.IndexString"], unfollowed := true, recurses := true, named := ["foolscap/crit.signs", "internal/bytealg.MaxLen", "foolscap/value.names"], apart := false, laid := [("foolscap/value.names", laid_foolscap_value_names), ("foolscap/crit.signs", laid_foolscap_crit_signs)] }
def CritQuietSaid : Prop := critQuietRow.holds Tryd.pinned (OpenSpec.ofChange critQuietSpec)

/-- ITS FALSE NEIGHBOUR: 'it returns false'. Refute it at one input. -/
def critQuietWrong : ChangeSpec := { name := "critQuiet", fn := fun _ => fun
  | [d1, d2] => { results := [.lit (.bool false)], args := [d1, d2] }
  | _ => none }
def CritQuietWrongFalsely : Prop := critQuietRow.holds Tryd.pinned (OpenSpec.ofChange critQuietWrong)

/-- 'foolscaplaw13.CritJoins': WHATEVER THE INPUT: true; the input reads as it did. -/
def critJoinsSpec : ChangeSpec := { name := "critJoins", fn := fun _ => fun
  | [d1, d2, d3, d4, d5] => { results := [.lit (.bool true)], args := [d1, d2, d3, d4, d5] }
  | _ => none }
def critJoinsRow : OpenClaim := { program := "ytpghgjibpbimeabdoor", sum := "504307c15067e236ce0191c4da170002efd67bead2d57c66bc0db969492edf46", func := "foolscap/foolscaplaw13.CritJoins", spec := "critJoins", inPlace := ["internal/bytealg.IndexByteString", "internal/bytealg.IndexString"], unfollowed := true, recurses := true, named := ["foolscap/crit.signs", "internal/bytealg.MaxLen", "foolscap/value.names"], apart := false, laid := [("foolscap/value.names", laid_foolscap_value_names), ("foolscap/crit.signs", laid_foolscap_crit_signs)] }
def CritJoinsSaid : Prop := critJoinsRow.holds Tryd.pinned (OpenSpec.ofChange critJoinsSpec)

/-- ITS FALSE NEIGHBOUR: 'it returns false'. Refute it at one input. -/
def critJoinsWrong : ChangeSpec := { name := "critJoins", fn := fun _ => fun
  | [d1, d2, d3, d4, d5] => { results := [.lit (.bool false)], args := [d1, d2, d3, d4, d5] }
  | _ => none }
def CritJoinsWrongFalsely : Prop := critJoinsRow.holds Tryd.pinned (OpenSpec.ofChange critJoinsWrong)

/-- 'foolscaplaw13.CritSame': WHATEVER THE INPUT: true; the input reads as it did. -/
def critSameSpec : ChangeSpec := { name := "critSame", fn := fun _ => fun
  | [d1, d2, d3] => { results := [.lit (.bool true)], args := [d1, d2, d3] }
  | _ => none }
def critSameRow : OpenClaim := { program := "ytpghgjibpbimeabdoor", sum := "504307c15067e236ce0191c4da170002efd67bead2d57c66bc0db969492edf46", func := "foolscap/foolscaplaw13.CritSame", spec := "critSame", inPlace := ["internal/bytealg.IndexByteString", "internal/bytealg.IndexString"], unfollowed := true, recurses := true, named := ["foolscap/crit.signs", "internal/bytealg.MaxLen", "foolscap/value.names"], apart := false, laid := [("foolscap/value.names", laid_foolscap_value_names), ("foolscap/crit.signs", laid_foolscap_crit_signs)] }
def CritSameSaid : Prop := critSameRow.holds Tryd.pinned (OpenSpec.ofChange critSameSpec)

/-- ITS FALSE NEIGHBOUR: 'it returns false'. Refute it at one input. -/
def critSameWrong : ChangeSpec := { name := "critSame", fn := fun _ => fun
  | [d1, d2, d3] => { results := [.lit (.bool false)], args := [d1, d2, d3] }
  | _ => none }
def CritSameWrongFalsely : Prop := critSameRow.holds Tryd.pinned (OpenSpec.ofChange critSameWrong)

/- THE SECOND FORM. 'bulk': how many values and letters a reading holds, each counted each time it is reached (what is shared counts as often as it is met; a slice's spare places count too). A statement '..UptoSaid' is the law's where the arguments, and the package variables that the reading takes, are together of bulk at most 1048576: NARROWER than '..Said'. Prove '..Said' where nothing that the law and all that it calls make is longer than what came in: it says more and counts as full. Else prove '..UptoSaid'. A law counts once. -/
mutual
def uptoBulk {H : Type} : DataW H → Nat
  | .lit (.string bytes) => bytes.length + 1
  | .lit _ => 1
  | .nil => 1
  | .ptr d => uptoBulk d + 1
  | .slice elems spare => uptoBulkAll elems + uptoBulkAll spare + 1
  | .agg parts => uptoBulkAll parts + 1
  | .iface _ d => uptoBulk d + 1
  | .map entries => uptoBulkEntries entries + 1
  | .held _ => 1
def uptoBulkAll {H : Type} : List (DataW H) → Nat
  | [] => 0
  | d :: r => uptoBulk d + uptoBulkAll r
def uptoBulkEntries {H : Type} : List (Lit × DataW H) → Nat
  | [] => 0
  | x :: r => uptoBulkEntry x + uptoBulkEntries r
def uptoBulkEntry {H : Type} : Lit × DataW H → Nat
  | (.string bytes, d) => bytes.length + uptoBulk d + 1
  | (_, d) => uptoBulk d + 1
 end
def uptoSmall : (H : Type) → List (DataW H) → Bool := fun _ ds => decide (uptoBulkAll ds ≤ 1048576)
def OpenSpec.upto (s : _root_.Go.ChangeSpec) : _root_.Go.OpenSpec := { _root_.Go.OpenSpec.ofChange s with cond := some uptoSmall }

/-- 'foolscaplaw13.CritQuiet', WHERE WHAT IT READS IS OF BULK AT MOST 1048576: true; the input reads as it did. -/
def critQuietUptoRow : OpenClaim := { program := "ytpghgjibpbimeabdoor", sum := "504307c15067e236ce0191c4da170002efd67bead2d57c66bc0db969492edf46", func := "foolscap/foolscaplaw13.CritQuiet", spec := "critQuiet", inPlace := ["internal/bytealg.IndexByteString", "internal/bytealg.IndexString"], unfollowed := true, recurses := true, named := ["foolscap/crit.signs", "internal/bytealg.MaxLen", "foolscap/value.names"], apart := false, laid := [("foolscap/value.names", laid_foolscap_value_names), ("foolscap/crit.signs", laid_foolscap_crit_signs)], narrowed := true }
def CritQuietUptoSaid : Prop := critQuietUptoRow.holds Tryd.pinned (OpenSpec.upto critQuietSpec)

/-- 'foolscaplaw13.CritJoins', WHERE WHAT IT READS IS OF BULK AT MOST 1048576: true; the input reads as it did. -/
def critJoinsUptoRow : OpenClaim := { program := "ytpghgjibpbimeabdoor", sum := "504307c15067e236ce0191c4da170002efd67bead2d57c66bc0db969492edf46", func := "foolscap/foolscaplaw13.CritJoins", spec := "critJoins", inPlace := ["internal/bytealg.IndexByteString", "internal/bytealg.IndexString"], unfollowed := true, recurses := true, named := ["foolscap/crit.signs", "internal/bytealg.MaxLen", "foolscap/value.names"], apart := false, laid := [("foolscap/value.names", laid_foolscap_value_names), ("foolscap/crit.signs", laid_foolscap_crit_signs)], narrowed := true }
def CritJoinsUptoSaid : Prop := critJoinsUptoRow.holds Tryd.pinned (OpenSpec.upto critJoinsSpec)

/-- 'foolscaplaw13.CritSame', WHERE WHAT IT READS IS OF BULK AT MOST 1048576: true; the input reads as it did. -/
def critSameUptoRow : OpenClaim := { program := "ytpghgjibpbimeabdoor", sum := "504307c15067e236ce0191c4da170002efd67bead2d57c66bc0db969492edf46", func := "foolscap/foolscaplaw13.CritSame", spec := "critSame", inPlace := ["internal/bytealg.IndexByteString", "internal/bytealg.IndexString"], unfollowed := true, recurses := true, named := ["foolscap/crit.signs", "internal/bytealg.MaxLen", "foolscap/value.names"], apart := false, laid := [("foolscap/value.names", laid_foolscap_value_names), ("foolscap/crit.signs", laid_foolscap_crit_signs)], narrowed := true }
def CritSameUptoSaid : Prop := critSameUptoRow.holds Tryd.pinned (OpenSpec.upto critSameSpec)

end Rows
end Go.Proofs.YtpghgjibpbimeabDoor
