/-
  NARROWER THAN 'FOR EVERY INPUT', by the rows' own cells (each row's printed sentence says how): CritReads: laid · CritFits: laid · CritMeans: laid · CritPatterns: laid · CritOther: laid.
  DERIVED. THE GIVEN ROWS OF THIS SEAT. 5 by the template 'for every input the law returns true; each argument reads behind the call as it read before'; 0 by the template 'total and deterministic' (their statements: YtpghgjibpbimeaaDoorTotals.lean).
  GIVEN WITH THE SEED: the statements are not yours to turn. If you find one false, say at which input.
  Laid BY PROGRAM, IN A SANDBOX (cutbox-rows.mjs): the forced cells as the released guide's own fill.sh prints them over the translation 32a9d75bc9484fe6… (all of the seat's roots in one cut). By AI agents, Wed Nov 11 2026. No macro, syntax, notation, axiom, sorry.
-/
import Derived.Test.YtpghgjibpbimeaaDoorChecked
import GoSem.Claim
import GoSem.ClaimJoined
import GoSem.ClaimMapViews
import Derived.JoinedTies
import Derived.KernelRfl
namespace Go.Proofs.YtpghgjibpbimeaaDoor
/- THE CELL 'sum', in the pinned program and in every row, IS THE sha256 OF THE DUMP (.gsa) THAT YtpghgjibpbimeaaDoorProg.lean LOADS. Nothing in Lean hashes anything: it is a label: what it is worth is what the hold of that sum in a sandbox is worth. -/
noncomputable def Tryd.pinned : Pinned := { name := "ytpghgjibpbimeaadoor", sum := "32a9d75bc9484fe65d7f1630256e2638597f4e9dc5cf930753a9fe1c03b84c66", checked := Tryd.checked }
namespace Rows
def none {H : Type} : Left H := { results := [], args := [] }

/- WHAT THE LISTED PACKAGE-LEVEL VARIABLES READ AS WHEN THE CALL BEGINS. Each datum BY PROGRAM (the guide's laid-datum.mjs) off the statement by which the dump's own 'gosem.cut.vars' lays the variable. In a bare row this is a premise. The card (YtpghgjibpbimeaaDoorCards.lean) ties it to the program's text. -/
def laid_foolscap_value_names {H : Type} : DataW H := .agg [.lit (.string []), .lit (.string [35, 68, 73, 86, 47, 48, 33]), .lit (.string [35, 86, 65, 76, 85, 69, 33]), .lit (.string [35, 82, 69, 70, 33]), .lit (.string [35, 78, 65, 77, 69, 63]), .lit (.string [35, 78, 85, 77, 33]), .lit (.string [35, 78, 47, 65]), .lit (.string [35, 67, 89, 67, 76, 69, 33])]
def laid_foolscap_crit_signs {H : Type} : DataW H := .agg [.lit (.string [60, 62]), .lit (.string [60, 61]), .lit (.string [62, 61]), .lit (.string [61]), .lit (.string [60]), .lit (.string [62])]

/-- 'foolscaplaw13.CritReads': WHATEVER THE INPUT: true; the input reads as it did. -/
def critReadsSpec : ChangeSpec := { name := "critReads", fn := fun _ => fun
  | [d1, d2] => { results := [.lit (.bool true)], args := [d1, d2] }
  | _ => none }
def critReadsRow : OpenClaim := { program := "ytpghgjibpbimeaadoor", sum := "32a9d75bc9484fe65d7f1630256e2638597f4e9dc5cf930753a9fe1c03b84c66", func := "foolscap/foolscaplaw13.CritReads", spec := "critReads", inPlace := ["internal/bytealg.IndexByteString", "internal/bytealg.IndexString"], unfollowed := true, recurses := true, named := ["foolscap/crit.signs", "internal/bytealg.MaxLen", "foolscap/value.names"], apart := false, laid := [("foolscap/value.names", laid_foolscap_value_names), ("foolscap/crit.signs", laid_foolscap_crit_signs)] }
def CritReadsSaid : Prop := critReadsRow.holds Tryd.pinned (OpenSpec.ofChange critReadsSpec)

/-- ITS FALSE NEIGHBOUR: 'it returns false'. Refute it at one input. -/
def critReadsWrong : ChangeSpec := { name := "critReads", fn := fun _ => fun
  | [d1, d2] => { results := [.lit (.bool false)], args := [d1, d2] }
  | _ => none }
def CritReadsWrongFalsely : Prop := critReadsRow.holds Tryd.pinned (OpenSpec.ofChange critReadsWrong)

/-- 'foolscaplaw13.CritFits': WHATEVER THE INPUT: true; the input reads as it did. -/
def critFitsSpec : ChangeSpec := { name := "critFits", fn := fun _ => fun
  | [d1, d2] => { results := [.lit (.bool true)], args := [d1, d2] }
  | _ => none }
def critFitsRow : OpenClaim := { program := "ytpghgjibpbimeaadoor", sum := "32a9d75bc9484fe65d7f1630256e2638597f4e9dc5cf930753a9fe1c03b84c66", func := "foolscap/foolscaplaw13.CritFits", spec := "critFits", inPlace := ["internal/bytealg.IndexByteString", "internal/bytealg.IndexString"], unfollowed := true, recurses := true, named := ["foolscap/crit.signs", "internal/bytealg.MaxLen", "foolscap/value.names"], apart := false, laid := [("foolscap/value.names", laid_foolscap_value_names), ("foolscap/crit.signs", laid_foolscap_crit_signs)] }
def CritFitsSaid : Prop := critFitsRow.holds Tryd.pinned (OpenSpec.ofChange critFitsSpec)

/-- ITS FALSE NEIGHBOUR: 'it returns false'. Refute it at one input. -/
def critFitsWrong : ChangeSpec := { name := "critFits", fn := fun _ => fun
  | [d1, d2] => { results := [.lit (.bool false)], args := [d1, d2] }
  | _ => none }
def CritFitsWrongFalsely : Prop := critFitsRow.holds Tryd.pinned (OpenSpec.ofChange critFitsWrong)

/-- 'foolscaplaw13.CritMeans': WHATEVER THE INPUT: true; the input reads as it did. -/
def critMeansSpec : ChangeSpec := { name := "critMeans", fn := fun _ => fun
  | [d1, d2] => { results := [.lit (.bool true)], args := [d1, d2] }
  | _ => none }
def critMeansRow : OpenClaim := { program := "ytpghgjibpbimeaadoor", sum := "32a9d75bc9484fe65d7f1630256e2638597f4e9dc5cf930753a9fe1c03b84c66", func := "foolscap/foolscaplaw13.CritMeans", spec := "critMeans", inPlace := ["internal/bytealg.IndexByteString", "internal/bytealg.IndexString"], unfollowed := true, recurses := true, named := ["foolscap/crit.signs", "internal/bytealg.MaxLen", "foolscap/value.names"], apart := false, laid := [("foolscap/value.names", laid_foolscap_value_names), ("foolscap/crit.signs", laid_foolscap_crit_signs)] }
def CritMeansSaid : Prop := critMeansRow.holds Tryd.pinned (OpenSpec.ofChange critMeansSpec)

/-- ITS FALSE NEIGHBOUR: 'it returns false'. Refute it at one input. -/
def critMeansWrong : ChangeSpec := { name := "critMeans", fn := fun _ => fun
  | [d1, d2] => { results := [.lit (.bool false)], args := [d1, d2] }
  | _ => none }
def CritMeansWrongFalsely : Prop := critMeansRow.holds Tryd.pinned (OpenSpec.ofChange critMeansWrong)

/-- 'foolscaplaw13.CritPatterns': WHATEVER THE INPUT: true; the input reads as it did. -/
def critPatternsSpec : ChangeSpec := { name := "critPatterns", fn := fun _ => fun
  | [d1, d2] => { results := [.lit (.bool true)], args := [d1, d2] }
  | _ => none }
def critPatternsRow : OpenClaim := { program := "ytpghgjibpbimeaadoor", sum := "32a9d75bc9484fe65d7f1630256e2638597f4e9dc5cf930753a9fe1c03b84c66", func := "foolscap/foolscaplaw13.CritPatterns", spec := "critPatterns", inPlace := ["internal/bytealg.IndexByteString", "internal/bytealg.IndexString"], unfollowed := true, recurses := true, named := ["foolscap/crit.signs", "internal/bytealg.MaxLen", "foolscap/value.names"], apart := false, laid := [("foolscap/value.names", laid_foolscap_value_names), ("foolscap/crit.signs", laid_foolscap_crit_signs)] }
def CritPatternsSaid : Prop := critPatternsRow.holds Tryd.pinned (OpenSpec.ofChange critPatternsSpec)

/-- ITS FALSE NEIGHBOUR: 'it returns false'. Refute it at one input. -/
def critPatternsWrong : ChangeSpec := { name := "critPatterns", fn := fun _ => fun
  | [d1, d2] => { results := [.lit (.bool false)], args := [d1, d2] }
  | _ => none }
def CritPatternsWrongFalsely : Prop := critPatternsRow.holds Tryd.pinned (OpenSpec.ofChange critPatternsWrong)

/-- 'foolscaplaw13.CritOther': WHATEVER THE INPUT: true; the input reads as it did. -/
def critOtherSpec : ChangeSpec := { name := "critOther", fn := fun _ => fun
  | [d1, d2] => { results := [.lit (.bool true)], args := [d1, d2] }
  | _ => none }
def critOtherRow : OpenClaim := { program := "ytpghgjibpbimeaadoor", sum := "32a9d75bc9484fe65d7f1630256e2638597f4e9dc5cf930753a9fe1c03b84c66", func := "foolscap/foolscaplaw13.CritOther", spec := "critOther", inPlace := ["internal/bytealg.IndexByteString", "internal/bytealg.IndexString"], unfollowed := true, recurses := true, named := ["foolscap/crit.signs", "internal/bytealg.MaxLen", "foolscap/value.names"], apart := false, laid := [("foolscap/value.names", laid_foolscap_value_names), ("foolscap/crit.signs", laid_foolscap_crit_signs)] }
def CritOtherSaid : Prop := critOtherRow.holds Tryd.pinned (OpenSpec.ofChange critOtherSpec)

/-- ITS FALSE NEIGHBOUR: 'it returns false'. Refute it at one input. -/
def critOtherWrong : ChangeSpec := { name := "critOther", fn := fun _ => fun
  | [d1, d2] => { results := [.lit (.bool false)], args := [d1, d2] }
  | _ => none }
def CritOtherWrongFalsely : Prop := critOtherRow.holds Tryd.pinned (OpenSpec.ofChange critOtherWrong)

/- THE SECOND FORM. 'bulk': how many values and letters a reading holds, each counted each time it is reached (what is shared counts as often as it is met; a slice's spare places count too). A statement '..UptoSaid' is the law's where the arguments, and the package variables that the reading takes, are together of bulk at most 1048576: NARROWER than '..Said'. Prove '..Said' where nothing that the law and all that it calls make is longer than what came in: it says more and counts as full. Else prove '..UptoSaid'. A law counts once. -/
mutual
def uptoBulk {H : Type} : DataW H → Nat
  | .lit (.string bytes) => bytes.length + 1
  | .lit _ => 1
  | .nil => 1
  | .ptr d => uptoBulk d + 1
  | .slice elems spare => uptoBulkAll elems + uptoBulkAll spare + 1
  | .agg parts => uptoBulkAll parts + 1
  | .iface _ d => uptoBulk d + 1
  | .map entries => uptoBulkEntries entries + 1
  | .held _ => 1
def uptoBulkAll {H : Type} : List (DataW H) → Nat
  | [] => 0
  | d :: r => uptoBulk d + uptoBulkAll r
def uptoBulkEntries {H : Type} : List (Lit × DataW H) → Nat
  | [] => 0
  | x :: r => uptoBulkEntry x + uptoBulkEntries r
def uptoBulkEntry {H : Type} : Lit × DataW H → Nat
  | (.string bytes, d) => bytes.length + uptoBulk d + 1
  | (_, d) => uptoBulk d + 1
 end
def uptoSmall : (H : Type) → List (DataW H) → Bool := fun _ ds => decide (uptoBulkAll ds ≤ 1048576)
def OpenSpec.upto (s : _root_.Go.ChangeSpec) : _root_.Go.OpenSpec := { _root_.Go.OpenSpec.ofChange s with cond := some uptoSmall }

/-- 'foolscaplaw13.CritReads', WHERE WHAT IT READS IS OF BULK AT MOST 1048576: true; the input reads as it did. -/
def critReadsUptoRow : OpenClaim := { program := "ytpghgjibpbimeaadoor", sum := "32a9d75bc9484fe65d7f1630256e2638597f4e9dc5cf930753a9fe1c03b84c66", func := "foolscap/foolscaplaw13.CritReads", spec := "critReads", inPlace := ["internal/bytealg.IndexByteString", "internal/bytealg.IndexString"], unfollowed := true, recurses := true, named := ["foolscap/crit.signs", "internal/bytealg.MaxLen", "foolscap/value.names"], apart := false, laid := [("foolscap/value.names", laid_foolscap_value_names), ("foolscap/crit.signs", laid_foolscap_crit_signs)], narrowed := true }
def CritReadsUptoSaid : Prop := critReadsUptoRow.holds Tryd.pinned (OpenSpec.upto critReadsSpec)

/-- 'foolscaplaw13.CritFits', WHERE WHAT IT READS IS OF BULK AT MOST 1048576: true; the input reads as it did. -/
def critFitsUptoRow : OpenClaim := { program := "ytpghgjibpbimeaadoor", sum := "32a9d75bc9484fe65d7f1630256e2638597f4e9dc5cf930753a9fe1c03b84c66", func := "foolscap/foolscaplaw13.CritFits", spec := "critFits", inPlace := ["internal/bytealg.IndexByteString", "internal/bytealg.IndexString"], unfollowed := true, recurses := true, named := ["foolscap/crit.signs", "internal/bytealg.MaxLen", "foolscap/value.names"], apart := false, laid := [("foolscap/value.names", laid_foolscap_value_names), ("foolscap/crit.signs", laid_foolscap_crit_signs)], narrowed := true }
def CritFitsUptoSaid : Prop := critFitsUptoRow.holds Tryd.pinned (OpenSpec.upto critFitsSpec)

/-- 'foolscaplaw13.CritMeans', WHERE WHAT IT READS IS OF BULK AT MOST 1048576: true; the input reads as it did. -/
def critMeansUptoRow : OpenClaim := { program := "ytpghgjibpbimeaadoor", sum := "32a9d75bc9484fe65d7f1630256e2638597f4e9dc5cf930753a9fe1c03b84c66", func := "foolscap/foolscaplaw13.CritMeans", spec := "critMeans", inPlace := ["internal/bytealg.IndexByteString", "internal/bytealg.IndexString"], unfollowed := true, recurses := true, named := ["foolscap/crit.signs", "internal/bytealg.MaxLen", "foolscap/value.names"], apart := false, laid := [("foolscap/value.names", laid_foolscap_value_names), ("foolscap/crit.signs", laid_foolscap_crit_signs)], narrowed := true }
def CritMeansUptoSaid : Prop := critMeansUptoRow.holds Tryd.pinned (OpenSpec.upto critMeansSpec)

/-- 'foolscaplaw13.CritPatterns', WHERE WHAT IT READS IS OF BULK AT MOST 1048576: true; the input reads as it did. -/
def critPatternsUptoRow : OpenClaim := { program := "ytpghgjibpbimeaadoor", sum := "32a9d75bc9484fe65d7f1630256e2638597f4e9dc5cf930753a9fe1c03b84c66", func := "foolscap/foolscaplaw13.CritPatterns", spec := "critPatterns", inPlace := ["internal/bytealg.IndexByteString", "internal/bytealg.IndexString"], unfollowed := true, recurses := true, named := ["foolscap/crit.signs", "internal/bytealg.MaxLen", "foolscap/value.names"], apart := false, laid := [("foolscap/value.names", laid_foolscap_value_names), ("foolscap/crit.signs", laid_foolscap_crit_signs)], narrowed := true }
def CritPatternsUptoSaid : Prop := critPatternsUptoRow.holds Tryd.pinned (OpenSpec.upto critPatternsSpec)

/-- 'foolscaplaw13.CritOther', WHERE WHAT IT READS IS OF BULK AT MOST 1048576: true; the input reads as it did. -/
def critOtherUptoRow : OpenClaim := { program := "ytpghgjibpbimeaadoor", sum := "32a9d75bc9484fe65d7f1630256e2638597f4e9dc5cf930753a9fe1c03b84c66", func := "foolscap/foolscaplaw13.CritOther", spec := "critOther", inPlace := ["internal/bytealg.IndexByteString", "internal/bytealg.IndexString"], unfollowed := true, recurses := true, named := ["foolscap/crit.signs", "internal/bytealg.MaxLen", "foolscap/value.names"], apart := false, laid := [("foolscap/value.names", laid_foolscap_value_names), ("foolscap/crit.signs", laid_foolscap_crit_signs)], narrowed := true }
def CritOtherUptoSaid : Prop := critOtherUptoRow.holds Tryd.pinned (OpenSpec.upto critOtherSpec)

end Rows
end Go.Proofs.YtpghgjibpbimeaaDoor
