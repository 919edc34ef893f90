/-
  NARROWER THAN 'FOR EVERY INPUT', by the rows' own cells (each row's printed sentence says how): StrsParts: laid · StrsFinds: laid · StrsChanges: laid · StrsMakes: laid · StrsWhole: laid · StrsFound: laid.
  DERIVED. THE GIVEN ROWS OF THIS SEAT. 6 by the template 'for every input the law returns true; each argument reads behind the call as it read before'; 0 by the template 'total and deterministic' (their statements: YthooimaadgabiaaDoorTotals.lean).
  GIVEN WITH THE SEED: the statements are not yours to turn. If you find one false, say at which input.
  Laid BY PROGRAM, IN A SANDBOX (cutbox-rows.mjs): the forced cells as the released guide's own fill.sh prints them over the translation 4afe9876918a7d5b… (all of the seat's roots in one cut). By AI agents, Wed Nov 11 2026. No macro, syntax, notation, axiom, sorry.
-/
import Derived.Test.YthooimaadgabiaaDoorChecked
import GoSem.PinnedTables
import GoSem.Claim
import GoSem.ClaimJoined
import GoSem.ClaimMapViews
import Derived.JoinedTies
import Derived.KernelRfl
namespace Go.Proofs.YthooimaadgabiaaDoor
/- THE CELL 'sum', in the pinned program and in every row, IS THE sha256 OF THE DUMP (.gsa) THAT YthooimaadgabiaaDoorProg.lean LOADS. Nothing in Lean hashes anything: it is a label: what it is worth is what the hold of that sum in a sandbox is worth. -/
noncomputable def Tryd.pinned : Pinned := { name := "ythooimaadgabiaadoor", sum := "4afe9876918a7d5bd65cebb5093d10d54d714c536d16544c4740bb62d5e4776b", checked := Tryd.checked }
namespace Rows
def none {H : Type} : Left H := { results := [], args := [] }

/- WHAT THE LISTED PACKAGE-LEVEL VARIABLES READ AS WHEN THE CALL BEGINS. Each datum BY PROGRAM (the guide's laid-datum.mjs) off the statement by which the dump's own 'gosem.cut.vars' lays the variable. In a bare row this is a premise. The card (YthooimaadgabiaaDoorCards.lean) ties it to the program's text. -/
def laid_unicode_utf8_acceptRanges {H : Type} : DataW H := .agg [.agg [.lit (.int .u8 128), .lit (.int .u8 191)], .agg [.lit (.int .u8 160), .lit (.int .u8 191)], .agg [.lit (.int .u8 128), .lit (.int .u8 159)], .agg [.lit (.int .u8 144), .lit (.int .u8 191)], .agg [.lit (.int .u8 128), .lit (.int .u8 143)], .agg [.lit (.int .u8 0), .lit (.int .u8 0)], .agg [.lit (.int .u8 0), .lit (.int .u8 0)], .agg [.lit (.int .u8 0), .lit (.int .u8 0)], .agg [.lit (.int .u8 0), .lit (.int .u8 0)], .agg [.lit (.int .u8 0), .lit (.int .u8 0)], .agg [.lit (.int .u8 0), .lit (.int .u8 0)], .agg [.lit (.int .u8 0), .lit (.int .u8 0)], .agg [.lit (.int .u8 0), .lit (.int .u8 0)], .agg [.lit (.int .u8 0), .lit (.int .u8 0)], .agg [.lit (.int .u8 0), .lit (.int .u8 0)], .agg [.lit (.int .u8 0), .lit (.int .u8 0)]]
/-- One of Go's own tables, pinned by name: the form's constant. -/
def laid_unicode_utf8_first : DataW Unit := Go.Pinned.utf8First

/-- 'foolscaplaw14.StrsParts': WHATEVER THE INPUT: true; the input reads as it did. -/
def strsPartsSpec : ChangeSpec := { name := "strsParts", fn := fun _ => fun
  | [d1, d2, d3] => { results := [.lit (.bool true)], args := [d1, d2, d3] }
  | _ => none }
def strsPartsRow : OpenClaim := { program := "ythooimaadgabiaadoor", sum := "4afe9876918a7d5bd65cebb5093d10d54d714c536d16544c4740bb62d5e4776b", func := "foolscap/foolscaplaw14.StrsParts", spec := "strsParts", inPlace := ["internal/bytealg.IndexByteString", "internal/bytealg.IndexString"], unfollowed := true, recurses := true, named := ["unicode/utf8.first", "unicode/utf8.acceptRanges", "internal/bytealg.MaxLen"], apart := false, laid := [("unicode/utf8.acceptRanges", laid_unicode_utf8_acceptRanges), ("unicode/utf8.first", laid_unicode_utf8_first)] }
def StrsPartsSaid : Prop := strsPartsRow.holds Tryd.pinned (OpenSpec.ofChange strsPartsSpec)

/-- ITS FALSE NEIGHBOUR: 'it returns false'. Refute it at one input. -/
def strsPartsWrong : ChangeSpec := { name := "strsParts", fn := fun _ => fun
  | [d1, d2, d3] => { results := [.lit (.bool false)], args := [d1, d2, d3] }
  | _ => none }
def StrsPartsWrongFalsely : Prop := strsPartsRow.holds Tryd.pinned (OpenSpec.ofChange strsPartsWrong)

/-- 'foolscaplaw14.StrsFinds': WHATEVER THE INPUT: true; the input reads as it did. -/
def strsFindsSpec : ChangeSpec := { name := "strsFinds", fn := fun _ => fun
  | [d1, d2, d3] => { results := [.lit (.bool true)], args := [d1, d2, d3] }
  | _ => none }
def strsFindsRow : OpenClaim := { program := "ythooimaadgabiaadoor", sum := "4afe9876918a7d5bd65cebb5093d10d54d714c536d16544c4740bb62d5e4776b", func := "foolscap/foolscaplaw14.StrsFinds", spec := "strsFinds", inPlace := ["internal/bytealg.IndexByteString", "internal/bytealg.IndexString"], unfollowed := true, recurses := true, named := ["unicode/utf8.first", "unicode/utf8.acceptRanges", "internal/bytealg.MaxLen"], apart := false, laid := [("unicode/utf8.acceptRanges", laid_unicode_utf8_acceptRanges), ("unicode/utf8.first", laid_unicode_utf8_first)] }
def StrsFindsSaid : Prop := strsFindsRow.holds Tryd.pinned (OpenSpec.ofChange strsFindsSpec)

/-- ITS FALSE NEIGHBOUR: 'it returns false'. Refute it at one input. -/
def strsFindsWrong : ChangeSpec := { name := "strsFinds", fn := fun _ => fun
  | [d1, d2, d3] => { results := [.lit (.bool false)], args := [d1, d2, d3] }
  | _ => none }
def StrsFindsWrongFalsely : Prop := strsFindsRow.holds Tryd.pinned (OpenSpec.ofChange strsFindsWrong)

/-- 'foolscaplaw14.StrsChanges': WHATEVER THE INPUT: true; the input reads as it did. -/
def strsChangesSpec : ChangeSpec := { name := "strsChanges", fn := fun _ => fun
  | [d1, d2, d3, d4, d5] => { results := [.lit (.bool true)], args := [d1, d2, d3, d4, d5] }
  | _ => none }
def strsChangesRow : OpenClaim := { program := "ythooimaadgabiaadoor", sum := "4afe9876918a7d5bd65cebb5093d10d54d714c536d16544c4740bb62d5e4776b", func := "foolscap/foolscaplaw14.StrsChanges", spec := "strsChanges", inPlace := ["internal/bytealg.IndexByteString", "internal/bytealg.IndexString"], unfollowed := true, recurses := true, named := ["internal/bytealg.MaxLen", "unicode/utf8.first", "unicode/utf8.acceptRanges"], apart := false, laid := [("unicode/utf8.acceptRanges", laid_unicode_utf8_acceptRanges), ("unicode/utf8.first", laid_unicode_utf8_first)] }
def StrsChangesSaid : Prop := strsChangesRow.holds Tryd.pinned (OpenSpec.ofChange strsChangesSpec)

/-- ITS FALSE NEIGHBOUR: 'it returns false'. Refute it at one input. -/
def strsChangesWrong : ChangeSpec := { name := "strsChanges", fn := fun _ => fun
  | [d1, d2, d3, d4, d5] => { results := [.lit (.bool false)], args := [d1, d2, d3, d4, d5] }
  | _ => none }
def StrsChangesWrongFalsely : Prop := strsChangesRow.holds Tryd.pinned (OpenSpec.ofChange strsChangesWrong)

/-- 'foolscaplaw14.StrsMakes': WHATEVER THE INPUT: true; the input reads as it did. -/
def strsMakesSpec : ChangeSpec := { name := "strsMakes", fn := fun _ => fun
  | [d1, d2, d3] => { results := [.lit (.bool true)], args := [d1, d2, d3] }
  | _ => none }
def strsMakesRow : OpenClaim := { program := "ythooimaadgabiaadoor", sum := "4afe9876918a7d5bd65cebb5093d10d54d714c536d16544c4740bb62d5e4776b", func := "foolscap/foolscaplaw14.StrsMakes", spec := "strsMakes", inPlace := ["internal/bytealg.IndexByteString", "internal/bytealg.IndexString"], unfollowed := true, recurses := true, named := ["unicode/utf8.first", "unicode/utf8.acceptRanges", "internal/bytealg.MaxLen"], apart := false, laid := [("unicode/utf8.acceptRanges", laid_unicode_utf8_acceptRanges), ("unicode/utf8.first", laid_unicode_utf8_first)] }
def StrsMakesSaid : Prop := strsMakesRow.holds Tryd.pinned (OpenSpec.ofChange strsMakesSpec)

/-- ITS FALSE NEIGHBOUR: 'it returns false'. Refute it at one input. -/
def strsMakesWrong : ChangeSpec := { name := "strsMakes", fn := fun _ => fun
  | [d1, d2, d3] => { results := [.lit (.bool false)], args := [d1, d2, d3] }
  | _ => none }
def StrsMakesWrongFalsely : Prop := strsMakesRow.holds Tryd.pinned (OpenSpec.ofChange strsMakesWrong)

/-- 'foolscaplaw14.StrsWhole': WHATEVER THE INPUT: true; the input reads as it did. -/
def strsWholeSpec : ChangeSpec := { name := "strsWhole", fn := fun _ => fun
  | [d1, d2] => { results := [.lit (.bool true)], args := [d1, d2] }
  | _ => none }
def strsWholeRow : OpenClaim := { program := "ythooimaadgabiaadoor", sum := "4afe9876918a7d5bd65cebb5093d10d54d714c536d16544c4740bb62d5e4776b", func := "foolscap/foolscaplaw14.StrsWhole", spec := "strsWhole", inPlace := ["internal/bytealg.IndexByteString", "internal/bytealg.IndexString"], unfollowed := true, recurses := true, named := ["unicode/utf8.first", "unicode/utf8.acceptRanges", "internal/bytealg.MaxLen"], apart := false, laid := [("unicode/utf8.acceptRanges", laid_unicode_utf8_acceptRanges), ("unicode/utf8.first", laid_unicode_utf8_first)] }
def StrsWholeSaid : Prop := strsWholeRow.holds Tryd.pinned (OpenSpec.ofChange strsWholeSpec)

/-- ITS FALSE NEIGHBOUR: 'it returns false'. Refute it at one input. -/
def strsWholeWrong : ChangeSpec := { name := "strsWhole", fn := fun _ => fun
  | [d1, d2] => { results := [.lit (.bool false)], args := [d1, d2] }
  | _ => none }
def StrsWholeWrongFalsely : Prop := strsWholeRow.holds Tryd.pinned (OpenSpec.ofChange strsWholeWrong)

/-- 'foolscaplaw14.StrsFound': WHATEVER THE INPUT: true; the input reads as it did. -/
def strsFoundSpec : ChangeSpec := { name := "strsFound", fn := fun _ => fun
  | [d1, d2, d3] => { results := [.lit (.bool true)], args := [d1, d2, d3] }
  | _ => none }
def strsFoundRow : OpenClaim := { program := "ythooimaadgabiaadoor", sum := "4afe9876918a7d5bd65cebb5093d10d54d714c536d16544c4740bb62d5e4776b", func := "foolscap/foolscaplaw14.StrsFound", spec := "strsFound", inPlace := ["internal/bytealg.IndexByteString", "internal/bytealg.IndexString"], unfollowed := true, recurses := true, named := ["unicode/utf8.first", "unicode/utf8.acceptRanges", "internal/bytealg.MaxLen"], apart := false, laid := [("unicode/utf8.acceptRanges", laid_unicode_utf8_acceptRanges), ("unicode/utf8.first", laid_unicode_utf8_first)] }
def StrsFoundSaid : Prop := strsFoundRow.holds Tryd.pinned (OpenSpec.ofChange strsFoundSpec)

/-- ITS FALSE NEIGHBOUR: 'it returns false'. Refute it at one input. -/
def strsFoundWrong : ChangeSpec := { name := "strsFound", fn := fun _ => fun
  | [d1, d2, d3] => { results := [.lit (.bool false)], args := [d1, d2, d3] }
  | _ => none }
def StrsFoundWrongFalsely : Prop := strsFoundRow.holds Tryd.pinned (OpenSpec.ofChange strsFoundWrong)

/- THE SECOND FORM. 'bulk': how many values and letters a reading holds, each counted each time it is reached (what is shared counts as often as it is met; a slice's spare places count too). A statement '..UptoSaid' is the law's where the arguments, and the package variables that the reading takes, are together of bulk at most 1048576: NARROWER than '..Said'. Prove '..Said' where nothing that the law and all that it calls make is longer than what came in: it says more and counts as full. Else prove '..UptoSaid'. A law counts once. -/
mutual
def uptoBulk {H : Type} : DataW H → Nat
  | .lit (.string bytes) => bytes.length + 1
  | .lit _ => 1
  | .nil => 1
  | .ptr d => uptoBulk d + 1
  | .slice elems spare => uptoBulkAll elems + uptoBulkAll spare + 1
  | .agg parts => uptoBulkAll parts + 1
  | .iface _ d => uptoBulk d + 1
  | .map entries => uptoBulkEntries entries + 1
  | .held _ => 1
def uptoBulkAll {H : Type} : List (DataW H) → Nat
  | [] => 0
  | d :: r => uptoBulk d + uptoBulkAll r
def uptoBulkEntries {H : Type} : List (Lit × DataW H) → Nat
  | [] => 0
  | x :: r => uptoBulkEntry x + uptoBulkEntries r
def uptoBulkEntry {H : Type} : Lit × DataW H → Nat
  | (.string bytes, d) => bytes.length + uptoBulk d + 1
  | (_, d) => uptoBulk d + 1
 end
def uptoSmall : (H : Type) → List (DataW H) → Bool := fun _ ds => decide (uptoBulkAll ds ≤ 1048576)
def OpenSpec.upto (s : _root_.Go.ChangeSpec) : _root_.Go.OpenSpec := { _root_.Go.OpenSpec.ofChange s with cond := some uptoSmall }

/-- 'foolscaplaw14.StrsParts', WHERE WHAT IT READS IS OF BULK AT MOST 1048576: true; the input reads as it did. -/
def strsPartsUptoRow : OpenClaim := { program := "ythooimaadgabiaadoor", sum := "4afe9876918a7d5bd65cebb5093d10d54d714c536d16544c4740bb62d5e4776b", func := "foolscap/foolscaplaw14.StrsParts", spec := "strsParts", inPlace := ["internal/bytealg.IndexByteString", "internal/bytealg.IndexString"], unfollowed := true, recurses := true, named := ["unicode/utf8.first", "unicode/utf8.acceptRanges", "internal/bytealg.MaxLen"], apart := false, laid := [("unicode/utf8.acceptRanges", laid_unicode_utf8_acceptRanges), ("unicode/utf8.first", laid_unicode_utf8_first)], narrowed := true }
def StrsPartsUptoSaid : Prop := strsPartsUptoRow.holds Tryd.pinned (OpenSpec.upto strsPartsSpec)

/-- 'foolscaplaw14.StrsFinds', WHERE WHAT IT READS IS OF BULK AT MOST 1048576: true; the input reads as it did. -/
def strsFindsUptoRow : OpenClaim := { program := "ythooimaadgabiaadoor", sum := "4afe9876918a7d5bd65cebb5093d10d54d714c536d16544c4740bb62d5e4776b", func := "foolscap/foolscaplaw14.StrsFinds", spec := "strsFinds", inPlace := ["internal/bytealg.IndexByteString", "internal/bytealg.IndexString"], unfollowed := true, recurses := true, named := ["unicode/utf8.first", "unicode/utf8.acceptRanges", "internal/bytealg.MaxLen"], apart := false, laid := [("unicode/utf8.acceptRanges", laid_unicode_utf8_acceptRanges), ("unicode/utf8.first", laid_unicode_utf8_first)], narrowed := true }
def StrsFindsUptoSaid : Prop := strsFindsUptoRow.holds Tryd.pinned (OpenSpec.upto strsFindsSpec)

/-- 'foolscaplaw14.StrsChanges', WHERE WHAT IT READS IS OF BULK AT MOST 1048576: true; the input reads as it did. -/
def strsChangesUptoRow : OpenClaim := { program := "ythooimaadgabiaadoor", sum := "4afe9876918a7d5bd65cebb5093d10d54d714c536d16544c4740bb62d5e4776b", func := "foolscap/foolscaplaw14.StrsChanges", spec := "strsChanges", inPlace := ["internal/bytealg.IndexByteString", "internal/bytealg.IndexString"], unfollowed := true, recurses := true, named := ["internal/bytealg.MaxLen", "unicode/utf8.first", "unicode/utf8.acceptRanges"], apart := false, laid := [("unicode/utf8.acceptRanges", laid_unicode_utf8_acceptRanges), ("unicode/utf8.first", laid_unicode_utf8_first)], narrowed := true }
def StrsChangesUptoSaid : Prop := strsChangesUptoRow.holds Tryd.pinned (OpenSpec.upto strsChangesSpec)

/-- 'foolscaplaw14.StrsMakes', WHERE WHAT IT READS IS OF BULK AT MOST 1048576: true; the input reads as it did. -/
def strsMakesUptoRow : OpenClaim := { program := "ythooimaadgabiaadoor", sum := "4afe9876918a7d5bd65cebb5093d10d54d714c536d16544c4740bb62d5e4776b", func := "foolscap/foolscaplaw14.StrsMakes", spec := "strsMakes", inPlace := ["internal/bytealg.IndexByteString", "internal/bytealg.IndexString"], unfollowed := true, recurses := true, named := ["unicode/utf8.first", "unicode/utf8.acceptRanges", "internal/bytealg.MaxLen"], apart := false, laid := [("unicode/utf8.acceptRanges", laid_unicode_utf8_acceptRanges), ("unicode/utf8.first", laid_unicode_utf8_first)], narrowed := true }
def StrsMakesUptoSaid : Prop := strsMakesUptoRow.holds Tryd.pinned (OpenSpec.upto strsMakesSpec)

/-- 'foolscaplaw14.StrsWhole', WHERE WHAT IT READS IS OF BULK AT MOST 1048576: true; the input reads as it did. -/
def strsWholeUptoRow : OpenClaim := { program := "ythooimaadgabiaadoor", sum := "4afe9876918a7d5bd65cebb5093d10d54d714c536d16544c4740bb62d5e4776b", func := "foolscap/foolscaplaw14.StrsWhole", spec := "strsWhole", inPlace := ["internal/bytealg.IndexByteString", "internal/bytealg.IndexString"], unfollowed := true, recurses := true, named := ["unicode/utf8.first", "unicode/utf8.acceptRanges", "internal/bytealg.MaxLen"], apart := false, laid := [("unicode/utf8.acceptRanges", laid_unicode_utf8_acceptRanges), ("unicode/utf8.first", laid_unicode_utf8_first)], narrowed := true }
def StrsWholeUptoSaid : Prop := strsWholeUptoRow.holds Tryd.pinned (OpenSpec.upto strsWholeSpec)

/-- 'foolscaplaw14.StrsFound', WHERE WHAT IT READS IS OF BULK AT MOST 1048576: true; the input reads as it did. -/
def strsFoundUptoRow : OpenClaim := { program := "ythooimaadgabiaadoor", sum := "4afe9876918a7d5bd65cebb5093d10d54d714c536d16544c4740bb62d5e4776b", func := "foolscap/foolscaplaw14.StrsFound", spec := "strsFound", inPlace := ["internal/bytealg.IndexByteString", "internal/bytealg.IndexString"], unfollowed := true, recurses := true, named := ["unicode/utf8.first", "unicode/utf8.acceptRanges", "internal/bytealg.MaxLen"], apart := false, laid := [("unicode/utf8.acceptRanges", laid_unicode_utf8_acceptRanges), ("unicode/utf8.first", laid_unicode_utf8_first)], narrowed := true }
def StrsFoundUptoSaid : Prop := strsFoundUptoRow.holds Tryd.pinned (OpenSpec.upto strsFoundSpec)

end Rows
end Go.Proofs.YthooimaadgabiaaDoor
