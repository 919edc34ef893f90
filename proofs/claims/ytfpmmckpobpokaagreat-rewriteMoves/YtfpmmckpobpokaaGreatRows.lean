/-
  NARROWER THAN 'FOR EVERY INPUT', by the rows' own cells (each row's printed sentence says how): RewriteMoves: loops · RewriteShifts: loops · RewriteFollows: loops · RewriteBack: loops · RewriteAlike: loops · RewriteKeeps: loops.
  DERIVED. THE GIVEN ROWS OF THIS SEAT. 6 by the template 'for every input the law returns true; each argument reads behind the call as it read before'; 0 by the template 'total and deterministic' (their statements: YtfpmmckpobpokaaGreatTotals.lean).
  GIVEN WITH THE SEED: the statements are not yours to turn. If you find one false, say at which input.
  Laid BY PROGRAM, IN A SANDBOX (cutbox-rows.mjs): the forced cells as the released guide's own fill.sh prints them over the translation bfecb225562b0b10… (all of the seat's roots in one cut). By AI agents, Wed Nov 11 2026. No macro, syntax, notation, axiom, sorry.
-/
import Derived.Test.YtfpmmckpobpokaaGreatChecked
import GoSem.Claim
import GoSem.ClaimJoined
import GoSem.ClaimMapViews
import Derived.JoinedTies
import Derived.KernelRfl
namespace Go.Proofs.YtfpmmckpobpokaaGreat
/- THE CELL 'sum', in the pinned program and in every row, IS THE sha256 OF THE DUMP (.gsa) THAT YtfpmmckpobpokaaGreatProg.lean LOADS. Nothing in Lean hashes anything: it is a label: what it is worth is what the hold of that sum in a sandbox is worth. -/
noncomputable def Tryz.pinned : Pinned := { name := "ytfpmmckpobpokaagreat", sum := "bfecb225562b0b10e30bb4b800616682dff5c19b3376ec5a31d2d54a3d4440fa", checked := Tryz.checked }
namespace Rows
def none {H : Type} : Left H := { results := [], args := [] }

/-- 'foolscaplaw10.RewriteMoves': WHATEVER THE INPUT: true; the input reads as it did. -/
def rewriteMovesSpec : ChangeSpec := { name := "rewriteMoves", fn := fun _ => fun
  | [d1, d2] => { results := [.lit (.bool true)], args := [d1, d2] }
  | _ => none }
def rewriteMovesRow : OpenClaim := { program := "ytfpmmckpobpokaagreat", sum := "bfecb225562b0b10e30bb4b800616682dff5c19b3376ec5a31d2d54a3d4440fa", func := "foolscap/foolscaplaw10.RewriteMoves", spec := "rewriteMoves", unfollowed := true, recurses := true, loops := true, plainKeys := false, apart := false }
def RewriteMovesSaid : Prop := rewriteMovesRow.holds Tryz.pinned (OpenSpec.ofChange rewriteMovesSpec)

/-- ITS FALSE NEIGHBOUR: 'it returns false'. Refute it at one input. -/
def rewriteMovesWrong : ChangeSpec := { name := "rewriteMoves", fn := fun _ => fun
  | [d1, d2] => { results := [.lit (.bool false)], args := [d1, d2] }
  | _ => none }
def RewriteMovesWrongFalsely : Prop := rewriteMovesRow.holds Tryz.pinned (OpenSpec.ofChange rewriteMovesWrong)

/-- 'foolscaplaw10.RewriteShifts': WHATEVER THE INPUT: true; the input reads as it did. -/
def rewriteShiftsSpec : ChangeSpec := { name := "rewriteShifts", fn := fun _ => fun
  | [d1, d2, d3] => { results := [.lit (.bool true)], args := [d1, d2, d3] }
  | _ => none }
def rewriteShiftsRow : OpenClaim := { program := "ytfpmmckpobpokaagreat", sum := "bfecb225562b0b10e30bb4b800616682dff5c19b3376ec5a31d2d54a3d4440fa", func := "foolscap/foolscaplaw10.RewriteShifts", spec := "rewriteShifts", unfollowed := true, recurses := true, loops := true, plainKeys := false, apart := false }
def RewriteShiftsSaid : Prop := rewriteShiftsRow.holds Tryz.pinned (OpenSpec.ofChange rewriteShiftsSpec)

/-- ITS FALSE NEIGHBOUR: 'it returns false'. Refute it at one input. -/
def rewriteShiftsWrong : ChangeSpec := { name := "rewriteShifts", fn := fun _ => fun
  | [d1, d2, d3] => { results := [.lit (.bool false)], args := [d1, d2, d3] }
  | _ => none }
def RewriteShiftsWrongFalsely : Prop := rewriteShiftsRow.holds Tryz.pinned (OpenSpec.ofChange rewriteShiftsWrong)

/-- 'foolscaplaw10.RewriteFollows': WHATEVER THE INPUT: true; the input reads as it did. -/
def rewriteFollowsSpec : ChangeSpec := { name := "rewriteFollows", fn := fun _ => fun
  | [d1, d2, d3] => { results := [.lit (.bool true)], args := [d1, d2, d3] }
  | _ => none }
def rewriteFollowsRow : OpenClaim := { program := "ytfpmmckpobpokaagreat", sum := "bfecb225562b0b10e30bb4b800616682dff5c19b3376ec5a31d2d54a3d4440fa", func := "foolscap/foolscaplaw10.RewriteFollows", spec := "rewriteFollows", unfollowed := true, recurses := true, loops := true, plainKeys := false, apart := false }
def RewriteFollowsSaid : Prop := rewriteFollowsRow.holds Tryz.pinned (OpenSpec.ofChange rewriteFollowsSpec)

/-- ITS FALSE NEIGHBOUR: 'it returns false'. Refute it at one input. -/
def rewriteFollowsWrong : ChangeSpec := { name := "rewriteFollows", fn := fun _ => fun
  | [d1, d2, d3] => { results := [.lit (.bool false)], args := [d1, d2, d3] }
  | _ => none }
def RewriteFollowsWrongFalsely : Prop := rewriteFollowsRow.holds Tryz.pinned (OpenSpec.ofChange rewriteFollowsWrong)

/-- 'foolscaplaw10.RewriteBack': WHATEVER THE INPUT: true; the input reads as it did. -/
def rewriteBackSpec : ChangeSpec := { name := "rewriteBack", fn := fun _ => fun
  | [d1, d2] => { results := [.lit (.bool true)], args := [d1, d2] }
  | _ => none }
def rewriteBackRow : OpenClaim := { program := "ytfpmmckpobpokaagreat", sum := "bfecb225562b0b10e30bb4b800616682dff5c19b3376ec5a31d2d54a3d4440fa", func := "foolscap/foolscaplaw10.RewriteBack", spec := "rewriteBack", unfollowed := true, recurses := true, loops := true, plainKeys := false, apart := false }
def RewriteBackSaid : Prop := rewriteBackRow.holds Tryz.pinned (OpenSpec.ofChange rewriteBackSpec)

/-- ITS FALSE NEIGHBOUR: 'it returns false'. Refute it at one input. -/
def rewriteBackWrong : ChangeSpec := { name := "rewriteBack", fn := fun _ => fun
  | [d1, d2] => { results := [.lit (.bool false)], args := [d1, d2] }
  | _ => none }
def RewriteBackWrongFalsely : Prop := rewriteBackRow.holds Tryz.pinned (OpenSpec.ofChange rewriteBackWrong)

/-- 'foolscaplaw10.RewriteAlike': WHATEVER THE INPUT: true; the input reads as it did. -/
def rewriteAlikeSpec : ChangeSpec := { name := "rewriteAlike", fn := fun _ => fun
  | [d1, d2, d3] => { results := [.lit (.bool true)], args := [d1, d2, d3] }
  | _ => none }
def rewriteAlikeRow : OpenClaim := { program := "ytfpmmckpobpokaagreat", sum := "bfecb225562b0b10e30bb4b800616682dff5c19b3376ec5a31d2d54a3d4440fa", func := "foolscap/foolscaplaw10.RewriteAlike", spec := "rewriteAlike", unfollowed := true, recurses := true, loops := true, plainKeys := false, apart := false }
def RewriteAlikeSaid : Prop := rewriteAlikeRow.holds Tryz.pinned (OpenSpec.ofChange rewriteAlikeSpec)

/-- ITS FALSE NEIGHBOUR: 'it returns false'. Refute it at one input. -/
def rewriteAlikeWrong : ChangeSpec := { name := "rewriteAlike", fn := fun _ => fun
  | [d1, d2, d3] => { results := [.lit (.bool false)], args := [d1, d2, d3] }
  | _ => none }
def RewriteAlikeWrongFalsely : Prop := rewriteAlikeRow.holds Tryz.pinned (OpenSpec.ofChange rewriteAlikeWrong)

/-- 'foolscaplaw10.RewriteKeeps': WHATEVER THE INPUT: true; the input reads as it did. -/
def rewriteKeepsSpec : ChangeSpec := { name := "rewriteKeeps", fn := fun _ => fun
  | [d1, d2, d3, d4] => { results := [.lit (.bool true)], args := [d1, d2, d3, d4] }
  | _ => none }
def rewriteKeepsRow : OpenClaim := { program := "ytfpmmckpobpokaagreat", sum := "bfecb225562b0b10e30bb4b800616682dff5c19b3376ec5a31d2d54a3d4440fa", func := "foolscap/foolscaplaw10.RewriteKeeps", spec := "rewriteKeeps", unfollowed := true, recurses := true, loops := true, plainKeys := false, apart := false }
def RewriteKeepsSaid : Prop := rewriteKeepsRow.holds Tryz.pinned (OpenSpec.ofChange rewriteKeepsSpec)

/-- ITS FALSE NEIGHBOUR: 'it returns false'. Refute it at one input. -/
def rewriteKeepsWrong : ChangeSpec := { name := "rewriteKeeps", fn := fun _ => fun
  | [d1, d2, d3, d4] => { results := [.lit (.bool false)], args := [d1, d2, d3, d4] }
  | _ => none }
def RewriteKeepsWrongFalsely : Prop := rewriteKeepsRow.holds Tryz.pinned (OpenSpec.ofChange rewriteKeepsWrong)

/- THE SECOND FORM. 'bulk': how many values and letters a reading holds, each counted each time it is reached (what is shared counts as often as it is met; a slice's spare places count too). A statement '..UptoSaid' is the law's where the arguments, and the package variables that the reading takes, are together of bulk at most 1048576: NARROWER than '..Said'. Prove '..Said' where nothing that the law and all that it calls make is longer than what came in: it says more and counts as full. Else prove '..UptoSaid'. A law counts once. -/
mutual
def uptoBulk {H : Type} : DataW H → Nat
  | .lit (.string bytes) => bytes.length + 1
  | .lit _ => 1
  | .nil => 1
  | .ptr d => uptoBulk d + 1
  | .slice elems spare => uptoBulkAll elems + uptoBulkAll spare + 1
  | .agg parts => uptoBulkAll parts + 1
  | .iface _ d => uptoBulk d + 1
  | .map entries => uptoBulkEntries entries + 1
  | .held _ => 1
def uptoBulkAll {H : Type} : List (DataW H) → Nat
  | [] => 0
  | d :: r => uptoBulk d + uptoBulkAll r
def uptoBulkEntries {H : Type} : List (Lit × DataW H) → Nat
  | [] => 0
  | x :: r => uptoBulkEntry x + uptoBulkEntries r
def uptoBulkEntry {H : Type} : Lit × DataW H → Nat
  | (.string bytes, d) => bytes.length + uptoBulk d + 1
  | (_, d) => uptoBulk d + 1
 end
def uptoSmall : (H : Type) → List (DataW H) → Bool := fun _ ds => decide (uptoBulkAll ds ≤ 1048576)
def OpenSpec.upto (s : _root_.Go.ChangeSpec) : _root_.Go.OpenSpec := { _root_.Go.OpenSpec.ofChange s with cond := some uptoSmall }

/-- 'foolscaplaw10.RewriteMoves', WHERE WHAT IT READS IS OF BULK AT MOST 1048576: true; the input reads as it did. -/
def rewriteMovesUptoRow : OpenClaim := { program := "ytfpmmckpobpokaagreat", sum := "bfecb225562b0b10e30bb4b800616682dff5c19b3376ec5a31d2d54a3d4440fa", func := "foolscap/foolscaplaw10.RewriteMoves", spec := "rewriteMoves", unfollowed := true, recurses := true, loops := true, plainKeys := false, apart := false, narrowed := true }
def RewriteMovesUptoSaid : Prop := rewriteMovesUptoRow.holds Tryz.pinned (OpenSpec.upto rewriteMovesSpec)

/-- 'foolscaplaw10.RewriteShifts', WHERE WHAT IT READS IS OF BULK AT MOST 1048576: true; the input reads as it did. -/
def rewriteShiftsUptoRow : OpenClaim := { program := "ytfpmmckpobpokaagreat", sum := "bfecb225562b0b10e30bb4b800616682dff5c19b3376ec5a31d2d54a3d4440fa", func := "foolscap/foolscaplaw10.RewriteShifts", spec := "rewriteShifts", unfollowed := true, recurses := true, loops := true, plainKeys := false, apart := false, narrowed := true }
def RewriteShiftsUptoSaid : Prop := rewriteShiftsUptoRow.holds Tryz.pinned (OpenSpec.upto rewriteShiftsSpec)

/-- 'foolscaplaw10.RewriteFollows', WHERE WHAT IT READS IS OF BULK AT MOST 1048576: true; the input reads as it did. -/
def rewriteFollowsUptoRow : OpenClaim := { program := "ytfpmmckpobpokaagreat", sum := "bfecb225562b0b10e30bb4b800616682dff5c19b3376ec5a31d2d54a3d4440fa", func := "foolscap/foolscaplaw10.RewriteFollows", spec := "rewriteFollows", unfollowed := true, recurses := true, loops := true, plainKeys := false, apart := false, narrowed := true }
def RewriteFollowsUptoSaid : Prop := rewriteFollowsUptoRow.holds Tryz.pinned (OpenSpec.upto rewriteFollowsSpec)

/-- 'foolscaplaw10.RewriteBack', WHERE WHAT IT READS IS OF BULK AT MOST 1048576: true; the input reads as it did. -/
def rewriteBackUptoRow : OpenClaim := { program := "ytfpmmckpobpokaagreat", sum := "bfecb225562b0b10e30bb4b800616682dff5c19b3376ec5a31d2d54a3d4440fa", func := "foolscap/foolscaplaw10.RewriteBack", spec := "rewriteBack", unfollowed := true, recurses := true, loops := true, plainKeys := false, apart := false, narrowed := true }
def RewriteBackUptoSaid : Prop := rewriteBackUptoRow.holds Tryz.pinned (OpenSpec.upto rewriteBackSpec)

/-- 'foolscaplaw10.RewriteAlike', WHERE WHAT IT READS IS OF BULK AT MOST 1048576: true; the input reads as it did. -/
def rewriteAlikeUptoRow : OpenClaim := { program := "ytfpmmckpobpokaagreat", sum := "bfecb225562b0b10e30bb4b800616682dff5c19b3376ec5a31d2d54a3d4440fa", func := "foolscap/foolscaplaw10.RewriteAlike", spec := "rewriteAlike", unfollowed := true, recurses := true, loops := true, plainKeys := false, apart := false, narrowed := true }
def RewriteAlikeUptoSaid : Prop := rewriteAlikeUptoRow.holds Tryz.pinned (OpenSpec.upto rewriteAlikeSpec)

/-- 'foolscaplaw10.RewriteKeeps', WHERE WHAT IT READS IS OF BULK AT MOST 1048576: true; the input reads as it did. -/
def rewriteKeepsUptoRow : OpenClaim := { program := "ytfpmmckpobpokaagreat", sum := "bfecb225562b0b10e30bb4b800616682dff5c19b3376ec5a31d2d54a3d4440fa", func := "foolscap/foolscaplaw10.RewriteKeeps", spec := "rewriteKeeps", unfollowed := true, recurses := true, loops := true, plainKeys := false, apart := false, narrowed := true }
def RewriteKeepsUptoSaid : Prop := rewriteKeepsUptoRow.holds Tryz.pinned (OpenSpec.upto rewriteKeepsSpec)

end Rows
end Go.Proofs.YtfpmmckpobpokaaGreat
