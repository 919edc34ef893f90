/-
  No cell of these rows narrows 'for every input' (looked for: loops, veiled, ifaces, maps, wideKeys, modest, calm, conditions, laid).
  DERIVED. THE GIVEN ROWS OF THIS SEAT. 6 by the template 'for every input the law returns true; each argument reads behind the call as it read before'; 0 by the template 'total and deterministic' (their statements: YtfopebfejmlhbaaTotals.lean).
  GIVEN WITH THE SEED: the statements are not yours to turn. If you find one false, say at which input.
  Laid BY PROGRAM, IN A SANDBOX (cutbox-rows.mjs): the forced cells as the released guide's own fill.sh prints them over the translation cbb880445a8dcff2… (all of the seat's roots in one cut). By AI agents, Wed Nov 11 2026. No macro, syntax, notation, axiom, sorry.
-/
import Derived.Test.YtfopebfejmlhbaaChecked
import GoSem.Claim
import GoSem.ClaimJoined
import GoSem.ClaimMapViews
import Derived.JoinedTies
import Derived.KernelRfl
namespace Go.Proofs.Ytfopebfejmlhbaa
/- THE CELL 'sum', in the pinned program and in every row, IS THE sha256 OF THE DUMP (.gsa) THAT YtfopebfejmlhbaaProg.lean LOADS. Nothing in Lean hashes anything: it is a label: what it is worth is what the hold of that sum in a sandbox is worth. -/
noncomputable def Try.pinned : Pinned := { name := "ytfopebfejmlhbaa", sum := "cbb880445a8dcff25488387df87ec0c6a7e016bc24ae7288e329944a0665d420", checked := Try.checked }
namespace Rows
def none {H : Type} : Left H := { results := [], args := [] }

/-- 'foolscaplaw15.MathsRounds': WHATEVER THE INPUT: true; the input reads as it did. -/
def mathsRoundsSpec : ChangeSpec := { name := "mathsRounds", fn := fun _ => fun
  | [d1, d2] => { results := [.lit (.bool true)], args := [d1, d2] }
  | _ => none }
def mathsRoundsRow : OpenClaim := { program := "ytfopebfejmlhbaa", sum := "cbb880445a8dcff25488387df87ec0c6a7e016bc24ae7288e329944a0665d420", func := "foolscap/foolscaplaw15.MathsRounds", spec := "mathsRounds", unfollowed := true, recurses := true, named := ["math/bits.divideError", "math/bits.overflowError"], apart := false }
def MathsRoundsSaid : Prop := mathsRoundsRow.holds Try.pinned (OpenSpec.ofChange mathsRoundsSpec)

/-- ITS FALSE NEIGHBOUR: 'it returns false'. Refute it at one input. -/
def mathsRoundsWrong : ChangeSpec := { name := "mathsRounds", fn := fun _ => fun
  | [d1, d2] => { results := [.lit (.bool false)], args := [d1, d2] }
  | _ => none }
def MathsRoundsWrongFalsely : Prop := mathsRoundsRow.holds Try.pinned (OpenSpec.ofChange mathsRoundsWrong)

/-- 'foolscaplaw15.MathsSteps': WHATEVER THE INPUT: true; the input reads as it did. -/
def mathsStepsSpec : ChangeSpec := { name := "mathsSteps", fn := fun _ => fun
  | [d1, d2] => { results := [.lit (.bool true)], args := [d1, d2] }
  | _ => none }
def mathsStepsRow : OpenClaim := { program := "ytfopebfejmlhbaa", sum := "cbb880445a8dcff25488387df87ec0c6a7e016bc24ae7288e329944a0665d420", func := "foolscap/foolscaplaw15.MathsSteps", spec := "mathsSteps", unfollowed := true, recurses := true, named := ["math/bits.divideError", "math/bits.overflowError"], apart := false }
def MathsStepsSaid : Prop := mathsStepsRow.holds Try.pinned (OpenSpec.ofChange mathsStepsSpec)

/-- ITS FALSE NEIGHBOUR: 'it returns false'. Refute it at one input. -/
def mathsStepsWrong : ChangeSpec := { name := "mathsSteps", fn := fun _ => fun
  | [d1, d2] => { results := [.lit (.bool false)], args := [d1, d2] }
  | _ => none }
def MathsStepsWrongFalsely : Prop := mathsStepsRow.holds Try.pinned (OpenSpec.ofChange mathsStepsWrong)

/-- 'foolscaplaw15.MathsPowers': WHATEVER THE INPUT: true; the input reads as it did. -/
def mathsPowersSpec : ChangeSpec := { name := "mathsPowers", fn := fun _ => fun
  | [d1, d2] => { results := [.lit (.bool true)], args := [d1, d2] }
  | _ => none }
def mathsPowersRow : OpenClaim := { program := "ytfopebfejmlhbaa", sum := "cbb880445a8dcff25488387df87ec0c6a7e016bc24ae7288e329944a0665d420", func := "foolscap/foolscaplaw15.MathsPowers", spec := "mathsPowers", unfollowed := true, recurses := true, named := ["math/bits.divideError", "math/bits.overflowError"], apart := false }
def MathsPowersSaid : Prop := mathsPowersRow.holds Try.pinned (OpenSpec.ofChange mathsPowersSpec)

/-- ITS FALSE NEIGHBOUR: 'it returns false'. Refute it at one input. -/
def mathsPowersWrong : ChangeSpec := { name := "mathsPowers", fn := fun _ => fun
  | [d1, d2] => { results := [.lit (.bool false)], args := [d1, d2] }
  | _ => none }
def MathsPowersWrongFalsely : Prop := mathsPowersRow.holds Try.pinned (OpenSpec.ofChange mathsPowersWrong)

/-- 'foolscaplaw15.MathsLists': WHATEVER THE INPUT: true; the input reads as it did. -/
def mathsListsSpec : ChangeSpec := { name := "mathsLists", fn := fun _ => fun
  | [d] => { results := [.lit (.bool true)], args := [d] }
  | _ => none }
def mathsListsRow : OpenClaim := { program := "ytfopebfejmlhbaa", sum := "cbb880445a8dcff25488387df87ec0c6a7e016bc24ae7288e329944a0665d420", func := "foolscap/foolscaplaw15.MathsLists", spec := "mathsLists", unfollowed := true, recurses := true, named := ["math/bits.divideError", "math/bits.overflowError"], apart := false }
def MathsListsSaid : Prop := mathsListsRow.holds Try.pinned (OpenSpec.ofChange mathsListsSpec)

/-- ITS FALSE NEIGHBOUR: 'it returns false'. Refute it at one input. -/
def mathsListsWrong : ChangeSpec := { name := "mathsLists", fn := fun _ => fun
  | [d] => { results := [.lit (.bool false)], args := [d] }
  | _ => none }
def MathsListsWrongFalsely : Prop := mathsListsRow.holds Try.pinned (OpenSpec.ofChange mathsListsWrong)

/-- 'foolscaplaw15.MathsNear': WHATEVER THE INPUT: true; the input reads as it did. -/
def mathsNearSpec : ChangeSpec := { name := "mathsNear", fn := fun _ => fun
  | [d1, d2, d3] => { results := [.lit (.bool true)], args := [d1, d2, d3] }
  | _ => none }
def mathsNearRow : OpenClaim := { program := "ytfopebfejmlhbaa", sum := "cbb880445a8dcff25488387df87ec0c6a7e016bc24ae7288e329944a0665d420", func := "foolscap/foolscaplaw15.MathsNear", spec := "mathsNear", unfollowed := true, recurses := true, named := ["math/bits.divideError", "math/bits.overflowError"], apart := false }
def MathsNearSaid : Prop := mathsNearRow.holds Try.pinned (OpenSpec.ofChange mathsNearSpec)

/-- ITS FALSE NEIGHBOUR: 'it returns false'. Refute it at one input. -/
def mathsNearWrong : ChangeSpec := { name := "mathsNear", fn := fun _ => fun
  | [d1, d2, d3] => { results := [.lit (.bool false)], args := [d1, d2, d3] }
  | _ => none }
def MathsNearWrongFalsely : Prop := mathsNearRow.holds Try.pinned (OpenSpec.ofChange mathsNearWrong)

/-- 'foolscaplaw15.MathsRoot': WHATEVER THE INPUT: true; the input reads as it did. -/
def mathsRootSpec : ChangeSpec := { name := "mathsRoot", fn := fun _ => fun
  | [d1, d2] => { results := [.lit (.bool true)], args := [d1, d2] }
  | _ => none }
def mathsRootRow : OpenClaim := { program := "ytfopebfejmlhbaa", sum := "cbb880445a8dcff25488387df87ec0c6a7e016bc24ae7288e329944a0665d420", func := "foolscap/foolscaplaw15.MathsRoot", spec := "mathsRoot", unfollowed := true, recurses := true, named := ["math/bits.divideError", "math/bits.overflowError"], apart := false }
def MathsRootSaid : Prop := mathsRootRow.holds Try.pinned (OpenSpec.ofChange mathsRootSpec)

/-- ITS FALSE NEIGHBOUR: 'it returns false'. Refute it at one input. -/
def mathsRootWrong : ChangeSpec := { name := "mathsRoot", fn := fun _ => fun
  | [d1, d2] => { results := [.lit (.bool false)], args := [d1, d2] }
  | _ => none }
def MathsRootWrongFalsely : Prop := mathsRootRow.holds Try.pinned (OpenSpec.ofChange mathsRootWrong)

/- THE SECOND FORM. 'bulk': how many values and letters a reading holds, each counted each time it is reached (what is shared counts as often as it is met; a slice's spare places count too). A statement '..UptoSaid' is the law's where the arguments, and the package variables that the reading takes, are together of bulk at most 1048576: NARROWER than '..Said'. Prove '..Said' where nothing that the law and all that it calls make is longer than what came in: it says more and counts as full. Else prove '..UptoSaid'. A law counts once. -/
mutual
def uptoBulk {H : Type} : DataW H → Nat
  | .lit (.string bytes) => bytes.length + 1
  | .lit _ => 1
  | .nil => 1
  | .ptr d => uptoBulk d + 1
  | .slice elems spare => uptoBulkAll elems + uptoBulkAll spare + 1
  | .agg parts => uptoBulkAll parts + 1
  | .iface _ d => uptoBulk d + 1
  | .map entries => uptoBulkEntries entries + 1
  | .held _ => 1
def uptoBulkAll {H : Type} : List (DataW H) → Nat
  | [] => 0
  | d :: r => uptoBulk d + uptoBulkAll r
def uptoBulkEntries {H : Type} : List (Lit × DataW H) → Nat
  | [] => 0
  | x :: r => uptoBulkEntry x + uptoBulkEntries r
def uptoBulkEntry {H : Type} : Lit × DataW H → Nat
  | (.string bytes, d) => bytes.length + uptoBulk d + 1
  | (_, d) => uptoBulk d + 1
 end
def uptoSmall : (H : Type) → List (DataW H) → Bool := fun _ ds => decide (uptoBulkAll ds ≤ 1048576)
def OpenSpec.upto (s : _root_.Go.ChangeSpec) : _root_.Go.OpenSpec := { _root_.Go.OpenSpec.ofChange s with cond := some uptoSmall }

/-- 'foolscaplaw15.MathsRounds', WHERE WHAT IT READS IS OF BULK AT MOST 1048576: true; the input reads as it did. -/
def mathsRoundsUptoRow : OpenClaim := { program := "ytfopebfejmlhbaa", sum := "cbb880445a8dcff25488387df87ec0c6a7e016bc24ae7288e329944a0665d420", func := "foolscap/foolscaplaw15.MathsRounds", spec := "mathsRounds", unfollowed := true, recurses := true, named := ["math/bits.divideError", "math/bits.overflowError"], apart := false, narrowed := true }
def MathsRoundsUptoSaid : Prop := mathsRoundsUptoRow.holds Try.pinned (OpenSpec.upto mathsRoundsSpec)

/-- 'foolscaplaw15.MathsSteps', WHERE WHAT IT READS IS OF BULK AT MOST 1048576: true; the input reads as it did. -/
def mathsStepsUptoRow : OpenClaim := { program := "ytfopebfejmlhbaa", sum := "cbb880445a8dcff25488387df87ec0c6a7e016bc24ae7288e329944a0665d420", func := "foolscap/foolscaplaw15.MathsSteps", spec := "mathsSteps", unfollowed := true, recurses := true, named := ["math/bits.divideError", "math/bits.overflowError"], apart := false, narrowed := true }
def MathsStepsUptoSaid : Prop := mathsStepsUptoRow.holds Try.pinned (OpenSpec.upto mathsStepsSpec)

/-- 'foolscaplaw15.MathsPowers', WHERE WHAT IT READS IS OF BULK AT MOST 1048576: true; the input reads as it did. -/
def mathsPowersUptoRow : OpenClaim := { program := "ytfopebfejmlhbaa", sum := "cbb880445a8dcff25488387df87ec0c6a7e016bc24ae7288e329944a0665d420", func := "foolscap/foolscaplaw15.MathsPowers", spec := "mathsPowers", unfollowed := true, recurses := true, named := ["math/bits.divideError", "math/bits.overflowError"], apart := false, narrowed := true }
def MathsPowersUptoSaid : Prop := mathsPowersUptoRow.holds Try.pinned (OpenSpec.upto mathsPowersSpec)

/-- 'foolscaplaw15.MathsLists', WHERE WHAT IT READS IS OF BULK AT MOST 1048576: true; the input reads as it did. -/
def mathsListsUptoRow : OpenClaim := { program := "ytfopebfejmlhbaa", sum := "cbb880445a8dcff25488387df87ec0c6a7e016bc24ae7288e329944a0665d420", func := "foolscap/foolscaplaw15.MathsLists", spec := "mathsLists", unfollowed := true, recurses := true, named := ["math/bits.divideError", "math/bits.overflowError"], apart := false, narrowed := true }
def MathsListsUptoSaid : Prop := mathsListsUptoRow.holds Try.pinned (OpenSpec.upto mathsListsSpec)

/-- 'foolscaplaw15.MathsNear', WHERE WHAT IT READS IS OF BULK AT MOST 1048576: true; the input reads as it did. -/
def mathsNearUptoRow : OpenClaim := { program := "ytfopebfejmlhbaa", sum := "cbb880445a8dcff25488387df87ec0c6a7e016bc24ae7288e329944a0665d420", func := "foolscap/foolscaplaw15.MathsNear", spec := "mathsNear", unfollowed := true, recurses := true, named := ["math/bits.divideError", "math/bits.overflowError"], apart := false, narrowed := true }
def MathsNearUptoSaid : Prop := mathsNearUptoRow.holds Try.pinned (OpenSpec.upto mathsNearSpec)

/-- 'foolscaplaw15.MathsRoot', WHERE WHAT IT READS IS OF BULK AT MOST 1048576: true; the input reads as it did. -/
def mathsRootUptoRow : OpenClaim := { program := "ytfopebfejmlhbaa", sum := "cbb880445a8dcff25488387df87ec0c6a7e016bc24ae7288e329944a0665d420", func := "foolscap/foolscaplaw15.MathsRoot", spec := "mathsRoot", unfollowed := true, recurses := true, named := ["math/bits.divideError", "math/bits.overflowError"], apart := false, narrowed := true }
def MathsRootUptoSaid : Prop := mathsRootUptoRow.holds Try.pinned (OpenSpec.upto mathsRootSpec)

end Rows
end Go.Proofs.Ytfopebfejmlhbaa
