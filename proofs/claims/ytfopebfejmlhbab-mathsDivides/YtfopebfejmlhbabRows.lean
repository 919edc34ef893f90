/-
  No cell of these rows narrows 'for every input' (looked for: loops, veiled, ifaces, maps, wideKeys, modest, calm, conditions, laid).
  DERIVED. THE GIVEN ROWS OF THIS SEAT. 3 by the template 'for every input the law returns true; each argument reads behind the call as it read before'; 0 by the template 'total and deterministic' (their statements: YtfopebfejmlhbabTotals.lean).
  GIVEN WITH THE SEED: the statements are not yours to turn. If you find one false, say at which input.
  Laid BY PROGRAM, IN A SANDBOX (cutbox-rows.mjs): the forced cells as the released guide's own fill.sh prints them over the translation da5f811de29e3450… (all of the seat's roots in one cut). By AI agents, Wed Nov 11 2026. No macro, syntax, notation, axiom, sorry.
-/
import Derived.Test.YtfopebfejmlhbabChecked
import GoSem.Claim
import GoSem.ClaimJoined
import GoSem.ClaimMapViews
import Derived.JoinedTies
import Derived.KernelRfl
namespace Go.Proofs.Ytfopebfejmlhbab
/- THE CELL 'sum', in the pinned program and in every row, IS THE sha256 OF THE DUMP (.gsa) THAT YtfopebfejmlhbabProg.lean LOADS. Nothing in Lean hashes anything: it is a label: what it is worth is what the hold of that sum in a sandbox is worth. -/
noncomputable def Try.pinned : Pinned := { name := "ytfopebfejmlhbab", sum := "da5f811de29e345041e64598da53e4a2b44a8386997c9e7f00e8c306f9d991a3", checked := Try.checked }
namespace Rows
def none {H : Type} : Left H := { results := [], args := [] }

/-- 'foolscaplaw15.MathsSquares': WHATEVER THE INPUT: true; the input reads as it did. -/
def mathsSquaresSpec : ChangeSpec := { name := "mathsSquares", fn := fun _ => fun
  | [d] => { results := [.lit (.bool true)], args := [d] }
  | _ => none }
def mathsSquaresRow : OpenClaim := { program := "ytfopebfejmlhbab", sum := "da5f811de29e345041e64598da53e4a2b44a8386997c9e7f00e8c306f9d991a3", func := "foolscap/foolscaplaw15.MathsSquares", spec := "mathsSquares", unfollowed := true, recurses := true, named := ["math/bits.divideError", "math/bits.overflowError"], apart := false }
def MathsSquaresSaid : Prop := mathsSquaresRow.holds Try.pinned (OpenSpec.ofChange mathsSquaresSpec)

/-- ITS FALSE NEIGHBOUR: 'it returns false'. Refute it at one input. -/
def mathsSquaresWrong : ChangeSpec := { name := "mathsSquares", fn := fun _ => fun
  | [d] => { results := [.lit (.bool false)], args := [d] }
  | _ => none }
def MathsSquaresWrongFalsely : Prop := mathsSquaresRow.holds Try.pinned (OpenSpec.ofChange mathsSquaresWrong)

/-- 'foolscaplaw15.MathsDivides': WHATEVER THE INPUT: true; the input reads as it did. -/
def mathsDividesSpec : ChangeSpec := { name := "mathsDivides", fn := fun _ => fun
  | [d1, d2, d3] => { results := [.lit (.bool true)], args := [d1, d2, d3] }
  | _ => none }
def mathsDividesRow : OpenClaim := { program := "ytfopebfejmlhbab", sum := "da5f811de29e345041e64598da53e4a2b44a8386997c9e7f00e8c306f9d991a3", func := "foolscap/foolscaplaw15.MathsDivides", spec := "mathsDivides", unfollowed := true, recurses := true, named := ["math/bits.divideError", "math/bits.overflowError"], apart := false }
def MathsDividesSaid : Prop := mathsDividesRow.holds Try.pinned (OpenSpec.ofChange mathsDividesSpec)

/-- ITS FALSE NEIGHBOUR: 'it returns false'. Refute it at one input. -/
def mathsDividesWrong : ChangeSpec := { name := "mathsDivides", fn := fun _ => fun
  | [d1, d2, d3] => { results := [.lit (.bool false)], args := [d1, d2, d3] }
  | _ => none }
def MathsDividesWrongFalsely : Prop := mathsDividesRow.holds Try.pinned (OpenSpec.ofChange mathsDividesWrong)

/-- 'foolscaplaw15.MathsMirror': WHATEVER THE INPUT: true; the input reads as it did. -/
def mathsMirrorSpec : ChangeSpec := { name := "mathsMirror", fn := fun _ => fun
  | [d1, d2, d3] => { results := [.lit (.bool true)], args := [d1, d2, d3] }
  | _ => none }
def mathsMirrorRow : OpenClaim := { program := "ytfopebfejmlhbab", sum := "da5f811de29e345041e64598da53e4a2b44a8386997c9e7f00e8c306f9d991a3", func := "foolscap/foolscaplaw15.MathsMirror", spec := "mathsMirror", unfollowed := true, recurses := true, named := ["math/bits.divideError", "math/bits.overflowError"], apart := false }
def MathsMirrorSaid : Prop := mathsMirrorRow.holds Try.pinned (OpenSpec.ofChange mathsMirrorSpec)

/-- ITS FALSE NEIGHBOUR: 'it returns false'. Refute it at one input. -/
def mathsMirrorWrong : ChangeSpec := { name := "mathsMirror", fn := fun _ => fun
  | [d1, d2, d3] => { results := [.lit (.bool false)], args := [d1, d2, d3] }
  | _ => none }
def MathsMirrorWrongFalsely : Prop := mathsMirrorRow.holds Try.pinned (OpenSpec.ofChange mathsMirrorWrong)

/- THE SECOND FORM. 'bulk': how many values and letters a reading holds, each counted each time it is reached (what is shared counts as often as it is met; a slice's spare places count too). A statement '..UptoSaid' is the law's where the arguments, and the package variables that the reading takes, are together of bulk at most 1048576: NARROWER than '..Said'. Prove '..Said' where nothing that the law and all that it calls make is longer than what came in: it says more and counts as full. Else prove '..UptoSaid'. A law counts once. -/
mutual
def uptoBulk {H : Type} : DataW H → Nat
  | .lit (.string bytes) => bytes.length + 1
  | .lit _ => 1
  | .nil => 1
  | .ptr d => uptoBulk d + 1
  | .slice elems spare => uptoBulkAll elems + uptoBulkAll spare + 1
  | .agg parts => uptoBulkAll parts + 1
  | .iface _ d => uptoBulk d + 1
  | .map entries => uptoBulkEntries entries + 1
  | .held _ => 1
def uptoBulkAll {H : Type} : List (DataW H) → Nat
  | [] => 0
  | d :: r => uptoBulk d + uptoBulkAll r
def uptoBulkEntries {H : Type} : List (Lit × DataW H) → Nat
  | [] => 0
  | x :: r => uptoBulkEntry x + uptoBulkEntries r
def uptoBulkEntry {H : Type} : Lit × DataW H → Nat
  | (.string bytes, d) => bytes.length + uptoBulk d + 1
  | (_, d) => uptoBulk d + 1
 end
def uptoSmall : (H : Type) → List (DataW H) → Bool := fun _ ds => decide (uptoBulkAll ds ≤ 1048576)
def OpenSpec.upto (s : _root_.Go.ChangeSpec) : _root_.Go.OpenSpec := { _root_.Go.OpenSpec.ofChange s with cond := some uptoSmall }

/-- 'foolscaplaw15.MathsSquares', WHERE WHAT IT READS IS OF BULK AT MOST 1048576: true; the input reads as it did. -/
def mathsSquaresUptoRow : OpenClaim := { program := "ytfopebfejmlhbab", sum := "da5f811de29e345041e64598da53e4a2b44a8386997c9e7f00e8c306f9d991a3", func := "foolscap/foolscaplaw15.MathsSquares", spec := "mathsSquares", unfollowed := true, recurses := true, named := ["math/bits.divideError", "math/bits.overflowError"], apart := false, narrowed := true }
def MathsSquaresUptoSaid : Prop := mathsSquaresUptoRow.holds Try.pinned (OpenSpec.upto mathsSquaresSpec)

/-- 'foolscaplaw15.MathsDivides', WHERE WHAT IT READS IS OF BULK AT MOST 1048576: true; the input reads as it did. -/
def mathsDividesUptoRow : OpenClaim := { program := "ytfopebfejmlhbab", sum := "da5f811de29e345041e64598da53e4a2b44a8386997c9e7f00e8c306f9d991a3", func := "foolscap/foolscaplaw15.MathsDivides", spec := "mathsDivides", unfollowed := true, recurses := true, named := ["math/bits.divideError", "math/bits.overflowError"], apart := false, narrowed := true }
def MathsDividesUptoSaid : Prop := mathsDividesUptoRow.holds Try.pinned (OpenSpec.upto mathsDividesSpec)

/-- 'foolscaplaw15.MathsMirror', WHERE WHAT IT READS IS OF BULK AT MOST 1048576: true; the input reads as it did. -/
def mathsMirrorUptoRow : OpenClaim := { program := "ytfopebfejmlhbab", sum := "da5f811de29e345041e64598da53e4a2b44a8386997c9e7f00e8c306f9d991a3", func := "foolscap/foolscaplaw15.MathsMirror", spec := "mathsMirror", unfollowed := true, recurses := true, named := ["math/bits.divideError", "math/bits.overflowError"], apart := false, narrowed := true }
def MathsMirrorUptoSaid : Prop := mathsMirrorUptoRow.holds Try.pinned (OpenSpec.upto mathsMirrorSpec)

end Rows
end Go.Proofs.Ytfopebfejmlhbab
