/-
  The contract of the statements' shape, where the second node is the first one made anew (made by shapegen.py).
-/
import Derived.Test.YtfpmmckpobpokaaGreatMZ9
namespace Go.Proofs.YtfpmmckpobpokaaGreat
open Go.RowKit
def goneH (h h' : Hd) : Prop := (h.kind = 2 ∨ h.kind = 3) ∧ h'.kind = 1 ∧ h'.vc = 3
def keptH (h h' : Hd) : Prop := h' = ⟨h.kind, h.vk, h.vn, h.vs, h.vb, h.vc, h'.row, h'.col, h.fr, h'.fc, h'.row2, h'.col2, h'.fr2, h.fc2, h.txt⟩
end Go.Proofs.YtfpmmckpobpokaaGreat
