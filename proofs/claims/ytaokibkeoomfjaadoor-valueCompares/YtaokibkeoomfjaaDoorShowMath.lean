/-
  How a value is shown, and what a text is read as, in plain words.
-/
import Derived.Test.YtaokibkeoomfjaaDoorNames
namespace Go.Proofs.YtaokibkeoomfjaaDoor
open Go.RowKit

/-- What Show says. -/
def showV (k n : Int) (s : ByteArray) (b : Bool) (c : Int) : List UInt8 × Int :=
  if rightB k n s b c = false then ([], 2) else if k = 4 then (nameL c.toNat, 0) else ((wordsV k n s b c).1, 0)
/-- A value as plain data. -/
structure Val where
  k : Int
  n : Int
  s : List UInt8
  b : Bool
  c : Int
/-- What Read says: a value, and why there is none. -/
def readR (l : List UInt8) : Val × Int :=
  if l = [] then (⟨0, 0, [], false, 0⟩, 0)
  else if (parseR l).2 = 0 then (⟨1, (parseR l).1, [], false, 0⟩, 0)
  else if (namedR l).2 = true then (⟨3, 0, [], (namedR l).1, 0⟩, 0)
  else if faultR l ≠ 0 then (⟨4, 0, [], false, faultR l⟩, 0)
  else if 255 < l.length then (⟨0, 0, [], false, 0⟩, 7)
  else (⟨2, 0, l, false, 0⟩, 0)
theorem read_nil : readR [] = (⟨0, 0, [], false, 0⟩, 0) := by simp [readR]
theorem read_num {l : List UInt8} (h0 : l ≠ []) (h1 : (parseR l).2 = 0) : readR l = (⟨1, (parseR l).1, [], false, 0⟩, 0) := by simp [readR, h0, h1]
theorem read_truth {l : List UInt8} (h0 : l ≠ []) (h1 : ¬ (parseR l).2 = 0) (h2 : (namedR l).2 = true) : readR l = (⟨3, 0, [], (namedR l).1, 0⟩, 0) := by simp [readR, h0, h1, h2]
theorem read_fault {l : List UInt8} (h0 : l ≠ []) (h1 : ¬ (parseR l).2 = 0) (h2 : (namedR l).2 = false) (h3 : faultR l ≠ 0) : readR l = (⟨4, 0, [], false, faultR l⟩, 0) := by simp [readR, h0, h1, h2, h3]
theorem read_big {l : List UInt8} (h0 : l ≠ []) (h1 : ¬ (parseR l).2 = 0) (h2 : (namedR l).2 = false) (h3 : faultR l = 0) (h4 : 255 < l.length) : readR l = (⟨0, 0, [], false, 0⟩, 7) := by simp [readR, h0, h1, h2, h3, h4]
theorem read_text {l : List UInt8} (h0 : l ≠ []) (h1 : ¬ (parseR l).2 = 0) (h2 : (namedR l).2 = false) (h3 : faultR l = 0) (h4 : ¬ 255 < l.length) : readR l = (⟨2, 0, l, false, 0⟩, 0) := by simp [readR, h0, h1, h2, h3, h4]
end Go.Proofs.YtaokibkeoomfjaaDoor
