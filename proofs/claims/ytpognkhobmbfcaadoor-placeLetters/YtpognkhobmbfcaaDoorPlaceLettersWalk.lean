/-
  The walk of PlaceLetters: for every int and text it returns true.
-/
import Derived.Test.YtpognkhobmbfcaaDoorPt8
import Derived.Test.YtpognkhobmbfcaaDoorPt2
import Derived.Test.YtpognkhobmbfcaaDoorPt9
namespace Go.Proofs.YtpognkhobmbfcaaDoor
open Go.RowKit

set_option maxRecDepth 100000 in
set_option maxHeartbeats 4000000 in
theorem placeLetters_walk (c : Int) (s : ByteArray) (w : World) (ht : TabOk w) (hs : s.size ≤ maxLen) :
    Calls Tryd.prog 3 #[.int .i64 c, .string s] w fun e w' => e = .returned (.bool true) ∧ Below w.heap.size w w' := by
  have HA : Hid (∀ W : World, Calls Tryd.prog 9 #[.int .i64 c] W fun e w' => e = .returned (.tuple #[.string ⟨(lettersR c).1.toArray⟩, .int .i64 (lettersR c).2]) ∧ w' = W) := fun W => letters_any c W
  have HB : Hid (∀ W : World, Calls Tryd.prog 10 #[.int .i64 c] W fun e w' => e = .returned (.tuple #[.string ⟨(lettersR c).1.toArray⟩, .int .i64 (lettersR c).2]) ∧ Below W.heap.size W w') := fun W => rletters_any c W
  have HC : Hid (∀ W : World, Calls Tryd.prog 11 #[.string s] W fun e w' => e = .returned (.tuple #[.int .i64 (columnR s.data.toList).1, .int .i64 (columnR s.data.toList).2]) ∧ Below W.heap.size W w') := fun W => column_any s W hs
  have HD : Hid (∀ W : World, Calls Tryd.prog 12 #[.string s] W fun e w' => e = .returned (.tuple #[.int .i64 (columnR s.data.toList).1, .int .i64 (columnR s.data.toList).2]) ∧ w' = W) := fun W => rcolumn_any s W hs
  have HT := hide ht
  clear ht hs
  generalize (lettersR c).1 = la at *
  generalize (lettersR c).2 = le at *
  generalize (columnR s.data.toList).1 = ca at *
  generalize (columnR s.data.toList).2 = ce at *
  have e1 : (la == la) = true := by simp
  have e2 : (le == le) = true := by simp
  have e3 : (ca == ca) = true := by simp
  have e4 : (ce == ce) = true := by simp
  go_enter Tryd.func3, Tryd.ntmps3
  go_wp2_with fail
  refine (HA.out _).mono ?_
  rintro e wz ⟨rfl, hz⟩
  subst wz
  go_wp2_with fail
  refine (HB.out _).mono ?_
  rintro e w1 ⟨rfl, hb1⟩
  go_wp2_with fail
  refine (HC.out _).mono ?_
  rintro e w2 ⟨rfl, hb2⟩
  go_wp2_with fail
  refine (HD.out _).mono ?_
  rintro e wz ⟨rfl, hz⟩
  subst wz
  have HW := hide (hb1.trans (hb2.mono hb1.size))
  clear hb1 hb2
  go_wp2_with fail
  refine (lives5_any _ (tab_below HT.out HW.out)).mono ?_
  rintro e w3 ⟨rfl, hb3⟩
  go_wp2
  go_ret
  exact ⟨rfl, HW.out.trans (hb3.mono HW.out.size)⟩
end Go.Proofs.YtpognkhobmbfcaaDoor
