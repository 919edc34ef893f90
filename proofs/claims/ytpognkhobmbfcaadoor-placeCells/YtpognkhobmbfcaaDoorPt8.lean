/-
  The contract of layer 5's lives: the document's examples are told.
-/
import Derived.Test.YtpognkhobmbfcaaDoorPt6
import Derived.Test.YtpognkhobmbfcaaDoorPt7
namespace Go.Proofs.YtpognkhobmbfcaaDoor
open Go.RowKit

theorem ex_1 : lettersR 16384 = ([88, 70, 68], 0) := by
  rw [lettersR_yes (by decide), show (16384 : Int).toNat = 16384 from rfl, letters_three (by decide) (by decide)]; decide
theorem ex_2 : columnR [120, 102, 100] = (16384, 0) := by decide
theorem ex_3 : columnR [88, 70, 69] = (0, 11) := by decide
theorem ex_4 : parseR [36, 98, 36, 55] = (7, 2, true, true, 0) := by decide
theorem ex_5 : parseR [66, 48, 55] = (0, 0, false, false, 5) := by decide
theorem ex_6 : ofR 7 2 2 3 = (2, 2, 7, 3, 0) := by decide
theorem ex_7 : printR 7 2 true true = ([36, 66, 36, 55], 0) := by
  rw [printR_yes (by decide), show (7 : Int).toNat = 7 from rfl, show (2 : Int).toNat = 2 from rfl, letters_one (by decide) (by decide), Lib.decDigits_one (by decide)]; decide
theorem l5_1 (w : World) : Calls Tryd.prog 9 #[.int .i64 16384] w fun e w' => e = .returned (.tuple #[.string ⟨#[88, 70, 68]⟩, .int .i64 0]) ∧ w' = w := by
  have := letters_any 16384 w
  rw [ex_1] at this; exact this
theorem l5_2 (w : World) : Calls Tryd.prog 11 #[.string ⟨#[120, 102, 100]⟩] w fun e w' => e = .returned (.tuple #[.int .i64 16384, .int .i64 0]) ∧ Below w.heap.size w w' := by
  have := column_any ⟨#[120, 102, 100]⟩ w (by decide)
  rw [show (⟨#[120, 102, 100]⟩ : ByteArray).data.toList = [120, 102, 100] from rfl, ex_2] at this; exact this
theorem l5_3 (w : World) : Calls Tryd.prog 11 #[.string ⟨#[88, 70, 69]⟩] w fun e w' => e = .returned (.tuple #[.int .i64 0, .int .i64 11]) ∧ Below w.heap.size w w' := by
  have := column_any ⟨#[88, 70, 69]⟩ w (by decide)
  rw [show (⟨#[88, 70, 69]⟩ : ByteArray).data.toList = [88, 70, 69] from rfl, ex_3] at this; exact this
theorem l5_4 (w : World) : Calls Tryd.prog 16 #[.string ⟨#[36, 98, 36, 55]⟩] w fun e w' => e = .returned (.tuple #[.agg #[.int .i64 7, .int .i64 2, .bool true, .bool true], .int .i64 0]) ∧ Below w.heap.size w w' := by
  have := parse_any ⟨#[36, 98, 36, 55]⟩ w (by decide)
  rw [show (⟨#[36, 98, 36, 55]⟩ : ByteArray).data.toList = [36, 98, 36, 55] from rfl, ex_4] at this; exact this
theorem l5_5 (w : World) : Calls Tryd.prog 16 #[.string ⟨#[66, 48, 55]⟩] w fun e w' => e = .returned (.tuple #[.agg #[.int .i64 0, .int .i64 0, .bool false, .bool false], .int .i64 5]) ∧ Below w.heap.size w w' := by
  have := parse_any ⟨#[66, 48, 55]⟩ w (by decide)
  rw [show (⟨#[66, 48, 55]⟩ : ByteArray).data.toList = [66, 48, 55] from rfl, ex_5] at this; exact this
theorem l5_6 (w : World) : Calls Tryd.prog 22 #[.agg #[.int .i64 7, .int .i64 2], .agg #[.int .i64 2, .int .i64 3]] w fun e w' => e = .returned (.tuple #[.agg #[.int .i64 2, .int .i64 2, .int .i64 7, .int .i64 3], .int .i64 0]) ∧ Below w.heap.size w w' := by
  have := of_any 7 2 2 3 w
  rw [ex_6] at this; exact this
theorem l5_7 (w : World) (ht : TabOk w) : Calls Tryd.prog 14 #[.agg #[.int .i64 7, .int .i64 2, .bool true, .bool true]] w fun e w' => e = .returned (.tuple #[.string ⟨#[36, 66, 36, 55]⟩, .int .i64 0]) ∧ Below w.heap.size w w' := by
  have := print_any 7 2 true true w ht
  rw [ex_7] at this; exact this

set_option maxRecDepth 100000 in
set_option maxHeartbeats 4000000 in
theorem lives5_any (w : World) (ht : TabOk w) :
    Calls Tryd.prog 13 #[] w fun e w' => e = .returned (.bool true) ∧ Below w.heap.size w w' := by
  have HT := hide ht
  clear ht
  go_enter Tryd.func13, Tryd.ntmps13
  go_wp2_with fail
  refine (l5_1 _).mono ?_
  rintro e wz ⟨rfl, hz⟩
  subst wz
  go_wp2_with fail
  refine (l5_2 _).mono ?_
  rintro e w1 ⟨rfl, hb1⟩
  go_wp2_with fail
  refine (l5_3 _).mono ?_
  rintro e w2 ⟨rfl, hb2⟩
  have HB := hide (hb1.trans (hb2.mono hb1.size))
  clear hb1 hb2
  go_wp2_with fail
  refine (l5_4 _).mono ?_
  rintro e w3 ⟨rfl, hb3⟩
  have HB := hide (HB.out.trans (hb3.mono HB.out.size))
  clear hb3
  go_wp2_with fail
  refine (l5_5 _).mono ?_
  rintro e w4 ⟨rfl, hb4⟩
  have HC := hide ((Cel.new w3 7 2 true true 36).below hb4)
  have HB := hide ((HB.out.alloc HB.out.size _).trans (hb4.mono (Nat.le_trans HB.out.size (size_alloc _ _))))
  clear hb4
  go_wp2_with fail
  refine (l5_6 _).mono ?_
  rintro e w5 ⟨rfl, hb5⟩
  have HC := hide ((HC.out.alloc (.cells #[.int .i64 0, .int .i64 0, .bool false, .bool false] 36)).below hb5)
  have HB := hide ((HB.out.alloc HB.out.size _).trans (hb5.mono (Nat.le_trans HB.out.size (size_alloc _ _))))
  clear hb5
  obtain ⟨⟨z, k0, k1, k2, k3⟩, _⟩ := HC.out
  go_wp2_with fail
  refine (l5_7 _ (tab_below HT.out (HB.out.alloc HB.out.size _))).mono ?_
  rintro e w6 ⟨rfl, hb6⟩
  clear z k0 k1 k2 k3
  obtain ⟨⟨z, k0, k1, k2, k3⟩, _⟩ := (HC.out.alloc (.cells #[.int .i64 2, .int .i64 2, .int .i64 7, .int .i64 3] 45)).below hb6
  obtain ⟨y, j0, j1, j2, j3⟩ := (At4.new w5 2 2 7 3 45).below hb6
  have HB := hide ((HB.out.alloc HB.out.size _).trans (hb6.mono (Nat.le_trans HB.out.size (size_alloc _ _))))
  clear hb6
  go_wp2
  go_ret
  exact ⟨rfl, HB.out⟩
end Go.Proofs.YtpognkhobmbfcaaDoor
