/-
  The walk of ValueFolds: for every two texts it returns true.
-/
import Derived.Test.YtaokibkeoomfjabDoorLives5
import Derived.Test.YtaokibkeoomfjabDoorComp4
namespace Go.Proofs.YtaokibkeoomfjabDoor
open Go.RowKit

set_option maxRecDepth 100000 in
set_option maxHeartbeats 4000000 in
theorem folds_big (S T F : ByteArray) (w : World) (he : Env w) (h : (255 : Int) < S.size ∨ (¬ (255 : Int) < S.size ∧ (255 : Int) < T.size)) (hl : (F.size : Int) = S.size) (H1 : Hid (∀ W : World, Calls Tryd.prog 5 #[.string S] W fun e w' => e = .returned (.string F) ∧ Below W.heap.size W w')) (H2 : Hid (∀ W : World, Calls Tryd.prog 5 #[.string F] W fun e w' => e = .returned (.string F) ∧ Below W.heap.size W w')) :
    Calls Tryd.prog 3 #[.string S, .string T] w fun e w' => e = .returned (.bool true) ∧ Below w.heap.size w w' := by
  have HE := hide he
  have HB := hide (Below.refl w.heap.size w)
  clear he
  have hl2 : ((F.size : Int) == (S.size : Int)) = true := by rw [hl]; simp
  clear hl
  rcases h with h | ⟨h, h'⟩
  all_goals
    go_enter Tryd.func3, Tryd.ntmps3
    go_wp2_with fail
    refine (H1.out _).mono ?_
    rintro e w1 ⟨rfl, hb⟩
    have HB := hide (HB.out.trans (hb.mono HB.out.size))
    clear hb
    go_wp2_with fail
    refine (H2.out _).mono ?_
    rintro e w2 ⟨rfl, hb⟩
    have HB := hide (HB.out.trans (hb.mono HB.out.size))
    clear hb
    go_wp2_with fail
    refine (H1.out _).mono ?_
    rintro e w3 ⟨rfl, hb⟩
    have HB := hide (HB.out.trans (hb.mono HB.out.size))
    clear hb
    go_wp2_with fail
    refine (H1.out _).mono ?_
    rintro e w4 ⟨rfl, hb⟩
    have HB := hide (HB.out.trans (hb.mono HB.out.size))
    clear hb
    go_wp2_with fail
    refine (lives4_any _ (HE.out.below HB.out)).mono ?_
    rintro e w5 ⟨rfl, hb⟩
    have HB := hide (HB.out.trans (hb.mono HB.out.size))
    clear hb
    go_wp2
    go_ret
    exact ⟨rfl, HB.out⟩
set_option maxRecDepth 100000 in
set_option maxHeartbeats 4000000 in
theorem folds_small (S T F G : ByteArray) (x d : Int) (p same : Bool) (w : World) (he : Env w) (h1 : ¬ (255 : Int) < S.size) (h2 : ¬ (255 : Int) < T.size) (hs : (F.toList == G.toList) = same) (hx : (x == 0) = same) (H1 : Hid (∀ W : World, Calls Tryd.prog 5 #[.string S] W fun e w' => e = .returned (.string F) ∧ Below W.heap.size W w')) (H2 : Hid (∀ W : World, Calls Tryd.prog 5 #[.string F] W fun e w' => e = .returned (.string F) ∧ Below W.heap.size W w')) (H3 : Hid (∀ W : World, Calls Tryd.prog 5 #[.string T] W fun e w' => e = .returned (.string G) ∧ Below W.heap.size W w')) (H4 : Hid (∀ W : World, Calls Tryd.prog 7 #[.agg #[.int .i64 2, .int .i64 0, .string S, .bool false, .int .i64 0], .agg #[.int .i64 2, .int .i64 0, .string T, .bool false, .int .i64 0]] W fun e w' => e = .returned (.tuple #[.int .i64 x, .int .i64 0]) ∧ Below W.heap.size W w')) (H5 : Hid (∀ W : World, Calls Tryd.prog 9 #[.agg #[.int .i64 2, .int .i64 0, .string S, .bool false, .int .i64 0]] W fun e w' => e = .returned (.tuple #[.bool p, .int .i64 d]) ∧ Below W.heap.size W w')) (H6 : Hid (∀ W : World, Calls Tryd.prog 9 #[.agg #[.int .i64 2, .int .i64 0, .string F, .bool false, .int .i64 0]] W fun e w' => e = .returned (.tuple #[.bool p, .int .i64 d]) ∧ Below W.heap.size W w')) (H7 : Hid (∀ W : World, Calls Tryd.prog 10 #[.agg #[.int .i64 2, .int .i64 0, .string S, .bool false, .int .i64 0], .agg #[.int .i64 2, .int .i64 0, .string T, .bool false, .int .i64 0]] W fun e w' => e = .returned (.bool same) ∧ Below W.heap.size W w')) :
    Calls Tryd.prog 3 #[.string S, .string T] w fun e w' => e = .returned (.bool true) ∧ Below w.heap.size w w' := by
  have HE := hide he
  have HB := hide (Below.refl w.heap.size w)
  clear he
  cases same
  all_goals
    go_enter Tryd.func3, Tryd.ntmps3
    go_wp2_with fail
    refine (H1.out _).mono ?_
    rintro e w1 ⟨rfl, hb⟩
    have HB := hide (HB.out.trans (hb.mono HB.out.size))
    clear hb
    go_wp2_with fail
    refine (H3.out _).mono ?_
    rintro e w2 ⟨rfl, hb⟩
    have HB := hide (HB.out.trans (hb.mono HB.out.size))
    clear hb
    go_wp2_with fail
    refine (ltext_any _ _).mono ?_
    rintro e w3 ⟨rfl, hb⟩
    have HB := hide (HB.out.trans (hb.mono HB.out.size))
    clear hb
    go_wp2_with fail
    refine (ltext_any _ _).mono ?_
    rintro e w4 ⟨rfl, hb⟩
    have HB := hide (HB.out.trans (hb.mono HB.out.size))
    clear hb
    go_wp2_with fail
    refine (H4.out _).mono ?_
    rintro e w5 ⟨rfl, hb⟩
    have HB := hide (HB.out.trans (hb.mono HB.out.size))
    clear hb
    go_wp2_with fail
    refine (ltext_any _ _).mono ?_
    rintro e w6 ⟨rfl, hb⟩
    have HB := hide (HB.out.trans (hb.mono HB.out.size))
    clear hb
    go_wp2_with fail
    refine (H5.out _).mono ?_
    rintro e w7 ⟨rfl, hb⟩
    have HB := hide (HB.out.trans (hb.mono HB.out.size))
    clear hb
    go_wp2_with fail
    refine (H1.out _).mono ?_
    rintro e w8 ⟨rfl, hb⟩
    have HB := hide (HB.out.trans (hb.mono HB.out.size))
    clear hb
    go_wp2_with fail
    refine (ltext_any _ _).mono ?_
    rintro e w9 ⟨rfl, hb⟩
    have HB := hide (HB.out.trans (hb.mono HB.out.size))
    clear hb
    go_wp2_with fail
    refine (H6.out _).mono ?_
    rintro e w10 ⟨rfl, hb⟩
    have HB := hide (HB.out.trans (hb.mono HB.out.size))
    clear hb
    go_wp2_with fail
    refine (H1.out _).mono ?_
    rintro e w11 ⟨rfl, hb⟩
    have HB := hide (HB.out.trans (hb.mono HB.out.size))
    clear hb
    go_wp2_with fail
    refine (H2.out _).mono ?_
    rintro e w12 ⟨rfl, hb⟩
    have HB := hide (HB.out.trans (hb.mono HB.out.size))
    clear hb
    go_wp2_with fail
    refine (H1.out _).mono ?_
    rintro e w13 ⟨rfl, hb⟩
    have HB := hide (HB.out.trans (hb.mono HB.out.size))
    clear hb
    go_wp2_with fail
    refine (ltext_any _ _).mono ?_
    rintro e w14 ⟨rfl, hb⟩
    have HB := hide (HB.out.trans (hb.mono HB.out.size))
    clear hb
    go_wp2_with fail
    refine (ltext_any _ _).mono ?_
    rintro e w15 ⟨rfl, hb⟩
    have HB := hide (HB.out.trans (hb.mono HB.out.size))
    clear hb
    go_wp2_with fail
    refine (H7.out _).mono ?_
    rintro e w16 ⟨rfl, hb⟩
    have HB := hide (HB.out.trans (hb.mono HB.out.size))
    clear hb
    go_wp2_with fail
    refine (lives4_any _ (HE.out.below HB.out)).mono ?_
    rintro e w17 ⟨rfl, hb⟩
    have HB := hide (HB.out.trans (hb.mono HB.out.size))
    clear hb
    go_wp2
    go_ret
    exact ⟨rfl, HB.out⟩
theorem named_fold (l : List UInt8) : namedR (foldL l) = namedR l := by simp [namedR, foldL_twice]
theorem fold_size (s : ByteArray) : (⟨(foldL s.data.toList).toArray⟩ : ByteArray).size = s.size := by
  show (foldL s.data.toList).toArray.size = s.size
  rw [List.size_toArray, foldL_len]
  simp
theorem compare_texts {s t : ByteArray} (h : s.size ≤ 255) (h' : t.size ≤ 255) : compareV 2 0 s false 0 2 0 t false 0 = (cmpL (foldL s.data.toList) (foldL t.data.toList), 0) := by
  have e : troubleV2 2 0 s false 0 2 0 t false 0 = 0 := by rw [trouble2_yes (right_text h) (right_text h')]; rfl
  simp [compareV, e, besK, ordV]
theorem truth_text {s : ByteArray} (h : s.size ≤ 255) : truthV 2 0 s false 0 = ((namedR s.data.toList).1, if (namedR s.data.toList).2 then 0 else 2) := by simp [truthV, right_text h]
theorem alike_texts {s t : ByteArray} (h : s.size ≤ 255) (h' : t.size ≤ 255) : alikeV 2 0 s false 0 2 0 t false 0 = decide (foldL s.data.toList = foldL t.data.toList) := by simp [alikeV, right_text h, right_text h']
theorem valueFolds_walk (S T : ByteArray) (w : World) (he : Env w) (hS : S.size ≤ maxLen) (hT : T.size ≤ maxLen) :
    Calls Tryd.prog 3 #[.string S, .string T] w fun e w' => e = .returned (.bool true) ∧ Below w.heap.size w w' := by
  have H2 : Hid (∀ W : World, Calls Tryd.prog 5 #[.string ⟨(foldL S.data.toList).toArray⟩] W fun e w' => e = .returned (.string ⟨(foldL S.data.toList).toArray⟩) ∧ Below W.heap.size W w') := fun W => by
    have := fold_any ⟨(foldL S.data.toList).toArray⟩ W
    rw [show (⟨(foldL S.data.toList).toArray⟩ : ByteArray).data.toList = foldL S.data.toList from rfl, foldL_twice] at this
    exact this
  by_cases h1 : 255 < S.size
  · exact folds_big S T _ w he (.inl (by omega)) (by rw [fold_size]) (fun W => fold_any S W) H2
  · by_cases h2 : 255 < T.size
    · exact folds_big S T _ w he (.inr ⟨by omega, by omega⟩) (by rw [fold_size]) (fun W => fold_any S W) H2
    · have s1 : S.size ≤ 255 := by omega
      have s2 : T.size ≤ 255 := by omega
      have s3 : (⟨(foldL S.data.toList).toArray⟩ : ByteArray).size ≤ 255 := by rw [fold_size]; exact s1
      refine folds_small S T _ _ (cmpL (foldL S.data.toList) (foldL T.data.toList)) _ _ (decide (foldL S.data.toList = foldL T.data.toList)) w he (by omega) (by omega) ?_ ?_ (fun W => fold_any S W) H2 (fun W => fold_any T W) ?_ (fun W => truthV_any 2 0 S false 0 W hS) ?_ ?_
      · rw [list_ba, list_ba, Bool.eq_iff_iff]; simp
      · rw [Bool.eq_iff_iff]; simp [cmpL_zero]
      · exact fun W => by
          have := compareV_any 2 0 S false 0 2 0 T false 0 W hS hT
          rw [compare_texts s1 s2] at this; exact this
      · exact fun W => by
          have := truthV_any 2 0 ⟨(foldL S.data.toList).toArray⟩ false 0 W (by rw [fold_size]; exact hS)
          rw [truth_text s3, show (⟨(foldL S.data.toList).toArray⟩ : ByteArray).data.toList = foldL S.data.toList from rfl, named_fold, ← truth_text s1] at this
          exact this
      · exact fun W => by
          have := alikeV_any 2 0 S false 0 2 0 T false 0 W hS hT
          rw [alike_texts s1 s2] at this; exact this
end Go.Proofs.YtaokibkeoomfjabDoor
