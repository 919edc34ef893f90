/-
  The contracts of value's Show and Read.
-/
import Derived.Test.YtaokibkeoomfjaaDoorVal5
import Derived.Test.YtaokibkeoomfjaaDoorShowMath
import Derived.Test.YtaokibkeoomfjaaDoorValMem
import Derived.Test.YtaokibkeoomfjaaDoorCompMath
namespace Go.Proofs.YtaokibkeoomfjaaDoor
open Go.RowKit

set_option maxHeartbeats 1000000 in
theorem showV_any (k n : Int) (s : ByteArray) (b : Bool) (c : Int) (w : World) (ht : TabOk w) (hn : NamesOk w) (hz : s.size ≤ maxLen) :
    Calls Tryd.prog 22 #[.agg #[.int .i64 k, .int .i64 n, .string s, .bool b, .int .i64 c]] w fun e w' => e = .returned (.tuple #[.string ⟨(showV k n s b c).1.toArray⟩, .int .i64 (showV k n s b c).2]) ∧ Below w.heap.size w w' := by
  have HR : Hid (∀ W : World, Calls Tryd.prog 38 #[.agg #[.int .i64 k, .int .i64 n, .string s, .bool b, .int .i64 c]] W fun e w' => e = .returned (.bool (rightB k n s b c)) ∧ Below W.heap.size W w') := fun W => right_any k n s b c W hz
  have HW : Hid (∀ W : World, TabOk W → Calls Tryd.prog 11 #[.agg #[.int .i64 k, .int .i64 n, .string s, .bool b, .int .i64 c]] W fun e w' => e = .returned (.tuple #[.string ⟨(wordsV k n s b c).1.toArray⟩, .int .i64 (wordsV k n s b c).2]) ∧ Below W.heap.size W w') := fun W hW => wordsV_any k n s b c W hW hz
  have HT := hide ht
  have HN := hide hn
  clear ht hn hz
  cases hr : rightB k n s b c
  · rw [show showV k n s b c = ([], 2) by simp [showV, hr]]
    rw [hr] at HR
    clear hr HW
    go_enter Tryd.func22, Tryd.ntmps22
    go_wp2_with (go_at_call 38; refine (HR.out _).mono ?_; rintro e w1 ⟨rfl, hb1⟩; obtain ⟨q0, q1, q2, q3, q4, q5, q6⟩ := box_cells hb1)
    go_ret2
    exact ⟨rfl, q6⟩
  · rw [hr] at HR
    rcases right_code hr with ⟨rfl, h1, h7⟩ | ⟨h4, hc0⟩
    · rw [show showV 4 n s b c = (nameL c.toNat, 0) by simp [showV, hr]]
      obtain ⟨j, rfl⟩ : ∃ j : Nat, c = (j : Int) := ⟨c.toNat, by omega⟩
      have hj : j < 8 := by omega
      rw [Int.toNat_natCast]
      have HC : Hid (∀ W : World, NamesOk W → W.cell? ⟨0, j, none⟩ = some (.string ⟨(nameL j).toArray⟩)) := fun W hW => names_cell hW j hj
      generalize (⟨(nameL j).toArray⟩ : ByteArray) = T at *
      have i1 : (0 : Int) ≤ (j : Int) := by omega
      have i2 : (j : Int) < 8 := by omega
      clear hr HW h1 h7 hj
      go_enter Tryd.func22, Tryd.ntmps22
      go_wp2_with (go_at_call 38; refine (HR.out _).mono ?_; rintro e w1 ⟨rfl, hb1⟩; obtain ⟨q0, q1, q2, q3, q4, q5, q6⟩ := box_cells hb1; have q7 := HC.out _ (names_below HN.out q6))
      go_ret2
      exact ⟨rfl, q6⟩
    · rw [show showV k n s b c = ((wordsV k n s b c).1, 0) by simp [showV, hr, h4]]
      have t4 : (k == 4) = false := by simpa using h4
      clear hr h4 hc0
      generalize (⟨(wordsV k n s b c).1.toArray⟩ : ByteArray) = T at *
      generalize (wordsV k n s b c).2 = z at *
      go_enter Tryd.func22, Tryd.ntmps22
      go_wp2_with (first | (go_at_call 38; refine (HR.out _).mono ?_; rintro e w1 ⟨rfl, hb1⟩; obtain ⟨q0, q1, q2, q3, q4, q5, q6⟩ := box_cells hb1) | (go_at_call 11; refine (HW.out _ (tab_below HT.out q6)).mono ?_; rintro e w2 ⟨rfl, hb2⟩))
      go_ret2
      exact ⟨rfl, q6.trans (hb2.mono q6.size)⟩
set_option maxHeartbeats 2000000 in
theorem readV_any (s : ByteArray) (w : World) (hc : CellOk w) (hn : NamesOk w) (hz : s.size ≤ maxLen) :
    Calls Tryd.prog 24 #[.string s] w fun e w' => e = .returned (.tuple #[.agg #[.int .i64 (readR s.data.toList).1.k, .int .i64 (readR s.data.toList).1.n, .string ⟨(readR s.data.toList).1.s.toArray⟩, .bool (readR s.data.toList).1.b, .int .i64 (readR s.data.toList).1.c], .int .i64 (readR s.data.toList).2]) ∧ Below w.heap.size w w' := by
  have HP := hide (fun (W : World) hW => parse_at s W hW hz)
  have HT : Hid (∀ W : World, Calls Tryd.prog 37 #[.string s] W fun e w' => e = .returned (.tuple #[.bool (namedR s.data.toList).1, .bool (namedR s.data.toList).2]) ∧ Below W.heap.size W w') := fun W => truthNamed_any s W
  have HF : Hid (∀ W : World, NamesOk W → Calls Tryd.prog 51 #[.string s] W fun e w' => e = .returned (.int .i64 (faultR s.data.toList)) ∧ Below W.heap.size W w') := fun W hW => (faultNamed_any s W hW).mono fun e w' h => ⟨h.1, by rw [h.2]; exact Below.refl _ _⟩
  have HL : Hid (s.data.toList.length = s.size) := by show _ = _; simp
  have HC := hide hc
  have HN := hide hn
  unfold maxLen at hz
  clear hc hn
  rcases empty_or s with rfl | ⟨hs, hs2⟩
  · rw [show readR (⟨#[]⟩ : ByteArray).data.toList = (⟨0, 0, [], false, 0⟩, 0) from read_nil]
    go_enter Tryd.func24, Tryd.ntmps24
    go_wp2
    refine bodyPost_ret (v := .tuple #[.agg #[.int .i64 0, .int .i64 0, .string ⟨#[]⟩, .bool false, .int .i64 0], .int .i64 0]) (by simp [results, Tryd.results24, go_sem, *]) rfl ⟨rfl, ?_⟩
    repeat' (first | with_reducible exact Below.refl _ _ | with_reducible refine Below.setCell ?_ ?_ _ | with_reducible refine Below.alloc ?_ ?_ _ | with_reducible refine below_drewN ?_ _ | with_reducible refine Below.drew ?_ | with_reducible refine Below.trans ?_ (Below.mono (by assumption) ?_) | with_reducible exact Nat.le_refl _ | with_reducible refine Nat.le_trans ?_ (Below.size (by assumption)) | with_reducible refine Nat.le_trans ?_ (size_alloc _ _) | with_reducible refine Nat.le_trans ?_ (size_set _ _ _) | with_reducible refine Nat.le_trans ?_ (size_drewN _ _) | with_reducible refine Nat.le_trans ?_ (size_drew _) | (simp; done) | (simp; omega) | omega)
  · have h0 : s.data.toList ≠ [] := fun e => hs (by rw [← ba_eta s, e])
    clear hs
    by_cases h1 : (parseR s.data.toList).2 = 0
    · rw [read_num h0 h1]
      rw [h1] at HP
      clear h0 h1
      generalize (parseR s.data.toList).1 = x at *
      go_enter Tryd.func24, Tryd.ntmps24
      go_wp2_with fail
      refine (HP.out _ (cellOk_below HC.out ((Below.refl _ _).alloc (Nat.le_refl _) _))).mono ?_
      rintro e w1 ⟨rfl, hb⟩
      have HH := hide ((HasV.at w w.heap.size 0 0 ⟨#[]⟩ false 0 25 rfl).below hb)
      have HB := hide (show Below w.heap.size w w1 from ((Below.refl _ _).alloc (Nat.le_refl _) _).trans (hb.mono (by simp)))
      clear hb
      go_wp2_with fail
      refine (number_any _ _).mono ?_
      rintro e w2 ⟨rfl, hb⟩
      have HH := hide (HH.out.below hb)
      have HB := hide (HB.out.trans (hb.mono HB.out.size))
      clear hb
      obtain ⟨⟨lp, p0, p1, p2, p3, p4⟩, f0, f1, f2, f3, f4⟩ := HH.out
      have hB := HB.out
      go_wp2
      refine bodyPost_ret (v := .tuple #[.agg #[.int .i64 1, .int .i64 x, .string ⟨#[]⟩, .bool false, .int .i64 0], .int .i64 0]) (by simp [results, Tryd.results24, go_sem, *]) rfl ⟨rfl, ?_⟩
      repeat' (first | with_reducible exact Below.refl _ _ | with_reducible refine Below.setCell ?_ ?_ _ | with_reducible refine Below.alloc ?_ ?_ _ | with_reducible refine below_drewN ?_ _ | with_reducible refine Below.drew ?_ | with_reducible refine Below.trans ?_ (Below.mono (by assumption) ?_) | with_reducible exact Nat.le_refl _ | with_reducible refine Nat.le_trans ?_ (Below.size (by assumption)) | with_reducible refine Nat.le_trans ?_ (size_alloc _ _) | with_reducible refine Nat.le_trans ?_ (size_set _ _ _) | with_reducible refine Nat.le_trans ?_ (size_drewN _ _) | with_reducible refine Nat.le_trans ?_ (size_drew _) | (simp; done) | (simp; omega) | omega)
    · have t1 : ((parseR s.data.toList).2 == 0) = false := by simpa using h1
      cases h2 : (namedR s.data.toList).2
      · rw [h2] at HT
        by_cases h3 : faultR s.data.toList = 0
        · by_cases h4 : 255 < s.data.toList.length
          · rw [read_big h0 h1 h2 h3 h4]
            rw [h3] at HF
            have t4 : (255 : Int) < (s.size : Int) := by have := HL.out; omega
            clear h0 h1 h2 h3 h4
            generalize (parseR s.data.toList).1 = x at *
            generalize (parseR s.data.toList).2 = y at *
            generalize (namedR s.data.toList).1 = z at *
            go_enter Tryd.func24, Tryd.ntmps24
            go_wp2_with fail
            refine (HP.out _ (cellOk_below HC.out ((Below.refl _ _).alloc (Nat.le_refl _) _))).mono ?_
            rintro e w1 ⟨rfl, hb⟩
            have HH := hide ((HasV.at w w.heap.size 0 0 ⟨#[]⟩ false 0 25 rfl).below hb)
            have HB := hide (show Below w.heap.size w w1 from ((Below.refl _ _).alloc (Nat.le_refl _) _).trans (hb.mono (by simp)))
            clear hb
            go_wp2_with fail
            refine (HT.out _).mono ?_
            rintro e w2 ⟨rfl, hb⟩
            have HH := hide (HH.out.below hb)
            have HB := hide (HB.out.trans (hb.mono HB.out.size))
            clear hb
            go_wp2_with fail
            refine (HF.out _ (names_below HN.out HB.out)).mono ?_
            rintro e w3 ⟨rfl, hb⟩
            have HH := hide (HH.out.below hb)
            have HB := hide (HB.out.trans (hb.mono HB.out.size))
            clear hb
            obtain ⟨⟨lp, p0, p1, p2, p3, p4⟩, f0, f1, f2, f3, f4⟩ := HH.out
            have hB := HB.out
            go_wp2
            refine bodyPost_ret (v := .tuple #[.agg #[.int .i64 0, .int .i64 0, .string ⟨#[]⟩, .bool false, .int .i64 0], .int .i64 7]) (by simp [results, Tryd.results24, go_sem, *]) rfl ⟨rfl, ?_⟩
            repeat' (first | with_reducible exact Below.refl _ _ | with_reducible refine Below.setCell ?_ ?_ _ | with_reducible refine Below.alloc ?_ ?_ _ | with_reducible refine below_drewN ?_ _ | with_reducible refine Below.drew ?_ | with_reducible refine Below.trans ?_ (Below.mono (by assumption) ?_) | with_reducible exact Nat.le_refl _ | with_reducible refine Nat.le_trans ?_ (Below.size (by assumption)) | with_reducible refine Nat.le_trans ?_ (size_alloc _ _) | with_reducible refine Nat.le_trans ?_ (size_set _ _ _) | with_reducible refine Nat.le_trans ?_ (size_drewN _ _) | with_reducible refine Nat.le_trans ?_ (size_drew _) | (simp; done) | (simp; omega) | omega)
          · rw [read_text h0 h1 h2 h3 h4, ba_eta]
            rw [h3] at HF
            have t4 : ¬ (255 : Int) < (s.size : Int) := by have := HL.out; omega
            clear h0 h1 h2 h3 h4
            generalize (parseR s.data.toList).1 = x at *
            generalize (parseR s.data.toList).2 = y at *
            generalize (namedR s.data.toList).1 = z at *
            go_enter Tryd.func24, Tryd.ntmps24
            go_wp2_with fail
            refine (HP.out _ (cellOk_below HC.out ((Below.refl _ _).alloc (Nat.le_refl _) _))).mono ?_
            rintro e w1 ⟨rfl, hb⟩
            have HH := hide ((HasV.at w w.heap.size 0 0 ⟨#[]⟩ false 0 25 rfl).below hb)
            have HB := hide (show Below w.heap.size w w1 from ((Below.refl _ _).alloc (Nat.le_refl _) _).trans (hb.mono (by simp)))
            clear hb
            go_wp2_with fail
            refine (HT.out _).mono ?_
            rintro e w2 ⟨rfl, hb⟩
            have HH := hide (HH.out.below hb)
            have HB := hide (HB.out.trans (hb.mono HB.out.size))
            clear hb
            go_wp2_with fail
            refine (HF.out _ (names_below HN.out HB.out)).mono ?_
            rintro e w3 ⟨rfl, hb⟩
            have HH := hide (HH.out.below hb)
            have HB := hide (HB.out.trans (hb.mono HB.out.size))
            clear hb
            go_wp2_with fail
            refine (text_any _ _).mono ?_
            rintro e w4 ⟨rfl, hb⟩
            have HH := hide (HH.out.below hb)
            have HB := hide (HB.out.trans (hb.mono HB.out.size))
            clear hb
            obtain ⟨⟨lp, p0, p1, p2, p3, p4⟩, f0, f1, f2, f3, f4⟩ := HH.out
            have hB := HB.out
            go_wp2
            refine bodyPost_ret (v := .tuple #[.agg #[.int .i64 2, .int .i64 0, .string s, .bool false, .int .i64 0], .int .i64 0]) (by simp [results, Tryd.results24, go_sem, *]) rfl ⟨rfl, ?_⟩
            repeat' (first | with_reducible exact Below.refl _ _ | with_reducible refine Below.setCell ?_ ?_ _ | with_reducible refine Below.alloc ?_ ?_ _ | with_reducible refine below_drewN ?_ _ | with_reducible refine Below.drew ?_ | with_reducible refine Below.trans ?_ (Below.mono (by assumption) ?_) | with_reducible exact Nat.le_refl _ | with_reducible refine Nat.le_trans ?_ (Below.size (by assumption)) | with_reducible refine Nat.le_trans ?_ (size_alloc _ _) | with_reducible refine Nat.le_trans ?_ (size_set _ _ _) | with_reducible refine Nat.le_trans ?_ (size_drewN _ _) | with_reducible refine Nat.le_trans ?_ (size_drew _) | (simp; done) | (simp; omega) | omega)
        · rw [read_fault h0 h1 h2 h3]
          have t3 : (faultR s.data.toList != 0) = true := by simpa using h3
          clear h0 h1 h2 h3
          generalize (parseR s.data.toList).1 = x at *
          generalize (parseR s.data.toList).2 = y at *
          generalize (namedR s.data.toList).1 = z at *
          generalize faultR s.data.toList = c at *
          go_enter Tryd.func24, Tryd.ntmps24
          go_wp2_with fail
          refine (HP.out _ (cellOk_below HC.out ((Below.refl _ _).alloc (Nat.le_refl _) _))).mono ?_
          rintro e w1 ⟨rfl, hb⟩
          have HH := hide ((HasV.at w w.heap.size 0 0 ⟨#[]⟩ false 0 25 rfl).below hb)
          have HB := hide (show Below w.heap.size w w1 from ((Below.refl _ _).alloc (Nat.le_refl _) _).trans (hb.mono (by simp)))
          clear hb
          go_wp2_with fail
          refine (HT.out _).mono ?_
          rintro e w2 ⟨rfl, hb⟩
          have HH := hide (HH.out.below hb)
          have HB := hide (HB.out.trans (hb.mono HB.out.size))
          clear hb
          go_wp2_with fail
          refine (HF.out _ (names_below HN.out HB.out)).mono ?_
          rintro e w3 ⟨rfl, hb⟩
          have HH := hide (HH.out.below hb)
          have HB := hide (HB.out.trans (hb.mono HB.out.size))
          clear hb
          go_wp2_with fail
          refine (fault_any _ _).mono ?_
          rintro e w4 ⟨rfl, hb⟩
          have HH := hide (HH.out.below hb)
          have HB := hide (HB.out.trans (hb.mono HB.out.size))
          clear hb
          obtain ⟨⟨lp, p0, p1, p2, p3, p4⟩, f0, f1, f2, f3, f4⟩ := HH.out
          have hB := HB.out
          go_wp2
          refine bodyPost_ret (v := .tuple #[.agg #[.int .i64 4, .int .i64 0, .string ⟨#[]⟩, .bool false, .int .i64 c], .int .i64 0]) (by simp [results, Tryd.results24, go_sem, *]) rfl ⟨rfl, ?_⟩
          repeat' (first | with_reducible exact Below.refl _ _ | with_reducible refine Below.setCell ?_ ?_ _ | with_reducible refine Below.alloc ?_ ?_ _ | with_reducible refine below_drewN ?_ _ | with_reducible refine Below.drew ?_ | with_reducible refine Below.trans ?_ (Below.mono (by assumption) ?_) | with_reducible exact Nat.le_refl _ | with_reducible refine Nat.le_trans ?_ (Below.size (by assumption)) | with_reducible refine Nat.le_trans ?_ (size_alloc _ _) | with_reducible refine Nat.le_trans ?_ (size_set _ _ _) | with_reducible refine Nat.le_trans ?_ (size_drewN _ _) | with_reducible refine Nat.le_trans ?_ (size_drew _) | (simp; done) | (simp; omega) | omega)
      · rw [read_truth h0 h1 h2]
        rw [h2] at HT
        clear h0 h1 h2
        generalize (parseR s.data.toList).1 = x at *
        generalize (parseR s.data.toList).2 = y at *
        generalize (namedR s.data.toList).1 = z at *
        go_enter Tryd.func24, Tryd.ntmps24
        go_wp2_with fail
        refine (HP.out _ (cellOk_below HC.out ((Below.refl _ _).alloc (Nat.le_refl _) _))).mono ?_
        rintro e w1 ⟨rfl, hb⟩
        have HH := hide ((HasV.at w w.heap.size 0 0 ⟨#[]⟩ false 0 25 rfl).below hb)
        have HB := hide (show Below w.heap.size w w1 from ((Below.refl _ _).alloc (Nat.le_refl _) _).trans (hb.mono (by simp)))
        clear hb
        go_wp2_with fail
        refine (HT.out _).mono ?_
        rintro e w2 ⟨rfl, hb⟩
        have HH := hide (HH.out.below hb)
        have HB := hide (HB.out.trans (hb.mono HB.out.size))
        clear hb
        go_wp2_with fail
        refine (truth_any _ _).mono ?_
        rintro e w3 ⟨rfl, hb⟩
        have HH := hide (HH.out.below hb)
        have HB := hide (HB.out.trans (hb.mono HB.out.size))
        clear hb
        obtain ⟨⟨lp, p0, p1, p2, p3, p4⟩, f0, f1, f2, f3, f4⟩ := HH.out
        have hB := HB.out
        go_wp2
        refine bodyPost_ret (v := .tuple #[.agg #[.int .i64 3, .int .i64 0, .string ⟨#[]⟩, .bool z, .int .i64 0], .int .i64 0]) (by simp [results, Tryd.results24, go_sem, *]) rfl ⟨rfl, ?_⟩
        repeat' (first | with_reducible exact Below.refl _ _ | with_reducible refine Below.setCell ?_ ?_ _ | with_reducible refine Below.alloc ?_ ?_ _ | with_reducible refine below_drewN ?_ _ | with_reducible refine Below.drew ?_ | with_reducible refine Below.trans ?_ (Below.mono (by assumption) ?_) | with_reducible exact Nat.le_refl _ | with_reducible refine Nat.le_trans ?_ (Below.size (by assumption)) | with_reducible refine Nat.le_trans ?_ (size_alloc _ _) | with_reducible refine Nat.le_trans ?_ (size_set _ _ _) | with_reducible refine Nat.le_trans ?_ (size_drewN _ _) | with_reducible refine Nat.le_trans ?_ (size_drew _) | (simp; done) | (simp; omega) | omega)
end Go.Proofs.YtaokibkeoomfjaaDoor
