/-
  The contract of the answer's Read.
-/
import Derived.Test.YtaokibkeoomfjaaDoorRefShow
import Derived.LoopTactic
namespace Go.Proofs.YtaokibkeoomfjaaDoor
open Go.RowKit

set_option maxHeartbeats 2000000 in
theorem rread_early (s : ByteArray) (w : World) (hz : s.size ≤ maxLen) (h : s.data.toList = [] ∨ (parseR s.data.toList).2 = 0) :
    Calls Tryd.prog 25 #[.string s] w fun e w' => e = .returned (.tuple #[.agg #[.int .i64 (readR s.data.toList).1.k, .int .i64 (readR s.data.toList).1.n, .string ⟨(readR s.data.toList).1.s.toArray⟩, .bool (readR s.data.toList).1.b, .int .i64 (readR s.data.toList).1.c], .int .i64 (readR s.data.toList).2]) ∧ Below w.heap.size w w' := by
  have HP : Hid (∀ W : World, Calls Tryd.prog 34 #[.string s] W fun e w' => e = .returned (.tuple #[.int .i64 (parseR s.data.toList).1, .int .i64 (parseR s.data.toList).2]) ∧ w' = W) := fun W => rparse_any s W hz
  clear hz
  rcases empty_or s with rfl | ⟨hs, hs2⟩
  · rw [show readR (⟨#[]⟩ : ByteArray).data.toList = (⟨0, 0, [], false, 0⟩, 0) from read_nil]
    clear h
    go_enter Tryd.func25, Tryd.ntmps25
    go_wp2
    refine bodyPost_ret (v := .tuple #[.agg #[.int .i64 0, .int .i64 0, .string ⟨#[]⟩, .bool false, .int .i64 0], .int .i64 0]) (by simp [results, Tryd.results25, go_sem]) rfl ⟨rfl, ?_⟩
    repeat' (first | with_reducible exact Below.refl _ _ | with_reducible refine Below.setCell ?_ ?_ _ | with_reducible refine Below.alloc ?_ ?_ _ | with_reducible refine below_drewN ?_ _ | with_reducible refine Below.drew ?_ | with_reducible refine Below.trans ?_ (Below.mono (by assumption) ?_) | with_reducible exact Nat.le_refl _ | with_reducible refine Nat.le_trans ?_ (Below.size (by assumption)) | with_reducible refine Nat.le_trans ?_ (size_alloc _ _) | with_reducible refine Nat.le_trans ?_ (size_set _ _ _) | with_reducible refine Nat.le_trans ?_ (size_drewN _ _) | with_reducible refine Nat.le_trans ?_ (size_drew _) | (simp; done) | (simp; omega) | omega)
  · have h0 : s.data.toList ≠ [] := fun e => hs (by rw [← ba_eta s, e])
    have h1 : (parseR s.data.toList).2 = 0 := h.resolve_left h0
    rw [read_num h0 h1]
    rw [h1] at HP
    clear h0 h1 h hs
    generalize (parseR s.data.toList).1 = x at *
    go_enter Tryd.func25, Tryd.ntmps25
    go_wp2_with (go_at_call 34; refine (HP.out _).mono ?_; rintro e w1 ⟨rfl, rfl⟩)
    refine bodyPost_ret (v := .tuple #[.agg #[.int .i64 1, .int .i64 x, .string ⟨#[]⟩, .bool false, .int .i64 0], .int .i64 0]) (by simp [results, Tryd.results25, go_sem]) rfl ⟨rfl, ?_⟩
    repeat' (first | with_reducible exact Below.refl _ _ | with_reducible refine Below.setCell ?_ ?_ _ | with_reducible refine Below.alloc ?_ ?_ _ | with_reducible refine below_drewN ?_ _ | with_reducible refine Below.drew ?_ | with_reducible refine Below.trans ?_ (Below.mono (by assumption) ?_) | with_reducible exact Nat.le_refl _ | with_reducible refine Nat.le_trans ?_ (Below.size (by assumption)) | with_reducible refine Nat.le_trans ?_ (size_alloc _ _) | with_reducible refine Nat.le_trans ?_ (size_set _ _ _) | with_reducible refine Nat.le_trans ?_ (size_drewN _ _) | with_reducible refine Nat.le_trans ?_ (size_drew _) | (simp; done) | (simp; omega) | omega)
set_option maxHeartbeats 2000000 in
theorem rread_truth (s T : ByteArray) (x y : Int) (z : Bool) (w : World) (hs : (s.toList == []) = false) (hy : (y == 0) = false)
    (HP : Hid (∀ W : World, Calls Tryd.prog 34 #[.string s] W fun e w' => e = .returned (.tuple #[.int .i64 x, .int .i64 y]) ∧ w' = W))
    (HF : Hid (∀ W : World, Calls Tryd.prog 27 #[.string s] W fun e w' => e = .returned (.string T) ∧ Below W.heap.size W w'))
    (h : (z = true ∧ (T.toList == [84, 82, 85, 69]) = true) ∨ (z = false ∧ (T.toList == [84, 82, 85, 69]) = false ∧ (T.toList == [70, 65, 76, 83, 69]) = true)) :
    Calls Tryd.prog 25 #[.string s] w fun e w' => e = .returned (.tuple #[.agg #[.int .i64 3, .int .i64 0, .string ⟨#[]⟩, .bool z, .int .i64 0], .int .i64 0]) ∧ Below w.heap.size w w' := by
  rcases h with ⟨rfl, t1⟩ | ⟨rfl, t1, t2⟩
  all_goals
    go_enter Tryd.func25, Tryd.ntmps25
    go_wp2_with (first | (go_at_call 34; refine (HP.out _).mono ?_; rintro e w1 ⟨rfl, rfl⟩) | (go_at_call 27; refine (HF.out _).mono ?_; rintro e w1 ⟨rfl, hb1⟩; obtain ⟨⟨lp, p0, p1, p2, p3, p4⟩, f0, f1, f2, f3, f4⟩ := (HasV.at w w.heap.size 0 0 ⟨#[]⟩ false 0 25 rfl).below hb1))
    first
      | refine bodyPost_ret (v := .tuple #[.agg #[.int .i64 3, .int .i64 0, .string ⟨#[]⟩, .bool true, .int .i64 0], .int .i64 0]) (by simp [results, Tryd.results25, go_sem, *]) rfl ⟨rfl, ?_⟩
      | refine bodyPost_ret (v := .tuple #[.agg #[.int .i64 3, .int .i64 0, .string ⟨#[]⟩, .bool false, .int .i64 0], .int .i64 0]) (by simp [results, Tryd.results25, go_sem, *]) rfl ⟨rfl, ?_⟩
    have hB : Below w.heap.size w w1 := ((Below.refl _ _).alloc (Nat.le_refl _) _).trans (hb1.mono (by simp))
    repeat' (first | with_reducible exact Below.refl _ _ | with_reducible refine Below.setCell ?_ ?_ _ | with_reducible refine Below.alloc ?_ ?_ _ | with_reducible refine below_drewN ?_ _ | with_reducible refine Below.drew ?_ | with_reducible refine Below.trans ?_ (Below.mono (by assumption) ?_) | with_reducible exact Nat.le_refl _ | with_reducible refine Nat.le_trans ?_ (Below.size (by assumption)) | with_reducible refine Nat.le_trans ?_ (size_alloc _ _) | with_reducible refine Nat.le_trans ?_ (size_set _ _ _) | with_reducible refine Nat.le_trans ?_ (size_drewN _ _) | with_reducible refine Nat.le_trans ?_ (size_drew _) | (simp; done) | (simp; omega) | omega)
set_option maxHeartbeats 4000000 in
theorem rread_late (s T : ByteArray) (x y : Int) (w : World) (hz : s.size ≤ maxLen) (hs : (s.toList == []) = false) (hy : (y == 0) = false)
    (HP : Hid (∀ W : World, Calls Tryd.prog 34 #[.string s] W fun e w' => e = .returned (.tuple #[.int .i64 x, .int .i64 y]) ∧ w' = W))
    (HF : Hid (∀ W : World, Calls Tryd.prog 27 #[.string s] W fun e w' => e = .returned (.string T) ∧ Below W.heap.size W w'))
    (t1 : (T.toList == [84, 82, 85, 69]) = false) (t2 : (T.toList == [70, 65, 76, 83, 69]) = false)
    (h0 : s.data.toList ≠ []) (h1 : ¬ (parseR s.data.toList).2 = 0) (h2 : (namedR s.data.toList).2 = false) :
    Calls Tryd.prog 25 #[.string s] w fun e w' => e = .returned (.tuple #[.agg #[.int .i64 (readR s.data.toList).1.k, .int .i64 (readR s.data.toList).1.n, .string ⟨(readR s.data.toList).1.s.toArray⟩, .bool (readR s.data.toList).1.b, .int .i64 (readR s.data.toList).1.c], .int .i64 (readR s.data.toList).2]) ∧ Below w.heap.size w w' := by
  have HL : Hid (s.data.toList.length = s.size) := by show _ = _; simp
  have HS : Hid (s.toList = s.data.toList) := ByteArray.toList_eq s
  have HQ0 := hide h0
  have HQ1 := hide h1
  have HQ2 := hide h2
  unfold maxLen at hz
  clear h0 h1 h2
  go_enter Tryd.func25, Tryd.ntmps25
  go_wp2_with (first | (go_at_call 34; refine (HP.out _).mono ?_; rintro e w1 ⟨rfl, rfl⟩) | (go_at_call 27; refine (HF.out _).mono ?_; rintro e w1 ⟨rfl, hb1⟩) | (go_at_call 47; refine (names_any _).mono ?_; rintro e w2 ⟨rfl, rfl⟩))
  have HV := hide (((HasV.at w w.heap.size 0 0 ⟨#[]⟩ false 0 25 rfl).below hb1).alloc (.cells (names.map fun l => Value.string ⟨l.toArray⟩).toArray 9))
  have HB : Hid (Below w.heap.size w (w1.alloc (.cells (names.map fun l => Value.string ⟨l.toArray⟩).toArray 9))) := ((((Below.refl w.heap.size w).alloc (Nat.le_refl _) _).trans (hb1.mono (by simp))).alloc (by have := hb1.size; simp at this; omega) _)
  have HC : Hid (∀ j, j < 8 → (w1.alloc (.cells (names.map fun l => Value.string ⟨l.toArray⟩).toArray 9)).cell? ⟨w1.heap.size, j, none⟩ = some (.string ⟨(nameL j).toArray⟩)) := fun j hj => new_name w1 j hj
  clear hb1
  generalize w1.alloc (.cells (names.map fun l => Value.string ⟨l.toArray⟩).toArray 9) = W at *
  go_loop [8] (fun i => ∃ k : Nat, 1 ≤ k ∧ k ≤ 8 ∧ i = .int .i64 k ∧ ∀ j, 1 ≤ j → j < k → nameL j ≠ s.data.toList) (fun i => 8 - (intOf i).toNat)
  case atStart => exact ⟨1, by omega, by omega, rfl, fun j h hj => absurd hj (by omega)⟩
  case round =>
    obtain ⟨k, hk1, hk, rfl, hall⟩ := hrel
    have HA := hide hall
    clear hall
    by_cases hlt : k < 8
    · have hcell := HC.out k hlt
      have hl := list_ba (nameL k)
      have i1 : (0 : Int) ≤ (k : Int) := by omega
      have i2 : (k : Int) < 8 := by omega
      by_cases c : nameL k = s.data.toList
      · have hf : faultR s.data.toList = k := by rw [← c]; exact fault_name hlt
        have HX := hide (read_fault HQ0.out HQ1.out HQ2.out (by rw [hf]; omega))
        rw [hf] at HX
        have t : ((⟨(nameL k).toArray⟩ : ByteArray).toList == s.toList) = true := by rw [hl, HS.out, c]; simp
        clear hl c hf
        generalize (⟨(nameL k).toArray⟩ : ByteArray) = N at *
        obtain ⟨⟨lp, p0, p1, p2, p3, p4⟩, f0, f1, f2, f3, f4⟩ := HV.out
        go_wp2
        rw [HX.out]
        refine bodyPost_ret (v := .tuple #[.agg #[.int .i64 4, .int .i64 0, .string ⟨#[]⟩, .bool false, .int .i64 (k : Int)], .int .i64 0]) (by simp [results, Tryd.results25, go_sem, *]) rfl ⟨rfl, ?_⟩
        have hB := HB.out
        repeat' (first | with_reducible exact Below.refl _ _ | with_reducible refine Below.setCell ?_ ?_ _ | with_reducible refine Below.alloc ?_ ?_ _ | with_reducible refine below_drewN ?_ _ | with_reducible refine Below.drew ?_ | with_reducible refine Below.trans ?_ (Below.mono (by assumption) ?_) | with_reducible exact Nat.le_refl _ | with_reducible refine Nat.le_trans ?_ (Below.size (by assumption)) | with_reducible refine Nat.le_trans ?_ (size_alloc _ _) | with_reducible refine Nat.le_trans ?_ (size_set _ _ _) | with_reducible refine Nat.le_trans ?_ (size_drewN _ _) | with_reducible refine Nat.le_trans ?_ (size_drew _) | (simp; done) | (simp; omega) | omega)
      · have HY : Hid (∀ j, 1 ≤ j → j < k + 1 → nameL j ≠ s.data.toList) := fun j hj1 hj => by
          by_cases cc : j = k
          · subst cc; exact c
          · exact HA.out j hj1 (by omega)
        have t : ((⟨(nameL k).toArray⟩ : ByteArray).toList == s.toList) = false := by rw [hl, HS.out]; simpa using c
        clear hl c
        generalize (⟨(nameL k).toArray⟩ : ByteArray) = N at *
        go_wp2
        go_round
        case rel => exact ⟨k + 1, by omega, by omega, by go_num, HY.out⟩
        case measure => simp [intOf]; omega
    · have hf : faultR s.data.toList = 0 := fault_none' (fun j h1 hj => HA.out j h1 (by omega))
      obtain ⟨⟨lp, p0, p1, p2, p3, p4⟩, f0, f1, f2, f3, f4⟩ := HV.out
      by_cases h4 : 255 < s.data.toList.length
      · have HX := hide (read_big HQ0.out HQ1.out HQ2.out hf h4)
        have t4 : (255 : Int) < (s.size : Int) := by have := HL.out; omega
        clear hf h4
        go_wp2
        rw [HX.out]
        refine bodyPost_ret (v := .tuple #[.agg #[.int .i64 0, .int .i64 0, .string ⟨#[]⟩, .bool false, .int .i64 0], .int .i64 7]) (by simp [results, Tryd.results25, go_sem, *]) rfl ⟨rfl, ?_⟩
        have hB := HB.out
        repeat' (first | with_reducible exact Below.refl _ _ | with_reducible refine Below.setCell ?_ ?_ _ | with_reducible refine Below.alloc ?_ ?_ _ | with_reducible refine below_drewN ?_ _ | with_reducible refine Below.drew ?_ | with_reducible refine Below.trans ?_ (Below.mono (by assumption) ?_) | with_reducible exact Nat.le_refl _ | with_reducible refine Nat.le_trans ?_ (Below.size (by assumption)) | with_reducible refine Nat.le_trans ?_ (size_alloc _ _) | with_reducible refine Nat.le_trans ?_ (size_set _ _ _) | with_reducible refine Nat.le_trans ?_ (size_drewN _ _) | with_reducible refine Nat.le_trans ?_ (size_drew _) | (simp; done) | (simp; omega) | omega)
      · have HX := hide (read_text HQ0.out HQ1.out HQ2.out hf h4)
        have t4 : ¬ (255 : Int) < (s.size : Int) := by have := HL.out; omega
        clear hf h4
        go_wp2
        rw [HX.out, ba_eta]
        refine bodyPost_ret (v := .tuple #[.agg #[.int .i64 2, .int .i64 0, .string s, .bool false, .int .i64 0], .int .i64 0]) (by simp [results, Tryd.results25, go_sem, *]) rfl ⟨rfl, ?_⟩
        have hB := HB.out
        repeat' (first | with_reducible exact Below.refl _ _ | with_reducible refine Below.setCell ?_ ?_ _ | with_reducible refine Below.alloc ?_ ?_ _ | with_reducible refine below_drewN ?_ _ | with_reducible refine Below.drew ?_ | with_reducible refine Below.trans ?_ (Below.mono (by assumption) ?_) | with_reducible exact Nat.le_refl _ | with_reducible refine Nat.le_trans ?_ (Below.size (by assumption)) | with_reducible refine Nat.le_trans ?_ (size_alloc _ _) | with_reducible refine Nat.le_trans ?_ (size_set _ _ _) | with_reducible refine Nat.le_trans ?_ (size_drewN _ _) | with_reducible refine Nat.le_trans ?_ (size_drew _) | (simp; done) | (simp; omega) | omega)
theorem rreadV_any (s : ByteArray) (w : World) (hz : s.size ≤ maxLen) :
    Calls Tryd.prog 25 #[.string s] w fun e w' => e = .returned (.tuple #[.agg #[.int .i64 (readR s.data.toList).1.k, .int .i64 (readR s.data.toList).1.n, .string ⟨(readR s.data.toList).1.s.toArray⟩, .bool (readR s.data.toList).1.b, .int .i64 (readR s.data.toList).1.c], .int .i64 (readR s.data.toList).2]) ∧ Below w.heap.size w w' := by
  by_cases h : s.data.toList = [] ∨ (parseR s.data.toList).2 = 0
  · exact rread_early s w hz h
  · have h0 : s.data.toList ≠ [] := fun e => h (.inl e)
    have h1 : ¬ (parseR s.data.toList).2 = 0 := fun e => h (.inr e)
    have hs : (s.toList == []) = false := by rw [ByteArray.toList_eq]; simpa using h0
    have hy : ((parseR s.data.toList).2 == 0) = false := by simpa using h1
    have hT := list_ba (foldL s.data.toList)
    by_cases c1 : foldL s.data.toList = [84, 82, 85, 69]
    · rw [read_truth h0 h1 (by rw [namedR_t c1]), namedR_t c1]
      exact rread_truth s _ _ _ true w hs hy (fun W => rparse_any s W hz) (fun W => rfold_any s W hz) (.inl ⟨rfl, by rw [hT, c1]; rfl⟩)
    · have e1 : ((⟨(foldL s.data.toList).toArray⟩ : ByteArray).toList == [84, 82, 85, 69]) = false := by rw [hT]; simpa using c1
      by_cases c2 : foldL s.data.toList = [70, 65, 76, 83, 69]
      · rw [read_truth h0 h1 (by rw [namedR_f c2]), namedR_f c2]
        exact rread_truth s _ _ _ false w hs hy (fun W => rparse_any s W hz) (fun W => rfold_any s W hz) (.inr ⟨rfl, e1, by rw [hT, c2]; rfl⟩)
      · exact rread_late s _ _ _ w hz hs hy (fun W => rparse_any s W hz) (fun W => rfold_any s W hz) e1 (by rw [hT]; simpa using c2) h0 h1 (by rw [namedR_no c1 c2])
end Go.Proofs.YtaokibkeoomfjaaDoor
