/-
  Out of RefShow, RefRead, RefAlike, RefComp, what is asked for (laid by pack9.py).
-/
import Derived.Test.YtpghgjibpbimeaaDoorKNum
import Derived.Test.YtpghgjibpbimeaaDoorKNum2
import Derived.Test.YtpghgjibpbimeaaDoorKVal
import Derived.Test.YtpghgjibpbimeaaDoorKVal3
import Derived.Test.YtpghgjibpbimeaaDoorKVal4
import Derived.Test.YtpghgjibpbimeaaDoorKVal5
import Derived.BigCall
import Derived.BigGuard
import Derived.BigQuiet
import Derived.ChangeArms
import Derived.Deep.QuietTactic
import Derived.Deep.RegionHeld3
import Derived.Deep.RegionWith
import Derived.Laws.Cover1
import Derived.Laws.EntriesVeiled
import Derived.Laws.IdiomStrings
import Derived.Lib.AppendIntMem
import Derived.Lib.IndexMore
import Derived.Lib.ItoaMem
import Derived.Lib.LaidTab
import Derived.Lib.OthersKept
import Derived.Lib.SmallJoins
import Derived.Lib.Walk
import Derived.LoopTactic
import Derived.WalkKit
import Derived.WalkLawsBesides
import Derived.WalkSpells
import Derived.WideShapes
namespace Go.Proofs.YtpghgjibpbimeaaDoor
section
open Go.RowKit
theorem BoxS.alloc {W w' : World} {p : Nat} {k n : Int} {s : ByteArray} {b : Bool} {c : Int}
    (h : w'.cell? ⟨p, 0, none⟩ = some (.int .i64 k) ∧ w'.cell? ⟨p, 1, none⟩ = some (.int .i64 n) ∧ w'.cell? ⟨p, 2, none⟩ = some (.string s) ∧ w'.cell? ⟨p, 3, none⟩ = some (.bool b) ∧ w'.cell? ⟨p, 4, none⟩ = some (.int .i64 c) ∧ p < w'.heap.size ∧ Below W.heap.size W w') (o : Obj) :
    (w'.alloc o).cell? ⟨p, 0, none⟩ = some (.int .i64 k) ∧ (w'.alloc o).cell? ⟨p, 1, none⟩ = some (.int .i64 n) ∧ (w'.alloc o).cell? ⟨p, 2, none⟩ = some (.string s) ∧ (w'.alloc o).cell? ⟨p, 3, none⟩ = some (.bool b) ∧ (w'.alloc o).cell? ⟨p, 4, none⟩ = some (.int .i64 c) ∧ p < (w'.alloc o).heap.size ∧ Below W.heap.size W (w'.alloc o) :=
  BoxS.below h ((Below.refl _ _).alloc (Nat.le_refl _) o)
theorem new_name (W : World) (j : Nat) (h : j < 8) : (W.alloc (.cells (names.map fun l => Value.string ⟨l.toArray⟩).toArray 9)).cell? ⟨W.heap.size, j, none⟩ = some (.string ⟨(nameL j).toArray⟩) := by
  have : j = 0 ∨ j = 1 ∨ j = 2 ∨ j = 3 ∨ j = 4 ∨ j = 5 ∨ j = 6 ∨ j = 7 := by omega
  rcases this with rfl | rfl | rfl | rfl | rfl | rfl | rfl | rfl <;> simp [go_sem, names, nameL]
end
section
open Go.RowKit
set_option maxHeartbeats 2000000 in
theorem rread_early (s : ByteArray) (w : World) (hz : s.size ≤ maxLen) (h : s.data.toList = [] ∨ (parseR s.data.toList).2 = 0) :
    Calls Tryd.prog 24 #[.string s] w fun e w' => e = .returned (.tuple #[.agg #[.int .i64 (readR s.data.toList).1.k, .int .i64 (readR s.data.toList).1.n, .string ⟨(readR s.data.toList).1.s.toArray⟩, .bool (readR s.data.toList).1.b, .int .i64 (readR s.data.toList).1.c], .int .i64 (readR s.data.toList).2]) ∧ Below w.heap.size w w' := by
  have HP : Hid (∀ W : World, Calls Tryd.prog 53 #[.string s] W fun e w' => e = .returned (.tuple #[.int .i64 (parseR s.data.toList).1, .int .i64 (parseR s.data.toList).2]) ∧ w' = W) := fun W => rparse_any s W hz
  clear hz
  rcases empty_or s with rfl | ⟨hs, hs2⟩
  · rw [show readR (⟨#[]⟩ : ByteArray).data.toList = (⟨0, 0, [], false, 0⟩, 0) from read_nil]
    clear h
    go_enter Tryd.func24, Tryd.ntmps24
    go_wp2
    refine bodyPost_ret (v := .tuple #[.agg #[.int .i64 0, .int .i64 0, .string ⟨#[]⟩, .bool false, .int .i64 0], .int .i64 0]) (by simp [results, Tryd.results24, go_sem]) rfl ⟨rfl, ?_⟩
    repeat' (first | with_reducible exact Below.refl _ _ | with_reducible refine Below.setCell ?_ ?_ _ | with_reducible refine Below.alloc ?_ ?_ _ | with_reducible refine below_drewN ?_ _ | with_reducible refine Below.drew ?_ | with_reducible refine Below.trans ?_ (Below.mono (by assumption) ?_) | with_reducible exact Nat.le_refl _ | with_reducible refine Nat.le_trans ?_ (Below.size (by assumption)) | with_reducible refine Nat.le_trans ?_ (size_alloc _ _) | with_reducible refine Nat.le_trans ?_ (size_set _ _ _) | with_reducible refine Nat.le_trans ?_ (size_drewN _ _) | with_reducible refine Nat.le_trans ?_ (size_drew _) | (simp; done) | (simp; omega) | omega)
  · have h0 : s.data.toList ≠ [] := fun e => hs (by rw [← ba_eta s, e])
    have h1 : (parseR s.data.toList).2 = 0 := h.resolve_left h0
    rw [read_num h0 h1]
    rw [h1] at HP
    clear h0 h1 h hs
    generalize (parseR s.data.toList).1 = x at *
    go_enter Tryd.func24, Tryd.ntmps24
    go_wp2_with (go_at_call 53; refine (HP.out _).mono ?_; rintro e w1 ⟨rfl, rfl⟩)
    refine bodyPost_ret (v := .tuple #[.agg #[.int .i64 1, .int .i64 x, .string ⟨#[]⟩, .bool false, .int .i64 0], .int .i64 0]) (by simp [results, Tryd.results24, go_sem]) rfl ⟨rfl, ?_⟩
    repeat' (first | with_reducible exact Below.refl _ _ | with_reducible refine Below.setCell ?_ ?_ _ | with_reducible refine Below.alloc ?_ ?_ _ | with_reducible refine below_drewN ?_ _ | with_reducible refine Below.drew ?_ | with_reducible refine Below.trans ?_ (Below.mono (by assumption) ?_) | with_reducible exact Nat.le_refl _ | with_reducible refine Nat.le_trans ?_ (Below.size (by assumption)) | with_reducible refine Nat.le_trans ?_ (size_alloc _ _) | with_reducible refine Nat.le_trans ?_ (size_set _ _ _) | with_reducible refine Nat.le_trans ?_ (size_drewN _ _) | with_reducible refine Nat.le_trans ?_ (size_drew _) | (simp; done) | (simp; omega) | omega)
set_option maxHeartbeats 2000000 in
theorem rread_truth (s T : ByteArray) (x y : Int) (z : Bool) (w : World) (hs : (s.toList == []) = false) (hy : (y == 0) = false)
    (HP : Hid (∀ W : World, Calls Tryd.prog 53 #[.string s] W fun e w' => e = .returned (.tuple #[.int .i64 x, .int .i64 y]) ∧ w' = W))
    (HF : Hid (∀ W : World, Calls Tryd.prog 42 #[.string s] W fun e w' => e = .returned (.string T) ∧ Below W.heap.size W w'))
    (h : (z = true ∧ (T.toList == [84, 82, 85, 69]) = true) ∨ (z = false ∧ (T.toList == [84, 82, 85, 69]) = false ∧ (T.toList == [70, 65, 76, 83, 69]) = true)) :
    Calls Tryd.prog 24 #[.string s] w fun e w' => e = .returned (.tuple #[.agg #[.int .i64 3, .int .i64 0, .string ⟨#[]⟩, .bool z, .int .i64 0], .int .i64 0]) ∧ Below w.heap.size w w' := by
  rcases h with ⟨rfl, t1⟩ | ⟨rfl, t1, t2⟩
  all_goals
    go_enter Tryd.func24, Tryd.ntmps24
    go_wp2_with (first | (go_at_call 53; refine (HP.out _).mono ?_; rintro e w1 ⟨rfl, rfl⟩) | (go_at_call 42; refine (HF.out _).mono ?_; rintro e w1 ⟨rfl, hb1⟩; obtain ⟨⟨lp, p0, p1, p2, p3, p4⟩, f0, f1, f2, f3, f4⟩ := (HasV.at w w.heap.size 0 0 ⟨#[]⟩ false 0 25 rfl).below hb1))
    first
      | refine bodyPost_ret (v := .tuple #[.agg #[.int .i64 3, .int .i64 0, .string ⟨#[]⟩, .bool true, .int .i64 0], .int .i64 0]) (by simp [results, Tryd.results24, go_sem, *]) rfl ⟨rfl, ?_⟩
      | refine bodyPost_ret (v := .tuple #[.agg #[.int .i64 3, .int .i64 0, .string ⟨#[]⟩, .bool false, .int .i64 0], .int .i64 0]) (by simp [results, Tryd.results24, go_sem, *]) rfl ⟨rfl, ?_⟩
    have hB : Below w.heap.size w w1 := ((Below.refl _ _).alloc (Nat.le_refl _) _).trans (hb1.mono (by simp))
    repeat' (first | with_reducible exact Below.refl _ _ | with_reducible refine Below.setCell ?_ ?_ _ | with_reducible refine Below.alloc ?_ ?_ _ | with_reducible refine below_drewN ?_ _ | with_reducible refine Below.drew ?_ | with_reducible refine Below.trans ?_ (Below.mono (by assumption) ?_) | with_reducible exact Nat.le_refl _ | with_reducible refine Nat.le_trans ?_ (Below.size (by assumption)) | with_reducible refine Nat.le_trans ?_ (size_alloc _ _) | with_reducible refine Nat.le_trans ?_ (size_set _ _ _) | with_reducible refine Nat.le_trans ?_ (size_drewN _ _) | with_reducible refine Nat.le_trans ?_ (size_drew _) | (simp; done) | (simp; omega) | omega)
set_option maxHeartbeats 4000000 in
theorem rread_late (s T : ByteArray) (x y : Int) (w : World) (hz : s.size ≤ maxLen) (hs : (s.toList == []) = false) (hy : (y == 0) = false)
    (HP : Hid (∀ W : World, Calls Tryd.prog 53 #[.string s] W fun e w' => e = .returned (.tuple #[.int .i64 x, .int .i64 y]) ∧ w' = W))
    (HF : Hid (∀ W : World, Calls Tryd.prog 42 #[.string s] W fun e w' => e = .returned (.string T) ∧ Below W.heap.size W w'))
    (t1 : (T.toList == [84, 82, 85, 69]) = false) (t2 : (T.toList == [70, 65, 76, 83, 69]) = false)
    (h0 : s.data.toList ≠ []) (h1 : ¬ (parseR s.data.toList).2 = 0) (h2 : (namedR s.data.toList).2 = false) :
    Calls Tryd.prog 24 #[.string s] w fun e w' => e = .returned (.tuple #[.agg #[.int .i64 (readR s.data.toList).1.k, .int .i64 (readR s.data.toList).1.n, .string ⟨(readR s.data.toList).1.s.toArray⟩, .bool (readR s.data.toList).1.b, .int .i64 (readR s.data.toList).1.c], .int .i64 (readR s.data.toList).2]) ∧ Below w.heap.size w w' := by
  have HL : Hid (s.data.toList.length = s.size) := by show _ = _; simp
  have HS : Hid (s.toList = s.data.toList) := ByteArray.toList_eq s
  have HQ0 := hide h0
  have HQ1 := hide h1
  have HQ2 := hide h2
  unfold maxLen at hz
  clear h0 h1 h2
  go_enter Tryd.func24, Tryd.ntmps24
  go_wp2_with (first | (go_at_call 53; refine (HP.out _).mono ?_; rintro e w1 ⟨rfl, rfl⟩) | (go_at_call 42; refine (HF.out _).mono ?_; rintro e w1 ⟨rfl, hb1⟩) | (go_at_call 54; refine (names_any _).mono ?_; rintro e w2 ⟨rfl, rfl⟩))
  have HV := hide (((HasV.at w w.heap.size 0 0 ⟨#[]⟩ false 0 25 rfl).below hb1).alloc (.cells (names.map fun l => Value.string ⟨l.toArray⟩).toArray 9))
  have HB : Hid (Below w.heap.size w (w1.alloc (.cells (names.map fun l => Value.string ⟨l.toArray⟩).toArray 9))) := ((((Below.refl w.heap.size w).alloc (Nat.le_refl _) _).trans (hb1.mono (by simp))).alloc (by have := hb1.size; simp at this; omega) _)
  have HC : Hid (∀ j, j < 8 → (w1.alloc (.cells (names.map fun l => Value.string ⟨l.toArray⟩).toArray 9)).cell? ⟨w1.heap.size, j, none⟩ = some (.string ⟨(nameL j).toArray⟩)) := fun j hj => new_name w1 j hj
  clear hb1
  generalize w1.alloc (.cells (names.map fun l => Value.string ⟨l.toArray⟩).toArray 9) = W at *
  go_loop [8] (fun i => ∃ k : Nat, 1 ≤ k ∧ k ≤ 8 ∧ i = .int .i64 k ∧ ∀ j, 1 ≤ j → j < k → nameL j ≠ s.data.toList) (fun i => 8 - (intOf i).toNat)
  case atStart => exact ⟨1, by omega, by omega, rfl, fun j h hj => absurd hj (by omega)⟩
  case round =>
    obtain ⟨k, hk1, hk, rfl, hall⟩ := hrel
    have HA := hide hall
    clear hall
    by_cases hlt : k < 8
    · have hcell := HC.out k hlt
      have hl := list_ba (nameL k)
      have i1 : (0 : Int) ≤ (k : Int) := by omega
      have i2 : (k : Int) < 8 := by omega
      by_cases c : nameL k = s.data.toList
      · have hf : faultR s.data.toList = k := by rw [← c]; exact fault_name hlt
        have HX := hide (read_fault HQ0.out HQ1.out HQ2.out (by rw [hf]; omega))
        rw [hf] at HX
        have t : ((⟨(nameL k).toArray⟩ : ByteArray).toList == s.toList) = true := by rw [hl, HS.out, c]; simp
        clear hl c hf
        generalize (⟨(nameL k).toArray⟩ : ByteArray) = N at *
        obtain ⟨⟨lp, p0, p1, p2, p3, p4⟩, f0, f1, f2, f3, f4⟩ := HV.out
        go_wp2
        rw [HX.out]
        refine bodyPost_ret (v := .tuple #[.agg #[.int .i64 4, .int .i64 0, .string ⟨#[]⟩, .bool false, .int .i64 (k : Int)], .int .i64 0]) (by simp [results, Tryd.results24, go_sem, *]) rfl ⟨rfl, ?_⟩
        have hB := HB.out
        repeat' (first | with_reducible exact Below.refl _ _ | with_reducible refine Below.setCell ?_ ?_ _ | with_reducible refine Below.alloc ?_ ?_ _ | with_reducible refine below_drewN ?_ _ | with_reducible refine Below.drew ?_ | with_reducible refine Below.trans ?_ (Below.mono (by assumption) ?_) | with_reducible exact Nat.le_refl _ | with_reducible refine Nat.le_trans ?_ (Below.size (by assumption)) | with_reducible refine Nat.le_trans ?_ (size_alloc _ _) | with_reducible refine Nat.le_trans ?_ (size_set _ _ _) | with_reducible refine Nat.le_trans ?_ (size_drewN _ _) | with_reducible refine Nat.le_trans ?_ (size_drew _) | (simp; done) | (simp; omega) | omega)
      · have HY : Hid (∀ j, 1 ≤ j → j < k + 1 → nameL j ≠ s.data.toList) := fun j hj1 hj => by
          by_cases cc : j = k
          · subst cc; exact c
          · exact HA.out j hj1 (by omega)
        have t : ((⟨(nameL k).toArray⟩ : ByteArray).toList == s.toList) = false := by rw [hl, HS.out]; simpa using c
        clear hl c
        generalize (⟨(nameL k).toArray⟩ : ByteArray) = N at *
        go_wp2
        go_round
        case rel => exact ⟨k + 1, by omega, by omega, by go_num, HY.out⟩
        case measure => simp [intOf]; omega
    · have hf : faultR s.data.toList = 0 := fault_none' (fun j h1 hj => HA.out j h1 (by omega))
      obtain ⟨⟨lp, p0, p1, p2, p3, p4⟩, f0, f1, f2, f3, f4⟩ := HV.out
      by_cases h4 : 255 < s.data.toList.length
      · have HX := hide (read_big HQ0.out HQ1.out HQ2.out hf h4)
        have t4 : (255 : Int) < (s.size : Int) := by have := HL.out; omega
        clear hf h4
        go_wp2
        rw [HX.out]
        refine bodyPost_ret (v := .tuple #[.agg #[.int .i64 0, .int .i64 0, .string ⟨#[]⟩, .bool false, .int .i64 0], .int .i64 7]) (by simp [results, Tryd.results24, go_sem, *]) rfl ⟨rfl, ?_⟩
        have hB := HB.out
        repeat' (first | with_reducible exact Below.refl _ _ | with_reducible refine Below.setCell ?_ ?_ _ | with_reducible refine Below.alloc ?_ ?_ _ | with_reducible refine below_drewN ?_ _ | with_reducible refine Below.drew ?_ | with_reducible refine Below.trans ?_ (Below.mono (by assumption) ?_) | with_reducible exact Nat.le_refl _ | with_reducible refine Nat.le_trans ?_ (Below.size (by assumption)) | with_reducible refine Nat.le_trans ?_ (size_alloc _ _) | with_reducible refine Nat.le_trans ?_ (size_set _ _ _) | with_reducible refine Nat.le_trans ?_ (size_drewN _ _) | with_reducible refine Nat.le_trans ?_ (size_drew _) | (simp; done) | (simp; omega) | omega)
      · have HX := hide (read_text HQ0.out HQ1.out HQ2.out hf h4)
        have t4 : ¬ (255 : Int) < (s.size : Int) := by have := HL.out; omega
        clear hf h4
        go_wp2
        rw [HX.out, ba_eta]
        refine bodyPost_ret (v := .tuple #[.agg #[.int .i64 2, .int .i64 0, .string s, .bool false, .int .i64 0], .int .i64 0]) (by simp [results, Tryd.results24, go_sem, *]) rfl ⟨rfl, ?_⟩
        have hB := HB.out
        repeat' (first | with_reducible exact Below.refl _ _ | with_reducible refine Below.setCell ?_ ?_ _ | with_reducible refine Below.alloc ?_ ?_ _ | with_reducible refine below_drewN ?_ _ | with_reducible refine Below.drew ?_ | with_reducible refine Below.trans ?_ (Below.mono (by assumption) ?_) | with_reducible exact Nat.le_refl _ | with_reducible refine Nat.le_trans ?_ (Below.size (by assumption)) | with_reducible refine Nat.le_trans ?_ (size_alloc _ _) | with_reducible refine Nat.le_trans ?_ (size_set _ _ _) | with_reducible refine Nat.le_trans ?_ (size_drewN _ _) | with_reducible refine Nat.le_trans ?_ (size_drew _) | (simp; done) | (simp; omega) | omega)
theorem rreadV_any (s : ByteArray) (w : World) (hz : s.size ≤ maxLen) :
    Calls Tryd.prog 24 #[.string s] w fun e w' => e = .returned (.tuple #[.agg #[.int .i64 (readR s.data.toList).1.k, .int .i64 (readR s.data.toList).1.n, .string ⟨(readR s.data.toList).1.s.toArray⟩, .bool (readR s.data.toList).1.b, .int .i64 (readR s.data.toList).1.c], .int .i64 (readR s.data.toList).2]) ∧ Below w.heap.size w w' := by
  by_cases h : s.data.toList = [] ∨ (parseR s.data.toList).2 = 0
  · exact rread_early s w hz h
  · have h0 : s.data.toList ≠ [] := fun e => h (.inl e)
    have h1 : ¬ (parseR s.data.toList).2 = 0 := fun e => h (.inr e)
    have hs : (s.toList == []) = false := by rw [ByteArray.toList_eq]; simpa using h0
    have hy : ((parseR s.data.toList).2 == 0) = false := by simpa using h1
    have hT := list_ba (foldL s.data.toList)
    by_cases c1 : foldL s.data.toList = [84, 82, 85, 69]
    · rw [read_truth h0 h1 (by rw [namedR_t c1]), namedR_t c1]
      exact rread_truth s _ _ _ true w hs hy (fun W => rparse_any s W hz) (fun W => rfold_any s W hz) (.inl ⟨rfl, by rw [hT, c1]; rfl⟩)
    · have e1 : ((⟨(foldL s.data.toList).toArray⟩ : ByteArray).toList == [84, 82, 85, 69]) = false := by rw [hT]; simpa using c1
      by_cases c2 : foldL s.data.toList = [70, 65, 76, 83, 69]
      · rw [read_truth h0 h1 (by rw [namedR_f c2]), namedR_f c2]
        exact rread_truth s _ _ _ false w hs hy (fun W => rparse_any s W hz) (fun W => rfold_any s W hz) (.inr ⟨rfl, e1, by rw [hT, c2]; rfl⟩)
      · exact rread_late s _ _ _ w hz hs hy (fun W => rparse_any s W hz) (fun W => rfold_any s W hz) e1 (by rw [hT]; simpa using c2) h0 h1 (by rw [namedR_no c1 c2])
end
section
open Go.RowKit
/-- A post that holds at the code's plain end alone. -/
def Norm (R : Act → World → Prop) : Exit → Act → World → Prop
  | .normal, a, w => R a w
  | _, _, _ => False
theorem wp_cut {P : Program} {c : Code} {Q : Exit → Act → World → Prop} {R : Act → World → Prop} {a : Act} {w : World} (hr : c.wp P (Norm R) a w) (hk : ∀ a w, R a w → Q .normal a w) : c.wp P Q a w :=
  Code.wp_mono (fun e a w h => by cases e <;> first | exact hk a w h | exact (h : False).elim) hr
theorem wp_cut0 {P : Program} {c : Code} {Q : Exit → Act → World → Prop} {T : Act} {F : World → Prop} {a : Act} {w : World} (hr : c.wp P (Norm fun a' w' => a' = T ∧ F w') a w) (hk : ∀ w', F w' → Q .normal T w') : c.wp P Q a w :=
  wp_cut hr fun a w ⟨e, f⟩ => by rw [e]; exact hk w f
theorem HasV.other {w : World} {p : Nat} {k n : Int} {s : ByteArray} {b : Bool} {c : Int} (h : HasV w p k n s b c) {q : Nat} (hq : q ≠ p) (o : Nat) (v : Value) : HasV (w.setCell ⟨q, o, none⟩ v) p k n s b c := by
  obtain ⟨⟨l, h0, h1, h2, h3, h4⟩, f0, f1, f2, f3, f4⟩ := h
  have e : ∀ j, (w.setCell ⟨q, o, none⟩ v).cell? ⟨p, j, none⟩ = w.cell? ⟨p, j, none⟩ := fun j => by rw [World.cell?_setCell_other (h := show (⟨q, o, none⟩ : Addr) ≠ ⟨p, j, none⟩ from fun x => hq (congrArg Addr.block x))]
  exact ⟨⟨by simpa using l, by rw [e]; exact h0, by rw [e]; exact h1, by rw [e]; exact h2, by rw [e]; exact h3, by rw [e]; exact h4⟩, by rw [World.frozen?_setCell]; exact f0, by rw [World.frozen?_setCell]; exact f1, by rw [World.frozen?_setCell]; exact f2, by rw [World.frozen?_setCell]; exact f3, by rw [World.frozen?_setCell]; exact f4⟩
/-- Two values lie in blocks that may be written. -/
def Both (w : World) (p q : Nat) (k n : Int) (s : ByteArray) (b : Bool) (c : Int) (k' n' : Int) (s' : ByteArray) (b' : Bool) (c' : Int) : Prop := HasV w p k n s b c ∧ HasV w q k' n' s' b' c'
theorem Both.new (w : World) (k n : Int) (s : ByteArray) (b : Bool) (c : Int) (k' n' : Int) (s' : ByteArray) (b' : Bool) (c' : Int) : Both ((w.alloc (.cells #[.int .i64 k, .int .i64 n, .string s, .bool b, .int .i64 c] 25)).alloc (.cells #[.int .i64 k', .int .i64 n', .string s', .bool b', .int .i64 c'] 25)) w.heap.size (w.heap.size + 1) k n s b c k' n' s' b' c' :=
  ⟨(HasV.at w w.heap.size k n s b c 25 rfl).alloc _, HasV.at (w.alloc (.cells #[.int .i64 k, .int .i64 n, .string s, .bool b, .int .i64 c] 25)) (w.heap.size + 1) k' n' s' b' c' 25 (by simp)⟩
theorem Both.below {w w' : World} {p q : Nat} {k n : Int} {s : ByteArray} {b : Bool} {c : Int} {k' n' : Int} {s' : ByteArray} {b' : Bool} {c' : Int} (h : Both w p q k n s b c k' n' s' b' c') (z : Below w.heap.size w w') : Both w' p q k n s b c k' n' s' b' c' := ⟨h.1.below z, h.2.below z⟩
theorem Both.drew {w : World} {p q : Nat} {k n : Int} {s : ByteArray} {b : Bool} {c : Int} {k' n' : Int} {s' : ByteArray} {b' : Bool} {c' : Int} (h : Both w p q k n s b c k' n' s' b' c') : Both w.drew p q k n s b c k' n' s' b' c' := h
theorem BB.below {W w w' : World} {p q : Nat} {k n : Int} {s : ByteArray} {b : Bool} {c : Int} {k' n' : Int} {s' : ByteArray} {b' : Bool} {c' : Int} (h : Both w p q k n s b c k' n' s' b' c' ∧ Below W.heap.size W w) (z : Below w.heap.size w w') : Both w' p q k n s b c k' n' s' b' c' ∧ Below W.heap.size W w' := ⟨h.1.below z, h.2.trans (z.mono h.2.size)⟩
theorem BB.drew {W w : World} {p q : Nat} {k n : Int} {s : ByteArray} {b : Bool} {c : Int} {k' n' : Int} {s' : ByteArray} {b' : Bool} {c' : Int} (h : Both w p q k n s b c k' n' s' b' c' ∧ Below W.heap.size W w) : Both w.drew p q k n s b c k' n' s' b' c' ∧ Below W.heap.size W w.drew := ⟨h.1, h.2.drew⟩
end
section
open Go.RowKit
theorem HasV.setV {w : World} {p : Nat} {k n : Int} {s : ByteArray} {b : Bool} {c : Int} (h : HasV w p k n s b c) (k' n' : Int) (s' : ByteArray) (b' : Bool) (c' : Int) : HasV (((((w.setCell ⟨p, 0, none⟩ (.int .i64 k')).setCell ⟨p, 1, none⟩ (.int .i64 n')).setCell ⟨p, 2, none⟩ (.string s')).setCell ⟨p, 3, none⟩ (.bool b')).setCell ⟨p, 4, none⟩ (.int .i64 c')) p k' n' s' b' c' := by
  obtain ⟨⟨l, h0, h1, h2, h3, h4⟩, f0, f1, f2, f3, f4⟩ := h
  exact ⟨⟨by simpa using l, by simp [go_sem, *], by simp [go_sem, *], by simp [go_sem, *], by simp [go_sem, *], by simp [go_sem, *]⟩, by simp [f0], by simp [f1], by simp [f2], by simp [f3], by simp [f4]⟩
theorem Below.setV {B : Nat} {a w : World} (h : Below B a w) {p : Nat} (hp : B ≤ p) (v0 v1 v2 v3 v4 : Value) : Below B a (((((w.setCell ⟨p, 0, none⟩ v0).setCell ⟨p, 1, none⟩ v1).setCell ⟨p, 2, none⟩ v2).setCell ⟨p, 3, none⟩ v3).setCell ⟨p, 4, none⟩ v4) :=
  ((((h.setCell (p := ⟨p, 0, none⟩) hp v0).setCell (p := ⟨p, 1, none⟩) hp v1).setCell (p := ⟨p, 2, none⟩) hp v2).setCell (p := ⟨p, 3, none⟩) hp v3).setCell (p := ⟨p, 4, none⟩) hp v4
theorem HasV.others {w : World} {p : Nat} {k n : Int} {s : ByteArray} {b : Bool} {c : Int} (h : HasV w p k n s b c) {q : Nat} (hq : q ≠ p) (v0 v1 v2 v3 v4 : Value) : HasV (((((w.setCell ⟨q, 0, none⟩ v0).setCell ⟨q, 1, none⟩ v1).setCell ⟨q, 2, none⟩ v2).setCell ⟨q, 3, none⟩ v3).setCell ⟨q, 4, none⟩ v4) p k n s b c :=
  ((((h.other hq 0 v0).other hq 1 v1).other hq 2 v2).other hq 3 v3).other hq 4 v4
theorem BB.setP {W w : World} {p q : Nat} {k n : Int} {s : ByteArray} {b : Bool} {c : Int} {k' n' : Int} {s' : ByteArray} {b' : Bool} {c' : Int} (h : Both w p q k n s b c k' n' s' b' c' ∧ Below W.heap.size W w) (hq : p ≠ q) (hp : W.heap.size ≤ p) (l m : Int) (t : ByteArray) (d : Bool) (g : Int) :
    Both (((((w.setCell ⟨p, 0, none⟩ (.int .i64 l)).setCell ⟨p, 1, none⟩ (.int .i64 m)).setCell ⟨p, 2, none⟩ (.string t)).setCell ⟨p, 3, none⟩ (.bool d)).setCell ⟨p, 4, none⟩ (.int .i64 g)) p q l m t d g k' n' s' b' c' ∧ Below W.heap.size W (((((w.setCell ⟨p, 0, none⟩ (.int .i64 l)).setCell ⟨p, 1, none⟩ (.int .i64 m)).setCell ⟨p, 2, none⟩ (.string t)).setCell ⟨p, 3, none⟩ (.bool d)).setCell ⟨p, 4, none⟩ (.int .i64 g)) :=
  ⟨⟨h.1.1.setV l m t d g, h.1.2.others hq _ _ _ _ _⟩, Below.setV h.2 hp _ _ _ _ _⟩
theorem BB.setQ {W w : World} {p q : Nat} {k n : Int} {s : ByteArray} {b : Bool} {c : Int} {k' n' : Int} {s' : ByteArray} {b' : Bool} {c' : Int} (h : Both w p q k n s b c k' n' s' b' c' ∧ Below W.heap.size W w) (hq : q ≠ p) (hp : W.heap.size ≤ q) (l m : Int) (t : ByteArray) (d : Bool) (g : Int) :
    Both (((((w.setCell ⟨q, 0, none⟩ (.int .i64 l)).setCell ⟨q, 1, none⟩ (.int .i64 m)).setCell ⟨q, 2, none⟩ (.string t)).setCell ⟨q, 3, none⟩ (.bool d)).setCell ⟨q, 4, none⟩ (.int .i64 g)) p q k n s b c l m t d g ∧ Below W.heap.size W (((((w.setCell ⟨q, 0, none⟩ (.int .i64 l)).setCell ⟨q, 1, none⟩ (.int .i64 m)).setCell ⟨q, 2, none⟩ (.string t)).setCell ⟨q, 3, none⟩ (.bool d)).setCell ⟨q, 4, none⟩ (.int .i64 g)) :=
  ⟨⟨h.1.1.others hq _ _ _ _ _, h.1.2.setV l m t d g⟩, Below.setV h.2 hp _ _ _ _ _⟩
theorem cmpI_sign (a b : Int) : cmpI a b = signR (decide (a < b)) (decide (b < a)) := by
  unfold cmpI signR
  by_cases h : a < b
  · simp [h]
  · by_cases h' : b < a <;> simp [h, h']
set_option maxHeartbeats 1000000 in
theorem rcomp_no1 (k n : Int) (s : ByteArray) (b : Bool) (c : Int) (k' n' : Int) (s' : ByteArray) (b' : Bool) (c' : Int) (w : World) (HR : Hid (∀ W : World, Calls Tryd.prog 22 #[.agg #[.int .i64 k, .int .i64 n, .string s, .bool b, .int .i64 c]] W fun e w' => e = .returned (.bool false) ∧ Below W.heap.size W w')) :
    Calls Tryd.prog 34 #[.agg #[.int .i64 k, .int .i64 n, .string s, .bool b, .int .i64 c], .agg #[.int .i64 k', .int .i64 n', .string s', .bool b', .int .i64 c']] w fun e w' => e = .returned (.tuple #[.int .i64 0, .int .i64 2]) ∧ Below w.heap.size w w' := by
  have HY := hide (Both.new w k n s b c k' n' s' b' c')
  have HB := hide (((Below.refl w.heap.size w).alloc (Nat.le_refl _) (.cells #[.int .i64 k, .int .i64 n, .string s, .bool b, .int .i64 c] 25)).alloc (by simp) (.cells #[.int .i64 k', .int .i64 n', .string s', .bool b', .int .i64 c'] 25))
  go_enter Tryd.func34, Tryd.ntmps34
  go_wp2_with fail
  refine (HR.out _).mono ?_
  rintro e w1 ⟨rfl, hb⟩
  have HY := hide (Both.below HY.out hb)
  have HB := hide (HB.out.trans (hb.mono HB.out.size))
  clear hb
  obtain ⟨⟨⟨la, a0, a1, a2, a3, a4⟩, f0, f1, f2, f3, f4⟩, ⟨⟨lb, b0, b1, b2, b3, b4⟩, g0, g1, g2, g3, g4⟩⟩ := HY.out
  go_wp2
  go_ret2
  exact ⟨rfl, HB.out⟩
set_option maxHeartbeats 1000000 in
theorem rcomp_no2 (k n : Int) (s : ByteArray) (b : Bool) (c : Int) (k' n' : Int) (s' : ByteArray) (b' : Bool) (c' : Int) (w : World) (HR : Hid (∀ W : World, Calls Tryd.prog 22 #[.agg #[.int .i64 k, .int .i64 n, .string s, .bool b, .int .i64 c]] W fun e w' => e = .returned (.bool true) ∧ Below W.heap.size W w')) (HQ : Hid (∀ W : World, Calls Tryd.prog 22 #[.agg #[.int .i64 k', .int .i64 n', .string s', .bool b', .int .i64 c']] W fun e w' => e = .returned (.bool false) ∧ Below W.heap.size W w')) :
    Calls Tryd.prog 34 #[.agg #[.int .i64 k, .int .i64 n, .string s, .bool b, .int .i64 c], .agg #[.int .i64 k', .int .i64 n', .string s', .bool b', .int .i64 c']] w fun e w' => e = .returned (.tuple #[.int .i64 0, .int .i64 2]) ∧ Below w.heap.size w w' := by
  have HY := hide (Both.new w k n s b c k' n' s' b' c')
  have HB := hide (((Below.refl w.heap.size w).alloc (Nat.le_refl _) (.cells #[.int .i64 k, .int .i64 n, .string s, .bool b, .int .i64 c] 25)).alloc (by simp) (.cells #[.int .i64 k', .int .i64 n', .string s', .bool b', .int .i64 c'] 25))
  go_enter Tryd.func34, Tryd.ntmps34
  go_wp2_with fail
  refine (HR.out _).mono ?_
  rintro e w1 ⟨rfl, hb⟩
  have HY := hide (Both.below HY.out hb)
  have HB := hide (HB.out.trans (hb.mono HB.out.size))
  clear hb
  obtain ⟨⟨⟨la, a0, a1, a2, a3, a4⟩, f0, f1, f2, f3, f4⟩, ⟨⟨lb, b0, b1, b2, b3, b4⟩, g0, g1, g2, g3, g4⟩⟩ := HY.out
  go_wp2_with fail
  refine (HQ.out _).mono ?_
  rintro e w2 ⟨rfl, hb⟩
  have HY := hide (Both.below HY.out hb)
  have HB := hide (HB.out.trans (hb.mono HB.out.size))
  clear hb la a0 a1 a2 a3 a4 f0 f1 f2 f3 f4 lb b0 b1 b2 b3 b4 g0 g1 g2 g3 g4
  obtain ⟨⟨⟨la, a0, a1, a2, a3, a4⟩, f0, f1, f2, f3, f4⟩, ⟨⟨lb, b0, b1, b2, b3, b4⟩, g0, g1, g2, g3, g4⟩⟩ := HY.out
  go_wp2
  go_ret2
  exact ⟨rfl, HB.out⟩
set_option maxHeartbeats 1000000 in
theorem rcomp_f1 (k n : Int) (s : ByteArray) (b : Bool) (c : Int) (k' n' : Int) (s' : ByteArray) (b' : Bool) (c' : Int) (w : World) (h4 : k = 4) (HR : Hid (∀ W : World, Calls Tryd.prog 22 #[.agg #[.int .i64 k, .int .i64 n, .string s, .bool b, .int .i64 c]] W fun e w' => e = .returned (.bool true) ∧ Below W.heap.size W w')) (HQ : Hid (∀ W : World, Calls Tryd.prog 22 #[.agg #[.int .i64 k', .int .i64 n', .string s', .bool b', .int .i64 c']] W fun e w' => e = .returned (.bool true) ∧ Below W.heap.size W w')) :
    Calls Tryd.prog 34 #[.agg #[.int .i64 k, .int .i64 n, .string s, .bool b, .int .i64 c], .agg #[.int .i64 k', .int .i64 n', .string s', .bool b', .int .i64 c']] w fun e w' => e = .returned (.tuple #[.int .i64 0, .int .i64 c]) ∧ Below w.heap.size w w' := by
  subst h4
  have HY := hide (Both.new w 4 n s b c k' n' s' b' c')
  have HB := hide (((Below.refl w.heap.size w).alloc (Nat.le_refl _) (.cells #[.int .i64 4, .int .i64 n, .string s, .bool b, .int .i64 c] 25)).alloc (by simp) (.cells #[.int .i64 k', .int .i64 n', .string s', .bool b', .int .i64 c'] 25))
  go_enter Tryd.func34, Tryd.ntmps34
  go_wp2_with fail
  refine (HR.out _).mono ?_
  rintro e w1 ⟨rfl, hb⟩
  have HY := hide (Both.below HY.out hb)
  have HB := hide (HB.out.trans (hb.mono HB.out.size))
  clear hb
  obtain ⟨⟨⟨la, a0, a1, a2, a3, a4⟩, f0, f1, f2, f3, f4⟩, ⟨⟨lb, b0, b1, b2, b3, b4⟩, g0, g1, g2, g3, g4⟩⟩ := HY.out
  go_wp2_with fail
  refine (HQ.out _).mono ?_
  rintro e w2 ⟨rfl, hb⟩
  have HY := hide (Both.below HY.out hb)
  have HB := hide (HB.out.trans (hb.mono HB.out.size))
  clear hb la a0 a1 a2 a3 a4 f0 f1 f2 f3 f4 lb b0 b1 b2 b3 b4 g0 g1 g2 g3 g4
  obtain ⟨⟨⟨la, a0, a1, a2, a3, a4⟩, f0, f1, f2, f3, f4⟩, ⟨⟨lb, b0, b1, b2, b3, b4⟩, g0, g1, g2, g3, g4⟩⟩ := HY.out
  go_wp2
  go_quiet (fail)
  go_wp2
  go_ret2
  exact ⟨rfl, below_drewN HB.out _⟩
set_option maxHeartbeats 1000000 in
theorem rcomp_f2 (k n : Int) (s : ByteArray) (b : Bool) (c : Int) (k' n' : Int) (s' : ByteArray) (b' : Bool) (c' : Int) (w : World) (h4 : (k == 4) = false) (h5 : k' = 4) (HR : Hid (∀ W : World, Calls Tryd.prog 22 #[.agg #[.int .i64 k, .int .i64 n, .string s, .bool b, .int .i64 c]] W fun e w' => e = .returned (.bool true) ∧ Below W.heap.size W w')) (HQ : Hid (∀ W : World, Calls Tryd.prog 22 #[.agg #[.int .i64 k', .int .i64 n', .string s', .bool b', .int .i64 c']] W fun e w' => e = .returned (.bool true) ∧ Below W.heap.size W w')) :
    Calls Tryd.prog 34 #[.agg #[.int .i64 k, .int .i64 n, .string s, .bool b, .int .i64 c], .agg #[.int .i64 k', .int .i64 n', .string s', .bool b', .int .i64 c']] w fun e w' => e = .returned (.tuple #[.int .i64 0, .int .i64 c']) ∧ Below w.heap.size w w' := by
  subst h5
  have HY := hide (Both.new w k n s b c 4 n' s' b' c')
  have HB := hide (((Below.refl w.heap.size w).alloc (Nat.le_refl _) (.cells #[.int .i64 k, .int .i64 n, .string s, .bool b, .int .i64 c] 25)).alloc (by simp) (.cells #[.int .i64 4, .int .i64 n', .string s', .bool b', .int .i64 c'] 25))
  go_enter Tryd.func34, Tryd.ntmps34
  go_wp2_with fail
  refine (HR.out _).mono ?_
  rintro e w1 ⟨rfl, hb⟩
  have HY := hide (Both.below HY.out hb)
  have HB := hide (HB.out.trans (hb.mono HB.out.size))
  clear hb
  obtain ⟨⟨⟨la, a0, a1, a2, a3, a4⟩, f0, f1, f2, f3, f4⟩, ⟨⟨lb, b0, b1, b2, b3, b4⟩, g0, g1, g2, g3, g4⟩⟩ := HY.out
  go_wp2_with fail
  refine (HQ.out _).mono ?_
  rintro e w2 ⟨rfl, hb⟩
  have HY := hide (Both.below HY.out hb)
  have HB := hide (HB.out.trans (hb.mono HB.out.size))
  clear hb la a0 a1 a2 a3 a4 f0 f1 f2 f3 f4 lb b0 b1 b2 b3 b4 g0 g1 g2 g3 g4
  obtain ⟨⟨⟨la, a0, a1, a2, a3, a4⟩, f0, f1, f2, f3, f4⟩, ⟨⟨lb, b0, b1, b2, b3, b4⟩, g0, g1, g2, g3, g4⟩⟩ := HY.out
  go_wp2
  go_quiet (fail)
  go_wp2
  go_ret2
  exact ⟨rfl, below_drewN HB.out _⟩
set_option linter.unusedSimpArgs false in
set_option maxRecDepth 100000 in
set_option maxHeartbeats 8000000 in
theorem rcomp_1 (k n : Int) (s : ByteArray) (b : Bool) (c : Int) (k' n' : Int) (s' : ByteArray) (b' : Bool) (c' : Int) (w : World) (h4 : (k == 4) = false) (h5 : (k' == 4) = false) (hz : s.size ≤ maxLen) (hz' : s'.size ≤ maxLen) (HR : Hid (∀ W : World, Calls Tryd.prog 22 #[.agg #[.int .i64 k, .int .i64 n, .string s, .bool b, .int .i64 c]] W fun e w' => e = .returned (.bool true) ∧ Below W.heap.size W w')) (HQ : Hid (∀ W : World, Calls Tryd.prog 22 #[.agg #[.int .i64 k', .int .i64 n', .string s', .bool b', .int .i64 c']] W fun e w' => e = .returned (.bool true) ∧ Below W.heap.size W w')) (HF : Hid (∀ W : World, Calls Tryd.prog 57 #[.agg #[.int .i64 k, .int .i64 n, .string s, .bool b, .int .i64 c], .int .i64 k'] W fun e w' => e = .returned (.agg #[.int .i64 k, .int .i64 n, .string s, .bool b, .int .i64 c]) ∧ Below W.heap.size W w')) (HG : Hid (∀ W : World, Calls Tryd.prog 57 #[.agg #[.int .i64 k', .int .i64 n', .string s', .bool b', .int .i64 c'], .int .i64 k] W fun e w' => e = .returned (.agg #[.int .i64 k', .int .i64 n', .string s', .bool b', .int .i64 c']) ∧ Below W.heap.size W w')) :
    Calls Tryd.prog 34 #[.agg #[.int .i64 k, .int .i64 n, .string s, .bool b, .int .i64 c], .agg #[.int .i64 k', .int .i64 n', .string s', .bool b', .int .i64 c']] w fun e w' => e = .returned (.tuple #[.int .i64 (ordV k n s b k' n' s' b'), .int .i64 0]) ∧ Below w.heap.size w w' := by
  have HY := hide (Both.new w k n s b c k' n' s' b' c')
  have HB := hide (((Below.refl w.heap.size w).alloc (Nat.le_refl _) (.cells #[.int .i64 k, .int .i64 n, .string s, .bool b, .int .i64 c] 25)).alloc (by simp) (.cells #[.int .i64 k', .int .i64 n', .string s', .bool b', .int .i64 c'] 25))
  go_enter Tryd.func34, Tryd.ntmps34
  go_wp2_with fail
  refine (HR.out _).mono ?_
  rintro e w1 ⟨rfl, hb⟩
  have HY := hide (Both.below HY.out hb)
  have HB := hide (HB.out.trans (hb.mono HB.out.size))
  clear hb
  obtain ⟨⟨⟨la, a0, a1, a2, a3, a4⟩, f0, f1, f2, f3, f4⟩, ⟨⟨lb, b0, b1, b2, b3, b4⟩, g0, g1, g2, g3, g4⟩⟩ := HY.out
  go_wp2_with fail
  refine (HQ.out _).mono ?_
  rintro e w2 ⟨rfl, hb⟩
  have HY := hide (Both.below HY.out hb)
  have HB := hide (HB.out.trans (hb.mono HB.out.size))
  clear hb la a0 a1 a2 a3 a4 f0 f1 f2 f3 f4 lb b0 b1 b2 b3 b4 g0 g1 g2 g3 g4
  obtain ⟨⟨⟨la, a0, a1, a2, a3, a4⟩, f0, f1, f2, f3, f4⟩, ⟨⟨lb, b0, b1, b2, b3, b4⟩, g0, g1, g2, g3, g4⟩⟩ := HY.out
  go_wp2
  have hY := And.intro HY.out HB.out
  clear HY HB
  apply wp_cut0 (F := fun w' => Both w' w.heap.size (w.heap.size + 1) k n s b c k' n' s' b' c' ∧ Below w.heap.size w w')
  case hr =>
    replace hY := BB.drew hY
    refine wp_region_held_drew (S := fun w' => w'.cell? ⟨w.heap.size, 0, none⟩ = some (.int .i64 k) ∧ w'.cell? ⟨w.heap.size, 1, none⟩ = some (.int .i64 n) ∧ w'.cell? ⟨w.heap.size, 2, none⟩ = some (.string s) ∧ w'.cell? ⟨w.heap.size, 3, none⟩ = some (.bool b) ∧ w'.cell? ⟨w.heap.size, 4, none⟩ = some (.int .i64 c) ∧ w'.cell? ⟨(w.heap.size + 1), 0, none⟩ = some (.int .i64 k') ∧ w'.cell? ⟨(w.heap.size + 1), 1, none⟩ = some (.int .i64 n') ∧ w'.cell? ⟨(w.heap.size + 1), 2, none⟩ = some (.string s') ∧ w'.cell? ⟨(w.heap.size + 1), 3, none⟩ = some (.bool b') ∧ w'.cell? ⟨(w.heap.size + 1), 4, none⟩ = some (.int .i64 c') ∧ Below w.heap.size w w') (by kernel_rfl) ⟨hY.1.1.1.2.1, hY.1.1.1.2.2.1, hY.1.1.1.2.2.2.1, hY.1.1.1.2.2.2.2.1, hY.1.1.1.2.2.2.2.2, hY.1.2.1.2.1, hY.1.2.1.2.2.1, hY.1.2.1.2.2.2.1, hY.1.2.1.2.2.2.2.1, hY.1.2.1.2.2.2.2.2, hY.2⟩ (fun hHeld => ?_)
    (refine takeD (i := 0) (some 24) rfl rfl (by kernel_rfl) (by kernel_rfl) (by kernel_rfl) (fun _ _ _ h => h) (v := ?_) rfl ?_ (by assumption) ?_; rotate_left; (focus (intro w hSw; (try dsimp only at hSw); first | (go_simp; done) | (go_simp; with_reducible rfl))); try simp only [Act.put, List.setIfInBounds_toArray, List.set_cons_zero, List.set_cons_succ]); (refine takeD (i := 1) (some 25) rfl rfl (by kernel_rfl) (by kernel_rfl) (by kernel_rfl) (fun _ _ _ h => h) (v := ?_) rfl ?_ (by assumption) ?_; rotate_left; (focus (intro w hSw; (try dsimp only at hSw); first | (go_simp; done) | (go_simp; with_reducible rfl))); try simp only [Act.put, List.setIfInBounds_toArray, List.set_cons_zero, List.set_cons_succ]); (refine takeD (i := 2) (some 26) rfl rfl (by kernel_rfl) (by kernel_rfl) (by kernel_rfl) (fun _ _ _ h => h) (v := ?_) rfl ?_ (by assumption) ?_; rotate_left; (focus (intro w hSw; (try dsimp only at hSw); first | (go_simp; done) | (go_simp; with_reducible rfl))); try simp only [Act.put, List.setIfInBounds_toArray, List.set_cons_zero, List.set_cons_succ]); (refine takeD (i := 4) (some 28) rfl rfl (by kernel_rfl) (by kernel_rfl) (by kernel_rfl) (fun _ _ _ h => h) (v := ?_) rfl ?_ (by assumption) ?_; rotate_left; (focus (intro w hSw; (try dsimp only at hSw); first | (go_simp; done) | (go_simp; with_reducible rfl))); try simp only [Act.put, List.setIfInBounds_toArray, List.set_cons_zero, List.set_cons_succ]); (refine takeD (i := 5) (some 29) rfl rfl (by kernel_rfl) (by kernel_rfl) (by kernel_rfl) (fun _ _ _ h => h) (v := ?_) rfl ?_ (by assumption) ?_; rotate_left; (focus (intro w hSw; (try dsimp only at hSw); first | (go_simp; done) | (go_simp; with_reducible rfl))); try simp only [Act.put, List.setIfInBounds_toArray, List.set_cons_zero, List.set_cons_succ]); (refine takeD (i := 6) (some 30) rfl rfl (by kernel_rfl) (by kernel_rfl) (by kernel_rfl) (fun _ _ _ h => h) (v := ?_) rfl ?_ (by assumption) ?_; rotate_left; (focus (intro w hSw; (try dsimp only at hSw); first | (go_simp; done) | (go_simp; with_reducible rfl))); try simp only [Act.put, List.setIfInBounds_toArray, List.set_cons_zero, List.set_cons_succ]); (refine wpAnyH_ready (rs := [3]) (by kernel_rfl) (by simp) ?_; refine AllReadyH.cons (o := _) rfl (fun K hK => ?_) AllReadyH.nil; go_simp; (go_at_call 57; refine (HF.out _).mono ?_; rintro e w3 ⟨rfl, hb3⟩; have hY := BB.below hY hb3; obtain ⟨⟨⟨⟨la, a0, a1, a2, a3, a4⟩, f0, f1, f2, f3, f4⟩, ⟨⟨lb, b0, b1, b2, b3, b4⟩, g0, g1, g2, g3, g4⟩⟩, _⟩ := id hY); refine hK.out _ _ ⟨hY.1.1.1.2.1, hY.1.1.1.2.2.1, hY.1.1.1.2.2.2.1, hY.1.1.1.2.2.2.2.1, hY.1.1.1.2.2.2.2.2, hY.1.2.1.2.1, hY.1.2.1.2.2.1, hY.1.2.1.2.2.2.1, hY.1.2.1.2.2.2.2.1, hY.1.2.1.2.2.2.2.2, hY.2⟩ (fun hHeld => ?_); clear hK K; try simp only [Act.put, List.setIfInBounds_toArray, List.set_cons_zero, List.set_cons_succ]); (refine wpAnyH_ready (rs := [7]) (by kernel_rfl) (by simp) ?_; refine AllReadyH.cons (o := _) rfl (fun K hK => ?_) AllReadyH.nil; go_simp; (go_at_call 57; refine (HG.out _).mono ?_; rintro e w3 ⟨rfl, hb3⟩; have hY := BB.below hY hb3; obtain ⟨⟨⟨⟨la, a0, a1, a2, a3, a4⟩, f0, f1, f2, f3, f4⟩, ⟨⟨lb, b0, b1, b2, b3, b4⟩, g0, g1, g2, g3, g4⟩⟩, _⟩ := id hY); refine hK.out _ _ ⟨hY.1.1.1.2.1, hY.1.1.1.2.2.1, hY.1.1.1.2.2.2.1, hY.1.1.1.2.2.2.2.1, hY.1.1.1.2.2.2.2.2, hY.1.2.1.2.1, hY.1.2.1.2.2.1, hY.1.2.1.2.2.2.1, hY.1.2.1.2.2.2.2.1, hY.1.2.1.2.2.2.2.2, hY.2⟩ (fun hHeld => ?_); clear hK K; try simp only [Act.put, List.setIfInBounds_toArray, List.set_cons_zero, List.set_cons_succ]); (refine wpAnyH_ready (rs := [8]) (by kernel_rfl) (by simp) ?_; refine AllReadyH.cons (o := _) rfl (fun K hK => ?_) AllReadyH.nil; go_simp; (clear la a0 a1 a2 a3 a4 f0 f1 f2 f3 f4 lb b0 b1 b2 b3 b4 g0 g1 g2 g3 g4; have hY := BB.setP hY (by omega) (Nat.le_refl _) k n s b c; obtain ⟨⟨⟨⟨la, a0, a1, a2, a3, a4⟩, f0, f1, f2, f3, f4⟩, ⟨⟨lb, b0, b1, b2, b3, b4⟩, g0, g1, g2, g3, g4⟩⟩, _⟩ := id hY); refine hK.out _ _ ⟨hY.1.1.1.2.1, hY.1.1.1.2.2.1, hY.1.1.1.2.2.2.1, hY.1.1.1.2.2.2.2.1, hY.1.1.1.2.2.2.2.2, hY.1.2.1.2.1, hY.1.2.1.2.2.1, hY.1.2.1.2.2.2.1, hY.1.2.1.2.2.2.2.1, hY.1.2.1.2.2.2.2.2, hY.2⟩ (fun hHeld => ?_); clear hK K; try simp only [Act.put, List.setIfInBounds_toArray, List.set_cons_zero, List.set_cons_succ]); (refine wpAnyH_ready (rs := [9]) (by kernel_rfl) (by simp) ?_; refine AllReadyH.cons (o := _) rfl (fun K hK => ?_) AllReadyH.nil; go_simp; (clear la a0 a1 a2 a3 a4 f0 f1 f2 f3 f4 lb b0 b1 b2 b3 b4 g0 g1 g2 g3 g4; have hY := BB.setQ hY (by omega) (show w.heap.size ≤ w.heap.size + 1 by omega) k' n' s' b' c'); refine hK.out _ _ ⟨hY.1.1.1.2.1, hY.1.1.1.2.2.1, hY.1.1.1.2.2.2.1, hY.1.1.1.2.2.2.2.1, hY.1.1.1.2.2.2.2.2, hY.1.2.1.2.1, hY.1.2.1.2.2.1, hY.1.2.1.2.2.2.1, hY.1.2.1.2.2.2.2.1, hY.1.2.1.2.2.2.2.2, hY.2⟩ (fun hHeld => ?_); clear hK K; try simp only [Act.put, List.setIfInBounds_toArray, List.set_cons_zero, List.set_cons_succ]); refine wpAnyH_done (by kernel_rfl) ?_ _; exact ⟨rfl, hY⟩
  case hk =>
    clear la a0 a1 a2 a3 a4 f0 f1 f2 f3 f4 lb b0 b1 b2 b3 b4 g0 g1 g2 g3 g4 hY
    rintro w' ⟨⟨⟨⟨la, a0, a1, a2, a3, a4⟩, f0, f1, f2, f3, f4⟩, ⟨⟨lb, b0, b1, b2, b3, b4⟩, g0, g1, g2, g3, g4⟩⟩, hB⟩
    have HZ := hide hB
    clear hB
    by_cases e : k = k'
    case neg =>
      have t : (k != k') = true := by simpa using e
      have HX : Hid (ordV k n s b k' n' s' b' = signR (decide (k < k')) (decide (k' < k))) := by show _ = _; rw [show ordV k n s b k' n' s' b' = cmpI k k' by simp [ordV, e]]; exact cmpI_sign _ _
      clear e
      go_wp2_with (go_at_call 58; refine (sign_any _ _ _).mono ?_; rintro e w9 ⟨rfl, rfl⟩)
      go_ret2
      exact ⟨by rw [HX.out]; rfl, HZ.out⟩
    subst e
    by_cases c1 : k = 1
    · subst c1
      have HX : Hid (ordV 1 n s b 1 n' s' b' = signR (decide (n < n')) (decide (n' < n))) := by show _ = _; rw [show ordV 1 n s b 1 n' s' b' = cmpI n n' by simp [ordV]]; exact cmpI_sign _ _
      go_wp2_with (go_at_call 58; refine (sign_any _ _ _).mono ?_; rintro e w9 ⟨rfl, rfl⟩)
      go_ret2
      exact ⟨by rw [HX.out]; rfl, HZ.out⟩
    · by_cases c2 : k = 2
      · subst c2
        have hX : ordV 2 n s b 2 n' s' b' = cmpL (foldL s.data.toList) (foldL s'.data.toList) := by simp [ordV]
        have HD : Hid (∀ W : World, Calls Tryd.prog 42 #[.string s] W fun e w' => e = .returned (.string ⟨(foldL s.data.toList).toArray⟩) ∧ Below W.heap.size W w') := fun W => rfold_any s W hz
        have HG2 : Hid (∀ W : World, Calls Tryd.prog 42 #[.string s'] W fun e w' => e = .returned (.string ⟨(foldL s'.data.toList).toArray⟩) ∧ Below W.heap.size W w') := fun W => rfold_any s' W hz'
        have hT := list_ba (foldL s.data.toList)
        have hU := list_ba (foldL s'.data.toList)
        have hN : (⟨(foldL s.data.toList).toArray⟩ : ByteArray).size ≤ maxLen := by
          show (foldL s.data.toList).toArray.size ≤ maxLen
          rw [List.size_toArray, foldL_len]
          exact hz
        generalize (⟨(foldL s.data.toList).toArray⟩ : ByteArray) = T at *
        generalize (⟨(foldL s'.data.toList).toArray⟩ : ByteArray) = U at *
        have HM : Hid (∀ W : World, Calls Tryd.prog 59 #[.string T, .string U] W fun e w' => e = .returned (.int .i64 (cmpL T.toList U.toList)) ∧ Below W.heap.size W w') := fun W => bytes_any T U W hN
        rw [← hT, ← hU] at hX
        have HX := hide hX
        clear hT hU hN hX
        have HS := hide (And.intro a2 (And.intro b2 (And.intro la (And.intro lb HZ.out))))
        go_wp2
        go_region_held3 (fun w'' => w''.cell? ⟨w.heap.size, 2, none⟩ = some (.string s) ∧ w''.cell? ⟨w.heap.size + 1, 2, none⟩ = some (.string s') ∧ w.heap.size < w''.heap.size ∧ w.heap.size + 1 < w''.heap.size ∧ Below w.heap.size w w'') (first | exact HS.out | assumption | exact TwoS.drew (by assumption)) (first | (go_at_call_of 42 [Value.string s]; refine (HD.out _).mono ?_; rintro e w2 ⟨rfl, hb2⟩; have hs2 := TwoS.below (by assumption) hb2) | (go_at_call_of 42 [Value.string s']; refine (HG2.out _).mono ?_; rintro e w2 ⟨rfl, hb2⟩; have hs2 := TwoS.below (by assumption) hb2) | (go_at_call 59; refine (HM.out _).mono ?_; rintro e w2 ⟨rfl, hb2⟩; have hs2 := TwoS.below (by assumption) hb2))
        all_goals go_wp2
        all_goals go_ret2
        all_goals exact ⟨by rw [HX.out]; rfl, TwoS.out (by assumption)⟩
      · by_cases c3 : k = 3
        · subst c3
          cases b <;> cases b'
          all_goals
            go_wp2_with (go_at_call 58; refine (sign_any _ _ _).mono ?_; rintro e w9 ⟨rfl, rfl⟩)
            go_ret2
            exact ⟨rfl, HZ.out⟩
        · have HX : Hid (ordV k n s b k n' s' b' = 0) := by show _ = _; simp [ordV, c1, c2, c3]
          have t1 : (k == 1) = false := by simpa using c1
          have t2 : (k == 2) = false := by simpa using c2
          have t3 : (k == 3) = false := by simpa using c3
          clear c1 c2 c3
          go_wp2
          go_ret2
          exact ⟨by rw [HX.out]; rfl, HZ.out⟩
set_option linter.unusedSimpArgs false in
set_option maxRecDepth 100000 in
set_option maxHeartbeats 8000000 in
theorem rcomp_2 (k' n' : Int) (s' : ByteArray) (b' : Bool) (c' : Int) (w : World) (h5 : (k' == 4) = false) (hz' : s'.size ≤ maxLen) (HR : Hid (∀ W : World, Calls Tryd.prog 22 #[.agg #[.int .i64 0, .int .i64 0, .string ⟨#[]⟩, .bool false, .int .i64 0]] W fun e w' => e = .returned (.bool true) ∧ Below W.heap.size W w')) (HQ : Hid (∀ W : World, Calls Tryd.prog 22 #[.agg #[.int .i64 k', .int .i64 n', .string s', .bool b', .int .i64 c']] W fun e w' => e = .returned (.bool true) ∧ Below W.heap.size W w')) (HF : Hid (∀ W : World, Calls Tryd.prog 57 #[.agg #[.int .i64 0, .int .i64 0, .string ⟨#[]⟩, .bool false, .int .i64 0], .int .i64 k'] W fun e w' => e = .returned (.agg #[.int .i64 k', .int .i64 0, .string ⟨#[]⟩, .bool false, .int .i64 0]) ∧ Below W.heap.size W w')) (HG : Hid (∀ W : World, Calls Tryd.prog 57 #[.agg #[.int .i64 k', .int .i64 n', .string s', .bool b', .int .i64 c'], .int .i64 0] W fun e w' => e = .returned (.agg #[.int .i64 k', .int .i64 n', .string s', .bool b', .int .i64 c']) ∧ Below W.heap.size W w')) :
    Calls Tryd.prog 34 #[.agg #[.int .i64 0, .int .i64 0, .string ⟨#[]⟩, .bool false, .int .i64 0], .agg #[.int .i64 k', .int .i64 n', .string s', .bool b', .int .i64 c']] w fun e w' => e = .returned (.tuple #[.int .i64 (ordV k' 0 ⟨#[]⟩ false k' n' s' b'), .int .i64 0]) ∧ Below w.heap.size w w' := by
  have HY := hide (Both.new w 0 0 ⟨#[]⟩ false 0 k' n' s' b' c')
  have HB := hide (((Below.refl w.heap.size w).alloc (Nat.le_refl _) (.cells #[.int .i64 0, .int .i64 0, .string ⟨#[]⟩, .bool false, .int .i64 0] 25)).alloc (by simp) (.cells #[.int .i64 k', .int .i64 n', .string s', .bool b', .int .i64 c'] 25))
  go_enter Tryd.func34, Tryd.ntmps34
  go_wp2_with fail
  refine (HR.out _).mono ?_
  rintro e w1 ⟨rfl, hb⟩
  have HY := hide (Both.below HY.out hb)
  have HB := hide (HB.out.trans (hb.mono HB.out.size))
  clear hb
  obtain ⟨⟨⟨la, a0, a1, a2, a3, a4⟩, f0, f1, f2, f3, f4⟩, ⟨⟨lb, b0, b1, b2, b3, b4⟩, g0, g1, g2, g3, g4⟩⟩ := HY.out
  go_wp2_with fail
  refine (HQ.out _).mono ?_
  rintro e w2 ⟨rfl, hb⟩
  have HY := hide (Both.below HY.out hb)
  have HB := hide (HB.out.trans (hb.mono HB.out.size))
  clear hb la a0 a1 a2 a3 a4 f0 f1 f2 f3 f4 lb b0 b1 b2 b3 b4 g0 g1 g2 g3 g4
  obtain ⟨⟨⟨la, a0, a1, a2, a3, a4⟩, f0, f1, f2, f3, f4⟩, ⟨⟨lb, b0, b1, b2, b3, b4⟩, g0, g1, g2, g3, g4⟩⟩ := HY.out
  go_wp2
  have hY := And.intro HY.out HB.out
  clear HY HB
  apply wp_cut0 (F := fun w' => Both w' w.heap.size (w.heap.size + 1) k' 0 ⟨#[]⟩ false 0 k' n' s' b' c' ∧ Below w.heap.size w w')
  case hr =>
    replace hY := BB.drew hY
    refine wp_region_held_drew (S := fun w' => w'.cell? ⟨w.heap.size, 1, none⟩ = some (.int .i64 0) ∧ w'.cell? ⟨w.heap.size, 2, none⟩ = some (.string ⟨#[]⟩) ∧ w'.cell? ⟨w.heap.size, 3, none⟩ = some (.bool false) ∧ w'.cell? ⟨w.heap.size, 4, none⟩ = some (.int .i64 0) ∧ w'.cell? ⟨(w.heap.size + 1), 0, none⟩ = some (.int .i64 k') ∧ w'.cell? ⟨(w.heap.size + 1), 1, none⟩ = some (.int .i64 n') ∧ w'.cell? ⟨(w.heap.size + 1), 2, none⟩ = some (.string s') ∧ w'.cell? ⟨(w.heap.size + 1), 3, none⟩ = some (.bool b') ∧ w'.cell? ⟨(w.heap.size + 1), 4, none⟩ = some (.int .i64 c') ∧ Below w.heap.size w w') (by kernel_rfl) ⟨hY.1.1.1.2.2.1, hY.1.1.1.2.2.2.1, hY.1.1.1.2.2.2.2.1, hY.1.1.1.2.2.2.2.2, hY.1.2.1.2.1, hY.1.2.1.2.2.1, hY.1.2.1.2.2.2.1, hY.1.2.1.2.2.2.2.1, hY.1.2.1.2.2.2.2.2, hY.2⟩ (fun hHeld => ?_)
    (refine takeD (i := 1) (some 25) rfl rfl (by kernel_rfl) (by kernel_rfl) (by kernel_rfl) (fun _ _ _ h => h) (v := ?_) rfl ?_ (by assumption) ?_; rotate_left; (focus (intro w hSw; (try dsimp only at hSw); first | (go_simp; done) | (go_simp; with_reducible rfl))); try simp only [Act.put, List.setIfInBounds_toArray, List.set_cons_zero, List.set_cons_succ]); (refine takeD (i := 2) (some 26) rfl rfl (by kernel_rfl) (by kernel_rfl) (by kernel_rfl) (fun _ _ _ h => h) (v := ?_) rfl ?_ (by assumption) ?_; rotate_left; (focus (intro w hSw; (try dsimp only at hSw); first | (go_simp; done) | (go_simp; with_reducible rfl))); try simp only [Act.put, List.setIfInBounds_toArray, List.set_cons_zero, List.set_cons_succ]); (refine takeD (i := 4) (some 28) rfl rfl (by kernel_rfl) (by kernel_rfl) (by kernel_rfl) (fun _ _ _ h => h) (v := ?_) rfl ?_ (by assumption) ?_; rotate_left; (focus (intro w hSw; (try dsimp only at hSw); first | (go_simp; done) | (go_simp; with_reducible rfl))); try simp only [Act.put, List.setIfInBounds_toArray, List.set_cons_zero, List.set_cons_succ]); (refine takeD (i := 5) (some 29) rfl rfl (by kernel_rfl) (by kernel_rfl) (by kernel_rfl) (fun _ _ _ h => h) (v := ?_) rfl ?_ (by assumption) ?_; rotate_left; (focus (intro w hSw; (try dsimp only at hSw); first | (go_simp; done) | (go_simp; with_reducible rfl))); try simp only [Act.put, List.setIfInBounds_toArray, List.set_cons_zero, List.set_cons_succ]); refine wpAnyH_ready (rs := [0, 6]) (by kernel_rfl) (by simp) ?_; refine AllReadyH.cons (o := _) rfl (fun K hK => ?_) (AllReadyH.cons (o := _) rfl (fun K hK => ?_) AllReadyH.nil)
    · (go_simp; refine hK.out _ _ hHeld (fun hHeld => ?_); clear hK K; try simp only [Act.put, List.setIfInBounds_toArray, List.set_cons_zero, List.set_cons_succ])
      refine wpAnyH_ready (rs := [3, 6]) (by kernel_rfl) (by simp) ?_; refine AllReadyH.cons (o := _) rfl (fun K hK => ?_) (AllReadyH.cons (o := _) rfl (fun K hK => ?_) AllReadyH.nil)
      · (go_simp; (go_at_call 57; refine (HF.out _).mono ?_; rintro e w3 ⟨rfl, hb3⟩; have hY := BB.below hY hb3; obtain ⟨⟨⟨⟨la, a0, a1, a2, a3, a4⟩, f0, f1, f2, f3, f4⟩, ⟨⟨lb, b0, b1, b2, b3, b4⟩, g0, g1, g2, g3, g4⟩⟩, _⟩ := id hY); refine hK.out _ _ ⟨hY.1.1.1.2.2.1, hY.1.1.1.2.2.2.1, hY.1.1.1.2.2.2.2.1, hY.1.1.1.2.2.2.2.2, hY.1.2.1.2.1, hY.1.2.1.2.2.1, hY.1.2.1.2.2.2.1, hY.1.2.1.2.2.2.2.1, hY.1.2.1.2.2.2.2.2, hY.2⟩ (fun hHeld => ?_); clear hK K; try simp only [Act.put, List.setIfInBounds_toArray, List.set_cons_zero, List.set_cons_succ]); (refine wpAnyH_ready (rs := [6]) (by kernel_rfl) (by simp) ?_; refine AllReadyH.cons (o := _) rfl (fun K hK => ?_) AllReadyH.nil; go_simp; skip; refine hK.out _ _ hHeld (fun hHeld => ?_); clear hK K; try simp only [Act.put, List.setIfInBounds_toArray, List.set_cons_zero, List.set_cons_succ]); (refine wpAnyH_ready (rs := [7]) (by kernel_rfl) (by simp) ?_; refine AllReadyH.cons (o := _) rfl (fun K hK => ?_) AllReadyH.nil; go_simp; (go_at_call 57; refine (HG.out _).mono ?_; rintro e w3 ⟨rfl, hb3⟩; have hY := BB.below hY hb3; obtain ⟨⟨⟨⟨la, a0, a1, a2, a3, a4⟩, f0, f1, f2, f3, f4⟩, ⟨⟨lb, b0, b1, b2, b3, b4⟩, g0, g1, g2, g3, g4⟩⟩, _⟩ := id hY); refine hK.out _ _ ⟨hY.1.1.1.2.2.1, hY.1.1.1.2.2.2.1, hY.1.1.1.2.2.2.2.1, hY.1.1.1.2.2.2.2.2, hY.1.2.1.2.1, hY.1.2.1.2.2.1, hY.1.2.1.2.2.2.1, hY.1.2.1.2.2.2.2.1, hY.1.2.1.2.2.2.2.2, hY.2⟩ (fun hHeld => ?_); clear hK K; try simp only [Act.put, List.setIfInBounds_toArray, List.set_cons_zero, List.set_cons_succ]); (refine wpAnyH_ready (rs := [8]) (by kernel_rfl) (by simp) ?_; refine AllReadyH.cons (o := _) rfl (fun K hK => ?_) AllReadyH.nil; go_simp; (clear la a0 a1 a2 a3 a4 f0 f1 f2 f3 f4 lb b0 b1 b2 b3 b4 g0 g1 g2 g3 g4; have hY := BB.setP hY (by omega) (Nat.le_refl _) k' 0 ⟨#[]⟩ false 0; obtain ⟨⟨⟨⟨la, a0, a1, a2, a3, a4⟩, f0, f1, f2, f3, f4⟩, ⟨⟨lb, b0, b1, b2, b3, b4⟩, g0, g1, g2, g3, g4⟩⟩, _⟩ := id hY); refine hK.out _ _ ⟨hY.1.1.1.2.2.1, hY.1.1.1.2.2.2.1, hY.1.1.1.2.2.2.2.1, hY.1.1.1.2.2.2.2.2, hY.1.2.1.2.1, hY.1.2.1.2.2.1, hY.1.2.1.2.2.2.1, hY.1.2.1.2.2.2.2.1, hY.1.2.1.2.2.2.2.2, hY.2⟩ (fun hHeld => ?_); clear hK K; try simp only [Act.put, List.setIfInBounds_toArray, List.set_cons_zero, List.set_cons_succ]); (refine wpAnyH_ready (rs := [9]) (by kernel_rfl) (by simp) ?_; refine AllReadyH.cons (o := _) rfl (fun K hK => ?_) AllReadyH.nil; go_simp; (clear la a0 a1 a2 a3 a4 f0 f1 f2 f3 f4 lb b0 b1 b2 b3 b4 g0 g1 g2 g3 g4; have hY := BB.setQ hY (by omega) (show w.heap.size ≤ w.heap.size + 1 by omega) k' n' s' b' c'); refine hK.out _ _ ⟨hY.1.1.1.2.2.1, hY.1.1.1.2.2.2.1, hY.1.1.1.2.2.2.2.1, hY.1.1.1.2.2.2.2.2, hY.1.2.1.2.1, hY.1.2.1.2.2.1, hY.1.2.1.2.2.2.1, hY.1.2.1.2.2.2.2.1, hY.1.2.1.2.2.2.2.2, hY.2⟩ (fun hHeld => ?_); clear hK K; try simp only [Act.put, List.setIfInBounds_toArray, List.set_cons_zero, List.set_cons_succ]); refine wpAnyH_done (by kernel_rfl) ?_ _; exact ⟨rfl, hY⟩
      · (go_simp; refine hK.out _ _ hHeld (fun hHeld => ?_); clear hK K; try simp only [Act.put, List.setIfInBounds_toArray, List.set_cons_zero, List.set_cons_succ]); (refine wpAnyH_ready (rs := [3]) (by kernel_rfl) (by simp) ?_; refine AllReadyH.cons (o := _) rfl (fun K hK => ?_) AllReadyH.nil; go_simp; (go_at_call 57; refine (HF.out _).mono ?_; rintro e w3 ⟨rfl, hb3⟩; have hY := BB.below hY hb3; obtain ⟨⟨⟨⟨la, a0, a1, a2, a3, a4⟩, f0, f1, f2, f3, f4⟩, ⟨⟨lb, b0, b1, b2, b3, b4⟩, g0, g1, g2, g3, g4⟩⟩, _⟩ := id hY); refine hK.out _ _ ⟨hY.1.1.1.2.2.1, hY.1.1.1.2.2.2.1, hY.1.1.1.2.2.2.2.1, hY.1.1.1.2.2.2.2.2, hY.1.2.1.2.1, hY.1.2.1.2.2.1, hY.1.2.1.2.2.2.1, hY.1.2.1.2.2.2.2.1, hY.1.2.1.2.2.2.2.2, hY.2⟩ (fun hHeld => ?_); clear hK K; try simp only [Act.put, List.setIfInBounds_toArray, List.set_cons_zero, List.set_cons_succ]); (refine wpAnyH_ready (rs := [7]) (by kernel_rfl) (by simp) ?_; refine AllReadyH.cons (o := _) rfl (fun K hK => ?_) AllReadyH.nil; go_simp; (go_at_call 57; refine (HG.out _).mono ?_; rintro e w3 ⟨rfl, hb3⟩; have hY := BB.below hY hb3; obtain ⟨⟨⟨⟨la, a0, a1, a2, a3, a4⟩, f0, f1, f2, f3, f4⟩, ⟨⟨lb, b0, b1, b2, b3, b4⟩, g0, g1, g2, g3, g4⟩⟩, _⟩ := id hY); refine hK.out _ _ ⟨hY.1.1.1.2.2.1, hY.1.1.1.2.2.2.1, hY.1.1.1.2.2.2.2.1, hY.1.1.1.2.2.2.2.2, hY.1.2.1.2.1, hY.1.2.1.2.2.1, hY.1.2.1.2.2.2.1, hY.1.2.1.2.2.2.2.1, hY.1.2.1.2.2.2.2.2, hY.2⟩ (fun hHeld => ?_); clear hK K; try simp only [Act.put, List.setIfInBounds_toArray, List.set_cons_zero, List.set_cons_succ]); (refine wpAnyH_ready (rs := [8]) (by kernel_rfl) (by simp) ?_; refine AllReadyH.cons (o := _) rfl (fun K hK => ?_) AllReadyH.nil; go_simp; (clear la a0 a1 a2 a3 a4 f0 f1 f2 f3 f4 lb b0 b1 b2 b3 b4 g0 g1 g2 g3 g4; have hY := BB.setP hY (by omega) (Nat.le_refl _) k' 0 ⟨#[]⟩ false 0; obtain ⟨⟨⟨⟨la, a0, a1, a2, a3, a4⟩, f0, f1, f2, f3, f4⟩, ⟨⟨lb, b0, b1, b2, b3, b4⟩, g0, g1, g2, g3, g4⟩⟩, _⟩ := id hY); refine hK.out _ _ ⟨hY.1.1.1.2.2.1, hY.1.1.1.2.2.2.1, hY.1.1.1.2.2.2.2.1, hY.1.1.1.2.2.2.2.2, hY.1.2.1.2.1, hY.1.2.1.2.2.1, hY.1.2.1.2.2.2.1, hY.1.2.1.2.2.2.2.1, hY.1.2.1.2.2.2.2.2, hY.2⟩ (fun hHeld => ?_); clear hK K; try simp only [Act.put, List.setIfInBounds_toArray, List.set_cons_zero, List.set_cons_succ]); (refine wpAnyH_ready (rs := [9]) (by kernel_rfl) (by simp) ?_; refine AllReadyH.cons (o := _) rfl (fun K hK => ?_) AllReadyH.nil; go_simp; (clear la a0 a1 a2 a3 a4 f0 f1 f2 f3 f4 lb b0 b1 b2 b3 b4 g0 g1 g2 g3 g4; have hY := BB.setQ hY (by omega) (show w.heap.size ≤ w.heap.size + 1 by omega) k' n' s' b' c'); refine hK.out _ _ ⟨hY.1.1.1.2.2.1, hY.1.1.1.2.2.2.1, hY.1.1.1.2.2.2.2.1, hY.1.1.1.2.2.2.2.2, hY.1.2.1.2.1, hY.1.2.1.2.2.1, hY.1.2.1.2.2.2.1, hY.1.2.1.2.2.2.2.1, hY.1.2.1.2.2.2.2.2, hY.2⟩ (fun hHeld => ?_); clear hK K; try simp only [Act.put, List.setIfInBounds_toArray, List.set_cons_zero, List.set_cons_succ]); refine wpAnyH_done (by kernel_rfl) ?_ _; exact ⟨rfl, hY⟩
    · (go_simp; refine hK.out _ _ hHeld (fun hHeld => ?_); clear hK K; try simp only [Act.put, List.setIfInBounds_toArray, List.set_cons_zero, List.set_cons_succ]); (refine wpAnyH_ready (rs := [0]) (by kernel_rfl) (by simp) ?_; refine AllReadyH.cons (o := _) rfl (fun K hK => ?_) AllReadyH.nil; go_simp; skip; refine hK.out _ _ hHeld (fun hHeld => ?_); clear hK K; try simp only [Act.put, List.setIfInBounds_toArray, List.set_cons_zero, List.set_cons_succ]); (refine wpAnyH_ready (rs := [3]) (by kernel_rfl) (by simp) ?_; refine AllReadyH.cons (o := _) rfl (fun K hK => ?_) AllReadyH.nil; go_simp; (go_at_call 57; refine (HF.out _).mono ?_; rintro e w3 ⟨rfl, hb3⟩; have hY := BB.below hY hb3; obtain ⟨⟨⟨⟨la, a0, a1, a2, a3, a4⟩, f0, f1, f2, f3, f4⟩, ⟨⟨lb, b0, b1, b2, b3, b4⟩, g0, g1, g2, g3, g4⟩⟩, _⟩ := id hY); refine hK.out _ _ ⟨hY.1.1.1.2.2.1, hY.1.1.1.2.2.2.1, hY.1.1.1.2.2.2.2.1, hY.1.1.1.2.2.2.2.2, hY.1.2.1.2.1, hY.1.2.1.2.2.1, hY.1.2.1.2.2.2.1, hY.1.2.1.2.2.2.2.1, hY.1.2.1.2.2.2.2.2, hY.2⟩ (fun hHeld => ?_); clear hK K; try simp only [Act.put, List.setIfInBounds_toArray, List.set_cons_zero, List.set_cons_succ]); (refine wpAnyH_ready (rs := [7]) (by kernel_rfl) (by simp) ?_; refine AllReadyH.cons (o := _) rfl (fun K hK => ?_) AllReadyH.nil; go_simp; (go_at_call 57; refine (HG.out _).mono ?_; rintro e w3 ⟨rfl, hb3⟩; have hY := BB.below hY hb3; obtain ⟨⟨⟨⟨la, a0, a1, a2, a3, a4⟩, f0, f1, f2, f3, f4⟩, ⟨⟨lb, b0, b1, b2, b3, b4⟩, g0, g1, g2, g3, g4⟩⟩, _⟩ := id hY); refine hK.out _ _ ⟨hY.1.1.1.2.2.1, hY.1.1.1.2.2.2.1, hY.1.1.1.2.2.2.2.1, hY.1.1.1.2.2.2.2.2, hY.1.2.1.2.1, hY.1.2.1.2.2.1, hY.1.2.1.2.2.2.1, hY.1.2.1.2.2.2.2.1, hY.1.2.1.2.2.2.2.2, hY.2⟩ (fun hHeld => ?_); clear hK K; try simp only [Act.put, List.setIfInBounds_toArray, List.set_cons_zero, List.set_cons_succ]); (refine wpAnyH_ready (rs := [8]) (by kernel_rfl) (by simp) ?_; refine AllReadyH.cons (o := _) rfl (fun K hK => ?_) AllReadyH.nil; go_simp; (clear la a0 a1 a2 a3 a4 f0 f1 f2 f3 f4 lb b0 b1 b2 b3 b4 g0 g1 g2 g3 g4; have hY := BB.setP hY (by omega) (Nat.le_refl _) k' 0 ⟨#[]⟩ false 0; obtain ⟨⟨⟨⟨la, a0, a1, a2, a3, a4⟩, f0, f1, f2, f3, f4⟩, ⟨⟨lb, b0, b1, b2, b3, b4⟩, g0, g1, g2, g3, g4⟩⟩, _⟩ := id hY); refine hK.out _ _ ⟨hY.1.1.1.2.2.1, hY.1.1.1.2.2.2.1, hY.1.1.1.2.2.2.2.1, hY.1.1.1.2.2.2.2.2, hY.1.2.1.2.1, hY.1.2.1.2.2.1, hY.1.2.1.2.2.2.1, hY.1.2.1.2.2.2.2.1, hY.1.2.1.2.2.2.2.2, hY.2⟩ (fun hHeld => ?_); clear hK K; try simp only [Act.put, List.setIfInBounds_toArray, List.set_cons_zero, List.set_cons_succ]); (refine wpAnyH_ready (rs := [9]) (by kernel_rfl) (by simp) ?_; refine AllReadyH.cons (o := _) rfl (fun K hK => ?_) AllReadyH.nil; go_simp; (clear la a0 a1 a2 a3 a4 f0 f1 f2 f3 f4 lb b0 b1 b2 b3 b4 g0 g1 g2 g3 g4; have hY := BB.setQ hY (by omega) (show w.heap.size ≤ w.heap.size + 1 by omega) k' n' s' b' c'); refine hK.out _ _ ⟨hY.1.1.1.2.2.1, hY.1.1.1.2.2.2.1, hY.1.1.1.2.2.2.2.1, hY.1.1.1.2.2.2.2.2, hY.1.2.1.2.1, hY.1.2.1.2.2.1, hY.1.2.1.2.2.2.1, hY.1.2.1.2.2.2.2.1, hY.1.2.1.2.2.2.2.2, hY.2⟩ (fun hHeld => ?_); clear hK K; try simp only [Act.put, List.setIfInBounds_toArray, List.set_cons_zero, List.set_cons_succ]); refine wpAnyH_done (by kernel_rfl) ?_ _; exact ⟨rfl, hY⟩
  case hk =>
    clear la a0 a1 a2 a3 a4 f0 f1 f2 f3 f4 lb b0 b1 b2 b3 b4 g0 g1 g2 g3 g4 hY
    rintro w' ⟨⟨⟨⟨la, a0, a1, a2, a3, a4⟩, f0, f1, f2, f3, f4⟩, ⟨⟨lb, b0, b1, b2, b3, b4⟩, g0, g1, g2, g3, g4⟩⟩, hB⟩
    have HZ := hide hB
    clear hB
    by_cases c1 : k' = 1
    · subst c1
      have HX : Hid (ordV 1 0 ⟨#[]⟩ false 1 n' s' b' = signR (decide (0 < n')) (decide (n' < 0))) := by show _ = _; rw [show ordV 1 0 ⟨#[]⟩ false 1 n' s' b' = cmpI 0 n' by simp [ordV]]; exact cmpI_sign _ _
      go_wp2_with (go_at_call 58; refine (sign_any _ _ _).mono ?_; rintro e w9 ⟨rfl, rfl⟩)
      go_ret2
      exact ⟨by rw [HX.out]; rfl, HZ.out⟩
    · by_cases c2 : k' = 2
      · subst c2
        have hX : ordV 2 0 ⟨#[]⟩ false 2 n' s' b' = cmpL (foldL (⟨#[]⟩ : ByteArray).data.toList) (foldL s'.data.toList) := by simp [ordV]
        have HD : Hid (∀ W : World, Calls Tryd.prog 42 #[.string ⟨#[]⟩] W fun e w' => e = .returned (.string ⟨(foldL (⟨#[]⟩ : ByteArray).data.toList).toArray⟩) ∧ Below W.heap.size W w') := fun W => rfold_any ⟨#[]⟩ W (by decide)
        have HG2 : Hid (∀ W : World, Calls Tryd.prog 42 #[.string s'] W fun e w' => e = .returned (.string ⟨(foldL s'.data.toList).toArray⟩) ∧ Below W.heap.size W w') := fun W => rfold_any s' W hz'
        have hT := list_ba (foldL (⟨#[]⟩ : ByteArray).data.toList)
        have hU := list_ba (foldL s'.data.toList)
        have hN : (⟨(foldL (⟨#[]⟩ : ByteArray).data.toList).toArray⟩ : ByteArray).size ≤ maxLen := by
          show (foldL (⟨#[]⟩ : ByteArray).data.toList).toArray.size ≤ maxLen
          rw [List.size_toArray, foldL_len]
          exact by decide
        generalize (⟨(foldL (⟨#[]⟩ : ByteArray).data.toList).toArray⟩ : ByteArray) = T at *
        generalize (⟨(foldL s'.data.toList).toArray⟩ : ByteArray) = U at *
        have HM : Hid (∀ W : World, Calls Tryd.prog 59 #[.string T, .string U] W fun e w' => e = .returned (.int .i64 (cmpL T.toList U.toList)) ∧ Below W.heap.size W w') := fun W => bytes_any T U W hN
        rw [← hT, ← hU] at hX
        have HX := hide hX
        clear hT hU hN hX
        have HS := hide (And.intro a2 (And.intro b2 (And.intro la (And.intro lb HZ.out))))
        go_wp2
        go_region_held3 (fun w'' => w''.cell? ⟨w.heap.size, 2, none⟩ = some (.string ⟨#[]⟩) ∧ w''.cell? ⟨w.heap.size + 1, 2, none⟩ = some (.string s') ∧ w.heap.size < w''.heap.size ∧ w.heap.size + 1 < w''.heap.size ∧ Below w.heap.size w w'') (first | exact HS.out | assumption | exact TwoS.drew (by assumption)) (first | (go_at_call_of 42 [Value.string ⟨#[]⟩]; refine (HD.out _).mono ?_; rintro e w2 ⟨rfl, hb2⟩; have hs2 := TwoS.below (by assumption) hb2) | (go_at_call_of 42 [Value.string s']; refine (HG2.out _).mono ?_; rintro e w2 ⟨rfl, hb2⟩; have hs2 := TwoS.below (by assumption) hb2) | (go_at_call 59; refine (HM.out _).mono ?_; rintro e w2 ⟨rfl, hb2⟩; have hs2 := TwoS.below (by assumption) hb2))
        all_goals go_wp2
        all_goals go_ret2
        all_goals exact ⟨by rw [HX.out]; rfl, TwoS.out (by assumption)⟩
      · by_cases c3 : k' = 3
        · subst c3
          cases b'
          all_goals
            go_wp2_with (go_at_call 58; refine (sign_any _ _ _).mono ?_; rintro e w9 ⟨rfl, rfl⟩)
            go_ret2
            exact ⟨rfl, HZ.out⟩
        · have HX : Hid (ordV k' 0 ⟨#[]⟩ false k' n' s' b' = 0) := by show _ = _; simp [ordV, c1, c2, c3]
          have t1 : (k' == 1) = false := by simpa using c1
          have t2 : (k' == 2) = false := by simpa using c2
          have t3 : (k' == 3) = false := by simpa using c3
          clear c1 c2 c3
          go_wp2
          go_ret2
          exact ⟨by rw [HX.out]; rfl, HZ.out⟩
set_option linter.unusedSimpArgs false in
set_option maxRecDepth 100000 in
set_option maxHeartbeats 8000000 in
theorem rcomp_3 (k n : Int) (s : ByteArray) (b : Bool) (c : Int) (w : World) (h4 : (k == 4) = false) (hz : s.size ≤ maxLen) (HR : Hid (∀ W : World, Calls Tryd.prog 22 #[.agg #[.int .i64 k, .int .i64 n, .string s, .bool b, .int .i64 c]] W fun e w' => e = .returned (.bool true) ∧ Below W.heap.size W w')) (HQ : Hid (∀ W : World, Calls Tryd.prog 22 #[.agg #[.int .i64 0, .int .i64 0, .string ⟨#[]⟩, .bool false, .int .i64 0]] W fun e w' => e = .returned (.bool true) ∧ Below W.heap.size W w')) (HF : Hid (∀ W : World, Calls Tryd.prog 57 #[.agg #[.int .i64 k, .int .i64 n, .string s, .bool b, .int .i64 c], .int .i64 0] W fun e w' => e = .returned (.agg #[.int .i64 k, .int .i64 n, .string s, .bool b, .int .i64 c]) ∧ Below W.heap.size W w')) (HG : Hid (∀ W : World, Calls Tryd.prog 57 #[.agg #[.int .i64 0, .int .i64 0, .string ⟨#[]⟩, .bool false, .int .i64 0], .int .i64 k] W fun e w' => e = .returned (.agg #[.int .i64 k, .int .i64 0, .string ⟨#[]⟩, .bool false, .int .i64 0]) ∧ Below W.heap.size W w')) :
    Calls Tryd.prog 34 #[.agg #[.int .i64 k, .int .i64 n, .string s, .bool b, .int .i64 c], .agg #[.int .i64 0, .int .i64 0, .string ⟨#[]⟩, .bool false, .int .i64 0]] w fun e w' => e = .returned (.tuple #[.int .i64 (ordV k n s b k 0 ⟨#[]⟩ false), .int .i64 0]) ∧ Below w.heap.size w w' := by
  have HY := hide (Both.new w k n s b c 0 0 ⟨#[]⟩ false 0)
  have HB := hide (((Below.refl w.heap.size w).alloc (Nat.le_refl _) (.cells #[.int .i64 k, .int .i64 n, .string s, .bool b, .int .i64 c] 25)).alloc (by simp) (.cells #[.int .i64 0, .int .i64 0, .string ⟨#[]⟩, .bool false, .int .i64 0] 25))
  go_enter Tryd.func34, Tryd.ntmps34
  go_wp2_with fail
  refine (HR.out _).mono ?_
  rintro e w1 ⟨rfl, hb⟩
  have HY := hide (Both.below HY.out hb)
  have HB := hide (HB.out.trans (hb.mono HB.out.size))
  clear hb
  obtain ⟨⟨⟨la, a0, a1, a2, a3, a4⟩, f0, f1, f2, f3, f4⟩, ⟨⟨lb, b0, b1, b2, b3, b4⟩, g0, g1, g2, g3, g4⟩⟩ := HY.out
  go_wp2_with fail
  refine (HQ.out _).mono ?_
  rintro e w2 ⟨rfl, hb⟩
  have HY := hide (Both.below HY.out hb)
  have HB := hide (HB.out.trans (hb.mono HB.out.size))
  clear hb la a0 a1 a2 a3 a4 f0 f1 f2 f3 f4 lb b0 b1 b2 b3 b4 g0 g1 g2 g3 g4
  obtain ⟨⟨⟨la, a0, a1, a2, a3, a4⟩, f0, f1, f2, f3, f4⟩, ⟨⟨lb, b0, b1, b2, b3, b4⟩, g0, g1, g2, g3, g4⟩⟩ := HY.out
  go_wp2
  have hY := And.intro HY.out HB.out
  clear HY HB
  apply wp_cut0 (F := fun w' => Both w' w.heap.size (w.heap.size + 1) k n s b c k 0 ⟨#[]⟩ false 0 ∧ Below w.heap.size w w')
  case hr =>
    replace hY := BB.drew hY
    refine wp_region_held_drew (S := fun w' => w'.cell? ⟨w.heap.size, 0, none⟩ = some (.int .i64 k) ∧ w'.cell? ⟨w.heap.size, 1, none⟩ = some (.int .i64 n) ∧ w'.cell? ⟨w.heap.size, 2, none⟩ = some (.string s) ∧ w'.cell? ⟨w.heap.size, 3, none⟩ = some (.bool b) ∧ w'.cell? ⟨w.heap.size, 4, none⟩ = some (.int .i64 c) ∧ w'.cell? ⟨(w.heap.size + 1), 1, none⟩ = some (.int .i64 0) ∧ w'.cell? ⟨(w.heap.size + 1), 2, none⟩ = some (.string ⟨#[]⟩) ∧ w'.cell? ⟨(w.heap.size + 1), 3, none⟩ = some (.bool false) ∧ w'.cell? ⟨(w.heap.size + 1), 4, none⟩ = some (.int .i64 0) ∧ Below w.heap.size w w') (by kernel_rfl) ⟨hY.1.1.1.2.1, hY.1.1.1.2.2.1, hY.1.1.1.2.2.2.1, hY.1.1.1.2.2.2.2.1, hY.1.1.1.2.2.2.2.2, hY.1.2.1.2.2.1, hY.1.2.1.2.2.2.1, hY.1.2.1.2.2.2.2.1, hY.1.2.1.2.2.2.2.2, hY.2⟩ (fun hHeld => ?_)
    (refine takeD (i := 0) (some 24) rfl rfl (by kernel_rfl) (by kernel_rfl) (by kernel_rfl) (fun _ _ _ h => h) (v := ?_) rfl ?_ (by assumption) ?_; rotate_left; (focus (intro w hSw; (try dsimp only at hSw); first | (go_simp; done) | (go_simp; with_reducible rfl))); try simp only [Act.put, List.setIfInBounds_toArray, List.set_cons_zero, List.set_cons_succ]); (refine takeD (i := 1) (some 25) rfl rfl (by kernel_rfl) (by kernel_rfl) (by kernel_rfl) (fun _ _ _ h => h) (v := ?_) rfl ?_ (by assumption) ?_; rotate_left; (focus (intro w hSw; (try dsimp only at hSw); first | (go_simp; done) | (go_simp; with_reducible rfl))); try simp only [Act.put, List.setIfInBounds_toArray, List.set_cons_zero, List.set_cons_succ]); (refine takeD (i := 5) (some 29) rfl rfl (by kernel_rfl) (by kernel_rfl) (by kernel_rfl) (fun _ _ _ h => h) (v := ?_) rfl ?_ (by assumption) ?_; rotate_left; (focus (intro w hSw; (try dsimp only at hSw); first | (go_simp; done) | (go_simp; with_reducible rfl))); try simp only [Act.put, List.setIfInBounds_toArray, List.set_cons_zero, List.set_cons_succ]); (refine takeD (i := 6) (some 30) rfl rfl (by kernel_rfl) (by kernel_rfl) (by kernel_rfl) (fun _ _ _ h => h) (v := ?_) rfl ?_ (by assumption) ?_; rotate_left; (focus (intro w hSw; (try dsimp only at hSw); first | (go_simp; done) | (go_simp; with_reducible rfl))); try simp only [Act.put, List.setIfInBounds_toArray, List.set_cons_zero, List.set_cons_succ]); refine wpAnyH_ready (rs := [2, 4]) (by kernel_rfl) (by simp) ?_; refine AllReadyH.cons (o := _) rfl (fun K hK => ?_) (AllReadyH.cons (o := _) rfl (fun K hK => ?_) AllReadyH.nil)
    · (go_simp; refine hK.out _ _ hHeld (fun hHeld => ?_); clear hK K; try simp only [Act.put, List.setIfInBounds_toArray, List.set_cons_zero, List.set_cons_succ])
      refine wpAnyH_ready (rs := [3, 4]) (by kernel_rfl) (by simp) ?_; refine AllReadyH.cons (o := _) rfl (fun K hK => ?_) (AllReadyH.cons (o := _) rfl (fun K hK => ?_) AllReadyH.nil)
      · (go_simp; (go_at_call 57; refine (HF.out _).mono ?_; rintro e w3 ⟨rfl, hb3⟩; have hY := BB.below hY hb3; obtain ⟨⟨⟨⟨la, a0, a1, a2, a3, a4⟩, f0, f1, f2, f3, f4⟩, ⟨⟨lb, b0, b1, b2, b3, b4⟩, g0, g1, g2, g3, g4⟩⟩, _⟩ := id hY); refine hK.out _ _ ⟨hY.1.1.1.2.1, hY.1.1.1.2.2.1, hY.1.1.1.2.2.2.1, hY.1.1.1.2.2.2.2.1, hY.1.1.1.2.2.2.2.2, hY.1.2.1.2.2.1, hY.1.2.1.2.2.2.1, hY.1.2.1.2.2.2.2.1, hY.1.2.1.2.2.2.2.2, hY.2⟩ (fun hHeld => ?_); clear hK K; try simp only [Act.put, List.setIfInBounds_toArray, List.set_cons_zero, List.set_cons_succ]); (refine wpAnyH_ready (rs := [4]) (by kernel_rfl) (by simp) ?_; refine AllReadyH.cons (o := _) rfl (fun K hK => ?_) AllReadyH.nil; go_simp; skip; refine hK.out _ _ hHeld (fun hHeld => ?_); clear hK K; try simp only [Act.put, List.setIfInBounds_toArray, List.set_cons_zero, List.set_cons_succ]); (refine wpAnyH_ready (rs := [7]) (by kernel_rfl) (by simp) ?_; refine AllReadyH.cons (o := _) rfl (fun K hK => ?_) AllReadyH.nil; go_simp; (go_at_call 57; refine (HG.out _).mono ?_; rintro e w3 ⟨rfl, hb3⟩; have hY := BB.below hY hb3; obtain ⟨⟨⟨⟨la, a0, a1, a2, a3, a4⟩, f0, f1, f2, f3, f4⟩, ⟨⟨lb, b0, b1, b2, b3, b4⟩, g0, g1, g2, g3, g4⟩⟩, _⟩ := id hY); refine hK.out _ _ ⟨hY.1.1.1.2.1, hY.1.1.1.2.2.1, hY.1.1.1.2.2.2.1, hY.1.1.1.2.2.2.2.1, hY.1.1.1.2.2.2.2.2, hY.1.2.1.2.2.1, hY.1.2.1.2.2.2.1, hY.1.2.1.2.2.2.2.1, hY.1.2.1.2.2.2.2.2, hY.2⟩ (fun hHeld => ?_); clear hK K; try simp only [Act.put, List.setIfInBounds_toArray, List.set_cons_zero, List.set_cons_succ]); (refine wpAnyH_ready (rs := [8]) (by kernel_rfl) (by simp) ?_; refine AllReadyH.cons (o := _) rfl (fun K hK => ?_) AllReadyH.nil; go_simp; (clear la a0 a1 a2 a3 a4 f0 f1 f2 f3 f4 lb b0 b1 b2 b3 b4 g0 g1 g2 g3 g4; have hY := BB.setP hY (by omega) (Nat.le_refl _) k n s b c; obtain ⟨⟨⟨⟨la, a0, a1, a2, a3, a4⟩, f0, f1, f2, f3, f4⟩, ⟨⟨lb, b0, b1, b2, b3, b4⟩, g0, g1, g2, g3, g4⟩⟩, _⟩ := id hY); refine hK.out _ _ ⟨hY.1.1.1.2.1, hY.1.1.1.2.2.1, hY.1.1.1.2.2.2.1, hY.1.1.1.2.2.2.2.1, hY.1.1.1.2.2.2.2.2, hY.1.2.1.2.2.1, hY.1.2.1.2.2.2.1, hY.1.2.1.2.2.2.2.1, hY.1.2.1.2.2.2.2.2, hY.2⟩ (fun hHeld => ?_); clear hK K; try simp only [Act.put, List.setIfInBounds_toArray, List.set_cons_zero, List.set_cons_succ]); (refine wpAnyH_ready (rs := [9]) (by kernel_rfl) (by simp) ?_; refine AllReadyH.cons (o := _) rfl (fun K hK => ?_) AllReadyH.nil; go_simp; (clear la a0 a1 a2 a3 a4 f0 f1 f2 f3 f4 lb b0 b1 b2 b3 b4 g0 g1 g2 g3 g4; have hY := BB.setQ hY (by omega) (show w.heap.size ≤ w.heap.size + 1 by omega) k 0 ⟨#[]⟩ false 0); refine hK.out _ _ ⟨hY.1.1.1.2.1, hY.1.1.1.2.2.1, hY.1.1.1.2.2.2.1, hY.1.1.1.2.2.2.2.1, hY.1.1.1.2.2.2.2.2, hY.1.2.1.2.2.1, hY.1.2.1.2.2.2.1, hY.1.2.1.2.2.2.2.1, hY.1.2.1.2.2.2.2.2, hY.2⟩ (fun hHeld => ?_); clear hK K; try simp only [Act.put, List.setIfInBounds_toArray, List.set_cons_zero, List.set_cons_succ]); refine wpAnyH_done (by kernel_rfl) ?_ _; exact ⟨rfl, hY⟩
      · (go_simp; refine hK.out _ _ hHeld (fun hHeld => ?_); clear hK K; try simp only [Act.put, List.setIfInBounds_toArray, List.set_cons_zero, List.set_cons_succ]); (refine wpAnyH_ready (rs := [3]) (by kernel_rfl) (by simp) ?_; refine AllReadyH.cons (o := _) rfl (fun K hK => ?_) AllReadyH.nil; go_simp; (go_at_call 57; refine (HF.out _).mono ?_; rintro e w3 ⟨rfl, hb3⟩; have hY := BB.below hY hb3; obtain ⟨⟨⟨⟨la, a0, a1, a2, a3, a4⟩, f0, f1, f2, f3, f4⟩, ⟨⟨lb, b0, b1, b2, b3, b4⟩, g0, g1, g2, g3, g4⟩⟩, _⟩ := id hY); refine hK.out _ _ ⟨hY.1.1.1.2.1, hY.1.1.1.2.2.1, hY.1.1.1.2.2.2.1, hY.1.1.1.2.2.2.2.1, hY.1.1.1.2.2.2.2.2, hY.1.2.1.2.2.1, hY.1.2.1.2.2.2.1, hY.1.2.1.2.2.2.2.1, hY.1.2.1.2.2.2.2.2, hY.2⟩ (fun hHeld => ?_); clear hK K; try simp only [Act.put, List.setIfInBounds_toArray, List.set_cons_zero, List.set_cons_succ]); (refine wpAnyH_ready (rs := [7]) (by kernel_rfl) (by simp) ?_; refine AllReadyH.cons (o := _) rfl (fun K hK => ?_) AllReadyH.nil; go_simp; (go_at_call 57; refine (HG.out _).mono ?_; rintro e w3 ⟨rfl, hb3⟩; have hY := BB.below hY hb3; obtain ⟨⟨⟨⟨la, a0, a1, a2, a3, a4⟩, f0, f1, f2, f3, f4⟩, ⟨⟨lb, b0, b1, b2, b3, b4⟩, g0, g1, g2, g3, g4⟩⟩, _⟩ := id hY); refine hK.out _ _ ⟨hY.1.1.1.2.1, hY.1.1.1.2.2.1, hY.1.1.1.2.2.2.1, hY.1.1.1.2.2.2.2.1, hY.1.1.1.2.2.2.2.2, hY.1.2.1.2.2.1, hY.1.2.1.2.2.2.1, hY.1.2.1.2.2.2.2.1, hY.1.2.1.2.2.2.2.2, hY.2⟩ (fun hHeld => ?_); clear hK K; try simp only [Act.put, List.setIfInBounds_toArray, List.set_cons_zero, List.set_cons_succ]); (refine wpAnyH_ready (rs := [8]) (by kernel_rfl) (by simp) ?_; refine AllReadyH.cons (o := _) rfl (fun K hK => ?_) AllReadyH.nil; go_simp; (clear la a0 a1 a2 a3 a4 f0 f1 f2 f3 f4 lb b0 b1 b2 b3 b4 g0 g1 g2 g3 g4; have hY := BB.setP hY (by omega) (Nat.le_refl _) k n s b c; obtain ⟨⟨⟨⟨la, a0, a1, a2, a3, a4⟩, f0, f1, f2, f3, f4⟩, ⟨⟨lb, b0, b1, b2, b3, b4⟩, g0, g1, g2, g3, g4⟩⟩, _⟩ := id hY); refine hK.out _ _ ⟨hY.1.1.1.2.1, hY.1.1.1.2.2.1, hY.1.1.1.2.2.2.1, hY.1.1.1.2.2.2.2.1, hY.1.1.1.2.2.2.2.2, hY.1.2.1.2.2.1, hY.1.2.1.2.2.2.1, hY.1.2.1.2.2.2.2.1, hY.1.2.1.2.2.2.2.2, hY.2⟩ (fun hHeld => ?_); clear hK K; try simp only [Act.put, List.setIfInBounds_toArray, List.set_cons_zero, List.set_cons_succ]); (refine wpAnyH_ready (rs := [9]) (by kernel_rfl) (by simp) ?_; refine AllReadyH.cons (o := _) rfl (fun K hK => ?_) AllReadyH.nil; go_simp; (clear la a0 a1 a2 a3 a4 f0 f1 f2 f3 f4 lb b0 b1 b2 b3 b4 g0 g1 g2 g3 g4; have hY := BB.setQ hY (by omega) (show w.heap.size ≤ w.heap.size + 1 by omega) k 0 ⟨#[]⟩ false 0); refine hK.out _ _ ⟨hY.1.1.1.2.1, hY.1.1.1.2.2.1, hY.1.1.1.2.2.2.1, hY.1.1.1.2.2.2.2.1, hY.1.1.1.2.2.2.2.2, hY.1.2.1.2.2.1, hY.1.2.1.2.2.2.1, hY.1.2.1.2.2.2.2.1, hY.1.2.1.2.2.2.2.2, hY.2⟩ (fun hHeld => ?_); clear hK K; try simp only [Act.put, List.setIfInBounds_toArray, List.set_cons_zero, List.set_cons_succ]); refine wpAnyH_done (by kernel_rfl) ?_ _; exact ⟨rfl, hY⟩
    · (go_simp; refine hK.out _ _ hHeld (fun hHeld => ?_); clear hK K; try simp only [Act.put, List.setIfInBounds_toArray, List.set_cons_zero, List.set_cons_succ]); (refine wpAnyH_ready (rs := [2]) (by kernel_rfl) (by simp) ?_; refine AllReadyH.cons (o := _) rfl (fun K hK => ?_) AllReadyH.nil; go_simp; skip; refine hK.out _ _ hHeld (fun hHeld => ?_); clear hK K; try simp only [Act.put, List.setIfInBounds_toArray, List.set_cons_zero, List.set_cons_succ]); (refine wpAnyH_ready (rs := [3]) (by kernel_rfl) (by simp) ?_; refine AllReadyH.cons (o := _) rfl (fun K hK => ?_) AllReadyH.nil; go_simp; (go_at_call 57; refine (HF.out _).mono ?_; rintro e w3 ⟨rfl, hb3⟩; have hY := BB.below hY hb3; obtain ⟨⟨⟨⟨la, a0, a1, a2, a3, a4⟩, f0, f1, f2, f3, f4⟩, ⟨⟨lb, b0, b1, b2, b3, b4⟩, g0, g1, g2, g3, g4⟩⟩, _⟩ := id hY); refine hK.out _ _ ⟨hY.1.1.1.2.1, hY.1.1.1.2.2.1, hY.1.1.1.2.2.2.1, hY.1.1.1.2.2.2.2.1, hY.1.1.1.2.2.2.2.2, hY.1.2.1.2.2.1, hY.1.2.1.2.2.2.1, hY.1.2.1.2.2.2.2.1, hY.1.2.1.2.2.2.2.2, hY.2⟩ (fun hHeld => ?_); clear hK K; try simp only [Act.put, List.setIfInBounds_toArray, List.set_cons_zero, List.set_cons_succ]); (refine wpAnyH_ready (rs := [7]) (by kernel_rfl) (by simp) ?_; refine AllReadyH.cons (o := _) rfl (fun K hK => ?_) AllReadyH.nil; go_simp; (go_at_call 57; refine (HG.out _).mono ?_; rintro e w3 ⟨rfl, hb3⟩; have hY := BB.below hY hb3; obtain ⟨⟨⟨⟨la, a0, a1, a2, a3, a4⟩, f0, f1, f2, f3, f4⟩, ⟨⟨lb, b0, b1, b2, b3, b4⟩, g0, g1, g2, g3, g4⟩⟩, _⟩ := id hY); refine hK.out _ _ ⟨hY.1.1.1.2.1, hY.1.1.1.2.2.1, hY.1.1.1.2.2.2.1, hY.1.1.1.2.2.2.2.1, hY.1.1.1.2.2.2.2.2, hY.1.2.1.2.2.1, hY.1.2.1.2.2.2.1, hY.1.2.1.2.2.2.2.1, hY.1.2.1.2.2.2.2.2, hY.2⟩ (fun hHeld => ?_); clear hK K; try simp only [Act.put, List.setIfInBounds_toArray, List.set_cons_zero, List.set_cons_succ]); (refine wpAnyH_ready (rs := [8]) (by kernel_rfl) (by simp) ?_; refine AllReadyH.cons (o := _) rfl (fun K hK => ?_) AllReadyH.nil; go_simp; (clear la a0 a1 a2 a3 a4 f0 f1 f2 f3 f4 lb b0 b1 b2 b3 b4 g0 g1 g2 g3 g4; have hY := BB.setP hY (by omega) (Nat.le_refl _) k n s b c; obtain ⟨⟨⟨⟨la, a0, a1, a2, a3, a4⟩, f0, f1, f2, f3, f4⟩, ⟨⟨lb, b0, b1, b2, b3, b4⟩, g0, g1, g2, g3, g4⟩⟩, _⟩ := id hY); refine hK.out _ _ ⟨hY.1.1.1.2.1, hY.1.1.1.2.2.1, hY.1.1.1.2.2.2.1, hY.1.1.1.2.2.2.2.1, hY.1.1.1.2.2.2.2.2, hY.1.2.1.2.2.1, hY.1.2.1.2.2.2.1, hY.1.2.1.2.2.2.2.1, hY.1.2.1.2.2.2.2.2, hY.2⟩ (fun hHeld => ?_); clear hK K; try simp only [Act.put, List.setIfInBounds_toArray, List.set_cons_zero, List.set_cons_succ]); (refine wpAnyH_ready (rs := [9]) (by kernel_rfl) (by simp) ?_; refine AllReadyH.cons (o := _) rfl (fun K hK => ?_) AllReadyH.nil; go_simp; (clear la a0 a1 a2 a3 a4 f0 f1 f2 f3 f4 lb b0 b1 b2 b3 b4 g0 g1 g2 g3 g4; have hY := BB.setQ hY (by omega) (show w.heap.size ≤ w.heap.size + 1 by omega) k 0 ⟨#[]⟩ false 0); refine hK.out _ _ ⟨hY.1.1.1.2.1, hY.1.1.1.2.2.1, hY.1.1.1.2.2.2.1, hY.1.1.1.2.2.2.2.1, hY.1.1.1.2.2.2.2.2, hY.1.2.1.2.2.1, hY.1.2.1.2.2.2.1, hY.1.2.1.2.2.2.2.1, hY.1.2.1.2.2.2.2.2, hY.2⟩ (fun hHeld => ?_); clear hK K; try simp only [Act.put, List.setIfInBounds_toArray, List.set_cons_zero, List.set_cons_succ]); refine wpAnyH_done (by kernel_rfl) ?_ _; exact ⟨rfl, hY⟩
  case hk =>
    clear la a0 a1 a2 a3 a4 f0 f1 f2 f3 f4 lb b0 b1 b2 b3 b4 g0 g1 g2 g3 g4 hY
    rintro w' ⟨⟨⟨⟨la, a0, a1, a2, a3, a4⟩, f0, f1, f2, f3, f4⟩, ⟨⟨lb, b0, b1, b2, b3, b4⟩, g0, g1, g2, g3, g4⟩⟩, hB⟩
    have HZ := hide hB
    clear hB
    by_cases c1 : k = 1
    · subst c1
      have HX : Hid (ordV 1 n s b 1 0 ⟨#[]⟩ false = signR (decide (n < 0)) (decide (0 < n))) := by show _ = _; rw [show ordV 1 n s b 1 0 ⟨#[]⟩ false = cmpI n 0 by simp [ordV]]; exact cmpI_sign _ _
      go_wp2_with (go_at_call 58; refine (sign_any _ _ _).mono ?_; rintro e w9 ⟨rfl, rfl⟩)
      go_ret2
      exact ⟨by rw [HX.out]; rfl, HZ.out⟩
    · by_cases c2 : k = 2
      · subst c2
        have hX : ordV 2 n s b 2 0 ⟨#[]⟩ false = cmpL (foldL s.data.toList) (foldL (⟨#[]⟩ : ByteArray).data.toList) := by simp [ordV]
        have HD : Hid (∀ W : World, Calls Tryd.prog 42 #[.string s] W fun e w' => e = .returned (.string ⟨(foldL s.data.toList).toArray⟩) ∧ Below W.heap.size W w') := fun W => rfold_any s W hz
        have HG2 : Hid (∀ W : World, Calls Tryd.prog 42 #[.string ⟨#[]⟩] W fun e w' => e = .returned (.string ⟨(foldL (⟨#[]⟩ : ByteArray).data.toList).toArray⟩) ∧ Below W.heap.size W w') := fun W => rfold_any ⟨#[]⟩ W (by decide)
        have hT := list_ba (foldL s.data.toList)
        have hU := list_ba (foldL (⟨#[]⟩ : ByteArray).data.toList)
        have hN : (⟨(foldL s.data.toList).toArray⟩ : ByteArray).size ≤ maxLen := by
          show (foldL s.data.toList).toArray.size ≤ maxLen
          rw [List.size_toArray, foldL_len]
          exact hz
        generalize (⟨(foldL s.data.toList).toArray⟩ : ByteArray) = T at *
        generalize (⟨(foldL (⟨#[]⟩ : ByteArray).data.toList).toArray⟩ : ByteArray) = U at *
        have HM : Hid (∀ W : World, Calls Tryd.prog 59 #[.string T, .string U] W fun e w' => e = .returned (.int .i64 (cmpL T.toList U.toList)) ∧ Below W.heap.size W w') := fun W => bytes_any T U W hN
        rw [← hT, ← hU] at hX
        have HX := hide hX
        clear hT hU hN hX
        have HS := hide (And.intro a2 (And.intro b2 (And.intro la (And.intro lb HZ.out))))
        go_wp2
        go_region_held3 (fun w'' => w''.cell? ⟨w.heap.size, 2, none⟩ = some (.string s) ∧ w''.cell? ⟨w.heap.size + 1, 2, none⟩ = some (.string ⟨#[]⟩) ∧ w.heap.size < w''.heap.size ∧ w.heap.size + 1 < w''.heap.size ∧ Below w.heap.size w w'') (first | exact HS.out | assumption | exact TwoS.drew (by assumption)) (first | (go_at_call_of 42 [Value.string s]; refine (HD.out _).mono ?_; rintro e w2 ⟨rfl, hb2⟩; have hs2 := TwoS.below (by assumption) hb2) | (go_at_call_of 42 [Value.string ⟨#[]⟩]; refine (HG2.out _).mono ?_; rintro e w2 ⟨rfl, hb2⟩; have hs2 := TwoS.below (by assumption) hb2) | (go_at_call 59; refine (HM.out _).mono ?_; rintro e w2 ⟨rfl, hb2⟩; have hs2 := TwoS.below (by assumption) hb2))
        all_goals go_wp2
        all_goals go_ret2
        all_goals exact ⟨by rw [HX.out]; rfl, TwoS.out (by assumption)⟩
      · by_cases c3 : k = 3
        · subst c3
          cases b
          all_goals
            go_wp2_with (go_at_call 58; refine (sign_any _ _ _).mono ?_; rintro e w9 ⟨rfl, rfl⟩)
            go_ret2
            exact ⟨rfl, HZ.out⟩
        · have HX : Hid (ordV k n s b k 0 ⟨#[]⟩ false = 0) := by show _ = _; simp [ordV, c1, c2, c3]
          have t1 : (k == 1) = false := by simpa using c1
          have t2 : (k == 2) = false := by simpa using c2
          have t3 : (k == 3) = false := by simpa using c3
          clear c1 c2 c3
          go_wp2
          go_ret2
          exact ⟨by rw [HX.out]; rfl, HZ.out⟩
end
end Go.Proofs.YtpghgjibpbimeaaDoor
