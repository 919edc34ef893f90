/-
  What cut cuts; the contract of Column's closure, of cut at it, of Column.
-/
import Derived.Test.YtpognkhobmbfcaaDoorPt3
import Derived.Test.YtpognkhobmbfcaaDoorPl1
namespace Go.Proofs.YtpognkhobmbfcaaDoor
open Go.RowKit

/-- The longest front of at most m bytes, all of a kind. -/
def pre (p : UInt8 → Bool) (m : Nat) (l : List UInt8) : List UInt8 := (l.take m).takeWhile p
/-- What is behind it. -/
def rest (p : UInt8 → Bool) (m : Nat) (l : List UInt8) : List UInt8 := l.drop (pre p m l).length
theorem takeWhile_at (p : UInt8 → Bool) : ∀ (l : List UInt8) (k : Nat), k ≤ l.length → (l.take k).all p = true → (∀ h : k < l.length, p l[k] = false) → l.takeWhile p = l.take k
  | [], k, _, _, _ => by simp
  | c :: l, 0, _, _, h => by
    have := h (by simp)
    simp at this
    simp [this]
  | c :: l, k + 1, hk, ha, h => by
    simp only [List.take_succ_cons, List.all_cons, Bool.and_eq_true] at ha
    rw [List.takeWhile_cons, if_pos ha.1, List.take_succ_cons, takeWhile_at p l k (by simpa using hk) ha.2 (fun h' => by have := h (by simpa using h'); simpa using this)]
theorem pre_at {p : UInt8 → Bool} {m k : Nat} {l : List UInt8} (hk : k ≤ l.length) (hm : k ≤ m) (ha : (l.take k).all p = true) (h : k = m ∨ (∀ h : k < l.length, p l[k] = false)) : pre p m l = l.take k := by
  unfold pre
  rw [takeWhile_at p (l.take m) k (by rw [List.length_take]; omega) (by rw [List.take_take, Nat.min_eq_left hm]; exact ha) (fun hx => ?_), List.take_take, Nat.min_eq_left hm]
  rw [List.length_take] at hx
  rcases h with h | h
  · omega
  · rw [List.getElem_take]; exact h (by omega)
theorem rest_at {p : UInt8 → Bool} {m k : Nat} {l : List UInt8} (hk : k ≤ l.length) (h : pre p m l = l.take k) : rest p m l = l.drop k := by
  unfold rest; rw [h, List.length_take, Nat.min_eq_left hk]
theorem pre_all (p : UInt8 → Bool) (m : Nat) (l : List UInt8) : (pre p m l).all p = true := by
  unfold pre; exact List.all_takeWhile
theorem pre_len (p : UInt8 → Bool) (m : Nat) (l : List UInt8) : (pre p m l).length ≤ m := by
  unfold pre
  have := (List.takeWhile_sublist p (l := l.take m)).length_le
  rw [List.length_take] at this; omega

/-- One number lies in a block that may be written. -/
def One (w : World) (b : Nat) (v : Int) : Prop := b < w.heap.size ∧ w.cell? ⟨b, 0, none⟩ = some (.int .i64 v) ∧ w.frozen? ⟨b, 0, none⟩ = false
theorem One.below {w w' : World} {b : Nat} {v : Int} (h : One w b v) (k : Below w.heap.size w w') : One w' b v :=
  ⟨Nat.lt_of_lt_of_le h.1 k.size, by rw [k.cell (p := ⟨b, 0, none⟩) h.1]; exact h.2.1, by rw [k.frozen (p := ⟨b, 0, none⟩) h.1]; exact h.2.2⟩
theorem One.set {w : World} {b : Nat} {v : Int} (h : One w b v) (u : Int) : One (w.setCell ⟨b, 0, none⟩ (.int .i64 u)) b u :=
  ⟨by simpa using h.1, World.cell?_setCell_same _ _ _ h.2.1, by rw [World.frozen?_setCell]; exact h.2.2⟩
set_option maxHeartbeats 1000000 in
theorem column1_any (f : ByteArray) (b : Nat) (v : Int) (w : World) (ha : f.data.toList.all letB = true) (hs : f.size ≤ 3) (h : One w b v) :
    Calls Tryd.prog 32 #[.string f, .pointer (some ⟨b, 0, none⟩)] w fun e w' => e = .returned (.tuple #[]) ∧ One w' b (colV f.data.toList) ∧ Below b w w' := by
  have HC : Hid (∀ W : World, Calls Tryd.prog 33 #[.string f] W fun e w' => e = .returned (.int .i64 (colV f.data.toList)) ∧ Below W.heap.size W w') := fun W => columnOf_any f W ha hs
  have H := hide h
  clear h ha hs
  generalize colV f.data.toList = C at *
  go_enter Tryd.func32, Tryd.ntmps32
  go_wp2_with (go_at_call 33; refine (HC.out _).mono ?_; rintro e w1 ⟨rfl, hb1⟩; have ⟨z1, k1, f1⟩ := H.out.below hb1)
  go_end0
  exact ⟨rfl, One.set ⟨z1, k1, f1⟩ _, (hb1.mono (Nat.le_of_lt H.out.1)).setCell (Nat.le_refl _) _⟩
theorem str_take (s : ByteArray) (k : Nat) : (s.extract 0 k).data.toList = s.data.toList.take k := by simp
theorem str_drop (s : ByteArray) (k : Nat) : (s.extract k s.size).data.toList = s.data.toList.drop k := by
  simp; rw [List.take_of_length_le (by simp)]
theorem str_rest {p : UInt8 → Bool} {m k : Nat} {s : ByteArray} (hk : k ≤ s.data.toList.length) (h : pre p m s.data.toList = s.data.toList.take k) : (⟨(rest p m s.data.toList).toArray⟩ : ByteArray) = s.extract k s.size := by
  apply ByteArray.ext
  apply Array.toList_inj.1
  rw [str_drop, rest_at hk h]
set_option maxHeartbeats 1000000 in
theorem cutC_any (s : ByteArray) (b : Nat) (v : Int) (w : World) (hs : s.size ≤ maxLen) (h : One w b v) :
    Calls Tryd.prog 30 #[.string s, .int .i64 3, .func (.func 31) #[] #[], .func (.func 32) #[] #[.pointer (some ⟨b, 0, none⟩)]] w fun e w' => e = .returned (.string ⟨(rest letB 3 s.data.toList).toArray⟩) ∧ One w' b (colV (pre letB 3 s.data.toList)) ∧ Below b w w' := by
  unfold maxLen at hs
  have hl : s.data.toList.length = s.size := by simp
  have HK : Hid (∀ k, pre letB 3 s.data.toList = s.data.toList.take k → k ≤ s.size → Calls Tryd.prog 32 #[.string (s.extract 0 k), .pointer (some ⟨b, 0, none⟩)] w fun e w' => e = .returned (.tuple #[]) ∧ One w' b (colV (pre letB 3 s.data.toList)) ∧ Below b w w') := fun k hk hks => by
    have e := str_take s k
    rw [← hk] at e
    have hz : (s.extract 0 k).size ≤ 3 := by
      have := pre_len letB 3 s.data.toList
      rw [← e] at this
      simpa using this
    have := column1_any (s.extract 0 k) b v w (by rw [e]; exact pre_all _ _ _) hz h
    rw [e] at this
    exact this
  have HL := hide hl
  clear hl h
  go_enter Tryd.func30, Tryd.ntmps30
  go_wp2
  go_loop [9] (fun nv => ∃ k : Nat, k ≤ s.size ∧ k ≤ 3 ∧ nv = .int .i64 k ∧ (s.data.toList.take k).all letB = true) (fun nv => 3 - (intOf nv).toNat)
  case atStart => exact ⟨0, Nat.zero_le _, by omega, rfl, by simp⟩
  case round =>
    obtain ⟨k, hk, hm, rfl, ha⟩ := hrel
    have HA := hide ha
    clear ha
    by_cases hlt : k < s.size ∧ k < 3
    · obtain ⟨l1, l2⟩ := hlt
      have c1 : (k : Int) < min 3 (s.size : Int) := by omega
      have e0 : s[k] = s.data.toList[k]'(by have := HL.out; omega) := by rw [ByteArray.getElem_eq_getElem_data, Array.getElem_toList]
      cases hp : letB s[k]
      · have HF : Hid (pre letB 3 s.data.toList = s.data.toList.take k) := pre_at (by have := HL.out; omega) hm HA.out (Or.inr (fun h => by rw [← e0]; exact hp))
        clear e0
        go_wp2_with (first | (go_at_call 31; refine (isLetter_any _ _).mono ?_; rintro e wz ⟨rfl, hz⟩; subst wz) | (go_at_call 32; refine (HK.out k HF.out hk).mono ?_; rintro e w1 ⟨rfl, hi1, hb1⟩))
        go_ret
        exact ⟨by rw [str_rest (by have := HL.out; omega) HF.out]; rfl, by assumption, by assumption⟩
      · have HS : Hid ((s.data.toList.take (k + 1)).all letB = true) := by
          have := HL.out
          show (s.data.toList.take (k + 1)).all letB = true
          rw [List.take_succ_eq_append_getElem (by omega), List.all_append, HA.out, ← e0]
          simp [hp]
        clear e0
        go_wp2_with (go_at_call 31; refine (isLetter_any _ _).mono ?_; rintro e wz ⟨rfl, hz⟩; subst wz)
        go_round
        case rel => exact ⟨k + 1, by omega, by omega, by go_num, HS.out⟩
        case measure => simp [intOf]; omega
    · have c1 : ¬ (k : Int) < min 3 (s.size : Int) := by omega
      have HF : Hid (pre letB 3 s.data.toList = s.data.toList.take k) := pre_at (by have := HL.out; omega) hm HA.out (by
        have := HL.out
        by_cases e : k = 3
        · exact Or.inl e
        · exact Or.inr (fun h => by omega))
      go_wp2_with (go_at_call 32; refine (HK.out k HF.out hk).mono ?_; rintro e w1 ⟨rfl, hi1, hb1⟩)
      go_ret
      exact ⟨by rw [str_rest (by have := HL.out; omega) HF.out]; rfl, by assumption, by assumption⟩
/-- What Column tells. -/
def columnR (l : List UInt8) : Int × Int := if colV (pre letB 3 l) = 0 ∨ rest letB 3 l ≠ [] then (0, 5) else if colB (colV (pre letB 3 l)) then (colV (pre letB 3 l), 0) else (0, 11)
set_option maxHeartbeats 1000000 in
theorem column_any (s : ByteArray) (w : World) (hs : s.size ≤ maxLen) :
    Calls Tryd.prog 11 #[.string s] w fun e w' => e = .returned (.tuple #[.int .i64 (columnR s.data.toList).1, .int .i64 (columnR s.data.toList).2]) ∧ Below w.heap.size w w' := by
  have HK : Hid (∀ (W : World) (b : Nat) (v : Int), One W b v → Calls Tryd.prog 30 #[.string s, .int .i64 3, .func (.func 31) #[] #[], .func (.func 32) #[] #[.pointer (some ⟨b, 0, none⟩)]] W fun e w' => e = .returned (.string ⟨(rest letB 3 s.data.toList).toArray⟩) ∧ One w' b (colV (pre letB 3 s.data.toList)) ∧ Below b W w') := fun W b v h => cutC_any s b v W hs h
  have HI : Hid (∀ W : World, Calls Tryd.prog 28 #[.int .i64 (colV (pre letB 3 s.data.toList))] W fun e w' => e = .returned (.bool (colB (colV (pre letB 3 s.data.toList)))) ∧ w' = W) := fun W => isColumn_any _ W
  have HO : Hid (∀ W : World, One (W.alloc (.cells #[.int .i64 0] 3)) W.heap.size 0) := fun W => ⟨by simp, by simp [go_sem], by simp⟩
  unfold columnR
  generalize colV (pre letB 3 s.data.toList) = C at *
  generalize rest letB 3 s.data.toList = R at *
  clear hs
  by_cases h1 : C = 0
  · subst h1
    rw [if_pos (Or.inl rfl)]
    go_enter Tryd.func11, Tryd.ntmps11
    go_wp2_with (go_at_call 30; refine (HK.out _ _ 0 (HO.out _)).mono ?_; rintro e w1 ⟨rfl, ⟨z1, k1, f1⟩, hb1⟩)
    go_ret2
    refine ⟨rfl, ?_⟩
    repeat' (first | with_reducible exact Below.refl _ _ | with_reducible refine Below.setCell ?_ ?_ _ | with_reducible refine Below.alloc ?_ ?_ _ | with_reducible refine below_drewN ?_ _ | with_reducible refine Below.drew ?_ | with_reducible refine Below.trans ?_ (Below.mono (by assumption) ?_) | with_reducible exact Nat.le_refl _ | with_reducible refine Nat.le_trans ?_ (Below.size (by assumption)) | with_reducible refine Nat.le_trans ?_ (size_alloc _ _) | with_reducible refine Nat.le_trans ?_ (size_set _ _ _) | with_reducible refine Nat.le_trans ?_ (size_drewN _ _) | with_reducible refine Nat.le_trans ?_ (size_drew _) | (simp; done) | (simp; omega) | omega)
  · have e1 : ((C : Int) == 0) = false := by simp; omega
    by_cases h2 : R = []
    · subst h2
      rw [if_neg (by simp [h1])]
      cases h3 : colB (C : Int)
      · rw [h3] at HI
        clear h3
        go_enter Tryd.func11, Tryd.ntmps11
        go_wp2_with (first | (go_at_call 30; refine (HK.out _ _ 0 (HO.out _)).mono ?_; rintro e w1 ⟨rfl, ⟨z1, k1, f1⟩, hb1⟩) | (go_at_call 28; refine (HI.out _).mono ?_; rintro e wz ⟨rfl, hz⟩; subst wz))
        go_ret2
        refine ⟨rfl, ?_⟩
        repeat' (first | with_reducible exact Below.refl _ _ | with_reducible refine Below.setCell ?_ ?_ _ | with_reducible refine Below.alloc ?_ ?_ _ | with_reducible refine below_drewN ?_ _ | with_reducible refine Below.drew ?_ | with_reducible refine Below.trans ?_ (Below.mono (by assumption) ?_) | with_reducible exact Nat.le_refl _ | with_reducible refine Nat.le_trans ?_ (Below.size (by assumption)) | with_reducible refine Nat.le_trans ?_ (size_alloc _ _) | with_reducible refine Nat.le_trans ?_ (size_set _ _ _) | with_reducible refine Nat.le_trans ?_ (size_drewN _ _) | with_reducible refine Nat.le_trans ?_ (size_drew _) | (simp; done) | (simp; omega) | omega)
      · rw [h3] at HI
        clear h3
        go_enter Tryd.func11, Tryd.ntmps11
        go_wp2_with (first | (go_at_call 30; refine (HK.out _ _ 0 (HO.out _)).mono ?_; rintro e w1 ⟨rfl, ⟨z1, k1, f1⟩, hb1⟩) | (go_at_call 28; refine (HI.out _).mono ?_; rintro e wz ⟨rfl, hz⟩; subst wz))
        go_ret2
        refine ⟨rfl, ?_⟩
        repeat' (first | with_reducible exact Below.refl _ _ | with_reducible refine Below.setCell ?_ ?_ _ | with_reducible refine Below.alloc ?_ ?_ _ | with_reducible refine below_drewN ?_ _ | with_reducible refine Below.drew ?_ | with_reducible refine Below.trans ?_ (Below.mono (by assumption) ?_) | with_reducible exact Nat.le_refl _ | with_reducible refine Nat.le_trans ?_ (Below.size (by assumption)) | with_reducible refine Nat.le_trans ?_ (size_alloc _ _) | with_reducible refine Nat.le_trans ?_ (size_set _ _ _) | with_reducible refine Nat.le_trans ?_ (size_drewN _ _) | with_reducible refine Nat.le_trans ?_ (size_drew _) | (simp; done) | (simp; omega) | omega)
    · rw [if_pos (Or.inr h2)]
      have e2 : (R == []) = false := by simpa using h2
      go_enter Tryd.func11, Tryd.ntmps11
      go_wp2_with (go_at_call 30; refine (HK.out _ _ 0 (HO.out _)).mono ?_; rintro e w1 ⟨rfl, ⟨z1, k1, f1⟩, hb1⟩)
      go_ret2
      refine ⟨rfl, ?_⟩
      repeat' (first | with_reducible exact Below.refl _ _ | with_reducible refine Below.setCell ?_ ?_ _ | with_reducible refine Below.alloc ?_ ?_ _ | with_reducible refine below_drewN ?_ _ | with_reducible refine Below.drew ?_ | with_reducible refine Below.trans ?_ (Below.mono (by assumption) ?_) | with_reducible exact Nat.le_refl _ | with_reducible refine Nat.le_trans ?_ (Below.size (by assumption)) | with_reducible refine Nat.le_trans ?_ (size_alloc _ _) | with_reducible refine Nat.le_trans ?_ (size_set _ _ _) | with_reducible refine Nat.le_trans ?_ (size_drewN _ _) | with_reducible refine Nat.le_trans ?_ (size_drew _) | (simp; done) | (simp; omega) | omega)
end Go.Proofs.YtpognkhobmbfcaaDoor
