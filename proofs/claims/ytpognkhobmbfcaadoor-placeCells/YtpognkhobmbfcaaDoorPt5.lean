/-
  The contracts of Parse's closures, and of cut at them.
-/
import Derived.Test.YtpognkhobmbfcaaDoorPt4
namespace Go.Proofs.YtpognkhobmbfcaaDoor
open Go.RowKit

/-- Is there a front? -/
def nonB (l : List UInt8) : Bool := !(l == [])
/-- A cell lies in a block that may be written. -/
def Cel (w : World) (b : Nat) (r c : Int) (x y : Bool) : Prop :=
  (b < w.heap.size ∧ w.cell? ⟨b, 0, none⟩ = some (.int .i64 r) ∧ w.cell? ⟨b, 1, none⟩ = some (.int .i64 c) ∧ w.cell? ⟨b, 2, none⟩ = some (.bool x) ∧ w.cell? ⟨b, 3, none⟩ = some (.bool y)) ∧
  w.frozen? ⟨b, 0, none⟩ = false ∧ w.frozen? ⟨b, 1, none⟩ = false ∧ w.frozen? ⟨b, 2, none⟩ = false ∧ w.frozen? ⟨b, 3, none⟩ = false
theorem Cel.new (w : World) (r c : Int) (x y : Bool) (t : TypeId) : Cel (w.alloc (.cells #[.int .i64 r, .int .i64 c, .bool x, .bool y] t)) w.heap.size r c x y :=
  ⟨⟨by simp, by simp [go_sem], by simp [go_sem], by simp [go_sem], by simp [go_sem]⟩, by simp, by simp, by simp, by simp⟩
theorem Cel.block {w w' : World} {b : Nat} {r c : Int} {x y : Bool} (h : Cel w b r c x y) (hs : w.heap.size ≤ w'.heap.size) (hb : w'.heap[b]? = w.heap[b]?) : Cel w' b r c x y := by
  obtain ⟨⟨h0, h1, h2, h3, h4⟩, f1, f2, f3, f4⟩ := h
  refine ⟨⟨Nat.lt_of_lt_of_le h0 hs, ?_, ?_, ?_, ?_⟩, ?_, ?_, ?_, ?_⟩
  all_goals first | (rw [World.cell?_of_block (w := w) hb]; assumption) | (rw [World.frozen?_of_block (w := w) hb]; assumption)
theorem Cel.below {w w' : World} {b : Nat} {r c : Int} {x y : Bool} (h : Cel w b r c x y) (k : Below w.heap.size w w') : Cel w' b r c x y := h.block k.size (k.block b h.1.1)
theorem off_ne {b : Nat} {i j : Nat} (h : i ≠ j) : (⟨b, i, none⟩ : Addr) ≠ ⟨b, j, none⟩ := fun e => h (congrArg Addr.off e)
theorem Cel.set0 {w : World} {b : Nat} {r c : Int} {x y : Bool} (h : Cel w b r c x y) (v : Int) : Cel (w.setCell ⟨b, 0, none⟩ (.int .i64 v)) b v c x y := by
  obtain ⟨⟨h0, h1, h2, h3, h4⟩, f1, f2, f3, f4⟩ := h
  refine ⟨⟨by simpa using h0, World.cell?_setCell_same _ _ _ h1, ?_, ?_, ?_⟩, ?_, ?_, ?_, ?_⟩
  all_goals first | (rw [World.cell?_setCell_other (h := off_ne (by decide))]; assumption) | (rw [World.frozen?_setCell]; assumption)
theorem Cel.set1 {w : World} {b : Nat} {r c : Int} {x y : Bool} (h : Cel w b r c x y) (v : Int) : Cel (w.setCell ⟨b, 1, none⟩ (.int .i64 v)) b r v x y := by
  obtain ⟨⟨h0, h1, h2, h3, h4⟩, f1, f2, f3, f4⟩ := h
  refine ⟨⟨by simpa using h0, ?_, World.cell?_setCell_same _ _ _ h2, ?_, ?_⟩, ?_, ?_, ?_, ?_⟩
  all_goals first | (rw [World.cell?_setCell_other (h := off_ne (by decide))]; assumption) | (rw [World.frozen?_setCell]; assumption)
theorem Cel.set2 {w : World} {b : Nat} {r c : Int} {x y : Bool} (h : Cel w b r c x y) (v : Bool) : Cel (w.setCell ⟨b, 2, none⟩ (.bool v)) b r c v y := by
  obtain ⟨⟨h0, h1, h2, h3, h4⟩, f1, f2, f3, f4⟩ := h
  refine ⟨⟨by simpa using h0, ?_, ?_, World.cell?_setCell_same _ _ _ h3, ?_⟩, ?_, ?_, ?_, ?_⟩
  all_goals first | (rw [World.cell?_setCell_other (h := off_ne (by decide))]; assumption) | (rw [World.frozen?_setCell]; assumption)
theorem Cel.set3 {w : World} {b : Nat} {r c : Int} {x y : Bool} (h : Cel w b r c x y) (v : Bool) : Cel (w.setCell ⟨b, 3, none⟩ (.bool v)) b r c x v := by
  obtain ⟨⟨h0, h1, h2, h3, h4⟩, f1, f2, f3, f4⟩ := h
  refine ⟨⟨by simpa using h0, ?_, ?_, ?_, World.cell?_setCell_same _ _ _ h4⟩, ?_, ?_, ?_, ?_⟩
  all_goals first | (rw [World.cell?_setCell_other (h := off_ne (by decide))]; assumption) | (rw [World.frozen?_setCell]; assumption)
set_option maxHeartbeats 1000000 in
theorem parse1_any (f : ByteArray) (b : Nat) (r c : Int) (x y : Bool) (w : World) (_ha : f.data.toList.all fixB = true) (_hs : f.size ≤ 1) (h : Cel w b r c x y) :
    Calls Tryd.prog 41 #[.string f, .pointer (some ⟨b, 0, none⟩)] w fun e w' => e = .returned (.tuple #[]) ∧ Cel w' b r c x (nonB f.data.toList) ∧ Below b w w' := by
  obtain ⟨⟨l⟩⟩ := f
  have H := hide h
  obtain ⟨⟨z, k0, k1, k2, k3⟩, f0, f1, f2, f3⟩ := h
  show Calls Tryd.prog 41 #[.string ⟨⟨l⟩⟩, .pointer (some ⟨b, 0, none⟩)] w fun e w' => e = .returned (.tuple #[]) ∧ Cel w' b r c x (nonB l) ∧ Below b w w'
  unfold nonB
  cases e1 : (l == [])
  all_goals
    go_enter Tryd.func41, Tryd.ntmps41
    go_wp2
    go_end0
    exact ⟨rfl, H.out.set3 _, (Below.refl b w).setCell (Nat.le_refl _) _⟩
set_option maxHeartbeats 1000000 in
theorem parse2_any (f : ByteArray) (b : Nat) (r c : Int) (x y : Bool) (w : World) (ha : f.data.toList.all letB = true) (hs : f.size ≤ 3) (h : Cel w b r c x y) :
    Calls Tryd.prog 42 #[.string f, .pointer (some ⟨b, 0, none⟩)] w fun e w' => e = .returned (.tuple #[]) ∧ Cel w' b r (colV f.data.toList) x y ∧ Below b w w' := by
  have HC : Hid (∀ W : World, Calls Tryd.prog 33 #[.string f] W fun e w' => e = .returned (.int .i64 (colV f.data.toList)) ∧ Below W.heap.size W w') := fun W => columnOf_any f W ha hs
  have H := hide h
  clear h ha hs
  generalize colV f.data.toList = C at *
  go_enter Tryd.func42, Tryd.ntmps42
  go_wp2_with (go_at_call 33; refine (HC.out _).mono ?_; rintro e w1 ⟨rfl, hb1⟩; have hc1 := H.out.below hb1; have ⟨⟨z1, k0, k1, k2, k3⟩, f0, f1, f2, f3⟩ := hc1; have HC1 := hide hc1; clear hc1)
  go_end0
  exact ⟨rfl, HC1.out.set1 _, (hb1.mono (Nat.le_of_lt H.out.1.1)).setCell (Nat.le_refl _) _⟩
set_option maxHeartbeats 1000000 in
theorem parse3_any (f : ByteArray) (b : Nat) (r c : Int) (x y : Bool) (w : World) (_ha : f.data.toList.all fixB = true) (_hs : f.size ≤ 1) (h : Cel w b r c x y) :
    Calls Tryd.prog 43 #[.string f, .pointer (some ⟨b, 0, none⟩)] w fun e w' => e = .returned (.tuple #[]) ∧ Cel w' b r c (nonB f.data.toList) y ∧ Below b w w' := by
  obtain ⟨⟨l⟩⟩ := f
  have H := hide h
  obtain ⟨⟨z, k0, k1, k2, k3⟩, f0, f1, f2, f3⟩ := h
  show Calls Tryd.prog 43 #[.string ⟨⟨l⟩⟩, .pointer (some ⟨b, 0, none⟩)] w fun e w' => e = .returned (.tuple #[]) ∧ Cel w' b r c (nonB l) y ∧ Below b w w'
  unfold nonB
  cases e1 : (l == [])
  all_goals
    go_enter Tryd.func43, Tryd.ntmps43
    go_wp2
    go_end0
    exact ⟨rfl, H.out.set2 _, (Below.refl b w).setCell (Nat.le_refl _) _⟩
set_option maxHeartbeats 1000000 in
theorem parse4_any (f : ByteArray) (b : Nat) (r c : Int) (x y : Bool) (w : World) (ha : f.data.toList.all digB = true) (hs : f.size ≤ 7) (h : Cel w b r c x y) :
    Calls Tryd.prog 45 #[.string f, .pointer (some ⟨b, 0, none⟩)] w fun e w' => e = .returned (.tuple #[]) ∧ Cel w' b (rowV f.data.toList) c x y ∧ Below b w w' := by
  have HC : Hid (∀ W : World, Calls Tryd.prog 46 #[.string f] W fun e w' => e = .returned (.int .i64 (rowV f.data.toList)) ∧ Below W.heap.size W w') := fun W => rowOf_any f W ha hs
  have H := hide h
  clear h ha hs
  generalize rowV f.data.toList = C at *
  go_enter Tryd.func45, Tryd.ntmps45
  go_wp2_with (go_at_call 46; refine (HC.out _).mono ?_; rintro e w1 ⟨rfl, hb1⟩; have hc1 := H.out.below hb1; have ⟨⟨z1, k0, k1, k2, k3⟩, f0, f1, f2, f3⟩ := hc1; have HC1 := hide hc1; clear hc1)
  go_end0
  exact ⟨rfl, HC1.out.set0 _, (hb1.mono (Nat.le_of_lt H.out.1.1)).setCell (Nat.le_refl _) _⟩
set_option maxHeartbeats 1000000 in
theorem cut1_any (s : ByteArray) (b : Nat) (r c : Int) (x y : Bool) (w : World) (hs : s.size ≤ maxLen) (h : Cel w b r c x y) :
    Calls Tryd.prog 30 #[.string s, .int .i64 1, .func (.func 40) #[] #[], .func (.func 41) #[] #[.pointer (some ⟨b, 0, none⟩)]] w fun e w' => e = .returned (.string ⟨(rest fixB 1 s.data.toList).toArray⟩) ∧ Cel w' b r c x (nonB (pre fixB 1 s.data.toList)) ∧ Below b w w' := by
  unfold maxLen at hs
  have hl : s.data.toList.length = s.size := by simp
  have HK : Hid (∀ k, pre fixB 1 s.data.toList = s.data.toList.take k → k ≤ s.size → Calls Tryd.prog 41 #[.string (s.extract 0 k), .pointer (some ⟨b, 0, none⟩)] w fun e w' => e = .returned (.tuple #[]) ∧ Cel w' b r c x (nonB (pre fixB 1 s.data.toList)) ∧ Below b w w') := fun k hk hks => by
    have e := str_take s k
    rw [← hk] at e
    have hz : (s.extract 0 k).size ≤ 1 := by
      have := pre_len fixB 1 s.data.toList
      rw [← e] at this
      simpa using this
    have := parse1_any (s.extract 0 k) b r c x y w (by rw [e]; exact pre_all _ _ _) hz h
    rw [e] at this
    exact this
  have HL := hide hl
  clear hl h
  go_enter Tryd.func30, Tryd.ntmps30
  go_wp2
  go_loop [9] (fun nv => ∃ k : Nat, k ≤ s.size ∧ k ≤ 1 ∧ nv = .int .i64 k ∧ (s.data.toList.take k).all fixB = true) (fun nv => 1 - (intOf nv).toNat)
  case atStart => exact ⟨0, Nat.zero_le _, by omega, rfl, by simp⟩
  case round =>
    obtain ⟨k, hk, hm, rfl, ha⟩ := hrel
    have HA := hide ha
    clear ha
    by_cases hlt : k < s.size ∧ k < 1
    · obtain ⟨l1, l2⟩ := hlt
      have c1 : (k : Int) < min 1 (s.size : Int) := by omega
      have e0 : s[k] = s.data.toList[k]'(by have := HL.out; omega) := by rw [ByteArray.getElem_eq_getElem_data, Array.getElem_toList]
      cases hp : fixB s[k]
      · have HF : Hid (pre fixB 1 s.data.toList = s.data.toList.take k) := pre_at (by have := HL.out; omega) hm HA.out (Or.inr (fun h => by rw [← e0]; exact hp))
        clear e0
        go_wp2_with (first | (go_at_call 40; refine (isFixed_any _ _).mono ?_; rintro e wz ⟨rfl, hz⟩; subst wz) | (go_at_call 41; refine (HK.out k HF.out hk).mono ?_; rintro e w1 ⟨rfl, hi1, hb1⟩))
        go_ret
        exact ⟨by rw [str_rest (by have := HL.out; omega) HF.out]; rfl, by assumption, by assumption⟩
      · have HS : Hid ((s.data.toList.take (k + 1)).all fixB = true) := by
          have := HL.out
          show (s.data.toList.take (k + 1)).all fixB = true
          rw [List.take_succ_eq_append_getElem (by omega), List.all_append, HA.out, ← e0]
          simp [hp]
        clear e0
        go_wp2_with (go_at_call 40; refine (isFixed_any _ _).mono ?_; rintro e wz ⟨rfl, hz⟩; subst wz)
        go_round
        case rel => exact ⟨k + 1, by omega, by omega, by go_num, HS.out⟩
        case measure => simp [intOf]; omega
    · have c1 : ¬ (k : Int) < min 1 (s.size : Int) := by omega
      have HF : Hid (pre fixB 1 s.data.toList = s.data.toList.take k) := pre_at (by have := HL.out; omega) hm HA.out (by
        have := HL.out
        by_cases e : k = 1
        · exact Or.inl e
        · exact Or.inr (fun h => by omega))
      go_wp2_with (go_at_call 41; refine (HK.out k HF.out hk).mono ?_; rintro e w1 ⟨rfl, hi1, hb1⟩)
      go_ret
      exact ⟨by rw [str_rest (by have := HL.out; omega) HF.out]; rfl, by assumption, by assumption⟩
set_option maxHeartbeats 1000000 in
theorem cut2_any (s : ByteArray) (b : Nat) (r c : Int) (x y : Bool) (w : World) (hs : s.size ≤ maxLen) (h : Cel w b r c x y) :
    Calls Tryd.prog 30 #[.string s, .int .i64 3, .func (.func 31) #[] #[], .func (.func 42) #[] #[.pointer (some ⟨b, 0, none⟩)]] w fun e w' => e = .returned (.string ⟨(rest letB 3 s.data.toList).toArray⟩) ∧ Cel w' b r (colV (pre letB 3 s.data.toList)) x y ∧ Below b w w' := by
  unfold maxLen at hs
  have hl : s.data.toList.length = s.size := by simp
  have HK : Hid (∀ k, pre letB 3 s.data.toList = s.data.toList.take k → k ≤ s.size → Calls Tryd.prog 42 #[.string (s.extract 0 k), .pointer (some ⟨b, 0, none⟩)] w fun e w' => e = .returned (.tuple #[]) ∧ Cel w' b r (colV (pre letB 3 s.data.toList)) x y ∧ Below b w w') := fun k hk hks => by
    have e := str_take s k
    rw [← hk] at e
    have hz : (s.extract 0 k).size ≤ 3 := by
      have := pre_len letB 3 s.data.toList
      rw [← e] at this
      simpa using this
    have := parse2_any (s.extract 0 k) b r c x y w (by rw [e]; exact pre_all _ _ _) hz h
    rw [e] at this
    exact this
  have HL := hide hl
  clear hl h
  go_enter Tryd.func30, Tryd.ntmps30
  go_wp2
  go_loop [9] (fun nv => ∃ k : Nat, k ≤ s.size ∧ k ≤ 3 ∧ nv = .int .i64 k ∧ (s.data.toList.take k).all letB = true) (fun nv => 3 - (intOf nv).toNat)
  case atStart => exact ⟨0, Nat.zero_le _, by omega, rfl, by simp⟩
  case round =>
    obtain ⟨k, hk, hm, rfl, ha⟩ := hrel
    have HA := hide ha
    clear ha
    by_cases hlt : k < s.size ∧ k < 3
    · obtain ⟨l1, l2⟩ := hlt
      have c1 : (k : Int) < min 3 (s.size : Int) := by omega
      have e0 : s[k] = s.data.toList[k]'(by have := HL.out; omega) := by rw [ByteArray.getElem_eq_getElem_data, Array.getElem_toList]
      cases hp : letB s[k]
      · have HF : Hid (pre letB 3 s.data.toList = s.data.toList.take k) := pre_at (by have := HL.out; omega) hm HA.out (Or.inr (fun h => by rw [← e0]; exact hp))
        clear e0
        go_wp2_with (first | (go_at_call 31; refine (isLetter_any _ _).mono ?_; rintro e wz ⟨rfl, hz⟩; subst wz) | (go_at_call 42; refine (HK.out k HF.out hk).mono ?_; rintro e w1 ⟨rfl, hi1, hb1⟩))
        go_ret
        exact ⟨by rw [str_rest (by have := HL.out; omega) HF.out]; rfl, by assumption, by assumption⟩
      · have HS : Hid ((s.data.toList.take (k + 1)).all letB = true) := by
          have := HL.out
          show (s.data.toList.take (k + 1)).all letB = true
          rw [List.take_succ_eq_append_getElem (by omega), List.all_append, HA.out, ← e0]
          simp [hp]
        clear e0
        go_wp2_with (go_at_call 31; refine (isLetter_any _ _).mono ?_; rintro e wz ⟨rfl, hz⟩; subst wz)
        go_round
        case rel => exact ⟨k + 1, by omega, by omega, by go_num, HS.out⟩
        case measure => simp [intOf]; omega
    · have c1 : ¬ (k : Int) < min 3 (s.size : Int) := by omega
      have HF : Hid (pre letB 3 s.data.toList = s.data.toList.take k) := pre_at (by have := HL.out; omega) hm HA.out (by
        have := HL.out
        by_cases e : k = 3
        · exact Or.inl e
        · exact Or.inr (fun h => by omega))
      go_wp2_with (go_at_call 42; refine (HK.out k HF.out hk).mono ?_; rintro e w1 ⟨rfl, hi1, hb1⟩)
      go_ret
      exact ⟨by rw [str_rest (by have := HL.out; omega) HF.out]; rfl, by assumption, by assumption⟩
set_option maxHeartbeats 1000000 in
theorem cut3_any (s : ByteArray) (b : Nat) (r c : Int) (x y : Bool) (w : World) (hs : s.size ≤ maxLen) (h : Cel w b r c x y) :
    Calls Tryd.prog 30 #[.string s, .int .i64 1, .func (.func 40) #[] #[], .func (.func 43) #[] #[.pointer (some ⟨b, 0, none⟩)]] w fun e w' => e = .returned (.string ⟨(rest fixB 1 s.data.toList).toArray⟩) ∧ Cel w' b r c (nonB (pre fixB 1 s.data.toList)) y ∧ Below b w w' := by
  unfold maxLen at hs
  have hl : s.data.toList.length = s.size := by simp
  have HK : Hid (∀ k, pre fixB 1 s.data.toList = s.data.toList.take k → k ≤ s.size → Calls Tryd.prog 43 #[.string (s.extract 0 k), .pointer (some ⟨b, 0, none⟩)] w fun e w' => e = .returned (.tuple #[]) ∧ Cel w' b r c (nonB (pre fixB 1 s.data.toList)) y ∧ Below b w w') := fun k hk hks => by
    have e := str_take s k
    rw [← hk] at e
    have hz : (s.extract 0 k).size ≤ 1 := by
      have := pre_len fixB 1 s.data.toList
      rw [← e] at this
      simpa using this
    have := parse3_any (s.extract 0 k) b r c x y w (by rw [e]; exact pre_all _ _ _) hz h
    rw [e] at this
    exact this
  have HL := hide hl
  clear hl h
  go_enter Tryd.func30, Tryd.ntmps30
  go_wp2
  go_loop [9] (fun nv => ∃ k : Nat, k ≤ s.size ∧ k ≤ 1 ∧ nv = .int .i64 k ∧ (s.data.toList.take k).all fixB = true) (fun nv => 1 - (intOf nv).toNat)
  case atStart => exact ⟨0, Nat.zero_le _, by omega, rfl, by simp⟩
  case round =>
    obtain ⟨k, hk, hm, rfl, ha⟩ := hrel
    have HA := hide ha
    clear ha
    by_cases hlt : k < s.size ∧ k < 1
    · obtain ⟨l1, l2⟩ := hlt
      have c1 : (k : Int) < min 1 (s.size : Int) := by omega
      have e0 : s[k] = s.data.toList[k]'(by have := HL.out; omega) := by rw [ByteArray.getElem_eq_getElem_data, Array.getElem_toList]
      cases hp : fixB s[k]
      · have HF : Hid (pre fixB 1 s.data.toList = s.data.toList.take k) := pre_at (by have := HL.out; omega) hm HA.out (Or.inr (fun h => by rw [← e0]; exact hp))
        clear e0
        go_wp2_with (first | (go_at_call 40; refine (isFixed_any _ _).mono ?_; rintro e wz ⟨rfl, hz⟩; subst wz) | (go_at_call 43; refine (HK.out k HF.out hk).mono ?_; rintro e w1 ⟨rfl, hi1, hb1⟩))
        go_ret
        exact ⟨by rw [str_rest (by have := HL.out; omega) HF.out]; rfl, by assumption, by assumption⟩
      · have HS : Hid ((s.data.toList.take (k + 1)).all fixB = true) := by
          have := HL.out
          show (s.data.toList.take (k + 1)).all fixB = true
          rw [List.take_succ_eq_append_getElem (by omega), List.all_append, HA.out, ← e0]
          simp [hp]
        clear e0
        go_wp2_with (go_at_call 40; refine (isFixed_any _ _).mono ?_; rintro e wz ⟨rfl, hz⟩; subst wz)
        go_round
        case rel => exact ⟨k + 1, by omega, by omega, by go_num, HS.out⟩
        case measure => simp [intOf]; omega
    · have c1 : ¬ (k : Int) < min 1 (s.size : Int) := by omega
      have HF : Hid (pre fixB 1 s.data.toList = s.data.toList.take k) := pre_at (by have := HL.out; omega) hm HA.out (by
        have := HL.out
        by_cases e : k = 1
        · exact Or.inl e
        · exact Or.inr (fun h => by omega))
      go_wp2_with (go_at_call 43; refine (HK.out k HF.out hk).mono ?_; rintro e w1 ⟨rfl, hi1, hb1⟩)
      go_ret
      exact ⟨by rw [str_rest (by have := HL.out; omega) HF.out]; rfl, by assumption, by assumption⟩
set_option maxHeartbeats 1000000 in
theorem cut4_any (s : ByteArray) (b : Nat) (r c : Int) (x y : Bool) (w : World) (hs : s.size ≤ maxLen) (h : Cel w b r c x y) :
    Calls Tryd.prog 30 #[.string s, .int .i64 7, .func (.func 44) #[] #[], .func (.func 45) #[] #[.pointer (some ⟨b, 0, none⟩)]] w fun e w' => e = .returned (.string ⟨(rest digB 7 s.data.toList).toArray⟩) ∧ Cel w' b (rowV (pre digB 7 s.data.toList)) c x y ∧ Below b w w' := by
  unfold maxLen at hs
  have hl : s.data.toList.length = s.size := by simp
  have HK : Hid (∀ k, pre digB 7 s.data.toList = s.data.toList.take k → k ≤ s.size → Calls Tryd.prog 45 #[.string (s.extract 0 k), .pointer (some ⟨b, 0, none⟩)] w fun e w' => e = .returned (.tuple #[]) ∧ Cel w' b (rowV (pre digB 7 s.data.toList)) c x y ∧ Below b w w') := fun k hk hks => by
    have e := str_take s k
    rw [← hk] at e
    have hz : (s.extract 0 k).size ≤ 7 := by
      have := pre_len digB 7 s.data.toList
      rw [← e] at this
      simpa using this
    have := parse4_any (s.extract 0 k) b r c x y w (by rw [e]; exact pre_all _ _ _) hz h
    rw [e] at this
    exact this
  have HL := hide hl
  clear hl h
  go_enter Tryd.func30, Tryd.ntmps30
  go_wp2
  go_loop [9] (fun nv => ∃ k : Nat, k ≤ s.size ∧ k ≤ 7 ∧ nv = .int .i64 k ∧ (s.data.toList.take k).all digB = true) (fun nv => 7 - (intOf nv).toNat)
  case atStart => exact ⟨0, Nat.zero_le _, by omega, rfl, by simp⟩
  case round =>
    obtain ⟨k, hk, hm, rfl, ha⟩ := hrel
    have HA := hide ha
    clear ha
    by_cases hlt : k < s.size ∧ k < 7
    · obtain ⟨l1, l2⟩ := hlt
      have c1 : (k : Int) < min 7 (s.size : Int) := by omega
      have e0 : s[k] = s.data.toList[k]'(by have := HL.out; omega) := by rw [ByteArray.getElem_eq_getElem_data, Array.getElem_toList]
      cases hp : digB s[k]
      · have HF : Hid (pre digB 7 s.data.toList = s.data.toList.take k) := pre_at (by have := HL.out; omega) hm HA.out (Or.inr (fun h => by rw [← e0]; exact hp))
        clear e0
        go_wp2_with (first | (go_at_call 44; refine (isDigit_any _ _).mono ?_; rintro e wz ⟨rfl, hz⟩; subst wz) | (go_at_call 45; refine (HK.out k HF.out hk).mono ?_; rintro e w1 ⟨rfl, hi1, hb1⟩))
        go_ret
        exact ⟨by rw [str_rest (by have := HL.out; omega) HF.out]; rfl, by assumption, by assumption⟩
      · have HS : Hid ((s.data.toList.take (k + 1)).all digB = true) := by
          have := HL.out
          show (s.data.toList.take (k + 1)).all digB = true
          rw [List.take_succ_eq_append_getElem (by omega), List.all_append, HA.out, ← e0]
          simp [hp]
        clear e0
        go_wp2_with (go_at_call 44; refine (isDigit_any _ _).mono ?_; rintro e wz ⟨rfl, hz⟩; subst wz)
        go_round
        case rel => exact ⟨k + 1, by omega, by omega, by go_num, HS.out⟩
        case measure => simp [intOf]; omega
    · have c1 : ¬ (k : Int) < min 7 (s.size : Int) := by omega
      have HF : Hid (pre digB 7 s.data.toList = s.data.toList.take k) := pre_at (by have := HL.out; omega) hm HA.out (by
        have := HL.out
        by_cases e : k = 7
        · exact Or.inl e
        · exact Or.inr (fun h => by omega))
      go_wp2_with (go_at_call 45; refine (HK.out k HF.out hk).mono ?_; rintro e w1 ⟨rfl, hi1, hb1⟩)
      go_ret
      exact ⟨by rw [str_rest (by have := HL.out; omega) HF.out]; rfl, by assumption, by assumption⟩
end Go.Proofs.YtpognkhobmbfcaaDoor
