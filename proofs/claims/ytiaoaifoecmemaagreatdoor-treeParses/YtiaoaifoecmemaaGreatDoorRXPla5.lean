/-
  Out of Pt5, Pt6, what is asked for (laid by pack.py).
-/
import Derived.Test.YtiaoaifoecmemaaGreatDoorRXPla
set_option maxRecDepth 100000
set_option maxHeartbeats 4000000
namespace Go.Proofs.YtiaoaifoecmemaaGreatDoor.Pla
section
open Go.RowKit
def nonB (l : List UInt8) : Bool := !(l == [])
def Cel (w : World) (b : Nat) (r c : Int) (x y : Bool) : Prop :=
 (b < w.heap.size ∧ w.cell? ⟨b, 0, none⟩ = some (.int .i64 r) ∧ w.cell? ⟨b, 1, none⟩ = some (.int .i64 c) ∧ w.cell? ⟨b, 2, none⟩ = some (.bool x) ∧ w.cell? ⟨b, 3, none⟩ = some (.bool y)) ∧
 w.frozen? ⟨b, 0, none⟩ = false ∧ w.frozen? ⟨b, 1, none⟩ = false ∧ w.frozen? ⟨b, 2, none⟩ = false ∧ w.frozen? ⟨b, 3, none⟩ = false
theorem Cel.new (w : World) (r c : Int) (x y : Bool) (t : TypeId) : Cel (w.alloc (.cells #[.int .i64 r, .int .i64 c, .bool x, .bool y] t)) w.heap.size r c x y :=
 ⟨⟨by simp, by simp [go_sem], by simp [go_sem], by simp [go_sem], by simp [go_sem]⟩, by simp, by simp, by simp, by simp⟩
theorem Cel.block {w w' : World} {b : Nat} {r c : Int} {x y : Bool} (h : Cel w b r c x y) (hs : w.heap.size ≤ w'.heap.size) (hb : w'.heap[b]? = w.heap[b]?) : Cel w' b r c x y := by
 obtain ⟨⟨h0, h1, h2, h3, h4⟩, f1, f2, f3, f4⟩ := h
 refine ⟨⟨Nat.lt_of_lt_of_le h0 hs, ?_, ?_, ?_, ?_⟩, ?_, ?_, ?_, ?_⟩
 all_goals first | (rw [World.cell?_of_block (w := w) hb]; assumption) | (rw [World.frozen?_of_block (w := w) hb]; assumption)
theorem Cel.below {w w' : World} {b : Nat} {r c : Int} {x y : Bool} (h : Cel w b r c x y) (k : Below w.heap.size w w') : Cel w' b r c x y := h.block k.size (k.block b h.1.1)
theorem off_ne {b : Nat} {i j : Nat} (h : i ≠ j) : (⟨b, i, none⟩ : Addr) ≠ ⟨b, j, none⟩ := fun e => h (congrArg Addr.off e)
theorem Cel.set0 {w : World} {b : Nat} {r c : Int} {x y : Bool} (h : Cel w b r c x y) (v : Int) : Cel (w.setCell ⟨b, 0, none⟩ (.int .i64 v)) b v c x y := by
 obtain ⟨⟨h0, h1, h2, h3, h4⟩, f1, f2, f3, f4⟩ := h
 refine ⟨⟨by simpa using h0, World.cell?_setCell_same _ _ _ h1, ?_, ?_, ?_⟩, ?_, ?_, ?_, ?_⟩
 all_goals first | (rw [World.cell?_setCell_other (h := off_ne (by decide))]; assumption) | (rw [World.frozen?_setCell]; assumption)
theorem Cel.set1 {w : World} {b : Nat} {r c : Int} {x y : Bool} (h : Cel w b r c x y) (v : Int) : Cel (w.setCell ⟨b, 1, none⟩ (.int .i64 v)) b r v x y := by
 obtain ⟨⟨h0, h1, h2, h3, h4⟩, f1, f2, f3, f4⟩ := h
 refine ⟨⟨by simpa using h0, ?_, World.cell?_setCell_same _ _ _ h2, ?_, ?_⟩, ?_, ?_, ?_, ?_⟩
 all_goals first | (rw [World.cell?_setCell_other (h := off_ne (by decide))]; assumption) | (rw [World.frozen?_setCell]; assumption)
theorem Cel.set2 {w : World} {b : Nat} {r c : Int} {x y : Bool} (h : Cel w b r c x y) (v : Bool) : Cel (w.setCell ⟨b, 2, none⟩ (.bool v)) b r c v y := by
 obtain ⟨⟨h0, h1, h2, h3, h4⟩, f1, f2, f3, f4⟩ := h
 refine ⟨⟨by simpa using h0, ?_, ?_, World.cell?_setCell_same _ _ _ h3, ?_⟩, ?_, ?_, ?_, ?_⟩
 all_goals first | (rw [World.cell?_setCell_other (h := off_ne (by decide))]; assumption) | (rw [World.frozen?_setCell]; assumption)
theorem Cel.set3 {w : World} {b : Nat} {r c : Int} {x y : Bool} (h : Cel w b r c x y) (v : Bool) : Cel (w.setCell ⟨b, 3, none⟩ (.bool v)) b r c x v := by
 obtain ⟨⟨h0, h1, h2, h3, h4⟩, f1, f2, f3, f4⟩ := h
 refine ⟨⟨by simpa using h0, ?_, ?_, ?_, World.cell?_setCell_same _ _ _ h4⟩, ?_, ?_, ?_, ?_⟩
 all_goals first | (rw [World.cell?_setCell_other (h := off_ne (by decide))]; assumption) | (rw [World.frozen?_setCell]; assumption)
theorem parse1_any (f : ByteArray) (b : Nat) (r c : Int) (x y : Bool) (w : World) (_ha : f.data.toList.all fixB = true) (_hs : f.size ≤ 1) (h : Cel w b r c x y) :
  Calls Tryz.prog 191 #[.string f, .pointer (some ⟨b, 0, none⟩)] w fun e w' => e = .returned (.tuple #[]) ∧ Cel w' b r c x (nonB f.data.toList) ∧ Below b w w' := by
 obtain ⟨⟨l⟩⟩ := f
 have H := hide h
 obtain ⟨⟨z, k0, k1, k2, k3⟩, f0, f1, f2, f3⟩ := h
 show Calls Tryz.prog 191 #[.string ⟨⟨l⟩⟩, .pointer (some ⟨b, 0, none⟩)] w fun e w' => e = .returned (.tuple #[]) ∧ Cel w' b r c x (nonB l) ∧ Below b w w'
 unfold nonB
 cases e1 : (l == [])
 all_goals
  go_enter Tryz.func191, Tryz.ntmps191
  go_wp2
  go_end0
  exact ⟨rfl, H.out.set3 _, (Below.refl b w).setCell (Nat.le_refl _) _⟩
theorem parse2_any (f : ByteArray) (b : Nat) (r c : Int) (x y : Bool) (w : World) (ha : f.data.toList.all letB = true) (hs : f.size ≤ 3) (h : Cel w b r c x y) :
  Calls Tryz.prog 193 #[.string f, .pointer (some ⟨b, 0, none⟩)] w fun e w' => e = .returned (.tuple #[]) ∧ Cel w' b r (colV f.data.toList) x y ∧ Below b w w' := by
 have HC : Hid (∀ W : World, Calls Tryz.prog 194 #[.string f] W fun e w' => e = .returned (.int .i64 (colV f.data.toList)) ∧ Below W.heap.size W w') := fun W => columnOf_any f W ha hs
 have H := hide h
 clear h ha hs
 generalize colV f.data.toList = C at *
 go_enter Tryz.func193, Tryz.ntmps193
 go_wp2_with (go_at_call 194; refine (HC.out _).mono ?_; rintro e w1 ⟨rfl, hb1⟩; have hc1 := H.out.below hb1; have ⟨⟨z1, k0, k1, k2, k3⟩, f0, f1, f2, f3⟩ := hc1; have HC1 := hide hc1; clear hc1)
 go_end0
 exact ⟨rfl, HC1.out.set1 _, (hb1.mono (Nat.le_of_lt H.out.1.1)).setCell (Nat.le_refl _) _⟩
theorem parse3_any (f : ByteArray) (b : Nat) (r c : Int) (x y : Bool) (w : World) (_ha : f.data.toList.all fixB = true) (_hs : f.size ≤ 1) (h : Cel w b r c x y) :
  Calls Tryz.prog 195 #[.string f, .pointer (some ⟨b, 0, none⟩)] w fun e w' => e = .returned (.tuple #[]) ∧ Cel w' b r c (nonB f.data.toList) y ∧ Below b w w' := by
 obtain ⟨⟨l⟩⟩ := f
 have H := hide h
 obtain ⟨⟨z, k0, k1, k2, k3⟩, f0, f1, f2, f3⟩ := h
 show Calls Tryz.prog 195 #[.string ⟨⟨l⟩⟩, .pointer (some ⟨b, 0, none⟩)] w fun e w' => e = .returned (.tuple #[]) ∧ Cel w' b r c (nonB l) y ∧ Below b w w'
 unfold nonB
 cases e1 : (l == [])
 all_goals
  go_enter Tryz.func195, Tryz.ntmps195
  go_wp2
  go_end0
  exact ⟨rfl, H.out.set2 _, (Below.refl b w).setCell (Nat.le_refl _) _⟩
theorem parse4_any (f : ByteArray) (b : Nat) (r c : Int) (x y : Bool) (w : World) (ha : f.data.toList.all digB = true) (hs : f.size ≤ 7) (h : Cel w b r c x y) :
  Calls Tryz.prog 197 #[.string f, .pointer (some ⟨b, 0, none⟩)] w fun e w' => e = .returned (.tuple #[]) ∧ Cel w' b (rowV f.data.toList) c x y ∧ Below b w w' := by
 have HC : Hid (∀ W : World, Calls Tryz.prog 198 #[.string f] W fun e w' => e = .returned (.int .i64 (rowV f.data.toList)) ∧ Below W.heap.size W w') := fun W => rowOf_any f W ha hs
 have H := hide h
 clear h ha hs
 generalize rowV f.data.toList = C at *
 go_enter Tryz.func197, Tryz.ntmps197
 go_wp2_with (go_at_call 198; refine (HC.out _).mono ?_; rintro e w1 ⟨rfl, hb1⟩; have hc1 := H.out.below hb1; have ⟨⟨z1, k0, k1, k2, k3⟩, f0, f1, f2, f3⟩ := hc1; have HC1 := hide hc1; clear hc1)
 go_end0
 exact ⟨rfl, HC1.out.set0 _, (hb1.mono (Nat.le_of_lt H.out.1.1)).setCell (Nat.le_refl _) _⟩
theorem cut1_any (s : ByteArray) (b : Nat) (r c : Int) (x y : Bool) (w : World) (hs : s.size ≤ maxLen) (h : Cel w b r c x y) :
    Calls Tryz.prog 189 #[.string s, .int .i64 1, .func (.func 190) #[] #[], .func (.func 191) #[] #[.pointer (some ⟨b, 0, none⟩)]] w fun e w' => e = .returned (.string ⟨(rest fixB 1 s.data.toList).toArray⟩) ∧ Cel w' b r c x (nonB (pre fixB 1 s.data.toList)) ∧ Below b w w' := by
  unfold maxLen at hs
  have hl : s.data.toList.length = s.size := by simp
  have HK : Hid (∀ k, pre fixB 1 s.data.toList = s.data.toList.take k → k ≤ s.size → Calls Tryz.prog 191 #[.string (s.extract 0 k), .pointer (some ⟨b, 0, none⟩)] w fun e w' => e = .returned (.tuple #[]) ∧ Cel w' b r c x (nonB (pre fixB 1 s.data.toList)) ∧ Below b w w') := fun k hk hks => by
    have e := str_take s k
    rw [← hk] at e
    have hz : (s.extract 0 k).size ≤ 1 := by
      have := pre_len fixB 1 s.data.toList
      rw [← e] at this
      simpa using this
    have := parse1_any (s.extract 0 k) b r c x y w (by rw [e]; exact pre_all _ _ _) hz h
    rw [e] at this
    exact this
  have HL := hide hl
  clear hl h
  go_enter Tryz.func189, Tryz.ntmps189
  go_wp2
  go_loop [9] (fun nv => ∃ k : Nat, k ≤ s.size ∧ k ≤ 1 ∧ nv = .int .i64 k ∧ (s.data.toList.take k).all fixB = true) (fun nv => 1 - (intOf nv).toNat)
  case atStart => exact ⟨0, Nat.zero_le _, by omega, rfl, by simp⟩
  case round =>
    obtain ⟨k, hk, hm, rfl, ha⟩ := hrel
    have HA := hide ha
    clear ha
    by_cases hlt : k < s.size ∧ k < 1
    · obtain ⟨l1, l2⟩ := hlt
      have c1 : (k : Int) < min 1 (s.size : Int) := by omega
      have e0 : s[k] = s.data.toList[k]'(by have := HL.out; omega) := by rw [ByteArray.getElem_eq_getElem_data, Array.getElem_toList]
      cases hp : fixB s[k]
      · have HF : Hid (pre fixB 1 s.data.toList = s.data.toList.take k) := pre_at (by have := HL.out; omega) hm HA.out (Or.inr (fun h => by rw [← e0]; exact hp))
        clear e0
        go_wp2_with (first | (go_at_call 190; refine (isFixed_any _ _).mono ?_; rintro e wz ⟨rfl, hz⟩; subst wz) | (go_at_call 191; refine (HK.out k HF.out hk).mono ?_; rintro e w1 ⟨rfl, hi1, hb1⟩))
        go_ret
        exact ⟨by rw [str_rest (by have := HL.out; omega) HF.out]; rfl, by assumption, by assumption⟩
      · have HS : Hid ((s.data.toList.take (k + 1)).all fixB = true) := by
          have := HL.out
          show (s.data.toList.take (k + 1)).all fixB = true
          rw [List.take_succ_eq_append_getElem (by omega), List.all_append, HA.out, ← e0]
          simp [hp]
        clear e0
        go_wp2_with (go_at_call 190; refine (isFixed_any _ _).mono ?_; rintro e wz ⟨rfl, hz⟩; subst wz)
        go_round
        case rel => exact ⟨k + 1, by omega, by omega, by go_num, HS.out⟩
        case measure => simp [intOf]; omega
    · have c1 : ¬ (k : Int) < min 1 (s.size : Int) := by omega
      have HF : Hid (pre fixB 1 s.data.toList = s.data.toList.take k) := pre_at (by have := HL.out; omega) hm HA.out (by
        have := HL.out
        by_cases e : k = 1
        · exact Or.inl e
        · exact Or.inr (fun h => by omega))
      go_wp2_with (go_at_call 191; refine (HK.out k HF.out hk).mono ?_; rintro e w1 ⟨rfl, hi1, hb1⟩)
      go_ret
      exact ⟨by rw [str_rest (by have := HL.out; omega) HF.out]; rfl, by assumption, by assumption⟩
theorem cut2_any (s : ByteArray) (b : Nat) (r c : Int) (x y : Bool) (w : World) (hs : s.size ≤ maxLen) (h : Cel w b r c x y) :
    Calls Tryz.prog 189 #[.string s, .int .i64 3, .func (.func 192) #[] #[], .func (.func 193) #[] #[.pointer (some ⟨b, 0, none⟩)]] w fun e w' => e = .returned (.string ⟨(rest letB 3 s.data.toList).toArray⟩) ∧ Cel w' b r (colV (pre letB 3 s.data.toList)) x y ∧ Below b w w' := by
  unfold maxLen at hs
  have hl : s.data.toList.length = s.size := by simp
  have HK : Hid (∀ k, pre letB 3 s.data.toList = s.data.toList.take k → k ≤ s.size → Calls Tryz.prog 193 #[.string (s.extract 0 k), .pointer (some ⟨b, 0, none⟩)] w fun e w' => e = .returned (.tuple #[]) ∧ Cel w' b r (colV (pre letB 3 s.data.toList)) x y ∧ Below b w w') := fun k hk hks => by
    have e := str_take s k
    rw [← hk] at e
    have hz : (s.extract 0 k).size ≤ 3 := by
      have := pre_len letB 3 s.data.toList
      rw [← e] at this
      simpa using this
    have := parse2_any (s.extract 0 k) b r c x y w (by rw [e]; exact pre_all _ _ _) hz h
    rw [e] at this
    exact this
  have HL := hide hl
  clear hl h
  go_enter Tryz.func189, Tryz.ntmps189
  go_wp2
  go_loop [9] (fun nv => ∃ k : Nat, k ≤ s.size ∧ k ≤ 3 ∧ nv = .int .i64 k ∧ (s.data.toList.take k).all letB = true) (fun nv => 3 - (intOf nv).toNat)
  case atStart => exact ⟨0, Nat.zero_le _, by omega, rfl, by simp⟩
  case round =>
    obtain ⟨k, hk, hm, rfl, ha⟩ := hrel
    have HA := hide ha
    clear ha
    by_cases hlt : k < s.size ∧ k < 3
    · obtain ⟨l1, l2⟩ := hlt
      have c1 : (k : Int) < min 3 (s.size : Int) := by omega
      have e0 : s[k] = s.data.toList[k]'(by have := HL.out; omega) := by rw [ByteArray.getElem_eq_getElem_data, Array.getElem_toList]
      cases hp : letB s[k]
      · have HF : Hid (pre letB 3 s.data.toList = s.data.toList.take k) := pre_at (by have := HL.out; omega) hm HA.out (Or.inr (fun h => by rw [← e0]; exact hp))
        clear e0
        go_wp2_with (first | (go_at_call 192; refine (isLetter_any _ _).mono ?_; rintro e wz ⟨rfl, hz⟩; subst wz) | (go_at_call 193; refine (HK.out k HF.out hk).mono ?_; rintro e w1 ⟨rfl, hi1, hb1⟩))
        go_ret
        exact ⟨by rw [str_rest (by have := HL.out; omega) HF.out]; rfl, by assumption, by assumption⟩
      · have HS : Hid ((s.data.toList.take (k + 1)).all letB = true) := by
          have := HL.out
          show (s.data.toList.take (k + 1)).all letB = true
          rw [List.take_succ_eq_append_getElem (by omega), List.all_append, HA.out, ← e0]
          simp [hp]
        clear e0
        go_wp2_with (go_at_call 192; refine (isLetter_any _ _).mono ?_; rintro e wz ⟨rfl, hz⟩; subst wz)
        go_round
        case rel => exact ⟨k + 1, by omega, by omega, by go_num, HS.out⟩
        case measure => simp [intOf]; omega
    · have c1 : ¬ (k : Int) < min 3 (s.size : Int) := by omega
      have HF : Hid (pre letB 3 s.data.toList = s.data.toList.take k) := pre_at (by have := HL.out; omega) hm HA.out (by
        have := HL.out
        by_cases e : k = 3
        · exact Or.inl e
        · exact Or.inr (fun h => by omega))
      go_wp2_with (go_at_call 193; refine (HK.out k HF.out hk).mono ?_; rintro e w1 ⟨rfl, hi1, hb1⟩)
      go_ret
      exact ⟨by rw [str_rest (by have := HL.out; omega) HF.out]; rfl, by assumption, by assumption⟩
theorem cut3_any (s : ByteArray) (b : Nat) (r c : Int) (x y : Bool) (w : World) (hs : s.size ≤ maxLen) (h : Cel w b r c x y) :
    Calls Tryz.prog 189 #[.string s, .int .i64 1, .func (.func 190) #[] #[], .func (.func 195) #[] #[.pointer (some ⟨b, 0, none⟩)]] w fun e w' => e = .returned (.string ⟨(rest fixB 1 s.data.toList).toArray⟩) ∧ Cel w' b r c (nonB (pre fixB 1 s.data.toList)) y ∧ Below b w w' := by
  unfold maxLen at hs
  have hl : s.data.toList.length = s.size := by simp
  have HK : Hid (∀ k, pre fixB 1 s.data.toList = s.data.toList.take k → k ≤ s.size → Calls Tryz.prog 195 #[.string (s.extract 0 k), .pointer (some ⟨b, 0, none⟩)] w fun e w' => e = .returned (.tuple #[]) ∧ Cel w' b r c (nonB (pre fixB 1 s.data.toList)) y ∧ Below b w w') := fun k hk hks => by
    have e := str_take s k
    rw [← hk] at e
    have hz : (s.extract 0 k).size ≤ 1 := by
      have := pre_len fixB 1 s.data.toList
      rw [← e] at this
      simpa using this
    have := parse3_any (s.extract 0 k) b r c x y w (by rw [e]; exact pre_all _ _ _) hz h
    rw [e] at this
    exact this
  have HL := hide hl
  clear hl h
  go_enter Tryz.func189, Tryz.ntmps189
  go_wp2
  go_loop [9] (fun nv => ∃ k : Nat, k ≤ s.size ∧ k ≤ 1 ∧ nv = .int .i64 k ∧ (s.data.toList.take k).all fixB = true) (fun nv => 1 - (intOf nv).toNat)
  case atStart => exact ⟨0, Nat.zero_le _, by omega, rfl, by simp⟩
  case round =>
    obtain ⟨k, hk, hm, rfl, ha⟩ := hrel
    have HA := hide ha
    clear ha
    by_cases hlt : k < s.size ∧ k < 1
    · obtain ⟨l1, l2⟩ := hlt
      have c1 : (k : Int) < min 1 (s.size : Int) := by omega
      have e0 : s[k] = s.data.toList[k]'(by have := HL.out; omega) := by rw [ByteArray.getElem_eq_getElem_data, Array.getElem_toList]
      cases hp : fixB s[k]
      · have HF : Hid (pre fixB 1 s.data.toList = s.data.toList.take k) := pre_at (by have := HL.out; omega) hm HA.out (Or.inr (fun h => by rw [← e0]; exact hp))
        clear e0
        go_wp2_with (first | (go_at_call 190; refine (isFixed_any _ _).mono ?_; rintro e wz ⟨rfl, hz⟩; subst wz) | (go_at_call 195; refine (HK.out k HF.out hk).mono ?_; rintro e w1 ⟨rfl, hi1, hb1⟩))
        go_ret
        exact ⟨by rw [str_rest (by have := HL.out; omega) HF.out]; rfl, by assumption, by assumption⟩
      · have HS : Hid ((s.data.toList.take (k + 1)).all fixB = true) := by
          have := HL.out
          show (s.data.toList.take (k + 1)).all fixB = true
          rw [List.take_succ_eq_append_getElem (by omega), List.all_append, HA.out, ← e0]
          simp [hp]
        clear e0
        go_wp2_with (go_at_call 190; refine (isFixed_any _ _).mono ?_; rintro e wz ⟨rfl, hz⟩; subst wz)
        go_round
        case rel => exact ⟨k + 1, by omega, by omega, by go_num, HS.out⟩
        case measure => simp [intOf]; omega
    · have c1 : ¬ (k : Int) < min 1 (s.size : Int) := by omega
      have HF : Hid (pre fixB 1 s.data.toList = s.data.toList.take k) := pre_at (by have := HL.out; omega) hm HA.out (by
        have := HL.out
        by_cases e : k = 1
        · exact Or.inl e
        · exact Or.inr (fun h => by omega))
      go_wp2_with (go_at_call 195; refine (HK.out k HF.out hk).mono ?_; rintro e w1 ⟨rfl, hi1, hb1⟩)
      go_ret
      exact ⟨by rw [str_rest (by have := HL.out; omega) HF.out]; rfl, by assumption, by assumption⟩
theorem cut4_any (s : ByteArray) (b : Nat) (r c : Int) (x y : Bool) (w : World) (hs : s.size ≤ maxLen) (h : Cel w b r c x y) :
    Calls Tryz.prog 189 #[.string s, .int .i64 7, .func (.func 196) #[] #[], .func (.func 197) #[] #[.pointer (some ⟨b, 0, none⟩)]] w fun e w' => e = .returned (.string ⟨(rest digB 7 s.data.toList).toArray⟩) ∧ Cel w' b (rowV (pre digB 7 s.data.toList)) c x y ∧ Below b w w' := by
  unfold maxLen at hs
  have hl : s.data.toList.length = s.size := by simp
  have HK : Hid (∀ k, pre digB 7 s.data.toList = s.data.toList.take k → k ≤ s.size → Calls Tryz.prog 197 #[.string (s.extract 0 k), .pointer (some ⟨b, 0, none⟩)] w fun e w' => e = .returned (.tuple #[]) ∧ Cel w' b (rowV (pre digB 7 s.data.toList)) c x y ∧ Below b w w') := fun k hk hks => by
    have e := str_take s k
    rw [← hk] at e
    have hz : (s.extract 0 k).size ≤ 7 := by
      have := pre_len digB 7 s.data.toList
      rw [← e] at this
      simpa using this
    have := parse4_any (s.extract 0 k) b r c x y w (by rw [e]; exact pre_all _ _ _) hz h
    rw [e] at this
    exact this
  have HL := hide hl
  clear hl h
  go_enter Tryz.func189, Tryz.ntmps189
  go_wp2
  go_loop [9] (fun nv => ∃ k : Nat, k ≤ s.size ∧ k ≤ 7 ∧ nv = .int .i64 k ∧ (s.data.toList.take k).all digB = true) (fun nv => 7 - (intOf nv).toNat)
  case atStart => exact ⟨0, Nat.zero_le _, by omega, rfl, by simp⟩
  case round =>
    obtain ⟨k, hk, hm, rfl, ha⟩ := hrel
    have HA := hide ha
    clear ha
    by_cases hlt : k < s.size ∧ k < 7
    · obtain ⟨l1, l2⟩ := hlt
      have c1 : (k : Int) < min 7 (s.size : Int) := by omega
      have e0 : s[k] = s.data.toList[k]'(by have := HL.out; omega) := by rw [ByteArray.getElem_eq_getElem_data, Array.getElem_toList]
      cases hp : digB s[k]
      · have HF : Hid (pre digB 7 s.data.toList = s.data.toList.take k) := pre_at (by have := HL.out; omega) hm HA.out (Or.inr (fun h => by rw [← e0]; exact hp))
        clear e0
        go_wp2_with (first | (go_at_call 196; refine (isDigit_any _ _).mono ?_; rintro e wz ⟨rfl, hz⟩; subst wz) | (go_at_call 197; refine (HK.out k HF.out hk).mono ?_; rintro e w1 ⟨rfl, hi1, hb1⟩))
        go_ret
        exact ⟨by rw [str_rest (by have := HL.out; omega) HF.out]; rfl, by assumption, by assumption⟩
      · have HS : Hid ((s.data.toList.take (k + 1)).all digB = true) := by
          have := HL.out
          show (s.data.toList.take (k + 1)).all digB = true
          rw [List.take_succ_eq_append_getElem (by omega), List.all_append, HA.out, ← e0]
          simp [hp]
        clear e0
        go_wp2_with (go_at_call 196; refine (isDigit_any _ _).mono ?_; rintro e wz ⟨rfl, hz⟩; subst wz)
        go_round
        case rel => exact ⟨k + 1, by omega, by omega, by go_num, HS.out⟩
        case measure => simp [intOf]; omega
    · have c1 : ¬ (k : Int) < min 7 (s.size : Int) := by omega
      have HF : Hid (pre digB 7 s.data.toList = s.data.toList.take k) := pre_at (by have := HL.out; omega) hm HA.out (by
        have := HL.out
        by_cases e : k = 7
        · exact Or.inl e
        · exact Or.inr (fun h => by omega))
      go_wp2_with (go_at_call 197; refine (HK.out k HF.out hk).mono ?_; rintro e w1 ⟨rfl, hi1, hb1⟩)
      go_ret
      exact ⟨by rw [str_rest (by have := HL.out; omega) HF.out]; rfl, by assumption, by assumption⟩
end
section
open Go.RowKit
def p1 (l : List UInt8) : List UInt8 := rest fixB 1 l
def p2 (l : List UInt8) : List UInt8 := rest letB 3 (p1 l)
def p3 (l : List UInt8) : List UInt8 := rest fixB 1 (p2 l)
def p4 (l : List UInt8) : List UInt8 := rest digB 7 (p3 l)
def pCol (l : List UInt8) : Nat := colV (pre letB 3 (p1 l))
def pRow (l : List UInt8) : Nat := rowV (pre digB 7 (p3 l))
def pFixC (l : List UInt8) : Bool := nonB (pre fixB 1 l)
def pFixR (l : List UInt8) : Bool := nonB (pre fixB 1 (p2 l))
def parseR (l : List UInt8) : Int × Int × Bool × Bool × Int :=
 if pCol l = 0 ∨ pRow l = 0 ∨ p4 l ≠ [] then (0, 0, false, false, 5) else if placeB (pRow l) (pCol l) then (pRow l, pCol l, pFixR l, pFixC l, 0) else (0, 0, false, false, 11)
theorem rest_len (p : UInt8 → Bool) (m : Nat) (l : List UInt8) : (rest p m l).length ≤ l.length := by unfold rest; simp
theorem ba_size (l : List UInt8) : (⟨l.toArray⟩ : ByteArray).size = l.length := by show l.toArray.size = _; simp
theorem Cel.under {w w' : World} {b d : Nat} {r c : Int} {x y : Bool} (h : Cel w b r c x y) (k : Below d w w') (hd : b < d) : Cel w' b r c x y := h.block k.size (k.block b hd)
theorem Cel.alloc {w : World} {b : Nat} {r c : Int} {x y : Bool} (h : Cel w b r c x y) (o : Obj) : Cel (w.alloc o) b r c x y := h.below ((Below.refl _ _).alloc (Nat.le_refl _) o)
theorem parse_any (s : ByteArray) (w : World) (hs : s.size ≤ maxLen) :
    Calls Tryz.prog 164 #[.string s] w fun e w' => e = .returned (.tuple #[.agg #[.int .i64 (parseR s.data.toList).1, .int .i64 (parseR s.data.toList).2.1, .bool (parseR s.data.toList).2.2.1, .bool (parseR s.data.toList).2.2.2.1], .int .i64 (parseR s.data.toList).2.2.2.2]) ∧ Below w.heap.size w w' := by
  have hl : s.data.toList.length = s.size := by simp
  have q1 : (p1 s.data.toList).length ≤ s.size := by rw [← hl]; exact rest_len _ _ _
  have q2 : (p2 s.data.toList).length ≤ s.size := Nat.le_trans (rest_len _ _ _) q1
  have q3 : (p3 s.data.toList).length ≤ s.size := Nat.le_trans (rest_len _ _ _) q2
  have H1 : Hid (∀ (W : World) (b : Nat) (r c : Int) (x y : Bool), Cel W b r c x y → Calls Tryz.prog 189 #[.string s, .int .i64 1, .func (.func 190) #[] #[], .func (.func 191) #[] #[.pointer (some ⟨b, 0, none⟩)]] W fun e w' => e = .returned (.string ⟨(p1 s.data.toList).toArray⟩) ∧ Cel w' b r c x (pFixC s.data.toList) ∧ Below b W w') := fun W b r c x y h => cut1_any s b r c x y W hs h
  have H2 : Hid (∀ (W : World) (b : Nat) (r c : Int) (x y : Bool), Cel W b r c x y → Calls Tryz.prog 189 #[.string ⟨(p1 s.data.toList).toArray⟩, .int .i64 3, .func (.func 192) #[] #[], .func (.func 193) #[] #[.pointer (some ⟨b, 0, none⟩)]] W fun e w' => e = .returned (.string ⟨(p2 s.data.toList).toArray⟩) ∧ Cel w' b r (pCol s.data.toList) x y ∧ Below b W w') := fun W b r c x y h => cut2_any ⟨(p1 s.data.toList).toArray⟩ b r c x y W (by rw [ba_size]; omega) h
  have H3 : Hid (∀ (W : World) (b : Nat) (r c : Int) (x y : Bool), Cel W b r c x y → Calls Tryz.prog 189 #[.string ⟨(p2 s.data.toList).toArray⟩, .int .i64 1, .func (.func 190) #[] #[], .func (.func 195) #[] #[.pointer (some ⟨b, 0, none⟩)]] W fun e w' => e = .returned (.string ⟨(p3 s.data.toList).toArray⟩) ∧ Cel w' b r c (pFixR s.data.toList) y ∧ Below b W w') := fun W b r c x y h => cut3_any ⟨(p2 s.data.toList).toArray⟩ b r c x y W (by rw [ba_size]; omega) h
  have H4 : Hid (∀ (W : World) (b : Nat) (r c : Int) (x y : Bool), Cel W b r c x y → Calls Tryz.prog 189 #[.string ⟨(p3 s.data.toList).toArray⟩, .int .i64 7, .func (.func 196) #[] #[], .func (.func 197) #[] #[.pointer (some ⟨b, 0, none⟩)]] W fun e w' => e = .returned (.string ⟨(p4 s.data.toList).toArray⟩) ∧ Cel w' b (pRow s.data.toList) c x y ∧ Below b W w') := fun W b r c x y h => cut4_any ⟨(p3 s.data.toList).toArray⟩ b r c x y W (by rw [ba_size]; omega) h
  clear q1 q2 q3 hl hs
  have HC0 : Hid (Cel ((w.alloc (.cells #[.int .i64 0, .int .i64 0, .bool false, .bool false] 31)).alloc (.cells #[.int .i64 0, .int .i64 0, .bool false, .bool false] 31)) (w.heap.size + 1) 0 0 false false) := by
    have := Cel.new (w.alloc (.cells #[.int .i64 0, .int .i64 0, .bool false, .bool false] 31)) 0 0 false false 31
    show Cel _ _ _ _ _ _
    simpa using this
  unfold parseR
  generalize pCol s.data.toList = C at *
  generalize pRow s.data.toList = R at *
  generalize pFixC s.data.toList = X at *
  generalize pFixR s.data.toList = Y at *
  generalize p1 s.data.toList = l1 at *
  generalize p2 s.data.toList = l2 at *
  generalize p3 s.data.toList = l3 at *
  generalize p4 s.data.toList = l4 at *
  by_cases h1 : C = 0
  · subst h1
    rw [if_pos (Or.inl rfl)]
    go_enter Tryz.func164, Tryz.ntmps164
    go_wp2_with fail
    refine (H1.out _ _ _ _ _ _ HC0.out).mono ?_
    rintro e w1 ⟨rfl, hc1, hb1⟩
    have hr1 := ((Cel.new w 0 0 false false 31).alloc (.cells #[.int .i64 0, .int .i64 0, .bool false, .bool false] 31)).under hb1 (by simp)
    go_wp2_with fail
    refine (H2.out _ _ _ _ _ _ hc1).mono ?_
    rintro e w2 ⟨rfl, hc2, hb2⟩
    have hr2 := hr1.under hb2 (by simp)
    clear hc1 hr1
    go_wp2_with fail
    refine (H3.out _ _ _ _ _ _ hc2).mono ?_
    rintro e w3 ⟨rfl, hc3, hb3⟩
    have hr3 := hr2.under hb3 (by simp)
    clear hc2 hr2
    go_wp2_with fail
    refine (H4.out _ _ _ _ _ _ hc3).mono ?_
    rintro e w4 ⟨rfl, hc4, hb4⟩
    have hr4 := hr3.under hb4 (by simp)
    clear hc3 hr3
    have ⟨⟨z1, k0, k1, k2, k3⟩, f0, f1, f2, f3⟩ := hc4
    have ⟨⟨y1, j0, j1, j2, j3⟩, g0, g1, g2, g3⟩ := hr4
    clear hc4 hr4
    go_wp2
    refine bodyPost_ret (v := .tuple #[.agg #[.int .i64 0, .int .i64 0, .bool false, .bool false], .int .i64 5]) (by simp [results, Tryz.results164, go_sem, *]) rfl ⟨rfl, ?_⟩
    repeat' (first | with_reducible (first | exact Below.refl _ _ | refine Below.setCell ?_ ?_ _ | refine Below.alloc ?_ ?_ _ | refine below_drewN ?_ _ | refine Below.drew ?_ | refine Below.trans ?_ (Below.mono (by assumption) ?_) | exact Nat.le_refl _ | refine Nat.le_trans ?_ (Below.size (by assumption)) | refine zzA ?_ | refine zzB ?_ | refine zzC ?_ | refine zzD ?_) | (simp; done) | (simp; omega) | omega)
  · have e1 : ((C : Int) == 0) = false := by simp; omega
    by_cases h2 : R = 0
    · subst h2
      rw [if_pos (Or.inr (Or.inl rfl))]
      go_enter Tryz.func164, Tryz.ntmps164
      go_wp2_with fail
      refine (H1.out _ _ _ _ _ _ HC0.out).mono ?_
      rintro e w1 ⟨rfl, hc1, hb1⟩
      have hr1 := ((Cel.new w 0 0 false false 31).alloc (.cells #[.int .i64 0, .int .i64 0, .bool false, .bool false] 31)).under hb1 (by simp)
      go_wp2_with fail
      refine (H2.out _ _ _ _ _ _ hc1).mono ?_
      rintro e w2 ⟨rfl, hc2, hb2⟩
      have hr2 := hr1.under hb2 (by simp)
      clear hc1 hr1
      go_wp2_with fail
      refine (H3.out _ _ _ _ _ _ hc2).mono ?_
      rintro e w3 ⟨rfl, hc3, hb3⟩
      have hr3 := hr2.under hb3 (by simp)
      clear hc2 hr2
      go_wp2_with fail
      refine (H4.out _ _ _ _ _ _ hc3).mono ?_
      rintro e w4 ⟨rfl, hc4, hb4⟩
      have hr4 := hr3.under hb4 (by simp)
      clear hc3 hr3
      have ⟨⟨z1, k0, k1, k2, k3⟩, f0, f1, f2, f3⟩ := hc4
      have ⟨⟨y1, j0, j1, j2, j3⟩, g0, g1, g2, g3⟩ := hr4
      clear hc4 hr4
      go_wp2
      refine bodyPost_ret (v := .tuple #[.agg #[.int .i64 0, .int .i64 0, .bool false, .bool false], .int .i64 5]) (by simp [results, Tryz.results164, go_sem, *]) rfl ⟨rfl, ?_⟩
      repeat' (first | with_reducible (first | exact Below.refl _ _ | refine Below.setCell ?_ ?_ _ | refine Below.alloc ?_ ?_ _ | refine below_drewN ?_ _ | refine Below.drew ?_ | refine Below.trans ?_ (Below.mono (by assumption) ?_) | exact Nat.le_refl _ | refine Nat.le_trans ?_ (Below.size (by assumption)) | refine zzA ?_ | refine zzB ?_ | refine zzC ?_ | refine zzD ?_) | (simp; done) | (simp; omega) | omega)
    · have e2 : ((R : Int) == 0) = false := by simp; omega
      by_cases h3 : l4 = []
      · subst h3
        rw [if_neg (by simp [h1, h2])]
        clear h1 h2
        cases e4 : placeB (R : Int) (C : Int)
        · go_enter Tryz.func164, Tryz.ntmps164
          go_wp2_with fail
          refine (H1.out _ _ _ _ _ _ HC0.out).mono ?_
          rintro e w1 ⟨rfl, hc1, hb1⟩
          have hr1 := ((Cel.new w 0 0 false false 31).alloc (.cells #[.int .i64 0, .int .i64 0, .bool false, .bool false] 31)).under hb1 (by simp)
          go_wp2_with fail
          refine (H2.out _ _ _ _ _ _ hc1).mono ?_
          rintro e w2 ⟨rfl, hc2, hb2⟩
          have hr2 := hr1.under hb2 (by simp)
          clear hc1 hr1
          go_wp2_with fail
          refine (H3.out _ _ _ _ _ _ hc2).mono ?_
          rintro e w3 ⟨rfl, hc3, hb3⟩
          have hr3 := hr2.under hb3 (by simp)
          clear hc2 hr2
          go_wp2_with fail
          refine (H4.out _ _ _ _ _ _ hc3).mono ?_
          rintro e w4 ⟨rfl, hc4, hb4⟩
          have hr4 := hr3.under hb4 (by simp)
          clear hc3 hr3
          have ⟨⟨z1, k0, k1, k2, k3⟩, f0, f1, f2, f3⟩ := hc4
          have ⟨⟨y1, j0, j1, j2, j3⟩, g0, g1, g2, g3⟩ := hr4
          clear hc4 hr4
          go_wp2_with (go_at_call 119; refine (isPlace_any _ _ _).mono ?_; rw [e4]; rintro e wz ⟨rfl, hz⟩; subst wz)
          refine bodyPost_ret (v := .tuple #[.agg #[.int .i64 0, .int .i64 0, .bool false, .bool false], .int .i64 11]) (by simp [results, Tryz.results164, go_sem, *]) rfl ⟨rfl, ?_⟩
          repeat' (first | with_reducible (first | exact Below.refl _ _ | refine Below.setCell ?_ ?_ _ | refine Below.alloc ?_ ?_ _ | refine below_drewN ?_ _ | refine Below.drew ?_ | refine Below.trans ?_ (Below.mono (by assumption) ?_) | exact Nat.le_refl _ | refine Nat.le_trans ?_ (Below.size (by assumption)) | refine zzA ?_ | refine zzB ?_ | refine zzC ?_ | refine zzD ?_) | (simp; done) | (simp; omega) | omega)
        · go_enter Tryz.func164, Tryz.ntmps164
          go_wp2_with fail
          refine (H1.out _ _ _ _ _ _ HC0.out).mono ?_
          rintro e w1 ⟨rfl, hc1, hb1⟩
          have hr1 := ((Cel.new w 0 0 false false 31).alloc (.cells #[.int .i64 0, .int .i64 0, .bool false, .bool false] 31)).under hb1 (by simp)
          go_wp2_with fail
          refine (H2.out _ _ _ _ _ _ hc1).mono ?_
          rintro e w2 ⟨rfl, hc2, hb2⟩
          have hr2 := hr1.under hb2 (by simp)
          clear hc1 hr1
          go_wp2_with fail
          refine (H3.out _ _ _ _ _ _ hc2).mono ?_
          rintro e w3 ⟨rfl, hc3, hb3⟩
          have hr3 := hr2.under hb3 (by simp)
          clear hc2 hr2
          go_wp2_with fail
          refine (H4.out _ _ _ _ _ _ hc3).mono ?_
          rintro e w4 ⟨rfl, hc4, hb4⟩
          have hr4 := hr3.under hb4 (by simp)
          clear hc3 hr3
          have ⟨⟨z1, k0, k1, k2, k3⟩, f0, f1, f2, f3⟩ := hc4
          have ⟨⟨y1, j0, j1, j2, j3⟩, g0, g1, g2, g3⟩ := hr4
          clear hc4 hr4
          go_wp2_with (go_at_call 119; refine (isPlace_any _ _ _).mono ?_; rw [e4]; rintro e wz ⟨rfl, hz⟩; subst wz)
          refine bodyPost_ret (v := .tuple #[.agg #[.int .i64 R, .int .i64 C, .bool Y, .bool X], .int .i64 0]) (by simp [results, Tryz.results164, go_sem, *]) rfl ⟨rfl, ?_⟩
          repeat' (first | with_reducible (first | exact Below.refl _ _ | refine Below.setCell ?_ ?_ _ | refine Below.alloc ?_ ?_ _ | refine below_drewN ?_ _ | refine Below.drew ?_ | refine Below.trans ?_ (Below.mono (by assumption) ?_) | exact Nat.le_refl _ | refine Nat.le_trans ?_ (Below.size (by assumption)) | refine zzA ?_ | refine zzB ?_ | refine zzC ?_ | refine zzD ?_) | (simp; done) | (simp; omega) | omega)
      · rw [if_pos (Or.inr (Or.inr h3))]
        have e3 : (l4 == []) = false := by simpa using h3
        go_enter Tryz.func164, Tryz.ntmps164
        go_wp2_with fail
        refine (H1.out _ _ _ _ _ _ HC0.out).mono ?_
        rintro e w1 ⟨rfl, hc1, hb1⟩
        have hr1 := ((Cel.new w 0 0 false false 31).alloc (.cells #[.int .i64 0, .int .i64 0, .bool false, .bool false] 31)).under hb1 (by simp)
        go_wp2_with fail
        refine (H2.out _ _ _ _ _ _ hc1).mono ?_
        rintro e w2 ⟨rfl, hc2, hb2⟩
        have hr2 := hr1.under hb2 (by simp)
        clear hc1 hr1
        go_wp2_with fail
        refine (H3.out _ _ _ _ _ _ hc2).mono ?_
        rintro e w3 ⟨rfl, hc3, hb3⟩
        have hr3 := hr2.under hb3 (by simp)
        clear hc2 hr2
        go_wp2_with fail
        refine (H4.out _ _ _ _ _ _ hc3).mono ?_
        rintro e w4 ⟨rfl, hc4, hb4⟩
        have hr4 := hr3.under hb4 (by simp)
        clear hc3 hr3
        have ⟨⟨z1, k0, k1, k2, k3⟩, f0, f1, f2, f3⟩ := hc4
        have ⟨⟨y1, j0, j1, j2, j3⟩, g0, g1, g2, g3⟩ := hr4
        clear hc4 hr4
        go_wp2
        refine bodyPost_ret (v := .tuple #[.agg #[.int .i64 0, .int .i64 0, .bool false, .bool false], .int .i64 5]) (by simp [results, Tryz.results164, go_sem, *]) rfl ⟨rfl, ?_⟩
        repeat' (first | with_reducible (first | exact Below.refl _ _ | refine Below.setCell ?_ ?_ _ | refine Below.alloc ?_ ?_ _ | refine below_drewN ?_ _ | refine Below.drew ?_ | refine Below.trans ?_ (Below.mono (by assumption) ?_) | exact Nat.le_refl _ | refine Nat.le_trans ?_ (Below.size (by assumption)) | refine zzA ?_ | refine zzB ?_ | refine zzC ?_ | refine zzD ?_) | (simp; done) | (simp; omega) | omega)
end
end Go.Proofs.YtiaoaifoecmemaaGreatDoor.Pla
