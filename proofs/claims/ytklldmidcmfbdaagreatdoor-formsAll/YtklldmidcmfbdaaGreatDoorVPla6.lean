/-
  Out of Pt7, PlSt, PtBack, Pt9, Pt10, Pt11, what is asked for (laid by pack9.py).
-/
import Derived.Test.YtklldmidcmfbdaaGreatDoorVPla
import Derived.Test.YtklldmidcmfbdaaGreatDoorVPla5
import Derived.Deep.RegionHeld3
import Derived.Laws.IdiomStrings
import Derived.Lib.AppendIntMem
import Derived.Lib.AtoiErrMem
import Derived.Lib.MinMax
import Derived.Lib.OthersKept
import Derived.Lib.SmallJoins
import Derived.LoopN
import Derived.LoopTactic
import Derived.WalkKit
import Derived.WalkLawsBesides
import Derived.WalkSpells
namespace Go.Proofs.YtklldmidcmfbdaaGreatDoor.Pla
section
open Go.RowKit
/-- The cell in its block, the world above the start. -/
theorem CelS.below {W w' w2 : World} {p : Nat} {r c : Int} {x y : Bool} (h : w'.cell? ⟨p, 0, none⟩ = some (.int .i64 r) ∧ w'.cell? ⟨p, 1, none⟩ = some (.int .i64 c) ∧ w'.cell? ⟨p, 2, none⟩ = some (.bool x) ∧ w'.cell? ⟨p, 3, none⟩ = some (.bool y) ∧ p < w'.heap.size ∧ Below W.heap.size W w') (k : Below w'.heap.size w' w2) :
    w2.cell? ⟨p, 0, none⟩ = some (.int .i64 r) ∧ w2.cell? ⟨p, 1, none⟩ = some (.int .i64 c) ∧ w2.cell? ⟨p, 2, none⟩ = some (.bool x) ∧ w2.cell? ⟨p, 3, none⟩ = some (.bool y) ∧ p < w2.heap.size ∧ Below W.heap.size W w2 := by
  obtain ⟨h0, h1, h2, h3, h4, h5⟩ := h
  exact ⟨by rw [k.cell (p := ⟨p, 0, none⟩) h4]; exact h0, by rw [k.cell (p := ⟨p, 1, none⟩) h4]; exact h1, by rw [k.cell (p := ⟨p, 2, none⟩) h4]; exact h2, by rw [k.cell (p := ⟨p, 3, none⟩) h4]; exact h3, Nat.lt_of_lt_of_le h4 k.size, h5.trans (k.mono h5.size)⟩
theorem CelS.drew {W w' : World} {p : Nat} {r c : Int} {x y : Bool} (h : w'.cell? ⟨p, 0, none⟩ = some (.int .i64 r) ∧ w'.cell? ⟨p, 1, none⟩ = some (.int .i64 c) ∧ w'.cell? ⟨p, 2, none⟩ = some (.bool x) ∧ w'.cell? ⟨p, 3, none⟩ = some (.bool y) ∧ p < w'.heap.size ∧ Below W.heap.size W w') :
    w'.drew.cell? ⟨p, 0, none⟩ = some (.int .i64 r) ∧ w'.drew.cell? ⟨p, 1, none⟩ = some (.int .i64 c) ∧ w'.drew.cell? ⟨p, 2, none⟩ = some (.bool x) ∧ w'.drew.cell? ⟨p, 3, none⟩ = some (.bool y) ∧ p < w'.drew.heap.size ∧ Below W.heap.size W w'.drew := ⟨h.1, h.2.1, h.2.2.1, h.2.2.2.1, h.2.2.2.2.1, h.2.2.2.2.2.drew⟩
theorem CelS.out {W w' : World} {p : Nat} {r c : Int} {x y : Bool} (h : w'.cell? ⟨p, 0, none⟩ = some (.int .i64 r) ∧ w'.cell? ⟨p, 1, none⟩ = some (.int .i64 c) ∧ w'.cell? ⟨p, 2, none⟩ = some (.bool x) ∧ w'.cell? ⟨p, 3, none⟩ = some (.bool y) ∧ p < w'.heap.size ∧ Below W.heap.size W w') : Below W.heap.size W w' := h.2.2.2.2.2
end
section
open Go.RowKit
def All4 (w : World) : List (Nat × Int × Int × Int × Int) → Prop
  | [] => True
  | x :: l => At4 w x.1 x.2.1 x.2.2.1 x.2.2.2.1 x.2.2.2.2 ∧ All4 w l
def All2 (w : World) : List (Nat × Int × Int) → Prop
  | [] => True
  | x :: l => At2 w x.1 x.2.1 x.2.2 ∧ All2 w l
/-- A cell lies in a block of its own. -/
def AtC (w : World) (b : Nat) (r c : Int) (x y : Bool) : Prop := b < w.heap.size ∧ w.cell? ⟨b, 0, none⟩ = some (.int .i64 r) ∧ w.cell? ⟨b, 1, none⟩ = some (.int .i64 c) ∧ w.cell? ⟨b, 2, none⟩ = some (.bool x) ∧ w.cell? ⟨b, 3, none⟩ = some (.bool y)
def AllC (w : World) : List (Nat × Int × Int × Bool × Bool) → Prop
  | [] => True
  | x :: l => AtC w x.1 x.2.1 x.2.2.1 x.2.2.2.1 x.2.2.2.2 ∧ AllC w l
theorem AtC.below {w w' : World} {b : Nat} {r c : Int} {x y : Bool} (h : AtC w b r c x y) (k : Below w.heap.size w w') : AtC w' b r c x y :=
  ⟨Nat.lt_of_lt_of_le h.1 k.size, by rw [k.cell (p := ⟨b, 0, none⟩) h.1]; exact h.2.1, by rw [k.cell (p := ⟨b, 1, none⟩) h.1]; exact h.2.2.1, by rw [k.cell (p := ⟨b, 2, none⟩) h.1]; exact h.2.2.2.1, by rw [k.cell (p := ⟨b, 3, none⟩) h.1]; exact h.2.2.2.2⟩
theorem All4.below {w w' : World} (k : Below w.heap.size w w') : ∀ {l}, All4 w l → All4 w' l
  | [], _ => trivial
  | _ :: _, h => ⟨h.1.below k, All4.below k h.2⟩
theorem All2.below {w w' : World} (k : Below w.heap.size w w') : ∀ {l}, All2 w l → All2 w' l
  | [], _ => trivial
  | _ :: _, h => ⟨h.1.below k, All2.below k h.2⟩
theorem AllC.below {w w' : World} (k : Below w.heap.size w w') : ∀ {l}, AllC w l → AllC w' l
  | [], _ => trivial
  | _ :: _, h => ⟨h.1.below k, AllC.below k h.2⟩
/-- What lies where, and that all below the start is as it was. -/
def St (w : World) (a : List (Nat × Int × Int × Int × Int)) (b : List (Nat × Int × Int)) (c : List (Nat × Int × Int × Bool × Bool)) (w' : World) : Prop := All4 w' a ∧ All2 w' b ∧ AllC w' c ∧ Below w.heap.size w w'
theorem St.below {w w' w2 : World} {a : List (Nat × Int × Int × Int × Int)} {b : List (Nat × Int × Int)} {c : List (Nat × Int × Int × Bool × Bool)} (k : Below w'.heap.size w' w2) (h : St w a b c w') : St w a b c w2 :=
  ⟨h.1.below k, h.2.1.below k, h.2.2.1.below k, h.2.2.2.trans (k.mono h.2.2.2.size)⟩
theorem St.alloc {w w' : World} {a : List (Nat × Int × Int × Int × Int)} {b : List (Nat × Int × Int)} {c : List (Nat × Int × Int × Bool × Bool)} (h : St w a b c w') (o : Obj) : St w a b c (w'.alloc o) := St.below ((Below.refl _ _).alloc (Nat.le_refl _) o) h
theorem St.out {w w' : World} {a : List (Nat × Int × Int × Int × Int)} {b : List (Nat × Int × Int)} {c : List (Nat × Int × Int × Bool × Bool)} (h : St w a b c w') : Below w.heap.size w w' := h.2.2.2
end
section
open Go.RowKit
theorem pre_app {p : UInt8 → Bool} {m : Nat} (A T : List UInt8) (hA : A.all p = true) (hl : A.length ≤ m) (hT : A.length = m ∨ ∀ c, T.head? = some c → p c = false) : pre p m (A ++ T) = A ∧ rest p m (A ++ T) = T := by
  have e : (A ++ T).take A.length = A := by simp
  have h := pre_at (p := p) (m := m) (k := A.length) (l := A ++ T) (by simp) hl (by rw [e]; exact hA) (by
    rcases hT with h | h
    · exact Or.inl h
    · refine Or.inr fun hx => ?_
      have hx' : 0 < T.length := by simp at hx; omega
      rw [List.getElem_append_right (Nat.le_refl _)]
      simp only [Nat.sub_self]
      refine h _ ?_
      rw [List.head?_eq_getElem?, List.getElem?_eq_getElem hx'])
  refine ⟨h.trans e, ?_⟩
  rw [rest_at (by simp) h]; simp
theorem decV_snoc (l : List UInt8) (c : UInt8) : decV (l ++ [c]) = decV l * 10 + (c.toNat - 48) := by simp [decV]
end
section
open Go.RowKit
/-- A letter's number, 0 if it is none. -/
def letN (c : UInt8) : Nat := if letB c then letV c else 0
theorem letN_yes {c : UInt8} (h : letB c = true) : letN c = letV c := by simp [letN, h]
theorem letN_no {c : UInt8} (h : letB c = false) : letN c = 0 := by simp [letN, h]
set_option maxHeartbeats 400000 in
theorem rletter_any (c : UInt8) (w : World) : Calls Tryz.prog 114 #[.int .u8 (c.toNat : Int)] w fun e w' => e = .returned (.int .i64 (letN c)) ∧ w' = w := by
  have hu : c.toNat < 256 := UInt8.toNat_lt _
  by_cases a1 : (c.toNat : Int) ≥ 65
  · by_cases a2 : (c.toNat : Int) ≤ 90
    · rw [letN_yes (letB_iff.2 (by omega)), show (letV c : Int) = c.toNat - 65 + 1 by unfold letV; split <;> omega]
      go_enter Tryz.func114, Tryz.ntmps114
      go_wp2
      go_ret
      exact ⟨rfl, rfl⟩
    · by_cases a3 : (c.toNat : Int) ≥ 97
      · by_cases a4 : (c.toNat : Int) ≤ 122
        · rw [letN_yes (letB_iff.2 (by omega)), show (letV c : Int) = c.toNat - 97 + 1 by unfold letV; split <;> omega]
          go_enter Tryz.func114, Tryz.ntmps114
          go_wp2
          go_ret
          exact ⟨rfl, rfl⟩
        · rw [letN_no (letB_no.2 (by omega))]
          go_enter Tryz.func114, Tryz.ntmps114
          go_wp2
          go_ret
          exact ⟨rfl, rfl⟩
      · rw [letN_no (letB_no.2 (by omega))]
        go_enter Tryz.func114, Tryz.ntmps114
        go_wp2
        go_ret
        exact ⟨rfl, rfl⟩
  · rw [letN_no (letB_no.2 (by omega))]
    have a3 : ¬ (c.toNat : Int) ≥ 97 := by omega
    go_enter Tryz.func114, Tryz.ntmps114
    go_wp2
    go_ret
    exact ⟨rfl, rfl⟩
theorem columnR_len {l : List UInt8} (h : l.length = 0 ∨ 3 < l.length) : columnR l = (0, 5) := by
  unfold columnR
  rcases h with h | h
  · have : l = [] := List.eq_nil_of_length_eq_zero h
    subst this
    decide
  · rw [if_pos (Or.inr ?_)]
    have := pre_len letB 3 l
    unfold rest
    intro e
    have := congrArg List.length e
    simp at this; omega
theorem columnR_bad {l : List UInt8} {k : Nat} (hk : k < l.length) (h : letB l[k] = false) : columnR l = (0, 5) := by
  unfold columnR
  rw [if_pos (Or.inr ?_)]
  intro e
  have e1 : (pre letB 3 l).length = l.length := by
    have := congrArg List.length e
    have h2 : (pre letB 3 l).length ≤ l.length := by
      unfold pre
      have := (List.takeWhile_sublist letB (l := l.take 3)).length_le
      rw [List.length_take] at this; omega
    unfold rest at this
    simp at this; omega
  have e2 : pre letB 3 l = l := by
    unfold pre at *
    exact ((List.takeWhile_sublist letB).trans (List.take_sublist 3 l)).eq_of_length e1
  have := pre_all letB 3 l
  rw [e2, List.all_eq_true] at this
  rw [this _ (List.getElem_mem hk)] at h
  cases h
theorem columnR_good {l : List UInt8} (h0 : l ≠ []) (h3 : l.length ≤ 3) (ha : l.all letB = true) : columnR l = if colV l > 16384 then (0, 11) else ((colV l : Int), 0) := by
  have e2 : pre letB 3 l = l := by
    rw [pre_at (k := l.length) (Nat.le_refl _) h3 (by rw [List.take_length]; exact ha) (Or.inr fun h => by omega), List.take_length]
  have e3 : rest letB 3 l = [] := by unfold rest; rw [e2]; simp
  have e4 := col_pos h0 ha
  unfold columnR
  rw [e2, e3, if_neg (by simp; omega)]
  by_cases h : colV l > 16384
  · rw [if_pos h, colB_no.2 (by omega)]; rfl
  · rw [if_neg h, colB_iff.2 (by omega)]; rfl
set_option maxHeartbeats 1000000 in
theorem rcolumn_any (s : ByteArray) (w : World) (hs : s.size ≤ maxLen) :
    Calls Tryz.prog 115 #[.string s] w fun e w' => e = .returned (.tuple #[.int .i64 (columnR s.data.toList).1, .int .i64 (columnR s.data.toList).2]) ∧ w' = w := by
  unfold maxLen at hs
  have hl : s.data.toList.length = s.size := by simp
  by_cases h0 : s.size = 0
  · rw [columnR_len (l := s.data.toList) (Or.inl (by omega))]
    have e0 : ((s.size : Int) == 0) = true := by rw [h0]; rfl
    go_enter Tryz.func115, Tryz.ntmps115
    go_wp2
    go_ret2
    exact ⟨rfl, rfl⟩
  · have e0 : ((s.size : Int) == 0) = false := by rw [beq_eq_false_iff_ne]; omega
    by_cases h3 : (s.size : Int) > 3
    · rw [columnR_len (l := s.data.toList) (Or.inr (by omega))]
      go_enter Tryz.func115, Tryz.ntmps115
      go_wp2
      go_ret2
      exact ⟨rfl, rfl⟩
    · have HL := hide hl
      clear hl
      go_enter Tryz.func115, Tryz.ntmps115
      go_wp2
      go_loop [4, 5] (fun nv iv => ∃ k : Nat, k ≤ s.size ∧ iv = .int .i64 k ∧ nv = .int .i64 (colV (s.data.toList.take k)) ∧ (s.data.toList.take k).all letB = true) (fun _ iv => s.size - (intOf iv).toNat)
      case atStart => exact ⟨0, Nat.zero_le _, rfl, rfl, by simp⟩
      case round =>
        obtain ⟨k, hk, rfl, rfl, ha⟩ := hrel
        have HA := hide ha
        clear ha
        have hcb := col_bd (s.data.toList.take k) HA.out (by have := HL.out; rw [List.length_take]; omega)
        by_cases hlt : k < s.size
        · have hlt' : (k : Int) < (s.size : Int) := by omega
          have hkl : k < s.data.toList.length := by have := HL.out; omega
          have eb : s[k] = s.data.toList[k]'hkl := by rw [ByteArray.getElem_eq_getElem_data, Array.getElem_toList]
          have HS := hide (col_take hkl)
          have HTk := hide (List.take_succ_eq_append_getElem (l := s.data.toList) (i := k) hkl)
          cases hp : letB s[k]
          · have HN := hide (columnR_bad hkl (by rw [← eb]; exact hp))
            have hz := letN_no hp
            have hzi : ((letN s[k] : Int) == 0) = true := by rw [hz]; rfl
            clear eb
            go_wp2_with (go_at_call 114; refine (rletter_any _ _).mono ?_; rintro e wz ⟨rfl, hwz⟩; subst wz)
            go_ret2
            exact ⟨by rw [HN.out]; rfl, rfl⟩
          · have hv := letV_bd hp
            have hz := letN_yes hp
            rw [← eb] at HS HTk
            have hzi : ((letN s[k] : Int) == 0) = false := by rw [hz]; simp; omega
            have HP := hide hp
            have HZ := hide hz
            clear eb hp hz
            rw [← HZ.out] at hv HS
            generalize hN : letN s[k] = N at *
            have HRL : Hid (∀ W : World, Calls Tryz.prog 114 #[.int .u8 (s[k].toNat : Int)] W fun e w' => e = .returned (.int .i64 N) ∧ w' = W) := fun W => by have := rletter_any s[k] W; rw [hN] at this; exact this
            clear hN
            generalize colV (s.data.toList.take k) = C at *
            go_wp2_with (go_at_call 114; refine (HRL.out _).mono ?_; rintro e wz ⟨rfl, hwz⟩; subst wz)
            go_round
            case rel =>
              refine ⟨k + 1, by omega, by go_num, ?_, ?_⟩
              · rw [HS.out]; first | go_num | (congr 1; omega)
              · rw [HTk.out, List.all_append, HA.out]; simp [HP.out]
            case measure => simp [intOf]; omega
        · have hlt' : ¬ (k : Int) < (s.size : Int) := by omega
          have hkk : s.data.toList.take k = s.data.toList := List.take_of_length_le (by have := HL.out; omega)
          have HG := hide (columnR_good (l := s.data.toList) (by intro e; have := HL.out; rw [e] at this; simp at this; omega) (by have := HL.out; omega) (by rw [← hkk]; exact HA.out))
          rw [hkk] at hcb
          have HK := hide hkk
          clear hkk
          by_cases h4 : (colV s.data.toList : Int) > 16384
          · rw [HK.out]
            go_wp2
            go_ret2
            exact ⟨by rw [HG.out, if_pos (by omega)]; rfl, rfl⟩
          · rw [HK.out]
            go_wp2
            go_ret2
            exact ⟨by rw [HG.out, if_neg (by omega)]; rfl, rfl⟩
end
section
open Go.RowKit
theorem str_back (s : ByteArray) : (⟨s.data.toList.toArray⟩ : ByteArray) = s := by cases s; simp
theorem fix_yes (t : List UInt8) : pre fixB 1 (36 :: t) = [36] ∧ rest fixB 1 (36 :: t) = t := pre_app [36] t (by decide) (by decide) (Or.inl rfl)
theorem fix_no {l : List UInt8} (h : ∀ c, l.head? = some c → c.toNat ≠ 36) : pre fixB 1 l = [] ∧ rest fixB 1 l = l := pre_app [] l (by decide) (by decide) (Or.inr (fun c hc => by unfold fixB; simp; exact h c hc))
set_option maxHeartbeats 1000000 in
theorem rdollar_any (s : ByteArray) (w : World) (hs : s.size ≤ maxLen) :
    Calls Tryz.prog 113 #[.string s] w fun e w' => e = .returned (.tuple #[.string ⟨(rest fixB 1 s.data.toList).toArray⟩, .bool (nonB (pre fixB 1 s.data.toList))]) ∧ w' = w := by
  unfold maxLen at hs
  have hl : s.data.toList.length = s.size := by simp
  by_cases h0 : (s.size : Int) > 0
  · have hpos : 0 < s.size := by omega
    have e0 : s[0] = s.data.toList[0]'(by omega) := by rw [ByteArray.getElem_eq_getElem_data, Array.getElem_toList]
    have hd : s.data.toList = s[0] :: s.data.toList.drop 1 := by
      rw [e0]
      conv => lhs; rw [← List.drop_zero (l := s.data.toList), List.drop_eq_getElem_cons (by omega)]
    by_cases h1 : s[0].toNat = 36
    · have hc : s[0] = 36 := UInt8.toNat_inj.1 h1
      have HE : Hid (nonB (pre fixB 1 s.data.toList) = true ∧ rest fixB 1 s.data.toList = s.data.toList.drop 1) := by
        have := fix_yes (s.data.toList.drop 1)
        rw [← hc, ← hd] at this
        exact ⟨by rw [this.1]; rfl, this.2⟩
      have e1 : ((s[0].toNat : Int) == 36) = true := by rw [h1]; rfl
      clear hc hd e0
      go_enter Tryz.func113, Tryz.ntmps113
      go_wp2
      go_ret2
      refine ⟨?_, rfl⟩
      rw [HE.out.1, HE.out.2, ← str_drop, str_back]
      rfl
    · have HE : Hid (nonB (pre fixB 1 s.data.toList) = false ∧ rest fixB 1 s.data.toList = s.data.toList) := by
        have := fix_no (l := s.data.toList) (by intro c hc; rw [hd] at hc; simp at hc; rw [← hc]; exact h1)
        exact ⟨by rw [this.1]; rfl, this.2⟩
      have e1 : ((s[0].toNat : Int) == 36) = false := by rw [beq_eq_false_iff_ne]; omega
      clear hd e0
      go_enter Tryz.func113, Tryz.ntmps113
      go_wp2
      go_ret2
      refine ⟨?_, rfl⟩
      rw [HE.out.1, HE.out.2, str_back]
      rfl
  · have HE : Hid (nonB (pre fixB 1 s.data.toList) = false ∧ rest fixB 1 s.data.toList = s.data.toList) := by
      have hn : s.data.toList = [] := List.eq_nil_of_length_eq_zero (by omega)
      rw [hn]; exact ⟨rfl, rfl⟩
    go_enter Tryz.func113, Tryz.ntmps113
    go_wp2
    go_ret2
    refine ⟨?_, rfl⟩
    rw [HE.out.1, HE.out.2, str_back]
    rfl
end
section
open Go.RowKit
theorem syn_col {l : List UInt8} (h : pCol l = 0) : parseR l = (0, 0, false, false, 5) := by unfold parseR; rw [if_pos (Or.inl h)]
theorem syn_row {l : List UInt8} (h : pRow l = 0) : parseR l = (0, 0, false, false, 5) := by unfold parseR; rw [if_pos (Or.inr (Or.inl h))]
theorem syn_rest {l : List UInt8} (h : p4 l ≠ []) : parseR l = (0, 0, false, false, 5) := by unfold parseR; rw [if_pos (Or.inr (Or.inr h))]
/-- No letter. -/
theorem none_let {l : List UInt8} (h : ∀ h : 0 < (p1 l).length, letB (p1 l)[0] = false) : parseR l = (0, 0, false, false, 5) := by
  apply syn_col
  have := pre_at (p := letB) (m := 3) (k := 0) (l := p1 l) (Nat.zero_le _) (by decide) (by simp) (Or.inr h)
  unfold pCol; rw [this]; rfl
/-- Four letters, or more. -/
theorem four_let {l : List UInt8} {k : Nat} (hk : k ≤ (p1 l).length) (h3 : 3 < k) (ha : ((p1 l).take k).all letB = true) : parseR l = (0, 0, false, false, 5) := by
  apply syn_row
  have h0 := pre_at (p := letB) (m := 3) (k := 3) (l := p1 l) (by omega) (by decide) (by
    have := all_take 3 ha
    rw [List.take_take, Nat.min_eq_left (by omega)] at this
    exact this) (Or.inl rfl)
  have e2 : p2 l = (p1 l).drop 3 := rest_at (by omega) h0
  have hh : letB ((p1 l)[3]'(by omega)) = true := by
    rw [List.all_eq_true] at ha
    refine ha _ ?_
    rw [List.mem_take_iff_getElem]
    exact ⟨3, by omega, rfl⟩
  have e3 : p2 l = (p1 l)[3]'(by omega) :: (p1 l).drop 4 := by rw [e2, List.drop_eq_getElem_cons (by omega)]
  have hl := letB_iff.1 hh
  clear hh e2
  generalize (p1 l)[3]'(by omega) = q at *
  have e4 : p3 l = p2 l := by
    have := fix_no (l := p2 l) (by rw [e3]; intro c hc; rw [List.head?_cons] at hc; rw [← Option.some.inj hc]; omega)
    exact this.2
  have e5 := pre_app (p := digB) (m := 7) [] (p3 l) (by simp) (by decide) (Or.inr (by rw [e4, e3]; intro c hc; rw [List.head?_cons] at hc; rw [← Option.some.inj hc, digB_no]; omega))
  unfold pRow
  rw [List.nil_append] at e5
  rw [e5.1]; rfl
/-- One to three letters. -/
theorem some_let {l : List UInt8} {k : Nat} (hk : k ≤ (p1 l).length) (h3 : k ≤ 3) (ha : ((p1 l).take k).all letB = true) (hn : ∀ h : k < (p1 l).length, letB (p1 l)[k] = false) : pCol l = colV ((p1 l).take k) ∧ p2 l = (p1 l).drop k := by
  have h0 := pre_at (p := letB) (m := 3) (k := k) (l := p1 l) hk h3 ha (Or.inr hn)
  exact ⟨by unfold pCol; rw [h0], rest_at hk h0⟩
theorem bad_len {l : List UInt8} (h : (p3 l).length = 0 ∨ 7 < (p3 l).length) : parseR l = (0, 0, false, false, 5) := by
  rcases h with h | h
  · apply syn_row
    unfold pRow
    rw [List.eq_nil_of_length_eq_zero h]; rfl
  · apply syn_rest
    intro e
    have h1 := congrArg List.length e
    have h2 := pre_len digB 7 (p3 l)
    unfold p4 rest at h1
    simp at h1; omega
theorem bad_nought {l : List UInt8} (h0 : 0 < (p3 l).length) (h : (p3 l)[0].toNat = 48) : parseR l = (0, 0, false, false, 5) := by
  apply syn_row
  have e : p3 l = (p3 l)[0] :: (p3 l).drop 1 := by
    conv => lhs; rw [← List.drop_zero (l := p3 l), List.drop_eq_getElem_cons h0]
  have hc : (p3 l)[0] = 48 := UInt8.toNat_inj.1 h
  rw [hc] at e
  unfold pRow
  rw [e]
  show rowV ((48 :: ((p3 l).drop 1).take 6).takeWhile digB) = 0
  rw [List.takeWhile_cons, if_pos (by decide)]
  exact rowV_zero _
theorem bad_digit {l : List UInt8} {k : Nat} (hk : k < (p3 l).length) (h : digB (p3 l)[k] = false) : parseR l = (0, 0, false, false, 5) := by
  apply syn_rest
  intro e
  have e1 : (pre digB 7 (p3 l)).length = (p3 l).length := by
    have := congrArg List.length e
    have h2 : (pre digB 7 (p3 l)).length ≤ (p3 l).length := by
      unfold pre
      have := (List.takeWhile_sublist digB (l := (p3 l).take 7)).length_le
      rw [List.length_take] at this; omega
    unfold p4 rest at this
    simp at this; omega
  have e2 : pre digB 7 (p3 l) = p3 l := by
    unfold pre at *
    exact ((List.takeWhile_sublist digB).trans (List.take_sublist 7 (p3 l))).eq_of_length e1
  have := pre_all digB 7 (p3 l)
  rw [e2, List.all_eq_true] at this
  rw [this _ (List.getElem_mem hk)] at h
  cases h
theorem dec_pos {l : List UInt8} (h0 : 0 < l.length) (hn : l[0].toNat ≠ 48) (ha : l.all digB = true) : 1 ≤ decV l := by
  have e : l = l[0] :: l.drop 1 := by
    conv => lhs; rw [← List.drop_zero (l := l), List.drop_eq_getElem_cons h0]
  have hd := digB_iff.1 (List.all_eq_true.1 ha _ (List.getElem_mem h0))
  have : ∀ (t : List UInt8) (acc : Nat), acc ≤ t.foldl (fun n c => n * 10 + (c.toNat - 48)) acc := by
    intro t
    induction t with
    | nil => intro acc; exact Nat.le_refl _
    | cons c t ih => intro acc; exact Nat.le_trans (show acc ≤ acc * 10 + (c.toNat - 48) by omega) (ih _)
  have h1 := this (l.drop 1) (0 * 10 + (l[0].toNat - 48))
  rw [e]
  unfold decV
  rw [List.foldl_cons]
  omega
/-- All digits. -/
theorem good_digits {l : List UInt8} (h0 : 0 < (p3 l).length) (h7 : (p3 l).length ≤ 7) (hn : (p3 l)[0].toNat ≠ 48) (ha : (p3 l).all digB = true) (hc : pCol l ≠ 0) :
    parseR l = if placeB (decV (p3 l)) (pCol l) then ((decV (p3 l) : Int), (pCol l : Int), pFixR l, pFixC l, 0) else (0, 0, false, false, 11) := by
  have k := pre_app (p := digB) (m := 7) (p3 l) [] ha h7 (Or.inr (by simp))
  rw [List.append_nil] at k
  have e : p3 l = (p3 l)[0] :: (p3 l).drop 1 := by
    conv => lhs; rw [← List.drop_zero (l := p3 l), List.drop_eq_getElem_cons h0]
  have er : pRow l = decV (p3 l) := by
    unfold pRow
    rw [k.1, e, rowV_dec (fun x => hn (by rw [x]; rfl))]
  have e4 : p4 l = [] := k.2
  have hpos : pRow l ≠ 0 := by rw [er]; have := dec_pos h0 hn ha; omega
  unfold parseR
  rw [e4, if_neg (by simp [hc, hpos]), er]
theorem dec_take {l : List UInt8} {k : Nat} (hk : k < l.length) : decV (l.take (k + 1)) = decV (l.take k) * 10 + (l[k].toNat - 48) := by
  rw [List.take_succ_eq_append_getElem hk, decV_snoc]
theorem dec_bd (l : List UInt8) (ha : l.all digB = true) : decV l < 10 ^ l.length := by
  have h := dec_from l 0 ha
  have := Lib.decFrom_lt l 0 _ h
  unfold decV; omega
end
end Go.Proofs.YtklldmidcmfbdaaGreatDoor.Pla
