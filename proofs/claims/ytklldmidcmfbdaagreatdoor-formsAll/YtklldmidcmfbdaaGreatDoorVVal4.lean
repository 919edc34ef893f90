/-
  Out of Val4, ValMem, Names, RefBytes, what is asked for (laid by pack9.py).
-/
import Derived.Test.YtklldmidcmfbdaaGreatDoorVNum
import Derived.Test.YtklldmidcmfbdaaGreatDoorVVal
import Derived.Test.YtklldmidcmfbdaaGreatDoorVVal3
import Derived.BigCall
import Derived.BigGuard
import Derived.BigQuiet
import Derived.ChangeArms
import Derived.Deep.QuietTactic
import Derived.Deep.RegionHeld3
import Derived.Deep.RegionWith
import Derived.Laws.Cover1
import Derived.Laws.EntriesVeiled
import Derived.Laws.IdiomStrings
import Derived.Lib.AppendIntMem
import Derived.Lib.IndexMore
import Derived.Lib.ItoaMem
import Derived.Lib.LaidTab
import Derived.Lib.OthersKept
import Derived.Lib.SmallJoins
import Derived.Lib.Walk
import Derived.LoopTactic
import Derived.WalkKit
import Derived.WalkLawsBesides
import Derived.WalkSpells
import Derived.WideShapes
namespace Go.Proofs.YtklldmidcmfbdaaGreatDoor
section
open Go.RowKit
/-- Behind a call on a value that lies in a new block. -/
theorem box_cells {w w1 : World} {k n : Int} {s : ByteArray} {b : Bool} {c : Int} {t : TypeId} (hb : Below (w.alloc (.cells #[.int .i64 k, .int .i64 n, .string s, .bool b, .int .i64 c] t)).heap.size (w.alloc (.cells #[.int .i64 k, .int .i64 n, .string s, .bool b, .int .i64 c] t)) w1) :
    w1.cell? ⟨w.heap.size, 0, none⟩ = some (.int .i64 k) ∧ w1.cell? ⟨w.heap.size, 1, none⟩ = some (.int .i64 n) ∧ w1.cell? ⟨w.heap.size, 2, none⟩ = some (.string s) ∧ w1.cell? ⟨w.heap.size, 3, none⟩ = some (.bool b) ∧ w1.cell? ⟨w.heap.size, 4, none⟩ = some (.int .i64 c) ∧ w.heap.size < w1.heap.size ∧ Below w.heap.size w w1 :=
  BoxS.below (BoxS.new w k n s b c t) hb
set_option maxHeartbeats 400000 in
theorem checkV_any (k n : Int) (s : ByteArray) (b : Bool) (c : Int) (w : World) (hz : s.size ≤ maxLen) :
    Calls Tryz.prog 100 #[.agg #[.int .i64 k, .int .i64 n, .string s, .bool b, .int .i64 c]] w fun e w' => e = .returned (.int .i64 (checkV k n s b c)) ∧ Below w.heap.size w w' := by
  have HR : Hid (∀ W : World, Calls Tryz.prog 111 #[.agg #[.int .i64 k, .int .i64 n, .string s, .bool b, .int .i64 c]] W fun e w' => e = .returned (.bool (rightB k n s b c)) ∧ Below W.heap.size W w') := fun W => right_any k n s b c W hz
  clear hz
  have HV : Hid (checkV k n s b c = if rightB k n s b c then 0 else 2) := rfl
  generalize rightB k n s b c = r at *
  cases r
  all_goals
    go_enter Tryz.func100, Tryz.ntmps100
    go_wp2_with (go_at_call 111; refine (HR.out _).mono ?_; rintro e w1 ⟨rfl, hb1⟩; obtain ⟨q0, q1, q2, q3, q4, q5, q6⟩ := box_cells hb1)
    go_ret
    exact ⟨by rw [HV.out]; rfl, q6⟩
end
section
open Go.RowKit
/-- A value lies in a block that may be written. -/
def HasV (w : World) (p : Nat) (k n : Int) (s : ByteArray) (b : Bool) (c : Int) : Prop :=
  AtV w p k n s b c ∧ w.frozen? ⟨p, 0, none⟩ = false ∧ w.frozen? ⟨p, 1, none⟩ = false ∧ w.frozen? ⟨p, 2, none⟩ = false ∧ w.frozen? ⟨p, 3, none⟩ = false ∧ w.frozen? ⟨p, 4, none⟩ = false
theorem HasV.at (w : World) (p : Nat) (k n : Int) (s : ByteArray) (b : Bool) (c : Int) (t : TypeId) (h : p = w.heap.size) : HasV (w.alloc (.cells #[.int .i64 k, .int .i64 n, .string s, .bool b, .int .i64 c] t)) p k n s b c := by
  refine ⟨AtV.at w p k n s b c t h, ?_⟩
  subst h
  exact ⟨by simp, by simp, by simp, by simp, by simp⟩
theorem HasV.alloc {w : World} {p : Nat} {k n : Int} {s : ByteArray} {b : Bool} {c : Int} (h : HasV w p k n s b c) (o : Obj) : HasV (w.alloc o) p k n s b c := by
  obtain ⟨a, h0, h1, h2, h3, h4⟩ := h
  have l := a.1
  exact ⟨a.alloc o, by rw [World.frozen?_alloc_past _ _ _ l]; exact h0, by rw [World.frozen?_alloc_past _ _ _ l]; exact h1, by rw [World.frozen?_alloc_past _ _ _ l]; exact h2, by rw [World.frozen?_alloc_past _ _ _ l]; exact h3, by rw [World.frozen?_alloc_past _ _ _ l]; exact h4⟩
theorem HasV.below {w w' : World} {p : Nat} {k n : Int} {s : ByteArray} {b : Bool} {c : Int} (h : HasV w p k n s b c) (q : Below w.heap.size w w') : HasV w' p k n s b c := by
  obtain ⟨a, h0, h1, h2, h3, h4⟩ := h
  have l := a.1
  exact ⟨a.below q, by rw [q.frozen (p := ⟨p, 0, none⟩) l]; exact h0, by rw [q.frozen (p := ⟨p, 1, none⟩) l]; exact h1, by rw [q.frozen (p := ⟨p, 2, none⟩) l]; exact h2, by rw [q.frozen (p := ⟨p, 3, none⟩) l]; exact h3, by rw [q.frozen (p := ⟨p, 4, none⟩) l]; exact h4⟩
theorem HasV.drew {w : World} {p : Nat} {k n : Int} {s : ByteArray} {b : Bool} {c : Int} (h : HasV w p k n s b c) : HasV w.drew p k n s b c := h
theorem HasV.drewN {w : World} {p : Nat} {k n : Int} {s : ByteArray} {b : Bool} {c : Int} (h : HasV w p k n s b c) (m : Nat) : HasV (w.drewN m) p k n s b c := h
end
section
open Go.RowKit
/-- The faults' names, by their codes. -/
def names : List (List UInt8) := [[], [35, 68, 73, 86, 47, 48, 33], [35, 86, 65, 76, 85, 69, 33], [35, 82, 69, 70, 33], [35, 78, 65, 77, 69, 63], [35, 78, 85, 77, 33], [35, 78, 47, 65], [35, 67, 89, 67, 76, 69, 33]]
def nameL (i : Nat) : List UInt8 := names.getD i []
set_option maxHeartbeats 1000000 in
theorem names_any (w : World) :
    Calls Tryz.prog 105 #[] w fun e w' => e = .returned (.slice (some ⟨w.heap.size, 0, none⟩) 8 8) ∧ w' = w.alloc (.cells (names.map fun l => Value.string ⟨l.toArray⟩).toArray 9) := by
  go_enter Tryz.func105, Tryz.ntmps105
  go_wp2
  go_ret
  exact ⟨rfl, rfl⟩
end
section
open Go.RowKit
theorem cut_at (l : List UInt8) (k : Nat) (h : k < l.length) : l = l.take k ++ l[k] :: l.drop (k + 1) := by
  rw [← List.drop_eq_getElem_cons h, List.take_append_drop]
theorem cmpL_diff (l m : List UInt8) (k : Nat) (hl : k < l.length) (hm : k < m.length) (e : l.take k = m.take k) (n : l[k].toNat ≠ m[k].toNat) : cmpL l m = signR (decide (l[k].toNat < m[k].toNat)) (decide (m[k].toNat < l[k].toNat)) := by
  have n' : ¬ l[k] = m[k] := fun x => n (congrArg UInt8.toNat x)
  have hb : Op.bytesLess l m = decide (l[k].toNat < m[k].toNat) := by
    have := bl_prefix (l.take k) (l[k] :: l.drop (k + 1)) (m[k] :: m.drop (k + 1))
    rw [← cut_at l k hl, e, ← cut_at m k hm] at this
    rw [this]
    simp [Op.bytesLess, n', UInt8.lt_iff_toNat_lt]
  have hn : l ≠ m := fun x => n' (by simp [x])
  unfold cmpL signR
  rw [hb]
  by_cases h : l[k].toNat < m[k].toNat
  · simp [h]
  · have h2 : m[k].toNat < l[k].toNat := by omega
    simp [h, h2, hn]
theorem cmpL_end (l m : List UInt8) (k : Nat) (hl : k ≤ l.length) (hm : k ≤ m.length) (e : l.take k = m.take k) (h : k = l.length ∨ k = m.length) : cmpL l m = signR (decide (l.length < m.length)) (decide (m.length < l.length)) := by
  rcases h with h | h
  · have el : l = m.take k := by rw [← e, h, List.take_length]
    have em : m = l ++ m.drop k := by
      conv => lhs; rw [← List.take_append_drop k m]
      rw [← el]
    have hb : Op.bytesLess l m = decide (l.length < m.length) := by
      have := bl_prefix l [] (m.drop k)
      rw [List.append_nil, ← em] at this
      rw [this]
      have hd : (m.drop k).length = m.length - k := List.length_drop
      cases hq : m.drop k with
      | nil => rw [hq] at hd; simp at hd; simp [Op.bytesLess]; omega
      | cons a r => rw [hq] at hd; simp at hd; simp [Op.bytesLess]; omega
    unfold cmpL signR
    rw [hb]
    by_cases c : l.length < m.length
    · simp [c]
    · have : l = m := by rw [el, List.take_of_length_le (by omega)]
      subst this; simp
  · have em : m = l.take k := by rw [e, h, List.take_length]
    have el : l = m ++ l.drop k := by
      conv => lhs; rw [← List.take_append_drop k l]
      rw [← em]
    have hb : Op.bytesLess l m = false := by
      have := bl_prefix m (l.drop k) []
      rw [List.append_nil, ← el] at this
      rw [this]
      cases l.drop k <;> rfl
    unfold cmpL signR
    rw [hb]
    by_cases c : m.length < l.length
    · have n : l ≠ m := fun x => by rw [x] at c; omega
      simp [n, c]; omega
    · have : l = m := by rw [em, List.take_of_length_le (by omega)]
      subst this; simp
theorem take_same (l m : List UInt8) (k : Nat) (hl : k < l.length) (hm : k < m.length) (e : l.take k = m.take k) (n : l[k].toNat = m[k].toNat) : l.take (k + 1) = m.take (k + 1) := by
  rw [List.take_succ_eq_append_getElem hl, List.take_succ_eq_append_getElem hm, e, UInt8.toNat_inj.1 n]
theorem at_list (s : ByteArray) (k : Nat) (h : k < s.size) (h' : k < s.toList.length) : s[k] = s.toList[k] := by
  have e := ByteArray.toList_eq (bs := s)
  rw [ByteArray.getElem_eq_getElem_data, ← Array.getElem_toList]
  simp [e]
set_option maxHeartbeats 1000000 in
theorem bytes_any (a b : ByteArray) (w : World) (ha : a.size ≤ maxLen) :
    Calls Tryz.prog 17 #[.string a, .string b] w fun e w' => e = .returned (.int .i64 (cmpL a.toList b.toList)) ∧ Below w.heap.size w w' := by
  unfold maxLen at ha
  have LA : Hid (a.toList.length = a.size) := by show _ = _; rw [ByteArray.toList_eq]; simp
  have LB : Hid (b.toList.length = b.size) := by show _ = _; rw [ByteArray.toList_eq]; simp
  go_enter Tryz.func17, Tryz.ntmps17
  go_wp2
  go_loopw [5] (fun i wr => ∃ (k q : Nat), k ≤ a.size ∧ k ≤ b.size ∧ i = .int .i64 k ∧ wr = w.drewN q ∧ a.toList.take k = b.toList.take k) (fun i _ => a.size - (intOf i).toNat)
  case atStart => exact ⟨0, 0, Nat.zero_le _, Nat.zero_le _, rfl, rfl, rfl⟩
  case round =>
    obtain ⟨k, q, h1, h2, rfl, rfl, he⟩ := hrel
    have HE := hide he
    clear he
    by_cases c1 : k < a.size
    · by_cases c2 : k < b.size
      · have l1 : k < a.toList.length := by rw [LA.out]; exact c1
        have l2 : k < b.toList.length := by rw [LB.out]; exact c2
        have HD := hide (cmpL_diff a.toList b.toList k l1 l2 HE.out)
        have HS := hide (take_same a.toList b.toList k l1 l2 HE.out)
        rw [← at_list a k c1 l1, ← at_list b k c2 l2] at HD HS
        clear l1 l2
        by_cases t : a[k].toNat = b[k].toNat
        · have t1 : ((a[k].toNat : Int) != (b[k].toNat : Int)) = false := by simp [t]
          go_wp2
          go_quiet (fail)
          go_wp2
          go_roundw
          case rel => exact ⟨k + 1, _, c1, c2, by go_num, rfl, HS.out t⟩
          case measure => simp [intOf]; omega
        · have t1 : ((a[k].toNat : Int) != (b[k].toNat : Int)) = true := by simp; omega
          have HD' := hide (HD.out t)
          clear HD HS
          go_wp2
          go_quiet (fail)
          go_wp2
          have BX := hide (below_drewN (below_drewN (Below.refl w.heap.size w) q) nq)
          generalize (w.drewN q).drewN nq = wx at *
          go_quiet ((go_at_call 30; exact Calls.quiet_of_same (sign_any _ _ _)))
          go_wp2
          go_ret
          exact ⟨by rw [HD'.out]; rfl, below_drewN BX.out _⟩
      · have HX := hide (cmpL_end a.toList b.toList k (by rw [LA.out]; exact h1) (by rw [LB.out]; exact h2) HE.out (.inr (by rw [LB.out]; omega)))
        rw [LA.out, LB.out] at HX
        go_wp2_with (go_at_call 30; refine (sign_any _ _ _).mono ?_; rintro e w1 ⟨rfl, rfl⟩)
        go_ret
        exact ⟨by rw [HX.out]; rfl, below_drewN (Below.refl _ _) _⟩
    · have HX := hide (cmpL_end a.toList b.toList k (by rw [LA.out]; exact h1) (by rw [LB.out]; exact h2) HE.out (.inl (by rw [LA.out]; omega)))
      rw [LA.out, LB.out] at HX
      go_wp2_with (go_at_call 30; refine (sign_any _ _ _).mono ?_; rintro e w1 ⟨rfl, rfl⟩)
      go_ret
      exact ⟨by rw [HX.out]; rfl, below_drewN (Below.refl _ _) _⟩
end
end Go.Proofs.YtklldmidcmfbdaaGreatDoor
