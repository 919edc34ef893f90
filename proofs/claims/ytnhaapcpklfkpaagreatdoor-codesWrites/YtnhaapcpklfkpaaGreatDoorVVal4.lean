/-
  Out of Val4, Val5, CompMath, ValMem, RefVal4, RefVal5, what is asked for (laid by pack9.py).
-/
import Derived.Test.YtnhaapcpklfkpaaGreatDoorVDiv
import Derived.Test.YtnhaapcpklfkpaaGreatDoorVNum
import Derived.Test.YtnhaapcpklfkpaaGreatDoorVNum2
import Derived.Test.YtnhaapcpklfkpaaGreatDoorVRm
import Derived.Test.YtnhaapcpklfkpaaGreatDoorVVal
import Derived.Test.YtnhaapcpklfkpaaGreatDoorVVal3
import Derived.BigCall
import Derived.BigGuard
import Derived.BigQuiet
import Derived.Deep.QuietTactic
import Derived.Deep.RegionHeld3
import Derived.Deep.RegionWith
import Derived.Laws.Cover1
import Derived.Laws.EntriesVeiled
import Derived.Laws.IdiomStrings
import Derived.Lib.AppendIntMem
import Derived.Lib.IndexMore
import Derived.Lib.ItoaMem
import Derived.Lib.OthersKept
import Derived.Lib.SmallJoins
import Derived.Lib.Walk
import Derived.LoopTactic
import Derived.WalkKit
import Derived.WalkLawsBesides
import Derived.WalkSpells
import Derived.WideShapes
namespace Go.Proofs.YtnhaapcpklfkpaaGreatDoor
section
open Go.RowKit
/-- Behind a call on a value that lies in a new block. -/
theorem box_cells {w w1 : World} {k n : Int} {s : ByteArray} {b : Bool} {c : Int} {t : TypeId} (hb : Below (w.alloc (.cells #[.int .i64 k, .int .i64 n, .string s, .bool b, .int .i64 c] t)).heap.size (w.alloc (.cells #[.int .i64 k, .int .i64 n, .string s, .bool b, .int .i64 c] t)) w1) :
    w1.cell? ⟨w.heap.size, 0, none⟩ = some (.int .i64 k) ∧ w1.cell? ⟨w.heap.size, 1, none⟩ = some (.int .i64 n) ∧ w1.cell? ⟨w.heap.size, 2, none⟩ = some (.string s) ∧ w1.cell? ⟨w.heap.size, 3, none⟩ = some (.bool b) ∧ w1.cell? ⟨w.heap.size, 4, none⟩ = some (.int .i64 c) ∧ w.heap.size < w1.heap.size ∧ Below w.heap.size w w1 :=
  BoxS.below (BoxS.new w k n s b c t) hb
set_option maxHeartbeats 400000 in
theorem checkV_any (k n : Int) (s : ByteArray) (b : Bool) (c : Int) (w : World) (hz : s.size ≤ maxLen) :
    Calls Tryz.prog 8 #[.agg #[.int .i64 k, .int .i64 n, .string s, .bool b, .int .i64 c]] w fun e w' => e = .returned (.int .i64 (checkV k n s b c)) ∧ Below w.heap.size w w' := by
  have HR : Hid (∀ W : World, Calls Tryz.prog 26 #[.agg #[.int .i64 k, .int .i64 n, .string s, .bool b, .int .i64 c]] W fun e w' => e = .returned (.bool (rightB k n s b c)) ∧ Below W.heap.size W w') := fun W => right_any k n s b c W hz
  clear hz
  have HV : Hid (checkV k n s b c = if rightB k n s b c then 0 else 2) := rfl
  generalize rightB k n s b c = r at *
  cases r
  all_goals
    go_enter Tryz.func8, Tryz.ntmps8
    go_wp2_with (go_at_call 26; refine (HR.out _).mono ?_; rintro e w1 ⟨rfl, hb1⟩; obtain ⟨q0, q1, q2, q3, q4, q5, q6⟩ := box_cells hb1)
    go_ret
    exact ⟨by rw [HV.out]; rfl, q6⟩
set_option maxHeartbeats 400000 in
theorem trouble_any (k n : Int) (s : ByteArray) (b : Bool) (c : Int) (w : World) (hz : s.size ≤ maxLen) :
    Calls Tryz.prog 54 #[.agg #[.int .i64 k, .int .i64 n, .string s, .bool b, .int .i64 c]] w fun e w' => e = .returned (.int .i64 (troubleV k n s b c)) ∧ Below w.heap.size w w' := by
  have HR : Hid (∀ W : World, Calls Tryz.prog 26 #[.agg #[.int .i64 k, .int .i64 n, .string s, .bool b, .int .i64 c]] W fun e w' => e = .returned (.bool (rightB k n s b c)) ∧ Below W.heap.size W w') := fun W => right_any k n s b c W hz
  clear hz
  have HV : Hid (troubleV k n s b c = if rightB k n s b c then c else 2) := rfl
  generalize rightB k n s b c = r at *
  cases r
  all_goals
    go_enter Tryz.func54, Tryz.ntmps54
    go_wp2_with (go_at_call 26; refine (HR.out _).mono ?_; rintro e w1 ⟨rfl, hb1⟩; obtain ⟨q0, q1, q2, q3, q4, q5, q6⟩ := box_cells hb1)
    go_ret
    exact ⟨by rw [HV.out]; rfl, q6⟩
end
section
open Go.RowKit
set_option maxHeartbeats 1000000 in
theorem wordsV_any (k n : Int) (s : ByteArray) (b : Bool) (c : Int) (w : World) (ht : TabOk w) (hz : s.size ≤ maxLen) :
    Calls Tryz.prog 27 #[.agg #[.int .i64 k, .int .i64 n, .string s, .bool b, .int .i64 c]] w fun e w' => e = .returned (.tuple #[.string ⟨(wordsV k n s b c).1.toArray⟩, .int .i64 (wordsV k n s b c).2]) ∧ Below w.heap.size w w' := by
  have HT : Hid (∀ W : World, Calls Tryz.prog 54 #[.agg #[.int .i64 k, .int .i64 n, .string s, .bool b, .int .i64 c]] W fun e w' => e = .returned (.int .i64 (troubleV k n s b c)) ∧ Below W.heap.size W w') := fun W => trouble_any k n s b c W hz
  have HP : Hid (fitsB n = true → ∀ W : World, TabOk W → Calls Tryz.prog 55 #[.int .i64 n] W fun e w' => e = .returned (.tuple #[.string ⟨(textOf n).toArray⟩, .int .i64 0]) ∧ Below W.heap.size W w') := fun h W hW => print_good n W h hW
  have HB := hide ht
  clear ht hz
  cases hr : rightB k n s b c
  · rw [troubleV_no hr] at HT
    rw [show wordsV k n s b c = ([], 2) by simp [wordsV, hr]]
    clear hr
    go_enter Tryz.func27, Tryz.ntmps27
    go_wp2_with (first | (go_at_call 54; refine (HT.out _).mono ?_; rintro e w1 ⟨rfl, hb1⟩; obtain ⟨q0, q1, q2, q3, q4, q5, q6⟩ := box_cells hb1))
    go_ret2
    exact ⟨rfl, q6⟩
  · rw [troubleV_yes hr] at HT
    rcases right_cases hr with ⟨rfl, rfl, rfl, rfl, rfl⟩ | ⟨rfl, hf, rfl, rfl, rfl⟩ | ⟨rfl, rfl, hl, rfl, rfl⟩ | ⟨rfl, rfl, rfl, rfl⟩ | ⟨rfl, rfl, rfl, rfl, h1, h7⟩
    · rw [show wordsV 0 0 ⟨#[]⟩ false 0 = ([], 0) by simp [wordsV, hr]]
      clear hr
      go_enter Tryz.func27, Tryz.ntmps27
      go_wp2_with (first | (go_at_call 54; refine (HT.out _).mono ?_; rintro e w1 ⟨rfl, hb1⟩; obtain ⟨q0, q1, q2, q3, q4, q5, q6⟩ := box_cells hb1))
      go_ret2
      exact ⟨rfl, q6⟩
    · rw [show wordsV 1 n ⟨#[]⟩ false 0 = (textOf n, 0) by simp [wordsV, hr]]
      have HP := hide (HP.out hf)
      clear hr hf
      generalize (⟨(textOf n).toArray⟩ : ByteArray) = T at *
      go_enter Tryz.func27, Tryz.ntmps27
      go_wp2_with (first | (go_at_call 54; refine (HT.out _).mono ?_; rintro e w1 ⟨rfl, hb1⟩; obtain ⟨q0, q1, q2, q3, q4, q5, q6⟩ := box_cells hb1) | (go_at_call 55; refine (HP.out _ (tab_below HB.out q6)).mono ?_; rintro e w2 ⟨rfl, hb2⟩))
      go_ret2
      exact ⟨rfl, q6.trans (hb2.mono q6.size)⟩
    · rw [show wordsV 2 0 s false 0 = (s.data.toList, 0) by simp [wordsV, hr], ba_eta]
      clear hr
      go_enter Tryz.func27, Tryz.ntmps27
      go_wp2_with (first | (go_at_call 54; refine (HT.out _).mono ?_; rintro e w1 ⟨rfl, hb1⟩; obtain ⟨q0, q1, q2, q3, q4, q5, q6⟩ := box_cells hb1))
      go_ret2
      exact ⟨rfl, q6⟩
    · cases b
      · rw [show wordsV 3 0 ⟨#[]⟩ false 0 = ([70, 65, 76, 83, 69], 0) by simp [wordsV, hr]]
        clear hr
        go_enter Tryz.func27, Tryz.ntmps27
        go_wp2_with (first | (go_at_call 54; refine (HT.out _).mono ?_; rintro e w1 ⟨rfl, hb1⟩; obtain ⟨q0, q1, q2, q3, q4, q5, q6⟩ := box_cells hb1))
        go_ret2
        exact ⟨rfl, q6⟩
      · rw [show wordsV 3 0 ⟨#[]⟩ true 0 = ([84, 82, 85, 69], 0) by simp [wordsV, hr]]
        clear hr
        go_enter Tryz.func27, Tryz.ntmps27
        go_wp2_with (first | (go_at_call 54; refine (HT.out _).mono ?_; rintro e w1 ⟨rfl, hb1⟩; obtain ⟨q0, q1, q2, q3, q4, q5, q6⟩ := box_cells hb1))
        go_ret2
        exact ⟨rfl, q6⟩
    · have hc0 : (c != 0) = true := by simp; omega
      rw [show wordsV 4 0 ⟨#[]⟩ false c = ([], c) by simp [wordsV, hr]]
      clear hr
      go_enter Tryz.func27, Tryz.ntmps27
      go_wp2_with (first | (go_at_call 54; refine (HT.out _).mono ?_; rintro e w1 ⟨rfl, hb1⟩; obtain ⟨q0, q1, q2, q3, q4, q5, q6⟩ := box_cells hb1))
      go_ret2
      exact ⟨rfl, q6⟩
end
section
open Go.RowKit
/-- A right value that is no fault has no code. -/
theorem right_code {k n : Int} {s : ByteArray} {b : Bool} {c : Int} (h : rightB k n s b c = true) : (k = 4 ∧ 1 ≤ c ∧ c ≤ 7) ∨ (k ≠ 4 ∧ c = 0) := by
  rcases right_cases h with ⟨rfl, _, _, _, h⟩ | ⟨rfl, _, _, _, h⟩ | ⟨rfl, _, _, _, h⟩ | ⟨rfl, _, _, h⟩ | ⟨rfl, _, _, _, h⟩
  · exact .inr ⟨by decide, h⟩
  · exact .inr ⟨by decide, h⟩
  · exact .inr ⟨by decide, h⟩
  · exact .inr ⟨by decide, h⟩
  · exact .inl ⟨rfl, h⟩
end
section
open Go.RowKit
/-- A value lies in a block that may be written. -/
def HasV (w : World) (p : Nat) (k n : Int) (s : ByteArray) (b : Bool) (c : Int) : Prop :=
  AtV w p k n s b c ∧ w.frozen? ⟨p, 0, none⟩ = false ∧ w.frozen? ⟨p, 1, none⟩ = false ∧ w.frozen? ⟨p, 2, none⟩ = false ∧ w.frozen? ⟨p, 3, none⟩ = false ∧ w.frozen? ⟨p, 4, none⟩ = false
theorem HasV.alloc {w : World} {p : Nat} {k n : Int} {s : ByteArray} {b : Bool} {c : Int} (h : HasV w p k n s b c) (o : Obj) : HasV (w.alloc o) p k n s b c := by
  obtain ⟨a, h0, h1, h2, h3, h4⟩ := h
  have l := a.1
  exact ⟨a.alloc o, by rw [World.frozen?_alloc_past _ _ _ l]; exact h0, by rw [World.frozen?_alloc_past _ _ _ l]; exact h1, by rw [World.frozen?_alloc_past _ _ _ l]; exact h2, by rw [World.frozen?_alloc_past _ _ _ l]; exact h3, by rw [World.frozen?_alloc_past _ _ _ l]; exact h4⟩
theorem HasV.below {w w' : World} {p : Nat} {k n : Int} {s : ByteArray} {b : Bool} {c : Int} (h : HasV w p k n s b c) (q : Below w.heap.size w w') : HasV w' p k n s b c := by
  obtain ⟨a, h0, h1, h2, h3, h4⟩ := h
  have l := a.1
  exact ⟨a.below q, by rw [q.frozen (p := ⟨p, 0, none⟩) l]; exact h0, by rw [q.frozen (p := ⟨p, 1, none⟩) l]; exact h1, by rw [q.frozen (p := ⟨p, 2, none⟩) l]; exact h2, by rw [q.frozen (p := ⟨p, 3, none⟩) l]; exact h3, by rw [q.frozen (p := ⟨p, 4, none⟩) l]; exact h4⟩
theorem HasV.drew {w : World} {p : Nat} {k n : Int} {s : ByteArray} {b : Bool} {c : Int} (h : HasV w p k n s b c) : HasV w.drew p k n s b c := h
theorem HasV.drewN {w : World} {p : Nat} {k n : Int} {s : ByteArray} {b : Bool} {c : Int} (h : HasV w p k n s b c) (m : Nat) : HasV (w.drewN m) p k n s b c := h
end
section
open Go.RowKit
set_option maxHeartbeats 400000 in
theorem rfaultV_any (k n : Int) (s : ByteArray) (b : Bool) (c : Int) (w : World) (hz : s.size ≤ maxLen) :
    Calls Tryz.prog 38 #[.agg #[.int .i64 k, .int .i64 n, .string s, .bool b, .int .i64 c]] w fun e w' => e = .returned (.int .i64 (troubleV k n s b c)) ∧ Below w.heap.size w w' := by
  have HR : Hid (∀ W : World, Calls Tryz.prog 12 #[.agg #[.int .i64 k, .int .i64 n, .string s, .bool b, .int .i64 c]] W fun e w' => e = .returned (.bool (rightB k n s b c)) ∧ Below W.heap.size W w') := fun W => rright_any k n s b c W hz
  clear hz
  have HV : Hid (troubleV k n s b c = if rightB k n s b c then c else 2) := rfl
  have HX := hide (fun h => right_code (k := k) (n := n) (s := s) (b := b) (c := c) h)
  generalize rightB k n s b c = r at *
  cases r
  · go_enter Tryz.func38, Tryz.ntmps38
    go_wp2_with (go_at_call 12; refine (HR.out _).mono ?_; rintro e w1 ⟨rfl, hb1⟩; obtain ⟨q0, q1, q2, q3, q4, q5, q6⟩ := box_cells hb1)
    go_ret
    exact ⟨by rw [HV.out]; rfl, q6⟩
  · rcases HX.out rfl with ⟨rfl, _, _⟩ | ⟨h4, rfl⟩
    · go_enter Tryz.func38, Tryz.ntmps38
      go_wp2_with (go_at_call 12; refine (HR.out _).mono ?_; rintro e w1 ⟨rfl, hb1⟩; obtain ⟨q0, q1, q2, q3, q4, q5, q6⟩ := box_cells hb1)
      go_ret
      exact ⟨by rw [HV.out]; rfl, q6⟩
    · have t4 : (k == 4) = false := by simpa using h4
      go_enter Tryz.func38, Tryz.ntmps38
      go_wp2_with (go_at_call 12; refine (HR.out _).mono ?_; rintro e w1 ⟨rfl, hb1⟩; obtain ⟨q0, q1, q2, q3, q4, q5, q6⟩ := box_cells hb1)
      go_ret
      exact ⟨by rw [HV.out]; rfl, q6⟩
end
section
open Go.RowKit
set_option maxHeartbeats 1000000 in
theorem rwordsV_any (k n : Int) (s : ByteArray) (b : Bool) (c : Int) (w : World) (hz : s.size ≤ maxLen) :
    Calls Tryz.prog 13 #[.agg #[.int .i64 k, .int .i64 n, .string s, .bool b, .int .i64 c]] w fun e w' => e = .returned (.tuple #[.string ⟨(wordsV k n s b c).1.toArray⟩, .int .i64 (wordsV k n s b c).2]) ∧ Below w.heap.size w w' := by
  have HT : Hid (∀ W : World, Calls Tryz.prog 38 #[.agg #[.int .i64 k, .int .i64 n, .string s, .bool b, .int .i64 c]] W fun e w' => e = .returned (.int .i64 (troubleV k n s b c)) ∧ Below W.heap.size W w') := fun W => rfaultV_any k n s b c W hz
  have HP : Hid (fitsB n = true → ∀ W : World, Calls Tryz.prog 39 #[.int .i64 n] W fun e w' => e = .returned (.tuple #[.string ⟨(textOf n).toArray⟩, .int .i64 0]) ∧ Below W.heap.size W w') := fun h W => rprint_good n W h
  clear hz
  cases hr : rightB k n s b c
  · rw [troubleV_no hr] at HT
    rw [show wordsV k n s b c = ([], 2) by simp [wordsV, hr]]
    clear hr
    go_enter Tryz.func13, Tryz.ntmps13
    go_wp2_with (first | (go_at_call 38; refine (HT.out _).mono ?_; rintro e w1 ⟨rfl, hb1⟩; obtain ⟨q0, q1, q2, q3, q4, q5, q6⟩ := box_cells hb1))
    go_ret2
    exact ⟨rfl, q6⟩
  · rw [troubleV_yes hr] at HT
    rcases right_cases hr with ⟨rfl, rfl, rfl, rfl, rfl⟩ | ⟨rfl, hf, rfl, rfl, rfl⟩ | ⟨rfl, rfl, hl, rfl, rfl⟩ | ⟨rfl, rfl, rfl, rfl⟩ | ⟨rfl, rfl, rfl, rfl, h1, h7⟩
    · rw [show wordsV 0 0 ⟨#[]⟩ false 0 = ([], 0) by simp [wordsV, hr]]
      clear hr
      go_enter Tryz.func13, Tryz.ntmps13
      go_wp2_with (first | (go_at_call 38; refine (HT.out _).mono ?_; rintro e w1 ⟨rfl, hb1⟩; obtain ⟨q0, q1, q2, q3, q4, q5, q6⟩ := box_cells hb1))
      go_ret2
      exact ⟨rfl, q6⟩
    · rw [show wordsV 1 n ⟨#[]⟩ false 0 = (textOf n, 0) by simp [wordsV, hr]]
      have HP := hide (HP.out hf)
      clear hr hf
      generalize (⟨(textOf n).toArray⟩ : ByteArray) = T at *
      go_enter Tryz.func13, Tryz.ntmps13
      go_wp2_with (first | (go_at_call 38; refine (HT.out _).mono ?_; rintro e w1 ⟨rfl, hb1⟩; obtain ⟨q0, q1, q2, q3, q4, q5, q6⟩ := box_cells hb1) | (go_at_call 39; refine (HP.out _).mono ?_; rintro e w2 ⟨rfl, hb2⟩))
      go_ret2
      exact ⟨rfl, q6.trans (hb2.mono q6.size)⟩
    · rw [show wordsV 2 0 s false 0 = (s.data.toList, 0) by simp [wordsV, hr], ba_eta]
      clear hr
      go_enter Tryz.func13, Tryz.ntmps13
      go_wp2_with (first | (go_at_call 38; refine (HT.out _).mono ?_; rintro e w1 ⟨rfl, hb1⟩; obtain ⟨q0, q1, q2, q3, q4, q5, q6⟩ := box_cells hb1))
      go_ret2
      exact ⟨rfl, q6⟩
    · cases b
      · rw [show wordsV 3 0 ⟨#[]⟩ false 0 = ([70, 65, 76, 83, 69], 0) by simp [wordsV, hr]]
        clear hr
        go_enter Tryz.func13, Tryz.ntmps13
        go_wp2_with (first | (go_at_call 38; refine (HT.out _).mono ?_; rintro e w1 ⟨rfl, hb1⟩; obtain ⟨q0, q1, q2, q3, q4, q5, q6⟩ := box_cells hb1))
        go_ret2
        exact ⟨rfl, q6⟩
      · rw [show wordsV 3 0 ⟨#[]⟩ true 0 = ([84, 82, 85, 69], 0) by simp [wordsV, hr]]
        clear hr
        go_enter Tryz.func13, Tryz.ntmps13
        go_wp2_with (first | (go_at_call 38; refine (HT.out _).mono ?_; rintro e w1 ⟨rfl, hb1⟩; obtain ⟨q0, q1, q2, q3, q4, q5, q6⟩ := box_cells hb1))
        go_ret2
        exact ⟨rfl, q6⟩
    · have hc0 : (c != 0) = true := by simp; omega
      rw [show wordsV 4 0 ⟨#[]⟩ false c = ([], c) by simp [wordsV, hr]]
      clear hr
      go_enter Tryz.func13, Tryz.ntmps13
      go_wp2_with (first | (go_at_call 38; refine (HT.out _).mono ?_; rintro e w1 ⟨rfl, hb1⟩; obtain ⟨q0, q1, q2, q3, q4, q5, q6⟩ := box_cells hb1))
      go_ret2
      exact ⟨rfl, q6⟩
end
end Go.Proofs.YtnhaapcpklfkpaaGreatDoor
