/-
  Out of Val4, Val5, CompMath, ValMem, Names, ShowMath, ShowRead, what is asked for (laid by pack.py).
-/
import Derived.Test.YtiaoaifoecmemaaGreatDoorRXVal3
import Derived.ChangeArms
import Derived.Lib.LaidTab
set_option maxRecDepth 100000
set_option maxHeartbeats 4000000
namespace Go.Proofs.YtiaoaifoecmemaaGreatDoor
section
open Go.RowKit
theorem box_cells {w w1 : World} {k n : Int} {s : ByteArray} {b : Bool} {c : Int} {t : TypeId} (hb : Below (w.alloc (.cells #[.int .i64 k, .int .i64 n, .string s, .bool b, .int .i64 c] t)).heap.size (w.alloc (.cells #[.int .i64 k, .int .i64 n, .string s, .bool b, .int .i64 c] t)) w1) :
  w1.cell? ⟨w.heap.size, 0, none⟩ = some (.int .i64 k) ∧ w1.cell? ⟨w.heap.size, 1, none⟩ = some (.int .i64 n) ∧ w1.cell? ⟨w.heap.size, 2, none⟩ = some (.string s) ∧ w1.cell? ⟨w.heap.size, 3, none⟩ = some (.bool b) ∧ w1.cell? ⟨w.heap.size, 4, none⟩ = some (.int .i64 c) ∧ w.heap.size < w1.heap.size ∧ Below w.heap.size w w1 :=
 BoxS.below (BoxS.new w k n s b c t) hb
theorem checkV_any (k n : Int) (s : ByteArray) (b : Bool) (c : Int) (w : World) (hz : s.size ≤ maxLen) :
  Calls Tryz.prog 107 #[.agg #[.int .i64 k, .int .i64 n, .string s, .bool b, .int .i64 c]] w fun e w' => e = .returned (.int .i64 (checkV k n s b c)) ∧ Below w.heap.size w w' := by
 have HR : Hid (∀ W : World, Calls Tryz.prog 117 #[.agg #[.int .i64 k, .int .i64 n, .string s, .bool b, .int .i64 c]] W fun e w' => e = .returned (.bool (rightB k n s b c)) ∧ Below W.heap.size W w') := fun W => right_any k n s b c W hz
 clear hz
 have HV : Hid (checkV k n s b c = if rightB k n s b c then 0 else 2) := rfl
 generalize rightB k n s b c = r at *
 cases r
 all_goals
  go_enter Tryz.func107, Tryz.ntmps107
  go_wp2_with (go_at_call 117; refine (HR.out _).mono ?_; rintro e w1 ⟨rfl, hb1⟩; obtain ⟨q0, q1, q2, q3, q4, q5, q6⟩ := box_cells hb1)
  go_ret
  exact ⟨by rw [HV.out]; rfl, q6⟩
theorem trouble_any (k n : Int) (s : ByteArray) (b : Bool) (c : Int) (w : World) (hz : s.size ≤ maxLen) :
  Calls Tryz.prog 150 #[.agg #[.int .i64 k, .int .i64 n, .string s, .bool b, .int .i64 c]] w fun e w' => e = .returned (.int .i64 (troubleV k n s b c)) ∧ Below w.heap.size w w' := by
 have HR : Hid (∀ W : World, Calls Tryz.prog 117 #[.agg #[.int .i64 k, .int .i64 n, .string s, .bool b, .int .i64 c]] W fun e w' => e = .returned (.bool (rightB k n s b c)) ∧ Below W.heap.size W w') := fun W => right_any k n s b c W hz
 clear hz
 have HV : Hid (troubleV k n s b c = if rightB k n s b c then c else 2) := rfl
 generalize rightB k n s b c = r at *
 cases r
 all_goals
  go_enter Tryz.func150, Tryz.ntmps150
  go_wp2_with (go_at_call 117; refine (HR.out _).mono ?_; rintro e w1 ⟨rfl, hb1⟩; obtain ⟨q0, q1, q2, q3, q4, q5, q6⟩ := box_cells hb1)
  go_ret
  exact ⟨by rw [HV.out]; rfl, q6⟩
theorem truthNamed_any (s : ByteArray) (w : World) :
    Calls Tryz.prog 188 #[.string s] w fun e w' => e = .returned (.tuple #[.bool (namedR s.data.toList).1, .bool (namedR s.data.toList).2]) ∧ Below w.heap.size w w' := by
  have HF : Hid (∀ W : World, Calls Tryz.prog 187 #[.string s] W fun e w' => e = .returned (.string ⟨(foldL s.data.toList).toArray⟩) ∧ Below W.heap.size W w') := fun W => fold_any s W
  have hT := list_ba (foldL s.data.toList)
  generalize (⟨(foldL s.data.toList).toArray⟩ : ByteArray) = T at *
  by_cases h1 : foldL s.data.toList = [84, 82, 85, 69]
  · rw [namedR_t h1]
    rw [h1] at hT
    clear h1
    have t1 : (T.toList == [84, 82, 85, 69]) = true := by rw [hT]; rfl
    clear hT
    go_enter Tryz.func188, Tryz.ntmps188
    go_wp2_with (go_at_call 187; refine (HF.out _).mono ?_; rintro e w1 ⟨rfl, hb1⟩)
    go_ret2
    exact ⟨rfl, hb1⟩
  · have t1 : (T.toList == [84, 82, 85, 69]) = false := by rw [hT]; simpa using h1
    by_cases h2 : foldL s.data.toList = [70, 65, 76, 83, 69]
    · rw [namedR_f h2]
      have t2 : (T.toList == [70, 65, 76, 83, 69]) = true := by rw [hT, h2]; rfl
      clear hT h1 h2
      go_enter Tryz.func188, Tryz.ntmps188
      go_wp2_with (go_at_call 187; refine (HF.out _).mono ?_; rintro e w1 ⟨rfl, hb1⟩)
      go_ret2
      exact ⟨rfl, hb1⟩
    · rw [namedR_no h1 h2]
      have t2 : (T.toList == [70, 65, 76, 83, 69]) = false := by rw [hT]; simpa using h2
      clear hT h1 h2
      go_enter Tryz.func188, Tryz.ntmps188
      go_wp2_with (go_at_call 187; refine (HF.out _).mono ?_; rintro e w1 ⟨rfl, hb1⟩)
      go_ret2
      exact ⟨rfl, hb1⟩
end
section
open Go.RowKit
theorem wordsV_any (k n : Int) (s : ByteArray) (b : Bool) (c : Int) (w : World) (ht : TabOk w) (hz : s.size ≤ maxLen) :
    Calls Tryz.prog 118 #[.agg #[.int .i64 k, .int .i64 n, .string s, .bool b, .int .i64 c]] w fun e w' => e = .returned (.tuple #[.string ⟨(wordsV k n s b c).1.toArray⟩, .int .i64 (wordsV k n s b c).2]) ∧ Below w.heap.size w w' := by
  have HT : Hid (∀ W : World, Calls Tryz.prog 150 #[.agg #[.int .i64 k, .int .i64 n, .string s, .bool b, .int .i64 c]] W fun e w' => e = .returned (.int .i64 (troubleV k n s b c)) ∧ Below W.heap.size W w') := fun W => trouble_any k n s b c W hz
  have HP : Hid (fitsB n = true → ∀ W : World, TabOk W → Calls Tryz.prog 84 #[.int .i64 n] W fun e w' => e = .returned (.tuple #[.string ⟨(textOf n).toArray⟩, .int .i64 0]) ∧ Below W.heap.size W w') := fun h W hW => print_good n W h hW
  have HB := hide ht
  clear ht hz
  cases hr : rightB k n s b c
  · rw [troubleV_no hr] at HT
    rw [show wordsV k n s b c = ([], 2) by simp [wordsV, hr]]
    clear hr
    go_enter Tryz.func118, Tryz.ntmps118
    go_wp2_with (first | (go_at_call 150; refine (HT.out _).mono ?_; rintro e w1 ⟨rfl, hb1⟩; obtain ⟨q0, q1, q2, q3, q4, q5, q6⟩ := box_cells hb1))
    go_ret2
    exact ⟨rfl, q6⟩
  · rw [troubleV_yes hr] at HT
    rcases right_cases hr with ⟨rfl, rfl, rfl, rfl, rfl⟩ | ⟨rfl, hf, rfl, rfl, rfl⟩ | ⟨rfl, rfl, hl, rfl, rfl⟩ | ⟨rfl, rfl, rfl, rfl⟩ | ⟨rfl, rfl, rfl, rfl, h1, h7⟩
    · rw [show wordsV 0 0 ⟨#[]⟩ false 0 = ([], 0) by simp [wordsV, hr]]
      clear hr
      go_enter Tryz.func118, Tryz.ntmps118
      go_wp2_with (first | (go_at_call 150; refine (HT.out _).mono ?_; rintro e w1 ⟨rfl, hb1⟩; obtain ⟨q0, q1, q2, q3, q4, q5, q6⟩ := box_cells hb1))
      go_ret2
      exact ⟨rfl, q6⟩
    · rw [show wordsV 1 n ⟨#[]⟩ false 0 = (textOf n, 0) by simp [wordsV, hr]]
      have HP := hide (HP.out hf)
      clear hr hf
      generalize (⟨(textOf n).toArray⟩ : ByteArray) = T at *
      go_enter Tryz.func118, Tryz.ntmps118
      go_wp2_with (first | (go_at_call 150; refine (HT.out _).mono ?_; rintro e w1 ⟨rfl, hb1⟩; obtain ⟨q0, q1, q2, q3, q4, q5, q6⟩ := box_cells hb1) | (go_at_call 84; refine (HP.out _ (tab_below HB.out q6)).mono ?_; rintro e w2 ⟨rfl, hb2⟩))
      go_ret2
      exact ⟨rfl, q6.trans (hb2.mono q6.size)⟩
    · rw [show wordsV 2 0 s false 0 = (s.data.toList, 0) by simp [wordsV, hr], ba_eta]
      clear hr
      go_enter Tryz.func118, Tryz.ntmps118
      go_wp2_with (first | (go_at_call 150; refine (HT.out _).mono ?_; rintro e w1 ⟨rfl, hb1⟩; obtain ⟨q0, q1, q2, q3, q4, q5, q6⟩ := box_cells hb1))
      go_ret2
      exact ⟨rfl, q6⟩
    · cases b
      · rw [show wordsV 3 0 ⟨#[]⟩ false 0 = ([70, 65, 76, 83, 69], 0) by simp [wordsV, hr]]
        clear hr
        go_enter Tryz.func118, Tryz.ntmps118
        go_wp2_with (first | (go_at_call 150; refine (HT.out _).mono ?_; rintro e w1 ⟨rfl, hb1⟩; obtain ⟨q0, q1, q2, q3, q4, q5, q6⟩ := box_cells hb1))
        go_ret2
        exact ⟨rfl, q6⟩
      · rw [show wordsV 3 0 ⟨#[]⟩ true 0 = ([84, 82, 85, 69], 0) by simp [wordsV, hr]]
        clear hr
        go_enter Tryz.func118, Tryz.ntmps118
        go_wp2_with (first | (go_at_call 150; refine (HT.out _).mono ?_; rintro e w1 ⟨rfl, hb1⟩; obtain ⟨q0, q1, q2, q3, q4, q5, q6⟩ := box_cells hb1))
        go_ret2
        exact ⟨rfl, q6⟩
    · have hc0 : (c != 0) = true := by simp; omega
      rw [show wordsV 4 0 ⟨#[]⟩ false c = ([], c) by simp [wordsV, hr]]
      clear hr
      go_enter Tryz.func118, Tryz.ntmps118
      go_wp2_with (first | (go_at_call 150; refine (HT.out _).mono ?_; rintro e w1 ⟨rfl, hb1⟩; obtain ⟨q0, q1, q2, q3, q4, q5, q6⟩ := box_cells hb1))
      go_ret2
      exact ⟨rfl, q6⟩
theorem truthV_any (k n : Int) (s : ByteArray) (b : Bool) (c : Int) (w : World) (hz : s.size ≤ maxLen) :
    Calls Tryz.prog 163 #[.agg #[.int .i64 k, .int .i64 n, .string s, .bool b, .int .i64 c]] w fun e w' => e = .returned (.tuple #[.bool (truthV k n s b c).1, .int .i64 (truthV k n s b c).2]) ∧ Below w.heap.size w w' := by
  have HT : Hid (∀ W : World, Calls Tryz.prog 150 #[.agg #[.int .i64 k, .int .i64 n, .string s, .bool b, .int .i64 c]] W fun e w' => e = .returned (.int .i64 (troubleV k n s b c)) ∧ Below W.heap.size W w') := fun W => trouble_any k n s b c W hz
  have HN : Hid (∀ W : World, Calls Tryz.prog 188 #[.string s] W fun e w' => e = .returned (.tuple #[.bool (namedR s.data.toList).1, .bool (namedR s.data.toList).2]) ∧ Below W.heap.size W w') := fun W => truthNamed_any s W
  clear hz
  cases hr : rightB k n s b c
  · rw [troubleV_no hr] at HT
    rw [show truthV k n s b c = (false, 2) by simp [truthV, hr]]
    clear hr
    go_enter Tryz.func163, Tryz.ntmps163
    go_wp2_with (first | (go_at_call 150; refine (HT.out _).mono ?_; rintro e w1 ⟨rfl, hb1⟩; obtain ⟨q0, q1, q2, q3, q4, q5, q6⟩ := box_cells hb1))
    go_ret2
    exact ⟨rfl, q6⟩
  · rw [troubleV_yes hr] at HT
    rcases right_cases hr with ⟨rfl, rfl, rfl, rfl, rfl⟩ | ⟨rfl, hf, rfl, rfl, rfl⟩ | ⟨rfl, rfl, hl, rfl, rfl⟩ | ⟨rfl, rfl, rfl, rfl⟩ | ⟨rfl, rfl, rfl, rfl, h1, h7⟩
    · rw [show truthV 0 0 ⟨#[]⟩ false 0 = (false, 0) by simp [truthV, hr]]
      clear hr
      go_enter Tryz.func163, Tryz.ntmps163
      go_wp2_with (first | (go_at_call 150; refine (HT.out _).mono ?_; rintro e w1 ⟨rfl, hb1⟩; obtain ⟨q0, q1, q2, q3, q4, q5, q6⟩ := box_cells hb1))
      go_ret2
      exact ⟨rfl, q6⟩
    · rw [show truthV 1 n ⟨#[]⟩ false 0 = (n != 0, 0) by simp [truthV, hr]]
      clear hr
      go_enter Tryz.func163, Tryz.ntmps163
      go_wp2_with (first | (go_at_call 150; refine (HT.out _).mono ?_; rintro e w1 ⟨rfl, hb1⟩; obtain ⟨q0, q1, q2, q3, q4, q5, q6⟩ := box_cells hb1))
      go_ret2
      exact ⟨rfl, q6⟩
    · rw [show truthV 2 0 s false 0 = ((namedR s.data.toList).1, if (namedR s.data.toList).2 then 0 else 2) by simp [truthV, hr]]
      have HX : Hid ((namedR s.data.toList).2 = false → (namedR s.data.toList).1 = false) := by
        intro h
        unfold namedR at *
        split
        · rename_i h1; rw [if_pos h1] at h; cases h
        · rename_i h1
          rw [if_neg h1] at h
          split <;> rfl
      clear hr
      generalize (namedR s.data.toList).1 = x at *
      generalize (namedR s.data.toList).2 = y at *
      cases y
      · rw [HX.out rfl] at *
        go_enter Tryz.func163, Tryz.ntmps163
        go_wp2_with (first | (go_at_call 150; refine (HT.out _).mono ?_; rintro e w1 ⟨rfl, hb1⟩; obtain ⟨q0, q1, q2, q3, q4, q5, q6⟩ := box_cells hb1) | (go_at_call 188; refine (HN.out _).mono ?_; rintro e w2 ⟨rfl, hb2⟩))
        go_ret2
        exact ⟨rfl, q6.trans (hb2.mono q6.size)⟩
      · go_enter Tryz.func163, Tryz.ntmps163
        go_wp2_with (first | (go_at_call 150; refine (HT.out _).mono ?_; rintro e w1 ⟨rfl, hb1⟩; obtain ⟨q0, q1, q2, q3, q4, q5, q6⟩ := box_cells hb1) | (go_at_call 188; refine (HN.out _).mono ?_; rintro e w2 ⟨rfl, hb2⟩))
        go_ret2
        exact ⟨rfl, q6.trans (hb2.mono q6.size)⟩
    · cases b
      · rw [show truthV 3 0 ⟨#[]⟩ false 0 = (false, 0) by simp [truthV, hr]]
        clear hr
        go_enter Tryz.func163, Tryz.ntmps163
        go_wp2_with (first | (go_at_call 150; refine (HT.out _).mono ?_; rintro e w1 ⟨rfl, hb1⟩; obtain ⟨q0, q1, q2, q3, q4, q5, q6⟩ := box_cells hb1))
        go_ret2
        exact ⟨rfl, q6⟩
      · rw [show truthV 3 0 ⟨#[]⟩ true 0 = (true, 0) by simp [truthV, hr]]
        clear hr
        go_enter Tryz.func163, Tryz.ntmps163
        go_wp2_with (first | (go_at_call 150; refine (HT.out _).mono ?_; rintro e w1 ⟨rfl, hb1⟩; obtain ⟨q0, q1, q2, q3, q4, q5, q6⟩ := box_cells hb1))
        go_ret2
        exact ⟨rfl, q6⟩
    · have hc0 : (c != 0) = true := by simp; omega
      rw [show truthV 4 0 ⟨#[]⟩ false c = (false, c) by simp [truthV, hr]]
      clear hr
      go_enter Tryz.func163, Tryz.ntmps163
      go_wp2_with (first | (go_at_call 150; refine (HT.out _).mono ?_; rintro e w1 ⟨rfl, hb1⟩; obtain ⟨q0, q1, q2, q3, q4, q5, q6⟩ := box_cells hb1))
      go_ret2
      exact ⟨rfl, q6⟩
end
section
open Go.RowKit
theorem right_code {k n : Int} {s : ByteArray} {b : Bool} {c : Int} (h : rightB k n s b c = true) : (k = 4 ∧ 1 ≤ c ∧ c ≤ 7) ∨ (k ≠ 4 ∧ c = 0) := by
  rcases right_cases h with ⟨rfl, _, _, _, h⟩ | ⟨rfl, _, _, _, h⟩ | ⟨rfl, _, _, _, h⟩ | ⟨rfl, _, _, h⟩ | ⟨rfl, _, _, _, h⟩
  · exact .inr ⟨by decide, h⟩
  · exact .inr ⟨by decide, h⟩
  · exact .inr ⟨by decide, h⟩
  · exact .inr ⟨by decide, h⟩
  · exact .inl ⟨rfl, h⟩
end
section
open Go.RowKit
def HasV (w : World) (p : Nat) (k n : Int) (s : ByteArray) (b : Bool) (c : Int) : Prop :=
 AtV w p k n s b c ∧ w.frozen? ⟨p, 0, none⟩ = false ∧ w.frozen? ⟨p, 1, none⟩ = false ∧ w.frozen? ⟨p, 2, none⟩ = false ∧ w.frozen? ⟨p, 3, none⟩ = false ∧ w.frozen? ⟨p, 4, none⟩ = false
theorem HasV.alloc {w : World} {p : Nat} {k n : Int} {s : ByteArray} {b : Bool} {c : Int} (h : HasV w p k n s b c) (o : Obj) : HasV (w.alloc o) p k n s b c := by
 obtain ⟨a, h0, h1, h2, h3, h4⟩ := h
 have l := a.1
 exact ⟨a.alloc o, by rw [World.frozen?_alloc_past _ _ _ l]; exact h0, by rw [World.frozen?_alloc_past _ _ _ l]; exact h1, by rw [World.frozen?_alloc_past _ _ _ l]; exact h2, by rw [World.frozen?_alloc_past _ _ _ l]; exact h3, by rw [World.frozen?_alloc_past _ _ _ l]; exact h4⟩
theorem HasV.below {w w' : World} {p : Nat} {k n : Int} {s : ByteArray} {b : Bool} {c : Int} (h : HasV w p k n s b c) (q : Below w.heap.size w w') : HasV w' p k n s b c := by
 obtain ⟨a, h0, h1, h2, h3, h4⟩ := h
 have l := a.1
 exact ⟨a.below q, by rw [q.frozen (p := ⟨p, 0, none⟩) l]; exact h0, by rw [q.frozen (p := ⟨p, 1, none⟩) l]; exact h1, by rw [q.frozen (p := ⟨p, 2, none⟩) l]; exact h2, by rw [q.frozen (p := ⟨p, 3, none⟩) l]; exact h3, by rw [q.frozen (p := ⟨p, 4, none⟩) l]; exact h4⟩
theorem HasV.drew {w : World} {p : Nat} {k n : Int} {s : ByteArray} {b : Bool} {c : Int} (h : HasV w p k n s b c) : HasV w.drew p k n s b c := h
theorem HasV.drewN {w : World} {p : Nat} {k n : Int} {s : ByteArray} {b : Bool} {c : Int} (h : HasV w p k n s b c) (m : Nat) : HasV (w.drewN m) p k n s b c := h
end
section
open Go.RowKit
def names : List (List UInt8) := [[], [35, 68, 73, 86, 47, 48, 33], [35, 86, 65, 76, 85, 69, 33], [35, 82, 69, 70, 33], [35, 78, 65, 77, 69, 63], [35, 78, 85, 77, 33], [35, 78, 47, 65], [35, 67, 89, 67, 76, 69, 33]]
def nameL (i : Nat) : List UInt8 := names.getD i []
def NamesOk (w : World) : Prop := w.var? Tryz.prog "foolscap/value.names" = some (names.map fun l => Value.string ⟨l.toArray⟩).toArray
theorem gNames : Tryz.prog.globalNamed "foolscap/value.names" = some 1 := by kernel_rfl
theorem names_below {w w' : World} (h : NamesOk w) (hb : Below w.heap.size w w') : NamesOk w' := Joins.var_stays gNames h hb (Nat.le_refl _)
theorem names_cell {w : World} (h : NamesOk w) (i : Nat) (hi : i < 8) : w.cell? ⟨1, i, none⟩ = some (.string ⟨(nameL i).toArray⟩) := by
 rw [World.var?_cell gNames h i]
 have : i = 0 ∨ i = 1 ∨ i = 2 ∨ i = 3 ∨ i = 4 ∨ i = 5 ∨ i = 6 ∨ i = 7 := by omega
 rcases this with rfl | rfl | rfl | rfl | rfl | rfl | rfl | rfl <;> rfl
theorem names_any (w : World) :
  Calls Tryz.prog 88 #[] w fun e w' => e = .returned (.slice (some ⟨w.heap.size, 0, none⟩) 8 8) ∧ w' = w.alloc (.cells (names.map fun l => Value.string ⟨l.toArray⟩).toArray 9) := by
 go_enter Tryz.func88, Tryz.ntmps88
 go_wp2
 go_ret
 exact ⟨rfl, rfl⟩
end
section
open Go.RowKit
def showV (k n : Int) (s : ByteArray) (b : Bool) (c : Int) : List UInt8 × Int :=
 if rightB k n s b c = false then ([], 2) else if k = 4 then (nameL c.toNat, 0) else ((wordsV k n s b c).1, 0)
end
section
open Go.RowKit
theorem showV_any (k n : Int) (s : ByteArray) (b : Bool) (c : Int) (w : World) (ht : TabOk w) (hn : NamesOk w) (hz : s.size ≤ maxLen) :
    Calls Tryz.prog 86 #[.agg #[.int .i64 k, .int .i64 n, .string s, .bool b, .int .i64 c]] w fun e w' => e = .returned (.tuple #[.string ⟨(showV k n s b c).1.toArray⟩, .int .i64 (showV k n s b c).2]) ∧ Below w.heap.size w w' := by
  have HR : Hid (∀ W : World, Calls Tryz.prog 117 #[.agg #[.int .i64 k, .int .i64 n, .string s, .bool b, .int .i64 c]] W fun e w' => e = .returned (.bool (rightB k n s b c)) ∧ Below W.heap.size W w') := fun W => right_any k n s b c W hz
  have HW : Hid (∀ W : World, TabOk W → Calls Tryz.prog 118 #[.agg #[.int .i64 k, .int .i64 n, .string s, .bool b, .int .i64 c]] W fun e w' => e = .returned (.tuple #[.string ⟨(wordsV k n s b c).1.toArray⟩, .int .i64 (wordsV k n s b c).2]) ∧ Below W.heap.size W w') := fun W hW => wordsV_any k n s b c W hW hz
  have HT := hide ht
  have HN := hide hn
  clear ht hn hz
  cases hr : rightB k n s b c
  · rw [show showV k n s b c = ([], 2) by simp [showV, hr]]
    rw [hr] at HR
    clear hr HW
    go_enter Tryz.func86, Tryz.ntmps86
    go_wp2_with (go_at_call 117; refine (HR.out _).mono ?_; rintro e w1 ⟨rfl, hb1⟩; obtain ⟨q0, q1, q2, q3, q4, q5, q6⟩ := box_cells hb1)
    go_ret2
    exact ⟨rfl, q6⟩
  · rw [hr] at HR
    rcases right_code hr with ⟨rfl, h1, h7⟩ | ⟨h4, hc0⟩
    · rw [show showV 4 n s b c = (nameL c.toNat, 0) by simp [showV, hr]]
      obtain ⟨j, rfl⟩ : ∃ j : Nat, c = (j : Int) := ⟨c.toNat, by omega⟩
      have hj : j < 8 := by omega
      rw [Int.toNat_natCast]
      have HC : Hid (∀ W : World, NamesOk W → W.cell? ⟨1, j, none⟩ = some (.string ⟨(nameL j).toArray⟩)) := fun W hW => names_cell hW j hj
      generalize (⟨(nameL j).toArray⟩ : ByteArray) = T at *
      have i1 : (0 : Int) ≤ (j : Int) := by omega
      have i2 : (j : Int) < 8 := by omega
      clear hr HW h1 h7 hj
      go_enter Tryz.func86, Tryz.ntmps86
      go_wp2_with (go_at_call 117; refine (HR.out _).mono ?_; rintro e w1 ⟨rfl, hb1⟩; obtain ⟨q0, q1, q2, q3, q4, q5, q6⟩ := box_cells hb1; have q7 := HC.out _ (names_below HN.out q6))
      go_ret2
      exact ⟨rfl, q6⟩
    · rw [show showV k n s b c = ((wordsV k n s b c).1, 0) by simp [showV, hr, h4]]
      have t4 : (k == 4) = false := by simpa using h4
      clear hr h4 hc0
      generalize (⟨(wordsV k n s b c).1.toArray⟩ : ByteArray) = T at *
      generalize (wordsV k n s b c).2 = z at *
      go_enter Tryz.func86, Tryz.ntmps86
      go_wp2_with (first | (go_at_call 117; refine (HR.out _).mono ?_; rintro e w1 ⟨rfl, hb1⟩; obtain ⟨q0, q1, q2, q3, q4, q5, q6⟩ := box_cells hb1) | (go_at_call 118; refine (HW.out _ (tab_below HT.out q6)).mono ?_; rintro e w2 ⟨rfl, hb2⟩))
      go_ret2
      exact ⟨rfl, q6.trans (hb2.mono q6.size)⟩
end
end Go.Proofs.YtiaoaifoecmemaaGreatDoor
