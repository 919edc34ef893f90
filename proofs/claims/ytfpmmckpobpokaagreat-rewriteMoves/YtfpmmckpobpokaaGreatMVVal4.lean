/-
  Out of Val4, CompMath, ValMem, Names, ShowMath, RefVal4, RefVal5, RefBytes, RefShow, what is asked for (laid by pack9.py).
-/
import Derived.Test.YtfpmmckpobpokaaGreatMVVal3
import Derived.ChangeArms
import Derived.Laws.Cover1
import Derived.Lib.LaidTab
set_option maxRecDepth 100000
set_option maxHeartbeats 4000000
namespace Go.Proofs.YtfpmmckpobpokaaGreat
section
open Go.RowKit
theorem box_cells {w w1 : World} {k n : Int} {s : ByteArray} {b : Bool} {c : Int} {t : TypeId} (hb : Below (w.alloc (.cells #[.int .i64 k, .int .i64 n, .string s, .bool b, .int .i64 c] t)).heap.size (w.alloc (.cells #[.int .i64 k, .int .i64 n, .string s, .bool b, .int .i64 c] t)) w1) :
  w1.cell? ⟨w.heap.size, 0, none⟩ = some (.int .i64 k) ∧ w1.cell? ⟨w.heap.size, 1, none⟩ = some (.int .i64 n) ∧ w1.cell? ⟨w.heap.size, 2, none⟩ = some (.string s) ∧ w1.cell? ⟨w.heap.size, 3, none⟩ = some (.bool b) ∧ w1.cell? ⟨w.heap.size, 4, none⟩ = some (.int .i64 c) ∧ w.heap.size < w1.heap.size ∧ Below w.heap.size w w1 :=
 BoxS.below (BoxS.new w k n s b c t) hb
theorem checkV_any (k n : Int) (s : ByteArray) (b : Bool) (c : Int) (w : World) (hz : s.size ≤ maxLen) :
  Calls Tryz.prog 132 #[.agg #[.int .i64 k, .int .i64 n, .string s, .bool b, .int .i64 c]] w fun e w' => e = .returned (.int .i64 (checkV k n s b c)) ∧ Below w.heap.size w w' := by
 have HR : Hid (∀ W : World, Calls Tryz.prog 140 #[.agg #[.int .i64 k, .int .i64 n, .string s, .bool b, .int .i64 c]] W fun e w' => e = .returned (.bool (rightB k n s b c)) ∧ Below W.heap.size W w') := fun W => right_any k n s b c W hz
 clear hz
 have HV : Hid (checkV k n s b c = if rightB k n s b c then 0 else 2) := rfl
 generalize rightB k n s b c = r at *
 cases r
 all_goals
  go_enter Tryz.func132, Tryz.ntmps132
  go_wp2_with (go_at_call 140; refine (HR.out _).mono ?_; rintro e w1 ⟨rfl, hb1⟩; obtain ⟨q0, q1, q2, q3, q4, q5, q6⟩ := box_cells hb1)
  go_ret
  exact ⟨by rw [HV.out]; rfl, q6⟩
end
section
open Go.RowKit
theorem right_code {k n : Int} {s : ByteArray} {b : Bool} {c : Int} (h : rightB k n s b c = true) : (k = 4 ∧ 1 ≤ c ∧ c ≤ 7) ∨ (k ≠ 4 ∧ c = 0) := by
 rcases right_cases h with ⟨rfl, _, _, _, h⟩ | ⟨rfl, _, _, _, h⟩ | ⟨rfl, _, _, _, h⟩ | ⟨rfl, _, _, h⟩ | ⟨rfl, _, _, _, h⟩
 ·
  exact .inr ⟨by decide, h⟩
 ·
  exact .inr ⟨by decide, h⟩
 ·
  exact .inr ⟨by decide, h⟩
 ·
  exact .inr ⟨by decide, h⟩
 ·
  exact .inl ⟨rfl, h⟩
end
section
open Go.RowKit
def HasV (w : World) (p : Nat) (k n : Int) (s : ByteArray) (b : Bool) (c : Int) : Prop :=
 AtV w p k n s b c ∧ w.frozen? ⟨p, 0, none⟩ = false ∧ w.frozen? ⟨p, 1, none⟩ = false ∧ w.frozen? ⟨p, 2, none⟩ = false ∧ w.frozen? ⟨p, 3, none⟩ = false ∧ w.frozen? ⟨p, 4, none⟩ = false
theorem HasV.at (w : World) (p : Nat) (k n : Int) (s : ByteArray) (b : Bool) (c : Int) (t : TypeId) (h : p = w.heap.size) : HasV (w.alloc (.cells #[.int .i64 k, .int .i64 n, .string s, .bool b, .int .i64 c] t)) p k n s b c := by
 refine ⟨AtV.at w p k n s b c t h, ?_⟩
 subst h
 exact ⟨by simp, by simp, by simp, by simp, by simp⟩
theorem HasV.alloc {w : World} {p : Nat} {k n : Int} {s : ByteArray} {b : Bool} {c : Int} (h : HasV w p k n s b c) (o : Obj) : HasV (w.alloc o) p k n s b c := by
 obtain ⟨a, h0, h1, h2, h3, h4⟩ := h
 have l := a.1
 exact ⟨a.alloc o, by rw [World.frozen?_alloc_past _ _ _ l]; exact h0, by rw [World.frozen?_alloc_past _ _ _ l]; exact h1, by rw [World.frozen?_alloc_past _ _ _ l]; exact h2, by rw [World.frozen?_alloc_past _ _ _ l]; exact h3, by rw [World.frozen?_alloc_past _ _ _ l]; exact h4⟩
theorem HasV.below {w w' : World} {p : Nat} {k n : Int} {s : ByteArray} {b : Bool} {c : Int} (h : HasV w p k n s b c) (q : Below w.heap.size w w') : HasV w' p k n s b c := by
 obtain ⟨a, h0, h1, h2, h3, h4⟩ := h
 have l := a.1
 exact ⟨a.below q, by rw [q.frozen (p := ⟨p, 0, none⟩) l]; exact h0, by rw [q.frozen (p := ⟨p, 1, none⟩) l]; exact h1, by rw [q.frozen (p := ⟨p, 2, none⟩) l]; exact h2, by rw [q.frozen (p := ⟨p, 3, none⟩) l]; exact h3, by rw [q.frozen (p := ⟨p, 4, none⟩) l]; exact h4⟩
theorem HasV.drew {w : World} {p : Nat} {k n : Int} {s : ByteArray} {b : Bool} {c : Int} (h : HasV w p k n s b c) : HasV w.drew p k n s b c := h
theorem HasV.drewN {w : World} {p : Nat} {k n : Int} {s : ByteArray} {b : Bool} {c : Int} (h : HasV w p k n s b c) (m : Nat) : HasV (w.drewN m) p k n s b c := h
end
section
open Go.RowKit
def names : List (List UInt8) := [[], [35, 68, 73, 86, 47, 48, 33], [35, 86, 65, 76, 85, 69, 33], [35, 82, 69, 70, 33], [35, 78, 65, 77, 69, 63], [35, 78, 85, 77, 33], [35, 78, 47, 65], [35, 67, 89, 67, 76, 69, 33]]
def nameL (i : Nat) : List UInt8 := names.getD i []
theorem names_any (w : World) :
  Calls Tryz.prog 127 #[] w fun e w' => e = .returned (.slice (some ⟨w.heap.size, 0, none⟩) 8 8) ∧ w' = w.alloc (.cells (names.map fun l => Value.string ⟨l.toArray⟩).toArray 9) := by
 go_enter Tryz.func127, Tryz.ntmps127
 go_wp2
 go_ret
 exact ⟨rfl, rfl⟩
end
section
open Go.RowKit
def showV (k n : Int) (s : ByteArray) (b : Bool) (c : Int) : List UInt8 × Int :=
 if rightB k n s b c = false then ([], 2) else if k = 4 then (nameL c.toNat, 0) else ((wordsV k n s b c).1, 0)
end
section
open Go.RowKit
theorem rfaultV_any (k n : Int) (s : ByteArray) (b : Bool) (c : Int) (w : World) (hz : s.size ≤ maxLen) :
  Calls Tryz.prog 138 #[.agg #[.int .i64 k, .int .i64 n, .string s, .bool b, .int .i64 c]] w fun e w' => e = .returned (.int .i64 (troubleV k n s b c)) ∧ Below w.heap.size w w' := by
 have HR : Hid (∀ W : World, Calls Tryz.prog 80 #[.agg #[.int .i64 k, .int .i64 n, .string s, .bool b, .int .i64 c]] W fun e w' => e = .returned (.bool (rightB k n s b c)) ∧ Below W.heap.size W w') := fun W => rright_any k n s b c W hz
 clear hz
 have HV : Hid (troubleV k n s b c = if rightB k n s b c then c else 2) := rfl
 have HX := hide (fun h => right_code (k := k) (n := n) (s := s) (b := b) (c := c) h)
 generalize rightB k n s b c = r at *
 cases r
 ·
  go_enter Tryz.func138, Tryz.ntmps138
  go_wp2_with (go_at_call 80; refine (HR.out _).mono ?_; rintro e w1 ⟨rfl, hb1⟩; obtain ⟨q0, q1, q2, q3, q4, q5, q6⟩ := box_cells hb1)
  go_ret
  exact ⟨by rw [HV.out]; rfl, q6⟩
 ·
  rcases HX.out rfl with ⟨rfl, _, _⟩ | ⟨h4, rfl⟩
  ·
   go_enter Tryz.func138, Tryz.ntmps138
   go_wp2_with (go_at_call 80; refine (HR.out _).mono ?_; rintro e w1 ⟨rfl, hb1⟩; obtain ⟨q0, q1, q2, q3, q4, q5, q6⟩ := box_cells hb1)
   go_ret
   exact ⟨by rw [HV.out]; rfl, q6⟩
  ·
   have t4 : (k == 4) = false := by simpa using h4
   go_enter Tryz.func138, Tryz.ntmps138
   go_wp2_with (go_at_call 80; refine (HR.out _).mono ?_; rintro e w1 ⟨rfl, hb1⟩; obtain ⟨q0, q1, q2, q3, q4, q5, q6⟩ := box_cells hb1)
   go_ret
   exact ⟨by rw [HV.out]; rfl, q6⟩
end
section
open Go.RowKit
theorem rwordsV_any (k n : Int) (s : ByteArray) (b : Bool) (c : Int) (w : World) (hz : s.size ≤ maxLen) :
  Calls Tryz.prog 128 #[.agg #[.int .i64 k, .int .i64 n, .string s, .bool b, .int .i64 c]] w fun e w' => e = .returned (.tuple #[.string ⟨(wordsV k n s b c).1.toArray⟩, .int .i64 (wordsV k n s b c).2]) ∧ Below w.heap.size w w' := by
 have HT : Hid (∀ W : World, Calls Tryz.prog 138 #[.agg #[.int .i64 k, .int .i64 n, .string s, .bool b, .int .i64 c]] W fun e w' => e = .returned (.int .i64 (troubleV k n s b c)) ∧ Below W.heap.size W w') := fun W => rfaultV_any k n s b c W hz
 have HP : Hid (fitsB n = true → ∀ W : World, Calls Tryz.prog 139 #[.int .i64 n] W fun e w' => e = .returned (.tuple #[.string ⟨(textOf n).toArray⟩, .int .i64 0]) ∧ Below W.heap.size W w') := fun h W => rprint_good n W h
 clear hz
 cases hr : rightB k n s b c
 ·
  rw [troubleV_no hr] at HT
  rw [show wordsV k n s b c = ([], 2) by simp [wordsV, hr]]
  clear hr
  go_enter Tryz.func128, Tryz.ntmps128
  go_wp2_with (first | (go_at_call 138; refine (HT.out _).mono ?_; rintro e w1 ⟨rfl, hb1⟩; obtain ⟨q0, q1, q2, q3, q4, q5, q6⟩ := box_cells hb1))
  go_ret2
  exact ⟨rfl, q6⟩
 ·
  rw [troubleV_yes hr] at HT
  rcases right_cases hr with ⟨rfl, rfl, rfl, rfl, rfl⟩ | ⟨rfl, hf, rfl, rfl, rfl⟩ | ⟨rfl, rfl, hl, rfl, rfl⟩ | ⟨rfl, rfl, rfl, rfl⟩ | ⟨rfl, rfl, rfl, rfl, h1, h7⟩
  ·
   rw [show wordsV 0 0 ⟨#[]⟩ false 0 = ([], 0) by simp [wordsV, hr]]
   clear hr
   go_enter Tryz.func128, Tryz.ntmps128
   go_wp2_with (first | (go_at_call 138; refine (HT.out _).mono ?_; rintro e w1 ⟨rfl, hb1⟩; obtain ⟨q0, q1, q2, q3, q4, q5, q6⟩ := box_cells hb1))
   go_ret2
   exact ⟨rfl, q6⟩
  ·
   rw [show wordsV 1 n ⟨#[]⟩ false 0 = (textOf n, 0) by simp [wordsV, hr]]
   have HP := hide (HP.out hf)
   clear hr hf
   generalize (⟨(textOf n).toArray⟩ : ByteArray) = T at *
   go_enter Tryz.func128, Tryz.ntmps128
   go_wp2_with (first | (go_at_call 138; refine (HT.out _).mono ?_; rintro e w1 ⟨rfl, hb1⟩; obtain ⟨q0, q1, q2, q3, q4, q5, q6⟩ := box_cells hb1) | (go_at_call 139; refine (HP.out _).mono ?_; rintro e w2 ⟨rfl, hb2⟩))
   go_ret2
   exact ⟨rfl, q6.trans (hb2.mono q6.size)⟩
  ·
   rw [show wordsV 2 0 s false 0 = (s.data.toList, 0) by simp [wordsV, hr], ba_eta]
   clear hr
   go_enter Tryz.func128, Tryz.ntmps128
   go_wp2_with (first | (go_at_call 138; refine (HT.out _).mono ?_; rintro e w1 ⟨rfl, hb1⟩; obtain ⟨q0, q1, q2, q3, q4, q5, q6⟩ := box_cells hb1))
   go_ret2
   exact ⟨rfl, q6⟩
  ·
   cases b
   ·
    rw [show wordsV 3 0 ⟨#[]⟩ false 0 = ([70, 65, 76, 83, 69], 0) by simp [wordsV, hr]]
    clear hr
    go_enter Tryz.func128, Tryz.ntmps128
    go_wp2_with (first | (go_at_call 138; refine (HT.out _).mono ?_; rintro e w1 ⟨rfl, hb1⟩; obtain ⟨q0, q1, q2, q3, q4, q5, q6⟩ := box_cells hb1))
    go_ret2
    exact ⟨rfl, q6⟩
   ·
    rw [show wordsV 3 0 ⟨#[]⟩ true 0 = ([84, 82, 85, 69], 0) by simp [wordsV, hr]]
    clear hr
    go_enter Tryz.func128, Tryz.ntmps128
    go_wp2_with (first | (go_at_call 138; refine (HT.out _).mono ?_; rintro e w1 ⟨rfl, hb1⟩; obtain ⟨q0, q1, q2, q3, q4, q5, q6⟩ := box_cells hb1))
    go_ret2
    exact ⟨rfl, q6⟩
  ·
   have hc0 : (c != 0) = true := by simp; omega
   rw [show wordsV 4 0 ⟨#[]⟩ false c = ([], c) by simp [wordsV, hr]]
   clear hr
   go_enter Tryz.func128, Tryz.ntmps128
   go_wp2_with (first | (go_at_call 138; refine (HT.out _).mono ?_; rintro e w1 ⟨rfl, hb1⟩; obtain ⟨q0, q1, q2, q3, q4, q5, q6⟩ := box_cells hb1))
   go_ret2
   exact ⟨rfl, q6⟩
end
section
open Go.RowKit
end
section
open Go.RowKit
theorem BoxS.alloc {W w' : World} {p : Nat} {k n : Int} {s : ByteArray} {b : Bool} {c : Int}
  (h : w'.cell? ⟨p, 0, none⟩ = some (.int .i64 k) ∧ w'.cell? ⟨p, 1, none⟩ = some (.int .i64 n) ∧ w'.cell? ⟨p, 2, none⟩ = some (.string s) ∧ w'.cell? ⟨p, 3, none⟩ = some (.bool b) ∧ w'.cell? ⟨p, 4, none⟩ = some (.int .i64 c) ∧ p < w'.heap.size ∧ Below W.heap.size W w') (o : Obj) :
  (w'.alloc o).cell? ⟨p, 0, none⟩ = some (.int .i64 k) ∧ (w'.alloc o).cell? ⟨p, 1, none⟩ = some (.int .i64 n) ∧ (w'.alloc o).cell? ⟨p, 2, none⟩ = some (.string s) ∧ (w'.alloc o).cell? ⟨p, 3, none⟩ = some (.bool b) ∧ (w'.alloc o).cell? ⟨p, 4, none⟩ = some (.int .i64 c) ∧ p < (w'.alloc o).heap.size ∧ Below W.heap.size W (w'.alloc o) :=
 BoxS.below h ((Below.refl _ _).alloc (Nat.le_refl _) o)
theorem new_name (W : World) (j : Nat) (h : j < 8) : (W.alloc (.cells (names.map fun l => Value.string ⟨l.toArray⟩).toArray 9)).cell? ⟨W.heap.size, j, none⟩ = some (.string ⟨(nameL j).toArray⟩) := by
 have : j = 0 ∨ j = 1 ∨ j = 2 ∨ j = 3 ∨ j = 4 ∨ j = 5 ∨ j = 6 ∨ j = 7 := by omega
 rcases this with rfl | rfl | rfl | rfl | rfl | rfl | rfl | rfl <;> simp [go_sem, names, nameL]
set_option linter.unusedSimpArgs false in
theorem rshow_fault (n : Int) (s : ByteArray) (b : Bool) (j : Nat) (T : ByteArray) (w : World) (hj : j < 8) (HR : Hid (∀ W : World, Calls Tryz.prog 80 #[.agg #[.int .i64 4, .int .i64 n, .string s, .bool b, .int .i64 (j : Int)]] W fun e w' => e = .returned (.bool true) ∧ Below W.heap.size W w')) (hT : ∀ W : World, (W.alloc (.cells (names.map fun l => Value.string ⟨l.toArray⟩).toArray 9)).cell? ⟨W.heap.size, j, none⟩ = some (.string T)) :
  Calls Tryz.prog 108 #[.agg #[.int .i64 4, .int .i64 n, .string s, .bool b, .int .i64 (j : Int)]] w fun e w' => e = .returned (.tuple #[.string T, .int .i64 0]) ∧ Below w.heap.size w w' := by
 have i1 : (0 : Int) ≤ (j : Int) := by omega
 have i2 : (j : Int) < 8 := by omega
 have HT := hide hT
 have HS := hide (BoxS.new w 4 n s b (j : Int) 26)
 clear hT
 go_enter Tryz.func108, Tryz.ntmps108
 go_wp2_with fail
 refine (HR.out _).mono ?_
 rintro e w1 ⟨rfl, hb⟩
 have HS := hide (BoxS.below HS.out hb)
 clear hb
 obtain ⟨q0, q1, q2, q3, q4, q5, q6⟩ := HS.out
 go_wp2
 clear q0 q1 q2 q3 q4 q5 q6
 refine wp_region_held_drew (S := fun w' => w'.cell? ⟨w.heap.size, 0, none⟩ = some (.int .i64 4) ∧ w'.cell? ⟨w.heap.size, 1, none⟩ = some (.int .i64 n) ∧ w'.cell? ⟨w.heap.size, 2, none⟩ = some (.string s) ∧ w'.cell? ⟨w.heap.size, 3, none⟩ = some (.bool b) ∧ w'.cell? ⟨w.heap.size, 4, none⟩ = some (.int .i64 (j : Int)) ∧ w.heap.size < w'.heap.size ∧ Below w.heap.size w w') (by kernel_rfl) (BoxS.drew HS.out) (fun hHeld => ?_)
 refine takeF 1 (some 13) ?_; refine takeF 2 (some 14) ?_; (refine wpAnyH_ready (rs := [0]) (by kernel_rfl) (by simp) ?_; refine AllReadyH.cons (o := _) rfl (fun K hK => ?_) AllReadyH.nil; go_simp; (go_at_call 127; refine (names_any _).mono ?_; rintro e w2 ⟨rfl, rfl⟩); refine hK.out _ _ (BoxS.alloc hHeld _) (fun hHeld => ?_); clear hK K; try simp only [Act.put, pA, pB, pC]); refine takeF 3 (some 15) ?_
 have hc : (w1.drew.alloc (.cells (names.map fun l => Value.string ⟨l.toArray⟩).toArray 9)).cell? ⟨w1.heap.size, j, none⟩ = some (.string T) := HT.out w1.drew
 generalize w1.drew.alloc (.cells (names.map fun l => Value.string ⟨l.toArray⟩).toArray 9) = w2 at hc hHeld ⊢
 (refine wpAnyH_ready (rs := [4]) (by kernel_rfl) (by simp) ?_; refine AllReadyH.cons (o := _) rfl (fun K hK => ?_) AllReadyH.nil; go_simp; skip; refine hK.out _ _ hHeld (fun hHeld => ?_); clear hK K; try simp only [Act.put, pA, pB, pC]); refine takeF 5 (some 2) ?_; refine takeF 6 (some 3) ?_; refine wpAnyH_done (by kernel_rfl) ?_ _
 go_wp2
 go_ret2
 exact ⟨rfl, BoxS.out hHeld⟩
theorem rshowV_any (k n : Int) (s : ByteArray) (b : Bool) (c : Int) (w : World) (hz : s.size ≤ maxLen) :
  Calls Tryz.prog 108 #[.agg #[.int .i64 k, .int .i64 n, .string s, .bool b, .int .i64 c]] w fun e w' => e = .returned (.tuple #[.string ⟨(showV k n s b c).1.toArray⟩, .int .i64 (showV k n s b c).2]) ∧ Below w.heap.size w w' := by
 have HR : Hid (∀ W : World, Calls Tryz.prog 80 #[.agg #[.int .i64 k, .int .i64 n, .string s, .bool b, .int .i64 c]] W fun e w' => e = .returned (.bool (rightB k n s b c)) ∧ Below W.heap.size W w') := fun W => rright_any k n s b c W hz
 have HW : Hid (∀ W : World, Calls Tryz.prog 128 #[.agg #[.int .i64 k, .int .i64 n, .string s, .bool b, .int .i64 c]] W fun e w' => e = .returned (.tuple #[.string ⟨(wordsV k n s b c).1.toArray⟩, .int .i64 (wordsV k n s b c).2]) ∧ Below W.heap.size W w') := fun W => rwordsV_any k n s b c W hz
 clear hz
 cases hr : rightB k n s b c
 ·
  rw [show showV k n s b c = ([], 2) by simp [showV, hr]]
  rw [hr] at HR
  clear hr HW
  go_enter Tryz.func108, Tryz.ntmps108
  go_wp2_with (go_at_call 80; refine (HR.out _).mono ?_; rintro e w1 ⟨rfl, hb1⟩; obtain ⟨q0, q1, q2, q3, q4, q5, q6⟩ := box_cells hb1)
  go_ret2
  exact ⟨rfl, q6⟩
 ·
  rw [hr] at HR
  rcases right_code hr with ⟨rfl, h1, h7⟩ | ⟨h4, hc0⟩
  ·
   rw [show showV 4 n s b c = (nameL c.toNat, 0) by simp [showV, hr]]
   obtain ⟨j, rfl⟩ : ∃ j : Nat, c = (j : Int) := ⟨c.toNat, by omega⟩
   have hj : j < 8 := by omega
   rw [Int.toNat_natCast]
   exact rshow_fault n s b j _ w hj HR (fun W => new_name W j hj)
  ·
   rw [show showV k n s b c = ((wordsV k n s b c).1, 0) by simp [showV, hr, h4]]
   have t4 : (k == 4) = false := by simpa using h4
   clear hr h4 hc0
   generalize (⟨(wordsV k n s b c).1.toArray⟩ : ByteArray) = T at *
   generalize (wordsV k n s b c).2 = z at *
   go_enter Tryz.func108, Tryz.ntmps108
   go_wp2_with (first | (go_at_call 80; refine (HR.out _).mono ?_; rintro e w1 ⟨rfl, hb1⟩; obtain ⟨q0, q1, q2, q3, q4, q5, q6⟩ := box_cells hb1) | (go_at_call 128; refine (HW.out _).mono ?_; rintro e w2 ⟨rfl, hb2⟩))
   go_ret2
   exact ⟨rfl, q6.trans (hb2.mono q6.size)⟩
end
end Go.Proofs.YtfpmmckpobpokaaGreat
