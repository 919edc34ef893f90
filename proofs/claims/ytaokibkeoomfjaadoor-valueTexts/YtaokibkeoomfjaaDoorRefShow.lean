/-
  The contracts of the answer's Show and Read.
-/
import Derived.Test.YtaokibkeoomfjaaDoorRefVal5
import Derived.Test.YtaokibkeoomfjaaDoorShowMath
import Derived.Test.YtaokibkeoomfjaaDoorValMem
import Derived.Test.YtaokibkeoomfjaaDoorCompMath
namespace Go.Proofs.YtaokibkeoomfjaaDoor
open Go.RowKit

theorem BoxS.alloc {W w' : World} {p : Nat} {k n : Int} {s : ByteArray} {b : Bool} {c : Int}
    (h : w'.cell? ⟨p, 0, none⟩ = some (.int .i64 k) ∧ w'.cell? ⟨p, 1, none⟩ = some (.int .i64 n) ∧ w'.cell? ⟨p, 2, none⟩ = some (.string s) ∧ w'.cell? ⟨p, 3, none⟩ = some (.bool b) ∧ w'.cell? ⟨p, 4, none⟩ = some (.int .i64 c) ∧ p < w'.heap.size ∧ Below W.heap.size W w') (o : Obj) :
    (w'.alloc o).cell? ⟨p, 0, none⟩ = some (.int .i64 k) ∧ (w'.alloc o).cell? ⟨p, 1, none⟩ = some (.int .i64 n) ∧ (w'.alloc o).cell? ⟨p, 2, none⟩ = some (.string s) ∧ (w'.alloc o).cell? ⟨p, 3, none⟩ = some (.bool b) ∧ (w'.alloc o).cell? ⟨p, 4, none⟩ = some (.int .i64 c) ∧ p < (w'.alloc o).heap.size ∧ Below W.heap.size W (w'.alloc o) :=
  BoxS.below h ((Below.refl _ _).alloc (Nat.le_refl _) o)
theorem new_name (W : World) (j : Nat) (h : j < 8) : (W.alloc (.cells (names.map fun l => Value.string ⟨l.toArray⟩).toArray 9)).cell? ⟨W.heap.size, j, none⟩ = some (.string ⟨(nameL j).toArray⟩) := by
  have : j = 0 ∨ j = 1 ∨ j = 2 ∨ j = 3 ∨ j = 4 ∨ j = 5 ∨ j = 6 ∨ j = 7 := by omega
  rcases this with rfl | rfl | rfl | rfl | rfl | rfl | rfl | rfl <;> simp [go_sem, names, nameL]

set_option linter.unusedSimpArgs false in
set_option maxHeartbeats 2000000 in
theorem rshow_fault (n : Int) (s : ByteArray) (b : Bool) (j : Nat) (T : ByteArray) (w : World) (hj : j < 8) (HR : Hid (∀ W : World, Calls Tryd.prog 39 #[.agg #[.int .i64 4, .int .i64 n, .string s, .bool b, .int .i64 (j : Int)]] W fun e w' => e = .returned (.bool true) ∧ Below W.heap.size W w')) (hT : ∀ W : World, (W.alloc (.cells (names.map fun l => Value.string ⟨l.toArray⟩).toArray 9)).cell? ⟨W.heap.size, j, none⟩ = some (.string T)) :
    Calls Tryd.prog 23 #[.agg #[.int .i64 4, .int .i64 n, .string s, .bool b, .int .i64 (j : Int)]] w fun e w' => e = .returned (.tuple #[.string T, .int .i64 0]) ∧ Below w.heap.size w w' := by
  have i1 : (0 : Int) ≤ (j : Int) := by omega
  have i2 : (j : Int) < 8 := by omega
  have HT := hide hT
  have HS := hide (BoxS.new w 4 n s b (j : Int) 25)
  clear hT
  go_enter Tryd.func23, Tryd.ntmps23
  go_wp2_with fail
  refine (HR.out _).mono ?_
  rintro e w1 ⟨rfl, hb⟩
  have HS := hide (BoxS.below HS.out hb)
  clear hb
  obtain ⟨q0, q1, q2, q3, q4, q5, q6⟩ := HS.out
  go_wp2
  clear q0 q1 q2 q3 q4 q5 q6
  refine wp_region_held_drew (S := fun w' => w'.cell? ⟨w.heap.size, 0, none⟩ = some (.int .i64 4) ∧ w'.cell? ⟨w.heap.size, 1, none⟩ = some (.int .i64 n) ∧ w'.cell? ⟨w.heap.size, 2, none⟩ = some (.string s) ∧ w'.cell? ⟨w.heap.size, 3, none⟩ = some (.bool b) ∧ w'.cell? ⟨w.heap.size, 4, none⟩ = some (.int .i64 (j : Int)) ∧ w.heap.size < w'.heap.size ∧ Below w.heap.size w w') (by kernel_rfl) (BoxS.drew HS.out) (fun hHeld => ?_)
  (refine takeD (i := 1) (some 13) rfl rfl (by kernel_rfl) (by kernel_rfl) (by kernel_rfl) (fun _ _ _ h => h) (v := ?_) rfl ?_ (by assumption) ?_; rotate_left; (focus (intro w hSw; (try dsimp only at hSw); first | (go_simp; done) | (go_simp; with_reducible rfl))); try simp only [Act.put, List.setIfInBounds_toArray, List.set_cons_zero, List.set_cons_succ]); (refine takeD (i := 2) (some 14) rfl rfl (by kernel_rfl) (by kernel_rfl) (by kernel_rfl) (fun _ _ _ h => h) (v := ?_) rfl ?_ (by assumption) ?_; rotate_left; (focus (intro w hSw; (try dsimp only at hSw); first | (go_simp; done) | (go_simp; with_reducible rfl))); try simp only [Act.put, List.setIfInBounds_toArray, List.set_cons_zero, List.set_cons_succ]); (refine wpAnyH_ready (rs := [0]) (by kernel_rfl) (by simp) ?_; refine AllReadyH.cons (o := _) rfl (fun K hK => ?_) AllReadyH.nil; go_simp; (go_at_call 47; refine (names_any _).mono ?_; rintro e w2 ⟨rfl, rfl⟩); refine hK.out _ _ (BoxS.alloc hHeld _) (fun hHeld => ?_); clear hK K; try simp only [Act.put, List.setIfInBounds_toArray, List.set_cons_zero, List.set_cons_succ]); (refine takeD (i := 3) (some 15) rfl rfl (by kernel_rfl) (by kernel_rfl) (by kernel_rfl) (fun _ _ _ h => h) (v := ?_) rfl ?_ (by assumption) ?_; rotate_left; (focus (intro w hSw; (try dsimp only at hSw); first | (go_simp; done) | (go_simp; with_reducible rfl))); try simp only [Act.put, List.setIfInBounds_toArray, List.set_cons_zero, List.set_cons_succ])
  have hc : (w1.drew.alloc (.cells (names.map fun l => Value.string ⟨l.toArray⟩).toArray 9)).cell? ⟨w1.heap.size, j, none⟩ = some (.string T) := HT.out w1.drew
  generalize w1.drew.alloc (.cells (names.map fun l => Value.string ⟨l.toArray⟩).toArray 9) = w2 at hc hHeld ⊢
  (refine wpAnyH_ready (rs := [4]) (by kernel_rfl) (by simp) ?_; refine AllReadyH.cons (o := _) rfl (fun K hK => ?_) AllReadyH.nil; go_simp; skip; refine hK.out _ _ hHeld (fun hHeld => ?_); clear hK K; try simp only [Act.put, List.setIfInBounds_toArray, List.set_cons_zero, List.set_cons_succ]); (refine takeD (i := 5) (some 2) rfl rfl (by kernel_rfl) (by kernel_rfl) (by kernel_rfl) (fun _ _ _ h => h) (v := ?_) rfl ?_ (by assumption) ?_; rotate_left; (focus (intro w hSw; (try dsimp only at hSw); first | (go_simp; done) | (go_simp; with_reducible rfl))); try simp only [Act.put, List.setIfInBounds_toArray, List.set_cons_zero, List.set_cons_succ]); (refine takeD (i := 6) (some 3) rfl rfl (by kernel_rfl) (by kernel_rfl) (by kernel_rfl) (fun _ _ _ h => h) (v := ?_) rfl ?_ (by assumption) ?_; rotate_left; (focus (intro w hSw; (try dsimp only at hSw); first | (go_simp; done) | (go_simp; with_reducible rfl))); try simp only [Act.put, List.setIfInBounds_toArray, List.set_cons_zero, List.set_cons_succ]); refine wpAnyH_done (by kernel_rfl) ?_ _
  go_wp2
  go_ret2
  exact ⟨rfl, BoxS.out hHeld⟩
set_option maxHeartbeats 1000000 in
theorem rshowV_any (k n : Int) (s : ByteArray) (b : Bool) (c : Int) (w : World) (hz : s.size ≤ maxLen) :
    Calls Tryd.prog 23 #[.agg #[.int .i64 k, .int .i64 n, .string s, .bool b, .int .i64 c]] w fun e w' => e = .returned (.tuple #[.string ⟨(showV k n s b c).1.toArray⟩, .int .i64 (showV k n s b c).2]) ∧ Below w.heap.size w w' := by
  have HR : Hid (∀ W : World, Calls Tryd.prog 39 #[.agg #[.int .i64 k, .int .i64 n, .string s, .bool b, .int .i64 c]] W fun e w' => e = .returned (.bool (rightB k n s b c)) ∧ Below W.heap.size W w') := fun W => rright_any k n s b c W hz
  have HW : Hid (∀ W : World, Calls Tryd.prog 12 #[.agg #[.int .i64 k, .int .i64 n, .string s, .bool b, .int .i64 c]] W fun e w' => e = .returned (.tuple #[.string ⟨(wordsV k n s b c).1.toArray⟩, .int .i64 (wordsV k n s b c).2]) ∧ Below W.heap.size W w') := fun W => rwordsV_any k n s b c W hz
  clear hz
  cases hr : rightB k n s b c
  · rw [show showV k n s b c = ([], 2) by simp [showV, hr]]
    rw [hr] at HR
    clear hr HW
    go_enter Tryd.func23, Tryd.ntmps23
    go_wp2_with (go_at_call 39; refine (HR.out _).mono ?_; rintro e w1 ⟨rfl, hb1⟩; obtain ⟨q0, q1, q2, q3, q4, q5, q6⟩ := box_cells hb1)
    go_ret2
    exact ⟨rfl, q6⟩
  · rw [hr] at HR
    rcases right_code hr with ⟨rfl, h1, h7⟩ | ⟨h4, hc0⟩
    · rw [show showV 4 n s b c = (nameL c.toNat, 0) by simp [showV, hr]]
      obtain ⟨j, rfl⟩ : ∃ j : Nat, c = (j : Int) := ⟨c.toNat, by omega⟩
      have hj : j < 8 := by omega
      rw [Int.toNat_natCast]
      exact rshow_fault n s b j _ w hj HR (fun W => new_name W j hj)
    · rw [show showV k n s b c = ((wordsV k n s b c).1, 0) by simp [showV, hr, h4]]
      have t4 : (k == 4) = false := by simpa using h4
      clear hr h4 hc0
      generalize (⟨(wordsV k n s b c).1.toArray⟩ : ByteArray) = T at *
      generalize (wordsV k n s b c).2 = z at *
      go_enter Tryd.func23, Tryd.ntmps23
      go_wp2_with (first | (go_at_call 39; refine (HR.out _).mono ?_; rintro e w1 ⟨rfl, hb1⟩; obtain ⟨q0, q1, q2, q3, q4, q5, q6⟩ := box_cells hb1) | (go_at_call 12; refine (HW.out _).mono ?_; rintro e w2 ⟨rfl, hb2⟩))
      go_ret2
      exact ⟨rfl, q6.trans (hb2.mono q6.size)⟩
end Go.Proofs.YtaokibkeoomfjaaDoor
