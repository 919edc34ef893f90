/-
  The walk of TreeLines: a sign that binds more tightly takes its side ahead of one that binds less; signs of one line go from the left.
-/
import Derived.Test.YtiaoaifoecmemaaGreatDoorQ13
namespace Go.Proofs.YtiaoaifoecmemaaGreatDoor
open Go.RowKit

theorem num1 : textN (numH 1000000) .nil = [49] := by kernel_rfl
theorem num2 : textN (numH 2000000) .nil = [50] := by kernel_rfl
theorem num3 : textN (numH 3000000) .nil = [51] := by kernel_rfl
theorem num_right1 : rightN (numH 1000000) .nil = true := by kernel_rfl
theorem num_right2 : rightN (numH 2000000) .nil = true := by kernel_rfl
theorem num_right3 : rightN (numH 3000000) .nil = true := by kernel_rfl
theorem kid_num (m : Nat) (n : Int) (k : Fo) : kidL m (numH n) k = textN (numH n) k := by
  unfold kidL
  rw [if_neg]
  intro h
  exact absurd h.1 (by show ¬ (1 : Int) = 5; decide)
theorem kid_tight {m : Nat} {s : List UInt8} {k : Fo} (h : m ≤ bindN s) : kidL m (binH s) k = textN (binH s) k := by
  unfold kidL
  rw [if_neg]
  intro h'
  have : bindN s < m := h'.2
  omega
/-- The second sign binds more tightly. -/
def tightK (B : List UInt8) : Fo := .cons (numH 1000000) .nil (.cons (binH B) (.cons (numH 2000000) .nil (.cons (numH 3000000) .nil .nil)) .nil)
def leftK (A : List UInt8) : Fo := .cons (binH A) (.cons (numH 1000000) .nil (.cons (numH 2000000) .nil .nil)) (.cons (numH 3000000) .nil .nil)
theorem tight_parse {A B : List UInt8} (hA : 0 < bindN A) (hB : 0 < bindN B) (h : bindN A < bindN B) : parseN (49 :: (A ++ 50 :: (B ++ [51]))) = .ok (binH A) (tightK B) := by
  have hr : rightN (binH A) (tightK B) = true := bin_right hA num_right1 (bin_right hB num_right2 num_right3)
  have ht : textN (binH A) (tightK B) = 49 :: (A ++ 50 :: (B ++ [51])) := by
    unfold tightK
    rw [text_bin rfl, kid_num, num1, show (binH A).txt = A from rfl, kid_tight (by omega), text_bin rfl, kid_num, kid_num, num2, num3]
    simp [binH]
  have := text_parse hr (by rw [ht]; have := bind_len hA; have := bind_len hB; simp; omega) (by show 3 ≤ 40; omega)
  rw [ht] at this
  exact this
theorem left_parse {A B : List UInt8} (hA : 0 < bindN A) (hB : 0 < bindN B) (h : ¬ bindN A < bindN B) : parseN (49 :: (A ++ 50 :: (B ++ [51]))) = .ok (binH B) (leftK A) := by
  have hr : rightN (binH B) (leftK A) = true := bin_right hB (bin_right hA num_right1 num_right2) num_right3
  have ht : textN (binH B) (leftK A) = 49 :: (A ++ 50 :: (B ++ [51])) := by
    unfold leftK
    rw [text_bin rfl, kid_num, num3, show (binH B).txt = B from rfl, kid_tight (by omega), text_bin rfl, kid_num, kid_num, num1, num2]
    simp [binH]
  have := text_parse hr (by rw [ht]; have := bind_len hA; have := bind_len hB; simp; omega) (by show 3 ≤ 40; omega)
  rw [ht] at this
  exact this
/-- The eleven signs. -/
def sgs : List (List UInt8) := [[61], [60, 62], [60], [62], [60, 61], [62, 61], [38], [43], [45], [42], [47]]
theorem sg_ok {i : Nat} (h : i < 11) : 0 < bindN (sgs.getD i []) := by
  have : i = 0 ∨ i = 1 ∨ i = 2 ∨ i = 3 ∨ i = 4 ∨ i = 5 ∨ i = 6 ∨ i = 7 ∨ i = 8 ∨ i = 9 ∨ i = 10 := by omega
  rcases this with rfl | rfl | rfl | rfl | rfl | rfl | rfl | rfl | rfl | rfl | rfl <;> decide
def sgB (w : World) : World := w.alloc (.cells (sgs.map fun l => Value.string ⟨l.toArray⟩).toArray 9)
theorem sg_cell (w : World) {i : Nat} (h : i < 11) : (sgB w).cell? ⟨w.heap.size, i, none⟩ = some (.string ⟨(sgs.getD i []).toArray⟩) := by
  unfold sgB
  rw [cell_of_row _ w.heap.size i _ _ _ (heap_alloc_new w _)]
  have : i = 0 ∨ i = 1 ∨ i = 2 ∨ i = 3 ∨ i = 4 ∨ i = 5 ∨ i = 6 ∨ i = 7 ∨ i = 8 ∨ i = 9 ∨ i = 10 := by omega
  rcases this with rfl | rfl | rfl | rfl | rfl | rfl | rfl | rfl | rfl | rfl | rfl <;> rfl
theorem idx11 (p : Int) : ∃ i : Nat, i < 11 ∧ IntKind.i64.wrap ((IntKind.u64.wrap p).tmod 11) = (i : Int) := by
  have h1 : 0 ≤ IntKind.u64.wrap p := by rw [IntKind.wrap_u64]; omega
  refine ⟨((IntKind.u64.wrap p) % 11).toNat, by omega, ?_⟩
  rw [Int.tmod_eq_emod_of_nonneg h1, wrap_le (by omega) (by omega)]
  omega
theorem drew_cell (w : World) (a : Addr) : w.drew.cell? a = w.cell? a := rfl
set_option maxRecDepth 100000 in
set_option maxHeartbeats 4000000 in
theorem treeLines_walk (p q : Int) (w : World) (he : Env8 w) :
    Calls Tryz.prog 8 #[.int .i64 p, .int .i64 q] w fun e w' => e = .returned (.bool true) ∧ Below w.heap.size w w' := by
  have HV : Hid (∀ W : World, Env8 W → Calls Tryz.prog 9 #[] W fun e w' => e = .returned (.bool true) ∧ Below W.heap.size W w') := lives8
  obtain ⟨i, hi, hpi⟩ := idx11 p
  obtain ⟨j, hj, hqj⟩ := idx11 q
  have ci := sg_cell w hi
  have cj := sg_cell w hj
  have hA := sg_ok hi
  have hB := sg_ok hj
  have HB0 : Hid (Below w.heap.size w (sgB w)) := below_obj w _
  have HE := hide he
  generalize hAi : sgs.getD i [] = A at *
  generalize hBj : sgs.getD j [] = B at *
  have lA := bind_len hA
  have lB := bind_len hB
  have hi' : (i : Int) < 11 := by omega
  have hj' : (j : Int) < 11 := by omega
  have g1 : ¬ 9223372036854775807 < 1 + A.length := by omega
  have g2 : ¬ 9223372036854775807 < 1 + A.length + 1 := by omega
  have g3 : ¬ 9223372036854775807 < 1 + A.length + 1 + B.length := by omega
  have g4 : ¬ 9223372036854775807 < 1 + A.length + 1 + B.length + 1 := by omega
  have hT : ((⟨#[49]⟩ : ByteArray) ++ ⟨A.toArray⟩ ++ ⟨#[50]⟩ ++ ⟨B.toArray⟩ ++ ⟨#[51]⟩).data.toList = 49 :: (A ++ 50 :: (B ++ [51])) := by simp
  have hz : ((⟨#[49]⟩ : ByteArray) ++ ⟨A.toArray⟩ ++ ⟨#[50]⟩ ++ ⟨B.toArray⟩ ++ ⟨#[51]⟩).size ≤ maxLen := by
    have hs : ∀ b : ByteArray, b.size = b.data.toList.length := fun b => by cases b; simp [ByteArray.size]
    have : (1024 : Nat) ≤ maxLen := by decide
    rw [hs, hT]; simp; omega
  have hLn : ∀ (l : List UInt8) (W : World), Calls Tryz.prog 20 #[.string ⟨l.toArray⟩] W fun e w' => e = .returned (.int .i64 ((bindN l : Int) - 1)) ∧ w' = W := fun l W => by
    have := line_any ⟨l.toArray⟩ W
    simpa using this
  have HLa := hide (hLn A)
  have HLb := hide (hLn B)
  by_cases hlt : bindN A < bindN B
  · have HP : Hid (∀ W : World, Env8 W → Calls Tryz.prog 10 #[.string ((⟨#[49]⟩ : ByteArray) ++ ⟨A.toArray⟩ ++ ⟨#[50]⟩ ++ ⟨B.toArray⟩ ++ ⟨#[51]⟩)] W fun e w' => ∃ a n cap, e = .returned (.tuple #[nodeV (binH A) (.slice a n cap), .int .i64 0, .int .i64 0]) ∧ NodeAt (w'.alloc (.cells (hdC (binH A) (.slice a n cap)).toArray 34)) w'.heap.size (binH A) (.slice a n cap) (tightK B) ∧ Below W.heap.size W (w'.alloc (.cells (hdC (binH A) (.slice a n cap)).toArray 34))) := fun W hW => parsed_ok _ W hW hz _ _ (by rw [hT]; exact tight_parse hA hB hlt)
    have hlt' : (bindN A : Int) - 1 < (bindN B : Int) - 1 := by omega
    clear he hA hB hAi hBj hT hz hLn hlt lA lB
    generalize (bindN A : Int) - 1 = X at *
    generalize (bindN B : Int) - 1 = Y at *
    go_enter Tryz.func8, Tryz.ntmps8
    go_wp2
    refine wp_region_held_drew (S := fun W => W.cell? ⟨w.heap.size, i, none⟩ = some (.string ⟨A.toArray⟩) ∧ W.cell? ⟨w.heap.size, j, none⟩ = some (.string ⟨B.toArray⟩)) (by kernel_rfl) ⟨ci, cj⟩ (fun hHeld => ?_)
    (refine takeD (i := 0) (some 12) rfl rfl (by kernel_rfl) (by kernel_rfl) (by kernel_rfl) (fun _ _ _ h => h) (v := ?_) rfl ?_ (by assumption) ?_; rotate_left; (focus (intro w hSw; (try dsimp only at hSw); first | (go_simp; done) | (go_simp; with_reducible rfl))); try simp only [Act.put, List.setIfInBounds_toArray, List.set_cons_zero, List.set_cons_succ]); (refine takeD (i := 1) (some 13) rfl rfl (by kernel_rfl) (by kernel_rfl) (by kernel_rfl) (fun _ _ _ h => h) (v := ?_) rfl ?_ (by assumption) ?_; rotate_left; (focus (intro w hSw; (try dsimp only at hSw); first | (go_simp; done) | (go_simp; with_reducible rfl))); try simp only [Act.put, List.setIfInBounds_toArray, List.set_cons_zero, List.set_cons_succ]); (refine takeD (i := 2) (some 14) rfl rfl (by kernel_rfl) (by kernel_rfl) (by kernel_rfl) (fun _ _ _ h => h) (v := ?_) rfl ?_ (by assumption) ?_; rotate_left; (focus (intro w hSw; (try dsimp only at hSw); first | (go_simp; done) | (go_simp; with_reducible rfl))); try simp only [Act.put, List.setIfInBounds_toArray, List.set_cons_zero, List.set_cons_succ]); (refine takeD (i := 3) (some 15) rfl rfl (by kernel_rfl) (by kernel_rfl) (by kernel_rfl) (fun _ _ _ h => h) (v := ?_) rfl ?_ (by assumption) ?_; rotate_left; (focus (intro w hSw; (try dsimp only at hSw); first | (go_simp; done) | (go_simp; with_reducible rfl))); try simp only [Act.put, List.setIfInBounds_toArray, List.set_cons_zero, List.set_cons_succ]); (refine takeD (i := 4) (some 16) rfl rfl (by kernel_rfl) (by kernel_rfl) (by kernel_rfl) (fun _ _ _ h => h) (v := ?_) rfl ?_ (by assumption) ?_; rotate_left; (focus (intro w hSw; (try dsimp only at hSw); first | (go_simp; done) | (go_simp; with_reducible rfl))); try simp only [Act.put, List.setIfInBounds_toArray, List.set_cons_zero, List.set_cons_succ]); (refine takeD (i := 5) (some 17) rfl rfl (by kernel_rfl) (by kernel_rfl) (by kernel_rfl) (fun _ _ _ h => h) (v := ?_) rfl ?_ (by assumption) ?_; rotate_left; (focus (intro w hSw; (try dsimp only at hSw); first | (go_simp; done) | (go_simp; with_reducible rfl))); try simp only [Act.put, List.setIfInBounds_toArray, List.set_cons_zero, List.set_cons_succ]); (refine takeD (i := 6) (some 18) rfl rfl (by kernel_rfl) (by kernel_rfl) (by kernel_rfl) (fun _ _ _ h => h) (v := ?_) rfl ?_ (by assumption) ?_; rotate_left; (focus (intro w hSw; (try dsimp only at hSw); first | (go_simp; done) | (go_simp; with_reducible rfl))); try simp only [Act.put, List.setIfInBounds_toArray, List.set_cons_zero, List.set_cons_succ]); (refine takeD (i := 7) (some 19) rfl rfl (by kernel_rfl) (by kernel_rfl) (by kernel_rfl) (fun _ _ _ h => h) (v := ?_) rfl ?_ (by assumption) ?_; rotate_left; (focus (intro w hSw; (try dsimp only at hSw); first | (go_simp; done) | (go_simp; with_reducible rfl))); try simp only [Act.put, List.setIfInBounds_toArray, List.set_cons_zero, List.set_cons_succ]); (refine takeD (i := 8) (some 20) rfl rfl (by kernel_rfl) (by kernel_rfl) (by kernel_rfl) (fun _ _ _ h => h) (v := ?_) rfl ?_ (by assumption) ?_; rotate_left; (focus (intro w hSw; (try dsimp only at hSw); first | (go_simp; done) | (go_simp; with_reducible rfl))); try simp only [Act.put, List.setIfInBounds_toArray, List.set_cons_zero, List.set_cons_succ]); (refine takeD (i := 9) (some 21) rfl rfl (by kernel_rfl) (by kernel_rfl) (by kernel_rfl) (fun _ _ _ h => h) (v := ?_) rfl ?_ (by assumption) ?_; rotate_left; (focus (intro w hSw; (try dsimp only at hSw); first | (go_simp; done) | (go_simp; with_reducible rfl))); try simp only [Act.put, List.setIfInBounds_toArray, List.set_cons_zero, List.set_cons_succ]); (refine takeD (i := 10) (some 22) rfl rfl (by kernel_rfl) (by kernel_rfl) (by kernel_rfl) (fun _ _ _ h => h) (v := ?_) rfl ?_ (by assumption) ?_; rotate_left; (focus (intro w hSw; (try dsimp only at hSw); first | (go_simp; done) | (go_simp; with_reducible rfl))); try simp only [Act.put, List.setIfInBounds_toArray, List.set_cons_zero, List.set_cons_succ]); (refine takeD (i := 11) (some 23) rfl rfl (by kernel_rfl) (by kernel_rfl) (by kernel_rfl) (fun _ _ _ h => h) (v := ?_) rfl ?_ (by assumption) ?_; rotate_left; (focus (intro w hSw; (try dsimp only at hSw); first | (go_simp; done) | (go_simp; with_reducible rfl))); try simp only [Act.put, List.setIfInBounds_toArray, List.set_cons_zero, List.set_cons_succ]); (refine takeD (i := 12) (some 24) rfl rfl (by kernel_rfl) (by kernel_rfl) (by kernel_rfl) (fun _ _ _ h => h) (v := ?_) rfl ?_ (by assumption) ?_; rotate_left; (focus (intro w hSw; (try dsimp only at hSw); first | (go_simp; done) | (go_simp; with_reducible rfl))); try simp only [Act.put, List.setIfInBounds_toArray, List.set_cons_zero, List.set_cons_succ]); (refine takeD (i := 13) (some 25) rfl rfl (by kernel_rfl) (by kernel_rfl) (by kernel_rfl) (fun _ _ _ h => h) (v := ?_) rfl ?_ (by assumption) ?_; rotate_left; (focus (intro w hSw; (try dsimp only at hSw); first | (go_simp; done) | (go_simp; with_reducible rfl))); try simp only [Act.put, List.setIfInBounds_toArray, List.set_cons_zero, List.set_cons_succ]); (refine takeD (i := 14) (some 6) rfl rfl (by kernel_rfl) (by kernel_rfl) (by kernel_rfl) (fun _ _ _ h => h) (v := ?_) rfl ?_ (by assumption) ?_; rotate_left; (focus (intro w hSw; (try dsimp only at hSw); first | (go_simp; done) | (go_simp; with_reducible rfl))); try simp only [Act.put, List.setIfInBounds_toArray, List.set_cons_zero, List.set_cons_succ]); (refine takeD (i := 15) (some 7) rfl rfl (by kernel_rfl) (by kernel_rfl) (by kernel_rfl) (fun _ _ _ h => h) (v := ?_) rfl ?_ (by assumption) ?_; rotate_left; (focus (intro w hSw; (try dsimp only at hSw); first | (go_simp; done) | (go_simp; with_reducible rfl))); try simp only [Act.put, List.setIfInBounds_toArray, List.set_cons_zero, List.set_cons_succ])
    refine wpAnyH_done (by kernel_rfl) ?_ _
    have HBd : Hid (Below w.heap.size w (sgB w).drew) := bar_below HB0.out (Bar.of (below_drew0 _))
    go_wp2_with (first | (go_at_call 10; refine (HP.out _ (HE.out.below HBd.out)).mono ?_; rintro e w1 ⟨a1, n1, c1, rfl, hn1, hb1⟩; obtain ⟨b1, o1, c2, hv1, hq1, hq2, hD1, k0, k14, k16, k30⟩ := kv_second hn1.2; cases hv1; have x14 := hn1.1.cell 14 (.string ⟨A.toArray⟩) rfl; have x15 := hn1.1.cell 15 (.slice (some ⟨b1, o1, none⟩) 2 c1) rfl; have HB1 := hide (bar_below HBd.out (Bar.of hb1)); unfold maxLen at hq2; clear hn1 hb1) | (with_reducible refine wpl_id ?_; refine wpl_newN rfl _ _ rfl rfl rfl rfl ?_) | (go_at_call_of 20 [Value.string ⟨A.toArray⟩]; refine (HLa.out _).mono ?_; rintro e wz ⟨rfl, hz⟩; subst wz) | (go_at_call_of 20 [Value.string ⟨B.toArray⟩]; refine (HLb.out _).mono ?_; rintro e wz ⟨rfl, hz⟩; subst wz) | (go_at_call 9; refine (HV.out _ (HE.out.below HB1.out)).mono ?_; rintro e w6 ⟨rfl, hb6⟩; have HB6 := hide (bar_below HB1.out (Bar.of hb6)); clear hb6))
    go_ret
    exact ⟨rfl, HB6.out⟩
  · have HP : Hid (∀ W : World, Env8 W → Calls Tryz.prog 10 #[.string ((⟨#[49]⟩ : ByteArray) ++ ⟨A.toArray⟩ ++ ⟨#[50]⟩ ++ ⟨B.toArray⟩ ++ ⟨#[51]⟩)] W fun e w' => ∃ a n cap, e = .returned (.tuple #[nodeV (binH B) (.slice a n cap), .int .i64 0, .int .i64 0]) ∧ NodeAt (w'.alloc (.cells (hdC (binH B) (.slice a n cap)).toArray 34)) w'.heap.size (binH B) (.slice a n cap) (leftK A) ∧ Below W.heap.size W (w'.alloc (.cells (hdC (binH B) (.slice a n cap)).toArray 34))) := fun W hW => parsed_ok _ W hW hz _ _ (by rw [hT]; exact left_parse hA hB hlt)
    have hlt' : ¬ (bindN A : Int) - 1 < (bindN B : Int) - 1 := by omega
    clear he hA hB hAi hBj hT hz hLn hlt lA lB
    generalize (bindN A : Int) - 1 = X at *
    generalize (bindN B : Int) - 1 = Y at *
    go_enter Tryz.func8, Tryz.ntmps8
    go_wp2
    refine wp_region_held_drew (S := fun W => W.cell? ⟨w.heap.size, i, none⟩ = some (.string ⟨A.toArray⟩) ∧ W.cell? ⟨w.heap.size, j, none⟩ = some (.string ⟨B.toArray⟩)) (by kernel_rfl) ⟨ci, cj⟩ (fun hHeld => ?_)
    (refine takeD (i := 0) (some 12) rfl rfl (by kernel_rfl) (by kernel_rfl) (by kernel_rfl) (fun _ _ _ h => h) (v := ?_) rfl ?_ (by assumption) ?_; rotate_left; (focus (intro w hSw; (try dsimp only at hSw); first | (go_simp; done) | (go_simp; with_reducible rfl))); try simp only [Act.put, List.setIfInBounds_toArray, List.set_cons_zero, List.set_cons_succ]); (refine takeD (i := 1) (some 13) rfl rfl (by kernel_rfl) (by kernel_rfl) (by kernel_rfl) (fun _ _ _ h => h) (v := ?_) rfl ?_ (by assumption) ?_; rotate_left; (focus (intro w hSw; (try dsimp only at hSw); first | (go_simp; done) | (go_simp; with_reducible rfl))); try simp only [Act.put, List.setIfInBounds_toArray, List.set_cons_zero, List.set_cons_succ]); (refine takeD (i := 2) (some 14) rfl rfl (by kernel_rfl) (by kernel_rfl) (by kernel_rfl) (fun _ _ _ h => h) (v := ?_) rfl ?_ (by assumption) ?_; rotate_left; (focus (intro w hSw; (try dsimp only at hSw); first | (go_simp; done) | (go_simp; with_reducible rfl))); try simp only [Act.put, List.setIfInBounds_toArray, List.set_cons_zero, List.set_cons_succ]); (refine takeD (i := 3) (some 15) rfl rfl (by kernel_rfl) (by kernel_rfl) (by kernel_rfl) (fun _ _ _ h => h) (v := ?_) rfl ?_ (by assumption) ?_; rotate_left; (focus (intro w hSw; (try dsimp only at hSw); first | (go_simp; done) | (go_simp; with_reducible rfl))); try simp only [Act.put, List.setIfInBounds_toArray, List.set_cons_zero, List.set_cons_succ]); (refine takeD (i := 4) (some 16) rfl rfl (by kernel_rfl) (by kernel_rfl) (by kernel_rfl) (fun _ _ _ h => h) (v := ?_) rfl ?_ (by assumption) ?_; rotate_left; (focus (intro w hSw; (try dsimp only at hSw); first | (go_simp; done) | (go_simp; with_reducible rfl))); try simp only [Act.put, List.setIfInBounds_toArray, List.set_cons_zero, List.set_cons_succ]); (refine takeD (i := 5) (some 17) rfl rfl (by kernel_rfl) (by kernel_rfl) (by kernel_rfl) (fun _ _ _ h => h) (v := ?_) rfl ?_ (by assumption) ?_; rotate_left; (focus (intro w hSw; (try dsimp only at hSw); first | (go_simp; done) | (go_simp; with_reducible rfl))); try simp only [Act.put, List.setIfInBounds_toArray, List.set_cons_zero, List.set_cons_succ]); (refine takeD (i := 6) (some 18) rfl rfl (by kernel_rfl) (by kernel_rfl) (by kernel_rfl) (fun _ _ _ h => h) (v := ?_) rfl ?_ (by assumption) ?_; rotate_left; (focus (intro w hSw; (try dsimp only at hSw); first | (go_simp; done) | (go_simp; with_reducible rfl))); try simp only [Act.put, List.setIfInBounds_toArray, List.set_cons_zero, List.set_cons_succ]); (refine takeD (i := 7) (some 19) rfl rfl (by kernel_rfl) (by kernel_rfl) (by kernel_rfl) (fun _ _ _ h => h) (v := ?_) rfl ?_ (by assumption) ?_; rotate_left; (focus (intro w hSw; (try dsimp only at hSw); first | (go_simp; done) | (go_simp; with_reducible rfl))); try simp only [Act.put, List.setIfInBounds_toArray, List.set_cons_zero, List.set_cons_succ]); (refine takeD (i := 8) (some 20) rfl rfl (by kernel_rfl) (by kernel_rfl) (by kernel_rfl) (fun _ _ _ h => h) (v := ?_) rfl ?_ (by assumption) ?_; rotate_left; (focus (intro w hSw; (try dsimp only at hSw); first | (go_simp; done) | (go_simp; with_reducible rfl))); try simp only [Act.put, List.setIfInBounds_toArray, List.set_cons_zero, List.set_cons_succ]); (refine takeD (i := 9) (some 21) rfl rfl (by kernel_rfl) (by kernel_rfl) (by kernel_rfl) (fun _ _ _ h => h) (v := ?_) rfl ?_ (by assumption) ?_; rotate_left; (focus (intro w hSw; (try dsimp only at hSw); first | (go_simp; done) | (go_simp; with_reducible rfl))); try simp only [Act.put, List.setIfInBounds_toArray, List.set_cons_zero, List.set_cons_succ]); (refine takeD (i := 10) (some 22) rfl rfl (by kernel_rfl) (by kernel_rfl) (by kernel_rfl) (fun _ _ _ h => h) (v := ?_) rfl ?_ (by assumption) ?_; rotate_left; (focus (intro w hSw; (try dsimp only at hSw); first | (go_simp; done) | (go_simp; with_reducible rfl))); try simp only [Act.put, List.setIfInBounds_toArray, List.set_cons_zero, List.set_cons_succ]); (refine takeD (i := 11) (some 23) rfl rfl (by kernel_rfl) (by kernel_rfl) (by kernel_rfl) (fun _ _ _ h => h) (v := ?_) rfl ?_ (by assumption) ?_; rotate_left; (focus (intro w hSw; (try dsimp only at hSw); first | (go_simp; done) | (go_simp; with_reducible rfl))); try simp only [Act.put, List.setIfInBounds_toArray, List.set_cons_zero, List.set_cons_succ]); (refine takeD (i := 12) (some 24) rfl rfl (by kernel_rfl) (by kernel_rfl) (by kernel_rfl) (fun _ _ _ h => h) (v := ?_) rfl ?_ (by assumption) ?_; rotate_left; (focus (intro w hSw; (try dsimp only at hSw); first | (go_simp; done) | (go_simp; with_reducible rfl))); try simp only [Act.put, List.setIfInBounds_toArray, List.set_cons_zero, List.set_cons_succ]); (refine takeD (i := 13) (some 25) rfl rfl (by kernel_rfl) (by kernel_rfl) (by kernel_rfl) (fun _ _ _ h => h) (v := ?_) rfl ?_ (by assumption) ?_; rotate_left; (focus (intro w hSw; (try dsimp only at hSw); first | (go_simp; done) | (go_simp; with_reducible rfl))); try simp only [Act.put, List.setIfInBounds_toArray, List.set_cons_zero, List.set_cons_succ]); (refine takeD (i := 14) (some 6) rfl rfl (by kernel_rfl) (by kernel_rfl) (by kernel_rfl) (fun _ _ _ h => h) (v := ?_) rfl ?_ (by assumption) ?_; rotate_left; (focus (intro w hSw; (try dsimp only at hSw); first | (go_simp; done) | (go_simp; with_reducible rfl))); try simp only [Act.put, List.setIfInBounds_toArray, List.set_cons_zero, List.set_cons_succ]); (refine takeD (i := 15) (some 7) rfl rfl (by kernel_rfl) (by kernel_rfl) (by kernel_rfl) (fun _ _ _ h => h) (v := ?_) rfl ?_ (by assumption) ?_; rotate_left; (focus (intro w hSw; (try dsimp only at hSw); first | (go_simp; done) | (go_simp; with_reducible rfl))); try simp only [Act.put, List.setIfInBounds_toArray, List.set_cons_zero, List.set_cons_succ])
    refine wpAnyH_done (by kernel_rfl) ?_ _
    have HBd : Hid (Below w.heap.size w (sgB w).drew) := bar_below HB0.out (Bar.of (below_drew0 _))
    go_wp2_with (first | (go_at_call 10; refine (HP.out _ (HE.out.below HBd.out)).mono ?_; rintro e w1 ⟨a1, n1, c1, rfl, hn1, hb1⟩; obtain ⟨b1, o1, c2, hv1, hq1, hq2, hD1, k0, k14, k16, k30⟩ := kv_second hn1.2; cases hv1; have x14 := hn1.1.cell 14 (.string ⟨B.toArray⟩) rfl; have x15 := hn1.1.cell 15 (.slice (some ⟨b1, o1, none⟩) 2 c1) rfl; have HB1 := hide (bar_below HBd.out (Bar.of hb1)); unfold maxLen at hq2; clear hn1 hb1) | (with_reducible refine wpl_id ?_; refine wpl_newN rfl _ _ rfl rfl rfl rfl ?_) | (go_at_call_of 20 [Value.string ⟨A.toArray⟩]; refine (HLa.out _).mono ?_; rintro e wz ⟨rfl, hz⟩; subst wz) | (go_at_call_of 20 [Value.string ⟨B.toArray⟩]; refine (HLb.out _).mono ?_; rintro e wz ⟨rfl, hz⟩; subst wz) | (go_at_call 9; refine (HV.out _ (HE.out.below HB1.out)).mono ?_; rintro e w6 ⟨rfl, hb6⟩; have HB6 := hide (bar_below HB1.out (Bar.of hb6)); clear hb6))
    go_ret
    exact ⟨rfl, HB6.out⟩
end Go.Proofs.YtiaoaifoecmemaaGreatDoor
