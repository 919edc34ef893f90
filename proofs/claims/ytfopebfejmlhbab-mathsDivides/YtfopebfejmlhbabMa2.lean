/-
  The contracts of maths.told at its two kinds of arrays.
-/
import Derived.Test.YtfopebfejmlhbabMa1
import Derived.Deep.RegionHeld3
import Derived.Laws.EntriesVeiled
namespace Go.Proofs.Ytfopebfejmlhbab
open Go.RowKit

theorem up {w0 w w' : World} (h : Below w0.heap.size w0 w) (k : Below w.heap.size w w') : Below w0.heap.size w0 w' := h.trans (k.mono h.size)

/-- What is said of a function that is handed in, at the numbers a (laid as v), in all worlds behind w. -/
def DoesAt (g : Nat) (v : Value) (lb : Array Value) (x : Int × Int) (w : World) : Prop :=
  ∀ W, Below w.heap.size w W → Calls Try.prog g (#[v] ++ lb) W fun e w' => e = .returned (.tuple #[.int .i64 x.1, .int .i64 x.2]) ∧ Below W.heap.size W w'
def Enters (g : Nat) : Prop := ∀ (xs : Array Value) (W : World), Sem.run Try.prog (callFunc g xs) W = .ok (.enter g xs) W

set_option maxHeartbeats 1000000 in
theorem told1_no (n : Int) (g : Nat) (lb : Array Value) (w : World) (hf : fitsB n = false) :
    Calls Try.prog 17 #[.agg #[.int .i64 n], .func (.func g) #[] lb] w fun e w' => e = .returned (.tuple #[.int .i64 0, .int .i64 5]) ∧ Below w.heap.size w w' := by
  have HF : Hid (∀ W : World, Calls Try.prog 11 #[.int .i64 n] W fun e w' => e = .returned (.bool false) ∧ w' = W) := by intro W; rw [← hf]; exact fits_any n W
  clear hf
  have hc0 : (w.alloc (.cells #[.int .i64 n] 33)).cell? ⟨w.heap.size, 0, none⟩ = some (.int .i64 n) := by simp [go_sem]
  have hl0 : w.heap.size < (w.alloc (.cells #[.int .i64 n] 33)).heap.size := by simp
  have HB := hide ((Below.refl w.heap.size w).alloc (Nat.le_refl _) (.cells #[.int .i64 n] 33))
  go_enter Try.func17, Try.ntmps17
  go_wp2
  generalize w.alloc (.cells #[.int .i64 n] 33) = W0 at *
  go_loopw [11] (fun i wr => i = .int .i64 0 ∧ wr = W0) (fun _ _ => 0)
  case atStart => exact ⟨rfl, rfl⟩
  case round =>
    obtain ⟨rfl, rfl⟩ := hrel
    go_wp2_with (go_at_call 11; refine (HF.out _).mono ?_; rintro e w' ⟨rfl, rfl⟩)
    go_ret2
    exact ⟨rfl, HB.out⟩

set_option maxHeartbeats 1000000 in
theorem told1_yes (n : Int) (x : Int × Int) (g : Nat) (lb : Array Value) (w : World) (r1 : Enters g) (hf : fitsB n = true) (hc : DoesAt g (.agg #[.int .i64 n]) lb x w) :
    Calls Try.prog 17 #[.agg #[.int .i64 n], .func (.func g) #[] lb] w fun e w' => e = .returned (.tuple #[.int .i64 (shown x).1, .int .i64 (shown x).2]) ∧ Below w.heap.size w w' := by
  have HF : Hid (∀ W : World, Calls Try.prog 11 #[.int .i64 n] W fun e w' => e = .returned (.bool true) ∧ w' = W) := by intro W; rw [← hf]; exact fits_any n W
  clear hf
  obtain ⟨x1, x2⟩ := x
  have HC : Hid (∀ W, Below w.heap.size w W → Calls Try.prog g (#[.agg #[.int .i64 n]] ++ lb) W fun e w' => e = .returned (.tuple #[.int .i64 x1, .int .i64 x2]) ∧ Below W.heap.size W w') := hc
  clear hc
  have hc0 : (w.alloc (.cells #[.int .i64 n] 33)).cell? ⟨w.heap.size, 0, none⟩ = some (.int .i64 n) := by simp [go_sem]
  have hl0 : w.heap.size < (w.alloc (.cells #[.int .i64 n] 33)).heap.size := by simp
  have HB := hide ((Below.refl w.heap.size w).alloc (Nat.le_refl _) (.cells #[.int .i64 n] 33))
  go_enter Try.func17, Try.ntmps17
  go_wp2
  generalize w.alloc (.cells #[.int .i64 n] 33) = W0 at *
  go_loopw [11] (fun i wr => (i = .int .i64 0 ∨ i = .int .i64 1) ∧ wr = W0) (fun i _ => 1 - (intOf i).toNat)
  case atStart => exact ⟨Or.inl rfl, rfl⟩
  case round =>
    obtain ⟨rfl | rfl, rfl⟩ := hrel
    · go_wp2_with (go_at_call 11; refine (HF.out _).mono ?_; rintro e w' ⟨rfl, rfl⟩)
      go_roundw
      case rel => exact ⟨Or.inr rfl, trivial⟩
      case measure => decide
    · by_cases z : x2 = 0
      · subst z
        cases hx : fitsB x1
        · have HX : Hid (∀ W : World, Calls Try.prog 11 #[.int .i64 x1] W fun e w' => e = .returned (.bool false) ∧ w' = W) := by intro W; rw [← hx]; exact fits_any x1 W
          have HE : Hid (shown (x1, 0) = (0, 5)) := shown_over rfl hx
          clear hx
          go_wp2_with (first | (rw [r1, Oper.upon_enter]; refine (HC.out _ HB.out).mono ?_; rintro e w1 ⟨rfl, hb1⟩; have HB1 := hide (up HB.out hb1); clear hb1) | (go_at_call 11; refine (HX.out _).mono ?_; rintro e w' ⟨rfl, rfl⟩) | (go_at_call 31; refine (code_any _ _).mono ?_; rintro e w' ⟨rfl, rfl⟩))
          go_ret2
          exact ⟨by rw [HE.out]; rfl, HB1.out⟩
        · have HX : Hid (∀ W : World, Calls Try.prog 11 #[.int .i64 x1] W fun e w' => e = .returned (.bool true) ∧ w' = W) := by intro W; rw [← hx]; exact fits_any x1 W
          have HE : Hid (shown (x1, 0) = (x1, 0)) := shown_fit rfl hx
          clear hx
          go_wp2_with (first | (rw [r1, Oper.upon_enter]; refine (HC.out _ HB.out).mono ?_; rintro e w1 ⟨rfl, hb1⟩; have HB1 := hide (up HB.out hb1); clear hb1) | (go_at_call 11; refine (HX.out _).mono ?_; rintro e w' ⟨rfl, rfl⟩))
          go_ret2
          exact ⟨by rw [HE.out]; rfl, HB1.out⟩
      · have z1 : (x2 == 0) = false := by rw [beq_eq_false_iff_ne]; exact z
        have z2 : (x2 != 0) = true := by rw [bne, z1]; rfl
        have HE : Hid (shown (x1, x2) = (0, codeR x2)) := shown_no z
        clear z
        go_wp2_with (first | (rw [r1, Oper.upon_enter]; refine (HC.out _ HB.out).mono ?_; rintro e w1 ⟨rfl, hb1⟩; have HB1 := hide (up HB.out hb1); clear hb1) | (go_at_call 31; refine (code_any _ _).mono ?_; rintro e w' ⟨rfl, rfl⟩))
        go_ret2
        exact ⟨by rw [HE.out]; rfl, HB1.out⟩

set_option maxHeartbeats 1000000 in
theorem told1_any (n : Int) (x : Int × Int) (g : Nat) (lb : Array Value) (w : World) (r1 : Enters g) (hc : fitsB n = true → DoesAt g (.agg #[.int .i64 n]) lb x w) :
    Calls Try.prog 17 #[.agg #[.int .i64 n], .func (.func g) #[] lb] w fun e w' => e = .returned (.tuple #[.int .i64 (shown1 n x).1, .int .i64 (shown1 n x).2]) ∧ Below w.heap.size w w' := by
  cases hf : fitsB n
  · rw [show shown1 n x = (0, 5) by unfold shown1; rw [if_neg (by rw [hf]; decide)]]
    exact told1_no n g lb w hf
  · rw [show shown1 n x = shown x by unfold shown1; rw [if_pos hf]]
    exact told1_yes n x g lb w r1 hf (hc hf)

set_option maxHeartbeats 1000000 in
theorem told2_no1 (n m : Int) (g : Nat) (lb : Array Value) (w : World) (hf : fitsB n = false) :
    Calls Try.prog 19 #[.agg #[.int .i64 n, .int .i64 m], .func (.func g) #[] lb] w fun e w' => e = .returned (.tuple #[.int .i64 0, .int .i64 5]) ∧ Below w.heap.size w w' := by
  have HF : Hid (∀ W : World, Calls Try.prog 11 #[.int .i64 n] W fun e w' => e = .returned (.bool false) ∧ w' = W) := by intro W; rw [← hf]; exact fits_any n W
  clear hf
  have hc0 : (w.alloc (.cells #[.int .i64 n, .int .i64 m] 37)).cell? ⟨w.heap.size, 0, none⟩ = some (.int .i64 n) := by simp [go_sem]
  have hc1 : (w.alloc (.cells #[.int .i64 n, .int .i64 m] 37)).cell? ⟨w.heap.size, 1, none⟩ = some (.int .i64 m) := by simp [go_sem]
  have hl0 : w.heap.size < (w.alloc (.cells #[.int .i64 n, .int .i64 m] 37)).heap.size := by simp
  have HB := hide ((Below.refl w.heap.size w).alloc (Nat.le_refl _) (.cells #[.int .i64 n, .int .i64 m] 37))
  go_enter Try.func19, Try.ntmps19
  go_wp2
  generalize w.alloc (.cells #[.int .i64 n, .int .i64 m] 37) = W0 at *
  go_loopw [11] (fun i wr => i = .int .i64 0 ∧ wr = W0) (fun _ _ => 0)
  case atStart => exact ⟨rfl, rfl⟩
  case round =>
    obtain ⟨rfl, rfl⟩ := hrel
    go_wp2_with (go_at_call 11; refine (HF.out _).mono ?_; rintro e w' ⟨rfl, rfl⟩)
    go_ret2
    exact ⟨rfl, HB.out⟩

set_option maxHeartbeats 1000000 in
theorem told2_no2 (n m : Int) (g : Nat) (lb : Array Value) (w : World) (hf : fitsB n = true) (hg : fitsB m = false) :
    Calls Try.prog 19 #[.agg #[.int .i64 n, .int .i64 m], .func (.func g) #[] lb] w fun e w' => e = .returned (.tuple #[.int .i64 0, .int .i64 5]) ∧ Below w.heap.size w w' := by
  have HF : Hid (∀ W : World, Calls Try.prog 11 #[.int .i64 n] W fun e w' => e = .returned (.bool true) ∧ w' = W) := by intro W; rw [← hf]; exact fits_any n W
  have HG : Hid (∀ W : World, Calls Try.prog 11 #[.int .i64 m] W fun e w' => e = .returned (.bool false) ∧ w' = W) := by intro W; rw [← hg]; exact fits_any m W
  clear hf hg
  have hc0 : (w.alloc (.cells #[.int .i64 n, .int .i64 m] 37)).cell? ⟨w.heap.size, 0, none⟩ = some (.int .i64 n) := by simp [go_sem]
  have hc1 : (w.alloc (.cells #[.int .i64 n, .int .i64 m] 37)).cell? ⟨w.heap.size, 1, none⟩ = some (.int .i64 m) := by simp [go_sem]
  have hl0 : w.heap.size < (w.alloc (.cells #[.int .i64 n, .int .i64 m] 37)).heap.size := by simp
  have HB := hide ((Below.refl w.heap.size w).alloc (Nat.le_refl _) (.cells #[.int .i64 n, .int .i64 m] 37))
  go_enter Try.func19, Try.ntmps19
  go_wp2
  generalize w.alloc (.cells #[.int .i64 n, .int .i64 m] 37) = W0 at *
  go_loopw [11] (fun i wr => (i = .int .i64 0 ∨ i = .int .i64 1) ∧ wr = W0) (fun i _ => 1 - (intOf i).toNat)
  case atStart => exact ⟨Or.inl rfl, rfl⟩
  case round =>
    obtain ⟨rfl | rfl, rfl⟩ := hrel
    · go_wp2_with (go_at_call 11; refine (HF.out _).mono ?_; rintro e w' ⟨rfl, rfl⟩)
      go_roundw
      case rel => exact ⟨Or.inr rfl, trivial⟩
      case measure => decide
    · go_wp2_with (go_at_call 11; refine (HG.out _).mono ?_; rintro e w' ⟨rfl, rfl⟩)
      go_ret2
      exact ⟨rfl, HB.out⟩

set_option maxHeartbeats 1000000 in
theorem told2_yes (n m : Int) (x : Int × Int) (g : Nat) (lb : Array Value) (w : World) (r1 : Enters g) (hf : fitsB n = true) (hg : fitsB m = true) (hc : DoesAt g (.agg #[.int .i64 n, .int .i64 m]) lb x w) :
    Calls Try.prog 19 #[.agg #[.int .i64 n, .int .i64 m], .func (.func g) #[] lb] w fun e w' => e = .returned (.tuple #[.int .i64 (shown x).1, .int .i64 (shown x).2]) ∧ Below w.heap.size w w' := by
  have HF : Hid (∀ W : World, Calls Try.prog 11 #[.int .i64 n] W fun e w' => e = .returned (.bool true) ∧ w' = W) := by intro W; rw [← hf]; exact fits_any n W
  have HG : Hid (∀ W : World, Calls Try.prog 11 #[.int .i64 m] W fun e w' => e = .returned (.bool true) ∧ w' = W) := by intro W; rw [← hg]; exact fits_any m W
  clear hf hg
  obtain ⟨x1, x2⟩ := x
  have HC : Hid (∀ W, Below w.heap.size w W → Calls Try.prog g (#[.agg #[.int .i64 n, .int .i64 m]] ++ lb) W fun e w' => e = .returned (.tuple #[.int .i64 x1, .int .i64 x2]) ∧ Below W.heap.size W w') := hc
  clear hc
  have hc0 : (w.alloc (.cells #[.int .i64 n, .int .i64 m] 37)).cell? ⟨w.heap.size, 0, none⟩ = some (.int .i64 n) := by simp [go_sem]
  have hc1 : (w.alloc (.cells #[.int .i64 n, .int .i64 m] 37)).cell? ⟨w.heap.size, 1, none⟩ = some (.int .i64 m) := by simp [go_sem]
  have hl0 : w.heap.size < (w.alloc (.cells #[.int .i64 n, .int .i64 m] 37)).heap.size := by simp
  have HB := hide ((Below.refl w.heap.size w).alloc (Nat.le_refl _) (.cells #[.int .i64 n, .int .i64 m] 37))
  go_enter Try.func19, Try.ntmps19
  go_wp2
  generalize w.alloc (.cells #[.int .i64 n, .int .i64 m] 37) = W0 at *
  go_loopw [11] (fun i wr => (i = .int .i64 0 ∨ i = .int .i64 1 ∨ i = .int .i64 2) ∧ wr = W0) (fun i _ => 2 - (intOf i).toNat)
  case atStart => exact ⟨Or.inl rfl, rfl⟩
  case round =>
    obtain ⟨rfl | rfl | rfl, rfl⟩ := hrel
    · clear HG HC
      go_wp2_with (go_at_call 11; refine (HF.out _).mono ?_; rintro e w' ⟨rfl, rfl⟩)
      go_roundw
      case rel => exact ⟨Or.inr (Or.inl rfl), trivial⟩
      case measure => decide
    · clear HF HC
      go_wp2_with (go_at_call 11; refine (HG.out _).mono ?_; rintro e w' ⟨rfl, rfl⟩)
      go_roundw
      case rel => exact ⟨Or.inr (Or.inr rfl), trivial⟩
      case measure => decide
    · by_cases z : x2 = 0
      · subst z
        cases hx : fitsB x1
        · have HX : Hid (∀ W : World, Calls Try.prog 11 #[.int .i64 x1] W fun e w' => e = .returned (.bool false) ∧ w' = W) := by intro W; rw [← hx]; exact fits_any x1 W
          have HE : Hid (shown (x1, 0) = (0, 5)) := shown_over rfl hx
          clear hx
          go_wp2_with (first | (rw [r1, Oper.upon_enter]; refine (HC.out _ HB.out).mono ?_; rintro e w1 ⟨rfl, hb1⟩; have HB1 := hide (up HB.out hb1); clear hb1) | (go_at_call 11; refine (HX.out _).mono ?_; rintro e w' ⟨rfl, rfl⟩) | (go_at_call 31; refine (code_any _ _).mono ?_; rintro e w' ⟨rfl, rfl⟩))
          go_ret2
          exact ⟨by rw [HE.out]; rfl, HB1.out⟩
        · have HX : Hid (∀ W : World, Calls Try.prog 11 #[.int .i64 x1] W fun e w' => e = .returned (.bool true) ∧ w' = W) := by intro W; rw [← hx]; exact fits_any x1 W
          have HE : Hid (shown (x1, 0) = (x1, 0)) := shown_fit rfl hx
          clear hx
          go_wp2_with (first | (rw [r1, Oper.upon_enter]; refine (HC.out _ HB.out).mono ?_; rintro e w1 ⟨rfl, hb1⟩; have HB1 := hide (up HB.out hb1); clear hb1) | (go_at_call 11; refine (HX.out _).mono ?_; rintro e w' ⟨rfl, rfl⟩))
          go_ret2
          exact ⟨by rw [HE.out]; rfl, HB1.out⟩
      · have z1 : (x2 == 0) = false := by rw [beq_eq_false_iff_ne]; exact z
        have z2 : (x2 != 0) = true := by rw [bne, z1]; rfl
        have HE : Hid (shown (x1, x2) = (0, codeR x2)) := shown_no z
        clear z
        go_wp2_with (first | (rw [r1, Oper.upon_enter]; refine (HC.out _ HB.out).mono ?_; rintro e w1 ⟨rfl, hb1⟩; have HB1 := hide (up HB.out hb1); clear hb1) | (go_at_call 31; refine (code_any _ _).mono ?_; rintro e w' ⟨rfl, rfl⟩))
        go_ret2
        exact ⟨by rw [HE.out]; rfl, HB1.out⟩

set_option maxHeartbeats 1000000 in
theorem told2_any (n m : Int) (x : Int × Int) (g : Nat) (lb : Array Value) (w : World) (r1 : Enters g) (hc : fitsB n = true → fitsB m = true → DoesAt g (.agg #[.int .i64 n, .int .i64 m]) lb x w) :
    Calls Try.prog 19 #[.agg #[.int .i64 n, .int .i64 m], .func (.func g) #[] lb] w fun e w' => e = .returned (.tuple #[.int .i64 (shown2 n m x).1, .int .i64 (shown2 n m x).2]) ∧ Below w.heap.size w w' := by
  cases hf : fitsB n
  · rw [show shown2 n m x = (0, 5) by unfold shown2; rw [if_neg (by rw [hf]; decide)]]
    exact told2_no1 n m g lb w hf
  · cases hg : fitsB m
    · rw [show shown2 n m x = (0, 5) by unfold shown2; rw [if_pos hf, if_neg (by rw [hg]; decide)]]
      exact told2_no2 n m g lb w hf hg
    · rw [show shown2 n m x = shown x by unfold shown2; rw [if_pos hf, if_pos hg]]
      exact told2_yes n m x g lb w r1 hf hg (hc hf hg)
end Go.Proofs.Ytfopebfejmlhbab
