/-
  The contracts of told over a list, divisor, multiple, Gcd and Lcm.
-/
import Derived.Test.YtfopebfejmlhbabMa10
import Derived.Test.YtfopebfejmlhbabMa11
namespace Go.Proofs.Ytfopebfejmlhbab
open Go.RowKit

set_option maxHeartbeats 1000000 in
theorem told3_any (xs : List Int) (a : Option Addr) (cap : Nat) (x : Int × Int) (g : Nat) (w : World) (r1 : Enters g) (hr : RowI w a xs) (hc : xs.all fitsB = true → DoesAt g (.slice a xs.length cap) #[] x w) :
    Calls Try.prog 21 #[.slice a xs.length cap, .func (.func g) #[] #[]] w fun e w' => e = .returned (.tuple #[.int .i64 (shownL xs x).1, .int .i64 (shownL xs x).2]) ∧ Below w.heap.size w w' := by
  have HC := hide hc
  have HR := hide hr
  have R1 := hide r1
  have hlen := hr.1
  clear hc hr r1
  go_enter Try.func21, Try.ntmps21
  go_wp2
  go_loopw [11] (fun i wr => (∃ k : Nat, k ≤ xs.length ∧ i = .int .i64 k ∧ ∀ j, j < k → fitsB (xs.getD j 0) = true) ∧ wr = w) (fun i _ => xs.length - (intOf i).toNat)
  case atStart => exact ⟨⟨0, Nat.zero_le _, rfl, fun j hj => absurd hj (by omega)⟩, rfl⟩
  case round =>
    obtain ⟨⟨k, hk, rfl, hn⟩, rfl⟩ := hrel
    have HN := hide hn
    clear hn
    by_cases hlt : k < xs.length
    · obtain ⟨p, rfl, hcell⟩ := HR.out.2 k hlt
      have HF := hide (fun W : World => fits_any (xs.getD k 0) W)
      cases hp : fitsB (xs.getD k 0)
      · rw [hp] at HF
        have HE : Hid (shownL xs x = (0, 5)) := by show _ = _; unfold shownL; rw [if_neg (by rw [not_all hlt hp]; decide)]
        clear hp HC HN
        generalize xs.getD k 0 = n at *
        go_wp2_with (go_at_call 11; refine (HF.out _).mono ?_; rintro e w1 ⟨rfl, rfl⟩)
        go_ret2
        exact ⟨by rw [HE.out]; rfl, Below.refl _ _⟩
      · rw [hp] at HF
        have HN2 : Hid (∀ j, j < k + 1 → fitsB (xs.getD j 0) = true) := by
          intro j hj
          by_cases e : j = k
          · rw [e]; exact hp
          · exact HN.out j (by omega)
        clear hp HC HN
        generalize xs.getD k 0 = n at *
        go_wp2_with (go_at_call 11; refine (HF.out _).mono ?_; rintro e w1 ⟨rfl, rfl⟩)
        go_roundw
        case rel => exact ⟨⟨k + 1, by omega, by go_num, HN2.out⟩, trivial⟩
        case measure => simp [intOf]; omega
    · have : k = xs.length := by omega
      subst this
      have hall : xs.all fitsB = true := all_getD HN.out
      have HS : Hid (shownL xs x = shown x) := if_pos hall
      have HD := hide (HC.out hall wr (Below.refl _ _))
      obtain ⟨x1, x2⟩ := x
      simp only [Array.append_empty] at HD
      clear hall HC HN
      by_cases z : x2 = 0
      · subst z
        cases hx : fitsB x1
        · have HX : Hid (∀ W : World, Calls Try.prog 11 #[.int .i64 x1] W fun e w' => e = .returned (.bool false) ∧ w' = W) := by intro W; rw [← hx]; exact fits_any x1 W
          have HE : Hid (shownL xs (x1, 0) = (0, 5)) := HS.out.trans (shown_over rfl hx)
          clear hx HS
          go_wp2_with (first | (rw [R1.out, Oper.upon_enter]; refine HD.out.mono ?_; rintro e w1 ⟨rfl, hb1⟩; have HB1 := hide hb1; clear hb1) | (go_at_call 11; refine (HX.out _).mono ?_; rintro e w' ⟨rfl, rfl⟩) | (go_at_call 31; refine (code_any _ _).mono ?_; rintro e w' ⟨rfl, rfl⟩))
          go_ret2
          exact ⟨by rw [HE.out]; rfl, HB1.out⟩
        · have HX : Hid (∀ W : World, Calls Try.prog 11 #[.int .i64 x1] W fun e w' => e = .returned (.bool true) ∧ w' = W) := by intro W; rw [← hx]; exact fits_any x1 W
          have HE : Hid (shownL xs (x1, 0) = (x1, 0)) := HS.out.trans (shown_fit rfl hx)
          clear hx HS
          go_wp2_with (first | (rw [R1.out, Oper.upon_enter]; refine HD.out.mono ?_; rintro e w1 ⟨rfl, hb1⟩; have HB1 := hide hb1; clear hb1) | (go_at_call 11; refine (HX.out _).mono ?_; rintro e w' ⟨rfl, rfl⟩))
          go_ret2
          exact ⟨by rw [HE.out]; rfl, HB1.out⟩
      · have z1 : (x2 == 0) = false := by rw [beq_eq_false_iff_ne]; exact z
        have z2 : (x2 != 0) = true := by rw [bne, z1]; rfl
        have HE : Hid (shownL xs (x1, x2) = (0, codeR x2)) := HS.out.trans (shown_no z)
        clear z HS
        go_wp2_with (first | (rw [R1.out, Oper.upon_enter]; refine HD.out.mono ?_; rintro e w1 ⟨rfl, hb1⟩; have HB1 := hide hb1; clear hb1) | (go_at_call 31; refine (code_any _ _).mono ?_; rintro e w' ⟨rfl, rfl⟩))
        go_ret2
        exact ⟨by rw [HE.out]; rfl, HB1.out⟩

theorem nn_of {xs : List Int} (h : xs.any (fun n => decide (n < 0)) = false) : ∀ n ∈ xs, 0 ≤ n := by
  intro n hn
  have := List.any_eq_false.1 h n hn
  simpa using this
theorem fit_of {xs : List Int} (h : xs.all fitsB = true) : ∀ n ∈ xs, -1000000000000000000 ≤ n ∧ n ≤ 1000000000000000000 := fun n hn => fitsB_true (List.all_eq_true.1 h n hn)
theorem big_of {xs : List Int} (h : xs.any (fun n => decide (n < 1000000)) = false) : ∀ n ∈ xs, 1000000 ≤ n := by
  intro n hn
  have := List.any_eq_false.1 h n hn
  simpa using this

set_option maxHeartbeats 1000000 in
theorem divisor_any (xs : List Int) (a : Option Addr) (cap : Nat) (w : World) (hr : RowI w a xs) (hf : xs.all fitsB = true) :
    Calls Try.prog 22 #[.slice a xs.length cap] w fun e w' => e = .returned (.tuple #[.int .i64 (mdivR xs).1, .int .i64 (mdivR xs).2]) ∧ Below w.heap.size w w' := by
  have HA := hide (contains_any xs a cap (fun n => decide (n < 0)) 38 w (fun _ _ => by kernel_rfl) hr (fun n W => below_any n W))
  cases hn : xs.any (fun n => decide (n < 0))
  · rw [hn] at HA
    have HE : Hid (mdivR xs = foldR divF 0 xs) := by
      show _ = _
      unfold mdivR
      rw [if_neg (by rw [hn]; decide), ← div_fold xs 0 (nn_of hn)]; rfl
    have HF := hide (folded_any xs a cap divF (fun s => 0 ≤ s ∧ s ≤ 1000000000000000000) 0 40 w (fun _ _ => by kernel_rfl) hr ⟨by decide, by decide⟩
      (fun s n hs hm _ => by
        obtain ⟨i0, i1⟩ := inR_nn (nn_of hn n hm) (fit_of hf n hm).2
        exact gcdI_bd hs.1 hs.2 i0 i1)
      (fun s n W hs hm => divF_any s n W hs.1 hs.2 (nn_of hn n hm) (fit_of hf n hm).2))
    clear hr hf hn
    generalize foldR divF 0 xs = y at *
    obtain ⟨y1, y2⟩ := y
    go_enter Try.func22, Try.ntmps22
    go_wp2_with (first | (go_at_call 37; refine HA.out.mono ?_; rintro e w1 ⟨rfl, rfl⟩) | (go_at_call 39; refine HF.out.mono ?_; rintro e w2 ⟨rfl, hb2⟩))
    go_ret2
    exact ⟨by rw [HE.out]; rfl, hb2⟩
  · rw [hn] at HA
    have HE : Hid (mdivR xs = (0, 2)) := if_pos hn
    clear hr hf hn
    go_enter Try.func22, Try.ntmps22
    go_wp2_with (first | (go_at_call 37; refine HA.out.mono ?_; rintro e w1 ⟨rfl, rfl⟩))
    go_ret2
    exact ⟨by rw [HE.out]; rfl, Below.refl _ _⟩

theorem mul_inv {s n : Int} {m : Nat} (e : s = (m : Int) * 1000000) (h1 : 1 ≤ m) (h2 : m ≤ 1000000000000) (n0 : 1000000 ≤ n) (n1 : n ≤ 1000000000000000000) :
    s / gcdI s (inR n 1000000) * 1000000 ≤ 1000000000000000000 ∧ ((mulF s n).2 = 0 → ∃ k : Nat, (mulF s n).1 = (k : Int) * 1000000 ∧ 1 ≤ k ∧ k ≤ 1000000000000) := by
  subst e
  have hk : 1 ≤ whN n := by unfold whN; omega
  constructor
  · rw [whole_is (by omega), gcdI_whole, Int.mul_ediv_mul_of_pos_left _ _ (by decide)]
    have g0 : 0 < Nat.gcd m (whN n) := Nat.gcd_pos_of_pos_left _ (by omega)
    have q1 : m / Nat.gcd m (whN n) ≤ m := Nat.div_le_self _ _
    have : (m : Int) / (Nat.gcd m (whN n) : Int) = ((m / Nat.gcd m (whN n) : Nat) : Int) := rfl
    rw [this]; omega
  · rw [mulF_is n0 n1 h1 h2]
    by_cases c : 1000000000000 < Nat.lcm m (whN n)
    · rw [if_pos c]; intro h; exact absurd h (by decide)
    · rw [if_neg c]; exact fun _ => ⟨_, rfl, lcm_pos h1 hk, by omega⟩

set_option maxHeartbeats 1000000 in
theorem multiple_any (xs : List Int) (a : Option Addr) (cap : Nat) (w : World) (hr : RowI w a xs) (hf : xs.all fitsB = true) :
    Calls Try.prog 23 #[.slice a xs.length cap] w fun e w' => e = .returned (.tuple #[.int .i64 (mmulR xs).1, .int .i64 (mmulR xs).2]) ∧ Below w.heap.size w w' := by
  have HA := hide (contains_any xs a cap (fun n => decide (n < 0)) 38 w (fun _ _ => by kernel_rfl) hr (fun n W => below_any n W))
  have HZ := hide (contains_any xs a cap (fun n => decide (n < 1000000)) 43 w (fun _ _ => by kernel_rfl) hr (fun n W => less1_any n W))
  cases hn : xs.any (fun n => decide (n < 0))
  · rw [hn] at HA
    cases hz : xs.any (fun n => decide (n < 1000000))
    · rw [hz] at HZ
      have hb := big_of hz
      have HE : Hid (mmulR xs = foldR mulF 1000000 xs) := by
        show _ = _
        unfold mmulR
        rw [if_neg (by rw [hn]; decide), if_neg (by rw [hz]; decide)]
        exact (mul_fold xs 1 (fun n hm => ⟨hb n hm, (fit_of hf n hm).2⟩) (by decide) (by decide)).symm
      have HF := hide (folded_any xs a cap mulF (fun s => ∃ m : Nat, s = (m : Int) * 1000000 ∧ 1 ≤ m ∧ m ≤ 1000000000000) 1000000 44 w (fun _ _ => by kernel_rfl) hr ⟨1, rfl, by decide, by decide⟩
        (fun s n ⟨m, e, m1, m2⟩ hm h => (mul_inv e m1 m2 (hb n hm) (fit_of hf n hm).2).2 h)
        (fun s n W ⟨m, e, m1, m2⟩ hm => mulF_any s n W (by omega) (by omega) (mul_inv e m1 m2 (hb n hm) (fit_of hf n hm).2).1 (by have := hb n hm; omega) (fit_of hf n hm).2))
      clear hr hf hn hz hb
      generalize foldR mulF 1000000 xs = y at *
      obtain ⟨y1, y2⟩ := y
      go_enter Try.func23, Try.ntmps23
      go_wp2_with (first | (go_at_call 37; with_reducible refine HA.out.mono ?_; rintro e w1 ⟨rfl, rfl⟩) | (go_at_call 37; with_reducible refine HZ.out.mono ?_; rintro e w1 ⟨rfl, rfl⟩) | (go_at_call 39; refine HF.out.mono ?_; rintro e w2 ⟨rfl, hb2⟩))
      go_ret2
      exact ⟨by rw [HE.out]; rfl, hb2⟩
    · rw [hz] at HZ
      have HE : Hid (mmulR xs = (0, 0)) := by show _ = _; unfold mmulR; rw [if_neg (by rw [hn]; decide), if_pos hz]
      clear hr hf hn hz
      go_enter Try.func23, Try.ntmps23
      go_wp2_with (first | (go_at_call 37; with_reducible refine HA.out.mono ?_; rintro e w1 ⟨rfl, rfl⟩) | (go_at_call 37; with_reducible refine HZ.out.mono ?_; rintro e w1 ⟨rfl, rfl⟩))
      go_ret2
      exact ⟨by rw [HE.out]; rfl, Below.refl _ _⟩
  · rw [hn] at HA
    have HE : Hid (mmulR xs = (0, 2)) := if_pos hn
    clear hr hf hn HZ
    go_enter Try.func23, Try.ntmps23
    go_wp2_with (first | (go_at_call 37; refine HA.out.mono ?_; rintro e w1 ⟨rfl, rfl⟩))
    go_ret2
    exact ⟨by rw [HE.out]; rfl, Below.refl _ _⟩

set_option maxHeartbeats 1000000 in
theorem Gcd_any (xs : List Int) (a : Option Addr) (cap : Nat) (w : World) (hr : RowI w a xs) :
    Calls Try.prog 9 #[.slice a xs.length cap] w fun e w' => e = .returned (.tuple #[.int .i64 (shownL xs (mdivR xs)).1, .int .i64 (shownL xs (mdivR xs)).2]) ∧ Below w.heap.size w w' := by
  have HT := hide (told3_any xs a cap (mdivR xs) 22 w (fun _ _ => by kernel_rfl) hr (fun hf W hb => by rw [Array.append_empty]; exact divisor_any xs a cap W (RowI.below hr hb) hf))
  generalize shownL xs (mdivR xs) = x at *
  obtain ⟨x1, x2⟩ := x
  clear hr
  go_enter Try.func9, Try.ntmps9
  go_wp2_with (go_at_call 21; refine HT.out.mono ?_; rintro e w1 ⟨rfl, hb1⟩)
  go_ret2
  exact ⟨rfl, hb1⟩

set_option maxHeartbeats 1000000 in
theorem Lcm_any (xs : List Int) (a : Option Addr) (cap : Nat) (w : World) (hr : RowI w a xs) :
    Calls Try.prog 10 #[.slice a xs.length cap] w fun e w' => e = .returned (.tuple #[.int .i64 (shownL xs (mmulR xs)).1, .int .i64 (shownL xs (mmulR xs)).2]) ∧ Below w.heap.size w w' := by
  have HT := hide (told3_any xs a cap (mmulR xs) 23 w (fun _ _ => by kernel_rfl) hr (fun hf W hb => by rw [Array.append_empty]; exact multiple_any xs a cap W (RowI.below hr hb) hf))
  generalize shownL xs (mmulR xs) = x at *
  obtain ⟨x1, x2⟩ := x
  clear hr
  go_enter Try.func10, Try.ntmps10
  go_wp2_with (go_at_call 21; refine HT.out.mono ?_; rintro e w1 ⟨rfl, hb1⟩)
  go_ret2
  exact ⟨rfl, hb1⟩
end Go.Proofs.Ytfopebfejmlhbab
