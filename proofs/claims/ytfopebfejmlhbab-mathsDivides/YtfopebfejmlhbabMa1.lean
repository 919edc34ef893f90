/-
  The contracts of maths' small functions.
-/
import Derived.Test.YtfopebfejmlhbabMa0
import Derived.Lib.MinMax
namespace Go.Proofs.Ytfopebfejmlhbab
open Go.RowKit

theorem wrapI {v : Int} (h1 : -9223372036854775808 ≤ v) (h2 : v ≤ 9223372036854775807) : IntKind.i64.wrap v = v := by rw [IntKind.wrap_i64]; omega

set_option maxHeartbeats 1000000 in
theorem msize_any (n : Int) (w : World) (h1 : -2000000000000000000 ≤ n) (h2 : n ≤ 2000000000000000000) :
    Calls Try.prog 34 #[.int .i64 n] w fun e w' => e = .returned (.int .i64 (absI n)) ∧ w' = w := by
  have hw : IntKind.i64.wrap (-n) = -n := wrapI (by omega) (by omega)
  have hm : max n (-n) = absI n := by unfold absI; split <;> omega
  go_enter Try.func34, Try.ntmps34
  go_wp2
  go_ret
  exact ⟨by rw [← hm]; rfl, rfl⟩

set_option maxHeartbeats 1000000 in
theorem inwards_any (n s : Int) (w : World) (h1 : -1000000000000000000 ≤ n) (h2 : n ≤ 1000000000000000000) (hs : 0 < s) :
    Calls Try.prog 47 #[.int .i64 n, .int .i64 s] w fun e w' => e = .returned (.int .i64 (inR n s)) ∧ w' = w := by
  have hz : (s == 0) = false := by rw [beq_eq_false_iff_ne]; omega
  have ha := tm_le n s
  have h3 : IntKind.i64.wrap (n.tmod s) = n.tmod s := wrapI (by omega) (by omega)
  have h4 : IntKind.i64.wrap (n - n.tmod s) = n - n.tmod s := wrapI (by omega) (by omega)
  clear ha
  go_enter Try.func47, Try.ntmps47
  go_wp2
  go_ret
  exact ⟨rfl, rfl⟩

set_option maxHeartbeats 1000000 in
theorem outwards_any (n s : Int) (w : World) (h1 : -1000000000000000000 ≤ n) (h2 : n ≤ 1000000000000000000) (hs : 0 < s) (hs2 : s ≤ 1000000000000000000) :
    Calls Try.prog 25 #[.int .i64 n, .int .i64 s] w fun e w' => e = .returned (.int .i64 (outR n s)) ∧ w' = w := by
  have ha := tm_le n s
  have hb := tm_sg n s
  have h3 : IntKind.i64.wrap (n.tmod s) = n.tmod s := wrapI (by omega) (by omega)
  by_cases c : n.tmod s = 0
  · have HE : Hid (outR n s = n) := if_pos c
    have c' : (n.tmod s == 0) = true := by rw [c]; rfl
    clear ha hb c
    go_enter Try.func25, Try.ntmps25
    go_wp2
    go_ret
    exact ⟨by rw [HE.out]; rfl, rfl⟩
  · have c' : (n.tmod s == 0) = false := by rw [beq_eq_false_iff_ne]; exact c
    have HI := hide (fun W : World => inwards_any n s W h1 h2 hs)
    have hib := inR_bd (s := s) h1 h2
    by_cases d : n < 0
    · have HE : Hid (outR n s = inR n s - s) := by show outR n s = _; unfold outR; rw [if_neg c, if_pos d]; rfl
      have hc : Lib.compareInt n 0 = -1 := by unfold Lib.compareInt; rw [if_pos d]
      have h5 : IntKind.i64.wrap (inR n s + -s) = inR n s + -s := wrapI (by omega) (by omega)
      have h6 : IntKind.i64.wrap (-1 * s) = -s := by rw [show (-1 : Int) * s = -s by omega]; exact wrapI (by omega) (by omega)
      have HC := hide (fun W : World => by have := Try.cmp_Compare_int n 0 W; rw [hc] at this; exact this)
      clear ha hb c hib hc d
      go_enter Try.func25, Try.ntmps25
      go_wp2_with (first | (go_at_call 47; refine (HI.out _).mono ?_; rintro e w' ⟨rfl, rfl⟩) | (go_at_call 48; refine (HC.out _).mono ?_; rintro e w' ⟨rfl, rfl⟩))
      go_ret
      exact ⟨by rw [HE.out, Int.sub_eq_add_neg]; rfl, rfl⟩
    · have hn : n ≠ 0 := by rintro rfl; exact c (Int.zero_tmod s)
      have HE : Hid (outR n s = inR n s + s) := by show outR n s = _; unfold outR; rw [if_neg c, if_neg d]; rfl
      have hc : Lib.compareInt n 0 = 1 := by unfold Lib.compareInt; rw [if_neg d, if_pos (by omega)]
      have h5 : IntKind.i64.wrap (inR n s + s) = inR n s + s := wrapI (by omega) (by omega)
      have h6 : IntKind.i64.wrap (1 * s) = s := by rw [show (1 : Int) * s = s by omega]; exact wrapI (by omega) (by omega)
      have HC := hide (fun W : World => by have := Try.cmp_Compare_int n 0 W; rw [hc] at this; exact this)
      clear ha hb c hib hc d
      go_enter Try.func25, Try.ntmps25
      go_wp2_with (first | (go_at_call 47; refine (HI.out _).mono ?_; rintro e w' ⟨rfl, rfl⟩) | (go_at_call 48; refine (HC.out _).mono ?_; rintro e w' ⟨rfl, rfl⟩))
      go_ret
      exact ⟨by rw [HE.out]; rfl, rfl⟩

set_option maxHeartbeats 1000000 in
theorem upwards_any (n s : Int) (w : World) (h1 : -1000000000000000000 ≤ n) (h2 : n ≤ 1000000000000000000) (hs : 0 < s) (hs2 : s ≤ 1000000000000000000) :
    Calls Try.prog 29 #[.int .i64 n, .int .i64 s] w fun e w' => e = .returned (.int .i64 (upwR n s)) ∧ w' = w := by
  by_cases d : n < 0
  · have HE : Hid (upwR n s = inR n s) := if_pos d
    have HI := hide (fun W : World => inwards_any n s W h1 h2 hs)
    go_enter Try.func29, Try.ntmps29
    go_wp2_with (go_at_call 47; refine (HI.out _).mono ?_; rintro e w' ⟨rfl, rfl⟩)
    go_ret
    exact ⟨by rw [HE.out]; rfl, rfl⟩
  · have HE : Hid (upwR n s = outR n s) := if_neg d
    have HI := hide (fun W : World => outwards_any n s W h1 h2 hs hs2)
    go_enter Try.func29, Try.ntmps29
    go_wp2_with (go_at_call 25; refine (HI.out _).mono ?_; rintro e w' ⟨rfl, rfl⟩)
    go_ret
    exact ⟨by rw [HE.out]; rfl, rfl⟩

set_option maxHeartbeats 1000000 in
theorem downwards_any (n s : Int) (w : World) (h1 : -1000000000000000000 ≤ n) (h2 : n ≤ 1000000000000000000) (hs : 0 < s) (hs2 : s ≤ 1000000000000000000) :
    Calls Try.prog 28 #[.int .i64 n, .int .i64 s] w fun e w' => e = .returned (.int .i64 (dwnR n s)) ∧ w' = w := by
  have HI := hide (fun W : World => upwards_any (-n) s W (by omega) (by omega) hs hs2)
  have hb := upwR_bd (n := -n) (s := s) (B := 1000000000000000000) hs (by omega) (by omega)
  have h3 : IntKind.i64.wrap (-n) = -n := wrapI (by omega) (by omega)
  have h4 : IntKind.i64.wrap (-(upwR (-n) s)) = -(upwR (-n) s) := wrapI (by omega) (by omega)
  clear hb
  go_enter Try.func28, Try.ntmps28
  go_wp2_with (go_at_call 29; refine (HI.out _).mono ?_; rintro e w' ⟨rfl, rfl⟩)
  go_ret
  exact ⟨rfl, rfl⟩

set_option maxHeartbeats 1000000 in
theorem wholePart_any (n : Int) (w : World) (h1 : -1000000000000000000 ≤ n) (h2 : n ≤ 1000000000000000000) :
    Calls Try.prog 42 #[.int .i64 n] w fun e w' => e = .returned (.int .i64 (inR n 1000000)) ∧ w' = w := by
  have HI := hide (fun W : World => inwards_any n 1000000 W h1 h2 (by decide))
  go_enter Try.func42, Try.ntmps42
  go_wp2_with (go_at_call 47; refine (HI.out _).mono ?_; rintro e w' ⟨rfl, rfl⟩)
  go_ret
  exact ⟨rfl, rfl⟩

set_option maxHeartbeats 1000000 in
theorem code_any (x : Int) (w : World) :
    Calls Try.prog 31 #[.int .i64 x] w fun e w' => e = .returned (.int .i64 (codeR x)) ∧ w' = w := by
  by_cases c : x = 4
  · subst c
    go_enter Try.func31, Try.ntmps31
    go_wp2
    go_ret
    exact ⟨rfl, rfl⟩
  · have HE : Hid (codeR x = 5) := if_neg c
    have c' : (x == 4) = false := by rw [beq_eq_false_iff_ne]; exact c
    clear c
    go_enter Try.func31, Try.ntmps31
    go_wp2
    go_ret
    exact ⟨by rw [HE.out]; rfl, rfl⟩

set_option maxHeartbeats 1000000 in
theorem meven_any (n : Int) (w : World) (h1 : -1000000000000000000 ≤ n) (h2 : n ≤ 1000000000000000000) :
    Calls Try.prog 26 #[.agg #[.int .i64 n]] w fun e w' => e = .returned (.tuple #[.int .i64 (mevenR n).1, .int .i64 (mevenR n).2]) ∧ Below w.heap.size w w' := by
  have HI := hide (fun W : World => outwards_any n 2000000 W h1 h2 (by decide) (by decide))
  go_enter Try.func26, Try.ntmps26
  go_wp2_with (go_at_call 25; refine (HI.out _).mono ?_; rintro e w' ⟨rfl, rfl⟩)
  go_ret2
  refine ⟨rfl, ?_⟩
  repeat' (first | with_reducible exact Below.refl _ _ | with_reducible refine Below.setCell ?_ ?_ _ | with_reducible refine Below.alloc ?_ ?_ _ | with_reducible refine below_drewN ?_ _ | with_reducible refine Below.drew ?_ | with_reducible refine Below.trans ?_ (Below.mono (by assumption) ?_) | with_reducible exact Nat.le_refl _ | with_reducible refine Nat.le_trans ?_ (Below.size (by assumption)) | with_reducible refine Nat.le_trans ?_ (size_alloc _ _) | with_reducible refine Nat.le_trans ?_ (size_set _ _ _) | with_reducible refine Nat.le_trans ?_ (size_drewN _ _) | with_reducible refine Nat.le_trans ?_ (size_drew _) | (simp; done) | (simp; omega) | omega)

end Go.Proofs.Ytfopebfejmlhbab
