/-
  The answer's Up, Even, Odd, Abs, Sign.
-/
import Derived.Test.YtfopebfejmlhbaaMb0
namespace Go.Proofs.Ytfopebfejmlhbaa
open Go.RowKit

theorem tm_pos {n d : Int} (h : 0 ≤ n) : n.tmod d = n % d := Int.tmod_eq_emod_of_nonneg h
theorem tm_neg {n d : Int} (h : n ≤ 0) : n.tmod d = -((-n) % d) := by
  have := Int.tmod_eq_emod_of_nonneg (a := -n) (b := d) (by omega)
  rw [Int.neg_tmod] at this; omega
theorem outR_pos {n d : Int} (h : 0 ≤ n) : outR n d = if n % d = 0 then n else n - n % d + d := by
  unfold outR
  rw [tm_pos h]
  by_cases c : n % d = 0
  · rw [if_pos c, if_pos c]
  · rw [if_neg c, if_neg c, if_neg (by omega)]
theorem outR_mirror {n d : Int} : outR (-n) d = -(outR n d) := by
  unfold outR
  rw [Int.neg_tmod]
  by_cases z : n = 0
  · subst z; simp
  · by_cases c : n.tmod d = 0
    · rw [if_pos c, if_pos (by omega)]
    · rw [if_neg c, if_neg (by omega)]
      by_cases h : n < 0
      · rw [if_pos h, if_neg (by omega)]; omega
      · rw [if_neg h, if_pos (by omega)]; omega
/-- n away from 0 to a whole number, an even one, an odd one. -/
theorem whole_pos {n : Int} (h : 0 ≤ n) (h2 : n ≤ 1000000000000000000) : ∃ q, outR n 1000000 = q * 1000000 ∧ 0 ≤ q ∧ q ≤ 1000000000000 ∧ (q % 2 = 0 → outR n 2000000 = q * 1000000 ∧ moddA n = q * 1000000 + 1000000) ∧ (q % 2 = 1 → outR n 2000000 = q * 1000000 + 1000000 ∧ moddA n = q * 1000000) := by
  have ha : absI n = n := absI_pos h
  unfold moddA
  rw [outR_pos h, outR_pos h, ha, outR_pos (by omega)]
  refine ⟨(if n % 1000000 = 0 then n else n - n % 1000000 + 1000000) / 1000000, ?_, ?_, ?_, ?_, ?_⟩ <;> (repeat' split) <;> omega
theorem whole_any {n : Int} (h1 : -1000000000000000000 ≤ n) (h2 : n ≤ 1000000000000000000) : ∃ q, outR n 1000000 = q * 1000000 ∧ -1000000000000 ≤ q ∧ q ≤ 1000000000000 ∧ (0 ≤ n → 0 ≤ q) ∧ (n ≤ 0 → q ≤ 0) ∧
    (q % 2 = 0 → (mevenR n).1 = q * 1000000 ∧ (moddR n).1 = if n < 0 then q * 1000000 - 1000000 else q * 1000000 + 1000000) ∧
    (q % 2 ≠ 0 → (mevenR n).1 = (if n < 0 then q * 1000000 - 1000000 else q * 1000000 + 1000000) ∧ (moddR n).1 = q * 1000000) := by
  by_cases h : n < 0
  · obtain ⟨q, e, q1, q2, a, b⟩ := whole_pos (n := -n) (by omega) (by omega)
    refine ⟨-q, by have := outR_mirror (n := n) (d := 1000000); omega, by omega, by omega, by omega, by omega, ?_, ?_⟩
    · intro z
      obtain ⟨a1, a2⟩ := a (by omega)
      rw [outR_mirror] at a1
      show outR n 2000000 = _ ∧ (if n < 0 then -(moddA n) else moddA n) = _
      rw [if_pos h, if_pos h]
      have : moddA n = moddA (-n) := by unfold moddA absI; rw [if_pos h, if_neg (by omega)]
      omega
    · intro z
      obtain ⟨a1, a2⟩ := b (by omega)
      rw [outR_mirror] at a1
      show outR n 2000000 = (if n < 0 then _ else _) ∧ (if n < 0 then -(moddA n) else moddA n) = _
      rw [if_pos h, if_pos h]
      have : moddA n = moddA (-n) := by unfold moddA absI; rw [if_pos h, if_neg (by omega)]
      omega
  · obtain ⟨q, e, q1, q2, a, b⟩ := whole_pos (n := n) (by omega) h2
    have hz : n = 0 → q = 0 := fun h0 => by rw [h0, show outR 0 1000000 = 0 from rfl] at e; omega
    refine ⟨q, e, by omega, by omega, by omega, by omega, ?_, ?_⟩
    · intro z
      obtain ⟨a1, a2⟩ := a (by omega)
      show outR n 2000000 = _ ∧ (if n < 0 then -(moddA n) else moddA n) = _
      rw [if_neg h, if_neg h]
      exact ⟨a1, a2⟩
    · intro z
      obtain ⟨a1, a2⟩ := b (by omega)
      show outR n 2000000 = (if n < 0 then _ else _) ∧ (if n < 0 then -(moddA n) else moddA n) = _
      rw [if_neg h, if_neg h]
      exact ⟨a1, a2⟩

set_option maxHeartbeats 1000000 in
theorem rup_any (n p : Int) (w : World) (p1 : -9223372036854775808 ≤ p) (p2 : p ≤ 9223372036854775807) :
    Calls Try.prog 10 #[.int .i64 n, .int .i64 p] w fun e w' => e = .returned (.tuple #[.int .i64 (shown1 n (placesR outR n p)).1, .int .i64 (shown1 n (placesR outR n p)).2]) ∧ w' = w := by
  have HD := hide (fun W : World => rdown_any n p W p1 p2)
  by_cases hin : fitsB n = false ∨ p < -12 ∨ 6 < p
  · rw [down_out hin] at HD
    rw [down_out hin]
    clear hin
    go_enter Try.func10, Try.ntmps10
    go_wp2_with (go_at_call 12; refine (HD.out _).mono ?_; rintro e w1 ⟨rfl, rfl⟩)
    go_ret2
    exact ⟨rfl, rfl⟩
  · have hf : fitsB n = true := by
      cases h : fitsB n
      · exact absurd (Or.inl h) hin
      · rfl
    have q1 : -12 ≤ p := Int.not_lt.1 fun h => hin (Or.inr (Or.inl h))
    have q2 : p ≤ 6 := Int.not_lt.1 fun h => hin (Or.inr (Or.inr h))
    have hu := unitR_bd q1 q2
    obtain ⟨n1, n2⟩ := fitsB_true hf
    have hb := inR_bd (s := unitR p) n1 n2
    have HT := hide (fun W : World => rto_any p W q1 q2)
    rw [down_in hf q1 q2, shown_fit (x := (inR n (unitR p), 0)) rfl (fitsB_of hb.1 hb.2)] at HD
    rw [down_in hf q1 q2]
    generalize unitR p = s at *
    have ei : inR n s = n - n.tmod s := rfl
    clear hin q1 q2 p1 p2
    by_cases z : n.tmod s = 0
    · rw [show outR n s = n from if_pos z, shown_fit (x := (n, 0)) rfl hf]
      rw [show inR n s = n by omega] at HD
      clear hf ei z hb HT hu
      go_enter Try.func10, Try.ntmps10
      go_wp2_with (go_at_call 12; refine (HD.out _).mono ?_; rintro e w1 ⟨rfl, rfl⟩)
      go_ret2
      exact ⟨rfl, rfl⟩
    · have hne : ¬ inR n s = n := by omega
      by_cases h : n < 0
      · rw [show outR n s = inR n s - s from (if_neg z).trans (if_pos h)]
        have HS := hide (fun W : World => rtold_any (inR n s - s) W)
        have w1 : IntKind.i64.wrap (inR n s - s) = inR n s - s := wrapI (by omega) (by omega)
        generalize shown (inR n s - s, 0) = x at *
        obtain ⟨x1, x2⟩ := x
        generalize inR n s = d at *
        clear hf ei z hb
        go_enter Try.func10, Try.ntmps10
        go_wp2_with (first | (go_at_call 12; refine (HD.out _).mono ?_; rintro e w1 ⟨rfl, rfl⟩) | (go_at_call 45; refine (HT.out _).mono ?_; rintro e w1 ⟨rfl, rfl⟩) | (go_at_call 44; refine (HS.out _).mono ?_; rintro e w1 ⟨rfl, rfl⟩))
        go_ret2
        exact ⟨rfl, rfl⟩
      · rw [show outR n s = inR n s + s from (if_neg z).trans (if_neg h)]
        have HS := hide (fun W : World => rtold_any (inR n s + s) W)
        have w1 : IntKind.i64.wrap (inR n s + s) = inR n s + s := wrapI (by omega) (by omega)
        generalize shown (inR n s + s, 0) = x at *
        obtain ⟨x1, x2⟩ := x
        generalize inR n s = d at *
        clear hf ei z hb
        go_enter Try.func10, Try.ntmps10
        go_wp2_with (first | (go_at_call 12; refine (HD.out _).mono ?_; rintro e w1 ⟨rfl, rfl⟩) | (go_at_call 45; refine (HT.out _).mono ?_; rintro e w1 ⟨rfl, rfl⟩) | (go_at_call 44; refine (HS.out _).mono ?_; rintro e w1 ⟨rfl, rfl⟩))
        go_ret2
        exact ⟨rfl, rfl⟩

set_option maxHeartbeats 1000000 in
theorem rabs_any (n : Int) (w : World) :
    Calls Try.prog 18 #[.int .i64 n] w fun e w' => e = .returned (.tuple #[.int .i64 (shown1 n (absI n, 0)).1, .int .i64 (shown1 n (absI n, 0)).2]) ∧ w' = w := by
  have HF := hide (fun W : World => rfits_any n W)
  cases hf : fitsB n
  · rw [hf] at HF
    rw [show shown1 n (absI n, 0) = (0, 5) from if_neg (by rw [hf]; decide)]
    clear hf
    go_enter Try.func18, Try.ntmps18
    go_wp2_with (go_at_call 47; refine (HF.out _).mono ?_; rintro e w1 ⟨rfl, rfl⟩)
    go_ret2
    exact ⟨rfl, rfl⟩
  · rw [hf] at HF
    obtain ⟨n1, n2⟩ := fitsB_true hf
    have HS := hide (fun W : World => rsize_any n W n1 n2)
    have hb := absI_le n1 n2
    have hb0 := absI_nn n
    rw [show shown1 n (absI n, 0) = shown (absI n, 0) from if_pos hf, shown_fit (x := (absI n, 0)) rfl (fitsB_of (by omega) (by omega))]
    clear hf hb hb0
    show Calls _ _ _ _ (fun e w' => e = .returned (.tuple #[.int .i64 (absI n), .int .i64 0]) ∧ w' = w)
    generalize absI n = a at *
    go_enter Try.func18, Try.ntmps18
    go_wp2_with (first | (go_at_call 47; refine (HF.out _).mono ?_; rintro e w1 ⟨rfl, rfl⟩) | (go_at_call 51; refine (HS.out _).mono ?_; rintro e w1 ⟨rfl, rfl⟩))
    go_ret2
    exact ⟨rfl, rfl⟩

set_option maxHeartbeats 1000000 in
theorem rsign_any (n : Int) (w : World) :
    Calls Try.prog 20 #[.int .i64 n] w fun e w' => e = .returned (.tuple #[.int .i64 (shown1 n (msignR n, 0)).1, .int .i64 (shown1 n (msignR n, 0)).2]) ∧ w' = w := by
  have HF := hide (fun W : World => rfits_any n W)
  cases hf : fitsB n
  · rw [hf] at HF
    rw [show shown1 n (msignR n, 0) = (0, 5) from if_neg (by rw [hf]; decide)]
    clear hf
    go_enter Try.func20, Try.ntmps20
    go_wp2_with (go_at_call 47; refine (HF.out _).mono ?_; rintro e w1 ⟨rfl, rfl⟩)
    go_ret2
    exact ⟨rfl, rfl⟩
  · rw [hf] at HF
    rw [show shown1 n (msignR n, 0) = shown (msignR n, 0) from if_pos hf]
    clear hf
    by_cases h : n < 0
    · rw [show msignR n = -1000000 from if_pos h, show shown (-1000000, 0) = (-1000000, 0) from rfl]
      go_enter Try.func20, Try.ntmps20
      go_wp2_with (go_at_call 47; refine (HF.out _).mono ?_; rintro e w1 ⟨rfl, rfl⟩)
      go_ret2
      exact ⟨rfl, rfl⟩
    · by_cases h2 : 0 < n
      · rw [show msignR n = 1000000 from (if_neg h).trans (if_pos h2), show shown (1000000, 0) = (1000000, 0) from rfl]
        go_enter Try.func20, Try.ntmps20
        go_wp2_with (go_at_call 47; refine (HF.out _).mono ?_; rintro e w1 ⟨rfl, rfl⟩)
        go_ret2
        exact ⟨rfl, rfl⟩
      · rw [show msignR n = 0 from (if_neg h).trans (if_neg h2), show shown (0, 0) = (0, 0) from rfl]
        go_enter Try.func20, Try.ntmps20
        go_wp2_with (go_at_call 47; refine (HF.out _).mono ?_; rintro e w1 ⟨rfl, rfl⟩)
        go_ret2
        exact ⟨rfl, rfl⟩

set_option maxHeartbeats 1000000 in
theorem reven_any (n : Int) (w : World) :
    Calls Try.prog 14 #[.int .i64 n] w fun e w' => e = .returned (.tuple #[.int .i64 (shown1 n (mevenR n)).1, .int .i64 (shown1 n (mevenR n)).2]) ∧ w' = w := by
  have HU := hide (fun W : World => rup_any n 0 W (by decide) (by decide))
  cases hf : fitsB n
  · rw [down_out (Or.inl hf)] at HU
    rw [show shown1 n (mevenR n) = (0, 5) from if_neg (by rw [hf]; decide)]
    clear hf
    go_enter Try.func14, Try.ntmps14
    go_wp2_with (go_at_call 10; refine (HU.out _).mono ?_; rintro e w1 ⟨rfl, rfl⟩)
    go_ret2
    exact ⟨rfl, rfl⟩
  · obtain ⟨n1, n2⟩ := fitsB_true hf
    obtain ⟨q, e, q1, q2, s1, s2, ev, od⟩ := whole_any n1 n2
    rw [down_in hf (by decide) (by decide), show unitR 0 = 1000000 from rfl, e, shown_fit (x := (q * 1000000, 0)) rfl (fitsB_of (by omega) (by omega))] at HU
    rw [show shown1 n (mevenR n) = shown ((mevenR n).1, 0) from if_pos hf]
    have d1 : (q * 1000000).tdiv 1000000 = q := Int.mul_tdiv_cancel _ (by decide)
    have d2 : q * 1000000 / 1000000 = q := by omega
    by_cases z : q % 2 = 0
    · have z1 : q.tmod 2 = 0 := by have := tm_pos (n := q) (d := 2); have := tm_neg (n := q) (d := 2); omega
      rw [(ev z).1]
      have HZ := hide z
      have HZ1 := hide z1
      clear ev od e
      rw [shown_fit (x := (q * 1000000, 0)) rfl (fitsB_of (by omega) (by omega))]
      clear hf n1 n2 s1 s2
      go_enter Try.func14, Try.ntmps14
      go_wp2_with (go_at_call 10; refine (HU.out _).mono ?_; rintro e w1 ⟨rfl, rfl⟩)
      go_ret2
      exact ⟨rfl, rfl⟩
    · have z1 : ¬ q.tmod 2 = 0 := by have := tm_pos (n := q) (d := 2); have := tm_neg (n := q) (d := 2); omega
      rw [(od z).1]
      have HZ := hide z
      have HZ1 := hide z1
      clear ev od e
      by_cases h : n < 0
      · rw [if_pos h]
        have HS := hide (fun W : World => rtold_any (q * 1000000 - 1000000) W)
        have w1 : IntKind.i64.wrap (q * 1000000 - 1000000) = q * 1000000 - 1000000 := wrapI (by omega) (by omega)
        generalize shown (q * 1000000 - 1000000, 0) = x at *
        obtain ⟨x1, x2⟩ := x
        clear hf n1 n2 s1 s2
        go_enter Try.func14, Try.ntmps14
        go_wp2_with (first | (go_at_call 10; refine (HU.out _).mono ?_; rintro e w1 ⟨rfl, rfl⟩) | (go_at_call 44; refine (HS.out _).mono ?_; rintro e w1 ⟨rfl, rfl⟩))
        go_ret2
        exact ⟨rfl, rfl⟩
      · rw [if_neg h]
        have HS := hide (fun W : World => rtold_any (q * 1000000 + 1000000) W)
        have w1 : IntKind.i64.wrap (q * 1000000 + 1000000) = q * 1000000 + 1000000 := wrapI (by omega) (by omega)
        generalize shown (q * 1000000 + 1000000, 0) = x at *
        obtain ⟨x1, x2⟩ := x
        clear hf n1 n2 s1 s2
        go_enter Try.func14, Try.ntmps14
        go_wp2_with (first | (go_at_call 10; refine (HU.out _).mono ?_; rintro e w1 ⟨rfl, rfl⟩) | (go_at_call 44; refine (HS.out _).mono ?_; rintro e w1 ⟨rfl, rfl⟩))
        go_ret2
        exact ⟨rfl, rfl⟩

set_option maxHeartbeats 1000000 in
theorem rodd_any (n : Int) (w : World) :
    Calls Try.prog 16 #[.int .i64 n] w fun e w' => e = .returned (.tuple #[.int .i64 (shown1 n (moddR n)).1, .int .i64 (shown1 n (moddR n)).2]) ∧ w' = w := by
  have HU := hide (fun W : World => rup_any n 0 W (by decide) (by decide))
  cases hf : fitsB n
  · rw [down_out (Or.inl hf)] at HU
    rw [show shown1 n (moddR n) = (0, 5) from if_neg (by rw [hf]; decide)]
    clear hf
    go_enter Try.func16, Try.ntmps16
    go_wp2_with (go_at_call 10; refine (HU.out _).mono ?_; rintro e w1 ⟨rfl, rfl⟩)
    go_ret2
    exact ⟨rfl, rfl⟩
  · obtain ⟨n1, n2⟩ := fitsB_true hf
    obtain ⟨q, e, q1, q2, s1, s2, ev, od⟩ := whole_any n1 n2
    rw [down_in hf (by decide) (by decide), show unitR 0 = 1000000 from rfl, e, shown_fit (x := (q * 1000000, 0)) rfl (fitsB_of (by omega) (by omega))] at HU
    rw [show shown1 n (moddR n) = shown ((moddR n).1, 0) from if_pos hf]
    have d1 : (q * 1000000).tdiv 1000000 = q := Int.mul_tdiv_cancel _ (by decide)
    have d2 : q * 1000000 / 1000000 = q := by omega
    by_cases z : q % 2 = 0
    · have z1 : q.tmod 2 = 0 := by have := tm_pos (n := q) (d := 2); have := tm_neg (n := q) (d := 2); omega
      rw [(ev z).2]
      have HZ := hide z
      have HZ1 := hide z1
      clear ev od e
      by_cases h : n < 0
      · rw [if_pos h]
        have HS := hide (fun W : World => rtold_any (q * 1000000 - 1000000) W)
        have w1 : IntKind.i64.wrap (q * 1000000 - 1000000) = q * 1000000 - 1000000 := wrapI (by omega) (by omega)
        generalize shown (q * 1000000 - 1000000, 0) = x at *
        obtain ⟨x1, x2⟩ := x
        clear hf n1 n2 s1 s2
        go_enter Try.func16, Try.ntmps16
        go_wp2_with (first | (go_at_call 10; refine (HU.out _).mono ?_; rintro e w1 ⟨rfl, rfl⟩) | (go_at_call 44; refine (HS.out _).mono ?_; rintro e w1 ⟨rfl, rfl⟩))
        go_ret2
        exact ⟨rfl, rfl⟩
      · rw [if_neg h]
        have HS := hide (fun W : World => rtold_any (q * 1000000 + 1000000) W)
        have w1 : IntKind.i64.wrap (q * 1000000 + 1000000) = q * 1000000 + 1000000 := wrapI (by omega) (by omega)
        generalize shown (q * 1000000 + 1000000, 0) = x at *
        obtain ⟨x1, x2⟩ := x
        clear hf n1 n2 s1 s2
        go_enter Try.func16, Try.ntmps16
        go_wp2_with (first | (go_at_call 10; refine (HU.out _).mono ?_; rintro e w1 ⟨rfl, rfl⟩) | (go_at_call 44; refine (HS.out _).mono ?_; rintro e w1 ⟨rfl, rfl⟩))
        go_ret2
        exact ⟨rfl, rfl⟩
    · have z1 : ¬ q.tmod 2 = 0 := by have := tm_pos (n := q) (d := 2); have := tm_neg (n := q) (d := 2); omega
      rw [(od z).2]
      have HZ := hide z
      have HZ1 := hide z1
      clear ev od e
      rw [shown_fit (x := (q * 1000000, 0)) rfl (fitsB_of (by omega) (by omega))]
      clear hf n1 n2 s1 s2
      go_enter Try.func16, Try.ntmps16
      go_wp2_with (go_at_call 10; refine (HU.out _).mono ?_; rintro e w1 ⟨rfl, rfl⟩)
      go_ret2
      exact ⟨rfl, rfl⟩
end Go.Proofs.Ytfopebfejmlhbaa
