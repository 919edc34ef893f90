/-
  The walk of MathsRoot.
-/
import Derived.Test.YtfopebfejmlhbaaMa13
import Derived.Test.YtfopebfejmlhbaaMaS
import Derived.OpenShut
namespace Go.Proofs.Ytfopebfejmlhbaa
open Go.RowKit

theorem root_told_no {n r : Int} (h : fitsB n = false ∨ n < 0) : shown1 n (mrootR n r) = (0, 5) := by
  unfold shown1
  cases hf : fitsB n
  · rfl
  · have : n < 0 := by
      rcases h with h | h
      · rw [hf] at h; cases h
      · exact h
    rw [if_pos rfl, show mrootR n r = (0, 2) from if_pos this]; rfl
theorem root_told {n r : Int} (hf : fitsB n = true) (h : 0 ≤ n) (hr : RootIs (n * 1000000) r) : shown1 n (mrootR n r) = (r, 0) := by
  have h1 := root_le hr (by have := (fitsB_true hf).2; omega)
  have h0 := hr.nn
  unfold shown1
  rw [if_pos hf, show mrootR n r = (r, 0) from if_neg (by omega), shown_fit (x := (r, 0)) rfl (fitsB_of (by omega) (by omega))]

set_option maxRecDepth 100000 in
set_option maxHeartbeats 4000000 in
theorem mathsRoot_walk (n m : Int) (_ : (Lit.int .i64 n).wf = true) (_ : (Lit.int .i64 m).wf = true) (w : World) :
    Calls Try.prog 8 #[.int .i64 n, .int .i64 m] w fun e w' => e = .returned (.bool true) ∧ Below w.heap.size w w' := by
  have HL := hide (fun W : World => lives_any W)
  have HB0 := hide (Below.refl w.heap.size w)
  have HF := hide (fun W : World => fits_any n W)
  by_cases hn : n < 0
  · have HR := hide (fun W : World => Root_any n 0 W (fun _ h => absurd h (by omega)))
    rw [root_told_no (Or.inr hn)] at HR
    go_enter Try.func8, Try.ntmps8
    go_wp2_with (first
      | (go_at_call 30; refine (HR.out _).mono ?_; rintro e v1 ⟨rfl, hb⟩; have HB1 := hide (up HB0.out hb); clear hb)
      | (go_at_call 21; refine (HL.out _).mono ?_; rintro e v5 ⟨rfl, hb⟩; have HB5 := hide (up HB1.out hb); clear hb))
    go_ret
    exact ⟨rfl, HB5.out⟩
  · cases hf : fitsB n
    · have HR := hide (fun W : World => Root_any n 0 W (fun h _ => by rw [hf] at h; cases h))
      rw [root_told_no (Or.inl hf)] at HR
      rw [hf] at HF
      clear hf
      go_enter Try.func8, Try.ntmps8
      go_wp2_with (first
        | (go_at_call 30; refine (HR.out _).mono ?_; rintro e v1 ⟨rfl, hb⟩; have HB1 := hide (up HB0.out hb); clear hb)
        | (go_at_call 39; refine (HF.out _).mono ?_; rintro e wz ⟨rfl, hz⟩; subst wz)
        | (go_at_call 21; refine (HL.out _).mono ?_; rintro e v5 ⟨rfl, hb⟩; have HB5 := hide (up HB1.out hb); clear hb))
      go_ret
      exact ⟨rfl, HB5.out⟩
    · obtain ⟨r, hr⟩ := root_exists (N := n * 1000000) (by omega)
      have HR := hide (fun W : World => Root_any n r W (fun _ _ => hr))
      rw [root_told hf (by omega) hr] at HR
      obtain ⟨n1, n2⟩ := fitsB_true hf
      have r0 := hr.nn
      have r1 := root_le hr (by omega)
      obtain ⟨s, hs, hsf, hsq⟩ := root_square (by omega) n2 hr
      obtain ⟨s1, s2⟩ := fitsB_true hsf
      have HM := hide (fun W : World => mul_full r r W)
      rw [hs] at HM
      have HZ := hide (fun W : World => lsize_any (s - n) W (by omega) (by omega))
      have w1 : IntKind.i64.wrap (s - n) = s - n := wrapI (by omega) (by omega)
      obtain ⟨k, hk⟩ : ∃ k, r / 1000000 = k := ⟨_, rfl⟩
      have hk2 : r.tdiv 1000000 = k := by rw [Int.tdiv_eq_ediv_of_nonneg r0]; exact hk
      have w2 : IntKind.i64.wrap k = k := wrapI (by omega) (by omega)
      have w3 : IntKind.i64.wrap (k + 1) = k + 1 := wrapI (by omega) (by omega)
      have hgt : ¬ k + 1 < absI (s - n) := by omega
      have hr0 : ¬ r < 0 := by omega
      have hB := hide hr
      generalize absI (s - n) = z at *
      by_cases hm : fitsB m = false ∨ m < 0
      · have HQ : Hid (∀ W : World, Calls Try.prog 30 #[.int .i64 m] W fun e w' => e = .returned (.tuple #[.int .i64 0, .int .i64 5]) ∧ Below W.heap.size W w') := by
          intro W
          have := Root_any m 0 W (fun hf h => by
            rcases hm with hm | hm
            · rw [hf] at hm; cases hm
            · exact absurd h (by omega))
          rw [root_told_no hm] at this
          exact this
        clear hm hr hs hsf hsq s1 s2 n1 n2 r0 r1 hB hf
        go_enter Try.func8, Try.ntmps8
        go_wp2_with (first
          | (go_at_call 30; first
              | (with_reducible refine (HR.out _).mono ?_; rintro e v1 ⟨rfl, hb⟩; have HB1 := hide (up HB0.out hb); clear hb HR)
              | (with_reducible refine (HQ.out _).mono ?_; rintro e v3 ⟨rfl, hb⟩; have HB3 := hide (up HB2.out hb); clear hb))
          | (go_at_call 40; refine (HM.out _).mono ?_; rintro e v2 ⟨rfl, hb⟩; have HB2 := hide (up HB1.out hb); clear hb)
          | (go_at_call 38; refine (HZ.out _).mono ?_; rintro e wz ⟨rfl, hz⟩; subst wz)
          | (go_at_call 21; refine (HL.out _).mono ?_; rintro e v5 ⟨rfl, hb⟩; have HB5 := hide (up HB3.out hb); clear hb))
        go_ret
        exact ⟨rfl, HB5.out⟩
      · have hmf : fitsB m = true := by
          cases h : fitsB m
          · exact absurd (Or.inl h) hm
          · rfl
        have hm0 : 0 ≤ m := Int.not_lt.1 fun h => hm (Or.inr h)
        obtain ⟨q, hq⟩ := root_exists (N := m * 1000000) (by omega)
        have HQ : Hid (∀ W : World, Calls Try.prog 30 #[.int .i64 m] W fun e w' => e = .returned (.tuple #[.int .i64 q, .int .i64 0]) ∧ Below W.heap.size W w') := by
          intro W
          have := Root_any m q W (fun _ _ => hq)
          rw [root_told hmf hm0 hq] at this
          exact this
        have hle : n ≤ m → r ≤ q := fun h => root_lt hq hr (by omega)
        clear hm hr hs hsf hsq s1 s2 n1 n2 r0 r1 hB hf hq hmf
        by_cases c : m < n
        · clear hle
          go_enter Try.func8, Try.ntmps8
          go_wp2_with (first
            | (go_at_call 30; first
                | (with_reducible refine (HR.out _).mono ?_; rintro e v1 ⟨rfl, hb⟩; have HB1 := hide (up HB0.out hb); clear hb HR)
                | (with_reducible refine (HQ.out _).mono ?_; rintro e v3 ⟨rfl, hb⟩; have HB3 := hide (up HB2.out hb); clear hb))
            | (go_at_call 40; refine (HM.out _).mono ?_; rintro e v2 ⟨rfl, hb⟩; have HB2 := hide (up HB1.out hb); clear hb)
            | (go_at_call 38; refine (HZ.out _).mono ?_; rintro e wz ⟨rfl, hz⟩; subst wz)
            | (go_at_call 21; refine (HL.out _).mono ?_; rintro e v5 ⟨rfl, hb⟩; have HB5 := hide (up HB3.out hb); clear hb))
          go_ret
          exact ⟨rfl, HB5.out⟩
        · have hrq := hle (by omega)
          clear hle
          go_enter Try.func8, Try.ntmps8
          go_wp2_with (first
            | (go_at_call 30; first
                | (with_reducible refine (HR.out _).mono ?_; rintro e v1 ⟨rfl, hb⟩; have HB1 := hide (up HB0.out hb); clear hb HR)
                | (with_reducible refine (HQ.out _).mono ?_; rintro e v3 ⟨rfl, hb⟩; have HB3 := hide (up HB2.out hb); clear hb))
            | (go_at_call 40; refine (HM.out _).mono ?_; rintro e v2 ⟨rfl, hb⟩; have HB2 := hide (up HB1.out hb); clear hb)
            | (go_at_call 38; refine (HZ.out _).mono ?_; rintro e wz ⟨rfl, hz⟩; subst wz)
            | (go_at_call 21; refine (HL.out _).mono ?_; rintro e v5 ⟨rfl, hb⟩; have HB5 := hide (up HB3.out hb); clear hb))
          go_ret
          exact ⟨rfl, HB5.out⟩
end Go.Proofs.Ytfopebfejmlhbaa
