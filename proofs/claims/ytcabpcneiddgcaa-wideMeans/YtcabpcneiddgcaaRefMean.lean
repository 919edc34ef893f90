/-
  The contracts of the answer's size and Mean.
-/
import Derived.Test.YtcabpcneiddgcaaRefMeanMath
namespace Go.Proofs.Ytcabpcneiddgcaa
open Go.RowKit

set_option maxHeartbeats 400000 in
theorem rsize_any (h l : Int) (w : World) (r : rightB h l = true) :
    Calls Try.prog 34 #[.agg #[.int .i64 h, .int .i64 l]] w fun e w' => e = .returned (.tuple #[.int .i64 (sizeH h l), .int .i64 (sizeL h l)]) ∧ ∃ m, w' = (w.alloc (.cells #[.int .i64 h, .int .i64 l] 23)).drewN m := by
  obtain ⟨r1, r2, r3, r4⟩ := rightB_true r
  clear r
  by_cases c1 : 0 ≤ h
  · have e1 : sizeH h l = h := by unfold sizeH; rw [if_pos c1]
    have e2 : sizeL h l = l := by unfold sizeL; rw [if_pos c1]
    rw [e1, e2]
    clear e1 e2
    go_enter Try.func34, Try.ntmps34
    go_wp2
    go_quiet (fail)
    go_wp2
    go_ret2
    exact ⟨rfl, _, rfl⟩
  · by_cases c2 : l = 0
    · subst c2
      have e1 : sizeH h 0 = -h := by unfold sizeH; rw [if_neg c1, if_pos rfl]
      have e2 : sizeL h 0 = 0 := by unfold sizeL; rw [if_neg c1, if_pos rfl]
      rw [e1, e2]
      clear e1 e2
      go_enter Try.func34, Try.ntmps34
      go_wp2
      go_ret2
      exact ⟨rfl, 0, rfl⟩
    · have e1 : sizeH h l = -h - 1 := by unfold sizeH; rw [if_neg c1, if_neg c2]
      have e2 : sizeL h l = 1000000000000000000 - l := by unfold sizeL; rw [if_neg c1, if_neg c2]
      have t2 : (l == 0) = false := by simpa using c2
      rw [e1, e2]
      clear e1 e2
      go_enter Try.func34, Try.ntmps34
      go_wp2
      go_quiet (fail)
      go_wp2
      go_ret2
      exact ⟨rfl, _, rfl⟩

set_option maxHeartbeats 4000000 in
theorem rmean_tail (h l c H L R E : Int) (w : World) (c0 : 1 ≤ c) (c1 : c ≤ 2147483648) (h0 : 0 ≤ H) (h1 : H ≤ 2147483648) (l0 : 0 ≤ L) (l1 : L < 1000000000000000000)
    (HC : Hid (∀ W : World, Calls Try.prog 28 #[.agg #[.int .i64 h, .int .i64 l]] W fun e w' => e = .returned (.bool true) ∧ w' = W.alloc (.cells #[.int .i64 h, .int .i64 l] 23)))
    (HZ : Hid (∀ W : World, Calls Try.prog 34 #[.agg #[.int .i64 h, .int .i64 l]] W fun e w' => e = .returned (.tuple #[.int .i64 H, .int .i64 L]) ∧ ∃ m, w' = (W.alloc (.cells #[.int .i64 h, .int .i64 l] 23)).drewN m))
    (HR : Hid ((H / c > 1 → R = 0 ∧ E = 3) ∧ (1000000000000000000 < halfEven (H * 1000000000000000000 + L) c → R = 0 ∧ E = 3) ∧ (H / c ≤ 1 → halfEven (H * 1000000000000000000 + L) c ≤ 1000000000000000000 → R = (if h < 0 then -halfEven (H * 1000000000000000000 + L) c else halfEven (H * 1000000000000000000 + L) c) ∧ E = 0))) :
    Calls Try.prog 21 #[.agg #[.int .i64 h, .int .i64 l], .int .i64 c] w fun e w' => e = .returned (.tuple #[.int .i64 R, .int .i64 E]) ∧ Below w.heap.size w w' := by
  have hc0 : (c == 0) = false := by simp; omega
  have q0 : 0 ≤ H / c := Int.ediv_nonneg h0 (by omega)
  have q1 : H / c ≤ H := Int.ediv_le_self _ h0
  have r0 : 0 ≤ H % c := Int.emod_nonneg _ (by omega)
  have r1 : H % c < c := Int.emod_lt_of_pos _ (by omega)
  go_enter Try.func21, Try.ntmps21
  go_wp2_with (first | (go_at_call 28; refine (HC.out _).mono ?_; rintro e w1 ⟨rfl, rfl⟩) | (go_at_call 34; refine (HZ.out _).mono ?_; rintro e w1 ⟨rfl, m, rfl⟩))
  go_quiet (fail)
  by_cases k : 1 < H / c
  · obtain ⟨e1, e2⟩ := HR.out.1 k
    subst e1; subst e2
    clear HR
    go_wp2
    go_ret2
    refine ⟨rfl, ?_⟩
    repeat' (first | with_reducible exact Below.refl _ _ | with_reducible refine Below.setCell ?_ ?_ _ | with_reducible refine Below.alloc ?_ ?_ _ | with_reducible refine below_drewN ?_ _ | with_reducible refine Below.drew ?_ | with_reducible refine Below.trans ?_ (Below.mono (by assumption) ?_) | with_reducible exact Nat.le_refl _ | with_reducible refine Nat.le_trans ?_ (Below.size (by assumption)) | (simp; done) | (simp; omega) | omega)
  · have HR2 := hide HR.out.2
    clear HR
    go_wp2
    go_loop [8, 9, 10] (fun n f t => ∃ k : Nat, k ≤ 18 ∧ n = .int .i64 (read H L k / c) ∧ f = .int .i64 (read H L k % c) ∧ t = .int .i64 (if k = 18 then 0 else ten (17 - k))) (fun _ _ t => (intOf t).toNat)
    case atStart => exact ⟨0, by omega, by rw [read_0 l0 l1], by rw [read_0 l0 l1], by rw [if_neg (by omega), ten_17]⟩
    case round =>
      obtain ⟨k, hk, rfl, rfl, rfl⟩ := hrel
      have p0 := read_nn h0 l0 k
      have s0 : 0 ≤ read H L k / c := Int.ediv_nonneg p0 (by omega)
      have s1 : 0 ≤ read H L k % c := Int.emod_nonneg _ (by omega)
      have s2 : read H L k % c < c := Int.emod_lt_of_pos _ (by omega)
      by_cases hlt : k < 18
      · rw [if_neg (show ¬ k = 18 by omega)]
        have hT := ten_pos (17 - k)
        have hT0 : (ten (17 - k) == 0) = false := by simp; omega
        have a0 : 0 ≤ L / ten (17 - k) := Int.ediv_nonneg l0 (by omega)
        have a1 : L / ten (17 - k) ≤ L := Int.ediv_le_self _ l0
        obtain ⟨e1, e2⟩ := digit_step (P := read H L k) (d := L / ten (17 - k) % 10) (show 0 < c by omega)
        rw [← read_step H L k hlt] at e1 e2
        have u1 : read H L (k + 1) / c < 2 * ten (k + 1) := read_lt (by omega) (by omega) l1 (k + 1) (by omega)
        have u2 : ten (k + 1) ≤ ten 18 := ten_mono (by omega)
        rw [ten_18] at u2
        have u3 : 0 ≤ (10 * (read H L k % c) + L / ten (17 - k) % 10) / c := Int.ediv_nonneg (by omega) (by omega)
        have u4 : 10 * (read H L k / c) + (10 * (read H L k % c) + L / ten (17 - k) % 10) / c < 2000000000000000000 := by rw [← e1]; omega
        have u5 : 0 ≤ (10 * (read H L k % c) + L / ten (17 - k) % 10) % c := Int.emod_nonneg _ (by omega)
        have u6 : ten (17 - k) ≤ ten 17 := ten_mono (by omega)
        rw [ten_17] at u6
        have eT : Hid (ten (17 - k) / 10 = if k + 1 = 18 then 0 else ten (17 - (k + 1))) := by
          show ten (17 - k) / 10 = if k + 1 = 18 then 0 else ten (17 - (k + 1))
          by_cases z : k + 1 = 18
          · rw [if_pos z, show k = 17 by omega]; decide
          · rw [if_neg z, show 17 - k = (17 - (k + 1)) + 1 by omega, ten_succ]; omega
        have hm : Hid ((ten (17 - k) / 10).toNat < (ten (17 - k)).toNat) := by
          show (ten (17 - k) / 10).toNat < (ten (17 - k)).toNat
          omega
        have E1 := hide e1
        have E2 := hide e2
        clear e1 e2 u1 u2 HR2 p0
        generalize read H L k / c = q at *
        generalize read H L k % c = r at *
        generalize ten (17 - k) = T at *
        go_wp2
        go_round
        case rel => exact ⟨k + 1, by omega, by rw [E1.out], by rw [E2.out], by rw [← eT.out]⟩
        case measure => simp only [intOf]; exact hm.out
      · obtain rfl : k = 18 := by omega
        rw [if_pos rfl]
        have u1 : read H L 18 / c < 2 * ten 18 := read_lt (by omega) (by omega) l1 18 (by omega)
        rw [ten_18] at u1
        rw [read_18] at s0 s1 s2 u1 ⊢
        obtain ⟨x, hx⟩ : ∃ x, x = halfEven (H * 1000000000000000000 + L) c := ⟨_, rfl⟩
        rw [← hx] at HR2
        have hx2 : x = if c < 2 * ((H * 1000000000000000000 + L) % c) ∨ (2 * ((H * 1000000000000000000 + L) % c) = c ∧ (H * 1000000000000000000 + L) / c % 2 = 1) then (H * 1000000000000000000 + L) / c + 1 else (H * 1000000000000000000 + L) / c := hx
        have k3 : H / c ≤ 1 := by omega
        clear hx p0 q0 q1 r0 r1 k HC HZ
        generalize (H * 1000000000000000000 + L) / c = q at *
        generalize (H * 1000000000000000000 + L) % c = r at *
        by_cases k2 : 1000000000000000000 < x
        · obtain ⟨e1, e2⟩ := HR2.out.1 k2
          subst e1; subst e2
          clear HR2 k3
          by_cases d1 : c < 2 * r
          · rw [if_pos (Or.inl d1)] at hx2
            have hx3 := hx2.symm
            clear hx2
            go_wp2
            go_ret2
            refine ⟨rfl, ?_⟩
            repeat' (first | with_reducible exact Below.refl _ _ | with_reducible refine Below.setCell ?_ ?_ _ | with_reducible refine Below.alloc ?_ ?_ _ | with_reducible refine below_drewN ?_ _ | with_reducible refine Below.drew ?_ | with_reducible refine Below.trans ?_ (Below.mono (by assumption) ?_) | with_reducible exact Nat.le_refl _ | with_reducible refine Nat.le_trans ?_ (Below.size (by assumption)) | (simp; done) | (simp; omega) | omega)
          · by_cases d2 : 2 * r = c
            · by_cases d3 : q % 2 = 1
              · rw [if_pos (Or.inr ⟨d2, d3⟩)] at hx2
                have hx3 := hx2.symm
                have t2 : (r == c - r) = true := beq_iff_eq.2 (by omega)
                have t3 : (q % 2 == 1) = true := beq_iff_eq.2 d3
                clear hx2 d3
                go_wp2
                go_ret2
                refine ⟨rfl, ?_⟩
                repeat' (first | with_reducible exact Below.refl _ _ | with_reducible refine Below.setCell ?_ ?_ _ | with_reducible refine Below.alloc ?_ ?_ _ | with_reducible refine below_drewN ?_ _ | with_reducible refine Below.drew ?_ | with_reducible refine Below.trans ?_ (Below.mono (by assumption) ?_) | with_reducible exact Nat.le_refl _ | with_reducible refine Nat.le_trans ?_ (Below.size (by assumption)) | (simp; done) | (simp; omega) | omega)
              · rw [if_neg (by omega)] at hx2
                subst hx2
                have t2 : (r == c - r) = true := beq_iff_eq.2 (by omega)
                have t3 : (x % 2 == 1) = false := beq_eq_false_iff_ne.2 d3
                clear d3
                go_wp2
                go_ret2
                refine ⟨rfl, ?_⟩
                repeat' (first | with_reducible exact Below.refl _ _ | with_reducible refine Below.setCell ?_ ?_ _ | with_reducible refine Below.alloc ?_ ?_ _ | with_reducible refine below_drewN ?_ _ | with_reducible refine Below.drew ?_ | with_reducible refine Below.trans ?_ (Below.mono (by assumption) ?_) | with_reducible exact Nat.le_refl _ | with_reducible refine Nat.le_trans ?_ (Below.size (by assumption)) | (simp; done) | (simp; omega) | omega)
            · rw [if_neg (by omega)] at hx2
              subst hx2
              have t2 : (r == c - r) = false := beq_eq_false_iff_ne.2 (by omega)
              clear d2
              go_wp2
              go_ret2
              refine ⟨rfl, ?_⟩
              repeat' (first | with_reducible exact Below.refl _ _ | with_reducible refine Below.setCell ?_ ?_ _ | with_reducible refine Below.alloc ?_ ?_ _ | with_reducible refine below_drewN ?_ _ | with_reducible refine Below.drew ?_ | with_reducible refine Below.trans ?_ (Below.mono (by assumption) ?_) | with_reducible exact Nat.le_refl _ | with_reducible refine Nat.le_trans ?_ (Below.size (by assumption)) | (simp; done) | (simp; omega) | omega)
        · have k4 : x ≤ 1000000000000000000 := by omega
          obtain ⟨e1, e2⟩ := HR2.out.2 k3 k4
          subst e2
          clear HR2 k3 k2
          by_cases k5 : h < 0
          · rw [if_pos k5] at e1
            subst e1
            by_cases d1 : c < 2 * r
            · rw [if_pos (Or.inl d1)] at hx2
              have hx3 := hx2.symm
              clear hx2
              go_wp2
              go_ret2
              refine ⟨rfl, ?_⟩
              repeat' (first | with_reducible exact Below.refl _ _ | with_reducible refine Below.setCell ?_ ?_ _ | with_reducible refine Below.alloc ?_ ?_ _ | with_reducible refine below_drewN ?_ _ | with_reducible refine Below.drew ?_ | with_reducible refine Below.trans ?_ (Below.mono (by assumption) ?_) | with_reducible exact Nat.le_refl _ | with_reducible refine Nat.le_trans ?_ (Below.size (by assumption)) | (simp; done) | (simp; omega) | omega)
            · by_cases d2 : 2 * r = c
              · by_cases d3 : q % 2 = 1
                · rw [if_pos (Or.inr ⟨d2, d3⟩)] at hx2
                  have hx3 := hx2.symm
                  have t2 : (r == c - r) = true := beq_iff_eq.2 (by omega)
                  have t3 : (q % 2 == 1) = true := beq_iff_eq.2 d3
                  clear hx2 d3
                  go_wp2
                  go_ret2
                  refine ⟨rfl, ?_⟩
                  repeat' (first | with_reducible exact Below.refl _ _ | with_reducible refine Below.setCell ?_ ?_ _ | with_reducible refine Below.alloc ?_ ?_ _ | with_reducible refine below_drewN ?_ _ | with_reducible refine Below.drew ?_ | with_reducible refine Below.trans ?_ (Below.mono (by assumption) ?_) | with_reducible exact Nat.le_refl _ | with_reducible refine Nat.le_trans ?_ (Below.size (by assumption)) | (simp; done) | (simp; omega) | omega)
                · rw [if_neg (by omega)] at hx2
                  subst hx2
                  have t2 : (r == c - r) = true := beq_iff_eq.2 (by omega)
                  have t3 : (x % 2 == 1) = false := beq_eq_false_iff_ne.2 d3
                  clear d3
                  go_wp2
                  go_ret2
                  refine ⟨rfl, ?_⟩
                  repeat' (first | with_reducible exact Below.refl _ _ | with_reducible refine Below.setCell ?_ ?_ _ | with_reducible refine Below.alloc ?_ ?_ _ | with_reducible refine below_drewN ?_ _ | with_reducible refine Below.drew ?_ | with_reducible refine Below.trans ?_ (Below.mono (by assumption) ?_) | with_reducible exact Nat.le_refl _ | with_reducible refine Nat.le_trans ?_ (Below.size (by assumption)) | (simp; done) | (simp; omega) | omega)
              · rw [if_neg (by omega)] at hx2
                subst hx2
                have t2 : (r == c - r) = false := beq_eq_false_iff_ne.2 (by omega)
                clear d2
                go_wp2
                go_ret2
                refine ⟨rfl, ?_⟩
                repeat' (first | with_reducible exact Below.refl _ _ | with_reducible refine Below.setCell ?_ ?_ _ | with_reducible refine Below.alloc ?_ ?_ _ | with_reducible refine below_drewN ?_ _ | with_reducible refine Below.drew ?_ | with_reducible refine Below.trans ?_ (Below.mono (by assumption) ?_) | with_reducible exact Nat.le_refl _ | with_reducible refine Nat.le_trans ?_ (Below.size (by assumption)) | (simp; done) | (simp; omega) | omega)
          · rw [if_neg k5] at e1
            subst e1
            by_cases d1 : c < 2 * r
            · rw [if_pos (Or.inl d1)] at hx2
              have hx3 := hx2.symm
              clear hx2
              go_wp2
              go_ret2
              refine ⟨rfl, ?_⟩
              repeat' (first | with_reducible exact Below.refl _ _ | with_reducible refine Below.setCell ?_ ?_ _ | with_reducible refine Below.alloc ?_ ?_ _ | with_reducible refine below_drewN ?_ _ | with_reducible refine Below.drew ?_ | with_reducible refine Below.trans ?_ (Below.mono (by assumption) ?_) | with_reducible exact Nat.le_refl _ | with_reducible refine Nat.le_trans ?_ (Below.size (by assumption)) | (simp; done) | (simp; omega) | omega)
            · by_cases d2 : 2 * r = c
              · by_cases d3 : q % 2 = 1
                · rw [if_pos (Or.inr ⟨d2, d3⟩)] at hx2
                  have hx3 := hx2.symm
                  have t2 : (r == c - r) = true := beq_iff_eq.2 (by omega)
                  have t3 : (q % 2 == 1) = true := beq_iff_eq.2 d3
                  clear hx2 d3
                  go_wp2
                  go_ret2
                  refine ⟨rfl, ?_⟩
                  repeat' (first | with_reducible exact Below.refl _ _ | with_reducible refine Below.setCell ?_ ?_ _ | with_reducible refine Below.alloc ?_ ?_ _ | with_reducible refine below_drewN ?_ _ | with_reducible refine Below.drew ?_ | with_reducible refine Below.trans ?_ (Below.mono (by assumption) ?_) | with_reducible exact Nat.le_refl _ | with_reducible refine Nat.le_trans ?_ (Below.size (by assumption)) | (simp; done) | (simp; omega) | omega)
                · rw [if_neg (by omega)] at hx2
                  subst hx2
                  have t2 : (r == c - r) = true := beq_iff_eq.2 (by omega)
                  have t3 : (R % 2 == 1) = false := beq_eq_false_iff_ne.2 d3
                  clear d3
                  go_wp2
                  go_ret2
                  refine ⟨rfl, ?_⟩
                  repeat' (first | with_reducible exact Below.refl _ _ | with_reducible refine Below.setCell ?_ ?_ _ | with_reducible refine Below.alloc ?_ ?_ _ | with_reducible refine below_drewN ?_ _ | with_reducible refine Below.drew ?_ | with_reducible refine Below.trans ?_ (Below.mono (by assumption) ?_) | with_reducible exact Nat.le_refl _ | with_reducible refine Nat.le_trans ?_ (Below.size (by assumption)) | (simp; done) | (simp; omega) | omega)
              · rw [if_neg (by omega)] at hx2
                subst hx2
                have t2 : (r == c - r) = false := beq_eq_false_iff_ne.2 (by omega)
                clear d2
                go_wp2
                go_ret2
                refine ⟨rfl, ?_⟩
                repeat' (first | with_reducible exact Below.refl _ _ | with_reducible refine Below.setCell ?_ ?_ _ | with_reducible refine Below.alloc ?_ ?_ _ | with_reducible refine below_drewN ?_ _ | with_reducible refine Below.drew ?_ | with_reducible refine Below.trans ?_ (Below.mono (by assumption) ?_) | with_reducible exact Nat.le_refl _ | with_reducible refine Nat.le_trans ?_ (Below.size (by assumption)) | (simp; done) | (simp; omega) | omega)
end Go.Proofs.Ytcabpcneiddgcaa
