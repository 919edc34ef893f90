/-
  The contracts of maths.toPlaces and toStep, and of what they make.
-/
import Derived.Test.YtfopebfejmlhbabMa2
import Derived.Deep.QuietTactic
import Derived.BigQuiet
namespace Go.Proofs.Ytfopebfejmlhbab
open Go.RowKit

/-- What is said of a way of rounding. -/
structure Way (f : Nat) (F : Int → Int → Int) : Prop where
  r : Enters f
  c : ∀ (n s : Int) (W : World), -1000000000000000000 ≤ n → n ≤ 1000000000000000000 → 0 < s → s ≤ 1000000000000000000 → Calls Try.prog f #[.int .i64 n, .int .i64 s] W fun e w' => e = .returned (.int .i64 (F n s)) ∧ w' = W

theorem way_in : Way 47 inR := ⟨fun _ _ => by kernel_rfl, fun n s W h1 h2 h3 _ => inwards_any n s W h1 h2 h3⟩
theorem way_out : Way 25 outR := ⟨fun _ _ => by kernel_rfl, fun n s W h1 h2 h3 h4 => outwards_any n s W h1 h2 h3 h4⟩
theorem way_up : Way 29 upwR := ⟨fun _ _ => by kernel_rfl, fun n s W h1 h2 h3 h4 => upwards_any n s W h1 h2 h3 h4⟩
theorem way_down : Way 28 dwnR := ⟨fun _ _ => by kernel_rfl, fun n s W h1 h2 h3 h4 => downwards_any n s W h1 h2 h3 h4⟩

theorem pow_le {k : Nat} (h : k ≤ 18) : 0 < (10 : Int) ^ k ∧ (10 : Int) ^ k ≤ 1000000000000000000 := by
  have key : k = 0 ∨ k = 1 ∨ k = 2 ∨ k = 3 ∨ k = 4 ∨ k = 5 ∨ k = 6 ∨ k = 7 ∨ k = 8 ∨ k = 9 ∨ k = 10 ∨ k = 11 ∨ k = 12 ∨ k = 13 ∨ k = 14 ∨ k = 15 ∨ k = 16 ∨ k = 17 ∨ k = 18 := by omega
  rcases key with rfl | rfl | rfl | rfl | rfl | rfl | rfl | rfl | rfl | rfl | rfl | rfl | rfl | rfl | rfl | rfl | rfl | rfl | rfl <;> decide

set_option maxHeartbeats 1000000 in
theorem places_any (n p : Int) (f : Nat) (F : Int → Int → Int) (a b : Nat) (w : World) (h1 : -1000000000000000000 ≤ n) (h2 : n ≤ 1000000000000000000) (p1 : -9223372036854775808 ≤ p) (p2 : p ≤ 9223372036854775807) (G : Way f F) (ha : a < w.heap.size) (hb : b < w.heap.size) (ca : w.cell? ⟨a, 0, none⟩ = some (.int .i64 p)) (cb : w.cell? ⟨b, 0, none⟩ = some (.func (.func f) #[] #[])) :
    Calls Try.prog 46 #[.agg #[.int .i64 n], .pointer (some ⟨a, 0, none⟩), .pointer (some ⟨b, 0, none⟩)] w fun e w' => e = .returned (.tuple #[.int .i64 (placesR F n p).1, .int .i64 (placesR F n p).2]) ∧ Below w.heap.size w w' := by
  by_cases hp : p < -12 ∨ 6 < p
  · rw [show placesR F n p = (0, 2) from if_pos hp]
    by_cases hq : p < -12
    · clear hp
      go_enter Try.func46, Try.ntmps46
      go_wp2
      go_ret2
      refine ⟨rfl, ?_⟩
      repeat' (first | with_reducible exact Below.refl _ _ | with_reducible refine Below.setCell ?_ ?_ _ | with_reducible refine Below.alloc ?_ ?_ _ | with_reducible refine below_drewN ?_ _ | with_reducible refine Below.drew ?_ | with_reducible refine Below.trans ?_ (Below.mono (by assumption) ?_) | with_reducible exact Nat.le_refl _ | with_reducible refine Nat.le_trans ?_ (Below.size (by assumption)) | with_reducible refine Nat.le_trans ?_ (size_alloc _ _) | with_reducible refine Nat.le_trans ?_ (size_set _ _ _) | with_reducible refine Nat.le_trans ?_ (size_drewN _ _) | with_reducible refine Nat.le_trans ?_ (size_drew _) | (simp; done) | (simp; omega) | omega)
    · have hr : 6 < p := by omega
      clear hp
      go_enter Try.func46, Try.ntmps46
      go_wp2
      go_ret2
      refine ⟨rfl, ?_⟩
      repeat' (first | with_reducible exact Below.refl _ _ | with_reducible refine Below.setCell ?_ ?_ _ | with_reducible refine Below.alloc ?_ ?_ _ | with_reducible refine below_drewN ?_ _ | with_reducible refine Below.drew ?_ | with_reducible refine Below.trans ?_ (Below.mono (by assumption) ?_) | with_reducible exact Nat.le_refl _ | with_reducible refine Nat.le_trans ?_ (Below.size (by assumption)) | with_reducible refine Nat.le_trans ?_ (size_alloc _ _) | with_reducible refine Nat.le_trans ?_ (size_set _ _ _) | with_reducible refine Nat.le_trans ?_ (size_drewN _ _) | with_reducible refine Nat.le_trans ?_ (size_drew _) | (simp; done) | (simp; omega) | omega)
  · rw [show placesR F n p = (F n (unitR p), 0) from if_neg hp]
    have q1 : ¬ p < -12 := by omega
    have q2 : ¬ 6 < p := by omega
    clear hp
    obtain ⟨z, hz⟩ : ∃ z : Nat, z = (6 - p).toNat := ⟨_, rfl⟩
    have hzp : p = 6 - (z : Int) := by omega
    have hz18 : z ≤ 18 := by omega
    have hu : unitR p = p10 z := by unfold unitR; rw [← hz]; rfl
    rw [hu]
    clear hu hz p1 p2
    subst hzp
    have hsub : IntKind.i64.wrap (6 - (6 - (z : Int))) = (z : Int) := by rw [show 6 - (6 - (z : Int)) = z by omega]; exact wrapI (by omega) (by omega)
    have hsub2 : (6 : Int) - (6 - (z : Int)) = (z : Int) := by omega
    have HS := hide hsub2
    have HR := hide G.r
    have HC : Hid (∀ W : World, Calls Try.prog f #[.int .i64 n, .int .i64 (p10 z)] W fun e w' => e = .returned (.int .i64 (F n (p10 z))) ∧ w' = W) := fun W => G.c n (p10 z) W h1 h2 (pow_le hz18).1 (pow_le hz18).2
    have hcn : (w.alloc (.cells #[.int .i64 n] 33)).cell? ⟨w.heap.size, 0, none⟩ = some (.int .i64 n) := by simp [go_sem]
    have hcb : (w.alloc (.cells #[.int .i64 n] 33)).cell? ⟨b, 0, none⟩ = some (.func (.func f) #[] #[]) := by rw [World.cell?_alloc_old _ _ _ (Nat.ne_of_lt hb)]; exact cb
    have hca : (w.alloc (.cells #[.int .i64 n] 33)).cell? ⟨a, 0, none⟩ = some (.int .i64 (6 - (z : Int))) := by rw [World.cell?_alloc_old _ _ _ (Nat.ne_of_lt ha)]; exact ca
    have hl0 : w.heap.size < (w.alloc (.cells #[.int .i64 n] 33)).heap.size := by simp
    have hla : a < (w.alloc (.cells #[.int .i64 n] 33)).heap.size := by simp; omega
    have hlb : b < (w.alloc (.cells #[.int .i64 n] 33)).heap.size := by simp; omega
    have HB := hide ((Below.refl w.heap.size w).alloc (Nat.le_refl _) (.cells #[.int .i64 n] 33))
    clear G hsub2
    go_enter Try.func46, Try.ntmps46
    go_wp2
    generalize w.alloc (.cells #[.int .i64 n] 33) = W0 at *
    go_loop [6, 15] (fun s i => ∃ k : Nat, k ≤ z ∧ i = .int .i64 k ∧ s = .int .i64 (p10 k)) (fun _ i => z - (intOf i).toNat)
    case atStart => exact ⟨0, Nat.zero_le _, rfl, by rw [p10_zero]⟩
    case round =>
      obtain ⟨k, hk, rfl, rfl⟩ := hrel
      have e1 := pow_le (k := k) (by omega)
      by_cases hlt : k < z
      · have HT := hide (p10_succ k)
        have e2 := pow_le (k := k + 1) (by omega)
        have e3 : p10 k * 10 ≤ 1000000000000000000 := by rw [← p10_succ]; exact e2.2
        have e4 : 0 < p10 k := e1.1
        have e5 : IntKind.i64.wrap (p10 k * 10) = p10 k * 10 := wrapI (by omega) (by omega)
        clear e1 e2
        go_wp2
        go_round
        case rel => exact ⟨k + 1, by omega, by go_num, by rw [HT.out]⟩
        case measure => simp [intOf]; omega
      · have : k = z := by omega
        subst this
        go_wp2_with (first | (rw [HR.out, Oper.upon_enter]; refine (HC.out _).mono ?_; rintro e w1 ⟨rfl, rfl⟩))
        go_ret2
        exact ⟨rfl, HB.out⟩
end Go.Proofs.Ytfopebfejmlhbab
