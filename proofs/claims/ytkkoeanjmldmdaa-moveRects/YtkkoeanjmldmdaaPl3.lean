/-
  The contracts of the answer's Place, Right, Check, Of, In, Meet, Area.
-/
import Derived.Test.YtkkoeanjmldmdaaPl2
namespace Go.Proofs.Ytkkoeanjmldmdaa
open Go.RowKit

set_option maxHeartbeats 1000000 in
theorem rplace_any (r c : Int) (w : World) :
    Calls Try.prog 29 #[.agg #[.int .i64 r, .int .i64 c]] w fun e w' => e = .returned (.bool (placeB r c)) ∧ w' = w.alloc (.cells #[.int .i64 r, .int .i64 c] 26) := by
  by_cases a1 : r ≥ 1
  · by_cases a2 : r ≤ 1048576
    · by_cases a3 : c ≥ 1
      · by_cases a4 : c ≤ 16384
        · rw [placeB_iff.2 (by omega)]
          go_enter Try.func29, Try.ntmps29
          go_wp2
          go_ret
          exact ⟨rfl, rfl⟩
        · rw [placeB_no.2 (by omega)]
          go_enter Try.func29, Try.ntmps29
          go_wp2
          go_ret
          exact ⟨rfl, rfl⟩
      · rw [placeB_no.2 (by omega)]
        go_enter Try.func29, Try.ntmps29
        go_wp2
        go_ret
        exact ⟨rfl, rfl⟩
    · rw [placeB_no.2 (by omega)]
      go_enter Try.func29, Try.ntmps29
      go_wp2
      go_ret
      exact ⟨rfl, rfl⟩
  · rw [placeB_no.2 (by omega)]
    go_enter Try.func29, Try.ntmps29
    go_wp2
    go_ret
    exact ⟨rfl, rfl⟩
set_option maxHeartbeats 1000000 in
theorem rright_any (t l b r : Int) (w : World) :
    Calls Try.prog 36 #[.agg #[.int .i64 t, .int .i64 l, .int .i64 b, .int .i64 r]] w fun e w' => e = .returned (.bool (rightB t l b r)) ∧ Below w.heap.size w w' := by
  unfold rightB
  cases h1 : placeB t l
  · go_enter Try.func36, Try.ntmps36
    go_wp2_with (go_at_call 29; refine (rplace_any _ _ _).mono ?_; rintro e w' ⟨rfl, rfl⟩)
    go_ret
    refine ⟨rfl, ?_⟩
    repeat' (first | with_reducible exact Below.refl _ _ | with_reducible refine Below.setCell ?_ ?_ _ | with_reducible refine Below.alloc ?_ ?_ _ | with_reducible refine below_drewN ?_ _ | with_reducible refine Below.drew ?_ | with_reducible refine Below.trans ?_ (Below.mono (by assumption) ?_) | with_reducible exact Nat.le_refl _ | with_reducible refine Nat.le_trans ?_ (Below.size (by assumption)) | with_reducible refine Nat.le_trans ?_ (size_alloc _ _) | with_reducible refine Nat.le_trans ?_ (size_set _ _ _) | with_reducible refine Nat.le_trans ?_ (size_drewN _ _) | with_reducible refine Nat.le_trans ?_ (size_drew _) | (simp; done) | (simp; omega) | omega)
  · cases h2 : placeB b r
    · go_enter Try.func36, Try.ntmps36
      go_wp2_with (go_at_call 29; refine (rplace_any _ _ _).mono ?_; rintro e w' ⟨rfl, rfl⟩)
      go_ret
      refine ⟨rfl, ?_⟩
      repeat' (first | with_reducible exact Below.refl _ _ | with_reducible refine Below.setCell ?_ ?_ _ | with_reducible refine Below.alloc ?_ ?_ _ | with_reducible refine below_drewN ?_ _ | with_reducible refine Below.drew ?_ | with_reducible refine Below.trans ?_ (Below.mono (by assumption) ?_) | with_reducible exact Nat.le_refl _ | with_reducible refine Nat.le_trans ?_ (Below.size (by assumption)) | with_reducible refine Nat.le_trans ?_ (size_alloc _ _) | with_reducible refine Nat.le_trans ?_ (size_set _ _ _) | with_reducible refine Nat.le_trans ?_ (size_drewN _ _) | with_reducible refine Nat.le_trans ?_ (size_drew _) | (simp; done) | (simp; omega) | omega)
    · by_cases h3 : t ≤ b
      · have e3 : decide (t ≤ b) = true := by simpa using h3
        rw [e3]
        clear e3
        go_enter Try.func36, Try.ntmps36
        go_wp2_with (go_at_call 29; refine (rplace_any _ _ _).mono ?_; rintro e w' ⟨rfl, rfl⟩)
        go_ret
        refine ⟨rfl, ?_⟩
        repeat' (first | with_reducible exact Below.refl _ _ | with_reducible refine Below.setCell ?_ ?_ _ | with_reducible refine Below.alloc ?_ ?_ _ | with_reducible refine below_drewN ?_ _ | with_reducible refine Below.drew ?_ | with_reducible refine Below.trans ?_ (Below.mono (by assumption) ?_) | with_reducible exact Nat.le_refl _ | with_reducible refine Nat.le_trans ?_ (Below.size (by assumption)) | with_reducible refine Nat.le_trans ?_ (size_alloc _ _) | with_reducible refine Nat.le_trans ?_ (size_set _ _ _) | with_reducible refine Nat.le_trans ?_ (size_drewN _ _) | with_reducible refine Nat.le_trans ?_ (size_drew _) | (simp; done) | (simp; omega) | omega)
      · have e3 : decide (t ≤ b) = false := by simpa using h3
        rw [e3]
        clear e3
        go_enter Try.func36, Try.ntmps36
        go_wp2_with (go_at_call 29; refine (rplace_any _ _ _).mono ?_; rintro e w' ⟨rfl, rfl⟩)
        go_ret
        refine ⟨rfl, ?_⟩
        repeat' (first | with_reducible exact Below.refl _ _ | with_reducible refine Below.setCell ?_ ?_ _ | with_reducible refine Below.alloc ?_ ?_ _ | with_reducible refine below_drewN ?_ _ | with_reducible refine Below.drew ?_ | with_reducible refine Below.trans ?_ (Below.mono (by assumption) ?_) | with_reducible exact Nat.le_refl _ | with_reducible refine Nat.le_trans ?_ (Below.size (by assumption)) | with_reducible refine Nat.le_trans ?_ (size_alloc _ _) | with_reducible refine Nat.le_trans ?_ (size_set _ _ _) | with_reducible refine Nat.le_trans ?_ (size_drewN _ _) | with_reducible refine Nat.le_trans ?_ (size_drew _) | (simp; done) | (simp; omega) | omega)
end Go.Proofs.Ytkkoeanjmldmdaa
