/-
  The contracts of the answer's Add, Sub, Join.
-/
import Derived.Test.YtcabpcneiddgcaaRefWide1
import Derived.Deep.RegionHeld3
namespace Go.Proofs.Ytcabpcneiddgcaa
open Go.RowKit

set_option maxHeartbeats 1000000 in
theorem rjoinW_any (h l g k : Int) (w : World) :
    Calls Try.prog 14 #[.agg #[.int .i64 h, .int .i64 l], .agg #[.int .i64 g, .int .i64 k]] w fun e w' => e = .returned (.tuple #[.agg #[.int .i64 (joinW h l g k).1, .int .i64 (joinW h l g k).2.1], .int .i64 (joinW h l g k).2.2]) ∧ Below w.heap.size w w' := by
  have HC : Hid (∀ W : World, Calls Try.prog 28 #[.agg #[.int .i64 h, .int .i64 l]] W fun e w' => e = .returned (.bool (rightB h l)) ∧ w' = W.alloc (.cells #[.int .i64 h, .int .i64 l] 23)) := fun W => right_any _ _ W
  have HD : Hid (∀ W : World, Calls Try.prog 28 #[.agg #[.int .i64 g, .int .i64 k]] W fun e w' => e = .returned (.bool (rightB g k)) ∧ w' = W.alloc (.cells #[.int .i64 g, .int .i64 k] 23)) := fun W => right_any _ _ W
  cases r : rightB h l
  · rw [joinW_no r]
    rw [r] at HC
    clear r
    go_enter Try.func14, Try.ntmps14
    go_wp2_with (first | (go_at_call_of 28 [Value.agg #[Value.int IntKind.i64 h, Value.int IntKind.i64 l]]; refine (HC.out _).mono ?_; rintro e w1 ⟨rfl, rfl⟩) | (go_at_call_of 28 [Value.agg #[Value.int IntKind.i64 g, Value.int IntKind.i64 k]]; refine (HD.out _).mono ?_; rintro e w1 ⟨rfl, rfl⟩))
    refine bodyPost_ret (v := .tuple #[.agg #[.int .i64 0, .int .i64 0], .int .i64 2]) (by simp [results, Try.results14, go_sem]) rfl ⟨rfl, ?_⟩
    repeat' (first | with_reducible exact Below.refl _ _ | with_reducible refine Below.setCell ?_ ?_ _ | with_reducible refine Below.alloc ?_ ?_ _ | with_reducible refine below_drewN ?_ _ | with_reducible refine Below.drew ?_ | with_reducible refine Below.trans ?_ (Below.mono (by assumption) ?_) | with_reducible exact Nat.le_refl _ | with_reducible refine Nat.le_trans ?_ (Below.size (by assumption)) | (simp; done) | (simp; omega) | omega)
  · cases f : rightB g k
    · rw [joinW_no2 f]
      rw [r] at HC
      rw [f] at HD
      clear r f
      go_enter Try.func14, Try.ntmps14
      go_wp2_with (first | (go_at_call_of 28 [Value.agg #[Value.int IntKind.i64 h, Value.int IntKind.i64 l]]; refine (HC.out _).mono ?_; rintro e w1 ⟨rfl, rfl⟩) | (go_at_call_of 28 [Value.agg #[Value.int IntKind.i64 g, Value.int IntKind.i64 k]]; refine (HD.out _).mono ?_; rintro e w1 ⟨rfl, rfl⟩))
      refine bodyPost_ret (v := .tuple #[.agg #[.int .i64 0, .int .i64 0], .int .i64 2]) (by simp [results, Try.results14, go_sem]) rfl ⟨rfl, ?_⟩
      repeat' (first | with_reducible exact Below.refl _ _ | with_reducible refine Below.setCell ?_ ?_ _ | with_reducible refine Below.alloc ?_ ?_ _ | with_reducible refine below_drewN ?_ _ | with_reducible refine Below.drew ?_ | with_reducible refine Below.trans ?_ (Below.mono (by assumption) ?_) | with_reducible exact Nat.le_refl _ | with_reducible refine Nat.le_trans ?_ (Below.size (by assumption)) | (simp; done) | (simp; omega) | omega)
    · rw [joinW_yes r f]
      obtain ⟨r1, r2, r3, r4⟩ := rightB_true r
      obtain ⟨f1, f2, f3, f4⟩ := rightB_true f
      rw [r] at HC
      rw [f] at HD
      have HJ : Hid (∀ W : World, Calls Try.prog 30 #[.int .i64 (h + g), .int .i64 (l + k)] W fun e w' => e = .returned (.tuple #[.agg #[.int .i64 (madeR (h + g) (l + k)).1, .int .i64 (madeR (h + g) (l + k)).2.1], .int .i64 (madeR (h + g) (l + k)).2.2]) ∧ Below W.heap.size W w') := fun W => made_any (h + g) (l + k) W (by omega) (by omega) (by omega) (by omega)
      generalize (madeR (h + g) (l + k)).1 = x at *
      generalize (madeR (h + g) (l + k)).2.1 = y at *
      generalize (madeR (h + g) (l + k)).2.2 = z at *
      clear r f
      go_enter Try.func14, Try.ntmps14
      go_wp2_with (first | (go_at_call_of 28 [Value.agg #[Value.int IntKind.i64 h, Value.int IntKind.i64 l]]; refine (HC.out _).mono ?_; rintro e w1 ⟨rfl, rfl⟩) | (go_at_call_of 28 [Value.agg #[Value.int IntKind.i64 g, Value.int IntKind.i64 k]]; refine (HD.out _).mono ?_; rintro e w1 ⟨rfl, rfl⟩) | (go_at_call 30; refine (HJ.out _).mono ?_; rintro e w2 ⟨rfl, hb2⟩; have k1 := hb2.cell (p := ⟨w.heap.size + 2, 0, none⟩) (by simp); have k2 := hb2.cell (p := ⟨w.heap.size + 2, 1, none⟩) (by simp); have k3 := hb2.frozen (p := ⟨w.heap.size + 2, 0, none⟩) (by simp); have k4 := hb2.frozen (p := ⟨w.heap.size + 2, 1, none⟩) (by simp); simp [go_sem] at k1 k2 k3 k4))
      refine bodyPost_ret (v := .tuple #[.agg #[.int .i64 x, .int .i64 y], .int .i64 z]) (by simp [results, Try.results14, go_sem, k1, k2]) rfl ⟨rfl, ?_⟩
      repeat' (first | with_reducible exact Below.refl _ _ | with_reducible refine Below.setCell ?_ ?_ _ | with_reducible refine Below.alloc ?_ ?_ _ | with_reducible refine below_drewN ?_ _ | with_reducible refine Below.drew ?_ | with_reducible refine Below.trans ?_ (Below.mono (by assumption) ?_) | with_reducible exact Nat.le_refl _ | with_reducible refine Nat.le_trans ?_ (Below.size (by assumption)) | (simp; done) | (simp; omega) | omega)
end Go.Proofs.Ytcabpcneiddgcaa
