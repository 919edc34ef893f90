/-
  The contracts of the answer's Add, Sub, Join.
-/
import Derived.Test.YtcabpcneiddgcaaRefWide1
namespace Go.Proofs.Ytcabpcneiddgcaa
open Go.RowKit

set_option maxHeartbeats 1000000 in
theorem raddW_any (h l n : Int) (w : World) :
    Calls Try.prog 10 #[.agg #[.int .i64 h, .int .i64 l], .int .i64 n] w fun e w' => e = .returned (.tuple #[.agg #[.int .i64 (addW h l n).1, .int .i64 (addW h l n).2.1], .int .i64 (addW h l n).2.2]) ∧ Below w.heap.size w w' := by
  have HC : Hid (∀ W : World, Calls Try.prog 28 #[.agg #[.int .i64 h, .int .i64 l]] W fun e w' => e = .returned (.bool (rightB h l)) ∧ w' = W.alloc (.cells #[.int .i64 h, .int .i64 l] 23)) := fun W => right_any _ _ W
  have HF : Hid (∀ W : World, Calls Try.prog 29 #[.int .i64 n] W fun e w' => e = .returned (.bool (fitsB n)) ∧ w' = W) := fun W => rfits_any n W
  cases r : rightB h l
  · rw [addW_no r]
    rw [r] at HC
    clear r
    go_enter Try.func10, Try.ntmps10
    go_wp2_with (first | (go_at_call 28; refine (HC.out _).mono ?_; rintro e w1 ⟨rfl, rfl⟩) | (go_at_call 29; refine (HF.out _).mono ?_; rintro e w1 ⟨rfl, rfl⟩))
    refine bodyPost_ret (v := .tuple #[.agg #[.int .i64 0, .int .i64 0], .int .i64 2]) (by simp [results, Try.results10, go_sem]) rfl ⟨rfl, ?_⟩
    repeat' (first | with_reducible exact Below.refl _ _ | with_reducible refine Below.setCell ?_ ?_ _ | with_reducible refine Below.alloc ?_ ?_ _ | with_reducible refine below_drewN ?_ _ | with_reducible refine Below.drew ?_ | with_reducible refine Below.trans ?_ (Below.mono (by assumption) ?_) | with_reducible exact Nat.le_refl _ | with_reducible refine Nat.le_trans ?_ (Below.size (by assumption)) | (simp; done) | (simp; omega) | omega)
  · cases f : fitsB n
    · rw [addW_no2 f]
      rw [r] at HC
      rw [f] at HF
      clear r f
      go_enter Try.func10, Try.ntmps10
      go_wp2_with (first | (go_at_call 28; refine (HC.out _).mono ?_; rintro e w1 ⟨rfl, rfl⟩) | (go_at_call 29; refine (HF.out _).mono ?_; rintro e w1 ⟨rfl, rfl⟩))
      refine bodyPost_ret (v := .tuple #[.agg #[.int .i64 0, .int .i64 0], .int .i64 2]) (by simp [results, Try.results10, go_sem]) rfl ⟨rfl, ?_⟩
      repeat' (first | with_reducible exact Below.refl _ _ | with_reducible refine Below.setCell ?_ ?_ _ | with_reducible refine Below.alloc ?_ ?_ _ | with_reducible refine below_drewN ?_ _ | with_reducible refine Below.drew ?_ | with_reducible refine Below.trans ?_ (Below.mono (by assumption) ?_) | with_reducible exact Nat.le_refl _ | with_reducible refine Nat.le_trans ?_ (Below.size (by assumption)) | (simp; done) | (simp; omega) | omega)
    · rw [addW_yes r f]
      obtain ⟨r1, r2, r3, r4⟩ := rightB_true r
      obtain ⟨f1, f2⟩ := fitsB_true f
      rw [r] at HC
      rw [f] at HF
      have HJ : Hid (∀ W : World, Calls Try.prog 30 #[.int .i64 h, .int .i64 (l + n)] W fun e w' => e = .returned (.tuple #[.agg #[.int .i64 (madeR h (l + n)).1, .int .i64 (madeR h (l + n)).2.1], .int .i64 (madeR h (l + n)).2.2]) ∧ Below W.heap.size W w') := fun W => made_any h (l + n) W (by omega) (by omega) (by omega) (by omega)
      generalize (madeR h (l + n)).1 = x at *
      generalize (madeR h (l + n)).2.1 = y at *
      generalize (madeR h (l + n)).2.2 = z at *
      clear r f
      go_enter Try.func10, Try.ntmps10
      go_wp2_with (first | (go_at_call 28; refine (HC.out _).mono ?_; rintro e w1 ⟨rfl, rfl⟩) | (go_at_call 29; refine (HF.out _).mono ?_; rintro e w1 ⟨rfl, rfl⟩) | (go_at_call 30; refine (HJ.out _).mono ?_; rintro e w2 ⟨rfl, hb2⟩; have k1 := hb2.cell (p := ⟨w.heap.size + 1, 0, none⟩) (by simp); have k2 := hb2.cell (p := ⟨w.heap.size + 1, 1, none⟩) (by simp); have k3 := hb2.frozen (p := ⟨w.heap.size + 1, 0, none⟩) (by simp); have k4 := hb2.frozen (p := ⟨w.heap.size + 1, 1, none⟩) (by simp); simp [go_sem] at k1 k2 k3 k4))
      refine bodyPost_ret (v := .tuple #[.agg #[.int .i64 x, .int .i64 y], .int .i64 z]) (by simp [results, Try.results10, go_sem, k1, k2]) rfl ⟨rfl, ?_⟩
      repeat' (first | with_reducible exact Below.refl _ _ | with_reducible refine Below.setCell ?_ ?_ _ | with_reducible refine Below.alloc ?_ ?_ _ | with_reducible refine below_drewN ?_ _ | with_reducible refine Below.drew ?_ | with_reducible refine Below.trans ?_ (Below.mono (by assumption) ?_) | with_reducible exact Nat.le_refl _ | with_reducible refine Nat.le_trans ?_ (Below.size (by assumption)) | (simp; done) | (simp; omega) | omega)
end Go.Proofs.Ytcabpcneiddgcaa
