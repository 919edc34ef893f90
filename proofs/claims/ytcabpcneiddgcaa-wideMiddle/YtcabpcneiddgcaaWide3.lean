/-
  The contract of wide.Sub.
-/
import Derived.Test.YtcabpcneiddgcaaWide2
namespace Go.Proofs.Ytcabpcneiddgcaa
open Go.RowKit

set_option maxHeartbeats 4000000 in
theorem subW_any (h l n : Int) (w : World) :
    Calls Try.prog 11 #[.agg #[.int .i64 h, .int .i64 l], .int .i64 n] w fun e w' => e = .returned (.tuple #[.agg #[.int .i64 (subW h l n).1, .int .i64 (subW h l n).2.1], .int .i64 (subW h l n).2.2]) ∧ Below w.heap.size w w' := by
  have HC : Hid (∀ W : World, Calls Try.prog 15 #[.agg #[.int .i64 h, .int .i64 l]] W fun e w' => e = .returned (.int .i64 (checkR h l)) ∧ w' = W.alloc (.cells #[.int .i64 h, .int .i64 l] 23)) := fun W => check_any _ _ W
  have HF : Hid (∀ W : World, Calls Try.prog 25 #[.int .i64 n] W fun e w' => e = .returned (.bool (fitsB n)) ∧ w' = W) := fun W => fits_any n W
  cases r : rightB h l
  · rw [subW_no r]
    rw [checkR_no r] at HC
    go_enter Try.func11, Try.ntmps11
    go_wp2_with (first | (go_at_call 15; refine (HC.out _).mono ?_; rintro e w1 ⟨rfl, rfl⟩) | (go_at_call 25; refine (HF.out _).mono ?_; rintro e w1 ⟨rfl, rfl⟩))
    refine bodyPost_ret (v := .tuple #[.agg #[.int .i64 0, .int .i64 0], .int .i64 2]) (by simp [results, Try.results11, go_sem]) rfl ⟨rfl, ?_⟩
    repeat' (first | with_reducible exact Below.refl _ _ | with_reducible refine Below.setCell ?_ ?_ _ | with_reducible refine Below.alloc ?_ ?_ _ | with_reducible refine below_drewN ?_ _ | with_reducible refine Below.drew ?_ | with_reducible refine Below.trans ?_ (Below.mono (by assumption) ?_) | with_reducible exact Nat.le_refl _ | (simp; done) | (simp; omega) | omega)
  · rw [checkR_yes r] at HC
    cases f : fitsB n
    · rw [subW_no2 f]
      rw [f] at HF
      go_enter Try.func11, Try.ntmps11
      go_wp2_with (first | (go_at_call 15; refine (HC.out _).mono ?_; rintro e w1 ⟨rfl, rfl⟩) | (go_at_call 25; refine (HF.out _).mono ?_; rintro e w1 ⟨rfl, rfl⟩))
      refine bodyPost_ret (v := .tuple #[.agg #[.int .i64 0, .int .i64 0], .int .i64 2]) (by simp [results, Try.results11, go_sem]) rfl ⟨rfl, ?_⟩
      repeat' (first | with_reducible exact Below.refl _ _ | with_reducible refine Below.setCell ?_ ?_ _ | with_reducible refine Below.alloc ?_ ?_ _ | with_reducible refine below_drewN ?_ _ | with_reducible refine Below.drew ?_ | with_reducible refine Below.trans ?_ (Below.mono (by assumption) ?_) | with_reducible exact Nat.le_refl _ | (simp; done) | (simp; omega) | omega)
    · rw [subW_yes r f, Int.sub_eq_add_neg, ← madeR_shift]
      have f2 : fitsB (-n) = true := by rw [fits_flip]; exact f
      rw [f] at HF
      have hn := fitsB_true f
      have HW : Hid (∀ W : World, Calls Try.prog 27 #[.int .i64 (-n)] W fun e w' => e = .returned (.agg #[.int .i64 (-n / 1000000000000000000), .int .i64 (-n % 1000000000000000000)]) ∧ ∃ m, w' = (((W.alloc (.cells #[.int .i64 0, .int .i64 0] 23)).drewN m).setCell ⟨W.heap.size, 0, none⟩ (.int .i64 (-n / 1000000000000000000))).setCell ⟨W.heap.size, 1, none⟩ (.int .i64 (-n % 1000000000000000000))) := fun W => widened_any (-n) W (by omega) (by omega)
      have HJ : Hid (∀ W : World, Calls Try.prog 26 #[.agg #[.int .i64 h, .int .i64 l], .agg #[.int .i64 (-n / 1000000000000000000), .int .i64 (-n % 1000000000000000000)]] W fun e w' => e = .returned (.tuple #[.agg #[.int .i64 (madeR (h + -n / 1000000000000000000) (l + -n % 1000000000000000000)).1, .int .i64 (madeR (h + -n / 1000000000000000000) (l + -n % 1000000000000000000)).2.1], .int .i64 (madeR (h + -n / 1000000000000000000) (l + -n % 1000000000000000000)).2.2]) ∧ Below W.heap.size W w') := fun W => joined_any h l _ _ W r (widened_right f2)
      obtain ⟨v, hv⟩ : ∃ v : Int, v = -n := ⟨_, rfl⟩
      rw [← hv] at HW HJ ⊢
      have em : -n = v := hv.symm
      have ew : IntKind.i64.wrap v = v := Go.IntWalk.i64_in v (by omega)
      generalize (madeR (h + v / 1000000000000000000) (l + v % 1000000000000000000)).1 = x at *
      generalize (madeR (h + v / 1000000000000000000) (l + v % 1000000000000000000)).2.1 = y at *
      generalize (madeR (h + v / 1000000000000000000) (l + v % 1000000000000000000)).2.2 = z at *
      generalize v / 1000000000000000000 = g at *
      generalize v % 1000000000000000000 = k at *
      clear r f f2 hv
      go_enter Try.func11, Try.ntmps11
      go_wp2_with (first | (go_at_call 15; refine (HC.out _).mono ?_; rintro e w1 ⟨rfl, rfl⟩) | (go_at_call 25; refine (HF.out _).mono ?_; rintro e w1 ⟨rfl, rfl⟩))
      go_region_with (first | (go_at_call 27; refine (HW.out _).mono ?_; rintro e w1 ⟨rfl, m, rfl⟩) | (go_at_call 26; refine (HJ.out _).mono ?_; rintro e w2 ⟨rfl, hb2⟩; have k1 := hb2.cell (p := ⟨w.heap.size + 1, 0, none⟩) (by simp); have k2 := hb2.cell (p := ⟨w.heap.size + 1, 1, none⟩) (by simp); have k3 := hb2.frozen (p := ⟨w.heap.size + 1, 0, none⟩) (by simp); have k4 := hb2.frozen (p := ⟨w.heap.size + 1, 1, none⟩) (by simp); simp [go_sem] at k1 k2 k3 k4))
      all_goals go_wp2
      all_goals refine bodyPost_ret (v := .tuple #[.agg #[.int .i64 x, .int .i64 y], .int .i64 z]) (by simp [results, Try.results11, go_sem, k1, k2]) rfl ⟨rfl, ?_⟩
      all_goals repeat' (first | with_reducible exact Below.refl _ _ | with_reducible refine Below.setCell ?_ ?_ _ | with_reducible refine Below.alloc ?_ ?_ _ | with_reducible refine below_drewN ?_ _ | with_reducible refine Below.drew ?_ | with_reducible refine Below.trans ?_ (Below.mono (by assumption) ?_) | with_reducible exact Nat.le_refl _ | (simp; done) | (simp; omega) | omega)

end Go.Proofs.Ytcabpcneiddgcaa
