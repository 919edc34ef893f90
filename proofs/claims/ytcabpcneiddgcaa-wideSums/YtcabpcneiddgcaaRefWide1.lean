/-
  The contract of the answer's made.
-/
import Derived.Test.YtcabpcneiddgcaaWide1
namespace Go.Proofs.Ytcabpcneiddgcaa
open Go.RowKit

set_option maxHeartbeats 1000000 in
theorem made_any (h x : Int) (w : World) (h0 : -9000000000000 ≤ h) (h1 : h ≤ 9000000000000) (x0 : -1000000000000000000 ≤ x) (x1 : x < 2000000000000000000) :
    Calls Try.prog 30 #[.int .i64 h, .int .i64 x] w fun e w' => e = .returned (.tuple #[.agg #[.int .i64 (madeR h x).1, .int .i64 (madeR h x).2.1], .int .i64 (madeR h x).2.2]) ∧ Below w.heap.size w w' := by
  by_cases c1 : x < 0
  · have HR : Hid (∀ W : World, Calls Try.prog 28 #[.agg #[.int .i64 (h - 1), .int .i64 (x + 1000000000000000000)]] W fun e w' => e = .returned (.bool (rightB (h - 1) (x + 1000000000000000000))) ∧ w' = W.alloc (.cells #[.int .i64 (h - 1), .int .i64 (x + 1000000000000000000)] 23)) := fun W => right_any _ _ W
    go_enter Try.func30, Try.ntmps30
    go_wp2
    go_loop [0, 1] (fun a b => ∃ H L : Int, a = .int .i64 H ∧ b = .int .i64 L ∧ ((H = h ∧ L = x) ∨ (H = h - 1 ∧ L = x + 1000000000000000000))) (fun _ b => (-intOf b).toNat)
    case atStart => exact ⟨h, x, rfl, rfl, .inl ⟨rfl, rfl⟩⟩
    case round =>
      obtain ⟨H, L, rfl, rfl, ⟨rfl, rfl⟩ | ⟨rfl, rfl⟩⟩ := hrel
      · go_wp2
        go_round
        case rel => exact ⟨_, _, rfl, rfl, .inr ⟨by go_num, by go_num⟩⟩
        case measure => simp [intOf]; omega
      · go_wp2
        go_loop [0, 1] (fun a b => a = .int .i64 (h - 1) ∧ b = .int .i64 (x + 1000000000000000000)) (fun _ _ => 0)
        case atStart => exact ⟨rfl, rfl⟩
        case round =>
          obtain ⟨rfl, rfl⟩ := hrel
          cases c : rightB (h - 1) (x + 1000000000000000000)
          · have c2 := rightB_false c
            have HM : Hid (madeR h x = (0, 0, 3)) := madeR_no (by omega)
            rw [c] at HR
            clear c c2
            go_wp2_with (go_at_call 28; refine (HR.out _).mono ?_; rintro e w1 ⟨rfl, rfl⟩)
            refine bodyPost_ret (v := .tuple #[.agg #[.int .i64 0, .int .i64 0], .int .i64 3]) (by simp [results, Try.results30, go_sem]) rfl ⟨by rw [HM.out], ?_⟩
            repeat' (first | with_reducible exact Below.refl _ _ | with_reducible refine Below.setCell ?_ ?_ _ | with_reducible refine Below.alloc ?_ ?_ _ | with_reducible refine below_drewN ?_ _ | with_reducible refine Below.drew ?_ | with_reducible refine Below.trans ?_ (Below.mono (by assumption) ?_) | with_reducible exact Nat.le_refl _ | (simp; done) | (simp; omega) | omega)
          · have c2 := rightB_true c
            have HM : Hid (madeR h x = (h - 1, x + 1000000000000000000, 0)) := by
              have e := madeR_yes (h := h) (x := x) (by omega) (by omega)
              rw [show h + x / 1000000000000000000 = h - 1 by omega, show x % 1000000000000000000 = x + 1000000000000000000 by omega] at e
              exact e
            rw [c] at HR
            clear c c2
            go_wp2_with (go_at_call 28; refine (HR.out _).mono ?_; rintro e w1 ⟨rfl, rfl⟩)
            refine bodyPost_ret (v := .tuple #[.agg #[.int .i64 (h - 1), .int .i64 (x + 1000000000000000000)], .int .i64 0]) (by simp [results, Try.results30, go_sem]) rfl ⟨by rw [HM.out], ?_⟩
            repeat' (first | with_reducible exact Below.refl _ _ | with_reducible refine Below.setCell ?_ ?_ _ | with_reducible refine Below.alloc ?_ ?_ _ | with_reducible refine below_drewN ?_ _ | with_reducible refine Below.drew ?_ | with_reducible refine Below.trans ?_ (Below.mono (by assumption) ?_) | with_reducible exact Nat.le_refl _ | (simp; done) | (simp; omega) | omega)
  · by_cases c2 : 1000000000000000000 ≤ x
    · have HR : Hid (∀ W : World, Calls Try.prog 28 #[.agg #[.int .i64 (h + 1), .int .i64 (x - 1000000000000000000)]] W fun e w' => e = .returned (.bool (rightB (h + 1) (x - 1000000000000000000))) ∧ w' = W.alloc (.cells #[.int .i64 (h + 1), .int .i64 (x - 1000000000000000000)] 23)) := fun W => right_any _ _ W
      go_enter Try.func30, Try.ntmps30
      go_wp2
      go_loop [0, 1] (fun a b => a = .int .i64 h ∧ b = .int .i64 x) (fun _ _ => 0)
      case atStart => exact ⟨rfl, rfl⟩
      case round =>
        obtain ⟨rfl, rfl⟩ := hrel
        go_wp2
        go_loop [0, 1] (fun a b => ∃ H L : Int, a = .int .i64 H ∧ b = .int .i64 L ∧ ((H = h ∧ L = x) ∨ (H = h + 1 ∧ L = x - 1000000000000000000))) (fun _ b => (intOf b).toNat)
        case atStart => exact ⟨h, x, rfl, rfl, .inl ⟨rfl, rfl⟩⟩
        case round =>
          obtain ⟨H, L, rfl, rfl, ⟨rfl, rfl⟩ | ⟨rfl, rfl⟩⟩ := hrel
          · go_wp2
            go_round
            case rel => exact ⟨_, _, rfl, rfl, .inr ⟨by go_num, by go_num⟩⟩
            case measure => simp [intOf]; omega
          · skip
            cases c : rightB (h + 1) (x - 1000000000000000000)
            · have c2 := rightB_false c
              have HM : Hid (madeR h x = (0, 0, 3)) := madeR_no (by omega)
              rw [c] at HR
              clear c c2
              go_wp2_with (go_at_call 28; refine (HR.out _).mono ?_; rintro e w1 ⟨rfl, rfl⟩)
              refine bodyPost_ret (v := .tuple #[.agg #[.int .i64 0, .int .i64 0], .int .i64 3]) (by simp [results, Try.results30, go_sem]) rfl ⟨by rw [HM.out], ?_⟩
              repeat' (first | with_reducible exact Below.refl _ _ | with_reducible refine Below.setCell ?_ ?_ _ | with_reducible refine Below.alloc ?_ ?_ _ | with_reducible refine below_drewN ?_ _ | with_reducible refine Below.drew ?_ | with_reducible refine Below.trans ?_ (Below.mono (by assumption) ?_) | with_reducible exact Nat.le_refl _ | (simp; done) | (simp; omega) | omega)
            · have c2 := rightB_true c
              have HM : Hid (madeR h x = (h + 1, x - 1000000000000000000, 0)) := by
                have e := madeR_yes (h := h) (x := x) (by omega) (by omega)
                rw [show h + x / 1000000000000000000 = h + 1 by omega, show x % 1000000000000000000 = x - 1000000000000000000 by omega] at e
                exact e
              rw [c] at HR
              clear c c2
              go_wp2_with (go_at_call 28; refine (HR.out _).mono ?_; rintro e w1 ⟨rfl, rfl⟩)
              refine bodyPost_ret (v := .tuple #[.agg #[.int .i64 (h + 1), .int .i64 (x - 1000000000000000000)], .int .i64 0]) (by simp [results, Try.results30, go_sem]) rfl ⟨by rw [HM.out], ?_⟩
              repeat' (first | with_reducible exact Below.refl _ _ | with_reducible refine Below.setCell ?_ ?_ _ | with_reducible refine Below.alloc ?_ ?_ _ | with_reducible refine below_drewN ?_ _ | with_reducible refine Below.drew ?_ | with_reducible refine Below.trans ?_ (Below.mono (by assumption) ?_) | with_reducible exact Nat.le_refl _ | (simp; done) | (simp; omega) | omega)
    · have HR : Hid (∀ W : World, Calls Try.prog 28 #[.agg #[.int .i64 (h), .int .i64 (x)]] W fun e w' => e = .returned (.bool (rightB (h) (x))) ∧ w' = W.alloc (.cells #[.int .i64 (h), .int .i64 (x)] 23)) := fun W => right_any _ _ W
      go_enter Try.func30, Try.ntmps30
      go_wp2
      go_loop [0, 1] (fun a b => a = .int .i64 h ∧ b = .int .i64 x) (fun _ _ => 0)
      case atStart => exact ⟨rfl, rfl⟩
      case round =>
        obtain ⟨rfl, rfl⟩ := hrel
        go_wp2
        go_loop [0, 1] (fun a b => a = .int .i64 h ∧ b = .int .i64 x) (fun _ _ => 0)
        case atStart => exact ⟨rfl, rfl⟩
        case round =>
          obtain ⟨rfl, rfl⟩ := hrel
          cases c : rightB (h) (x)
          · have c2 := rightB_false c
            have HM : Hid (madeR h x = (0, 0, 3)) := madeR_no (by omega)
            rw [c] at HR
            clear c c2
            go_wp2_with (go_at_call 28; refine (HR.out _).mono ?_; rintro e w1 ⟨rfl, rfl⟩)
            refine bodyPost_ret (v := .tuple #[.agg #[.int .i64 0, .int .i64 0], .int .i64 3]) (by simp [results, Try.results30, go_sem]) rfl ⟨by rw [HM.out], ?_⟩
            repeat' (first | with_reducible exact Below.refl _ _ | with_reducible refine Below.setCell ?_ ?_ _ | with_reducible refine Below.alloc ?_ ?_ _ | with_reducible refine below_drewN ?_ _ | with_reducible refine Below.drew ?_ | with_reducible refine Below.trans ?_ (Below.mono (by assumption) ?_) | with_reducible exact Nat.le_refl _ | (simp; done) | (simp; omega) | omega)
          · have c2 := rightB_true c
            have HM : Hid (madeR h x = (h, x, 0)) := by
              have e := madeR_yes (h := h) (x := x) (by omega) (by omega)
              rw [show h + x / 1000000000000000000 = h by omega, show x % 1000000000000000000 = x by omega] at e
              exact e
            rw [c] at HR
            clear c c2
            go_wp2_with (go_at_call 28; refine (HR.out _).mono ?_; rintro e w1 ⟨rfl, rfl⟩)
            refine bodyPost_ret (v := .tuple #[.agg #[.int .i64 (h), .int .i64 (x)], .int .i64 0]) (by simp [results, Try.results30, go_sem]) rfl ⟨by rw [HM.out], ?_⟩
            repeat' (first | with_reducible exact Below.refl _ _ | with_reducible refine Below.setCell ?_ ?_ _ | with_reducible refine Below.alloc ?_ ?_ _ | with_reducible refine below_drewN ?_ _ | with_reducible refine Below.drew ?_ | with_reducible refine Below.trans ?_ (Below.mono (by assumption) ?_) | with_reducible exact Nat.le_refl _ | (simp; done) | (simp; omega) | omega)
end Go.Proofs.Ytcabpcneiddgcaa
