/-
  The walk of WideExact: for every sum and every row of numbers it returns true.
-/
import Derived.Test.YtcabpcneiddgcaaWideExactSome
namespace Go.Proofs.Ytcabpcneiddgcaa
open Go.RowKit

set_option maxHeartbeats 1000000 in
theorem exact_aside (h l : Int) (a : Option Addr) (len cap : Nat) (w : World) (c : rightB h l = false ∨ 200 < len) :
    Calls Try.prog 6 #[.agg #[.int .i64 h, .int .i64 l], .slice a len cap] w fun e w' => e = .returned (.bool true) ∧ Below w.heap.size w w' := by
  have HC : Hid (∀ W : World, Calls Try.prog 15 #[.agg #[.int .i64 h, .int .i64 l]] W fun e w' => e = .returned (.int .i64 (checkR h l)) ∧ w' = W.alloc (.cells #[.int .i64 h, .int .i64 l] 23)) := fun W => check_any h l W
  cases r : rightB h l
  · rw [checkR_no r] at HC
    clear c r
    go_enter Try.func6, Try.ntmps6
    go_wp2_with (first | (go_at_call 15; refine (HC.out _).mono ?_; rintro e w1 ⟨rfl, rfl⟩) | (go_at_call 17; refine (lives3_any _).mono ?_; rintro e w9 ⟨rfl, hb9⟩))
    go_ret
    refine ⟨rfl, ?_⟩
    repeat' (first | with_reducible exact Below.refl _ _ | with_reducible refine Below.setCell ?_ ?_ _ | with_reducible refine Below.alloc ?_ ?_ _ | with_reducible refine below_drewN ?_ _ | with_reducible refine Below.drew ?_ | with_reducible refine Below.trans ?_ (Below.mono (by assumption) ?_) | with_reducible exact Nat.le_refl _ | with_reducible refine Nat.le_trans ?_ (Below.size (by assumption)) | with_reducible refine Nat.le_trans ?_ (size_alloc _ _) | with_reducible refine Nat.le_trans ?_ (size_set _ _ _) | with_reducible refine Nat.le_trans ?_ (size_drewN _ _) | with_reducible refine Nat.le_trans ?_ (size_drew _) | (simp; done) | (simp; omega) | omega)
  · rw [checkR_yes r] at HC
    have c2 : 200 < (len : Int) := by
      rcases c with c | c
      · rw [r] at c; cases c
      · omega
    clear c r
    go_enter Try.func6, Try.ntmps6
    go_wp2_with (first | (go_at_call 15; refine (HC.out _).mono ?_; rintro e w1 ⟨rfl, rfl⟩) | (go_at_call 17; refine (lives3_any _).mono ?_; rintro e w9 ⟨rfl, hb9⟩))
    go_ret
    refine ⟨rfl, ?_⟩
    repeat' (first | with_reducible exact Below.refl _ _ | with_reducible refine Below.setCell ?_ ?_ _ | with_reducible refine Below.alloc ?_ ?_ _ | with_reducible refine below_drewN ?_ _ | with_reducible refine Below.drew ?_ | with_reducible refine Below.trans ?_ (Below.mono (by assumption) ?_) | with_reducible exact Nat.le_refl _ | with_reducible refine Nat.le_trans ?_ (Below.size (by assumption)) | with_reducible refine Nat.le_trans ?_ (size_alloc _ _) | with_reducible refine Nat.le_trans ?_ (size_set _ _ _) | with_reducible refine Nat.le_trans ?_ (size_drewN _ _) | with_reducible refine Nat.le_trans ?_ (size_drew _) | (simp; done) | (simp; omega) | omega)
theorem wideExact_walk (h l : Int) (a : Option Addr) (len cap : Nat) (zs : List Int) (w : World) (_ : (Lit.int .i64 h).wf = true) (_ : (Lit.int .i64 l).wf = true) (hr : IsRow w a len cap zs) :
    Calls Try.prog 6 #[.agg #[.int .i64 h, .int .i64 l], .slice a len cap] w fun e w' => e = .returned (.bool true) ∧ Below w.heap.size w w' := by
  by_cases c : 200 < len
  · exact exact_aside h l a len cap w (.inr c)
  · cases r : rightB h l
    · exact exact_aside h l a len cap w (.inl r)
    · rcases hr with ⟨rfl, rfl, rfl, rfl⟩ | ⟨x, rfl, kc, _, hz, hc, _⟩
      · exact exact_some h l none 0 0 0 0 [] w r (by omega) (by omega) rfl (fun k => absurd k (by omega)) (fun j hj => absurd hj (by simp))
      · by_cases z : zs.length = 0
        · exact exact_some h l (some x) 0 0 len cap zs w r (by omega) kc hz (fun k => absurd k (by omega)) (fun j hj => absurd hj (by omega))
        · obtain ⟨b, off, rfl, hcell⟩ := ints_at hc (by omega)
          exact exact_some h l (some ⟨b, off, none⟩) b off len cap zs w r (by omega) kc hz (fun _ => rfl) hcell
end Go.Proofs.Ytcabpcneiddgcaa
