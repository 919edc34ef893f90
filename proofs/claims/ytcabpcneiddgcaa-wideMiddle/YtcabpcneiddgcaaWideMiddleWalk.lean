/-
  The walk of WideMiddle: for every row of numbers, every number and every 'times' it returns true.
-/
import Derived.Test.YtcabpcneiddgcaaWideMiddleSome
namespace Go.Proofs.Ytcabpcneiddgcaa
open Go.RowKit

set_option maxHeartbeats 1000000 in
theorem middle_aside (a : Option Addr) (len cap : Nat) (n ts : Int) (w : World) (c : (len : Int) = 0 ∨ 200 < (len : Int) ∨ ts < 1 ∨ 200 < ts) :
    Calls Try.prog 8 #[.slice a len cap, .int .i64 n, .int .i64 ts] w fun e w' => e = .returned (.bool true) ∧ Below w.heap.size w w' := by
  by_cases c1 : (len : Int) = 0
  · have t1 : ((len : Int) == 0) = true := beq_iff_eq.2 c1
    clear c c1
    go_enter Try.func8, Try.ntmps8
    go_wp2_with (go_at_call 17; refine (lives3_any _).mono ?_; rintro e w9 ⟨rfl, hb9⟩)
    go_ret
    refine ⟨rfl, ?_⟩
    repeat' (first | with_reducible exact Below.refl _ _ | with_reducible refine Below.setCell ?_ ?_ _ | with_reducible refine Below.alloc ?_ ?_ _ | with_reducible refine below_drewN ?_ _ | with_reducible refine Below.drew ?_ | with_reducible refine Below.trans ?_ (Below.mono (by assumption) ?_) | with_reducible exact Nat.le_refl _ | with_reducible refine Nat.le_trans ?_ (Below.size (by assumption)) | with_reducible refine Nat.le_trans ?_ (size_alloc _ _) | with_reducible refine Nat.le_trans ?_ (size_set _ _ _) | with_reducible refine Nat.le_trans ?_ (size_drewN _ _) | with_reducible refine Nat.le_trans ?_ (size_drew _) | (simp; done) | (simp; omega) | omega)
  · have t1 : ((len : Int) == 0) = false := by simpa using c1
    by_cases c2 : 200 < (len : Int)
    · clear c c1
      go_enter Try.func8, Try.ntmps8
      go_wp2_with (go_at_call 17; refine (lives3_any _).mono ?_; rintro e w9 ⟨rfl, hb9⟩)
      go_ret
      refine ⟨rfl, ?_⟩
      repeat' (first | with_reducible exact Below.refl _ _ | with_reducible refine Below.setCell ?_ ?_ _ | with_reducible refine Below.alloc ?_ ?_ _ | with_reducible refine below_drewN ?_ _ | with_reducible refine Below.drew ?_ | with_reducible refine Below.trans ?_ (Below.mono (by assumption) ?_) | with_reducible exact Nat.le_refl _ | with_reducible refine Nat.le_trans ?_ (Below.size (by assumption)) | with_reducible refine Nat.le_trans ?_ (size_alloc _ _) | with_reducible refine Nat.le_trans ?_ (size_set _ _ _) | with_reducible refine Nat.le_trans ?_ (size_drewN _ _) | with_reducible refine Nat.le_trans ?_ (size_drew _) | (simp; done) | (simp; omega) | omega)
    · by_cases c3 : ts < 1
      · clear c c1
        go_enter Try.func8, Try.ntmps8
        go_wp2_with (go_at_call 17; refine (lives3_any _).mono ?_; rintro e w9 ⟨rfl, hb9⟩)
        go_ret
        refine ⟨rfl, ?_⟩
        repeat' (first | with_reducible exact Below.refl _ _ | with_reducible refine Below.setCell ?_ ?_ _ | with_reducible refine Below.alloc ?_ ?_ _ | with_reducible refine below_drewN ?_ _ | with_reducible refine Below.drew ?_ | with_reducible refine Below.trans ?_ (Below.mono (by assumption) ?_) | with_reducible exact Nat.le_refl _ | with_reducible refine Nat.le_trans ?_ (Below.size (by assumption)) | with_reducible refine Nat.le_trans ?_ (size_alloc _ _) | with_reducible refine Nat.le_trans ?_ (size_set _ _ _) | with_reducible refine Nat.le_trans ?_ (size_drewN _ _) | with_reducible refine Nat.le_trans ?_ (size_drew _) | (simp; done) | (simp; omega) | omega)
      · have c4 : 200 < ts := by omega
        clear c c1
        go_enter Try.func8, Try.ntmps8
        go_wp2_with (go_at_call 17; refine (lives3_any _).mono ?_; rintro e w9 ⟨rfl, hb9⟩)
        go_ret
        refine ⟨rfl, ?_⟩
        repeat' (first | with_reducible exact Below.refl _ _ | with_reducible refine Below.setCell ?_ ?_ _ | with_reducible refine Below.alloc ?_ ?_ _ | with_reducible refine below_drewN ?_ _ | with_reducible refine Below.drew ?_ | with_reducible refine Below.trans ?_ (Below.mono (by assumption) ?_) | with_reducible exact Nat.le_refl _ | with_reducible refine Nat.le_trans ?_ (Below.size (by assumption)) | with_reducible refine Nat.le_trans ?_ (size_alloc _ _) | with_reducible refine Nat.le_trans ?_ (size_set _ _ _) | with_reducible refine Nat.le_trans ?_ (size_drewN _ _) | with_reducible refine Nat.le_trans ?_ (size_drew _) | (simp; done) | (simp; omega) | omega)
theorem wideMiddle_walk (a : Option Addr) (len cap : Nat) (zs : List Int) (n ts : Int) (w : World) (hr : IsRow w a len cap zs) (_ : (Lit.int .i64 n).wf = true) (_ : (Lit.int .i64 ts).wf = true) :
    Calls Try.prog 8 #[.slice a len cap, .int .i64 n, .int .i64 ts] w fun e w' => e = .returned (.bool true) ∧ Below w.heap.size w w' := by
  by_cases c : (len : Int) = 0 ∨ 200 < (len : Int) ∨ ts < 1 ∨ 200 < ts
  · exact middle_aside a len cap n ts w c
  · rcases hr with ⟨rfl, rfl, rfl, rfl⟩ | ⟨x, rfl, kc, _, hz, hc, _⟩
    · exact absurd (.inl rfl) c
    · obtain ⟨b, off, rfl, hcell⟩ := ints_at hc (by omega)
      exact middle_some n ts b off len cap zs w (by omega) (by omega) (by omega) (by omega) kc hz hcell
end Go.Proofs.Ytcabpcneiddgcaa
