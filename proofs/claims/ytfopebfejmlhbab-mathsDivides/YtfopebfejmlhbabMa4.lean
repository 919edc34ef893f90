/-
  The contracts of maths.toStep$1 and maths.quotient.
-/
import Derived.Test.YtfopebfejmlhbabMa3
import Derived.Test.YtfopebfejmlhbabMaM
namespace Go.Proofs.Ytfopebfejmlhbab
open Go.RowKit

set_option maxHeartbeats 1000000 in
theorem msteps_any (n s : Int) (f : Nat) (F : Int → Int → Int) (a : Nat) (w : World) (h1 : -1000000000000000000 ≤ n) (h2 : n ≤ 1000000000000000000) (s1 : -1000000000000000000 ≤ s) (s2 : s ≤ 1000000000000000000) (G : Way f F) (ha : a < w.heap.size) (ca : w.cell? ⟨a, 0, none⟩ = some (.func (.func f) #[] #[])) :
    Calls Try.prog 49 #[.agg #[.int .i64 n, .int .i64 s], .pointer (some ⟨a, 0, none⟩)] w fun e w' => e = .returned (.tuple #[.int .i64 (stepsR F n s).1, .int .i64 (stepsR F n s).2]) ∧ Below w.heap.size w w' := by
  have hcn : (w.alloc (.cells #[.int .i64 n, .int .i64 s] 37)).cell? ⟨w.heap.size, 0, none⟩ = some (.int .i64 n) := by simp [go_sem]
  have hcs : (w.alloc (.cells #[.int .i64 n, .int .i64 s] 37)).cell? ⟨w.heap.size, 1, none⟩ = some (.int .i64 s) := by simp [go_sem]
  have hca : (w.alloc (.cells #[.int .i64 n, .int .i64 s] 37)).cell? ⟨a, 0, none⟩ = some (.func (.func f) #[] #[]) := by rw [World.cell?_alloc_old _ _ _ (Nat.ne_of_lt ha)]; exact ca
  have hl0 : w.heap.size < (w.alloc (.cells #[.int .i64 n, .int .i64 s] 37)).heap.size := by simp
  have hla : a < (w.alloc (.cells #[.int .i64 n, .int .i64 s] 37)).heap.size := by simp; omega
  have HB := hide ((Below.refl w.heap.size w).alloc (Nat.le_refl _) (.cells #[.int .i64 n, .int .i64 s] 37))
  by_cases z : n = 0
  · subst z
    rw [show stepsR F 0 s = (0, 0) from if_pos rfl]
    go_enter Try.func49, Try.ntmps49
    go_wp2_with fail
    generalize w.alloc (.cells #[.int .i64 0, .int .i64 s] 37) = W0 at *
    go_quiet (fail)
    go_wp2
    go_ret2
    exact ⟨rfl, below_drewN HB.out _⟩
  · have z' : (n == 0) = false := by rw [beq_eq_false_iff_ne]; exact z
    by_cases y : s = 0
    · subst y
      rw [show stepsR F n 0 = (0, 4) by unfold stepsR; rw [if_neg z]; rfl]
      clear z
      go_enter Try.func49, Try.ntmps49
      go_wp2_with fail
      generalize w.alloc (.cells #[.int .i64 n, .int .i64 0] 37) = W0 at *
      go_quiet (fail)
      go_wp2
      go_ret2
      exact ⟨rfl, below_drewN HB.out _⟩
    · have y' : (s == 0) = false := by rw [beq_eq_false_iff_ne]; exact y
      by_cases x : 0 < n ∧ s < 0
      · rw [show stepsR F n s = (0, 2) by unfold stepsR; rw [if_neg z, if_neg y, if_pos x]]
        obtain ⟨x1, x2⟩ := x
        clear z y
        go_enter Try.func49, Try.ntmps49
        go_wp2_with fail
        generalize w.alloc (.cells #[.int .i64 n, .int .i64 s] 37) = W0 at *
        go_quiet (fail)
        go_wp2
        go_ret2
        exact ⟨rfl, below_drewN HB.out _⟩
      · rw [show stepsR F n s = (F n (absI s), 0) by unfold stepsR; rw [if_neg z, if_neg y, if_neg x]]
        have HZ := hide (fun W : World => msize_any s W (by omega) (by omega))
        have HR := hide G.r
        have hs0 : 0 < absI s := by unfold absI; split <;> omega
        have HC : Hid (∀ W : World, Calls Try.prog f #[.int .i64 n, .int .i64 (absI s)] W fun e w' => e = .returned (.int .i64 (F n (absI s))) ∧ w' = W) := fun W => G.c n (absI s) W h1 h2 hs0 (absI_le s1 s2)
        clear G hs0 z
        by_cases x1 : 0 < n
        · have x2 : ¬ s < 0 := fun h => x ⟨x1, h⟩
          clear x y
          go_enter Try.func49, Try.ntmps49
          go_wp2_with fail
          generalize w.alloc (.cells #[.int .i64 n, .int .i64 s] 37) = W0 at *
          go_quiet (fail)
          have ka : (W0.drewN nq).cell? ⟨a, 0, none⟩ = some (.func (.func f) #[] #[]) := by rw [← hca]; simp [go_sem]
          have kb := hide (below_drewN HB.out nq)
          generalize W0.drewN nq = W1 at *
          go_wp2_with fail
          go_quiet (first | (go_at_call 34; exact Calls.quiet_of_same (HZ.out _)) | (rw [HR.out]; exact ⟨rfl, Calls.quiet_of_same (HC.out _)⟩))
          go_wp2
          go_ret2
          exact ⟨rfl, below_drewN kb.out _⟩
        · clear x y
          go_enter Try.func49, Try.ntmps49
          go_wp2_with fail
          generalize w.alloc (.cells #[.int .i64 n, .int .i64 s] 37) = W0 at *
          go_quiet (fail)
          have ka : (W0.drewN nq).cell? ⟨a, 0, none⟩ = some (.func (.func f) #[] #[]) := by rw [← hca]; simp [go_sem]
          have kb := hide (below_drewN HB.out nq)
          generalize W0.drewN nq = W1 at *
          go_wp2_with fail
          go_quiet (first | (go_at_call 34; exact Calls.quiet_of_same (HZ.out _)) | (rw [HR.out]; exact ⟨rfl, Calls.quiet_of_same (HC.out _)⟩))
          go_wp2
          go_ret2
          exact ⟨rfl, below_drewN kb.out _⟩

end Go.Proofs.Ytfopebfejmlhbab
