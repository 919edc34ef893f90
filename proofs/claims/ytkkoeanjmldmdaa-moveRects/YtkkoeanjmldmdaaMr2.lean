/-
  The contracts of the answer's Back, line.
-/
import Derived.Test.YtkkoeanjmldmdaaMr1
namespace Go.Proofs.Ytkkoeanjmldmdaa
open Go.RowKit

set_option maxHeartbeats 1000000 in
theorem rback_any (k a n : Int) (w : World) :
    Calls Try.prog 12 #[.agg #[.int .i64 k, .int .i64 a, .int .i64 n]] w fun e w' => e = .returned (.tuple #[.agg #[.int .i64 (backR k a n).1, .int .i64 (backR k a n).2.1, .int .i64 (backR k a n).2.2.1], .int .i64 (backR k a n).2.2.2]) ∧ Below w.heap.size w w' := by
  have HC : Hid (∀ W : World, Calls Try.prog 28 #[.agg #[.int .i64 k, .int .i64 a, .int .i64 n]] W fun e w' => e = .returned (.bool (editB k a n)) ∧ Below W.heap.size W w') := fun W => reditB_any k a n W
  have HX : Hid (∀ w1, Below ((w.alloc (.cells #[.int .i64 k, .int .i64 a, .int .i64 n] 24)).alloc (.cells #[.int .i64 0, .int .i64 0, .int .i64 0] 24)).heap.size ((w.alloc (.cells #[.int .i64 k, .int .i64 a, .int .i64 n] 24)).alloc (.cells #[.int .i64 0, .int .i64 0, .int .i64 0] 24)) w1 → Has3 w1 w.heap.size k a n ∧ Has3 w1 (w.heap.size + 1) 0 0 0) := fun w1 hb => by
    refine ⟨((Has3.new w k a n _).alloc _).below hb, ?_⟩
    have := (Has3.new (w.alloc (.cells #[.int .i64 k, .int .i64 a, .int .i64 n] 24)) 0 0 0 24).below hb
    simpa using this
  cases h : editB k a n
  · rw [backR_no h]
    rw [h] at HC
    clear h
    go_enter Try.func12, Try.ntmps12
    go_wp2_with (go_at_call 28; refine (HC.out _).mono ?_; rintro e w1 ⟨rfl, hb1⟩; have ⟨⟨⟨z1, k0, k1, k2⟩, g0, g1, g2⟩, ⟨z2, j0, j1, j2⟩, f0, f1, f2⟩ := HX.out w1 hb1)
    refine bodyPost_ret (v := .tuple #[.agg #[.int .i64 0, .int .i64 0, .int .i64 0], .int .i64 2]) (by simp [results, Try.results12, go_sem, *]) rfl ⟨rfl, ?_⟩
    repeat' (first | with_reducible exact Below.refl _ _ | with_reducible refine Below.setCell ?_ ?_ _ | with_reducible refine Below.alloc ?_ ?_ _ | with_reducible refine below_drewN ?_ _ | with_reducible refine Below.drew ?_ | with_reducible refine Below.trans ?_ (Below.mono (by assumption) ?_) | with_reducible exact Nat.le_refl _ | with_reducible refine Nat.le_trans ?_ (Below.size (by assumption)) | with_reducible refine Nat.le_trans ?_ (size_alloc _ _) | with_reducible refine Nat.le_trans ?_ (size_set _ _ _) | with_reducible refine Nat.le_trans ?_ (size_drewN _ _) | with_reducible refine Nat.le_trans ?_ (size_drew _) | (simp; done) | (simp; omega) | omega)
  · rw [backR_yes h]
    rw [h] at HC
    rcases editB_kinds h with e | e | e | e
    · subst e
      clear h
      go_enter Try.func12, Try.ntmps12
      go_wp2_with (go_at_call 28; refine (HC.out _).mono ?_; rintro e w1 ⟨rfl, hb1⟩; have ⟨⟨⟨z1, k0, k1, k2⟩, g0, g1, g2⟩, ⟨z2, j0, j1, j2⟩, f0, f1, f2⟩ := HX.out w1 hb1)
      refine bodyPost_ret (v := .tuple #[.agg #[.int .i64 2, .int .i64 a, .int .i64 n], .int .i64 0]) (by simp [results, Try.results12, go_sem, *]) rfl ⟨rfl, ?_⟩
      repeat' (first | with_reducible exact Below.refl _ _ | with_reducible refine Below.setCell ?_ ?_ _ | with_reducible refine Below.alloc ?_ ?_ _ | with_reducible refine below_drewN ?_ _ | with_reducible refine Below.drew ?_ | with_reducible refine Below.trans ?_ (Below.mono (by assumption) ?_) | with_reducible exact Nat.le_refl _ | with_reducible refine Nat.le_trans ?_ (Below.size (by assumption)) | with_reducible refine Nat.le_trans ?_ (size_alloc _ _) | with_reducible refine Nat.le_trans ?_ (size_set _ _ _) | with_reducible refine Nat.le_trans ?_ (size_drewN _ _) | with_reducible refine Nat.le_trans ?_ (size_drew _) | (simp; done) | (simp; omega) | omega)
    · subst e
      clear h
      go_enter Try.func12, Try.ntmps12
      go_wp2_with (go_at_call 28; refine (HC.out _).mono ?_; rintro e w1 ⟨rfl, hb1⟩; have ⟨⟨⟨z1, k0, k1, k2⟩, g0, g1, g2⟩, ⟨z2, j0, j1, j2⟩, f0, f1, f2⟩ := HX.out w1 hb1)
      refine bodyPost_ret (v := .tuple #[.agg #[.int .i64 1, .int .i64 a, .int .i64 n], .int .i64 0]) (by simp [results, Try.results12, go_sem, *]) rfl ⟨rfl, ?_⟩
      repeat' (first | with_reducible exact Below.refl _ _ | with_reducible refine Below.setCell ?_ ?_ _ | with_reducible refine Below.alloc ?_ ?_ _ | with_reducible refine below_drewN ?_ _ | with_reducible refine Below.drew ?_ | with_reducible refine Below.trans ?_ (Below.mono (by assumption) ?_) | with_reducible exact Nat.le_refl _ | with_reducible refine Nat.le_trans ?_ (Below.size (by assumption)) | with_reducible refine Nat.le_trans ?_ (size_alloc _ _) | with_reducible refine Nat.le_trans ?_ (size_set _ _ _) | with_reducible refine Nat.le_trans ?_ (size_drewN _ _) | with_reducible refine Nat.le_trans ?_ (size_drew _) | (simp; done) | (simp; omega) | omega)
    · subst e
      clear h
      go_enter Try.func12, Try.ntmps12
      go_wp2_with (go_at_call 28; refine (HC.out _).mono ?_; rintro e w1 ⟨rfl, hb1⟩; have ⟨⟨⟨z1, k0, k1, k2⟩, g0, g1, g2⟩, ⟨z2, j0, j1, j2⟩, f0, f1, f2⟩ := HX.out w1 hb1)
      refine bodyPost_ret (v := .tuple #[.agg #[.int .i64 4, .int .i64 a, .int .i64 n], .int .i64 0]) (by simp [results, Try.results12, go_sem, *]) rfl ⟨rfl, ?_⟩
      repeat' (first | with_reducible exact Below.refl _ _ | with_reducible refine Below.setCell ?_ ?_ _ | with_reducible refine Below.alloc ?_ ?_ _ | with_reducible refine below_drewN ?_ _ | with_reducible refine Below.drew ?_ | with_reducible refine Below.trans ?_ (Below.mono (by assumption) ?_) | with_reducible exact Nat.le_refl _ | with_reducible refine Nat.le_trans ?_ (Below.size (by assumption)) | with_reducible refine Nat.le_trans ?_ (size_alloc _ _) | with_reducible refine Nat.le_trans ?_ (size_set _ _ _) | with_reducible refine Nat.le_trans ?_ (size_drewN _ _) | with_reducible refine Nat.le_trans ?_ (size_drew _) | (simp; done) | (simp; omega) | omega)
    · subst e
      clear h
      go_enter Try.func12, Try.ntmps12
      go_wp2_with (go_at_call 28; refine (HC.out _).mono ?_; rintro e w1 ⟨rfl, hb1⟩; have ⟨⟨⟨z1, k0, k1, k2⟩, g0, g1, g2⟩, ⟨z2, j0, j1, j2⟩, f0, f1, f2⟩ := HX.out w1 hb1)
      refine bodyPost_ret (v := .tuple #[.agg #[.int .i64 3, .int .i64 a, .int .i64 n], .int .i64 0]) (by simp [results, Try.results12, go_sem, *]) rfl ⟨rfl, ?_⟩
      repeat' (first | with_reducible exact Below.refl _ _ | with_reducible refine Below.setCell ?_ ?_ _ | with_reducible refine Below.alloc ?_ ?_ _ | with_reducible refine below_drewN ?_ _ | with_reducible refine Below.drew ?_ | with_reducible refine Below.trans ?_ (Below.mono (by assumption) ?_) | with_reducible exact Nat.le_refl _ | with_reducible refine Nat.le_trans ?_ (Below.size (by assumption)) | with_reducible refine Nat.le_trans ?_ (size_alloc _ _) | with_reducible refine Nat.le_trans ?_ (size_set _ _ _) | with_reducible refine Nat.le_trans ?_ (size_drewN _ _) | with_reducible refine Nat.le_trans ?_ (size_drew _) | (simp; done) | (simp; omega) | omega)
/-- Where a line is, and its fate. -/
def lineR (k a n x : Int) : Int × Int := if takenB k a n x then (0, fateR k) else (carryR k a n x, 0)
theorem lineR_yes {k a n x : Int} (h : takenB k a n x = true) : lineR k a n x = (0, fateR k) := by simp [lineR, h]
theorem lineR_no {k a n x : Int} (h : takenB k a n x = false) : lineR k a n x = (carryR k a n x, 0) := by simp [lineR, h]
set_option maxHeartbeats 1000000 in
theorem rline_any {k a n x : Int} (h : editB k a n = true) (h1 : 1 ≤ x) (h2 : x ≤ topE k) (w : World) :
    Calls Try.prog 31 #[.agg #[.int .i64 k, .int .i64 a, .int .i64 n], .int .i64 x] w fun e w' => e = .returned (.tuple #[.int .i64 (lineR k a n x).1, .int .i64 (lineR k a n x).2]) ∧ Below w.heap.size w w' := by
  have HM : Hid (∀ W : World, Calls Try.prog 42 #[.agg #[.int .i64 k, .int .i64 a, .int .i64 n]] W fun e w' => e = .returned (.int .i64 (topE k)) ∧ Below W.heap.size W w') := fun W => rmost_any k a n W
  have g := editB_iff.1 h
  have ht := topE_le k
  have u1 : IntKind.i64.wrap (x + n) = x + n := wrapI (by omega) (by omega)
  have u2 : IntKind.i64.wrap (x - n) = x - n := wrapI (by omega) (by omega)
  have u3 : IntKind.i64.wrap (a + n) = a + n := wrapI (by omega) (by omega)
  by_cases c : x < a
  · have hn : takenB k a n x = false := by
      cases hi : insB k
      · obtain ⟨e1, e2⟩ := lost_del (a := a) (n := n) hi; exact taken_no.2 (by omega)
      · obtain ⟨e1, e2, e3⟩ := lost_ins h hi; exact taken_no.2 (by omega)
    rw [lineR_no hn, carry_low c]
    clear h g ht h1 h2 hn HM
    go_enter Try.func31, Try.ntmps31
    go_wp2
    go_ret2
    refine ⟨rfl, ?_⟩
    repeat' (first | with_reducible exact Below.refl _ _ | with_reducible refine Below.setCell ?_ ?_ _ | with_reducible refine Below.alloc ?_ ?_ _ | with_reducible refine below_drewN ?_ _ | with_reducible refine Below.drew ?_ | with_reducible refine Below.trans ?_ (Below.mono (by assumption) ?_) | with_reducible exact Nat.le_refl _ | with_reducible refine Nat.le_trans ?_ (Below.size (by assumption)) | with_reducible refine Nat.le_trans ?_ (size_alloc _ _) | with_reducible refine Nat.le_trans ?_ (size_set _ _ _) | with_reducible refine Nat.le_trans ?_ (size_drewN _ _) | with_reducible refine Nat.le_trans ?_ (size_drew _) | (simp; done) | (simp; omega) | omega)
  · rcases editB_kinds h with e | e | e | e
    · subst e
      obtain ⟨e1, e2, e3⟩ := lost_ins h ins1
      rw [top1] at *
      by_cases d : x + n > 1048576
      · rw [lineR_yes (taken_iff.2 (by omega)), show fateR 1 = 2 by decide]
        · clear h g ht h1 h2 e1 e2 e3
          have HX : Hid (∀ w', EdS w 1 a n w' → w'.cell? ⟨w.heap.size, 0, none⟩ = some (.int .i64 1) ∧ w'.cell? ⟨w.heap.size, 1, none⟩ = some (.int .i64 a) ∧ w'.cell? ⟨w.heap.size, 2, none⟩ = some (.int .i64 n) ∧ EdS w 1 a n w') := fun w' h => ⟨h.1.2.1, h.1.2.2.1, h.1.2.2.2, h⟩
          have hs8 := HX.out _ (EdS.start w 1 a n 24)
          go_enter Try.func31, Try.ntmps31
          go_wp2
          go_region_held3 (fun w' => w'.cell? ⟨w.heap.size, 0, none⟩ = some (.int .i64 1) ∧ w'.cell? ⟨w.heap.size, 1, none⟩ = some (.int .i64 a) ∧ w'.cell? ⟨w.heap.size, 2, none⟩ = some (.int .i64 n) ∧ EdS w 1 a n w') (first | exact hs8 | assumption | exact HX.out _ (EdS.drew (And.right (And.right (And.right (by assumption)))))) ((go_at_call 42; refine (HM.out _).mono ?_; rintro e w1 ⟨rfl, hb1⟩; have hs1 := HX.out _ (EdS.below (And.right (And.right (And.right (by assumption)))) hb1); have ⟨z1, k0, k1, k2⟩ := (And.right (And.right (And.right (hs1)))).1))
          go_wp2
          go_ret2
          exact ⟨rfl, EdS.out (And.right (And.right (And.right (by assumption))))⟩
      · rw [lineR_no (taken_no.2 (by omega)), carry_ins c ins1]
        · clear h g ht h1 h2 e1 e2 e3
          have HX : Hid (∀ w', EdS w 1 a n w' → w'.cell? ⟨w.heap.size, 0, none⟩ = some (.int .i64 1) ∧ w'.cell? ⟨w.heap.size, 1, none⟩ = some (.int .i64 a) ∧ w'.cell? ⟨w.heap.size, 2, none⟩ = some (.int .i64 n) ∧ EdS w 1 a n w') := fun w' h => ⟨h.1.2.1, h.1.2.2.1, h.1.2.2.2, h⟩
          have hs8 := HX.out _ (EdS.start w 1 a n 24)
          go_enter Try.func31, Try.ntmps31
          go_wp2
          go_region_held3 (fun w' => w'.cell? ⟨w.heap.size, 0, none⟩ = some (.int .i64 1) ∧ w'.cell? ⟨w.heap.size, 1, none⟩ = some (.int .i64 a) ∧ w'.cell? ⟨w.heap.size, 2, none⟩ = some (.int .i64 n) ∧ EdS w 1 a n w') (first | exact hs8 | assumption | exact HX.out _ (EdS.drew (And.right (And.right (And.right (by assumption)))))) ((go_at_call 42; refine (HM.out _).mono ?_; rintro e w1 ⟨rfl, hb1⟩; have hs1 := HX.out _ (EdS.below (And.right (And.right (And.right (by assumption)))) hb1); have ⟨z1, k0, k1, k2⟩ := (And.right (And.right (And.right (hs1)))).1))
          go_wp2
          go_ret2
          exact ⟨rfl, EdS.out (And.right (And.right (And.right (by assumption))))⟩
    · subst e
      obtain ⟨e1, e2⟩ := lost_del (a := a) (n := n) ins2
      by_cases d : x < a + n
      · rw [lineR_yes (taken_iff.2 (by omega)), show fateR 2 = 1 by decide]
        clear h g ht h1 h2 e1 e2 HM
        go_enter Try.func31, Try.ntmps31
        go_wp2
        go_ret2
        refine ⟨rfl, ?_⟩
        repeat' (first | with_reducible exact Below.refl _ _ | with_reducible refine Below.setCell ?_ ?_ _ | with_reducible refine Below.alloc ?_ ?_ _ | with_reducible refine below_drewN ?_ _ | with_reducible refine Below.drew ?_ | with_reducible refine Below.trans ?_ (Below.mono (by assumption) ?_) | with_reducible exact Nat.le_refl _ | with_reducible refine Nat.le_trans ?_ (Below.size (by assumption)) | with_reducible refine Nat.le_trans ?_ (size_alloc _ _) | with_reducible refine Nat.le_trans ?_ (size_set _ _ _) | with_reducible refine Nat.le_trans ?_ (size_drewN _ _) | with_reducible refine Nat.le_trans ?_ (size_drew _) | (simp; done) | (simp; omega) | omega)
      · rw [lineR_no (taken_no.2 (by omega)), carry_del c ins2]
        clear h g ht h1 h2 e1 e2 HM
        go_enter Try.func31, Try.ntmps31
        go_wp2
        go_ret2
        refine ⟨rfl, ?_⟩
        repeat' (first | with_reducible exact Below.refl _ _ | with_reducible refine Below.setCell ?_ ?_ _ | with_reducible refine Below.alloc ?_ ?_ _ | with_reducible refine below_drewN ?_ _ | with_reducible refine Below.drew ?_ | with_reducible refine Below.trans ?_ (Below.mono (by assumption) ?_) | with_reducible exact Nat.le_refl _ | with_reducible refine Nat.le_trans ?_ (Below.size (by assumption)) | with_reducible refine Nat.le_trans ?_ (size_alloc _ _) | with_reducible refine Nat.le_trans ?_ (size_set _ _ _) | with_reducible refine Nat.le_trans ?_ (size_drewN _ _) | with_reducible refine Nat.le_trans ?_ (size_drew _) | (simp; done) | (simp; omega) | omega)
    · subst e
      obtain ⟨e1, e2, e3⟩ := lost_ins h ins3
      rw [top3] at *
      by_cases d : x + n > 16384
      · rw [lineR_yes (taken_iff.2 (by omega)), show fateR 3 = 2 by decide]
        · clear h g ht h1 h2 e1 e2 e3
          have HX : Hid (∀ w', EdS w 3 a n w' → w'.cell? ⟨w.heap.size, 0, none⟩ = some (.int .i64 3) ∧ w'.cell? ⟨w.heap.size, 1, none⟩ = some (.int .i64 a) ∧ w'.cell? ⟨w.heap.size, 2, none⟩ = some (.int .i64 n) ∧ EdS w 3 a n w') := fun w' h => ⟨h.1.2.1, h.1.2.2.1, h.1.2.2.2, h⟩
          have hs8 := HX.out _ (EdS.start w 3 a n 24)
          go_enter Try.func31, Try.ntmps31
          go_wp2
          go_region_held3 (fun w' => w'.cell? ⟨w.heap.size, 0, none⟩ = some (.int .i64 3) ∧ w'.cell? ⟨w.heap.size, 1, none⟩ = some (.int .i64 a) ∧ w'.cell? ⟨w.heap.size, 2, none⟩ = some (.int .i64 n) ∧ EdS w 3 a n w') (first | exact hs8 | assumption | exact HX.out _ (EdS.drew (And.right (And.right (And.right (by assumption)))))) ((go_at_call 42; refine (HM.out _).mono ?_; rintro e w1 ⟨rfl, hb1⟩; have hs1 := HX.out _ (EdS.below (And.right (And.right (And.right (by assumption)))) hb1); have ⟨z1, k0, k1, k2⟩ := (And.right (And.right (And.right (hs1)))).1))
          go_wp2
          go_ret2
          exact ⟨rfl, EdS.out (And.right (And.right (And.right (by assumption))))⟩
      · rw [lineR_no (taken_no.2 (by omega)), carry_ins c ins3]
        · clear h g ht h1 h2 e1 e2 e3
          have HX : Hid (∀ w', EdS w 3 a n w' → w'.cell? ⟨w.heap.size, 0, none⟩ = some (.int .i64 3) ∧ w'.cell? ⟨w.heap.size, 1, none⟩ = some (.int .i64 a) ∧ w'.cell? ⟨w.heap.size, 2, none⟩ = some (.int .i64 n) ∧ EdS w 3 a n w') := fun w' h => ⟨h.1.2.1, h.1.2.2.1, h.1.2.2.2, h⟩
          have hs8 := HX.out _ (EdS.start w 3 a n 24)
          go_enter Try.func31, Try.ntmps31
          go_wp2
          go_region_held3 (fun w' => w'.cell? ⟨w.heap.size, 0, none⟩ = some (.int .i64 3) ∧ w'.cell? ⟨w.heap.size, 1, none⟩ = some (.int .i64 a) ∧ w'.cell? ⟨w.heap.size, 2, none⟩ = some (.int .i64 n) ∧ EdS w 3 a n w') (first | exact hs8 | assumption | exact HX.out _ (EdS.drew (And.right (And.right (And.right (by assumption)))))) ((go_at_call 42; refine (HM.out _).mono ?_; rintro e w1 ⟨rfl, hb1⟩; have hs1 := HX.out _ (EdS.below (And.right (And.right (And.right (by assumption)))) hb1); have ⟨z1, k0, k1, k2⟩ := (And.right (And.right (And.right (hs1)))).1))
          go_wp2
          go_ret2
          exact ⟨rfl, EdS.out (And.right (And.right (And.right (by assumption))))⟩
    · subst e
      obtain ⟨e1, e2⟩ := lost_del (a := a) (n := n) ins4
      by_cases d : x < a + n
      · rw [lineR_yes (taken_iff.2 (by omega)), show fateR 4 = 1 by decide]
        clear h g ht h1 h2 e1 e2 HM
        go_enter Try.func31, Try.ntmps31
        go_wp2
        go_ret2
        refine ⟨rfl, ?_⟩
        repeat' (first | with_reducible exact Below.refl _ _ | with_reducible refine Below.setCell ?_ ?_ _ | with_reducible refine Below.alloc ?_ ?_ _ | with_reducible refine below_drewN ?_ _ | with_reducible refine Below.drew ?_ | with_reducible refine Below.trans ?_ (Below.mono (by assumption) ?_) | with_reducible exact Nat.le_refl _ | with_reducible refine Nat.le_trans ?_ (Below.size (by assumption)) | with_reducible refine Nat.le_trans ?_ (size_alloc _ _) | with_reducible refine Nat.le_trans ?_ (size_set _ _ _) | with_reducible refine Nat.le_trans ?_ (size_drewN _ _) | with_reducible refine Nat.le_trans ?_ (size_drew _) | (simp; done) | (simp; omega) | omega)
      · rw [lineR_no (taken_no.2 (by omega)), carry_del c ins4]
        clear h g ht h1 h2 e1 e2 HM
        go_enter Try.func31, Try.ntmps31
        go_wp2
        go_ret2
        refine ⟨rfl, ?_⟩
        repeat' (first | with_reducible exact Below.refl _ _ | with_reducible refine Below.setCell ?_ ?_ _ | with_reducible refine Below.alloc ?_ ?_ _ | with_reducible refine below_drewN ?_ _ | with_reducible refine Below.drew ?_ | with_reducible refine Below.trans ?_ (Below.mono (by assumption) ?_) | with_reducible exact Nat.le_refl _ | with_reducible refine Nat.le_trans ?_ (Below.size (by assumption)) | with_reducible refine Nat.le_trans ?_ (size_alloc _ _) | with_reducible refine Nat.le_trans ?_ (size_set _ _ _) | with_reducible refine Nat.le_trans ?_ (size_drewN _ _) | with_reducible refine Nat.le_trans ?_ (size_drew _) | (simp; done) | (simp; omega) | omega)
end Go.Proofs.Ytkkoeanjmldmdaa
