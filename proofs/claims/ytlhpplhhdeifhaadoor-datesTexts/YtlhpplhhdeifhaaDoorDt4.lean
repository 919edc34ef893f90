/-
  The contracts of dates' Parts and Months.
-/
import Derived.Test.YtlhpplhhdeifhaaDoorDt3
namespace Go.Proofs.YtlhpplhhdeifhaaDoor
open Go.RowKit

/-- The parts in block b; all that was there at the start is as it was. -/
structure Q3 (w0 : World) (b : Nat) (x y z : Int) (w : World) : Prop where
  p : Has3 w b x y z
  k : Below w0.heap.size w0 w
  b0 : w0.heap.size ≤ b
theorem Q3.below {w0 w w' : World} {b : Nat} {x y z : Int} (h : Q3 w0 b x y z w) (q : Below w.heap.size w w') : Q3 w0 b x y z w' := ⟨h.p.below q, h.k.trans (q.mono h.k.size), h.b0⟩
theorem Q3.drew {w0 w : World} {b : Nat} {x y z : Int} (h : Q3 w0 b x y z w) : Q3 w0 b x y z w.drew := h.below (Below.refl _ _).drew
theorem Q3.store {w0 w : World} {b : Nat} {x y z : Int} (h : Q3 w0 b x y z w) (x' y' z' : Int) : Q3 w0 b x' y' z' (((w.setCell ⟨b, 0, none⟩ (.int .i64 x')).setCell ⟨b, 1, none⟩ (.int .i64 y')).setCell ⟨b, 2, none⟩ (.int .i64 z')) := ⟨h.p.store x' y' z', below_store h.k h.b0 _ _ _, h.b0⟩
theorem Q3.set1 {w0 w : World} {b : Nat} {x y z : Int} (h : Q3 w0 b x y z w) (v : Int) : Q3 w0 b x v z (w.setCell ⟨b, 1, none⟩ (.int .i64 v)) := by
  obtain ⟨⟨⟨h0, h1, h2, h3⟩, f0, f1, f2⟩, k, b0⟩ := h
  refine ⟨⟨⟨by simpa using h0, ?_, ?_, ?_⟩, ?_, ?_, ?_⟩, Below.setCell k b0 _, b0⟩ <;> simp [go_sem, *]
theorem Q3.set2 {w0 w : World} {b : Nat} {x y z : Int} (h : Q3 w0 b x y z w) (v : Int) : Q3 w0 b x y v (w.setCell ⟨b, 2, none⟩ (.int .i64 v)) := by
  obtain ⟨⟨⟨h0, h1, h2, h3⟩, f0, f1, f2⟩, k, b0⟩ := h
  refine ⟨⟨⟨by simpa using h0, ?_, ?_, ?_⟩, ?_, ?_, ?_⟩, Below.setCell k b0 _, b0⟩ <;> simp [go_sem, *]
theorem Q3.new {w0 w : World} (k : Below w0.heap.size w0 w) (x y z : Int) (t : TypeId) : Q3 w0 w.heap.size x y z (w.alloc (.cells #[.int .i64 x, .int .i64 y, .int .i64 z] t)) := ⟨Has3.new w x y z t, k.alloc k.size _, k.size⟩
theorem Q3.t {w0 w : World} {b : Nat} {x y z : Int} (h : Q3 w0 b x y z w) : w.cell? ⟨b, 0, none⟩ = some (.int .i64 x) ∧ w.cell? ⟨b, 1, none⟩ = some (.int .i64 y) ∧ w.cell? ⟨b, 2, none⟩ = some (.int .i64 z) ∧ Q3 w0 b x y z w := ⟨h.p.1.2.1, h.p.1.2.2.1, h.p.1.2.2.2, h⟩
theorem U3.drew {w0 w : World} {b : Nat} {x y z : Int} (h : w.cell? ⟨b, 0, none⟩ = some (.int .i64 x) ∧ w.cell? ⟨b, 1, none⟩ = some (.int .i64 y) ∧ w.cell? ⟨b, 2, none⟩ = some (.int .i64 z) ∧ Q3 w0 b x y z w) : w.drew.cell? ⟨b, 0, none⟩ = some (.int .i64 x) ∧ w.drew.cell? ⟨b, 1, none⟩ = some (.int .i64 y) ∧ w.drew.cell? ⟨b, 2, none⟩ = some (.int .i64 z) ∧ Q3 w0 b x y z w.drew := h.2.2.2.drew.t
set_option maxHeartbeats 1000000 in
theorem parts_yes (y : Int) (k : Nat) (d n : Int) (w : World) (h : DayIs y k d n) (ht : LenOk w) :
    Calls Tryd.prog 14 #[.int .i64 n] w fun e w' => e = .returned (.tuple #[.int .i64 y, .int .i64 ((k : Int) + 1), .int .i64 d, .int .i64 0]) ∧ Below w.heap.size w w' := by
  have HI : Hid (∀ W : World, Calls Tryd.prog 29 #[.int .i64 n] W fun e w' => e = .returned (.bool true) ∧ w' = W) := fun W => by have := isDay_any n W; rw [decide_eq_true h.day] at this; exact this
  have HP : Hid (∀ W : World, Below w.heap.size w W → Calls Tryd.prog 30 #[.int .i64 n] W fun e w' => e = .returned (.agg #[.int .i64 y, .int .i64 ((k : Int) + 1), .int .i64 d]) ∧ Below W.heap.size W w') := fun W hW => partsOf_any y k d n W h (len_below ht hW)
  clear h ht
  go_enter Tryd.func14, Tryd.ntmps14
  go_wp2_with (first | (go_at_call 29; refine (HI.out _).mono ?_; rintro e wz ⟨rfl, hz⟩; subst wz) | (go_at_call 30; refine (HP.out _ (by repeat' (first | with_reducible exact Below.refl _ _ | with_reducible refine Below.setCell ?_ ?_ _ | with_reducible refine Below.alloc ?_ ?_ _ | with_reducible refine below_drewN ?_ _ | with_reducible refine Below.drew ?_ | with_reducible refine Below.trans ?_ (Below.mono (by assumption) ?_) | with_reducible exact Nat.le_refl _ | with_reducible refine Nat.le_trans ?_ (Below.size (by assumption)) | with_reducible refine Nat.le_trans ?_ (size_alloc _ _) | with_reducible refine Nat.le_trans ?_ (size_set _ _ _) | with_reducible refine Nat.le_trans ?_ (size_drewN _ _) | with_reducible refine Nat.le_trans ?_ (size_drew _) | (simp; done) | (simp; omega) | omega))).mono ?_; rintro e w1 ⟨rfl, hb1⟩))
  have HS := hide (Q3.new hb1 y ((k : Int) + 1) d 47).t
  go_region_held3 (fun w' => w'.cell? ⟨w1.heap.size, 0, none⟩ = some (.int .i64 y) ∧ w'.cell? ⟨w1.heap.size, 1, none⟩ = some (.int .i64 ((k : Int) + 1)) ∧ w'.cell? ⟨w1.heap.size, 2, none⟩ = some (.int .i64 d) ∧ Q3 w w1.heap.size y ((k : Int) + 1) d w') (first | exact HS.out | assumption | exact U3.drew (by assumption)) (fail)
  go_wp2
  refine bodyPost_ret (v := .tuple #[.int .i64 y, .int .i64 ((k : Int) + 1), .int .i64 d, .int .i64 0]) (by simp [results, Tryd.results14, go_sem, *]) rfl ⟨rfl, ?_⟩
  repeat' (first | with_reducible exact Below.refl _ _ | with_reducible refine Below.setCell ?_ ?_ _ | with_reducible refine Below.alloc ?_ ?_ _ | with_reducible refine below_drewN ?_ _ | with_reducible refine Below.drew ?_ | with_reducible refine Below.trans ?_ (Below.mono (by assumption) ?_) | with_reducible exact Nat.le_refl _ | with_reducible refine Nat.le_trans ?_ (Below.size (by assumption)) | with_reducible refine Nat.le_trans ?_ (size_alloc _ _) | with_reducible refine Nat.le_trans ?_ (size_set _ _ _) | with_reducible refine Nat.le_trans ?_ (size_drewN _ _) | with_reducible refine Nat.le_trans ?_ (size_drew _) | (simp; done) | (simp; omega) | omega)
set_option maxHeartbeats 1000000 in
theorem parts_no (n : Int) (w : World) (h : ¬ (1 ≤ n ∧ n ≤ 2958464)) :
    Calls Tryd.prog 14 #[.int .i64 n] w fun e w' => e = .returned (.tuple #[.int .i64 0, .int .i64 0, .int .i64 0, .int .i64 2]) ∧ Below w.heap.size w w' := by
  have HI : Hid (∀ W : World, Calls Tryd.prog 29 #[.int .i64 n] W fun e w' => e = .returned (.bool false) ∧ w' = W) := fun W => by have := isDay_any n W; rw [decide_eq_false h] at this; exact this
  clear h
  go_enter Tryd.func14, Tryd.ntmps14
  go_wp2_with (first | (go_at_call 29; refine (HI.out _).mono ?_; rintro e wz ⟨rfl, hz⟩; subst wz))
  refine bodyPost_ret (v := .tuple #[.int .i64 0, .int .i64 0, .int .i64 0, .int .i64 2]) (by simp [results, Tryd.results14, go_sem]) rfl ⟨rfl, ?_⟩
  repeat' (first | with_reducible exact Below.refl _ _ | with_reducible refine Below.setCell ?_ ?_ _ | with_reducible refine Below.alloc ?_ ?_ _ | with_reducible refine below_drewN ?_ _ | with_reducible refine Below.drew ?_ | with_reducible refine Below.trans ?_ (Below.mono (by assumption) ?_) | with_reducible exact Nat.le_refl _ | with_reducible refine Nat.le_trans ?_ (Below.size (by assumption)) | with_reducible refine Nat.le_trans ?_ (size_alloc _ _) | with_reducible refine Nat.le_trans ?_ (size_set _ _ _) | with_reducible refine Nat.le_trans ?_ (size_drewN _ _) | with_reducible refine Nat.le_trans ?_ (size_drew _) | (simp; done) | (simp; omega) | omega)
set_option maxHeartbeats 1000000 in
theorem months_no (n s : Int) (w : World) (h : ¬ ((1 ≤ n ∧ n ≤ 2958464) ∧ -120000 ≤ s ∧ s ≤ 120000)) :
    Calls Tryd.prog 20 #[.int .i64 n, .int .i64 s] w fun e w' => e = .returned (.tuple #[.int .i64 0, .int .i64 2]) ∧ Below w.heap.size w w' := by
  have HI : Hid (∀ W : World, Calls Tryd.prog 29 #[.int .i64 n] W fun e w' => e = .returned (.bool (decide (1 ≤ n ∧ n ≤ 2958464))) ∧ w' = W) := fun W => isDay_any n W
  have HW : Hid (∀ W : World, Calls Tryd.prog 24 #[.int .i64 s, .int .i64 120000] W fun e w' => e = .returned (.bool (decide (-120000 ≤ s ∧ s ≤ 120000))) ∧ w' = W) := fun W => within_any s 120000 W (by decide) (by decide)
  by_cases a : 1 ≤ n ∧ n ≤ 2958464
  · rw [decide_eq_true a] at HI
    rw [decide_eq_false (fun q => h ⟨a, q⟩)] at HW
    clear h a
    go_enter Tryd.func20, Tryd.ntmps20
    go_wp2_with (first | (go_at_call 29; refine (HI.out _).mono ?_; rintro e wz ⟨rfl, hz⟩; subst wz) | (go_at_call 24; refine (HW.out _).mono ?_; rintro e wz ⟨rfl, hz⟩; subst wz))
    go_ret2
    exact ⟨rfl, Below.refl _ _⟩
  · rw [decide_eq_false a] at HI
    clear h a
    go_enter Tryd.func20, Tryd.ntmps20
    go_wp2_with (first | (go_at_call 29; refine (HI.out _).mono ?_; rintro e wz ⟨rfl, hz⟩; subst wz))
    go_ret2
    exact ⟨rfl, Below.refl _ _⟩
set_option maxHeartbeats 2000000 in
theorem months_yes (y : Int) (k : Nat) (d n s : Int) (w : World) (h : DayIs y k d n) (s1 : -120000 ≤ s) (s2 : s ≤ 120000) (ht : LenOk w) :
    Calls Tryd.prog 20 #[.int .i64 n, .int .i64 s] w fun e w' => e = .returned (.tuple #[.int .i64 (monthsR y k d s).1, .int .i64 (monthsR y k d s).2]) ∧ Below w.heap.size w w' := by
  have HT := hide ht
  have HI : Hid (∀ W : World, Calls Tryd.prog 29 #[.int .i64 n] W fun e w' => e = .returned (.bool true) ∧ w' = W) := fun W => by have := isDay_any n W; rw [decide_eq_true h.day] at this; exact this
  have HW : Hid (∀ W : World, Calls Tryd.prog 24 #[.int .i64 s, .int .i64 120000] W fun e w' => e = .returned (.bool true) ∧ w' = W) := fun W => by have := within_any s 120000 W (by decide) (by decide); rw [decide_eq_true (And.intro s1 s2)] at this; exact this
  have HP : Hid (∀ W : World, Below w.heap.size w W → Calls Tryd.prog 30 #[.int .i64 n] W fun e w' => e = .returned (.agg #[.int .i64 y, .int .i64 ((k : Int) + 1), .int .i64 d]) ∧ Below W.heap.size W w') := fun W hW => partsOf_any y k d n W h (len_below ht hW)
  have y1 := h.y1
  have y2 := h.y2
  have k1 := h.k1
  have d1 := h.d1
  have d2 := h.dle
  have HC : Hid (∀ W : World, Calls Tryd.prog 34 #[.agg #[.int .i64 y, .int .i64 ((k : Int) + 1 + s), .int .i64 d]] W fun e w' => e = .returned (.agg #[.int .i64 (stepY y k s), .int .i64 ((stepM k s : Int) + 1), .int .i64 d]) ∧ Below W.heap.size W w') := fun W => by
    have := carried_any y ((k : Int) + 1 + s) d W (by omega) (by omega) (by omega) (by omega)
    rw [show y + ((k : Int) + 1 + s - 1) / 12 = stepY y k s by unfold stepY; rw [show (k : Int) + 1 + s - 1 = k + s by omega], show ((k : Int) + 1 + s - 1) % 12 + 1 = (stepM k s : Int) + 1 by unfold stepM; omega] at this
    exact this
  have HL : Hid (∀ W : World, Below w.heap.size w W → Calls Tryd.prog 35 #[.int .i64 (stepY y k s), .int .i64 ((stepM k s : Int) + 1)] W fun e w' => e = .returned (.int .i64 (lenM (stepY y k s) (stepM k s + 1))) ∧ w' = W) := fun W hW => lengthOf_any _ _ W (stepM_lt k s) (len_below ht hW)
  have HN : Hid (∀ W : World, Below w.heap.size w W → Calls Tryd.prog 26 #[.agg #[.int .i64 (stepY y k s), .int .i64 ((stepM k s : Int) + 1), .int .i64 (min d (lenM (stepY y k s) (stepM k s + 1)))]] W fun e w' => e = .returned (.int .i64 (stepN y k d s)) ∧ Below W.heap.size W w') := fun W hW => by
    have q1 := len_bd (stepY y k s) (stepM k s + 1)
    have q2 := stepM_lt k s
    have := count_any (stepY y k s) ((stepM k s : Int) + 1) (min d (lenM (stepY y k s) (stepM k s + 1))) W (by unfold stepY; omega) (by unfold stepY; omega) (by omega) (by omega) (by omega) (by omega) (len_below ht hW)
    rw [count_date _ _ q2] at this
    exact this
  have HY : Hid (∀ W : World, Calls Tryd.prog 25 #[.int .i64 (stepN y k d s)] W fun e w' => e = .returned (.tuple #[.int .i64 (monthsR y k d s).1, .int .i64 (monthsR y k d s).2]) ∧ w' = W) := fun W => daily_any (stepN y k d s) W
  have q1 := len_bd (stepY y k s) (stepM k s + 1)
  generalize lenM (stepY y k s) (stepM k s + 1) = L at *
  generalize stepN y k d s = N at *
  generalize monthsR y k d s = R at *
  generalize stepY y k s = Y at *
  generalize stepM k s = M at *
  clear h ht
  have k2 : (k : Int) < 12 := by omega
  go_enter Tryd.func20, Tryd.ntmps20
  go_wp2_with (first | (go_at_call 29; refine (HI.out _).mono ?_; rintro e wz ⟨rfl, hz⟩; subst wz) | (go_at_call 24; refine (HW.out _).mono ?_; rintro e wz ⟨rfl, hz⟩; subst wz) | (go_at_call 30; refine (HP.out _ (by repeat' (first | with_reducible exact Below.refl _ _ | with_reducible refine Below.setCell ?_ ?_ _ | with_reducible refine Below.alloc ?_ ?_ _ | with_reducible refine below_drewN ?_ _ | with_reducible refine Below.drew ?_ | with_reducible refine Below.trans ?_ (Below.mono (by assumption) ?_) | with_reducible exact Nat.le_refl _ | with_reducible refine Nat.le_trans ?_ (Below.size (by assumption)) | with_reducible refine Nat.le_trans ?_ (size_alloc _ _) | with_reducible refine Nat.le_trans ?_ (size_set _ _ _) | with_reducible refine Nat.le_trans ?_ (size_drewN _ _) | with_reducible refine Nat.le_trans ?_ (size_drew _) | (simp; done) | (simp; omega) | omega))).mono ?_; rintro e w1 ⟨rfl, hb1⟩))
  refine (HC.out _).mono ?_
  rintro e w2 ⟨rfl, hb2⟩
  have HQ := hide ((Q3.new hb1 y ((k : Int) + 1 + s) d 47).below hb2)
  clear HI HW HP HC
  generalize w1.heap.size = b at *
  have ⟨⟨⟨z0, c0, c1, c2⟩, f0, f1, f2⟩, hB, hb0⟩ := HQ.out
  go_wp2_with fail
  have HQ2 := hide (HQ.out.store Y ((M : Int) + 1) d)
  clear z0 c0 c1 c2 f0 f1 f2 hB HQ hb1 hb2
  generalize (((w2.setCell ⟨b, 0, none⟩ (.int .i64 Y)).setCell ⟨b, 1, none⟩ (.int .i64 ((M : Int) + 1))).setCell ⟨b, 2, none⟩ (.int .i64 d)) = w3 at *
  have ⟨⟨⟨z0, c0, c1, c2⟩, f0, f1, f2⟩, hB, _⟩ := HQ2.out
  clear y1 y2 k1 k2 s1 s2
  go_region_with (first | (go_at_call 35; refine (HL.out _ (by first | exact HQ2.out.k | exact HQ2.out.k.drew | exact HQ2.out.k.drew.drew)).mono ?_; rintro e wz ⟨rfl, hz⟩; subst wz))
  all_goals
    have HQ4 := hide (HQ2.out.set2 (min d L)).drew
    clear z0 c0 c1 c2 f0 f1 f2 hB
    generalize (w3.setCell ⟨b, 2, none⟩ (.int .i64 (min d L))).drew = w4 at *
    have ⟨⟨⟨z0, c0, c1, c2⟩, f0, f1, f2⟩, hB, _⟩ := HQ4.out
    go_wp2_with (first | (go_at_call 26; refine (HN.out _ hB).mono ?_; rintro e w5 ⟨rfl, hb5⟩) | (go_at_call 25; refine (HY.out _).mono ?_; rintro e wz ⟨rfl, hz⟩; subst wz))
    go_ret2
    exact ⟨rfl, hB.trans (hb5.mono hB.size)⟩
end Go.Proofs.YtlhpplhhdeifhaaDoor
