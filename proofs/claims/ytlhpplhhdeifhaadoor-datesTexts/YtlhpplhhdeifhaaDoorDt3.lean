/-
  The contracts of dates' Serial, Weekday, partsOf, Parts and Months.
-/
import Derived.Test.YtlhpplhhdeifhaaDoorDt2
import Derived.Deep.LoopGhost
namespace Go.Proofs.YtlhpplhhdeifhaaDoor
open Go.RowKit

set_option maxHeartbeats 2000000 in
theorem serial_any (y m d : Int) (w : World) (ht : LenOk w) :
    Calls Tryd.prog 9 #[.int .i64 y, .int .i64 m, .int .i64 d] w fun e w' => e = .returned (.tuple #[.int .i64 (serialR y m d).1, .int .i64 (serialR y m d).2]) ∧ Below w.heap.size w w' := by
  have HM : Hid (∀ W : World, Calls Tryd.prog 24 #[.int .i64 m, .int .i64 100000] W fun e w' => e = .returned (.bool (decide (-100000 ≤ m ∧ m ≤ 100000))) ∧ w' = W) := fun W => within_any m 100000 W (by decide) (by decide)
  have HD : Hid (∀ W : World, Calls Tryd.prog 24 #[.int .i64 d, .int .i64 100000] W fun e w' => e = .returned (.bool (decide (-100000 ≤ d ∧ d ≤ 100000))) ∧ w' = W) := fun W => within_any d 100000 W (by decide) (by decide)
  by_cases a1 : y < 1900
  · rw [serial_no (by omega)]
    go_enter Tryd.func9, Tryd.ntmps9
    go_wp2
    go_ret2
    exact ⟨rfl, Below.refl _ _⟩
  · by_cases a2 : 9999 < y
    · rw [serial_no (by omega)]
      go_enter Tryd.func9, Tryd.ntmps9
      go_wp2
      go_ret2
      exact ⟨rfl, Below.refl _ _⟩
    · by_cases a3 : -100000 ≤ m ∧ m ≤ 100000
      · rw [decide_eq_true a3] at HM
        by_cases a4 : -100000 ≤ d ∧ d ≤ 100000
        · rw [decide_eq_true a4] at HD
          rw [serial_yes (by omega)]
          have HC : Hid (∀ W : World, Below w.heap.size w W → Calls Tryd.prog 26 #[.agg #[.int .i64 y, .int .i64 m, .int .i64 d]] W fun e w' => e = .returned (.int .i64 (countR y m d)) ∧ Below W.heap.size W w') := fun W hW => count_any y m d W (by omega) (by omega) (by omega) (by omega) (by omega) (by omega) (len_below ht hW)
          have HY : Hid (∀ W : World, Calls Tryd.prog 25 #[.int .i64 (countR y m d)] W fun e w' => e = .returned (.tuple #[.int .i64 (dailyR (countR y m d)).1, .int .i64 (dailyR (countR y m d)).2]) ∧ w' = W) := fun W => daily_any (countR y m d) W
          generalize countR y m d = N at *
          generalize dailyR N = R at *
          clear ht a3 a4
          go_enter Tryd.func9, Tryd.ntmps9
          go_wp2_with fail
          refine (HM.out _).mono ?_
          rintro e wz ⟨rfl, hz⟩
          subst wz
          go_wp2_with fail
          refine (HD.out _).mono ?_
          rintro e wz ⟨rfl, hz⟩
          subst wz
          go_wp2_with fail
          refine (HC.out _ (by repeat' (first | with_reducible exact Below.refl _ _ | with_reducible refine Below.setCell ?_ ?_ _ | with_reducible refine Below.alloc ?_ ?_ _ | with_reducible refine below_drewN ?_ _ | with_reducible refine Below.drew ?_ | with_reducible refine Below.trans ?_ (Below.mono (by assumption) ?_) | with_reducible exact Nat.le_refl _ | with_reducible refine Nat.le_trans ?_ (Below.size (by assumption)) | with_reducible refine Nat.le_trans ?_ (size_alloc _ _) | with_reducible refine Nat.le_trans ?_ (size_set _ _ _) | with_reducible refine Nat.le_trans ?_ (size_drewN _ _) | with_reducible refine Nat.le_trans ?_ (size_drew _) | (simp; done) | (simp; omega) | omega))).mono ?_
          rintro e w1 ⟨rfl, hb1⟩
          go_wp2_with fail
          refine (HY.out _).mono ?_
          rintro e wz ⟨rfl, hz⟩
          subst wz
          go_wp2
          go_ret2
          refine ⟨rfl, ?_⟩
          repeat' (first | with_reducible exact Below.refl _ _ | with_reducible refine Below.setCell ?_ ?_ _ | with_reducible refine Below.alloc ?_ ?_ _ | with_reducible refine below_drewN ?_ _ | with_reducible refine Below.drew ?_ | with_reducible refine Below.trans ?_ (Below.mono (by assumption) ?_) | with_reducible exact Nat.le_refl _ | with_reducible refine Nat.le_trans ?_ (Below.size (by assumption)) | with_reducible refine Nat.le_trans ?_ (size_alloc _ _) | with_reducible refine Nat.le_trans ?_ (size_set _ _ _) | with_reducible refine Nat.le_trans ?_ (size_drewN _ _) | with_reducible refine Nat.le_trans ?_ (size_drew _) | (simp; done) | (simp; omega) | omega)
        · rw [decide_eq_false a4] at HD
          rw [serial_no (fun h => a4 ⟨h.2.2.2.2.1, h.2.2.2.2.2⟩)]
          clear a3 a4
          go_enter Tryd.func9, Tryd.ntmps9
          go_wp2_with fail
          refine (HM.out _).mono ?_
          rintro e wz ⟨rfl, hz⟩
          subst wz
          go_wp2_with fail
          refine (HD.out _).mono ?_
          rintro e wz ⟨rfl, hz⟩
          subst wz
          go_wp2
          go_ret2
          exact ⟨rfl, Below.refl _ _⟩
      · rw [decide_eq_false a3] at HM
        rw [serial_no (fun h => a3 ⟨h.2.2.1, h.2.2.2.1⟩)]
        clear a3
        go_enter Tryd.func9, Tryd.ntmps9
        go_wp2_with fail
        refine (HM.out _).mono ?_
        rintro e wz ⟨rfl, hz⟩
        subst wz
        go_wp2
        go_ret2
        exact ⟨rfl, Below.refl _ _⟩
/-- What Weekday tells. -/
def weekR (n : Int) : Int × Int := if 1 ≤ n ∧ n ≤ 2958464 then (n % 7 + 1, 0) else (0, 2)
theorem week_yes {n : Int} (h : 1 ≤ n ∧ n ≤ 2958464) : weekR n = (n % 7 + 1, 0) := by unfold weekR; rw [if_pos h]
theorem week_no {n : Int} (h : ¬ (1 ≤ n ∧ n ≤ 2958464)) : weekR n = (0, 2) := by unfold weekR; rw [if_neg h]
set_option maxHeartbeats 1000000 in
theorem weekday_any (n : Int) (w : World) :
    Calls Tryd.prog 16 #[.int .i64 n] w fun e w' => e = .returned (.tuple #[.int .i64 (weekR n).1, .int .i64 (weekR n).2]) ∧ Below w.heap.size w w' := by
  have HI : Hid (∀ W : World, Calls Tryd.prog 29 #[.int .i64 n] W fun e w' => e = .returned (.bool (decide (1 ≤ n ∧ n ≤ 2958464))) ∧ w' = W) := fun W => isDay_any n W
  by_cases a : 1 ≤ n ∧ n ≤ 2958464
  · rw [decide_eq_true a] at HI
    rw [week_yes a]
    obtain ⟨a1, a2⟩ := a
    have h0 : 0 ≤ n := by omega
    go_enter Tryd.func16, Tryd.ntmps16
    go_wp2_with (go_at_call 29; refine (HI.out _).mono ?_; rintro e wz ⟨rfl, hz⟩; subst wz)
    go_ret2
    exact ⟨rfl, Below.refl _ _⟩
  · rw [decide_eq_false a] at HI
    rw [week_no a]
    clear a
    go_enter Tryd.func16, Tryd.ntmps16
    go_wp2_with (go_at_call 29; refine (HI.out _).mono ?_; rintro e wz ⟨rfl, hz⟩; subst wz)
    go_ret2
    exact ⟨rfl, Below.refl _ _⟩
theorem start_year {n y : Int} (h1 : 1900 ≤ y) (h2 : n ≤ dA (y + 1)) (h3 : 1 ≤ n) : 1900 + (n - 1) / 366 ≤ y := by
  unfold dA lpA at h2
  omega
/-- The parts in block b, the result in block a; all that was there at the start is as it was. -/
structure P2 (w0 : World) (a b : Nat) (x y z : Int) (w : World) : Prop where
  p : Has3 w b x y z
  r : Has3 w a 0 0 0
  k : Below w0.heap.size w0 w
  ab : a ≠ b
  b0 : w0.heap.size ≤ b
  a0 : w0.heap.size ≤ a
theorem P2.below {w0 w w' : World} {a b : Nat} {x y z : Int} (h : P2 w0 a b x y z w) (q : Below w.heap.size w w') : P2 w0 a b x y z w' :=
  ⟨h.p.below q, h.r.below q, h.k.trans (q.mono h.k.size), h.ab, h.b0, h.a0⟩
theorem P2.drew {w0 w : World} {a b : Nat} {x y z : Int} (h : P2 w0 a b x y z w) : P2 w0 a b x y z w.drew := h.below (Below.refl _ _).drew
theorem P2.set0 {w0 w : World} {a b : Nat} {x y z : Int} (h : P2 w0 a b x y z w) (v : Int) : P2 w0 a b v y z (w.setCell ⟨b, 0, none⟩ (.int .i64 v)) := by
  obtain ⟨⟨⟨h0, h1, h2, h3⟩, f0, f1, f2⟩, ⟨⟨g0, g1, g2, g3⟩, e0, e1, e2⟩, k, ab, b0, a0⟩ := h
  refine ⟨⟨⟨by simpa using h0, ?_, ?_, ?_⟩, ?_, ?_, ?_⟩, ⟨⟨by simpa using g0, ?_, ?_, ?_⟩, ?_, ?_, ?_⟩, Below.setCell k b0 _, ab, b0, a0⟩ <;> simp [go_sem, *]
theorem P2.set1 {w0 w : World} {a b : Nat} {x y z : Int} (h : P2 w0 a b x y z w) (v : Int) : P2 w0 a b x v z (w.setCell ⟨b, 1, none⟩ (.int .i64 v)) := by
  obtain ⟨⟨⟨h0, h1, h2, h3⟩, f0, f1, f2⟩, ⟨⟨g0, g1, g2, g3⟩, e0, e1, e2⟩, k, ab, b0, a0⟩ := h
  refine ⟨⟨⟨by simpa using h0, ?_, ?_, ?_⟩, ?_, ?_, ?_⟩, ⟨⟨by simpa using g0, ?_, ?_, ?_⟩, ?_, ?_, ?_⟩, Below.setCell k b0 _, ab, b0, a0⟩ <;> simp [go_sem, *]
theorem P2.set2 {w0 w : World} {a b : Nat} {x y z : Int} (h : P2 w0 a b x y z w) (v : Int) : P2 w0 a b x y v (w.setCell ⟨b, 2, none⟩ (.int .i64 v)) := by
  obtain ⟨⟨⟨h0, h1, h2, h3⟩, f0, f1, f2⟩, ⟨⟨g0, g1, g2, g3⟩, e0, e1, e2⟩, k, ab, b0, a0⟩ := h
  refine ⟨⟨⟨by simpa using h0, ?_, ?_, ?_⟩, ?_, ?_, ?_⟩, ⟨⟨by simpa using g0, ?_, ?_, ?_⟩, ?_, ?_, ?_⟩, Below.setCell k b0 _, ab, b0, a0⟩ <;> simp [go_sem, *]
theorem P2.new (w : World) (x y z : Int) (t t' : TypeId) : P2 w w.heap.size (w.heap.size + 1) x y z ((w.alloc (.cells #[.int .i64 0, .int .i64 0, .int .i64 0] t)).alloc (.cells #[.int .i64 x, .int .i64 y, .int .i64 z] t')) := by
  have := Has3.new (w.alloc (.cells #[.int .i64 0, .int .i64 0, .int .i64 0] t)) x y z t'
  exact ⟨by simpa using this, (Has3.new w 0 0 0 t).alloc _, ((Below.refl _ _).alloc (Nat.le_refl _) _).alloc (by simp) _, by omega, by omega, Nat.le_refl _⟩
theorem P2.t {w0 w : World} {a b : Nat} {x y z : Int} (h : P2 w0 a b x y z w) : w.cell? ⟨b, 0, none⟩ = some (.int .i64 x) ∧ w.cell? ⟨b, 1, none⟩ = some (.int .i64 y) ∧ w.cell? ⟨b, 2, none⟩ = some (.int .i64 z) ∧ P2 w0 a b x y z w := ⟨h.p.1.2.1, h.p.1.2.2.1, h.p.1.2.2.2, h⟩
theorem T2.drew {w0 w : World} {a b : Nat} {x y z : Int} (h : w.cell? ⟨b, 0, none⟩ = some (.int .i64 x) ∧ w.cell? ⟨b, 1, none⟩ = some (.int .i64 y) ∧ w.cell? ⟨b, 2, none⟩ = some (.int .i64 z) ∧ P2 w0 a b x y z w) : w.drew.cell? ⟨b, 0, none⟩ = some (.int .i64 x) ∧ w.drew.cell? ⟨b, 1, none⟩ = some (.int .i64 y) ∧ w.drew.cell? ⟨b, 2, none⟩ = some (.int .i64 z) ∧ P2 w0 a b x y z w.drew := h.2.2.2.drew.t
theorem T2.out {w0 w : World} {a b : Nat} {x y z : Int} (h : w.cell? ⟨b, 0, none⟩ = some (.int .i64 x) ∧ w.cell? ⟨b, 1, none⟩ = some (.int .i64 y) ∧ w.cell? ⟨b, 2, none⟩ = some (.int .i64 z) ∧ P2 w0 a b x y z w) : P2 w0 a b x y z w := h.2.2.2
set_option maxHeartbeats 2000000 in
theorem partsOf_any (y : Int) (k : Nat) (d n : Int) (w : World) (h : DayIs y k d n) (ht : LenOk w) :
    Calls Tryd.prog 30 #[.int .i64 n] w fun e w' => e = .returned (.agg #[.int .i64 y, .int .i64 ((k : Int) + 1), .int .i64 d]) ∧ Below w.heap.size w w' := by
  have HT := hide ht
  clear ht
  obtain ⟨n1, n2⟩ := h.day
  obtain ⟨r1, r2⟩ := h.within
  have y1 := h.y1
  have y2 := h.y2
  have s0 := start_year y1 r2 n1
  have s1 : 0 ≤ n - 1 := by omega
  have HH := hide h
  clear h
  go_enter Tryd.func30, Tryd.ntmps30
  go_wp2
  have hP := P2.new w (1900 + (n - 1) / 366) 1 1 47 47
  generalize ((w.alloc (Obj.cells #[.int .i64 0, .int .i64 0, .int .i64 0] 47)).alloc (Obj.cells #[.int .i64 (1900 + (n - 1) / 366), .int .i64 1, .int .i64 1] 47)) = W0 at *
  obtain ⟨G, hG⟩ : ∃ G : Nat, 1900 + (n - 1) / 366 + (G : Int) = y := ⟨(y - (1900 + (n - 1) / 366)).toNat, by omega⟩
  go_loopg [] G (fun g wx => ∃ q : Int, 1900 ≤ q ∧ q + (g : Int) = y ∧ P2 w w.heap.size (w.heap.size + 1) q 1 1 wx)
  case atStart => exact ⟨_, by omega, hG, hP⟩
  case round =>
    obtain ⟨q, hq, hqg, hp⟩ := hrel
    have ⟨⟨⟨z0, c0, c1, c2⟩, f0, f1, f2⟩, ⟨⟨z1, d0, d1, d2⟩, g0, g1, g2⟩, hB, _, _, _⟩ := hp
    have HP := hide hp
    have HD : Hid (∀ W : World, Calls Tryd.prog 38 #[.int .i64 (q + 1)] W fun e w' => e = .returned (.int .i64 (dA (q + 1))) ∧ Below W.heap.size W w') := fun W => daysAhead_any (q + 1) W (by omega) (by omega)
    cases gk with
    | zero =>
      obtain rfl : q = y := by omega
      have l1 : ¬ dA (q + 1) < n := by omega
      go_wp2_with fail
      refine (HD.out _).mono ?_
      rintro e w1 ⟨rfl, hb1⟩
      have HP1 := hide (HP.out.below hb1)
      have ⟨⟨⟨z0, c0, c1, c2⟩, f0, f1, f2⟩, ⟨⟨z1, d0, d1, d2⟩, g0, g1, g2⟩, hB, _, _, _⟩ := HP1.out
      have HD2 : Hid (∀ W : World, Calls Tryd.prog 38 #[.int .i64 q] W fun e w' => e = .returned (.int .i64 (dA q)) ∧ Below W.heap.size W w') := fun W => daysAhead_any q W (by omega) (by omega)
      have ⟨b1, b2⟩ := dA_bd q (by omega) (by omega)
      go_wp2_with fail
      refine (HD2.out _).mono ?_
      rintro e w2 ⟨rfl, hb2⟩
      have HP2 := hide (HP1.out.below hb2)
      clear z0 c0 c1 c2 f0 f1 f2 z1 d0 d1 d2 g0 g1 g2 hB HP1 HP
      have ⟨⟨⟨z0, c0, c1, c2⟩, f0, f1, f2⟩, ⟨⟨z1, d0, d1, d2⟩, g0, g1, g2⟩, hB, _, _, _⟩ := HP2.out
      go_wp2
      have HP3 := hide (HP2.out.set2 (n - dA q))
      clear z0 c0 c1 c2 f0 f1 f2 z1 d0 d1 d2 g0 g1 g2 hB HP2
      generalize w2.setCell ⟨w.heap.size + 1, 2, none⟩ (.int .i64 (n - dA q)) = w3 at *
      have HN := hide HH.out.n1
      have HK := hide HH.out.k1
      have HE1 := hide HH.out.d1
      have HE2 := hide HH.out.d2
      generalize dA q = D at *
      go_loopg [] k (fun g wx => ∃ j : Nat, j + g = k ∧ P2 w w.heap.size (w.heap.size + 1) q ((j : Int) + 1) (n - D - cum q j) wx)
      case atStart => exact ⟨0, by omega, by have := HP3.out; simpa [cum] using this⟩
      case round =>
        obtain ⟨j, hjg, hp⟩ := hrel
        have HP := hide hp
        clear hp HP3
        have q0 := cum_le q j
        have HJ : Hid (j < 12) := by have := HK.out; show j < 12; omega
        have hj : (j : Int) < 12 := by have := HJ.out; omega
        have HL : Hid (∀ W : World, P2 w w.heap.size (w.heap.size + 1) q ((j : Int) + 1) (n - D - cum q j) W → Calls Tryd.prog 35 #[.int .i64 q, .int .i64 ((j : Int) + 1)] W fun e w' => e = .returned (.int .i64 (lenM q (j + 1))) ∧ w' = W) := fun W hW => lengthOf_any q j W HJ.out (len_below HT.out hW.k)
        have HCu : Hid (cum q (j + 1) = cum q j + lenM q (j + 1)) := rfl
        have hl := len_bd q (j + 1)
        cases gk with
        | zero =>
          obtain rfl : j = k := by omega
          have l1 : ¬ lenM q (j + 1) < n - D - cum q j := by have := HN.out; have := HE2.out; omega
          have l2 : n - D - cum q j = d := by have := HN.out; omega
          rw [l2] at l1 HP HL
          generalize lenM q (j + 1) = L at *
          have ⟨⟨⟨z0, c0, c1, c2⟩, f0, f1, f2⟩, ⟨⟨z1, d0, d1, d2⟩, g0, g1, g2⟩, hB, _, _, _⟩ := HP.out
          clear l2
          have HS := hide HP.out.t
          clear z0 c0 c1 c2 f0 f1 f2 z1 d0 d1 d2 g0 g1 g2 hB
          go_wp2_with fail
          go_region_held3 (fun w' => w'.cell? ⟨w.heap.size + 1, 0, none⟩ = some (.int .i64 q) ∧ w'.cell? ⟨w.heap.size + 1, 1, none⟩ = some (.int .i64 ((j : Int) + 1)) ∧ w'.cell? ⟨w.heap.size + 1, 2, none⟩ = some (.int .i64 d) ∧ P2 w w.heap.size (w.heap.size + 1) q ((j : Int) + 1) d w') (first | exact HS.out | assumption | exact T2.drew (by assumption)) (first | (go_at_call 35; refine (HL.out _ (T2.out (by assumption))).mono ?_; rintro e wz ⟨rfl, hz⟩; subst wz))
          have HP4 := hide HP.out.drew
          clear HS
          generalize wr.drew = w4 at *
          have ⟨⟨⟨z0, c0, c1, c2⟩, f0, f1, f2⟩, ⟨⟨z1, d0, d1, d2⟩, g0, g1, g2⟩, hB, _, _, _⟩ := HP4.out
          go_wp2
          refine bodyPost_ret (v := .agg #[.int .i64 q, .int .i64 ((j : Int) + 1), .int .i64 d]) (by simp [results, Tryd.results30, go_sem, *]) rfl ⟨rfl, ?_⟩
          repeat' (first | with_reducible exact Below.refl _ _ | with_reducible refine Below.setCell ?_ ?_ _ | with_reducible refine Below.alloc ?_ ?_ _ | with_reducible refine below_drewN ?_ _ | with_reducible refine Below.drew ?_ | with_reducible refine Below.trans ?_ (Below.mono (by assumption) ?_) | with_reducible exact Nat.le_refl _ | with_reducible refine Nat.le_trans ?_ (Below.size (by assumption)) | with_reducible refine Nat.le_trans ?_ (size_alloc _ _) | with_reducible refine Nat.le_trans ?_ (size_set _ _ _) | with_reducible refine Nat.le_trans ?_ (size_drewN _ _) | with_reducible refine Nat.le_trans ?_ (size_drew _) | (simp; done) | (simp; omega) | omega)
        | succ g =>
          have l1 : lenM q (j + 1) < n - D - cum q j := by have := HN.out; have := HE1.out; have := cum_mono q (show j + 1 ≤ k by omega); rw [HCu.out] at this; omega
          obtain ⟨V, hV⟩ : ∃ V : Int, V = n - D - cum q j := ⟨_, rfl⟩
          rw [← hV] at l1 HP HL
          have HV : Hid (V - lenM q (j + 1) = n - D - cum q (j + 1)) := by show _ = _; rw [HCu.out, hV]; omega
          have v1 : V ≤ 1000 := by have := HN.out; have := HE2.out; have := cum_le q k; have := len_bd q (k + 1); have := HK.out; omega
          generalize lenM q (j + 1) = L at *
          have ⟨⟨⟨z0, c0, c1, c2⟩, f0, f1, f2⟩, ⟨⟨z1, d0, d1, d2⟩, g0, g1, g2⟩, hB, _, _, _⟩ := HP.out
          clear hV
          obtain ⟨q5, q6⟩ := hl
          have v2 : IntKind.i64.wrap (V - L) = V - L := by rw [IntKind.wrap_i64]; omega
          have HS := hide HP.out.t
          clear z0 c0 c1 c2 f0 f1 f2 z1 d0 d1 d2 g0 g1 g2 hB
          go_wp2_with fail
          go_region_held3 (fun w' => w'.cell? ⟨w.heap.size + 1, 0, none⟩ = some (.int .i64 q) ∧ w'.cell? ⟨w.heap.size + 1, 1, none⟩ = some (.int .i64 ((j : Int) + 1)) ∧ w'.cell? ⟨w.heap.size + 1, 2, none⟩ = some (.int .i64 V) ∧ P2 w w.heap.size (w.heap.size + 1) q ((j : Int) + 1) V w') (first | exact HS.out | assumption | exact T2.drew (by assumption)) (first | (go_at_call 35; refine (HL.out _ (T2.out (by assumption))).mono ?_; rintro e wz ⟨rfl, hz⟩; subst wz))
          have HP4 := hide HP.out.drew
          clear HS
          generalize wr.drew = w4 at *
          have ⟨⟨⟨z0, c0, c1, c2⟩, f0, f1, f2⟩, ⟨⟨z1, d0, d1, d2⟩, g0, g1, g2⟩, hB, _, _, _⟩ := HP4.out
          go_wp2_with fail
          go_region_with (first | (go_at_call 35; refine (HL.out _ (by first | exact HP4.out | exact HP4.out.drew | exact HP4.out.drew.drew)).mono ?_; rintro e wz ⟨rfl, hz⟩; subst wz))
          all_goals go_wp2
          all_goals go_roundg g
          all_goals first | (show g < g + 1; omega) | skip
          all_goals
            refine ⟨j + 1, by omega, ?_⟩
            have HQ := (HP4.out.set2 (V - L)).drew.set1 ((j : Int) + 1 + 1)
            rw [HV.out] at HQ ⊢
            rw [show ((j + 1 : Nat) : Int) + 1 = (j : Int) + 1 + 1 by omega]
            first | exact HQ | exact ((HP4.out.set2 _).set1 _).drew
    | succ g =>
      have l1 : dA (q + 1) < n := by have := dA_mono (show q + 1 ≤ y by omega); omega
      go_wp2_with fail
      refine (HD.out _).mono ?_
      rintro e w1 ⟨rfl, hb1⟩
      have HP1 := hide (HP.out.below hb1)
      have ⟨⟨⟨z0, c0, c1, c2⟩, f0, f1, f2⟩, ⟨⟨z1, d0, d1, d2⟩, g0, g1, g2⟩, hB, _, _, _⟩ := HP1.out
      go_wp2
      go_roundg g
      case measure => omega
      case rel => exact ⟨q + 1, by omega, by omega, HP1.out.set0 _⟩
end Go.Proofs.YtlhpplhhdeifhaaDoor
