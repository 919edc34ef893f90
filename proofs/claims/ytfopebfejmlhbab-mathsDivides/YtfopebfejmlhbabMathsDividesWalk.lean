/-
  The walk of MathsDivides.
-/
import Derived.Test.YtfopebfejmlhbabMa13
import Derived.OpenShut
namespace Go.Proofs.Ytfopebfejmlhbab
open Go.RowKit

theorem RowI.three {w : World} {b : Nat} {x y z : Int} (h0 : w.cell? ⟨b, 0, none⟩ = some (.int .i64 x)) (h1 : w.cell? ⟨b, 1, none⟩ = some (.int .i64 y)) (h2 : w.cell? ⟨b, 2, none⟩ = some (.int .i64 z)) : RowI w (some ⟨b, 0, none⟩) [x, y, z] :=
  ⟨show 3 ≤ 9223372036854775807 by decide, fun i hi => ⟨_, rfl, by
    have : i = 0 ∨ i = 1 ∨ i = 2 := by (have : i < 3 := hi); omega
    rcases this with rfl | rfl | rfl
    · exact h0
    · exact h1
    · exact h2⟩⟩
theorem wh_whole (a : Nat) : whN ((a : Int) * 1000000) = a := by unfold whN; omega
theorem whole_fits {a : Nat} (h : a ≤ 1000000000000) : fitsB ((a : Int) * 1000000) = true := fitsB_of (by omega) (by omega)
theorem not_neg (a : Nat) : decide ((a : Int) * 1000000 < 0) = false := decide_eq_false (by omega)
theorem gcd_three {a b c : Nat} (ha : a ≤ 1000000) (hb : b ≤ 1000000) (hc : c ≤ 1000000) :
    shownL [(a : Int) * 1000000, (b : Int) * 1000000, (c : Int) * 1000000] (mdivR [(a : Int) * 1000000, (b : Int) * 1000000, (c : Int) * 1000000]) = ((Nat.gcd (Nat.gcd a b) c : Int) * 1000000, 0) ∨ a = 0 := by
  by_cases z : a = 0
  · exact Or.inr z
  · left
    have hg : Nat.gcd (Nat.gcd a b) c ≤ 1000000 := Nat.le_trans (Nat.gcd_le_left _ (Nat.gcd_pos_of_pos_left _ (by omega))) (Nat.le_trans (Nat.gcd_le_left _ (by omega)) ha)
    unfold shownL mdivR
    simp only [List.all_cons, List.all_nil, List.any_cons, List.any_nil, whole_fits (Nat.le_trans ha (by decide)), whole_fits (Nat.le_trans hb (by decide)), whole_fits (Nat.le_trans hc (by decide)), not_neg, Bool.and_self, Bool.or_self, if_true]
    rw [if_neg (by decide)]
    show shown ((gcdL 0 _ : Int) * 1000000, 0) = _
    simp only [gcdL, wh_whole, Nat.gcd_zero_left]
    exact shown_fit rfl (whole_fits (Nat.le_trans hg (by decide)))
theorem gcd_two {a b : Nat} (ha : a ≤ 1000000) (hb : b ≤ 1000000) :
    shownL [(a : Int) * 1000000, (b : Int) * 1000000] (mdivR [(a : Int) * 1000000, (b : Int) * 1000000]) = ((Nat.gcd a b : Int) * 1000000, 0) ∨ a = 0 := by
  by_cases z : a = 0
  · exact Or.inr z
  · left
    have hg : Nat.gcd a b ≤ 1000000 := Nat.le_trans (Nat.gcd_le_left _ (by omega)) ha
    unfold shownL mdivR
    simp only [List.all_cons, List.all_nil, List.any_cons, List.any_nil, whole_fits (Nat.le_trans ha (by decide)), whole_fits (Nat.le_trans hb (by decide)), not_neg, Bool.and_self, Bool.or_self, if_true]
    rw [if_neg (by decide)]
    show shown ((gcdL 0 _ : Int) * 1000000, 0) = _
    simp only [gcdL, wh_whole, Nat.gcd_zero_left]
    exact shown_fit rfl (whole_fits (Nat.le_trans hg (by decide)))
theorem lcm_le {a b : Nat} (ha : a ≤ 1000000) (hb : b ≤ 1000000) : Nat.lcm a b ≤ 1000000000000 := by
  have h1 : Nat.lcm a b ≤ a * b := Nat.div_le_self _ _
  have h2 : a * b ≤ 1000000 * 1000000 := Nat.mul_le_mul ha hb
  omega
theorem lcm_two {a b : Nat} (ha0 : 1 ≤ a) (ha : a ≤ 1000000) (hb0 : 1 ≤ b) (hb : b ≤ 1000000) :
    shownL [(a : Int) * 1000000, (b : Int) * 1000000] (mmulR [(a : Int) * 1000000, (b : Int) * 1000000]) = ((Nat.lcm a b : Int) * 1000000, 0) := by
  have hg := lcm_le ha hb
  have x1 : decide ((a : Int) * 1000000 < 1000000) = false := decide_eq_false (by omega)
  have x2 : decide ((b : Int) * 1000000 < 1000000) = false := decide_eq_false (by omega)
  unfold shownL mmulR
  simp only [List.all_cons, List.all_nil, List.any_cons, List.any_nil, whole_fits (Nat.le_trans ha (by decide)), whole_fits (Nat.le_trans hb (by decide)), not_neg, x1, x2, Bool.and_self, Bool.or_self, if_true]
  rw [if_neg (by decide), if_neg (by decide)]
  have hl : lcmL 1 [(a : Int) * 1000000, (b : Int) * 1000000] = some (Nat.lcm a b) := by
    show (if 1000000000000 < Nat.lcm 1 (whN ((a : Int) * 1000000)) then none else (if 1000000000000 < Nat.lcm (Nat.lcm 1 (whN ((a : Int) * 1000000))) (whN ((b : Int) * 1000000)) then none else some (Nat.lcm (Nat.lcm 1 (whN ((a : Int) * 1000000))) (whN ((b : Int) * 1000000))))) = _
    rw [wh_whole, wh_whole, Nat.lcm_one_left, if_neg (by omega), if_neg (by omega)]
  rw [hl]
  exact shown_fit rfl (whole_fits hg)
/-- k divides x, as the walk asks it. -/
theorem rem_zero {x k : Nat} (h : k ∣ x) : (x : Int) % (k : Int) = 0 ∧ (x : Int).tmod (k : Int) = 0 := by
  have e : (x : Int) % (k : Int) = 0 := by rw [← Int.natCast_emod, Nat.mod_eq_zero_of_dvd h]; rfl
  exact ⟨e, by rw [Int.tmod_eq_emod_of_nonneg (by omega)]; exact e⟩
theorem rem_zero_whole {x k : Nat} (h : k ∣ x) : (x : Int) * 1000000 % ((k : Int) * 1000000) = 0 ∧ ((x : Int) * 1000000).tmod ((k : Int) * 1000000) = 0 := by
  have := rem_zero (x := x * 1000000) (k := k * 1000000) (Nat.mul_dvd_mul_right h _)
  rw [Int.natCast_mul, Int.natCast_mul] at this
  exact this

set_option maxRecDepth 100000 in
set_option maxHeartbeats 8000000 in
theorem divides_main (a b c : Nat) (w : World) (a0 : 1 ≤ a) (a1 : a ≤ 1000000) (b0 : 1 ≤ b) (b1 : b ≤ 1000000) (c0 : 1 ≤ c) (c1 : c ≤ 1000000) :
    Calls Try.prog 4 #[.int .i64 (a : Int), .int .i64 (b : Int), .int .i64 (c : Int)] w fun e w' => e = .returned (.bool true) ∧ Below w.heap.size w w' := by
  have HL := hide (fun W : World => lives_any W)
  have HB0 := hide (Below.refl w.heap.size w)
  have HG : Hid (∀ (B : Nat) (W : World), RowI W (some ⟨B, 0, none⟩) [(a : Int) * 1000000, (b : Int) * 1000000, (c : Int) * 1000000] → Calls Try.prog 9 #[.slice (some ⟨B, 0, none⟩) 3 3] W fun e w' => e = .returned (.tuple #[.int .i64 (shownL [(a : Int) * 1000000, (b : Int) * 1000000, (c : Int) * 1000000] (mdivR [(a : Int) * 1000000, (b : Int) * 1000000, (c : Int) * 1000000])).1, .int .i64 (shownL [(a : Int) * 1000000, (b : Int) * 1000000, (c : Int) * 1000000] (mdivR [(a : Int) * 1000000, (b : Int) * 1000000, (c : Int) * 1000000])).2]) ∧ Below W.heap.size W w') := fun B W h => Gcd_any [(a : Int) * 1000000, (b : Int) * 1000000, (c : Int) * 1000000] (some ⟨B, 0, none⟩) 3 W h
  have HM : Hid (∀ (B : Nat) (W : World), RowI W (some ⟨B, 0, none⟩) [(a : Int) * 1000000, (b : Int) * 1000000] → Calls Try.prog 10 #[.slice (some ⟨B, 0, none⟩) 2 2] W fun e w' => e = .returned (.tuple #[.int .i64 (shownL [(a : Int) * 1000000, (b : Int) * 1000000] (mmulR [(a : Int) * 1000000, (b : Int) * 1000000])).1, .int .i64 (shownL [(a : Int) * 1000000, (b : Int) * 1000000] (mmulR [(a : Int) * 1000000, (b : Int) * 1000000])).2]) ∧ Below W.heap.size W w') := fun B W h => Lcm_any [(a : Int) * 1000000, (b : Int) * 1000000] (some ⟨B, 0, none⟩) 2 W h
  have HD : Hid (∀ (B : Nat) (W : World), RowI W (some ⟨B, 0, none⟩) [(a : Int) * 1000000, (b : Int) * 1000000] → Calls Try.prog 9 #[.slice (some ⟨B, 0, none⟩) 2 2] W fun e w' => e = .returned (.tuple #[.int .i64 (shownL [(a : Int) * 1000000, (b : Int) * 1000000] (mdivR [(a : Int) * 1000000, (b : Int) * 1000000])).1, .int .i64 (shownL [(a : Int) * 1000000, (b : Int) * 1000000] (mdivR [(a : Int) * 1000000, (b : Int) * 1000000])).2]) ∧ Below W.heap.size W w') := fun B W h => Gcd_any [(a : Int) * 1000000, (b : Int) * 1000000] (some ⟨B, 0, none⟩) 2 W h
  rw [(gcd_three a1 b1 c1).resolve_right (by omega)] at HG
  rw [lcm_two a0 a1 b0 b1] at HM
  rw [(gcd_two a1 b1).resolve_right (by omega)] at HD
  have g0 : 0 < Nat.gcd (Nat.gcd a b) c := Nat.gcd_pos_of_pos_right _ (by omega)
  have g1 : Nat.gcd (Nat.gcd a b) c ≤ c := Nat.gcd_le_right _ (by omega)
  have d0 : 0 < Nat.gcd a b := Nat.gcd_pos_of_pos_left _ (by omega)
  have d1 : Nat.gcd a b ≤ a := Nat.gcd_le_left _ (by omega)
  have l0 : 0 < Nat.lcm a b := Nat.lcm_pos (by omega) (by omega)
  have l1 := lcm_le a1 b1
  have ra := rem_zero (Nat.dvd_trans (Nat.gcd_dvd_left (Nat.gcd a b) c) (Nat.gcd_dvd_left a b))
  have rb := rem_zero (Nat.dvd_trans (Nat.gcd_dvd_left (Nat.gcd a b) c) (Nat.gcd_dvd_right a b))
  have rc := rem_zero (Nat.gcd_dvd_right (Nat.gcd a b) c)
  have la := rem_zero_whole (Nat.dvd_lcm_left a b)
  have lb := rem_zero_whole (Nat.dvd_lcm_right a b)
  have hp : ((Nat.lcm a b : Nat) : Int) * ((Nat.gcd a b : Nat) : Int) = (a : Int) * (b : Int) := by
    rw [← Int.natCast_mul, ← Int.natCast_mul, Nat.mul_comm (Nat.lcm a b), Nat.gcd_mul_lcm]
  have hab : (a : Int) * (b : Int) ≤ 1000000 * 1000000 := Int.mul_le_mul (by omega) (by omega) (by omega) (by decide)
  have hab0 : 0 ≤ (a : Int) * (b : Int) := Int.mul_nonneg (by omega) (by omega)
  generalize Nat.gcd (Nat.gcd a b) c = G at *
  generalize Nat.gcd a b = D at *
  generalize Nat.lcm a b = L at *
  obtain ⟨A, eA⟩ : ∃ A : Int, A = (a : Int) := ⟨_, rfl⟩
  obtain ⟨B, eB⟩ : ∃ B : Int, B = (b : Int) := ⟨_, rfl⟩
  obtain ⟨C, eC⟩ : ∃ C : Int, C = (c : Int) := ⟨_, rfl⟩
  obtain ⟨g, eg⟩ : ∃ g : Int, g = (G : Int) := ⟨_, rfl⟩
  obtain ⟨d, ed⟩ : ∃ d : Int, d = (D : Int) := ⟨_, rfl⟩
  obtain ⟨l, el⟩ : ∃ l : Int, l = (L : Int) := ⟨_, rfl⟩
  have i1 : 1 ≤ A ∧ A ≤ 1000000 := by omega
  have i2 : 1 ≤ B ∧ B ≤ 1000000 := by omega
  have i3 : 1 ≤ C ∧ C ≤ 1000000 := by omega
  have i4 : 1 ≤ g ∧ g ≤ 1000000 := by omega
  have i5 : 1 ≤ d ∧ d ≤ 1000000 := by omega
  have i6 : 1 ≤ l ∧ l ≤ 1000000000000 := by omega
  rw [← eA, ← eB] at hp hab hab0
  rw [← el, ← ed] at hp
  rw [← eA, ← eg] at ra
  rw [← eB, ← eg] at rb
  rw [← eC, ← eg] at rc
  rw [← eA, ← el] at la
  rw [← eB, ← el] at lb
  rw [← eA, ← eB, ← eC, ← eg] at HG
  rw [← eA, ← eB, ← el] at HM
  rw [← eA, ← eB, ← ed] at HD
  rw [← eA, ← eB, ← eC]
  clear eA eB eC eg ed el a0 a1 b0 b1 c0 c1 g0 g1 d0 d1 l0 l1
  obtain ⟨A0, A1⟩ := i1
  obtain ⟨B0, B1⟩ := i2
  obtain ⟨C0, C1⟩ := i3
  obtain ⟨g0, g1⟩ := i4
  obtain ⟨d0, d1⟩ := i5
  obtain ⟨l0, l1⟩ := i6
  obtain ⟨ra1, ra2⟩ := ra
  obtain ⟨rb1, rb2⟩ := rb
  obtain ⟨rc1, rc2⟩ := rc
  obtain ⟨la1, la2⟩ := la
  obtain ⟨lb1, lb2⟩ := lb
  have wA : IntKind.i64.wrap (A * 1000000) = A * 1000000 := wrapI (by omega) (by omega)
  have wB : IntKind.i64.wrap (B * 1000000) = B * 1000000 := wrapI (by omega) (by omega)
  have wC : IntKind.i64.wrap (C * 1000000) = C * 1000000 := wrapI (by omega) (by omega)
  have wg : IntKind.i64.wrap g = g := wrapI (by omega) (by omega)
  have wd : IntKind.i64.wrap d = d := wrapI (by omega) (by omega)
  have wl : IntKind.i64.wrap l = l := wrapI (by omega) (by omega)
  have wp : IntKind.i64.wrap (A * B) = A * B := wrapI (by omega) (by omega)
  have q1 : g * 1000000 / 1000000 = g := by omega
  have q2 : (g * 1000000).tdiv 1000000 = g := Int.mul_tdiv_cancel _ (by decide)
  have q3 : l * 1000000 / 1000000 = l := by omega
  have q4 : (l * 1000000).tdiv 1000000 = l := Int.mul_tdiv_cancel _ (by decide)
  have q5 : d * 1000000 / 1000000 = d := by omega
  have q6 : (d * 1000000).tdiv 1000000 = d := Int.mul_tdiv_cancel _ (by decide)
  have q7 : g * 1000000 % 1000000 = 0 := by omega
  have q8 : (g * 1000000).tmod 1000000 = 0 := Int.mul_tmod_left _ _
  have q9 : ¬ g * 1000000 < 1000000 := by omega
  have z1 : ¬ g = 0 := by omega
  have z2 : ¬ A * 1000000 = 0 := by omega
  have z3 : ¬ B * 1000000 = 0 := by omega
  have z4 : (g == 0) = false := by rw [beq_eq_false_iff_ne]; exact z1
  have z5 : (A * 1000000 == 0) = false := by rw [beq_eq_false_iff_ne]; exact z2
  have z6 : (B * 1000000 == 0) = false := by rw [beq_eq_false_iff_ne]; exact z3
  clear hab hab0 l0 l1 d0 d1
  go_enter Try.func4, Try.ntmps4
  go_wp2_with (first
    | (go_at_call 9; first
        | (with_reducible refine (HG.out _ _ (RowI.three (by simp [go_sem]) (by simp [go_sem]) (by simp [go_sem]))).mono ?_; rintro e v1 ⟨rfl, hb⟩; have HB1 := hide (up (HB0.out.alloc HB0.out.size _) hb); clear hb)
        | (with_reducible refine (HD.out _ _ (RowI.two (by simp [go_sem]) (by simp [go_sem]))).mono ?_; rintro e v3 ⟨rfl, hb⟩; have HB3 := hide (up (HB2.out.alloc HB2.out.size _) hb); clear hb))
    | (go_at_call 10; refine (HM.out _ _ (RowI.two (by simp [go_sem]) (by simp [go_sem]))).mono ?_; rintro e v2 ⟨rfl, hb⟩; have HB2 := hide (up (HB1.out.alloc HB1.out.size _) hb); clear hb)
    | (go_at_call 6; refine (HL.out _).mono ?_; rintro e v5 ⟨rfl, hb⟩; have HB5 := hide (up HB3.out hb); clear hb))
  go_ret
  exact ⟨rfl, HB5.out⟩

set_option maxRecDepth 100000 in
set_option maxHeartbeats 8000000 in
theorem divides_aside (a b c : Int) (w : World) (h : a < 1 ∨ b < 1 ∨ c < 1 ∨ 1000000 < a ∨ 1000000 < b ∨ 1000000 < c) :
    Calls Try.prog 4 #[.int .i64 a, .int .i64 b, .int .i64 c] w fun e w' => e = .returned (.bool true) ∧ Below w.heap.size w w' := by
  have HL := hide (fun W : World => lives_any W)
  have HB0 := hide (Below.refl w.heap.size w)
  by_cases h0 : a < 1
  · clear h
    go_enter Try.func4, Try.ntmps4
    go_wp2_with (go_at_call 6; refine (HL.out _).mono ?_; rintro e v5 ⟨rfl, hb⟩; have HB5 := hide (up HB0.out hb); clear hb)
    go_ret
    exact ⟨rfl, HB5.out⟩
  · by_cases h1 : b < 1
    · clear h
      go_enter Try.func4, Try.ntmps4
      go_wp2_with (go_at_call 6; refine (HL.out _).mono ?_; rintro e v5 ⟨rfl, hb⟩; have HB5 := hide (up HB0.out hb); clear hb)
      go_ret
      exact ⟨rfl, HB5.out⟩
    · by_cases h2 : c < 1
      · clear h
        go_enter Try.func4, Try.ntmps4
        go_wp2_with (go_at_call 6; refine (HL.out _).mono ?_; rintro e v5 ⟨rfl, hb⟩; have HB5 := hide (up HB0.out hb); clear hb)
        go_ret
        exact ⟨rfl, HB5.out⟩
      · by_cases h3 : 1000000 < a
        · clear h
          go_enter Try.func4, Try.ntmps4
          go_wp2_with (go_at_call 6; refine (HL.out _).mono ?_; rintro e v5 ⟨rfl, hb⟩; have HB5 := hide (up HB0.out hb); clear hb)
          go_ret
          exact ⟨rfl, HB5.out⟩
        · by_cases h4 : 1000000 < b
          · clear h
            go_enter Try.func4, Try.ntmps4
            go_wp2_with (go_at_call 6; refine (HL.out _).mono ?_; rintro e v5 ⟨rfl, hb⟩; have HB5 := hide (up HB0.out hb); clear hb)
            go_ret
            exact ⟨rfl, HB5.out⟩
          · have h5 : 1000000 < c := by omega
            clear h
            go_enter Try.func4, Try.ntmps4
            go_wp2_with (go_at_call 6; refine (HL.out _).mono ?_; rintro e v5 ⟨rfl, hb⟩; have HB5 := hide (up HB0.out hb); clear hb)
            go_ret
            exact ⟨rfl, HB5.out⟩

theorem mathsDivides_walk (a b c : Int) (_ : (Lit.int .i64 a).wf = true) (_ : (Lit.int .i64 b).wf = true) (_ : (Lit.int .i64 c).wf = true) (w : World) :
    Calls Try.prog 4 #[.int .i64 a, .int .i64 b, .int .i64 c] w fun e w' => e = .returned (.bool true) ∧ Below w.heap.size w w' := by
  by_cases h : a < 1 ∨ b < 1 ∨ c < 1 ∨ 1000000 < a ∨ 1000000 < b ∨ 1000000 < c
  · exact divides_aside a b c w h
  · obtain ⟨x, rfl⟩ : ∃ x : Nat, a = (x : Int) := ⟨a.toNat, by omega⟩
    obtain ⟨y, rfl⟩ : ∃ y : Nat, b = (y : Int) := ⟨b.toNat, by omega⟩
    obtain ⟨z, rfl⟩ : ∃ z : Nat, c = (z : Int) := ⟨c.toNat, by omega⟩
    exact divides_main x y z w (by omega) (by omega) (by omega) (by omega) (by omega) (by omega)
end Go.Proofs.Ytfopebfejmlhbab
