/-
  The contracts of real.Kind and real.Of: each returns what the plain function says; what was there stays as it was.
-/
import Derived.Test.YtnjnbhfpgoondaaRealProg
namespace Go.Proofs.Ytnjnbhfpgoondaa
open Go.RowKit

/-- What millionths tells. -/
def millR (m e : Int) : Int × Bool := if 0 ≤ e then (0, false) else if 1000000000000000000 < halfEven (m * 1000000) (2 ^ (-e).toNat) then (0, false) else (halfEven (m * 1000000) (2 ^ (-e).toNat), true)
theorem pow_100 (k : Nat) : (2 : Int) ^ 100 ≤ 2 ^ (100 + k) := by
  have := pow_mono (s := 1) (by decide) 100 k
  rwa [Int.one_mul, Int.one_mul] at this
theorem mill_any (kd m e : Int) (neg : Bool) (w : World) (he : -2000 ≤ e) (m0 : 0 ≤ m) (m1 : m < 9007199254740992) :
    Calls Try.prog 25 #[.agg #[.int .i64 kd, .bool neg, .int .u64 m, .int .i64 e]] w fun e' w' => e' = .returned (.tuple #[.int .i64 (millR m e).1, .bool (millR m e).2]) ∧ Below w.heap.size w w' := by
  unfold millR
  by_cases c : 0 ≤ e
  · rw [if_pos c]
    exact mill_whole kd m e neg w c
  · rw [if_neg c]
    have ho := over_same (m := m) (P := 2 ^ (-e).toNat) m0 m1 (two_pow_pos _)
    by_cases c1 : -e ≤ 100
    · have key := mill_at kd m e (-e).toNat neg w (by omega) he (by omega) (by omega) (by omega) m0 m1
      by_cases c2 : 1000000000000000000 < halfEven (m * 1000000) (2 ^ (-e).toNat)
      · have c3 := ho.1 c2
        rw [if_pos c2]
        rw [if_neg (by omega), decide_eq_false (by omega)] at key
        exact key
      · have c3 : m * 1000000 / 2 ^ (-e).toNat ≤ 1000000000000000000 := Int.not_lt.1 (fun h => c2 (ho.2 h))
        rw [if_neg c2]
        rw [if_pos c3, decide_eq_true c3] at key
        exact key
    · have key := mill_at kd m e 100 neg w (by omega) he (by omega) (by decide) (by decide) m0 m1
      have b1 : (2 : Int) ^ 100 = 1267650600228229401496703205376 := rfl
      have h1 : halfEven (m * 1000000) (2 ^ 100) = 0 := half_small (by omega) (by omega)
      obtain ⟨d, hd⟩ : ∃ d, (-e).toNat = 100 + d := ⟨(-e).toNat - 100, by omega⟩
      have b2 := pow_100 d
      have h2 : halfEven (m * 1000000) (2 ^ (-e).toNat) = 0 := half_small (by omega) (by rw [hd]; omega)
      have h3 : m * 1000000 / 2 ^ 100 = 0 := Int.ediv_eq_zero_of_lt (by omega) (by omega)
      rw [h2, if_neg (by decide)]
      rw [h3, h1, if_pos (by decide), decide_eq_true (by decide)] at key
      exact key

theorem of_keep {w1 w2 : World} {kd sz pw : Int} {neg : Bool} {t : TypeId} (hb : Below (w1.alloc (.cells #[.int .i64 kd, .bool neg, .int .u64 sz, .int .i64 pw] t)).heap.size (w1.alloc (.cells #[.int .i64 kd, .bool neg, .int .u64 sz, .int .i64 pw] t)) w2) : w2.cell? ⟨w1.heap.size, 1, none⟩ = some (.bool neg) := by
  rw [hb.cell (p := ⟨w1.heap.size, 1, none⟩) (by simp)]
  simp [go_sem]
theorem field_0 (kd sz pw : Int) (neg : Bool) (w : World) : (Instr.field 45 (.agg #[.int .i64 kd, .bool neg, .int .u64 sz, .int .i64 pw]) 0).run Try.prog w = .ok (.int .i64 kd) w := by
  simp [Instr.field, go_sem, asAgg, Result.andThen]
set_option maxHeartbeats 400000 in
theorem kind_any (b : Nat) (w : World) (h : b < 18446744073709551616) :
    Calls Try.prog 9 #[.float .f64 b] w fun e w' => e = .returned (.int .i64 (kindR b)) ∧ Below w.heap.size w w' := by
  have HA : Hid (∀ W : World, Calls Try.prog 22 #[.float .f64 b] W fun e w' => e = .returned (apartV b) ∧ Below W.heap.size W w') := fun W => apart_any b W h
  unfold apartV at HA
  have hf0 := field_0
  generalize kindR b = k at *
  generalize fNeg b = ng at *
  generalize (if k < 3 then 0 else sizeR b) = s at *
  generalize (if k < 3 then 0 else powR b) = p at *
  go_enter Try.func9, Try.ntmps9
  go_wp2_with (go_at_call 22; refine (HA.out _).mono ?_; rintro e w1 ⟨rfl, hb1⟩)
  go_ret
  exact ⟨rfl, by first | exact hb1 | exact hb1.alloc hb1.size _⟩
set_option maxHeartbeats 1000000 in
theorem of_core (b : Nat) (kd sz pw n : Int) (neg f : Bool) (w : World) (hk : kd = 3 ∨ kd = 4)
    (HA : Hid (∀ W : World, Calls Try.prog 22 #[.float .f64 b] W fun e w' => e = .returned (.agg #[.int .i64 kd, .bool neg, .int .u64 sz, .int .i64 pw]) ∧ Below W.heap.size W w'))
    (HM : Hid (∀ W : World, Calls Try.prog 25 #[.agg #[.int .i64 kd, .bool neg, .int .u64 sz, .int .i64 pw]] W fun e w' => e = .returned (.tuple #[.int .i64 n, .bool f]) ∧ Below W.heap.size W w'))
    (n0 : 0 ≤ n) (n1 : n ≤ 1000000000000000000) :
    Calls Try.prog 13 #[.float .f64 b] w fun e w' => e = .returned (.tuple #[.int .i64 (if f then put neg n else 0), .int .i64 (if f then 0 else 3)]) ∧ Below w.heap.size w w' := by
  unfold put
  rcases hk with rfl | rfl <;> cases f <;> cases neg
  all_goals
    go_enter Try.func13, Try.ntmps13
    go_wp2_with (go_at_call 22; refine (HA.out _).mono ?_; rintro e w1 ⟨rfl, hb1⟩)
    go_wp2_with (go_at_call 25; refine (HM.out _).mono ?_; rintro e w2 ⟨rfl, hb2⟩; have hc := of_keep hb2)
    go_ret2
    exact ⟨by simp, (hb1.alloc hb1.size _).trans (hb2.mono (by have := hb1.size; simp; omega))⟩

set_option maxHeartbeats 1000000 in
theorem of_low (b : Nat) (kd sz pw : Int) (neg : Bool) (w : World) (hk : kd = 0 ∨ kd = 1 ∨ kd = 2)
    (HA : Hid (∀ W : World, Calls Try.prog 22 #[.float .f64 b] W fun e w' => e = .returned (.agg #[.int .i64 kd, .bool neg, .int .u64 sz, .int .i64 pw]) ∧ Below W.heap.size W w')) :
    Calls Try.prog 13 #[.float .f64 b] w fun e w' => e = .returned (.tuple #[.int .i64 0, .int .i64 (if kd < 2 then 2 else 0)]) ∧ Below w.heap.size w w' := by
  rcases hk with rfl | rfl | rfl
  all_goals
    go_enter Try.func13, Try.ntmps13
    go_wp2_with (go_at_call 22; refine (HA.out _).mono ?_; rintro e w1 ⟨rfl, hb1⟩)
    go_ret2
    exact ⟨rfl, hb1.alloc hb1.size _⟩
theorem kindR_cases (b : Int) : kindR b = 0 ∨ kindR b = 1 ∨ kindR b = 2 ∨ kindR b = 3 ∨ kindR b = 4 := by
  unfold kindR; repeat' split
  all_goals omega
theorem kind_nought {b : Int} (h : kindR b = 2) : sizeR b = 0 ∧ powR b = -1074 := by
  unfold kindR at h
  unfold sizeR powR
  split at h
  · split at h <;> omega
  · split at h
    · split at h
      · rename_i c1 c2 c3
        rw [if_pos c2, if_pos c2]; exact ⟨c3, rfl⟩
      · omega
    · omega
theorem half_zero {d : Int} (hd : 0 < d) : halfEven 0 d = 0 := by
  unfold halfEven; rw [Int.zero_ediv, Int.zero_emod]; rw [if_neg (by omega)]
theorem halfEven_nn0 {N d : Int} (hN : 0 ≤ N) (hd : 0 < d) : 0 ≤ halfEven N d := by
  have := Int.ediv_nonneg hN (Int.le_of_lt hd)
  have := half_ge (N := N) (d := d)
  omega
theorem ofF_any (b : Nat) (w : World) (h : b < 18446744073709551616) :
    Calls Try.prog 13 #[.float .f64 b] w fun e w' => e = .returned (.tuple #[.int .i64 (ofR b).1, .int .i64 (ofR b).2]) ∧ Below w.heap.size w w' := by
  have HA : ∀ W : World, Calls Try.prog 22 #[.float .f64 b] W fun e w' => e = .returned (apartV b) ∧ Below W.heap.size W w' := fun W => apart_any b W h
  unfold apartV at HA
  obtain ⟨p0, p1⟩ := powR_bd b
  obtain ⟨s0, s1⟩ := sizeR_bd b
  have hc := kindR_cases b
  have high : (kindR b = 3 ∨ kindR b = 4) → Calls Try.prog 13 #[.float .f64 b] w fun e w' => e = .returned (.tuple #[.int .i64 (ofR b).1, .int .i64 (ofR b).2]) ∧ Below w.heap.size w w' := by
    intro k
    rw [if_neg (by omega), if_neg (by omega)] at HA
    have HM := fun W : World => mill_any (kindR b) (sizeR b) (powR b) (fNeg b) W (by omega) s0 s1
    have hn : 0 ≤ (millR (sizeR b) (powR b)).1 ∧ (millR (sizeR b) (powR b)).1 ≤ 1000000000000000000 := by
      unfold millR
      split
      · exact ⟨by decide, by decide⟩
      · split
        · exact ⟨by decide, by decide⟩
        · exact ⟨halfEven_nn0 (by omega) (two_pow_pos _), by omega⟩
    have key := of_core b (kindR b) (sizeR b) (powR b) _ (fNeg b) _ w k HA HM hn.1 hn.2
    have e : ofR b = (if (millR (sizeR b) (powR b)).2 then put (fNeg b) (millR (sizeR b) (powR b)).1 else 0, if (millR (sizeR b) (powR b)).2 then 0 else 3) := by
      unfold ofR millR
      rw [if_neg (by omega)]
      split
      · rfl
      · split <;> rfl
    rw [e]
    exact key
  rcases hc with k | k | k | k | k
  · have key := of_low b _ _ _ _ w (Or.inl k) HA
    rw [if_pos (show kindR b < 2 by omega)] at key
    rw [show ofR b = (0, 2) from by unfold ofR; rw [if_pos (by omega)]]
    exact key
  · have key := of_low b _ _ _ _ w (Or.inr (Or.inl k)) HA
    rw [if_pos (show kindR b < 2 by omega)] at key
    rw [show ofR b = (0, 2) from by unfold ofR; rw [if_pos (by omega)]]
    exact key
  · have key := of_low b _ _ _ _ w (Or.inr (Or.inr k)) HA
    rw [if_neg (show ¬ kindR b < 2 by omega)] at key
    obtain ⟨z1, z2⟩ := kind_nought k
    have e : ofR b = (0, 0) := by
      unfold ofR
      rw [if_neg (by omega), if_neg (by omega), z1, Int.zero_mul, half_zero (two_pow_pos _), if_neg (by decide)]
      unfold put
      cases fNeg b <;> rfl
    rw [e]
    exact key
  · exact high (Or.inl k)
  · exact high (Or.inr k)
end Go.Proofs.Ytnjnbhfpgoondaa
