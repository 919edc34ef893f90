/-
  How floats stand to each other (the model's own order of two words) is how their bits do.
-/
import Derived.Test.YtnjnbhfpgoondabRealLaws
namespace Go.Proofs.Ytnjnbhfpgoondab
open Go.RowKit

/-- The place of a float among all numbers: both noughts have 0. -/
def keyR (b : Int) : Int := if fNeg b then -rung b else rung b
/-- What it stands for, in units of the least one. -/
def svR (b : Int) : Int := if fNeg b then -valR (rung b) else valR (rung b)
theorem val_0 : valR 0 = 0 := by decide
theorem rung_nn (b : Int) : 0 ≤ rung b := by unfold rung; omega
theorem sv_lt {a b : Int} : svR a < svR b ↔ keyR a < keyR b := by
  have ra := rung_nn a
  have rb := rung_nn b
  have va := val_nn ra
  have vb := val_nn rb
  have za : valR (rung a) = 0 ↔ rung a = 0 := by
    constructor
    · intro h
      rcases Int.lt_or_le 0 (rung a) with c | c
      · have := val_mono (r := 0) (by decide) c
        rw [val_0] at this; omega
      · omega
    · intro h; rw [h]; exact val_0
  have zb : valR (rung b) = 0 ↔ rung b = 0 := by
    constructor
    · intro h
      rcases Int.lt_or_le 0 (rung b) with c | c
      · have := val_mono (r := 0) (by decide) c
        rw [val_0] at this; omega
      · omega
    · intro h; rw [h]; exact val_0
  have m1 : valR (rung a) < valR (rung b) ↔ rung a < rung b := by
    constructor
    · intro h
      rcases Int.lt_or_le (rung a) (rung b) with c | c
      · exact c
      · have := val_le rb c; omega
    · exact val_mono ra
  have m2 : valR (rung b) < valR (rung a) ↔ rung b < rung a := by
    constructor
    · intro h
      rcases Int.lt_or_le (rung b) (rung a) with c | c
      · exact c
      · have := val_le ra c; omega
    · exact val_mono rb
  unfold svR keyR
  generalize valR (rung a) = x at *
  generalize valR (rung b) = y at *
  generalize rung a = r at *
  generalize rung b = s at *
  cases fNeg a <;> cases fNeg b <;> simp <;> omega
theorem sv_eq {a b : Int} : svR a = svR b ↔ keyR a = keyR b := by
  have h1 := sv_lt (a := a) (b := b)
  have h2 := sv_lt (a := b) (b := a)
  omega
theorem cmp_ite (x y : Int) : compare x y = if x < y then .lt else if x = y then .eq else .gt := rfl
theorem signed_scale (s : Bool) (m k : Nat) (c : Nat) : Ieee.signed s m k * 2 ^ c = Ieee.signed s m (k + c) := by
  unfold Ieee.signed
  rw [Nat.shiftLeft_eq, Nat.shiftLeft_eq, Nat.pow_add]
  cases s
  · simp [Int.mul_assoc]
  · simp [Int.neg_mul, Int.mul_assoc]
theorem fNeg_read (b : Nat) (h : b < 18446744073709551616) : (b / 9223372036854775808 % 2 == 1) = fNeg b := by
  unfold fNeg
  rw [Bool.eq_iff_iff]; simp; omega
/-- A finite float, as the model reads it. -/
theorem read_num (b : Nat) (h : b < 18446744073709551616) (hr : rung b < 9218868437227405312) :
    ∃ (m : Nat) (k : Nat), Ieee.double.read b = .number (fNeg b) m (-1074 + k) ∧ (m : Int) * 2 ^ k = valR (rung b) := by
  have er : rung b = ((b % 9223372036854775808 : Nat) : Int) := by unfold rung; omega
  rw [er] at hr ⊢
  have sg : Ieee.double.signWeight = 9223372036854775808 := rfl
  have bi : Ieee.double.binade = 4503599627370496 := rfl
  have inf : Ieee.double.infRung = 9218868437227405312 := rfl
  have lp : Ieee.double.leastPlace = -1074 := rfl
  unfold Ieee.Format.read
  simp only [sg, bi, inf, lp, fNeg_read b h]
  generalize b % 9223372036854775808 = r at *
  unfold valR
  by_cases c : r < 4503599627370496
  · rw [if_pos c]
    refine ⟨r, 0, by simp, ?_⟩
    rw [if_pos (by omega)]
    simp; omega
  · rw [if_neg c, if_pos (by omega)]
    refine ⟨4503599627370496 + r % 4503599627370496, r / 4503599627370496 - 1, rfl, ?_⟩
    rw [if_neg (by omega), show ((r : Int) / 4503599627370496 - 1).toNat = r / 4503599627370496 - 1 by omega]
    congr 1
theorem read_inf (b : Nat) (h : b < 18446744073709551616) (hr : rung b = 9218868437227405312) : Ieee.double.read b = .infinity (fNeg b) := by
  have er : rung b = ((b % 9223372036854775808 : Nat) : Int) := by unfold rung; omega
  rw [er] at hr
  have sg : Ieee.double.signWeight = 9223372036854775808 := rfl
  have bi : Ieee.double.binade = 4503599627370496 := rfl
  have inf : Ieee.double.infRung = 9218868437227405312 := rfl
  unfold Ieee.Format.read
  simp only [sg, bi, inf, fNeg_read b h]
  generalize b % 9223372036854775808 = r at *
  rw [if_neg (by omega), if_neg (by omega), if_pos (by omega)]
theorem read_nan (b : Nat) (h : b < 18446744073709551616) (hr : 9218868437227405312 < rung b) : ∃ t, Ieee.double.read b = .nan (fNeg b) t := by
  have er : rung b = ((b % 9223372036854775808 : Nat) : Int) := by unfold rung; omega
  rw [er] at hr
  have sg : Ieee.double.signWeight = 9223372036854775808 := rfl
  have bi : Ieee.double.binade = 4503599627370496 := rfl
  have inf : Ieee.double.infRung = 9218868437227405312 := rfl
  unfold Ieee.Format.read
  simp only [sg, bi, inf, fNeg_read b h]
  generalize b % 9223372036854775808 = r at *
  rw [if_neg (by omega), if_neg (by omega), if_neg (by omega)]
  exact ⟨_, rfl⟩
theorem kind_rung (b : Nat) (_h : b < 18446744073709551616) : kindR b = 0 ↔ 9218868437227405312 < rung b := by
  constructor
  · intro k
    have := kind_fields.1 k
    unfold fExp fPart at this
    unfold rung; omega
  · intro k
    have e1 : fExp b = 2047 := by unfold rung at k; unfold fExp; omega
    have e2 : fPart b ≠ 0 := by unfold rung at k; unfold fPart; omega
    unfold kindR
    rw [if_pos e1, if_neg e2]
theorem order_key (a b : Nat) (ha : a < 18446744073709551616) (hb : b < 18446744073709551616) (ka : kindR a ≠ 0) (kb : kindR b ≠ 0) :
    FloatKind.f64.format.order a b = some (if keyR a < keyR b then .lt else if keyR a = keyR b then .eq else .gt) := by
  have na : rung a ≤ 9218868437227405312 := Int.not_lt.1 (fun h => ka ((kind_rung a ha).2 h))
  have nb : rung b ≤ 9218868437227405312 := Int.not_lt.1 (fun h => kb ((kind_rung b hb).2 h))
  have ra := rung_nn a
  have rb := rung_nn b
  show (Ieee.double.read a).order (Ieee.double.read b) = _
  rcases Int.lt_or_le (rung a) 9218868437227405312 with ca | ca
  · obtain ⟨m, i, e1, v1⟩ := read_num a ha ca
    rcases Int.lt_or_le (rung b) 9218868437227405312 with cb | cb
    · obtain ⟨n, j, e2, v2⟩ := read_num b hb cb
      rw [e1, e2]
      unfold Ieee.Datum.order
      simp only
      rw [cmp_ite]
      have s1 : Ieee.signed (fNeg a) m (((-1074 + i : Int)) - min (-1074 + i : Int) (-1074 + j)).toNat * 2 ^ (min i j) = svR a := by
        rw [signed_scale, show (((-1074 + i : Int)) - min (-1074 + i : Int) (-1074 + j)).toNat + min i j = i by omega]
        unfold Ieee.signed svR
        rw [← v1, Nat.shiftLeft_eq]
        cases fNeg a <;> simp
      have s2 : Ieee.signed (fNeg b) n (((-1074 + j : Int)) - min (-1074 + i : Int) (-1074 + j)).toNat * 2 ^ (min i j) = svR b := by
        rw [signed_scale, show (((-1074 + j : Int)) - min (-1074 + i : Int) (-1074 + j)).toNat + min i j = j by omega]
        unfold Ieee.signed svR
        rw [← v2, Nat.shiftLeft_eq]
        cases fNeg b <;> simp
      have p := two_pow_pos (min i j)
      have l := sv_lt (a := a) (b := b)
      have q := sv_eq (a := a) (b := b)
      rw [← s1, ← s2] at l q
      generalize Ieee.signed (fNeg a) m (((-1074 + i : Int)) - min (-1074 + i : Int) (-1074 + j)).toNat = x at *
      generalize Ieee.signed (fNeg b) n (((-1074 + j : Int)) - min (-1074 + i : Int) (-1074 + j)).toNat = y at *
      have l2 : x < y ↔ keyR a < keyR b := by
        rw [← l]
        exact ⟨fun h => Int.mul_lt_mul_of_pos_right h p, fun h => Int.lt_of_mul_lt_mul_right h (Int.le_of_lt p)⟩
      have q2 : x = y ↔ keyR a = keyR b := by
        rw [← q]
        exact ⟨fun h => by rw [h], fun h => Int.eq_of_mul_eq_mul_right (by omega) h⟩
      simp only [l2, q2]
    · have cb2 : rung b = 9218868437227405312 := by omega
      rw [e1, read_inf b hb cb2]
      unfold Ieee.Datum.order keyR
      rw [cb2]
      cases fNeg a <;> cases fNeg b <;> simp <;> first | omega | (rw [if_pos (by omega)]) | (rw [if_neg (by omega), if_neg (by omega)])
  · have ca2 : rung a = 9218868437227405312 := by omega
    rw [read_inf a ha ca2]
    rcases Int.lt_or_le (rung b) 9218868437227405312 with cb | cb
    · obtain ⟨n, j, e2, v2⟩ := read_num b hb cb
      rw [e2]
      unfold Ieee.Datum.order keyR
      rw [ca2]
      cases fNeg a <;> cases fNeg b <;> simp <;> first | omega | (rw [if_pos (by omega)]) | (rw [if_neg (by omega), if_neg (by omega)])
    · have cb2 : rung b = 9218868437227405312 := by omega
      rw [read_inf b hb cb2]
      unfold Ieee.Datum.order keyR
      rw [ca2, cb2]
      cases fNeg a <;> cases fNeg b <;> rfl
theorem order_none (a b : Nat) (ha : a < 18446744073709551616) (hb : b < 18446744073709551616) (h : kindR a = 0 ∨ kindR b = 0) : FloatKind.f64.format.order a b = none := by
  show (Ieee.double.read a).order (Ieee.double.read b) = _
  rcases h with h | h
  · obtain ⟨t, e⟩ := read_nan a ha ((kind_rung a ha).1 h)
    rw [e]; rfl
  · obtain ⟨t, e⟩ := read_nan b hb ((kind_rung b hb).1 h)
    rw [e]
    cases Ieee.double.read a <;> rfl
end Go.Proofs.Ytnjnbhfpgoondab
