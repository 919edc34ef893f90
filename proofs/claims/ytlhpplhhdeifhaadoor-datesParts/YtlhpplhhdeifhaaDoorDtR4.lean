/-
  The contracts of the answer's Digits, padded and Print.
-/
import Derived.Test.YtlhpplhhdeifhaaDoorDtR3
import Derived.Test.YtlhpplhhdeifhaaDoorDtBack
namespace Go.Proofs.YtlhpplhhdeifhaaDoor
open Go.RowKit

theorem dec_len7 {n : Nat} (h : n ≤ 1048576) : (Lib.decDigits n).length ≤ 7 := by
  rw [Lib.decDigits_length]; exact nd_le 6 n (by omega)
/-- One digit, laid in a new block, as a text. -/
theorem one_digit (w : World) (u : Nat) (c : UInt8) (hc : (c.toNat : Int) = 48 + (u : Int) % 10) : (convert 62 9 (.slice (some ⟨w.heap.size, 0, none⟩) 1 1)).run Tryd.prog (w.alloc (.cells #[.int .u8 (48 + (u : Int) % 10)] 5)) = .ok (.string ⟨([c] : List UInt8).toArray⟩) (w.alloc (.cells #[.int .u8 (48 + (u : Int) % 10)] 5)) := by
  have h := run_convert_bytes_back (P := Tryd.prog) (w.alloc (.cells #[.int .u8 (48 + (u : Int) % 10)] 5)) 62 9 5 ⟨w.heap.size, 0, none⟩ 1 [c] Tryd.underlying62 Tryd.underlying5 Tryd.underlying9 (fun j hj => by
    have : j = 0 := by simpa using hj
    subst this
    show (w.alloc (.cells #[.int .u8 (48 + (u : Int) % 10)] 5)).cell? (Addr.add ⟨w.heap.size, 0, none⟩ 0) = some (.int .u8 (c.toNat : Int))
    rw [hc]
    exact World.cell?_alloc_new _ _ _ 0)
  exact h
theorem dig_byte (u : Nat) : ((UInt8.ofNat (48 + u % 10)).toNat : Int) = 48 + (u : Int) % 10 := by
  have := dig_nat (k := u % 10) (by omega)
  omega
set_option maxRecDepth 100000 in
set_option maxHeartbeats 1000000 in
theorem rdigits_ind : ∀ (k : Nat) (u : Nat) (w : World), u ≤ k → u ≤ 1048576 →
    Calls Tryd.prog 40 #[.int .i64 u] w fun e w' => e = .returned (.string ⟨(Lib.decDigits u).toArray⟩) ∧ Below w.heap.size w w' := by
  intro k
  induction k with
  | zero =>
    intro u w hk hu
    have h : u < 10 := by omega
    have hcv := one_digit w u _ (dig_byte u)
    have HE : Hid (Lib.decDigits u = [UInt8.ofNat (48 + u % 10)]) := by
      show Lib.decDigits u = _
      rw [decD_small h, Nat.mod_eq_of_lt h]
    generalize UInt8.ofNat (48 + u % 10) = c at *
    go_enter Tryd.func40, Tryd.ntmps40
    go_wp2
    go_ret
    exact ⟨by rw [HE.out]; rfl, (Below.refl _ _).alloc (Nat.le_refl _) _⟩
  | succ k ih =>
    intro u w hk hu
    have IH := hide ih
    clear ih
    have hcv := one_digit w u _ (dig_byte u)
    by_cases h : u < 10
    · have HE : Hid (Lib.decDigits u = [UInt8.ofNat (48 + u % 10)]) := by
        show Lib.decDigits u = _
        rw [decD_small h, Nat.mod_eq_of_lt h]
      generalize UInt8.ofNat (48 + u % 10) = c at *
      go_enter Tryd.func40, Tryd.ntmps40
      go_wp2
      go_ret
      exact ⟨by rw [HE.out]; rfl, (Below.refl _ _).alloc (Nat.le_refl _) _⟩
    · have HE : Hid (Lib.decDigits u = Lib.decDigits (u / 10) ++ [UInt8.ofNat (48 + u % 10)]) := decD_big h
      have HI : Hid (∀ W : World, Calls Tryd.prog 40 #[.int .i64 ((u : Int) / 10)] W fun e w' => e = .returned (.string ⟨(Lib.decDigits (u / 10)).toArray⟩) ∧ Below W.heap.size W w') := fun W => by
        have := IH.out (u / 10) W (by omega) (by omega)
        rw [show ((u / 10 : Nat) : Int) = (u : Int) / 10 from by omega] at this
        exact this
      have hl := dec_len7 (n := u / 10) (by omega)
      clear IH
      generalize UInt8.ofNat (48 + u % 10) = c at *
      generalize Lib.decDigits (u / 10) = D at *
      go_enter Tryd.func40, Tryd.ntmps40
      go_wp2_with (go_at_call 40; refine (HI.out _).mono ?_; rintro e w1 ⟨rfl, b1⟩)
      go_ret
      refine ⟨by rw [HE.out, ← ba_app]; rfl, ?_⟩
      exact ((Below.refl _ _).alloc (Nat.le_refl _) _).trans (b1.mono (by simp))
theorem rep_more (c : Nat) (D : List UInt8) : (⟨#[48]⟩ : ByteArray) ++ ⟨(Lib.repeatL [48] c ++ D).toArray⟩ = ⟨(Lib.repeatL [48] (c + 1) ++ D).toArray⟩ := by
  show (⟨[48].toArray⟩ : ByteArray) ++ _ = _
  rw [ba_app]
  rfl
set_option maxHeartbeats 2000000 in
theorem rpadded_any (n wd : Nat) (w : World) (hn : n ≤ 9999) (hw : wd ≤ 4) (hl : (Lib.decDigits n).length ≤ wd) :
    Calls Tryd.prog 33 #[.int .i64 n, .int .i64 wd] w fun e w' => e = .returned (.string ⟨(padL n wd).toArray⟩) ∧ Below w.heap.size w w' := by
  have HI : Hid (∀ W : World, Calls Tryd.prog 40 #[.int .i64 n] W fun e w' => e = .returned (.string ⟨(Lib.decDigits n).toArray⟩) ∧ Below W.heap.size W w') := fun W => rdigits_ind n n W (Nat.le_refl _) (by omega)
  unfold padL
  generalize Lib.decDigits n = D at *
  go_enter Tryd.func33, Tryd.ntmps33
  go_wp2_with (go_at_call 40; refine (HI.out _).mono ?_; rintro e w1 ⟨rfl, hb1⟩)
  go_loopw [5] (fun sv wr => ∃ c : Nat, c + D.length ≤ wd ∧ sv = .string ⟨(Lib.repeatL [48] c ++ D).toArray⟩ ∧ Below w.heap.size w wr) (fun sv _ => wd - (match sv with | .string b => b.size | _ => 0))
  case atStart => exact ⟨0, by omega, rfl, hb1⟩
  case round =>
    obtain ⟨c, hc, rfl, hB⟩ := hrel
    have HS : Hid ((⟨(Lib.repeatL [48] c ++ D).toArray⟩ : ByteArray).size = c + D.length) := by show _ = _; rw [ba_size, List.length_append, Lib.repeatL_length]; simp
    have HS' : Hid ((⟨(Lib.repeatL [48] (c + 1) ++ D).toArray⟩ : ByteArray).size = c + 1 + D.length) := by show _ = _; rw [ba_size, List.length_append, Lib.repeatL_length]; simp
    have HM := hide (rep_more c D)
    have hz := HS.out
    by_cases hlt : c + D.length < wd
    · have HT : Hid (∃ T : ByteArray, T = ⟨(Lib.repeatL [48] c ++ D).toArray⟩) := ⟨_, rfl⟩
      obtain ⟨T, hT⟩ := HT.out
      rw [← hT] at hz HM ⊢
      clear HT HS hT
      have l1 : ((T.size : Nat) : Int) < (wd : Int) := by omega
      have n1 : ¬ 9223372036854775807 < 1 + T.size := by omega
      have HZ := hide hz
      clear hz
      go_wp2
      go_roundw
      case rel => exact ⟨c + 1, by omega, by rw [HM.out], by assumption⟩
      case measure =>
        have h1 := HZ.out
        have h2 := HS'.out
        show wd - ((⟨#[48]⟩ : ByteArray) ++ T).size < wd - T.size
        rw [HM.out, h2, h1]
        omega
    · have HC : Hid (c = wd - D.length) := by show c = _; omega
      have HT : Hid (∃ T : ByteArray, T = ⟨(Lib.repeatL [48] c ++ D).toArray⟩) := ⟨_, rfl⟩
      obtain ⟨T, hT⟩ := HT.out
      have HTE := hide hT
      rw [← hT] at hz ⊢
      clear HT HS hT HM
      have l1 : ¬ ((T.size : Nat) : Int) < (wd : Int) := by omega
      clear hz
      go_wp2
      go_ret
      refine ⟨?_, by assumption⟩
      rw [← HC.out, ← HTE.out]
      rfl
set_option maxHeartbeats 2000000 in
theorem rprint_yes (y : Int) (k : Nat) (d n : Int) (w : World) (h : DayIs y k d n) :
    Calls Tryd.prog 19 #[.int .i64 n] w fun e w' => e = .returned (.tuple #[.string ⟨(textL y k d).toArray⟩, .int .i64 0]) ∧ Below w.heap.size w w' := by
  have HP : Hid (∀ W : World, Calls Tryd.prog 15 #[.int .i64 n] W fun e w' => e = .returned (.tuple #[.int .i64 y, .int .i64 ((k : Int) + 1), .int .i64 d, .int .i64 0]) ∧ Below W.heap.size W w') := fun W => rparts_yes y k d n W h
  have y1 := h.y1
  have y2 := h.y2
  have k1 := h.k1
  have e1 := h.d1
  have e2 := h.dle
  have HY : Hid (∀ W : World, Calls Tryd.prog 33 #[.int .i64 y, .int .i64 4] W fun e w' => e = .returned (.string ⟨(padL y.toNat 4).toArray⟩) ∧ Below W.heap.size W w') := fun W => by
    have := rpadded_any y.toNat 4 W (by omega) (by decide) (dec_four (by omega))
    rw [show ((y.toNat : Nat) : Int) = y by omega] at this
    exact this
  have HK : Hid (∀ W : World, Calls Tryd.prog 33 #[.int .i64 ((k : Int) + 1), .int .i64 2] W fun e w' => e = .returned (.string ⟨(padL (k + 1) 2).toArray⟩) ∧ Below W.heap.size W w') := fun W => by
    have := rpadded_any (k + 1) 2 W (by omega) (by decide) (dec_two (by omega))
    rw [show ((k + 1 : Nat) : Int) = (k : Int) + 1 by omega] at this
    exact this
  have HD : Hid (∀ W : World, Calls Tryd.prog 33 #[.int .i64 d, .int .i64 2] W fun e w' => e = .returned (.string ⟨(padL d.toNat 2).toArray⟩) ∧ Below W.heap.size W w') := fun W => by
    have := rpadded_any d.toNat 2 W (by omega) (by decide) (dec_two (by omega))
    rw [show ((d.toNat : Nat) : Int) = d by omega] at this
    exact this
  have l1 := pad_len (n := y.toNat) (wd := 4) (dec_four (by omega))
  have l2 := pad_len (n := k + 1) (wd := 2) (dec_two (by omega))
  have l3 := pad_len (n := d.toNat) (wd := 2) (dec_two (by omega))
  unfold textL
  generalize padL y.toNat 4 = A at *
  generalize padL (k + 1) 2 = B at *
  generalize padL d.toNat 2 = C at *
  have HE : Hid ((⟨(A ++ [45] ++ B ++ [45] ++ C).toArray⟩ : ByteArray) = ⟨A.toArray⟩ ++ ⟨#[45]⟩ ++ ⟨B.toArray⟩ ++ ⟨#[45]⟩ ++ ⟨C.toArray⟩) := by
    show _ = _
    rw [← ba_app, ← ba_app, ← ba_app, ← ba_app]
  rw [HE.out]
  have n1 : ¬ 9223372036854775807 < A.length + 1 := by omega
  have n2 : ¬ 9223372036854775807 < A.length + 1 + B.length := by omega
  have n3 : ¬ 9223372036854775807 < A.length + 1 + B.length + 1 := by omega
  have n4 : ¬ 9223372036854775807 < A.length + 1 + B.length + 1 + C.length := by omega
  clear HE h l1 l2 l3 y1 y2 k1 e1 e2
  go_enter Tryd.func19, Tryd.ntmps19
  go_wp2_with fail
  refine (HP.out _).mono ?_
  rintro e w1 ⟨rfl, hb1⟩
  go_wp2_with fail
  refine (HY.out _).mono ?_
  rintro e w2 ⟨rfl, hb2⟩
  have hb2 := up hb1 hb2
  go_wp2_with fail
  refine (HK.out _).mono ?_
  rintro e w3 ⟨rfl, hb3⟩
  have hb3 := up hb2 hb3
  go_wp2_with fail
  refine (HD.out _).mono ?_
  rintro e w4 ⟨rfl, hb4⟩
  have hb4 := up hb3 hb4
  go_wp2
  go_ret2
  exact ⟨rfl, by assumption⟩
set_option maxHeartbeats 2000000 in
theorem rprint_no (n : Int) (w : World) (h : ¬ (1 ≤ n ∧ n ≤ 2958464)) :
    Calls Tryd.prog 19 #[.int .i64 n] w fun e w' => e = .returned (.tuple #[.string ⟨#[]⟩, .int .i64 2]) ∧ Below w.heap.size w w' := by
  have HP : Hid (∀ W : World, Calls Tryd.prog 15 #[.int .i64 n] W fun e w' => e = .returned (.tuple #[.int .i64 0, .int .i64 0, .int .i64 0, .int .i64 2]) ∧ Below W.heap.size W w') := fun W => rparts_no n W h
  clear h
  go_enter Tryd.func19, Tryd.ntmps19
  go_wp2_with (go_at_call 15; refine (HP.out _).mono ?_; rintro e w1 ⟨rfl, hb1⟩)
  go_ret2
  exact ⟨rfl, by assumption⟩
end Go.Proofs.YtlhpplhhdeifhaaDoor
