/-
  The contracts of the answer's Digits, Print and dollar.
-/
import Derived.Test.YtpognkhobmbfcaaDoorPtBack
import Derived.Test.YtpognkhobmbfcaaDoorPt2
import Derived.Test.YtpognkhobmbfcaaDoorPl3
import Derived.Test.YtpognkhobmbfcaaDoorPlSt
namespace Go.Proofs.YtpognkhobmbfcaaDoor
open Go.RowKit

/-- One digit, laid in a new block, as a text. -/
theorem one_digit (w : World) (u : Nat) (c : UInt8) (hc : (c.toNat : Int) = 48 + (u : Int) % 10) : (convert 62 9 (.slice (some ⟨w.heap.size, 0, none⟩) 1 1)).run Tryd.prog (w.alloc (.cells #[.int .u8 (48 + (u : Int) % 10)] 5)) = .ok (.string ⟨([c] : List UInt8).toArray⟩) (w.alloc (.cells #[.int .u8 (48 + (u : Int) % 10)] 5)) := by
  have h := run_convert_bytes_back (P := Tryd.prog) (w.alloc (.cells #[.int .u8 (48 + (u : Int) % 10)] 5)) 62 9 5 ⟨w.heap.size, 0, none⟩ 1 [c] Tryd.underlying62 Tryd.underlying5 Tryd.underlying9 (fun j hj => by
    have : j = 0 := by simpa using hj
    subst this
    show (w.alloc (.cells #[.int .u8 (48 + (u : Int) % 10)] 5)).cell? (Addr.add ⟨w.heap.size, 0, none⟩ 0) = some (.int .u8 (c.toNat : Int))
    rw [hc]
    exact World.cell?_alloc_new _ _ _ 0)
  exact h
theorem dig_byte (u : Nat) : ((UInt8.ofNat (48 + u % 10)).toNat : Int) = 48 + (u : Int) % 10 := by
  have := dig_nat (k := u % 10) (by omega)
  omega
set_option maxRecDepth 100000 in
set_option maxHeartbeats 1000000 in
theorem rdigits_ind : ∀ (k : Nat) (u : Nat) (w : World), u ≤ k → u ≤ 1048576 →
    Calls Tryd.prog 39 #[.int .i64 u] w fun e w' => e = .returned (.string ⟨(Lib.decDigits u).toArray⟩) ∧ Below w.heap.size w w' := by
  intro k
  induction k with
  | zero =>
    intro u w hk hu
    have h : u < 10 := by omega
    have hcv := one_digit w u _ (dig_byte u)
    have HE : Hid (Lib.decDigits u = [UInt8.ofNat (48 + u % 10)]) := by
      show Lib.decDigits u = _
      rw [decD_small h, Nat.mod_eq_of_lt h]
    generalize UInt8.ofNat (48 + u % 10) = c at *
    go_enter Tryd.func39, Tryd.ntmps39
    go_wp2
    go_ret
    exact ⟨by rw [HE.out]; rfl, (Below.refl _ _).alloc (Nat.le_refl _) _⟩
  | succ k ih =>
    intro u w hk hu
    have IH := hide ih
    clear ih
    have hcv := one_digit w u _ (dig_byte u)
    by_cases h : u < 10
    · have HE : Hid (Lib.decDigits u = [UInt8.ofNat (48 + u % 10)]) := by
        show Lib.decDigits u = _
        rw [decD_small h, Nat.mod_eq_of_lt h]
      generalize UInt8.ofNat (48 + u % 10) = c at *
      go_enter Tryd.func39, Tryd.ntmps39
      go_wp2
      go_ret
      exact ⟨by rw [HE.out]; rfl, (Below.refl _ _).alloc (Nat.le_refl _) _⟩
    · have HE : Hid (Lib.decDigits u = Lib.decDigits (u / 10) ++ [UInt8.ofNat (48 + u % 10)]) := decD_big h
      have HI : Hid (∀ W : World, Calls Tryd.prog 39 #[.int .i64 ((u : Int) / 10)] W fun e w' => e = .returned (.string ⟨(Lib.decDigits (u / 10)).toArray⟩) ∧ Below W.heap.size W w') := fun W => by
        have := IH.out (u / 10) W (by omega) (by omega)
        rw [show ((u / 10 : Nat) : Int) = (u : Int) / 10 from by omega] at this
        exact this
      have hl := dec_len (n := u / 10) (by omega)
      clear IH
      generalize UInt8.ofNat (48 + u % 10) = c at *
      generalize Lib.decDigits (u / 10) = D at *
      go_enter Tryd.func39, Tryd.ntmps39
      go_wp2_with (go_at_call 39; refine (HI.out _).mono ?_; rintro e w1 ⟨rfl, b1⟩)
      go_ret
      refine ⟨by rw [HE.out, ← ba_app]; rfl, ?_⟩
      exact ((Below.refl _ _).alloc (Nat.le_refl _) _).trans (b1.mono (by simp))
set_option maxHeartbeats 2000000 in
theorem rprint_any (r c : Int) (x y : Bool) (w : World) :
    Calls Tryd.prog 15 #[.agg #[.int .i64 r, .int .i64 c, .bool x, .bool y]] w fun e w' => e = .returned (.tuple #[.string ⟨(printR r c x y).1.toArray⟩, .int .i64 (printR r c x y).2]) ∧ Below w.heap.size w w' := by
  have HP : Hid (∀ W : World, Calls Tryd.prog 38 #[.agg #[.int .i64 r, .int .i64 c]] W fun e w' => e = .returned (.bool (placeB r c)) ∧ w' = W.alloc (.cells #[.int .i64 r, .int .i64 c] 34)) := fun W => rplace_any r c W
  cases h : placeB r c
  · rw [printR_no h]
    rw [h] at HP
    clear h
    go_enter Tryd.func15, Tryd.ntmps15
    go_wp2_with (go_at_call 38; refine (HP.out _).mono ?_; rintro e w' ⟨rfl, rfl⟩)
    go_ret2
    refine ⟨rfl, ?_⟩
    repeat' (first | with_reducible exact Below.refl _ _ | with_reducible refine Below.setCell ?_ ?_ _ | with_reducible refine Below.alloc ?_ ?_ _ | with_reducible refine below_drewN ?_ _ | with_reducible refine Below.drew ?_ | with_reducible refine Below.trans ?_ (Below.mono (by assumption) ?_) | with_reducible exact Nat.le_refl _ | with_reducible refine Nat.le_trans ?_ (Below.size (by assumption)) | with_reducible refine Nat.le_trans ?_ (size_alloc _ _) | with_reducible refine Nat.le_trans ?_ (size_set _ _ _) | with_reducible refine Nat.le_trans ?_ (size_drewN _ _) | with_reducible refine Nat.le_trans ?_ (size_drew _) | (simp; done) | (simp; omega) | omega)
  · rw [printR_yes h]
    rw [h] at HP
    obtain ⟨h1, h2, h3, h4⟩ := placeB_iff.1 h
    clear h
    obtain ⟨n, rfl⟩ : ∃ n : Nat, r = n := ⟨r.toNat, by omega⟩
    obtain ⟨m, rfl⟩ : ∃ m : Nat, c = m := ⟨c.toNat, by omega⟩
    rw [Int.toNat_natCast, Int.toNat_natCast]
    have HL : Hid (∀ W : World, Calls Tryd.prog 10 #[.int .i64 m] W fun e w' => e = .returned (.tuple #[.string ⟨(lettersN m).toArray⟩, .int .i64 0]) ∧ Below W.heap.size W w') := fun W => by
      have := rletters_any m W
      rw [lettersR_yes (colB_iff.2 ⟨h3, h4⟩), Int.toNat_natCast] at this
      exact this
    have HI : Hid (∀ W : World, Calls Tryd.prog 39 #[.int .i64 n] W fun e w' => e = .returned (.string ⟨(Lib.decDigits n).toArray⟩) ∧ Below W.heap.size W w') := fun W => rdigits_ind n n W (Nat.le_refl _) (by omega)
    have s3 := (letters_len (n := m) (by omega) (by omega)).2
    have s4 := dec_len (n := n) (by omega)
    generalize lettersN m = L at *
    generalize Lib.decDigits n = D at *
    have H0 : Hid (St w [] [] [(w.heap.size, (n : Int), (m : Int), x, y)] ((w.alloc (.cells #[.int .i64 n, .int .i64 m, .bool x, .bool y] 36)).alloc (.cells #[.int .i64 n, .int .i64 m] 34))) := ((St.nil w).boxC n m x y 36).alloc _
    clear h1 h2 h3 h4
    cases x <;> cases y
    all_goals
      go_enter Tryd.func15, Tryd.ntmps15
      go_wp2_with (first | (go_at_call 38; refine (HP.out _).mono ?_; rintro e w' ⟨rfl, rfl⟩) | (go_at_call 10; refine (HL.out _).mono ?_; rintro e w1 ⟨rfl, hb⟩; have hs := St.below hb H0.out; have ⟨_, _, ⟨⟨z, k0, k1, k2, k3⟩, _⟩, _⟩ := hs) | (go_at_call 39; refine (HI.out _).mono ?_; rintro e w2 ⟨rfl, hb⟩; have hs := St.below hb (by assumption)))
      go_ret2
      refine ⟨?_, St.out (by assumption)⟩
      simp [sgn]
      apply ByteArray.ext
      simp
theorem str_back (s : ByteArray) : (⟨s.data.toList.toArray⟩ : ByteArray) = s := by cases s; simp
theorem fix_yes (t : List UInt8) : pre fixB 1 (36 :: t) = [36] ∧ rest fixB 1 (36 :: t) = t := pre_app [36] t (by decide) (by decide) (Or.inl rfl)
theorem fix_no {l : List UInt8} (h : ∀ c, l.head? = some c → c.toNat ≠ 36) : pre fixB 1 l = [] ∧ rest fixB 1 l = l := pre_app [] l (by decide) (by decide) (Or.inr (fun c hc => by unfold fixB; simp; exact h c hc))
set_option maxHeartbeats 1000000 in
theorem rdollar_any (s : ByteArray) (w : World) (hs : s.size ≤ maxLen) :
    Calls Tryd.prog 47 #[.string s] w fun e w' => e = .returned (.tuple #[.string ⟨(rest fixB 1 s.data.toList).toArray⟩, .bool (nonB (pre fixB 1 s.data.toList))]) ∧ w' = w := by
  unfold maxLen at hs
  have hl : s.data.toList.length = s.size := by simp
  by_cases h0 : (s.size : Int) > 0
  · have hpos : 0 < s.size := by omega
    have e0 : s[0] = s.data.toList[0]'(by omega) := by rw [ByteArray.getElem_eq_getElem_data, Array.getElem_toList]
    have hd : s.data.toList = s[0] :: s.data.toList.drop 1 := by
      rw [e0]
      conv => lhs; rw [← List.drop_zero (l := s.data.toList), List.drop_eq_getElem_cons (by omega)]
    by_cases h1 : s[0].toNat = 36
    · have hc : s[0] = 36 := UInt8.toNat_inj.1 h1
      have HE : Hid (nonB (pre fixB 1 s.data.toList) = true ∧ rest fixB 1 s.data.toList = s.data.toList.drop 1) := by
        have := fix_yes (s.data.toList.drop 1)
        rw [← hc, ← hd] at this
        exact ⟨by rw [this.1]; rfl, this.2⟩
      have e1 : ((s[0].toNat : Int) == 36) = true := by rw [h1]; rfl
      clear hc hd e0
      go_enter Tryd.func47, Tryd.ntmps47
      go_wp2
      go_ret2
      refine ⟨?_, rfl⟩
      rw [HE.out.1, HE.out.2, ← str_drop, str_back]
      rfl
    · have HE : Hid (nonB (pre fixB 1 s.data.toList) = false ∧ rest fixB 1 s.data.toList = s.data.toList) := by
        have := fix_no (l := s.data.toList) (by intro c hc; rw [hd] at hc; simp at hc; rw [← hc]; exact h1)
        exact ⟨by rw [this.1]; rfl, this.2⟩
      have e1 : ((s[0].toNat : Int) == 36) = false := by rw [beq_eq_false_iff_ne]; omega
      clear hd e0
      go_enter Tryd.func47, Tryd.ntmps47
      go_wp2
      go_ret2
      refine ⟨?_, rfl⟩
      rw [HE.out.1, HE.out.2, str_back]
      rfl
  · have HE : Hid (nonB (pre fixB 1 s.data.toList) = false ∧ rest fixB 1 s.data.toList = s.data.toList) := by
      have hn : s.data.toList = [] := List.eq_nil_of_length_eq_zero (by omega)
      rw [hn]; exact ⟨rfl, rfl⟩
    go_enter Tryd.func47, Tryd.ntmps47
    go_wp2
    go_ret2
    refine ⟨?_, rfl⟩
    rw [HE.out.1, HE.out.2, str_back]
    rfl
end Go.Proofs.YtpognkhobmbfcaaDoor
