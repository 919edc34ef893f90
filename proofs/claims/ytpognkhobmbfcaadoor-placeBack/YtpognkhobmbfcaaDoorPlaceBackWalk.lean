/-
  The walk of PlaceBack: for every cell and text it returns true.
-/
import Derived.Test.YtpognkhobmbfcaaDoorPlSt
import Derived.Test.YtpognkhobmbfcaaDoorPtBack
namespace Go.Proofs.YtpognkhobmbfcaaDoor
open Go.RowKit

set_option maxRecDepth 100000 in
set_option maxHeartbeats 8000000 in
theorem placeBack_walk (r c : Int) (x y : Bool) (s : ByteArray) (w : World) (ht : TabOk w) (hs : s.size ≤ maxLen) :
    Calls Tryd.prog 6 #[.agg #[.int .i64 r, .int .i64 c, .bool x, .bool y], .string s] w fun e w' => e = .returned (.bool true) ∧ Below w.heap.size w w' := by
  have HT := hide ht
  clear ht
  have HS : Hid (St w [] [] [(w.heap.size, r, c, x, y)] (w.alloc (.cells #[.int .i64 r, .int .i64 c, .bool x, .bool y] 36))) := (St.nil w).boxC r c x y 36
  have HP : Hid (∀ W : World, TabOk W → Calls Tryd.prog 14 #[.agg #[.int .i64 r, .int .i64 c, .bool x, .bool y]] W fun e w' => e = .returned (.tuple #[.string ⟨(printR r c x y).1.toArray⟩, .int .i64 (printR r c x y).2]) ∧ Below W.heap.size W w') := fun W h => print_any r c x y W h
  have HR : Hid (∀ W : World, Calls Tryd.prog 16 #[.string s] W fun e w' => e = .returned (.tuple #[.agg #[.int .i64 (parseR s.data.toList).1, .int .i64 (parseR s.data.toList).2.1, .bool (parseR s.data.toList).2.2.1, .bool (parseR s.data.toList).2.2.2.1], .int .i64 (parseR s.data.toList).2.2.2.2]) ∧ Below W.heap.size W w') := fun W => parse_any s W hs
  have i1 : (r == r) = true := by simp
  have i2 : (c == c) = true := by simp
  have i3 : (x == x) = true := by simp
  have i4 : (y == y) = true := by simp
  cases hp : placeB r c
  · rw [printR_no hp] at HP
    clear hp
    by_cases he : (parseR s.data.toList).2.2.2.2 = 0
    · have hp2 := parse_place he
      have HV : Hid (∀ W : World, TabOk W → Calls Tryd.prog 14 #[.agg #[.int .i64 ((parseR s.data.toList).1), .int .i64 ((parseR s.data.toList).2.1), .bool ((parseR s.data.toList).2.2.1), .bool ((parseR s.data.toList).2.2.2.1)]] W fun e w' => e = .returned (.tuple #[.string ⟨(printR (parseR s.data.toList).1 (parseR s.data.toList).2.1 (parseR s.data.toList).2.2.1 (parseR s.data.toList).2.2.2.1).1.toArray⟩, .int .i64 0]) ∧ Below W.heap.size W w') := fun W h => by
        have := print_any ((parseR s.data.toList).1) ((parseR s.data.toList).2.1) ((parseR s.data.toList).2.2.1) ((parseR s.data.toList).2.2.2.1) W h
        have e0 : (printR (parseR s.data.toList).1 (parseR s.data.toList).2.1 (parseR s.data.toList).2.2.1 (parseR s.data.toList).2.2.2.1).2 = 0 := by rw [printR_yes hp2]
        rw [e0] at this; exact this
      have HW : Hid (∀ W : World, Calls Tryd.prog 16 #[.string ⟨(printR (parseR s.data.toList).1 (parseR s.data.toList).2.1 (parseR s.data.toList).2.2.1 (parseR s.data.toList).2.2.2.1).1.toArray⟩] W fun e w' => e = .returned (.tuple #[.agg #[.int .i64 (parseR s.data.toList).1, .int .i64 (parseR s.data.toList).2.1, .bool (parseR s.data.toList).2.2.1, .bool (parseR s.data.toList).2.2.2.1], .int .i64 0]) ∧ Below W.heap.size W w') := fun W => by
        have := parse_any ⟨(printR (parseR s.data.toList).1 (parseR s.data.toList).2.1 (parseR s.data.toList).2.2.1 (parseR s.data.toList).2.2.2.1).1.toArray⟩ W (Nat.le_trans (print_size hp2) (by decide))
        rw [show (⟨(printR (parseR s.data.toList).1 (parseR s.data.toList).2.1 (parseR s.data.toList).2.2.1 (parseR s.data.toList).2.2.2.1).1.toArray⟩ : ByteArray).data.toList = (printR (parseR s.data.toList).1 (parseR s.data.toList).2.1 (parseR s.data.toList).2.2.1 (parseR s.data.toList).2.2.2.1).1 from by simp, parse_print hp2] at this
        exact this
      rw [he] at HR
      clear he hp2 hs
      generalize (printR (parseR s.data.toList).1 (parseR s.data.toList).2.1 (parseR s.data.toList).2.2.1 (parseR s.data.toList).2.2.2.1).1 = T2 at *
      generalize (parseR s.data.toList).1 = r' at *
      generalize (parseR s.data.toList).2.1 = c' at *
      generalize (parseR s.data.toList).2.2.1 = x' at *
      generalize (parseR s.data.toList).2.2.2.1 = y' at *
      have j1 : (r' == r') = true := by simp
      have j2 : (c' == c') = true := by simp
      have j3 : (x' == x') = true := by simp
      have j4 : (y' == y') = true := by simp
      go_enter Tryd.func6, Tryd.ntmps6
      go_wp2_with fail
      refine (HP.out _ (tab_below HT.out HS.out.out)).mono ?_
      rintro e w1 ⟨rfl, hb⟩
      have hs0 := St.below hb HS.out
      have ⟨_, _, ⟨⟨za, ka0, ka1, ka2, ka3⟩, _⟩, _⟩ := hs0
      have HS := hide hs0
      clear hs0 hb
      go_wp2_with fail
      refine (HR.out _).mono ?_
      rintro e w2 ⟨rfl, hb⟩
      clear za ka0 ka1 ka2 ka3
      have hs0 := St.below hb HS.out
      have ⟨_, _, ⟨⟨za, ka0, ka1, ka2, ka3⟩, _⟩, _⟩ := hs0
      have HS := hide (hs0.boxC r' c' x' y' 36)
      clear hs0 hb
      go_wp2_with fail
      refine (HV.out _ (tab_below HT.out HS.out.out)).mono ?_
      rintro e w3 ⟨rfl, hb⟩
      clear za ka0 ka1 ka2 ka3
      have hs0 := St.below hb HS.out
      have ⟨_, _, ⟨⟨za, ka0, ka1, ka2, ka3⟩, ⟨zb, kb0, kb1, kb2, kb3⟩, _⟩, _⟩ := hs0
      have HS := hide hs0
      clear hs0 hb
      go_wp2_with fail
      refine (HW.out _).mono ?_
      rintro e w4 ⟨rfl, hb⟩
      clear za ka0 ka1 ka2 ka3 zb kb0 kb1 kb2 kb3
      have hs0 := St.below hb HS.out
      have ⟨_, _, ⟨⟨za, ka0, ka1, ka2, ka3⟩, ⟨zb, kb0, kb1, kb2, kb3⟩, _⟩, _⟩ := hs0
      have HS := hide (hs0.boxC r' c' x' y' 36)
      clear hs0 hb
      go_wp2_with fail
      refine (lives5_any _ (tab_below HT.out HS.out.out)).mono ?_
      rintro e w5 ⟨rfl, hb⟩
      clear za ka0 ka1 ka2 ka3 zb kb0 kb1 kb2 kb3
      have hs0 := St.below hb HS.out
      have ⟨_, _, ⟨⟨za, ka0, ka1, ka2, ka3⟩, ⟨zb, kb0, kb1, kb2, kb3⟩, ⟨zc, kc0, kc1, kc2, kc3⟩, _⟩, _⟩ := hs0
      have HS := hide hs0
      clear hs0 hb
      go_wp2
      go_ret
      exact ⟨rfl, HS.out.out⟩
    · rw [parse_none he] at HR
      clear hs
      generalize (parseR s.data.toList).2.2.2.2 = e2 at *
      have hne : (e2 == 0) = false := by simpa using he
      clear he
      go_enter Tryd.func6, Tryd.ntmps6
      go_wp2_with fail
      refine (HP.out _ (tab_below HT.out HS.out.out)).mono ?_
      rintro e w1 ⟨rfl, hb⟩
      have hs0 := St.below hb HS.out
      have ⟨_, _, ⟨⟨za, ka0, ka1, ka2, ka3⟩, _⟩, _⟩ := hs0
      have HS := hide hs0
      clear hs0 hb
      go_wp2_with fail
      refine (HR.out _).mono ?_
      rintro e w2 ⟨rfl, hb⟩
      clear za ka0 ka1 ka2 ka3
      have hs0 := St.below hb HS.out
      have ⟨_, _, ⟨⟨za, ka0, ka1, ka2, ka3⟩, _⟩, _⟩ := hs0
      have HS := hide (hs0.boxC 0 0 false false 36)
      clear hs0 hb
      go_wp2_with fail
      refine (lives5_any _ (tab_below HT.out HS.out.out)).mono ?_
      rintro e w3 ⟨rfl, hb⟩
      clear za ka0 ka1 ka2 ka3
      have hs0 := St.below hb HS.out
      have ⟨_, _, ⟨⟨za, ka0, ka1, ka2, ka3⟩, ⟨zb, kb0, kb1, kb2, kb3⟩, _⟩, _⟩ := hs0
      have HS := hide hs0
      clear hs0 hb
      go_wp2
      go_ret
      exact ⟨rfl, HS.out.out⟩
  · have hc : colB c = true := by unfold placeB at hp; rw [Bool.and_eq_true] at hp; exact hp.2
    have HL : Hid (∀ W : World, Calls Tryd.prog 9 #[.int .i64 c] W fun e w' => e = .returned (.tuple #[.string ⟨(lettersN c.toNat).toArray⟩, .int .i64 0]) ∧ w' = W) := fun W => by have := letters_any c W; rw [lettersR_yes hc] at this; exact this
    have HK : Hid (∀ W : World, Calls Tryd.prog 11 #[.string ⟨(lettersN c.toNat).toArray⟩] W fun e w' => e = .returned (.tuple #[.int .i64 c, .int .i64 0]) ∧ Below W.heap.size W w') := fun W => by
      have hcc := colB_iff.1 hc
      have := column_any ⟨(lettersN c.toNat).toArray⟩ W (by rw [ba_size]; exact Nat.le_trans (letters_len (by omega) (by omega)).2 (by decide))
      rw [show (⟨(lettersN c.toNat).toArray⟩ : ByteArray).data.toList = lettersN c.toNat from by simp, column_letters hc] at this
      exact this
    have HQ : Hid (∀ W : World, Calls Tryd.prog 16 #[.string ⟨(printR r c x y).1.toArray⟩] W fun e w' => e = .returned (.tuple #[.agg #[.int .i64 r, .int .i64 c, .bool x, .bool y], .int .i64 0]) ∧ Below W.heap.size W w') := fun W => by
      have := parse_any ⟨(printR r c x y).1.toArray⟩ W (Nat.le_trans (print_size hp) (by decide))
      rw [show (⟨(printR r c x y).1.toArray⟩ : ByteArray).data.toList = (printR r c x y).1 from by simp, parse_print hp] at this
      exact this
    rw [show (printR r c x y).2 = 0 by rw [printR_yes hp]] at HP
    generalize (printR r c x y).1 = T1 at *
    generalize lettersN c.toNat = L1 at *
    clear hp hc
    by_cases he : (parseR s.data.toList).2.2.2.2 = 0
    · have hp2 := parse_place he
      have HV : Hid (∀ W : World, TabOk W → Calls Tryd.prog 14 #[.agg #[.int .i64 ((parseR s.data.toList).1), .int .i64 ((parseR s.data.toList).2.1), .bool ((parseR s.data.toList).2.2.1), .bool ((parseR s.data.toList).2.2.2.1)]] W fun e w' => e = .returned (.tuple #[.string ⟨(printR (parseR s.data.toList).1 (parseR s.data.toList).2.1 (parseR s.data.toList).2.2.1 (parseR s.data.toList).2.2.2.1).1.toArray⟩, .int .i64 0]) ∧ Below W.heap.size W w') := fun W h => by
        have := print_any ((parseR s.data.toList).1) ((parseR s.data.toList).2.1) ((parseR s.data.toList).2.2.1) ((parseR s.data.toList).2.2.2.1) W h
        have e0 : (printR (parseR s.data.toList).1 (parseR s.data.toList).2.1 (parseR s.data.toList).2.2.1 (parseR s.data.toList).2.2.2.1).2 = 0 := by rw [printR_yes hp2]
        rw [e0] at this; exact this
      have HW : Hid (∀ W : World, Calls Tryd.prog 16 #[.string ⟨(printR (parseR s.data.toList).1 (parseR s.data.toList).2.1 (parseR s.data.toList).2.2.1 (parseR s.data.toList).2.2.2.1).1.toArray⟩] W fun e w' => e = .returned (.tuple #[.agg #[.int .i64 (parseR s.data.toList).1, .int .i64 (parseR s.data.toList).2.1, .bool (parseR s.data.toList).2.2.1, .bool (parseR s.data.toList).2.2.2.1], .int .i64 0]) ∧ Below W.heap.size W w') := fun W => by
        have := parse_any ⟨(printR (parseR s.data.toList).1 (parseR s.data.toList).2.1 (parseR s.data.toList).2.2.1 (parseR s.data.toList).2.2.2.1).1.toArray⟩ W (Nat.le_trans (print_size hp2) (by decide))
        rw [show (⟨(printR (parseR s.data.toList).1 (parseR s.data.toList).2.1 (parseR s.data.toList).2.2.1 (parseR s.data.toList).2.2.2.1).1.toArray⟩ : ByteArray).data.toList = (printR (parseR s.data.toList).1 (parseR s.data.toList).2.1 (parseR s.data.toList).2.2.1 (parseR s.data.toList).2.2.2.1).1 from by simp, parse_print hp2] at this
        exact this
      rw [he] at HR
      clear he hp2 hs
      generalize (printR (parseR s.data.toList).1 (parseR s.data.toList).2.1 (parseR s.data.toList).2.2.1 (parseR s.data.toList).2.2.2.1).1 = T2 at *
      generalize (parseR s.data.toList).1 = r' at *
      generalize (parseR s.data.toList).2.1 = c' at *
      generalize (parseR s.data.toList).2.2.1 = x' at *
      generalize (parseR s.data.toList).2.2.2.1 = y' at *
      have j1 : (r' == r') = true := by simp
      have j2 : (c' == c') = true := by simp
      have j3 : (x' == x') = true := by simp
      have j4 : (y' == y') = true := by simp
      go_enter Tryd.func6, Tryd.ntmps6
      go_wp2_with fail
      refine (HP.out _ (tab_below HT.out HS.out.out)).mono ?_
      rintro e w1 ⟨rfl, hb⟩
      have hs0 := St.below hb HS.out
      have ⟨_, _, ⟨⟨za, ka0, ka1, ka2, ka3⟩, _⟩, _⟩ := hs0
      have HS := hide hs0
      clear hs0 hb
      go_wp2_with fail
      refine (HQ.out _).mono ?_
      rintro e w2 ⟨rfl, hb⟩
      clear za ka0 ka1 ka2 ka3
      have hs0 := St.below hb HS.out
      have ⟨_, _, ⟨⟨za, ka0, ka1, ka2, ka3⟩, _⟩, _⟩ := hs0
      have HS := hide (hs0.boxC r c x y 36)
      clear hs0 hb
      go_wp2_with fail
      refine (HL.out _).mono ?_
      rintro e wz ⟨rfl, hz⟩
      subst wz
      go_wp2_with fail
      refine (HK.out _).mono ?_
      rintro e w3 ⟨rfl, hb⟩
      clear za ka0 ka1 ka2 ka3
      have hs0 := St.below hb HS.out
      have ⟨_, _, ⟨⟨za, ka0, ka1, ka2, ka3⟩, ⟨zb, kb0, kb1, kb2, kb3⟩, _⟩, _⟩ := hs0
      have HS := hide hs0
      clear hs0 hb
      go_wp2_with fail
      refine (HR.out _).mono ?_
      rintro e w4 ⟨rfl, hb⟩
      clear za ka0 ka1 ka2 ka3 zb kb0 kb1 kb2 kb3
      have hs0 := St.below hb HS.out
      have ⟨_, _, ⟨⟨za, ka0, ka1, ka2, ka3⟩, ⟨zb, kb0, kb1, kb2, kb3⟩, _⟩, _⟩ := hs0
      have HS := hide (hs0.boxC r' c' x' y' 36)
      clear hs0 hb
      go_wp2_with fail
      refine (HV.out _ (tab_below HT.out HS.out.out)).mono ?_
      rintro e w5 ⟨rfl, hb⟩
      clear za ka0 ka1 ka2 ka3 zb kb0 kb1 kb2 kb3
      have hs0 := St.below hb HS.out
      have ⟨_, _, ⟨⟨za, ka0, ka1, ka2, ka3⟩, ⟨zb, kb0, kb1, kb2, kb3⟩, ⟨zc, kc0, kc1, kc2, kc3⟩, _⟩, _⟩ := hs0
      have HS := hide hs0
      clear hs0 hb
      go_wp2_with fail
      refine (HW.out _).mono ?_
      rintro e w6 ⟨rfl, hb⟩
      clear za ka0 ka1 ka2 ka3 zb kb0 kb1 kb2 kb3 zc kc0 kc1 kc2 kc3
      have hs0 := St.below hb HS.out
      have ⟨_, _, ⟨⟨za, ka0, ka1, ka2, ka3⟩, ⟨zb, kb0, kb1, kb2, kb3⟩, ⟨zc, kc0, kc1, kc2, kc3⟩, _⟩, _⟩ := hs0
      have HS := hide (hs0.boxC r' c' x' y' 36)
      clear hs0 hb
      go_wp2_with fail
      refine (lives5_any _ (tab_below HT.out HS.out.out)).mono ?_
      rintro e w7 ⟨rfl, hb⟩
      clear za ka0 ka1 ka2 ka3 zb kb0 kb1 kb2 kb3 zc kc0 kc1 kc2 kc3
      have hs0 := St.below hb HS.out
      have ⟨_, _, ⟨⟨za, ka0, ka1, ka2, ka3⟩, ⟨zb, kb0, kb1, kb2, kb3⟩, ⟨zc, kc0, kc1, kc2, kc3⟩, ⟨zd, kd0, kd1, kd2, kd3⟩, _⟩, _⟩ := hs0
      have HS := hide hs0
      clear hs0 hb
      go_wp2
      go_ret
      exact ⟨rfl, HS.out.out⟩
    · rw [parse_none he] at HR
      clear hs
      generalize (parseR s.data.toList).2.2.2.2 = e2 at *
      have hne : (e2 == 0) = false := by simpa using he
      clear he
      go_enter Tryd.func6, Tryd.ntmps6
      go_wp2_with fail
      refine (HP.out _ (tab_below HT.out HS.out.out)).mono ?_
      rintro e w1 ⟨rfl, hb⟩
      have hs0 := St.below hb HS.out
      have ⟨_, _, ⟨⟨za, ka0, ka1, ka2, ka3⟩, _⟩, _⟩ := hs0
      have HS := hide hs0
      clear hs0 hb
      go_wp2_with fail
      refine (HQ.out _).mono ?_
      rintro e w2 ⟨rfl, hb⟩
      clear za ka0 ka1 ka2 ka3
      have hs0 := St.below hb HS.out
      have ⟨_, _, ⟨⟨za, ka0, ka1, ka2, ka3⟩, _⟩, _⟩ := hs0
      have HS := hide (hs0.boxC r c x y 36)
      clear hs0 hb
      go_wp2_with fail
      refine (HL.out _).mono ?_
      rintro e wz ⟨rfl, hz⟩
      subst wz
      go_wp2_with fail
      refine (HK.out _).mono ?_
      rintro e w3 ⟨rfl, hb⟩
      clear za ka0 ka1 ka2 ka3
      have hs0 := St.below hb HS.out
      have ⟨_, _, ⟨⟨za, ka0, ka1, ka2, ka3⟩, ⟨zb, kb0, kb1, kb2, kb3⟩, _⟩, _⟩ := hs0
      have HS := hide hs0
      clear hs0 hb
      go_wp2_with fail
      refine (HR.out _).mono ?_
      rintro e w4 ⟨rfl, hb⟩
      clear za ka0 ka1 ka2 ka3 zb kb0 kb1 kb2 kb3
      have hs0 := St.below hb HS.out
      have ⟨_, _, ⟨⟨za, ka0, ka1, ka2, ka3⟩, ⟨zb, kb0, kb1, kb2, kb3⟩, _⟩, _⟩ := hs0
      have HS := hide (hs0.boxC 0 0 false false 36)
      clear hs0 hb
      go_wp2_with fail
      refine (lives5_any _ (tab_below HT.out HS.out.out)).mono ?_
      rintro e w5 ⟨rfl, hb⟩
      clear za ka0 ka1 ka2 ka3 zb kb0 kb1 kb2 kb3
      have hs0 := St.below hb HS.out
      have ⟨_, _, ⟨⟨za, ka0, ka1, ka2, ka3⟩, ⟨zb, kb0, kb1, kb2, kb3⟩, ⟨zc, kc0, kc1, kc2, kc3⟩, _⟩, _⟩ := hs0
      have HS := hide hs0
      clear hs0 hb
      go_wp2
      go_ret
      exact ⟨rfl, HS.out.out⟩
end Go.Proofs.YtpognkhobmbfcaaDoor
