/-
  The contracts of place's Parse, sign and Print.
-/
import Derived.Test.YtpognkhobmbfcaaDoorPt5
import Derived.Test.YtpognkhobmbfcaaDoorPt1
namespace Go.Proofs.YtpognkhobmbfcaaDoor
open Go.RowKit

/-- What is behind the first $, the letters, the second $, the digits. -/
def p1 (l : List UInt8) : List UInt8 := rest fixB 1 l
def p2 (l : List UInt8) : List UInt8 := rest letB 3 (p1 l)
def p3 (l : List UInt8) : List UInt8 := rest fixB 1 (p2 l)
def p4 (l : List UInt8) : List UInt8 := rest digB 7 (p3 l)
/-- What stands there. -/
def pCol (l : List UInt8) : Nat := colV (pre letB 3 (p1 l))
def pRow (l : List UInt8) : Nat := rowV (pre digB 7 (p3 l))
def pFixC (l : List UInt8) : Bool := nonB (pre fixB 1 l)
def pFixR (l : List UInt8) : Bool := nonB (pre fixB 1 (p2 l))
/-- What Parse tells: row, column, which are fixed, and why not. -/
def parseR (l : List UInt8) : Int × Int × Bool × Bool × Int :=
  if pCol l = 0 ∨ pRow l = 0 ∨ p4 l ≠ [] then (0, 0, false, false, 5) else if placeB (pRow l) (pCol l) then (pRow l, pCol l, pFixR l, pFixC l, 0) else (0, 0, false, false, 11)
theorem rest_len (p : UInt8 → Bool) (m : Nat) (l : List UInt8) : (rest p m l).length ≤ l.length := by unfold rest; simp
theorem ba_size (l : List UInt8) : (⟨l.toArray⟩ : ByteArray).size = l.length := by show l.toArray.size = _; simp
theorem Cel.under {w w' : World} {b d : Nat} {r c : Int} {x y : Bool} (h : Cel w b r c x y) (k : Below d w w') (hd : b < d) : Cel w' b r c x y := h.block k.size (k.block b hd)
theorem Cel.alloc {w : World} {b : Nat} {r c : Int} {x y : Bool} (h : Cel w b r c x y) (o : Obj) : Cel (w.alloc o) b r c x y := h.below ((Below.refl _ _).alloc (Nat.le_refl _) o)
set_option maxHeartbeats 4000000 in
theorem parse_any (s : ByteArray) (w : World) (hs : s.size ≤ maxLen) :
    Calls Tryd.prog 16 #[.string s] w fun e w' => e = .returned (.tuple #[.agg #[.int .i64 (parseR s.data.toList).1, .int .i64 (parseR s.data.toList).2.1, .bool (parseR s.data.toList).2.2.1, .bool (parseR s.data.toList).2.2.2.1], .int .i64 (parseR s.data.toList).2.2.2.2]) ∧ Below w.heap.size w w' := by
  have hl : s.data.toList.length = s.size := by simp
  have q1 : (p1 s.data.toList).length ≤ s.size := by rw [← hl]; exact rest_len _ _ _
  have q2 : (p2 s.data.toList).length ≤ s.size := Nat.le_trans (rest_len _ _ _) q1
  have q3 : (p3 s.data.toList).length ≤ s.size := Nat.le_trans (rest_len _ _ _) q2
  have H1 : Hid (∀ (W : World) (b : Nat) (r c : Int) (x y : Bool), Cel W b r c x y → Calls Tryd.prog 30 #[.string s, .int .i64 1, .func (.func 40) #[] #[], .func (.func 41) #[] #[.pointer (some ⟨b, 0, none⟩)]] W fun e w' => e = .returned (.string ⟨(p1 s.data.toList).toArray⟩) ∧ Cel w' b r c x (pFixC s.data.toList) ∧ Below b W w') := fun W b r c x y h => cut1_any s b r c x y W hs h
  have H2 : Hid (∀ (W : World) (b : Nat) (r c : Int) (x y : Bool), Cel W b r c x y → Calls Tryd.prog 30 #[.string ⟨(p1 s.data.toList).toArray⟩, .int .i64 3, .func (.func 31) #[] #[], .func (.func 42) #[] #[.pointer (some ⟨b, 0, none⟩)]] W fun e w' => e = .returned (.string ⟨(p2 s.data.toList).toArray⟩) ∧ Cel w' b r (pCol s.data.toList) x y ∧ Below b W w') := fun W b r c x y h => cut2_any ⟨(p1 s.data.toList).toArray⟩ b r c x y W (by rw [ba_size]; omega) h
  have H3 : Hid (∀ (W : World) (b : Nat) (r c : Int) (x y : Bool), Cel W b r c x y → Calls Tryd.prog 30 #[.string ⟨(p2 s.data.toList).toArray⟩, .int .i64 1, .func (.func 40) #[] #[], .func (.func 43) #[] #[.pointer (some ⟨b, 0, none⟩)]] W fun e w' => e = .returned (.string ⟨(p3 s.data.toList).toArray⟩) ∧ Cel w' b r c (pFixR s.data.toList) y ∧ Below b W w') := fun W b r c x y h => cut3_any ⟨(p2 s.data.toList).toArray⟩ b r c x y W (by rw [ba_size]; omega) h
  have H4 : Hid (∀ (W : World) (b : Nat) (r c : Int) (x y : Bool), Cel W b r c x y → Calls Tryd.prog 30 #[.string ⟨(p3 s.data.toList).toArray⟩, .int .i64 7, .func (.func 44) #[] #[], .func (.func 45) #[] #[.pointer (some ⟨b, 0, none⟩)]] W fun e w' => e = .returned (.string ⟨(p4 s.data.toList).toArray⟩) ∧ Cel w' b (pRow s.data.toList) c x y ∧ Below b W w') := fun W b r c x y h => cut4_any ⟨(p3 s.data.toList).toArray⟩ b r c x y W (by rw [ba_size]; omega) h
  clear q1 q2 q3 hl hs
  have HC0 : Hid (Cel ((w.alloc (.cells #[.int .i64 0, .int .i64 0, .bool false, .bool false] 36)).alloc (.cells #[.int .i64 0, .int .i64 0, .bool false, .bool false] 36)) (w.heap.size + 1) 0 0 false false) := by
    have := Cel.new (w.alloc (.cells #[.int .i64 0, .int .i64 0, .bool false, .bool false] 36)) 0 0 false false 36
    show Cel _ _ _ _ _ _
    simpa using this
  unfold parseR
  generalize pCol s.data.toList = C at *
  generalize pRow s.data.toList = R at *
  generalize pFixC s.data.toList = X at *
  generalize pFixR s.data.toList = Y at *
  generalize p1 s.data.toList = l1 at *
  generalize p2 s.data.toList = l2 at *
  generalize p3 s.data.toList = l3 at *
  generalize p4 s.data.toList = l4 at *
  by_cases h1 : C = 0
  · subst h1
    rw [if_pos (Or.inl rfl)]
    go_enter Tryd.func16, Tryd.ntmps16
    go_wp2_with fail
    refine (H1.out _ _ _ _ _ _ HC0.out).mono ?_
    rintro e w1 ⟨rfl, hc1, hb1⟩
    have hr1 := ((Cel.new w 0 0 false false 36).alloc (.cells #[.int .i64 0, .int .i64 0, .bool false, .bool false] 36)).under hb1 (by simp)
    go_wp2_with fail
    refine (H2.out _ _ _ _ _ _ hc1).mono ?_
    rintro e w2 ⟨rfl, hc2, hb2⟩
    have hr2 := hr1.under hb2 (by simp)
    clear hc1 hr1
    go_wp2_with fail
    refine (H3.out _ _ _ _ _ _ hc2).mono ?_
    rintro e w3 ⟨rfl, hc3, hb3⟩
    have hr3 := hr2.under hb3 (by simp)
    clear hc2 hr2
    go_wp2_with fail
    refine (H4.out _ _ _ _ _ _ hc3).mono ?_
    rintro e w4 ⟨rfl, hc4, hb4⟩
    have hr4 := hr3.under hb4 (by simp)
    clear hc3 hr3
    have ⟨⟨z1, k0, k1, k2, k3⟩, f0, f1, f2, f3⟩ := hc4
    have ⟨⟨y1, j0, j1, j2, j3⟩, g0, g1, g2, g3⟩ := hr4
    clear hc4 hr4
    go_wp2
    refine bodyPost_ret (v := .tuple #[.agg #[.int .i64 0, .int .i64 0, .bool false, .bool false], .int .i64 5]) (by simp [results, Tryd.results16, go_sem, *]) rfl ⟨rfl, ?_⟩
    repeat' (first | with_reducible exact Below.refl _ _ | with_reducible refine Below.setCell ?_ ?_ _ | with_reducible refine Below.alloc ?_ ?_ _ | with_reducible refine below_drewN ?_ _ | with_reducible refine Below.drew ?_ | with_reducible refine Below.trans ?_ (Below.mono (by assumption) ?_) | with_reducible exact Nat.le_refl _ | with_reducible refine Nat.le_trans ?_ (Below.size (by assumption)) | with_reducible refine Nat.le_trans ?_ (size_alloc _ _) | with_reducible refine Nat.le_trans ?_ (size_set _ _ _) | with_reducible refine Nat.le_trans ?_ (size_drewN _ _) | with_reducible refine Nat.le_trans ?_ (size_drew _) | (simp; done) | (simp; omega) | omega)
  · have e1 : ((C : Int) == 0) = false := by simp; omega
    by_cases h2 : R = 0
    · subst h2
      rw [if_pos (Or.inr (Or.inl rfl))]
      go_enter Tryd.func16, Tryd.ntmps16
      go_wp2_with fail
      refine (H1.out _ _ _ _ _ _ HC0.out).mono ?_
      rintro e w1 ⟨rfl, hc1, hb1⟩
      have hr1 := ((Cel.new w 0 0 false false 36).alloc (.cells #[.int .i64 0, .int .i64 0, .bool false, .bool false] 36)).under hb1 (by simp)
      go_wp2_with fail
      refine (H2.out _ _ _ _ _ _ hc1).mono ?_
      rintro e w2 ⟨rfl, hc2, hb2⟩
      have hr2 := hr1.under hb2 (by simp)
      clear hc1 hr1
      go_wp2_with fail
      refine (H3.out _ _ _ _ _ _ hc2).mono ?_
      rintro e w3 ⟨rfl, hc3, hb3⟩
      have hr3 := hr2.under hb3 (by simp)
      clear hc2 hr2
      go_wp2_with fail
      refine (H4.out _ _ _ _ _ _ hc3).mono ?_
      rintro e w4 ⟨rfl, hc4, hb4⟩
      have hr4 := hr3.under hb4 (by simp)
      clear hc3 hr3
      have ⟨⟨z1, k0, k1, k2, k3⟩, f0, f1, f2, f3⟩ := hc4
      have ⟨⟨y1, j0, j1, j2, j3⟩, g0, g1, g2, g3⟩ := hr4
      clear hc4 hr4
      go_wp2
      refine bodyPost_ret (v := .tuple #[.agg #[.int .i64 0, .int .i64 0, .bool false, .bool false], .int .i64 5]) (by simp [results, Tryd.results16, go_sem, *]) rfl ⟨rfl, ?_⟩
      repeat' (first | with_reducible exact Below.refl _ _ | with_reducible refine Below.setCell ?_ ?_ _ | with_reducible refine Below.alloc ?_ ?_ _ | with_reducible refine below_drewN ?_ _ | with_reducible refine Below.drew ?_ | with_reducible refine Below.trans ?_ (Below.mono (by assumption) ?_) | with_reducible exact Nat.le_refl _ | with_reducible refine Nat.le_trans ?_ (Below.size (by assumption)) | with_reducible refine Nat.le_trans ?_ (size_alloc _ _) | with_reducible refine Nat.le_trans ?_ (size_set _ _ _) | with_reducible refine Nat.le_trans ?_ (size_drewN _ _) | with_reducible refine Nat.le_trans ?_ (size_drew _) | (simp; done) | (simp; omega) | omega)
    · have e2 : ((R : Int) == 0) = false := by simp; omega
      by_cases h3 : l4 = []
      · subst h3
        rw [if_neg (by simp [h1, h2])]
        clear h1 h2
        cases e4 : placeB (R : Int) (C : Int)
        · go_enter Tryd.func16, Tryd.ntmps16
          go_wp2_with fail
          refine (H1.out _ _ _ _ _ _ HC0.out).mono ?_
          rintro e w1 ⟨rfl, hc1, hb1⟩
          have hr1 := ((Cel.new w 0 0 false false 36).alloc (.cells #[.int .i64 0, .int .i64 0, .bool false, .bool false] 36)).under hb1 (by simp)
          go_wp2_with fail
          refine (H2.out _ _ _ _ _ _ hc1).mono ?_
          rintro e w2 ⟨rfl, hc2, hb2⟩
          have hr2 := hr1.under hb2 (by simp)
          clear hc1 hr1
          go_wp2_with fail
          refine (H3.out _ _ _ _ _ _ hc2).mono ?_
          rintro e w3 ⟨rfl, hc3, hb3⟩
          have hr3 := hr2.under hb3 (by simp)
          clear hc2 hr2
          go_wp2_with fail
          refine (H4.out _ _ _ _ _ _ hc3).mono ?_
          rintro e w4 ⟨rfl, hc4, hb4⟩
          have hr4 := hr3.under hb4 (by simp)
          clear hc3 hr3
          have ⟨⟨z1, k0, k1, k2, k3⟩, f0, f1, f2, f3⟩ := hc4
          have ⟨⟨y1, j0, j1, j2, j3⟩, g0, g1, g2, g3⟩ := hr4
          clear hc4 hr4
          go_wp2_with (go_at_call 35; refine (isPlace_any _ _ _).mono ?_; rw [e4]; rintro e wz ⟨rfl, hz⟩; subst wz)
          refine bodyPost_ret (v := .tuple #[.agg #[.int .i64 0, .int .i64 0, .bool false, .bool false], .int .i64 11]) (by simp [results, Tryd.results16, go_sem, *]) rfl ⟨rfl, ?_⟩
          repeat' (first | with_reducible exact Below.refl _ _ | with_reducible refine Below.setCell ?_ ?_ _ | with_reducible refine Below.alloc ?_ ?_ _ | with_reducible refine below_drewN ?_ _ | with_reducible refine Below.drew ?_ | with_reducible refine Below.trans ?_ (Below.mono (by assumption) ?_) | with_reducible exact Nat.le_refl _ | with_reducible refine Nat.le_trans ?_ (Below.size (by assumption)) | with_reducible refine Nat.le_trans ?_ (size_alloc _ _) | with_reducible refine Nat.le_trans ?_ (size_set _ _ _) | with_reducible refine Nat.le_trans ?_ (size_drewN _ _) | with_reducible refine Nat.le_trans ?_ (size_drew _) | (simp; done) | (simp; omega) | omega)
        · go_enter Tryd.func16, Tryd.ntmps16
          go_wp2_with fail
          refine (H1.out _ _ _ _ _ _ HC0.out).mono ?_
          rintro e w1 ⟨rfl, hc1, hb1⟩
          have hr1 := ((Cel.new w 0 0 false false 36).alloc (.cells #[.int .i64 0, .int .i64 0, .bool false, .bool false] 36)).under hb1 (by simp)
          go_wp2_with fail
          refine (H2.out _ _ _ _ _ _ hc1).mono ?_
          rintro e w2 ⟨rfl, hc2, hb2⟩
          have hr2 := hr1.under hb2 (by simp)
          clear hc1 hr1
          go_wp2_with fail
          refine (H3.out _ _ _ _ _ _ hc2).mono ?_
          rintro e w3 ⟨rfl, hc3, hb3⟩
          have hr3 := hr2.under hb3 (by simp)
          clear hc2 hr2
          go_wp2_with fail
          refine (H4.out _ _ _ _ _ _ hc3).mono ?_
          rintro e w4 ⟨rfl, hc4, hb4⟩
          have hr4 := hr3.under hb4 (by simp)
          clear hc3 hr3
          have ⟨⟨z1, k0, k1, k2, k3⟩, f0, f1, f2, f3⟩ := hc4
          have ⟨⟨y1, j0, j1, j2, j3⟩, g0, g1, g2, g3⟩ := hr4
          clear hc4 hr4
          go_wp2_with (go_at_call 35; refine (isPlace_any _ _ _).mono ?_; rw [e4]; rintro e wz ⟨rfl, hz⟩; subst wz)
          refine bodyPost_ret (v := .tuple #[.agg #[.int .i64 R, .int .i64 C, .bool Y, .bool X], .int .i64 0]) (by simp [results, Tryd.results16, go_sem, *]) rfl ⟨rfl, ?_⟩
          repeat' (first | with_reducible exact Below.refl _ _ | with_reducible refine Below.setCell ?_ ?_ _ | with_reducible refine Below.alloc ?_ ?_ _ | with_reducible refine below_drewN ?_ _ | with_reducible refine Below.drew ?_ | with_reducible refine Below.trans ?_ (Below.mono (by assumption) ?_) | with_reducible exact Nat.le_refl _ | with_reducible refine Nat.le_trans ?_ (Below.size (by assumption)) | with_reducible refine Nat.le_trans ?_ (size_alloc _ _) | with_reducible refine Nat.le_trans ?_ (size_set _ _ _) | with_reducible refine Nat.le_trans ?_ (size_drewN _ _) | with_reducible refine Nat.le_trans ?_ (size_drew _) | (simp; done) | (simp; omega) | omega)
      · rw [if_pos (Or.inr (Or.inr h3))]
        have e3 : (l4 == []) = false := by simpa using h3
        go_enter Tryd.func16, Tryd.ntmps16
        go_wp2_with fail
        refine (H1.out _ _ _ _ _ _ HC0.out).mono ?_
        rintro e w1 ⟨rfl, hc1, hb1⟩
        have hr1 := ((Cel.new w 0 0 false false 36).alloc (.cells #[.int .i64 0, .int .i64 0, .bool false, .bool false] 36)).under hb1 (by simp)
        go_wp2_with fail
        refine (H2.out _ _ _ _ _ _ hc1).mono ?_
        rintro e w2 ⟨rfl, hc2, hb2⟩
        have hr2 := hr1.under hb2 (by simp)
        clear hc1 hr1
        go_wp2_with fail
        refine (H3.out _ _ _ _ _ _ hc2).mono ?_
        rintro e w3 ⟨rfl, hc3, hb3⟩
        have hr3 := hr2.under hb3 (by simp)
        clear hc2 hr2
        go_wp2_with fail
        refine (H4.out _ _ _ _ _ _ hc3).mono ?_
        rintro e w4 ⟨rfl, hc4, hb4⟩
        have hr4 := hr3.under hb4 (by simp)
        clear hc3 hr3
        have ⟨⟨z1, k0, k1, k2, k3⟩, f0, f1, f2, f3⟩ := hc4
        have ⟨⟨y1, j0, j1, j2, j3⟩, g0, g1, g2, g3⟩ := hr4
        clear hc4 hr4
        go_wp2
        refine bodyPost_ret (v := .tuple #[.agg #[.int .i64 0, .int .i64 0, .bool false, .bool false], .int .i64 5]) (by simp [results, Tryd.results16, go_sem, *]) rfl ⟨rfl, ?_⟩
        repeat' (first | with_reducible exact Below.refl _ _ | with_reducible refine Below.setCell ?_ ?_ _ | with_reducible refine Below.alloc ?_ ?_ _ | with_reducible refine below_drewN ?_ _ | with_reducible refine Below.drew ?_ | with_reducible refine Below.trans ?_ (Below.mono (by assumption) ?_) | with_reducible exact Nat.le_refl _ | with_reducible refine Nat.le_trans ?_ (Below.size (by assumption)) | with_reducible refine Nat.le_trans ?_ (size_alloc _ _) | with_reducible refine Nat.le_trans ?_ (size_set _ _ _) | with_reducible refine Nat.le_trans ?_ (size_drewN _ _) | with_reducible refine Nat.le_trans ?_ (size_drew _) | (simp; done) | (simp; omega) | omega)
end Go.Proofs.YtpognkhobmbfcaaDoor
