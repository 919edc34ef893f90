/-
  The contracts of place's Meet, In, Area.
-/
import Derived.Test.YtkkoeanjmldmdaaPl1
namespace Go.Proofs.Ytkkoeanjmldmdaa
open Go.RowKit

theorem meetR_no {t l b r t' l' b' r' : Int} (h : rightB t l b r = false ∨ rightB t' l' b' r' = false ∨ rightB (max t t') (max l l') (min b b') (min r r') = false) : meetR t l b r t' l' b' r' = (0, 0, 0, 0, false) := by
  unfold meetR; rcases h with h | h | h <;> simp [h]
theorem meetR_yes {t l b r t' l' b' r' : Int} (h1 : rightB t l b r = true) (h2 : rightB t' l' b' r' = true) (h3 : rightB (max t t') (max l l') (min b b') (min r r') = true) : meetR t l b r t' l' b' r' = (max t t', max l l', min b b', min r r', true) := by
  unfold meetR; simp [h1, h2, h3]
theorem three {w w' : World} {p q s : Nat} {t l b r t' l' b' r' x y u v : Int} (h : At4 w p t l b r ∧ At4 w q t' l' b' r' ∧ Has4 w s x y u v) (k : Below w.heap.size w w') : At4 w' p t l b r ∧ At4 w' q t' l' b' r' ∧ Has4 w' s x y u v :=
  ⟨h.1.below k, h.2.1.below k, h.2.2.below k⟩
theorem three_alloc {w : World} {p q s : Nat} {t l b r t' l' b' r' x y u v : Int} (h : At4 w p t l b r ∧ At4 w q t' l' b' r' ∧ Has4 w s x y u v) (o : Obj) : At4 (w.alloc o) p t l b r ∧ At4 (w.alloc o) q t' l' b' r' ∧ Has4 (w.alloc o) s x y u v :=
  ⟨h.1.alloc o, h.2.1.alloc o, h.2.2.alloc o⟩

set_option maxHeartbeats 4000000 in
theorem meet_any (t l b r t' l' b' r' : Int) (w : World) :
    Calls Try.prog 39 #[.agg #[.int .i64 t, .int .i64 l, .int .i64 b, .int .i64 r], .agg #[.int .i64 t', .int .i64 l', .int .i64 b', .int .i64 r']] w fun e w' => e = .returned (.tuple #[.agg #[.int .i64 (meetR t l b r t' l' b' r').1, .int .i64 (meetR t l b r t' l' b' r').2.1, .int .i64 (meetR t l b r t' l' b' r').2.2.1, .int .i64 (meetR t l b r t' l' b' r').2.2.2.1], .bool (meetR t l b r t' l' b' r').2.2.2.2]) ∧ Below w.heap.size w w' := by
  have HA : Hid (∀ W : World, Calls Try.prog 21 #[.agg #[.int .i64 t, .int .i64 l, .int .i64 b, .int .i64 r]] W fun e w' => e = .returned (.int .i64 (checkR t l b r)) ∧ Below W.heap.size W w') := fun W => check_any _ _ _ _ W
  have HB : Hid (∀ W : World, Calls Try.prog 21 #[.agg #[.int .i64 t', .int .i64 l', .int .i64 b', .int .i64 r']] W fun e w' => e = .returned (.int .i64 (checkR t' l' b' r')) ∧ Below W.heap.size W w') := fun W => check_any _ _ _ _ W
  have HX : Hid (∀ w1, Below (((w.alloc (.cells #[.int .i64 t, .int .i64 l, .int .i64 b, .int .i64 r] 42)).alloc (.cells #[.int .i64 t', .int .i64 l', .int .i64 b', .int .i64 r'] 42)).alloc (.cells #[.int .i64 0, .int .i64 0, .int .i64 0, .int .i64 0] 42)).heap.size (((w.alloc (.cells #[.int .i64 t, .int .i64 l, .int .i64 b, .int .i64 r] 42)).alloc (.cells #[.int .i64 t', .int .i64 l', .int .i64 b', .int .i64 r'] 42)).alloc (.cells #[.int .i64 0, .int .i64 0, .int .i64 0, .int .i64 0] 42)) w1 → At4 w1 w.heap.size t l b r ∧ At4 w1 (w.heap.size + 1) t' l' b' r' ∧ Has4 w1 (w.heap.size + 1 + 1) 0 0 0 0) := fun w1 hb => by
    refine ⟨(((At4.new w t l b r _).alloc _).alloc _).below hb, ?_, ?_⟩
    · have := ((At4.new (w.alloc (.cells #[.int .i64 t, .int .i64 l, .int .i64 b, .int .i64 r] 42)) t' l' b' r' 42).alloc (.cells #[.int .i64 0, .int .i64 0, .int .i64 0, .int .i64 0] 42)).below hb
      simpa using this
    · have := (Has4.new ((w.alloc (.cells #[.int .i64 t, .int .i64 l, .int .i64 b, .int .i64 r] 42)).alloc (.cells #[.int .i64 t', .int .i64 l', .int .i64 b', .int .i64 r'] 42)) 0 0 0 0 42).below hb
      simpa using this
  cases h1 : rightB t l b r
  · rw [meetR_no (Or.inl h1)]
    rw [checkR_no h1] at HA
    clear h1
    go_enter Try.func39, Try.ntmps39
    go_wp2_with (go_at_call_of 21 [Value.agg #[Value.int IntKind.i64 t, Value.int IntKind.i64 l, Value.int IntKind.i64 b, Value.int IntKind.i64 r]]; refine (HA.out _).mono ?_; rintro e w1 ⟨rfl, hb1⟩; have hx1 := HX.out w1 hb1; have ⟨⟨z1, k10, k11, k12, k13⟩, ⟨y1, j10, j11, j12, j13⟩, ⟨x1, i10, i11, i12, i13⟩, f10, f11, f12, f13⟩ := hx1; have HX1 := hide hx1; clear hx1)
    refine bodyPost_ret (v := .tuple #[.agg #[.int .i64 0, .int .i64 0, .int .i64 0, .int .i64 0], .bool false]) (by simp [results, Try.results39, go_sem, *]) rfl ⟨rfl, ?_⟩
    repeat' (first | with_reducible exact Below.refl _ _ | with_reducible refine Below.setCell ?_ ?_ _ | with_reducible refine Below.alloc ?_ ?_ _ | with_reducible refine below_drewN ?_ _ | with_reducible refine Below.drew ?_ | with_reducible refine Below.trans ?_ (Below.mono (by assumption) ?_) | with_reducible exact Nat.le_refl _ | with_reducible refine Nat.le_trans ?_ (Below.size (by assumption)) | with_reducible refine Nat.le_trans ?_ (size_alloc _ _) | with_reducible refine Nat.le_trans ?_ (size_set _ _ _) | with_reducible refine Nat.le_trans ?_ (size_drewN _ _) | with_reducible refine Nat.le_trans ?_ (size_drew _) | (simp; done) | (simp; omega) | omega)
  · cases h2 : rightB t' l' b' r'
    · rw [meetR_no (Or.inr (Or.inl h2))]
      rw [checkR_yes h1] at HA
      rw [checkR_no h2] at HB
      clear h1 h2
      go_enter Try.func39, Try.ntmps39
      go_wp2_with (first | (go_at_call_of 21 [Value.agg #[Value.int IntKind.i64 t, Value.int IntKind.i64 l, Value.int IntKind.i64 b, Value.int IntKind.i64 r]]; refine (HA.out _).mono ?_; rintro e w1 ⟨rfl, hb1⟩; have hx1 := HX.out w1 hb1; have ⟨⟨z1, k10, k11, k12, k13⟩, ⟨y1, j10, j11, j12, j13⟩, ⟨x1, i10, i11, i12, i13⟩, f10, f11, f12, f13⟩ := hx1; have HX1 := hide hx1; clear hx1) | (go_at_call_of 21 [Value.agg #[Value.int IntKind.i64 t', Value.int IntKind.i64 l', Value.int IntKind.i64 b', Value.int IntKind.i64 r']]; refine (HB.out _).mono ?_; rintro e w2 ⟨rfl, hb2⟩; have hx2 := three HX1.out hb2; have ⟨⟨z2, k20, k21, k22, k23⟩, ⟨y2, j20, j21, j22, j23⟩, ⟨x2, i20, i21, i22, i23⟩, f20, f21, f22, f23⟩ := hx2; have HX2 := hide hx2; clear hx2))
      refine bodyPost_ret (v := .tuple #[.agg #[.int .i64 0, .int .i64 0, .int .i64 0, .int .i64 0], .bool false]) (by simp [results, Try.results39, go_sem, *]) rfl ⟨rfl, ?_⟩
      repeat' (first | with_reducible exact Below.refl _ _ | with_reducible refine Below.setCell ?_ ?_ _ | with_reducible refine Below.alloc ?_ ?_ _ | with_reducible refine below_drewN ?_ _ | with_reducible refine Below.drew ?_ | with_reducible refine Below.trans ?_ (Below.mono (by assumption) ?_) | with_reducible exact Nat.le_refl _ | with_reducible refine Nat.le_trans ?_ (Below.size (by assumption)) | with_reducible refine Nat.le_trans ?_ (size_alloc _ _) | with_reducible refine Nat.le_trans ?_ (size_set _ _ _) | with_reducible refine Nat.le_trans ?_ (size_drewN _ _) | with_reducible refine Nat.le_trans ?_ (size_drew _) | (simp; done) | (simp; omega) | omega)
    · have HM : Hid (∀ W : World, Calls Try.prog 21 #[.agg #[.int .i64 (max t t'), .int .i64 (max l l'), .int .i64 (min b b'), .int .i64 (min r r')]] W fun e w' => e = .returned (.int .i64 (checkR (max t t') (max l l') (min b b') (min r r'))) ∧ Below W.heap.size W w') := fun W => check_any _ _ _ _ W
      rw [checkR_yes h1] at HA
      rw [checkR_yes h2] at HB
      cases h3 : rightB (max t t') (max l l') (min b b') (min r r')
      · rw [meetR_no (Or.inr (Or.inr h3))]
        rw [checkR_no h3] at HM
        clear h1 h2 h3
        generalize hm1 : max t t' = m1 at *
        generalize hm2 : max l l' = m2 at *
        generalize hm3 : min b b' = m3 at *
        generalize hm4 : min r r' = m4 at *
        go_enter Try.func39, Try.ntmps39
        go_wp2_with (first | (go_at_call_of 21 [Value.agg #[Value.int IntKind.i64 t, Value.int IntKind.i64 l, Value.int IntKind.i64 b, Value.int IntKind.i64 r]]; refine (HA.out _).mono ?_; rintro e w1 ⟨rfl, hb1⟩; have hx1 := HX.out w1 hb1; have ⟨⟨z1, k10, k11, k12, k13⟩, ⟨y1, j10, j11, j12, j13⟩, ⟨x1, i10, i11, i12, i13⟩, f10, f11, f12, f13⟩ := hx1; have HX1 := hide hx1; clear hx1) | (go_at_call_of 21 [Value.agg #[Value.int IntKind.i64 t', Value.int IntKind.i64 l', Value.int IntKind.i64 b', Value.int IntKind.i64 r']]; refine (HB.out _).mono ?_; rintro e w2 ⟨rfl, hb2⟩; have hx2 := three HX1.out hb2; have ⟨⟨z2, k20, k21, k22, k23⟩, ⟨y2, j20, j21, j22, j23⟩, ⟨x2, i20, i21, i22, i23⟩, f20, f21, f22, f23⟩ := hx2; have HX2 := hide hx2; clear hx2) | (go_at_call_of 21 [Value.agg #[Value.int IntKind.i64 m1, Value.int IntKind.i64 m2, Value.int IntKind.i64 m3, Value.int IntKind.i64 m4]]; refine (HM.out _).mono ?_; rintro e w3 ⟨rfl, hb3⟩; have hx3 := three (three_alloc HX2.out _) hb3; have ⟨⟨z3, k30, k31, k32, k33⟩, ⟨y3, j30, j31, j32, j33⟩, ⟨x3, i30, i31, i32, i33⟩, f30, f31, f32, f33⟩ := hx3; have ⟨q0, q1, q2, q3, q4⟩ := (At4.new w2 m1 m2 m3 m4 42).below hb3))
        refine bodyPost_ret (v := .tuple #[.agg #[.int .i64 0, .int .i64 0, .int .i64 0, .int .i64 0], .bool false]) (by simp [results, Try.results39, go_sem, *]) rfl ⟨rfl, ?_⟩
        repeat' (first | with_reducible exact Below.refl _ _ | with_reducible refine Below.setCell ?_ ?_ _ | with_reducible refine Below.alloc ?_ ?_ _ | with_reducible refine below_drewN ?_ _ | with_reducible refine Below.drew ?_ | with_reducible refine Below.trans ?_ (Below.mono (by assumption) ?_) | with_reducible exact Nat.le_refl _ | with_reducible refine Nat.le_trans ?_ (Below.size (by assumption)) | with_reducible refine Nat.le_trans ?_ (size_alloc _ _) | with_reducible refine Nat.le_trans ?_ (size_set _ _ _) | with_reducible refine Nat.le_trans ?_ (size_drewN _ _) | with_reducible refine Nat.le_trans ?_ (size_drew _) | (simp; done) | (simp; omega) | omega)
      · rw [meetR_yes h1 h2 h3]
        rw [checkR_yes h3] at HM
        clear h1 h2 h3
        generalize hm1 : max t t' = m1 at *
        generalize hm2 : max l l' = m2 at *
        generalize hm3 : min b b' = m3 at *
        generalize hm4 : min r r' = m4 at *
        go_enter Try.func39, Try.ntmps39
        go_wp2_with (first | (go_at_call_of 21 [Value.agg #[Value.int IntKind.i64 t, Value.int IntKind.i64 l, Value.int IntKind.i64 b, Value.int IntKind.i64 r]]; refine (HA.out _).mono ?_; rintro e w1 ⟨rfl, hb1⟩; have hx1 := HX.out w1 hb1; have ⟨⟨z1, k10, k11, k12, k13⟩, ⟨y1, j10, j11, j12, j13⟩, ⟨x1, i10, i11, i12, i13⟩, f10, f11, f12, f13⟩ := hx1; have HX1 := hide hx1; clear hx1) | (go_at_call_of 21 [Value.agg #[Value.int IntKind.i64 t', Value.int IntKind.i64 l', Value.int IntKind.i64 b', Value.int IntKind.i64 r']]; refine (HB.out _).mono ?_; rintro e w2 ⟨rfl, hb2⟩; have hx2 := three HX1.out hb2; have ⟨⟨z2, k20, k21, k22, k23⟩, ⟨y2, j20, j21, j22, j23⟩, ⟨x2, i20, i21, i22, i23⟩, f20, f21, f22, f23⟩ := hx2; have HX2 := hide hx2; clear hx2) | (go_at_call_of 21 [Value.agg #[Value.int IntKind.i64 m1, Value.int IntKind.i64 m2, Value.int IntKind.i64 m3, Value.int IntKind.i64 m4]]; refine (HM.out _).mono ?_; rintro e w3 ⟨rfl, hb3⟩; have hx3 := three (three_alloc HX2.out _) hb3; have ⟨⟨z3, k30, k31, k32, k33⟩, ⟨y3, j30, j31, j32, j33⟩, ⟨x3, i30, i31, i32, i33⟩, f30, f31, f32, f33⟩ := hx3; have ⟨q0, q1, q2, q3, q4⟩ := (At4.new w2 m1 m2 m3 m4 42).below hb3))
        refine bodyPost_ret (v := .tuple #[.agg #[.int .i64 m1, .int .i64 m2, .int .i64 m3, .int .i64 m4], .bool true]) (by simp [results, Try.results39, go_sem, *]) rfl ⟨rfl, ?_⟩
        repeat' (first | with_reducible exact Below.refl _ _ | with_reducible refine Below.setCell ?_ ?_ _ | with_reducible refine Below.alloc ?_ ?_ _ | with_reducible refine below_drewN ?_ _ | with_reducible refine Below.drew ?_ | with_reducible refine Below.trans ?_ (Below.mono (by assumption) ?_) | with_reducible exact Nat.le_refl _ | with_reducible refine Nat.le_trans ?_ (Below.size (by assumption)) | with_reducible refine Nat.le_trans ?_ (size_alloc _ _) | with_reducible refine Nat.le_trans ?_ (size_set _ _ _) | with_reducible refine Nat.le_trans ?_ (size_drewN _ _) | with_reducible refine Nat.le_trans ?_ (size_drew _) | (simp; done) | (simp; omega) | omega)

theorem meet_in (t l b r x y : Int) : (meetR t l b r x y x y).2.2.2.2 = inB t l b r x y := by
  cases h1 : rightB t l b r
  · rw [meetR_no (Or.inl h1)]; simp [inB, h1]
  · have g1 := rightB_iff.1 h1
    cases h2 : inB t l b r x y
    · by_cases h3 : rightB x y x y = true
      · rw [meetR_no (Or.inr (Or.inr (rightB_no.2 ?_)))]
        have g3 := rightB_iff.1 h3
        have : ¬ (t ≤ x ∧ x ≤ b ∧ l ≤ y ∧ y ≤ r) := fun h => by rw [inB_iff.2 ⟨h1, h⟩] at h2; cases h2
        omega
      · rw [meetR_no (Or.inr (Or.inl (by simpa using h3)))]
    · obtain ⟨_, a, b', c, d⟩ := inB_iff.1 h2
      rw [meetR_yes h1 (rightB_iff.2 (by omega)) (rightB_iff.2 (by omega))]
set_option maxHeartbeats 1000000 in
theorem in_any (t l b r x y : Int) (w : World) :
    Calls Try.prog 20 #[.agg #[.int .i64 t, .int .i64 l, .int .i64 b, .int .i64 r], .agg #[.int .i64 x, .int .i64 y]] w fun e w' => e = .returned (.bool (inB t l b r x y)) ∧ Below w.heap.size w w' := by
  have HM : Hid (∀ W : World, Calls Try.prog 39 #[.agg #[.int .i64 t, .int .i64 l, .int .i64 b, .int .i64 r], .agg #[.int .i64 x, .int .i64 y, .int .i64 x, .int .i64 y]] W fun e w' => e = .returned (.tuple #[.agg #[.int .i64 (meetR t l b r x y x y).1, .int .i64 (meetR t l b r x y x y).2.1, .int .i64 (meetR t l b r x y x y).2.2.1, .int .i64 (meetR t l b r x y x y).2.2.2.1], .bool (inB t l b r x y)]) ∧ Below W.heap.size W w') := fun W => by
    have := meet_any t l b r x y x y W
    rw [meet_in] at this
    exact this
  generalize (meetR t l b r x y x y).1 = m1 at *
  generalize (meetR t l b r x y x y).2.1 = m2 at *
  generalize (meetR t l b r x y x y).2.2.1 = m3 at *
  generalize (meetR t l b r x y x y).2.2.2.1 = m4 at *
  generalize inB t l b r x y = m5 at *
  go_enter Try.func20, Try.ntmps20
  go_wp2_with (go_at_call 39; refine (HM.out _).mono ?_; rintro e w1 ⟨rfl, hb1⟩)
  go_ret
  refine ⟨rfl, ?_⟩
  repeat' (first | with_reducible exact Below.refl _ _ | with_reducible refine Below.setCell ?_ ?_ _ | with_reducible refine Below.alloc ?_ ?_ _ | with_reducible refine below_drewN ?_ _ | with_reducible refine Below.drew ?_ | with_reducible refine Below.trans ?_ (Below.mono (by assumption) ?_) | with_reducible exact Nat.le_refl _ | with_reducible refine Nat.le_trans ?_ (Below.size (by assumption)) | with_reducible refine Nat.le_trans ?_ (size_alloc _ _) | with_reducible refine Nat.le_trans ?_ (size_set _ _ _) | with_reducible refine Nat.le_trans ?_ (size_drewN _ _) | with_reducible refine Nat.le_trans ?_ (size_drew _) | (simp; done) | (simp; omega) | omega)
theorem areaR_yes {t l b r : Int} (h : rightB t l b r = true) : areaR t l b r = ((b - t + 1) * (r - l + 1), 0) := by simp [areaR, h]
theorem areaR_no {t l b r : Int} (h : rightB t l b r = false) : areaR t l b r = (0, 2) := by simp [areaR, h]
end Go.Proofs.Ytkkoeanjmldmdaa
