/-
  The contract of the answer's Meet.
-/
import Derived.Test.YtpognkhobmbfcaaDoorPl3
namespace Go.Proofs.YtpognkhobmbfcaaDoor
open Go.RowKit

set_option maxHeartbeats 4000000 in
theorem rmeet_any (t l b r t' l' b' r' : Int) (w : World) :
    Calls Tryd.prog 21 #[.agg #[.int .i64 t, .int .i64 l, .int .i64 b, .int .i64 r], .agg #[.int .i64 t', .int .i64 l', .int .i64 b', .int .i64 r']] w fun e w' => e = .returned (.tuple #[.agg #[.int .i64 (meetR t l b r t' l' b' r').1, .int .i64 (meetR t l b r t' l' b' r').2.1, .int .i64 (meetR t l b r t' l' b' r').2.2.1, .int .i64 (meetR t l b r t' l' b' r').2.2.2.1], .bool (meetR t l b r t' l' b' r').2.2.2.2]) ∧ Below w.heap.size w w' := by
  have HA : Hid (∀ W : World, Calls Tryd.prog 48 #[.agg #[.int .i64 t, .int .i64 l, .int .i64 b, .int .i64 r]] W fun e w' => e = .returned (.bool (rightB t l b r)) ∧ Below W.heap.size W w') := fun W => rright_any _ _ _ _ W
  have HB : Hid (∀ W : World, Calls Tryd.prog 48 #[.agg #[.int .i64 t', .int .i64 l', .int .i64 b', .int .i64 r']] W fun e w' => e = .returned (.bool (rightB t' l' b' r')) ∧ Below W.heap.size W w') := fun W => rright_any _ _ _ _ W
  have HX : Hid (∀ w1, Below (((w.alloc (.cells #[.int .i64 t, .int .i64 l, .int .i64 b, .int .i64 r] 45)).alloc (.cells #[.int .i64 t', .int .i64 l', .int .i64 b', .int .i64 r'] 45)).alloc (.cells #[.int .i64 0, .int .i64 0, .int .i64 0, .int .i64 0] 45)).heap.size (((w.alloc (.cells #[.int .i64 t, .int .i64 l, .int .i64 b, .int .i64 r] 45)).alloc (.cells #[.int .i64 t', .int .i64 l', .int .i64 b', .int .i64 r'] 45)).alloc (.cells #[.int .i64 0, .int .i64 0, .int .i64 0, .int .i64 0] 45)) w1 → At4 w1 w.heap.size t l b r ∧ At4 w1 (w.heap.size + 1) t' l' b' r' ∧ Has4 w1 (w.heap.size + 1 + 1) 0 0 0 0) := fun w1 hb => by
    refine ⟨(((At4.new w t l b r _).alloc _).alloc _).below hb, ?_, ?_⟩
    · have := ((At4.new (w.alloc (.cells #[.int .i64 t, .int .i64 l, .int .i64 b, .int .i64 r] 45)) t' l' b' r' 45).alloc (.cells #[.int .i64 0, .int .i64 0, .int .i64 0, .int .i64 0] 45)).below hb
      simpa using this
    · have := (Has4.new ((w.alloc (.cells #[.int .i64 t, .int .i64 l, .int .i64 b, .int .i64 r] 45)).alloc (.cells #[.int .i64 t', .int .i64 l', .int .i64 b', .int .i64 r'] 45)) 0 0 0 0 45).below hb
      simpa using this
  cases h1 : rightB t l b r
  · rw [meetR_no (Or.inl h1)]
    rw [h1] at HA
    clear h1
    go_enter Tryd.func21, Tryd.ntmps21
    go_wp2_with (go_at_call_of 48 [Value.agg #[Value.int IntKind.i64 t, Value.int IntKind.i64 l, Value.int IntKind.i64 b, Value.int IntKind.i64 r]]; refine (HA.out _).mono ?_; rintro e w1 ⟨rfl, hb1⟩; have hx1 := HX.out w1 hb1; have ⟨⟨z1, k10, k11, k12, k13⟩, ⟨y1, j10, j11, j12, j13⟩, ⟨x1, i10, i11, i12, i13⟩, f10, f11, f12, f13⟩ := hx1; have HX1 := hide hx1; clear hx1)
    refine bodyPost_ret (v := .tuple #[.agg #[.int .i64 0, .int .i64 0, .int .i64 0, .int .i64 0], .bool false]) (by simp [results, Tryd.results21, go_sem, *]) rfl ⟨rfl, ?_⟩
    repeat' (first | with_reducible exact Below.refl _ _ | with_reducible refine Below.setCell ?_ ?_ _ | with_reducible refine Below.alloc ?_ ?_ _ | with_reducible refine below_drewN ?_ _ | with_reducible refine Below.drew ?_ | with_reducible refine Below.trans ?_ (Below.mono (by assumption) ?_) | with_reducible exact Nat.le_refl _ | with_reducible refine Nat.le_trans ?_ (Below.size (by assumption)) | with_reducible refine Nat.le_trans ?_ (size_alloc _ _) | with_reducible refine Nat.le_trans ?_ (size_set _ _ _) | with_reducible refine Nat.le_trans ?_ (size_drewN _ _) | with_reducible refine Nat.le_trans ?_ (size_drew _) | (simp; done) | (simp; omega) | omega)
  · cases h2 : rightB t' l' b' r'
    · rw [meetR_no (Or.inr (Or.inl h2))]
      rw [h1] at HA
      rw [h2] at HB
      clear h1 h2
      go_enter Tryd.func21, Tryd.ntmps21
      go_wp2_with (first | (go_at_call_of 48 [Value.agg #[Value.int IntKind.i64 t, Value.int IntKind.i64 l, Value.int IntKind.i64 b, Value.int IntKind.i64 r]]; refine (HA.out _).mono ?_; rintro e w1 ⟨rfl, hb1⟩; have hx1 := HX.out w1 hb1; have ⟨⟨z1, k10, k11, k12, k13⟩, ⟨y1, j10, j11, j12, j13⟩, ⟨x1, i10, i11, i12, i13⟩, f10, f11, f12, f13⟩ := hx1; have HX1 := hide hx1; clear hx1) | (go_at_call_of 48 [Value.agg #[Value.int IntKind.i64 t', Value.int IntKind.i64 l', Value.int IntKind.i64 b', Value.int IntKind.i64 r']]; refine (HB.out _).mono ?_; rintro e w2 ⟨rfl, hb2⟩; have hx2 := three HX1.out hb2; have ⟨⟨z2, k20, k21, k22, k23⟩, ⟨y2, j20, j21, j22, j23⟩, ⟨x2, i20, i21, i22, i23⟩, f20, f21, f22, f23⟩ := hx2; have HX2 := hide hx2; clear hx2))
      refine bodyPost_ret (v := .tuple #[.agg #[.int .i64 0, .int .i64 0, .int .i64 0, .int .i64 0], .bool false]) (by simp [results, Tryd.results21, go_sem, *]) rfl ⟨rfl, ?_⟩
      repeat' (first | with_reducible exact Below.refl _ _ | with_reducible refine Below.setCell ?_ ?_ _ | with_reducible refine Below.alloc ?_ ?_ _ | with_reducible refine below_drewN ?_ _ | with_reducible refine Below.drew ?_ | with_reducible refine Below.trans ?_ (Below.mono (by assumption) ?_) | with_reducible exact Nat.le_refl _ | with_reducible refine Nat.le_trans ?_ (Below.size (by assumption)) | with_reducible refine Nat.le_trans ?_ (size_alloc _ _) | with_reducible refine Nat.le_trans ?_ (size_set _ _ _) | with_reducible refine Nat.le_trans ?_ (size_drewN _ _) | with_reducible refine Nat.le_trans ?_ (size_drew _) | (simp; done) | (simp; omega) | omega)
    · have g1 := rightB_iff.1 h1
      have g2 := rightB_iff.1 h2
      rw [h1] at HA
      rw [h2] at HB
      cases h3 : rightB (max t t') (max l l') (min b b') (min r r')
      · rw [meetR_no (Or.inr (Or.inr h3))]
        have g3 : max t t' > min b b' ∨ max l l' > min r r' := by have := rightB_no.1 h3; omega
        clear h1 h2 h3 g1 g2
        generalize hm1 : max t t' = m1 at *
        generalize hm2 : max l l' = m2 at *
        generalize hm3 : min b b' = m3 at *
        generalize hm4 : min r r' = m4 at *
        by_cases g4 : m1 > m3
        · clear g3
          go_enter Tryd.func21, Tryd.ntmps21
          go_wp2_with (first | (go_at_call_of 48 [Value.agg #[Value.int IntKind.i64 t, Value.int IntKind.i64 l, Value.int IntKind.i64 b, Value.int IntKind.i64 r]]; refine (HA.out _).mono ?_; rintro e w1 ⟨rfl, hb1⟩; have hx1 := HX.out w1 hb1; have ⟨⟨z1, k10, k11, k12, k13⟩, ⟨y1, j10, j11, j12, j13⟩, ⟨x1, i10, i11, i12, i13⟩, f10, f11, f12, f13⟩ := hx1; have HX1 := hide hx1; clear hx1) | (go_at_call_of 48 [Value.agg #[Value.int IntKind.i64 t', Value.int IntKind.i64 l', Value.int IntKind.i64 b', Value.int IntKind.i64 r']]; refine (HB.out _).mono ?_; rintro e w2 ⟨rfl, hb2⟩; have hx2 := three HX1.out hb2; have ⟨⟨z2, k20, k21, k22, k23⟩, ⟨y2, j20, j21, j22, j23⟩, ⟨x2, i20, i21, i22, i23⟩, f20, f21, f22, f23⟩ := hx2; have HX2 := hide hx2; clear hx2))
          refine bodyPost_ret (v := .tuple #[.agg #[.int .i64 0, .int .i64 0, .int .i64 0, .int .i64 0], .bool false]) (by simp [results, Tryd.results21, go_sem, *]) rfl ⟨rfl, ?_⟩
          repeat' (first | with_reducible exact Below.refl _ _ | with_reducible refine Below.setCell ?_ ?_ _ | with_reducible refine Below.alloc ?_ ?_ _ | with_reducible refine below_drewN ?_ _ | with_reducible refine Below.drew ?_ | with_reducible refine Below.trans ?_ (Below.mono (by assumption) ?_) | with_reducible exact Nat.le_refl _ | with_reducible refine Nat.le_trans ?_ (Below.size (by assumption)) | with_reducible refine Nat.le_trans ?_ (size_alloc _ _) | with_reducible refine Nat.le_trans ?_ (size_set _ _ _) | with_reducible refine Nat.le_trans ?_ (size_drewN _ _) | with_reducible refine Nat.le_trans ?_ (size_drew _) | (simp; done) | (simp; omega) | omega)
        · have g5 : m2 > m4 := by omega
          clear g3
          go_enter Tryd.func21, Tryd.ntmps21
          go_wp2_with (first | (go_at_call_of 48 [Value.agg #[Value.int IntKind.i64 t, Value.int IntKind.i64 l, Value.int IntKind.i64 b, Value.int IntKind.i64 r]]; refine (HA.out _).mono ?_; rintro e w1 ⟨rfl, hb1⟩; have hx1 := HX.out w1 hb1; have ⟨⟨z1, k10, k11, k12, k13⟩, ⟨y1, j10, j11, j12, j13⟩, ⟨x1, i10, i11, i12, i13⟩, f10, f11, f12, f13⟩ := hx1; have HX1 := hide hx1; clear hx1) | (go_at_call_of 48 [Value.agg #[Value.int IntKind.i64 t', Value.int IntKind.i64 l', Value.int IntKind.i64 b', Value.int IntKind.i64 r']]; refine (HB.out _).mono ?_; rintro e w2 ⟨rfl, hb2⟩; have hx2 := three HX1.out hb2; have ⟨⟨z2, k20, k21, k22, k23⟩, ⟨y2, j20, j21, j22, j23⟩, ⟨x2, i20, i21, i22, i23⟩, f20, f21, f22, f23⟩ := hx2; have HX2 := hide hx2; clear hx2))
          refine bodyPost_ret (v := .tuple #[.agg #[.int .i64 0, .int .i64 0, .int .i64 0, .int .i64 0], .bool false]) (by simp [results, Tryd.results21, go_sem, *]) rfl ⟨rfl, ?_⟩
          repeat' (first | with_reducible exact Below.refl _ _ | with_reducible refine Below.setCell ?_ ?_ _ | with_reducible refine Below.alloc ?_ ?_ _ | with_reducible refine below_drewN ?_ _ | with_reducible refine Below.drew ?_ | with_reducible refine Below.trans ?_ (Below.mono (by assumption) ?_) | with_reducible exact Nat.le_refl _ | with_reducible refine Nat.le_trans ?_ (Below.size (by assumption)) | with_reducible refine Nat.le_trans ?_ (size_alloc _ _) | with_reducible refine Nat.le_trans ?_ (size_set _ _ _) | with_reducible refine Nat.le_trans ?_ (size_drewN _ _) | with_reducible refine Nat.le_trans ?_ (size_drew _) | (simp; done) | (simp; omega) | omega)
      · rw [meetR_yes h1 h2 h3]
        have g3 := rightB_iff.1 h3
        have g4 : ¬ max t t' > min b b' := by omega
        have g5 : ¬ max l l' > min r r' := by omega
        clear h1 h2 h3 g1 g2 g3
        generalize hm1 : max t t' = m1 at *
        generalize hm2 : max l l' = m2 at *
        generalize hm3 : min b b' = m3 at *
        generalize hm4 : min r r' = m4 at *
        go_enter Tryd.func21, Tryd.ntmps21
        go_wp2_with (first | (go_at_call_of 48 [Value.agg #[Value.int IntKind.i64 t, Value.int IntKind.i64 l, Value.int IntKind.i64 b, Value.int IntKind.i64 r]]; refine (HA.out _).mono ?_; rintro e w1 ⟨rfl, hb1⟩; have hx1 := HX.out w1 hb1; have ⟨⟨z1, k10, k11, k12, k13⟩, ⟨y1, j10, j11, j12, j13⟩, ⟨x1, i10, i11, i12, i13⟩, f10, f11, f12, f13⟩ := hx1; have HX1 := hide hx1; clear hx1) | (go_at_call_of 48 [Value.agg #[Value.int IntKind.i64 t', Value.int IntKind.i64 l', Value.int IntKind.i64 b', Value.int IntKind.i64 r']]; refine (HB.out _).mono ?_; rintro e w2 ⟨rfl, hb2⟩; have hx2 := three HX1.out hb2; have ⟨⟨z2, k20, k21, k22, k23⟩, ⟨y2, j20, j21, j22, j23⟩, ⟨x2, i20, i21, i22, i23⟩, f20, f21, f22, f23⟩ := hx2; have HX2 := hide hx2; clear hx2))
        refine bodyPost_ret (v := .tuple #[.agg #[.int .i64 m1, .int .i64 m2, .int .i64 m3, .int .i64 m4], .bool true]) (by simp [results, Tryd.results21, go_sem, *]) rfl ⟨rfl, ?_⟩
        repeat' (first | with_reducible exact Below.refl _ _ | with_reducible refine Below.setCell ?_ ?_ _ | with_reducible refine Below.alloc ?_ ?_ _ | with_reducible refine below_drewN ?_ _ | with_reducible refine Below.drew ?_ | with_reducible refine Below.trans ?_ (Below.mono (by assumption) ?_) | with_reducible exact Nat.le_refl _ | with_reducible refine Nat.le_trans ?_ (Below.size (by assumption)) | with_reducible refine Nat.le_trans ?_ (size_alloc _ _) | with_reducible refine Nat.le_trans ?_ (size_set _ _ _) | with_reducible refine Nat.le_trans ?_ (size_drewN _ _) | with_reducible refine Nat.le_trans ?_ (size_drew _) | (simp; done) | (simp; omega) | omega)
end Go.Proofs.YtpognkhobmbfcaaDoor
