/-
  Out of Mv9, what is asked for (laid by pack9.py).
-/
import Derived.Test.YtfpmmckpobpokaaGreatBVMr
set_option maxRecDepth 100000
set_option maxHeartbeats 4000000
namespace Go.Proofs.YtfpmmckpobpokaaGreat.Pla
section
open Go.RowKit
def KcS (w : World) (k a n t l b r : Int) (w' : World) : Prop := At3 w' w.heap.size k a n ∧ At4 w' (w.heap.size + 1) t l b r ∧ Below w.heap.size w w'
theorem KcS.below {w w1 w' : World} {k a n t l b r : Int} (h : KcS w k a n t l b r w1) (m : Below w1.heap.size w1 w') : KcS w k a n t l b r w' :=
 ⟨h.1.below m, h.2.1.below m, h.2.2.trans (m.mono h.2.2.size)⟩
theorem KcS.alloc {w w1 : World} {k a n t l b r : Int} (h : KcS w k a n t l b r w1) (o : Obj) : KcS w k a n t l b r (w1.alloc o) := h.below ((Below.refl _ _).alloc (Nat.le_refl _) o)
theorem KcS.start (w : World) (k a n t l b r : Int) (t1 t2 : TypeId) : KcS w k a n t l b r ((w.alloc (.cells #[.int .i64 k, .int .i64 a, .int .i64 n] t1)).alloc (.cells #[.int .i64 t, .int .i64 l, .int .i64 b, .int .i64 r] t2)) := by
 refine ⟨(At3.new w k a n t1).alloc _, ?_, ?_⟩
 ·
  have := At4.new (w.alloc (.cells #[.int .i64 k, .int .i64 a, .int .i64 n] t1)) t l b r t2
  simpa using this
 ·
  repeat' (first | with_reducible (first | exact Below.refl _ _ | refine Below.setCell ?_ ?_ _ | refine Below.alloc ?_ ?_ _ | refine below_drewN ?_ _ | refine Below.drew ?_ | refine Below.trans ?_ (Below.mono (by assumption) ?_) | exact Nat.le_refl _ | refine Nat.le_trans ?_ (Below.size (by assumption)) | refine zzA ?_ | refine zzB ?_ | refine zzC ?_ | refine zzD ?_) | (simp; done) | (simp; omega) | omega)
def KdS (w : World) (q : Nat) (k a n t l b r : Int) (w' : World) : Prop := w.heap.size + 1 < q ∧ Has2 w' q t l ∧ Has2 w' (q + 1) b r ∧ KcS w k a n t l b r w'
theorem KdS.below {w w1 w' : World} {q : Nat} {k a n t l b r : Int} (h : KdS w q k a n t l b r w1) (m : Below w1.heap.size w1 w') : KdS w q k a n t l b r w' :=
 ⟨h.1, h.2.1.below m, h.2.2.1.below m, h.2.2.2.below m⟩
theorem KdS.start {w w1 : World} {k a n t l b r : Int} (h : KcS w k a n t l b r w1) (t1 t2 : TypeId) : KdS w w1.heap.size k a n t l b r ((w1.alloc (.cells #[.int .i64 t, .int .i64 l] t1)).alloc (.cells #[.int .i64 b, .int .i64 r] t2)) :=
 ⟨h.2.1.1, (Has2.new w1 t l t1).alloc _, by have := Has2.new (w1.alloc (.cells #[.int .i64 t, .int .i64 l] t1)) b r t2; simpa using this, (h.alloc _).alloc _⟩
theorem clips_bad (k a n t l b r : Int) (hz : editB k a n = false ∨ rightB t l b r = false) (w : World) :
  Calls Tryz.prog 23 #[.agg #[.int .i64 k, .int .i64 a, .int .i64 n], .agg #[.int .i64 t, .int .i64 l, .int .i64 b, .int .i64 r]] w fun e w' => e = .returned (.tuple #[.bool (clipR k a n t l b r).1, .int .i64 (clipR k a n t l b r).2]) ∧ Below w.heap.size w w' := by
 have HC : Hid (∀ W : World, Calls Tryz.prog 31 #[.agg #[.int .i64 k, .int .i64 a, .int .i64 n]] W fun e w' => e = .returned (.int .i64 (editR k a n)) ∧ Below W.heap.size W w') := fun W => edit_any k a n W
 have HP : Hid (∀ W : World, Calls Tryz.prog 50 #[.agg #[.int .i64 t, .int .i64 l, .int .i64 b, .int .i64 r]] W fun e w' => e = .returned (.int .i64 (checkR t l b r)) ∧ Below W.heap.size W w') := fun W => check_any t l b r W
 have HN : Hid (∀ W : World, Calls Tryz.prog 51 #[.agg #[.int .i64 t, .int .i64 l, .int .i64 b, .int .i64 r]] W fun e w' => e = .returned (.tuple #[.agg #[.int .i64 t, .int .i64 l], .agg #[.int .i64 b, .int .i64 r]]) ∧ Below W.heap.size W w') := fun W => corners_any t l b r W
 have H0 := hide (KcS.start w k a n t l b r 36 62)
 rw [clipR_no hz]
 cases h : editB k a n
 ·
  rw [editR_no h] at HC
  clear h hz
  go_enter Tryz.func23, Tryz.ntmps23
  go_wp2_with (first | (go_at_call 31; refine (HC.out _).mono ?_; rintro e w1 ⟨rfl, hb1⟩; have hs1 := H0.out.below hb1; have ⟨⟨z1, k0, k1, k2⟩, ⟨z2, j0, j1, j2, j3⟩, hbz⟩ := hs1; have HS1 := hide hs1; clear hs1))
  go_ret2
  refine ⟨rfl, ?_⟩
  repeat' (first | with_reducible (first | exact Below.refl _ _ | refine Below.setCell ?_ ?_ _ | refine Below.alloc ?_ ?_ _ | refine below_drewN ?_ _ | refine Below.drew ?_ | refine Below.trans ?_ (Below.mono (by assumption) ?_) | exact Nat.le_refl _ | refine Nat.le_trans ?_ (Below.size (by assumption)) | refine zzA ?_ | refine zzB ?_ | refine zzC ?_ | refine zzD ?_) | (simp; done) | (simp; omega) | omega)
 ·
  rw [editR_yes h] at HC
  have hp : rightB t l b r = false := hz.resolve_left (by rw [h]; decide)
  rw [checkR_no hp] at HP
  clear h hp hz
  go_enter Tryz.func23, Tryz.ntmps23
  go_wp2_with (first | (go_at_call 31; refine (HC.out _).mono ?_; rintro e w1 ⟨rfl, hb1⟩; have hs1 := H0.out.below hb1; have ⟨⟨z1, k0, k1, k2⟩, ⟨z2, j0, j1, j2, j3⟩, hbz⟩ := hs1; have HS1 := hide hs1; clear hs1) | (go_at_call 50; refine (HP.out _).mono ?_; rintro e w2 ⟨rfl, hb2⟩; have hs2 := HS1.out.below hb2; clear z1 k0 k1 k2 z2 j0 j1 j2 j3 hbz; have ⟨⟨z1, k0, k1, k2⟩, ⟨z2, j0, j1, j2, j3⟩, hbz⟩ := hs2; have HS2 := hide hs2; clear hs2))
  go_ret2
  refine ⟨rfl, ?_⟩
  repeat' (first | with_reducible (first | exact Below.refl _ _ | refine Below.setCell ?_ ?_ _ | refine Below.alloc ?_ ?_ _ | refine below_drewN ?_ _ | refine Below.drew ?_ | refine Below.trans ?_ (Below.mono (by assumption) ?_) | exact Nat.le_refl _ | refine Nat.le_trans ?_ (Below.size (by assumption)) | refine zzA ?_ | refine zzB ?_ | refine zzC ?_ | refine zzD ?_) | (simp; done) | (simp; omega) | omega)
theorem clips_ok0 {k a n t l b r : Int} (h : editB k a n = true) (hp : rightB t l b r = true) (hr : rowsB k = true) (w : World) :
  Calls Tryz.prog 23 #[.agg #[.int .i64 k, .int .i64 a, .int .i64 n], .agg #[.int .i64 t, .int .i64 l, .int .i64 b, .int .i64 r]] w fun e w' => e = .returned (.tuple #[.bool (clipR k a n t l b r).1, .int .i64 (clipR k a n t l b r).2]) ∧ Below w.heap.size w w' := by
 have HC : Hid (∀ W : World, Calls Tryz.prog 31 #[.agg #[.int .i64 k, .int .i64 a, .int .i64 n]] W fun e w' => e = .returned (.int .i64 (editR k a n)) ∧ Below W.heap.size W w') := fun W => edit_any k a n W
 have HP : Hid (∀ W : World, Calls Tryz.prog 50 #[.agg #[.int .i64 t, .int .i64 l, .int .i64 b, .int .i64 r]] W fun e w' => e = .returned (.int .i64 (checkR t l b r)) ∧ Below W.heap.size W w') := fun W => check_any t l b r W
 have HN : Hid (∀ W : World, Calls Tryz.prog 51 #[.agg #[.int .i64 t, .int .i64 l, .int .i64 b, .int .i64 r]] W fun e w' => e = .returned (.tuple #[.agg #[.int .i64 t, .int .i64 l], .agg #[.int .i64 b, .int .i64 r]]) ∧ Below W.heap.size W w') := fun W => corners_any t l b r W
 have H0 := hide (KcS.start w k a n t l b r 36 62)
 rw [editR_yes h] at HC
 rw [checkR_yes hp] at HP
 rw [clipR_row h hp hr]
 have HL : Hid (∀ W : World, Calls Tryz.prog 42 #[.agg #[.int .i64 k, .int .i64 a, .int .i64 n]] W fun e w' => e = .returned (.agg #[.int .i64 (lostF k a n), .int .i64 (lostL k a n)]) ∧ Below W.heap.size W w') := fun W => lost_any h W
 have HA : Hid (∀ (q : Nat) (W : World), Calls Tryz.prog 41 #[.int .i64 k, .pointer (some ⟨q, 0, none⟩)] W fun e w' => e = .returned (.pointer (some ⟨q, 0, none⟩)) ∧ w' = W) := fun q W => by have := along_any k q W; rw [hr] at this; exact this
 have HT : Hid (∀ W : World, Calls Tryz.prog 52 #[.agg #[.int .i64 t, .int .i64 b], .agg #[.int .i64 (lostF k a n), .int .i64 (lostL k a n)]] W fun e w' => e = .returned (.agg #[.int .i64 (ordF (max t (lostF k a n)) (min b (lostL k a n))), .int .i64 (ordL (max t (lostF k a n)) (min b (lostL k a n)))]) ∧ Below W.heap.size W w') := fun W => together_any t b _ _ W
 have ord := lost_ord h
 have hg := rightB_iff.1 hp
 unfold clipB
 by_cases hq : max t (lostF k a n) ≤ min b (lostL k a n)
 ·
  rw [decide_eq_true hq]
  have hq' : ¬ max t (lostF k a n) > min b (lostL k a n) := by omega
  rw [show ordF (max t (lostF k a n)) (min b (lostL k a n)) = max t (lostF k a n) by simp [ordF, hq'], show ordL (max t (lostF k a n)) (min b (lostL k a n)) = min b (lostL k a n) by simp [ordL, hq']] at HT
  have e1 : (max t (lostF k a n) == 0) = false := by rw [beq_eq_false_iff_ne]; omega
  generalize max t (lostF k a n) = X at *
  generalize min b (lostL k a n) = Y at *
  generalize lostF k a n = A at *
  generalize lostL k a n = B at *
  clear h hp hr hq hq' ord hg
  go_enter Tryz.func23, Tryz.ntmps23
  go_wp2_with (first | (go_at_call 31; refine (HC.out _).mono ?_; rintro e w1 ⟨rfl, hb1⟩; have hs1 := H0.out.below hb1; have ⟨⟨z1, k0, k1, k2⟩, ⟨z2, j0, j1, j2, j3⟩, hbz⟩ := hs1; have HS1 := hide hs1; clear hs1) | (go_at_call 50; refine (HP.out _).mono ?_; rintro e w2 ⟨rfl, hb2⟩; have hs2 := HS1.out.below hb2; clear z1 k0 k1 k2 z2 j0 j1 j2 j3 hbz; have ⟨⟨z1, k0, k1, k2⟩, ⟨z2, j0, j1, j2, j3⟩, hbz⟩ := hs2; have HS2 := hide hs2; clear hs2) | (go_at_call 51; refine (HN.out _).mono ?_; rintro e w3 ⟨rfl, hb3⟩; have hs3 := KdS.start (HS2.out.below hb3) 28 28; clear z1 k0 k1 k2 z2 j0 j1 j2 j3 hbz; have ⟨⟨z1, k0, k1, k2⟩, ⟨z2, j0, j1, j2, j3⟩, hbz⟩ := HS2.out.below hb3; have HS3 := hide hs3; clear hs3))
  generalize ((w3.alloc (.cells #[.int .i64 t, .int .i64 l] 28)).alloc (.cells #[.int .i64 b, .int .i64 r] 28)) = w4 at *
  clear z1 k0 k1 k2 z2 j0 j1 j2 j3 hbz
  have hs9 := HS3.out
  have HS4 : Hid (∀ w', Below w4.heap.size w4 w' → w'.cell? ⟨w.heap.size, 0, none⟩ = some (.int .i64 k) ∧ w'.cell? ⟨w3.heap.size, 0, none⟩ = some (.int .i64 t) ∧ w'.cell? ⟨w3.heap.size + 1, 0, none⟩ = some (.int .i64 b) ∧ Below w4.heap.size w4 w') := fun w' hb => ⟨(hs9.below hb).2.2.2.1.2.1, (hs9.below hb).2.1.1.2.1, (hs9.below hb).2.2.1.1.2.1, hb⟩
  have hs4 := HS4.out w4 (Below.refl _ _)
  have zq5 := hs9.2.2.1.1.1
  apply wp_cutT (F := fun c w' => KdS w w3.heap.size k a n t l b r w' ∧ Has2 w' c t b ∧ w3.heap.size + 1 < c)
  case hr =>
   go_region_held3 (fun w' => w'.cell? ⟨w.heap.size, 0, none⟩ = some (.int .i64 k) ∧ w'.cell? ⟨w3.heap.size, 0, none⟩ = some (.int .i64 t) ∧ w'.cell? ⟨w3.heap.size + 1, 0, none⟩ = some (.int .i64 b) ∧ Below w4.heap.size w4 w') (first | assumption | (refine HS4.out _ ?_; repeat' (first | with_reducible exact And.right (And.right (And.right (by assumption))) | with_reducible refine Below.setCell ?_ ?_ _ | with_reducible refine Below.alloc ?_ ?_ _ | with_reducible refine Below.drew ?_ | exact Nat.le_refl _ | assumption | exact Below.size (And.right (And.right (And.right (by assumption)))) | (simp; omega)))) ((go_at_call 41; refine (HA.out _ _).mono ?_; rintro e wz ⟨rfl, hz⟩; subst wz))
   all_goals
    refine ⟨w4.heap.size, ?_, hs9.below (And.right (And.right (And.right (by assumption)))), (by first | exact Has2.new w4 t b _ | exact Has2.new w4.drew t b _), by omega⟩; generalize w4.heap.size = cc; rfl
  intro c w6 ⟨hs6, hN6, hc6⟩
  clear HS4 hs4 zq5 hs9 HS3
  have HS6 : Hid (∀ w', Below w6.heap.size w6 w' → w'.cell? ⟨w.heap.size, 0, none⟩ = some (.int .i64 k) ∧ w'.cell? ⟨w.heap.size, 1, none⟩ = some (.int .i64 a) ∧ w'.cell? ⟨w.heap.size, 2, none⟩ = some (.int .i64 n) ∧ w'.cell? ⟨c, 0, none⟩ = some (.int .i64 t) ∧ w'.cell? ⟨c, 1, none⟩ = some (.int .i64 b) ∧ Below w6.heap.size w6 w') := fun w' hb => ⟨(hs6.below hb).2.2.2.1.2.1, (hs6.below hb).2.2.2.1.2.2.1, (hs6.below hb).2.2.2.1.2.2.2, (hN6.below hb).1.2.1, (hN6.below hb).1.2.2, hb⟩
  have hb6 := hs6.2.2.2.2.2
  have hs8 := HS6.out w6 (Below.refl _ _)
  clear hs6 hN6 hc6
  go_wp2_with fail
  go_region_held3 (fun w' => w'.cell? ⟨w.heap.size, 0, none⟩ = some (.int .i64 k) ∧ w'.cell? ⟨w.heap.size, 1, none⟩ = some (.int .i64 a) ∧ w'.cell? ⟨w.heap.size, 2, none⟩ = some (.int .i64 n) ∧ w'.cell? ⟨c, 0, none⟩ = some (.int .i64 t) ∧ w'.cell? ⟨c, 1, none⟩ = some (.int .i64 b) ∧ Below w6.heap.size w6 w') (first | assumption | (refine HS6.out _ ?_; repeat' (first | with_reducible exact And.right (And.right (And.right (And.right (And.right (by assumption))))) | with_reducible refine Below.setCell ?_ ?_ _ | with_reducible refine Below.alloc ?_ ?_ _ | with_reducible refine Below.drew ?_ | exact Nat.le_refl _ | assumption | exact Below.size (And.right (And.right (And.right (And.right (And.right (by assumption)))))) | (simp; omega)))) (first | (go_at_call 42; refine (HL.out _).mono ?_; rintro e wa ⟨rfl, hba⟩; have hsa := HS6.out wa (Below.trans (And.right (And.right (And.right (And.right (And.right (by assumption)))))) (hba.mono (Below.size (And.right (And.right (And.right (And.right (And.right (by assumption)))))))))) | (go_at_call 52; refine (HT.out _).mono ?_; rintro e wa ⟨rfl, hba⟩; have hsa := HS6.out wa (Below.trans (And.right (And.right (And.right (And.right (And.right (by assumption)))))) (hba.mono (Below.size (And.right (And.right (And.right (And.right (And.right (by assumption)))))))))))
  go_wp2
  go_ret2
  exact ⟨rfl, hb6.trans (Below.mono (And.right (And.right (And.right (And.right (And.right (by assumption)))))) hb6.size)⟩
 ·
  rw [decide_eq_false hq]
  have hq' : max t (lostF k a n) > min b (lostL k a n) := by omega
  rw [show ordF (max t (lostF k a n)) (min b (lostL k a n)) = 0 by simp [ordF, hq'], show ordL (max t (lostF k a n)) (min b (lostL k a n)) = 0 by simp [ordL, hq']] at HT
  generalize lostF k a n = A at *
  generalize lostL k a n = B at *
  clear h hp hr hq hq' ord hg
  go_enter Tryz.func23, Tryz.ntmps23
  go_wp2_with (first | (go_at_call 31; refine (HC.out _).mono ?_; rintro e w1 ⟨rfl, hb1⟩; have hs1 := H0.out.below hb1; have ⟨⟨z1, k0, k1, k2⟩, ⟨z2, j0, j1, j2, j3⟩, hbz⟩ := hs1; have HS1 := hide hs1; clear hs1) | (go_at_call 50; refine (HP.out _).mono ?_; rintro e w2 ⟨rfl, hb2⟩; have hs2 := HS1.out.below hb2; clear z1 k0 k1 k2 z2 j0 j1 j2 j3 hbz; have ⟨⟨z1, k0, k1, k2⟩, ⟨z2, j0, j1, j2, j3⟩, hbz⟩ := hs2; have HS2 := hide hs2; clear hs2) | (go_at_call 51; refine (HN.out _).mono ?_; rintro e w3 ⟨rfl, hb3⟩; have hs3 := KdS.start (HS2.out.below hb3) 28 28; clear z1 k0 k1 k2 z2 j0 j1 j2 j3 hbz; have ⟨⟨z1, k0, k1, k2⟩, ⟨z2, j0, j1, j2, j3⟩, hbz⟩ := HS2.out.below hb3; have HS3 := hide hs3; clear hs3))
  generalize ((w3.alloc (.cells #[.int .i64 t, .int .i64 l] 28)).alloc (.cells #[.int .i64 b, .int .i64 r] 28)) = w4 at *
  clear z1 k0 k1 k2 z2 j0 j1 j2 j3 hbz
  have hs9 := HS3.out
  have HS4 : Hid (∀ w', Below w4.heap.size w4 w' → w'.cell? ⟨w.heap.size, 0, none⟩ = some (.int .i64 k) ∧ w'.cell? ⟨w3.heap.size, 0, none⟩ = some (.int .i64 t) ∧ w'.cell? ⟨w3.heap.size + 1, 0, none⟩ = some (.int .i64 b) ∧ Below w4.heap.size w4 w') := fun w' hb => ⟨(hs9.below hb).2.2.2.1.2.1, (hs9.below hb).2.1.1.2.1, (hs9.below hb).2.2.1.1.2.1, hb⟩
  have hs4 := HS4.out w4 (Below.refl _ _)
  have zq5 := hs9.2.2.1.1.1
  apply wp_cutT (F := fun c w' => KdS w w3.heap.size k a n t l b r w' ∧ Has2 w' c t b ∧ w3.heap.size + 1 < c)
  case hr =>
   go_region_held3 (fun w' => w'.cell? ⟨w.heap.size, 0, none⟩ = some (.int .i64 k) ∧ w'.cell? ⟨w3.heap.size, 0, none⟩ = some (.int .i64 t) ∧ w'.cell? ⟨w3.heap.size + 1, 0, none⟩ = some (.int .i64 b) ∧ Below w4.heap.size w4 w') (first | assumption | (refine HS4.out _ ?_; repeat' (first | with_reducible exact And.right (And.right (And.right (by assumption))) | with_reducible refine Below.setCell ?_ ?_ _ | with_reducible refine Below.alloc ?_ ?_ _ | with_reducible refine Below.drew ?_ | exact Nat.le_refl _ | assumption | exact Below.size (And.right (And.right (And.right (by assumption)))) | (simp; omega)))) ((go_at_call 41; refine (HA.out _ _).mono ?_; rintro e wz ⟨rfl, hz⟩; subst wz))
   all_goals
    refine ⟨w4.heap.size, ?_, hs9.below (And.right (And.right (And.right (by assumption)))), (by first | exact Has2.new w4 t b _ | exact Has2.new w4.drew t b _), by omega⟩; generalize w4.heap.size = cc; rfl
  intro c w6 ⟨hs6, hN6, hc6⟩
  clear HS4 hs4 zq5 hs9 HS3
  have HS6 : Hid (∀ w', Below w6.heap.size w6 w' → w'.cell? ⟨w.heap.size, 0, none⟩ = some (.int .i64 k) ∧ w'.cell? ⟨w.heap.size, 1, none⟩ = some (.int .i64 a) ∧ w'.cell? ⟨w.heap.size, 2, none⟩ = some (.int .i64 n) ∧ w'.cell? ⟨c, 0, none⟩ = some (.int .i64 t) ∧ w'.cell? ⟨c, 1, none⟩ = some (.int .i64 b) ∧ Below w6.heap.size w6 w') := fun w' hb => ⟨(hs6.below hb).2.2.2.1.2.1, (hs6.below hb).2.2.2.1.2.2.1, (hs6.below hb).2.2.2.1.2.2.2, (hN6.below hb).1.2.1, (hN6.below hb).1.2.2, hb⟩
  have hb6 := hs6.2.2.2.2.2
  have hs8 := HS6.out w6 (Below.refl _ _)
  clear hs6 hN6 hc6
  go_wp2_with fail
  go_region_held3 (fun w' => w'.cell? ⟨w.heap.size, 0, none⟩ = some (.int .i64 k) ∧ w'.cell? ⟨w.heap.size, 1, none⟩ = some (.int .i64 a) ∧ w'.cell? ⟨w.heap.size, 2, none⟩ = some (.int .i64 n) ∧ w'.cell? ⟨c, 0, none⟩ = some (.int .i64 t) ∧ w'.cell? ⟨c, 1, none⟩ = some (.int .i64 b) ∧ Below w6.heap.size w6 w') (first | assumption | (refine HS6.out _ ?_; repeat' (first | with_reducible exact And.right (And.right (And.right (And.right (And.right (by assumption))))) | with_reducible refine Below.setCell ?_ ?_ _ | with_reducible refine Below.alloc ?_ ?_ _ | with_reducible refine Below.drew ?_ | exact Nat.le_refl _ | assumption | exact Below.size (And.right (And.right (And.right (And.right (And.right (by assumption)))))) | (simp; omega)))) (first | (go_at_call 42; refine (HL.out _).mono ?_; rintro e wa ⟨rfl, hba⟩; have hsa := HS6.out wa (Below.trans (And.right (And.right (And.right (And.right (And.right (by assumption)))))) (hba.mono (Below.size (And.right (And.right (And.right (And.right (And.right (by assumption)))))))))) | (go_at_call 52; refine (HT.out _).mono ?_; rintro e wa ⟨rfl, hba⟩; have hsa := HS6.out wa (Below.trans (And.right (And.right (And.right (And.right (And.right (by assumption)))))) (hba.mono (Below.size (And.right (And.right (And.right (And.right (And.right (by assumption)))))))))))
  go_wp2
  go_ret2
  exact ⟨rfl, hb6.trans (Below.mono (And.right (And.right (And.right (And.right (And.right (by assumption)))))) hb6.size)⟩
theorem clips_ok1 {k a n t l b r : Int} (h : editB k a n = true) (hp : rightB t l b r = true) (hr : rowsB k = false) (w : World) :
  Calls Tryz.prog 23 #[.agg #[.int .i64 k, .int .i64 a, .int .i64 n], .agg #[.int .i64 t, .int .i64 l, .int .i64 b, .int .i64 r]] w fun e w' => e = .returned (.tuple #[.bool (clipR k a n t l b r).1, .int .i64 (clipR k a n t l b r).2]) ∧ Below w.heap.size w w' := by
 have HC : Hid (∀ W : World, Calls Tryz.prog 31 #[.agg #[.int .i64 k, .int .i64 a, .int .i64 n]] W fun e w' => e = .returned (.int .i64 (editR k a n)) ∧ Below W.heap.size W w') := fun W => edit_any k a n W
 have HP : Hid (∀ W : World, Calls Tryz.prog 50 #[.agg #[.int .i64 t, .int .i64 l, .int .i64 b, .int .i64 r]] W fun e w' => e = .returned (.int .i64 (checkR t l b r)) ∧ Below W.heap.size W w') := fun W => check_any t l b r W
 have HN : Hid (∀ W : World, Calls Tryz.prog 51 #[.agg #[.int .i64 t, .int .i64 l, .int .i64 b, .int .i64 r]] W fun e w' => e = .returned (.tuple #[.agg #[.int .i64 t, .int .i64 l], .agg #[.int .i64 b, .int .i64 r]]) ∧ Below W.heap.size W w') := fun W => corners_any t l b r W
 have H0 := hide (KcS.start w k a n t l b r 36 62)
 rw [editR_yes h] at HC
 rw [checkR_yes hp] at HP
 rw [clipR_col h hp hr]
 have HL : Hid (∀ W : World, Calls Tryz.prog 42 #[.agg #[.int .i64 k, .int .i64 a, .int .i64 n]] W fun e w' => e = .returned (.agg #[.int .i64 (lostF k a n), .int .i64 (lostL k a n)]) ∧ Below W.heap.size W w') := fun W => lost_any h W
 have HA : Hid (∀ (q : Nat) (W : World), Calls Tryz.prog 41 #[.int .i64 k, .pointer (some ⟨q, 0, none⟩)] W fun e w' => e = .returned (.pointer (some ⟨q, 1, none⟩)) ∧ w' = W) := fun q W => by have := along_any k q W; rw [hr] at this; exact this
 have HT : Hid (∀ W : World, Calls Tryz.prog 52 #[.agg #[.int .i64 l, .int .i64 r], .agg #[.int .i64 (lostF k a n), .int .i64 (lostL k a n)]] W fun e w' => e = .returned (.agg #[.int .i64 (ordF (max l (lostF k a n)) (min r (lostL k a n))), .int .i64 (ordL (max l (lostF k a n)) (min r (lostL k a n)))]) ∧ Below W.heap.size W w') := fun W => together_any l r _ _ W
 have ord := lost_ord h
 have hg := rightB_iff.1 hp
 unfold clipB
 by_cases hq : max l (lostF k a n) ≤ min r (lostL k a n)
 ·
  rw [decide_eq_true hq]
  have hq' : ¬ max l (lostF k a n) > min r (lostL k a n) := by omega
  rw [show ordF (max l (lostF k a n)) (min r (lostL k a n)) = max l (lostF k a n) by simp [ordF, hq'], show ordL (max l (lostF k a n)) (min r (lostL k a n)) = min r (lostL k a n) by simp [ordL, hq']] at HT
  have e1 : (max l (lostF k a n) == 0) = false := by rw [beq_eq_false_iff_ne]; omega
  generalize max l (lostF k a n) = X at *
  generalize min r (lostL k a n) = Y at *
  generalize lostF k a n = A at *
  generalize lostL k a n = B at *
  clear h hp hr hq hq' ord hg
  go_enter Tryz.func23, Tryz.ntmps23
  go_wp2_with (first | (go_at_call 31; refine (HC.out _).mono ?_; rintro e w1 ⟨rfl, hb1⟩; have hs1 := H0.out.below hb1; have ⟨⟨z1, k0, k1, k2⟩, ⟨z2, j0, j1, j2, j3⟩, hbz⟩ := hs1; have HS1 := hide hs1; clear hs1) | (go_at_call 50; refine (HP.out _).mono ?_; rintro e w2 ⟨rfl, hb2⟩; have hs2 := HS1.out.below hb2; clear z1 k0 k1 k2 z2 j0 j1 j2 j3 hbz; have ⟨⟨z1, k0, k1, k2⟩, ⟨z2, j0, j1, j2, j3⟩, hbz⟩ := hs2; have HS2 := hide hs2; clear hs2) | (go_at_call 51; refine (HN.out _).mono ?_; rintro e w3 ⟨rfl, hb3⟩; have hs3 := KdS.start (HS2.out.below hb3) 28 28; clear z1 k0 k1 k2 z2 j0 j1 j2 j3 hbz; have ⟨⟨z1, k0, k1, k2⟩, ⟨z2, j0, j1, j2, j3⟩, hbz⟩ := HS2.out.below hb3; have HS3 := hide hs3; clear hs3))
  generalize ((w3.alloc (.cells #[.int .i64 t, .int .i64 l] 28)).alloc (.cells #[.int .i64 b, .int .i64 r] 28)) = w4 at *
  clear z1 k0 k1 k2 z2 j0 j1 j2 j3 hbz
  have hs9 := HS3.out
  have HS4 : Hid (∀ w', Below w4.heap.size w4 w' → w'.cell? ⟨w.heap.size, 0, none⟩ = some (.int .i64 k) ∧ w'.cell? ⟨w3.heap.size, 1, none⟩ = some (.int .i64 l) ∧ w'.cell? ⟨w3.heap.size + 1, 1, none⟩ = some (.int .i64 r) ∧ Below w4.heap.size w4 w') := fun w' hb => ⟨(hs9.below hb).2.2.2.1.2.1, (hs9.below hb).2.1.1.2.2, (hs9.below hb).2.2.1.1.2.2, hb⟩
  have hs4 := HS4.out w4 (Below.refl _ _)
  have zq5 := hs9.2.2.1.1.1
  apply wp_cutT (F := fun c w' => KdS w w3.heap.size k a n t l b r w' ∧ Has2 w' c l r ∧ w3.heap.size + 1 < c)
  case hr =>
   go_region_held3 (fun w' => w'.cell? ⟨w.heap.size, 0, none⟩ = some (.int .i64 k) ∧ w'.cell? ⟨w3.heap.size, 1, none⟩ = some (.int .i64 l) ∧ w'.cell? ⟨w3.heap.size + 1, 1, none⟩ = some (.int .i64 r) ∧ Below w4.heap.size w4 w') (first | assumption | (refine HS4.out _ ?_; repeat' (first | with_reducible exact And.right (And.right (And.right (by assumption))) | with_reducible refine Below.setCell ?_ ?_ _ | with_reducible refine Below.alloc ?_ ?_ _ | with_reducible refine Below.drew ?_ | exact Nat.le_refl _ | assumption | exact Below.size (And.right (And.right (And.right (by assumption)))) | (simp; omega)))) ((go_at_call 41; refine (HA.out _ _).mono ?_; rintro e wz ⟨rfl, hz⟩; subst wz))
   all_goals
    refine ⟨w4.heap.size, ?_, hs9.below (And.right (And.right (And.right (by assumption)))), (by first | exact Has2.new w4 l r _ | exact Has2.new w4.drew l r _), by omega⟩; generalize w4.heap.size = cc; rfl
  intro c w6 ⟨hs6, hN6, hc6⟩
  clear HS4 hs4 zq5 hs9 HS3
  have HS6 : Hid (∀ w', Below w6.heap.size w6 w' → w'.cell? ⟨w.heap.size, 0, none⟩ = some (.int .i64 k) ∧ w'.cell? ⟨w.heap.size, 1, none⟩ = some (.int .i64 a) ∧ w'.cell? ⟨w.heap.size, 2, none⟩ = some (.int .i64 n) ∧ w'.cell? ⟨c, 0, none⟩ = some (.int .i64 l) ∧ w'.cell? ⟨c, 1, none⟩ = some (.int .i64 r) ∧ Below w6.heap.size w6 w') := fun w' hb => ⟨(hs6.below hb).2.2.2.1.2.1, (hs6.below hb).2.2.2.1.2.2.1, (hs6.below hb).2.2.2.1.2.2.2, (hN6.below hb).1.2.1, (hN6.below hb).1.2.2, hb⟩
  have hb6 := hs6.2.2.2.2.2
  have hs8 := HS6.out w6 (Below.refl _ _)
  clear hs6 hN6 hc6
  go_wp2_with fail
  go_region_held3 (fun w' => w'.cell? ⟨w.heap.size, 0, none⟩ = some (.int .i64 k) ∧ w'.cell? ⟨w.heap.size, 1, none⟩ = some (.int .i64 a) ∧ w'.cell? ⟨w.heap.size, 2, none⟩ = some (.int .i64 n) ∧ w'.cell? ⟨c, 0, none⟩ = some (.int .i64 l) ∧ w'.cell? ⟨c, 1, none⟩ = some (.int .i64 r) ∧ Below w6.heap.size w6 w') (first | assumption | (refine HS6.out _ ?_; repeat' (first | with_reducible exact And.right (And.right (And.right (And.right (And.right (by assumption))))) | with_reducible refine Below.setCell ?_ ?_ _ | with_reducible refine Below.alloc ?_ ?_ _ | with_reducible refine Below.drew ?_ | exact Nat.le_refl _ | assumption | exact Below.size (And.right (And.right (And.right (And.right (And.right (by assumption)))))) | (simp; omega)))) (first | (go_at_call 42; refine (HL.out _).mono ?_; rintro e wa ⟨rfl, hba⟩; have hsa := HS6.out wa (Below.trans (And.right (And.right (And.right (And.right (And.right (by assumption)))))) (hba.mono (Below.size (And.right (And.right (And.right (And.right (And.right (by assumption)))))))))) | (go_at_call 52; refine (HT.out _).mono ?_; rintro e wa ⟨rfl, hba⟩; have hsa := HS6.out wa (Below.trans (And.right (And.right (And.right (And.right (And.right (by assumption)))))) (hba.mono (Below.size (And.right (And.right (And.right (And.right (And.right (by assumption)))))))))))
  go_wp2
  go_ret2
  exact ⟨rfl, hb6.trans (Below.mono (And.right (And.right (And.right (And.right (And.right (by assumption)))))) hb6.size)⟩
 ·
  rw [decide_eq_false hq]
  have hq' : max l (lostF k a n) > min r (lostL k a n) := by omega
  rw [show ordF (max l (lostF k a n)) (min r (lostL k a n)) = 0 by simp [ordF, hq'], show ordL (max l (lostF k a n)) (min r (lostL k a n)) = 0 by simp [ordL, hq']] at HT
  generalize lostF k a n = A at *
  generalize lostL k a n = B at *
  clear h hp hr hq hq' ord hg
  go_enter Tryz.func23, Tryz.ntmps23
  go_wp2_with (first | (go_at_call 31; refine (HC.out _).mono ?_; rintro e w1 ⟨rfl, hb1⟩; have hs1 := H0.out.below hb1; have ⟨⟨z1, k0, k1, k2⟩, ⟨z2, j0, j1, j2, j3⟩, hbz⟩ := hs1; have HS1 := hide hs1; clear hs1) | (go_at_call 50; refine (HP.out _).mono ?_; rintro e w2 ⟨rfl, hb2⟩; have hs2 := HS1.out.below hb2; clear z1 k0 k1 k2 z2 j0 j1 j2 j3 hbz; have ⟨⟨z1, k0, k1, k2⟩, ⟨z2, j0, j1, j2, j3⟩, hbz⟩ := hs2; have HS2 := hide hs2; clear hs2) | (go_at_call 51; refine (HN.out _).mono ?_; rintro e w3 ⟨rfl, hb3⟩; have hs3 := KdS.start (HS2.out.below hb3) 28 28; clear z1 k0 k1 k2 z2 j0 j1 j2 j3 hbz; have ⟨⟨z1, k0, k1, k2⟩, ⟨z2, j0, j1, j2, j3⟩, hbz⟩ := HS2.out.below hb3; have HS3 := hide hs3; clear hs3))
  generalize ((w3.alloc (.cells #[.int .i64 t, .int .i64 l] 28)).alloc (.cells #[.int .i64 b, .int .i64 r] 28)) = w4 at *
  clear z1 k0 k1 k2 z2 j0 j1 j2 j3 hbz
  have hs9 := HS3.out
  have HS4 : Hid (∀ w', Below w4.heap.size w4 w' → w'.cell? ⟨w.heap.size, 0, none⟩ = some (.int .i64 k) ∧ w'.cell? ⟨w3.heap.size, 1, none⟩ = some (.int .i64 l) ∧ w'.cell? ⟨w3.heap.size + 1, 1, none⟩ = some (.int .i64 r) ∧ Below w4.heap.size w4 w') := fun w' hb => ⟨(hs9.below hb).2.2.2.1.2.1, (hs9.below hb).2.1.1.2.2, (hs9.below hb).2.2.1.1.2.2, hb⟩
  have hs4 := HS4.out w4 (Below.refl _ _)
  have zq5 := hs9.2.2.1.1.1
  apply wp_cutT (F := fun c w' => KdS w w3.heap.size k a n t l b r w' ∧ Has2 w' c l r ∧ w3.heap.size + 1 < c)
  case hr =>
   go_region_held3 (fun w' => w'.cell? ⟨w.heap.size, 0, none⟩ = some (.int .i64 k) ∧ w'.cell? ⟨w3.heap.size, 1, none⟩ = some (.int .i64 l) ∧ w'.cell? ⟨w3.heap.size + 1, 1, none⟩ = some (.int .i64 r) ∧ Below w4.heap.size w4 w') (first | assumption | (refine HS4.out _ ?_; repeat' (first | with_reducible exact And.right (And.right (And.right (by assumption))) | with_reducible refine Below.setCell ?_ ?_ _ | with_reducible refine Below.alloc ?_ ?_ _ | with_reducible refine Below.drew ?_ | exact Nat.le_refl _ | assumption | exact Below.size (And.right (And.right (And.right (by assumption)))) | (simp; omega)))) ((go_at_call 41; refine (HA.out _ _).mono ?_; rintro e wz ⟨rfl, hz⟩; subst wz))
   all_goals
    refine ⟨w4.heap.size, ?_, hs9.below (And.right (And.right (And.right (by assumption)))), (by first | exact Has2.new w4 l r _ | exact Has2.new w4.drew l r _), by omega⟩; generalize w4.heap.size = cc; rfl
  intro c w6 ⟨hs6, hN6, hc6⟩
  clear HS4 hs4 zq5 hs9 HS3
  have HS6 : Hid (∀ w', Below w6.heap.size w6 w' → w'.cell? ⟨w.heap.size, 0, none⟩ = some (.int .i64 k) ∧ w'.cell? ⟨w.heap.size, 1, none⟩ = some (.int .i64 a) ∧ w'.cell? ⟨w.heap.size, 2, none⟩ = some (.int .i64 n) ∧ w'.cell? ⟨c, 0, none⟩ = some (.int .i64 l) ∧ w'.cell? ⟨c, 1, none⟩ = some (.int .i64 r) ∧ Below w6.heap.size w6 w') := fun w' hb => ⟨(hs6.below hb).2.2.2.1.2.1, (hs6.below hb).2.2.2.1.2.2.1, (hs6.below hb).2.2.2.1.2.2.2, (hN6.below hb).1.2.1, (hN6.below hb).1.2.2, hb⟩
  have hb6 := hs6.2.2.2.2.2
  have hs8 := HS6.out w6 (Below.refl _ _)
  clear hs6 hN6 hc6
  go_wp2_with fail
  go_region_held3 (fun w' => w'.cell? ⟨w.heap.size, 0, none⟩ = some (.int .i64 k) ∧ w'.cell? ⟨w.heap.size, 1, none⟩ = some (.int .i64 a) ∧ w'.cell? ⟨w.heap.size, 2, none⟩ = some (.int .i64 n) ∧ w'.cell? ⟨c, 0, none⟩ = some (.int .i64 l) ∧ w'.cell? ⟨c, 1, none⟩ = some (.int .i64 r) ∧ Below w6.heap.size w6 w') (first | assumption | (refine HS6.out _ ?_; repeat' (first | with_reducible exact And.right (And.right (And.right (And.right (And.right (by assumption))))) | with_reducible refine Below.setCell ?_ ?_ _ | with_reducible refine Below.alloc ?_ ?_ _ | with_reducible refine Below.drew ?_ | exact Nat.le_refl _ | assumption | exact Below.size (And.right (And.right (And.right (And.right (And.right (by assumption)))))) | (simp; omega)))) (first | (go_at_call 42; refine (HL.out _).mono ?_; rintro e wa ⟨rfl, hba⟩; have hsa := HS6.out wa (Below.trans (And.right (And.right (And.right (And.right (And.right (by assumption)))))) (hba.mono (Below.size (And.right (And.right (And.right (And.right (And.right (by assumption)))))))))) | (go_at_call 52; refine (HT.out _).mono ?_; rintro e wa ⟨rfl, hba⟩; have hsa := HS6.out wa (Below.trans (And.right (And.right (And.right (And.right (And.right (by assumption)))))) (hba.mono (Below.size (And.right (And.right (And.right (And.right (And.right (by assumption)))))))))))
  go_wp2
  go_ret2
  exact ⟨rfl, hb6.trans (Below.mono (And.right (And.right (And.right (And.right (And.right (by assumption)))))) hb6.size)⟩
theorem clips_any (k a n t l b r : Int) (w : World) :
  Calls Tryz.prog 23 #[.agg #[.int .i64 k, .int .i64 a, .int .i64 n], .agg #[.int .i64 t, .int .i64 l, .int .i64 b, .int .i64 r]] w fun e w' => e = .returned (.tuple #[.bool (clipR k a n t l b r).1, .int .i64 (clipR k a n t l b r).2]) ∧ Below w.heap.size w w' := by
 cases h : editB k a n
 ·
  exact clips_bad k a n t l b r (Or.inl h) w
 ·
  cases hp : rightB t l b r
  ·
   exact clips_bad k a n t l b r (Or.inr hp) w
  ·
   cases hr : rowsB k
   ·
    exact clips_ok1 h hp hr w
   ·
    exact clips_ok0 h hp hr w
end
end Go.Proofs.YtfpmmckpobpokaaGreat.Pla
