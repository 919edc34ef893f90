/-
  The walk of ValueCompares: for every two values it returns true.
-/
import Derived.Test.YtaokibkeoomfjaaDoorLives5
import Derived.Test.YtaokibkeoomfjaaDoorRefComp
namespace Go.Proofs.YtaokibkeoomfjaaDoor
open Go.RowKit

theorem rcompareV_any (k n : Int) (s : ByteArray) (b : Bool) (c : Int) (k' n' : Int) (s' : ByteArray) (b' : Bool) (c' : Int) (w : World) (hz : s.size ≤ maxLen) (hz' : s'.size ≤ maxLen) :
    Calls Tryd.prog 19 #[.agg #[.int .i64 k, .int .i64 n, .string s, .bool b, .int .i64 c], .agg #[.int .i64 k', .int .i64 n', .string s', .bool b', .int .i64 c']] w fun e w' => e = .returned (.tuple #[.int .i64 (compareV k n s b c k' n' s' b' c').1, .int .i64 (compareV k n s b c k' n' s' b' c').2]) ∧ Below w.heap.size w w' := by
  have HR : Hid (∀ W : World, Calls Tryd.prog 39 #[.agg #[.int .i64 k, .int .i64 n, .string s, .bool b, .int .i64 c]] W fun e w' => e = .returned (.bool (rightB k n s b c)) ∧ Below W.heap.size W w') := fun W => rright_any k n s b c W hz
  have HQ : Hid (∀ W : World, Calls Tryd.prog 39 #[.agg #[.int .i64 k', .int .i64 n', .string s', .bool b', .int .i64 c']] W fun e w' => e = .returned (.bool (rightB k' n' s' b' c')) ∧ Below W.heap.size W w') := fun W => rright_any k' n' s' b' c' W hz'
  cases hr : rightB k n s b c
  · rw [show compareV k n s b c k' n' s' b' c' = (0, 2) by simp [compareV, trouble2_no (k' := k') (n' := n') (s' := s') (b' := b') (c' := c') (.inl hr)]]
    rw [hr] at HR
    exact rcomp_no1 k n s b c k' n' s' b' c' w HR
  · rw [hr] at HR
    cases hq : rightB k' n' s' b' c'
    · rw [show compareV k n s b c k' n' s' b' c' = (0, 2) by simp [compareV, trouble2_no (k := k) (n := n) (s := s) (b := b) (c := c) (.inr hq)]]
      rw [hq] at HQ
      exact rcomp_no2 k n s b c k' n' s' b' c' w HR HQ
    · rw [hq] at HQ
      have ht := trouble2_yes hr hq
      rcases right_code hr with ⟨h4, h1, h7⟩ | ⟨h4, hc⟩
      · have n0 : c ≠ 0 := by omega
        rw [if_neg n0] at ht
        rw [show compareV k n s b c k' n' s' b' c' = (0, c) by simp [compareV, ht, n0]]
        exact rcomp_f1 k n s b c k' n' s' b' c' w h4 HR HQ
      · rw [if_pos hc] at ht
        have t4 : (k == 4) = false := by simpa using h4
        rcases right_code hq with ⟨h5, h1, h7⟩ | ⟨h5, hc'⟩
        · have n0 : c' ≠ 0 := by omega
          rw [show compareV k n s b c k' n' s' b' c' = (0, c') by simp [compareV, ht, n0]]
          exact rcomp_f2 k n s b c k' n' s' b' c' w t4 h5 HR HQ
        · have t5 : (k' == 4) = false := by simpa using h5
          have ht0 := ht.trans hc'
          rw [show compareV k n s b c k' n' s' b' c' = (ordV (besK k k') n s b (besK k' k) n' s' b', 0) by simp [compareV, ht0]]
          have HF : Hid (∀ W : World, Calls Tryd.prog 43 #[.agg #[.int .i64 k, .int .i64 n, .string s, .bool b, .int .i64 c], .int .i64 k'] W fun e w' => e = .returned (.agg #[.int .i64 (besK k k'), .int .i64 n, .string s, .bool b, .int .i64 c]) ∧ Below W.heap.size W w') := fun W => as_any k n s b c k' W hr
          have HG : Hid (∀ W : World, Calls Tryd.prog 43 #[.agg #[.int .i64 k', .int .i64 n', .string s', .bool b', .int .i64 c'], .int .i64 k] W fun e w' => e = .returned (.agg #[.int .i64 (besK k' k), .int .i64 n', .string s', .bool b', .int .i64 c']) ∧ Below W.heap.size W w') := fun W => as_any k' n' s' b' c' k W hq
          by_cases z : k = 0
          · by_cases z' : k' = 0
            · rw [show besK k k' = k by simp [besK, z, z']] at HF ⊢
              rw [show besK k' k = k' by simp [besK, z, z']] at HG ⊢
              exact rcomp_1 k n s b c k' n' s' b' c' w t4 t5 hz hz' HR HQ HF HG
            · subst z
              obtain ⟨rfl, rfl, rfl, rfl⟩ := right_zero hr
              rw [show besK 0 k' = k' by simp [besK]] at HF ⊢
              rw [show besK k' 0 = k' by simp [besK, z']] at HG ⊢
              exact rcomp_2 k' n' s' b' c' w t5 hz' HR HQ HF HG
          · by_cases z' : k' = 0
            · subst z'
              obtain ⟨rfl, rfl, rfl, rfl⟩ := right_zero hq
              rw [show besK k 0 = k by simp [besK, z]] at HF ⊢
              rw [show besK 0 k = k by simp [besK]] at HG ⊢
              exact rcomp_3 k n s b c w t4 hz HR HQ HF HG
            · rw [show besK k k' = k by simp [besK, z]] at HF ⊢
              rw [show besK k' k = k' by simp [besK, z']] at HG ⊢
              exact rcomp_1 k n s b c k' n' s' b' c' w t4 t5 hz hz' HR HQ HF HG
set_option maxRecDepth 100000 in
set_option maxHeartbeats 4000000 in
theorem compares_all (k n : Int) (s : ByteArray) (b : Bool) (c : Int) (k' n' : Int) (s' : ByteArray) (b' : Bool) (c' : Int) (x y : Int) (al : Bool) (w : World) (he : Env w) (H1 : Hid (∀ W : World, Calls Tryd.prog 18 #[.agg #[.int .i64 k, .int .i64 n, .string s, .bool b, .int .i64 c], .agg #[.int .i64 k', .int .i64 n', .string s', .bool b', .int .i64 c']] W fun e w' => e = .returned (.tuple #[.int .i64 x, .int .i64 y]) ∧ Below W.heap.size W w')) (H2 : Hid (∀ W : World, Calls Tryd.prog 19 #[.agg #[.int .i64 k, .int .i64 n, .string s, .bool b, .int .i64 c], .agg #[.int .i64 k', .int .i64 n', .string s', .bool b', .int .i64 c']] W fun e w' => e = .returned (.tuple #[.int .i64 x, .int .i64 y]) ∧ Below W.heap.size W w')) (H3 : Hid (∀ W : World, Calls Tryd.prog 20 #[.agg #[.int .i64 k, .int .i64 n, .string s, .bool b, .int .i64 c], .agg #[.int .i64 k', .int .i64 n', .string s', .bool b', .int .i64 c']] W fun e w' => e = .returned (.bool al) ∧ Below W.heap.size W w')) (H4 : Hid (∀ W : World, Calls Tryd.prog 21 #[.agg #[.int .i64 k, .int .i64 n, .string s, .bool b, .int .i64 c], .agg #[.int .i64 k', .int .i64 n', .string s', .bool b', .int .i64 c']] W fun e w' => e = .returned (.bool al) ∧ Below W.heap.size W w')) :
    Calls Tryd.prog 4 #[.agg #[.int .i64 k, .int .i64 n, .string s, .bool b, .int .i64 c], .agg #[.int .i64 k', .int .i64 n', .string s', .bool b', .int .i64 c']] w fun e w' => e = .returned (.bool true) ∧ Below w.heap.size w w' := by
  have HE := hide he
  clear he
  have HS := hide (Box2.new w k n s b c k' n' s' b' c')
  go_enter Tryd.func4, Tryd.ntmps4
  go_wp2_with fail
  refine (H1.out _).mono ?_
  rintro e w1 ⟨rfl, hb⟩
  have HS := hide (Box2.below HS.out hb)
  clear hb
  obtain ⟨a0, a1, a2, a3, a4, b0, b1, b2, b3, b4, l, m, hB⟩ := HS.out
  go_wp2_with fail
  refine (H2.out _).mono ?_
  rintro e w2 ⟨rfl, hb⟩
  have HS := hide (Box2.below HS.out hb)
  clear hb a0 a1 a2 a3 a4 b0 b1 b2 b3 b4 l m hB
  obtain ⟨a0, a1, a2, a3, a4, b0, b1, b2, b3, b4, l, m, hB⟩ := HS.out
  clear a0 a1 a2 a3 a4 b0 b1 b2 b3 b4 l m hB
  go_wp2
  go_region_held3 (fun w' => w'.cell? ⟨w.heap.size, 0, none⟩ = some (.int .i64 k) ∧ w'.cell? ⟨w.heap.size, 1, none⟩ = some (.int .i64 n) ∧ w'.cell? ⟨w.heap.size, 2, none⟩ = some (.string s) ∧ w'.cell? ⟨w.heap.size, 3, none⟩ = some (.bool b) ∧ w'.cell? ⟨w.heap.size, 4, none⟩ = some (.int .i64 c) ∧ w'.cell? ⟨w.heap.size + 1, 0, none⟩ = some (.int .i64 k') ∧ w'.cell? ⟨w.heap.size + 1, 1, none⟩ = some (.int .i64 n') ∧ w'.cell? ⟨w.heap.size + 1, 2, none⟩ = some (.string s') ∧ w'.cell? ⟨w.heap.size + 1, 3, none⟩ = some (.bool b') ∧ w'.cell? ⟨w.heap.size + 1, 4, none⟩ = some (.int .i64 c') ∧ w.heap.size < w'.heap.size ∧ w.heap.size + 1 < w'.heap.size ∧ Below w.heap.size w w') (first | exact HS.out | assumption | exact Box2.drew (by assumption)) (first | (go_at_call 20; refine (H3.out _).mono ?_; rintro e w2 ⟨rfl, hb2⟩; have hs2 := Box2.below (by assumption) hb2) | (go_at_call 21; refine (H4.out _).mono ?_; rintro e w2 ⟨rfl, hb2⟩; have hs2 := Box2.below (by assumption) hb2) | (go_at_call 17; refine (lives4_any _ (HE.out.below (Box2.out (by assumption)))).mono ?_; rintro e w2 ⟨rfl, hb2⟩; have hs2 := Box2.below (by assumption) hb2))
  all_goals go_wp2
  all_goals go_ret
  all_goals exact ⟨rfl, Box2.out (by assumption)⟩
theorem valueCompares_walk (k n : Int) (s : ByteArray) (b : Bool) (c : Int) (k' n' : Int) (s' : ByteArray) (b' : Bool) (c' : Int) (w : World) (he : Env w) (hz : s.size ≤ maxLen) (hz' : s'.size ≤ maxLen) :
    Calls Tryd.prog 4 #[.agg #[.int .i64 k, .int .i64 n, .string s, .bool b, .int .i64 c], .agg #[.int .i64 k', .int .i64 n', .string s', .bool b', .int .i64 c']] w fun e w' => e = .returned (.bool true) ∧ Below w.heap.size w w' :=
  compares_all k n s b c k' n' s' b' c' _ _ _ w he (fun W => compareV_any k n s b c k' n' s' b' c' W hz hz') (fun W => rcompareV_any k n s b c k' n' s' b' c' W hz hz') (fun W => alikeV_any k n s b c k' n' s' b' c' W hz hz') (fun W => ralikeV_any k n s b c k' n' s' b' c' W hz hz')
end Go.Proofs.YtaokibkeoomfjaaDoor
