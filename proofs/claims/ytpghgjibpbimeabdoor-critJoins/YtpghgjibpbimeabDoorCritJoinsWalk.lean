/-
  The walk of CritJoins.
-/
import Derived.Test.YtpghgjibpbimeabDoorCr8
namespace Go.Proofs.YtpghgjibpbimeabDoor
open Go.RowKit
set_option linter.unusedSimpArgs false

theorem mk_size (l : List UInt8) : (⟨l.toArray⟩ : ByteArray).size = l.length := by show l.toArray.size = _; simp
theorem foldL_app (a b : List UInt8) : foldL (a ++ b) = foldL a ++ foldL b := by unfold foldL; rw [List.map_append]
theorem fold_tilde {c : UInt8} (h : foldB c = 126) : c = 126 := by
  by_cases hc : 97 ≤ c.toNat ∧ c.toNat ≤ 122
  · have := foldB_in hc.1 hc.2
    rw [h] at this
    have e : (126 : UInt8).toNat = 126 := rfl
    omega
  · rw [foldB_out hc] at h; exact h
theorem last_fold {p : List UInt8} (h : p.getLast? ≠ some 126) : (foldL p).getLast? ≠ some 126 := by
  intro e
  unfold foldL at e
  rw [List.getLast?_map] at e
  cases hp : p.getLast? with
  | none => rw [hp] at e; cases e
  | some c =>
    rw [hp] at e h
    simp only [Option.map_some, Option.some.injEq] at e
    exact h (by rw [fold_tilde e])
theorem like_join {p q s t : List UInt8} (hp : p.getLast? ≠ some 126) (h1 : likeR p s = true) (h2 : likeR q t = true) : likeR (p ++ q) (s ++ t) = true := by
  unfold likeR at *
  rw [foldL_app, foldL_app, steps_app _ _ _ (Nat.le_refl _) (last_fold hp)]
  exact lk_app _ _ _ _ h1 h2
theorem like_wide {p q s t : List UInt8} (u : List UInt8) (hp : p.getLast? ≠ some 126) (h1 : likeR p s = true) (h2 : likeR q t = true) : likeR (p ++ [42] ++ q) (s ++ u ++ t) = true := by
  unfold likeR at *
  rw [List.append_assoc, List.append_assoc, foldL_app, foldL_app, foldL_app, steps_app _ _ _ (Nat.le_refl _) (last_fold hp)]
  have e : stepsR (foldL [42] ++ foldL q) = ⟨2, 0⟩ :: stepsR (foldL q) := steps_row (c := foldB 42) (r := foldL q) (by decide)
  rw [e, foldL_app]
  exact lk_app _ _ _ _ h1 (lk_wide h2 _)
set_option maxRecDepth 100000 in
set_option maxHeartbeats 4000000 in
theorem critJoins_walk (p q s t u : ByteArray) (w : World) (h : EnvK w) (h1 : p.size ≤ maxLen) (h2 : q.size ≤ maxLen) (h3 : s.size ≤ maxLen) (h4 : t.size ≤ maxLen) (h5 : u.size ≤ maxLen) :
    Calls Tryd.prog 4 #[.string p, .string q, .string s, .string t, .string u] w fun e w' => e = .returned (.bool true) ∧ Below w.heap.size w w' := by
  have HL : Hid (∀ W : World, Below w.heap.size w W → Calls Tryd.prog 6 #[] W fun e w' => e = .returned (.bool true) ∧ Below W.heap.size W w') := fun W hW => lives13_any W (h.below hW)
  have HB := hide (Below.refl w.heap.size w)
  clear h
  obtain ⟨P, rfl⟩ : ∃ X : List UInt8, p = ⟨X.toArray⟩ := ⟨p.data.toList, by simp⟩
  obtain ⟨Q, rfl⟩ : ∃ X : List UInt8, q = ⟨X.toArray⟩ := ⟨q.data.toList, by simp⟩
  obtain ⟨S, rfl⟩ : ∃ X : List UInt8, s = ⟨X.toArray⟩ := ⟨s.data.toList, by simp⟩
  obtain ⟨T, rfl⟩ : ∃ X : List UInt8, t = ⟨X.toArray⟩ := ⟨t.data.toList, by simp⟩
  obtain ⟨U, rfl⟩ : ∃ X : List UInt8, u = ⟨X.toArray⟩ := ⟨u.data.toList, by simp⟩
  have sp := mk_size P
  have sq := mk_size Q
  have ss := mk_size S
  have st := mk_size T
  have su := mk_size U
  rw [mk_size] at h1 h2 h3 h4 h5
  unfold maxLen at h1 h2 h3 h4 h5
  by_cases b0 : 60 < P.length
  · have g0 : (60 : Int) < (P.length : Int) := by omega
    clear b0
    go_enter Tryd.func4, Tryd.ntmps4
    go_wp2_with (first | (go_at_call 6; refine (HL.out _ HB.out).mono ?_; rintro e wz ⟨rfl, hz⟩; replace HB := hide (upR HB.out hz); clear hz))
    go_ret
    exact ⟨rfl, HB.out⟩
  have g0 : ¬ (60 : Int) < (P.length : Int) := by omega
  by_cases b1 : 60 < Q.length
  · have g1 : (60 : Int) < (Q.length : Int) := by omega
    clear b1
    go_enter Tryd.func4, Tryd.ntmps4
    go_wp2_with (first | (go_at_call 6; refine (HL.out _ HB.out).mono ?_; rintro e wz ⟨rfl, hz⟩; replace HB := hide (upR HB.out hz); clear hz))
    go_ret
    exact ⟨rfl, HB.out⟩
  have g1 : ¬ (60 : Int) < (Q.length : Int) := by omega
  by_cases b2 : 60 < S.length
  · have g2 : (60 : Int) < (S.length : Int) := by omega
    clear b2
    go_enter Tryd.func4, Tryd.ntmps4
    go_wp2_with (first | (go_at_call 6; refine (HL.out _ HB.out).mono ?_; rintro e wz ⟨rfl, hz⟩; replace HB := hide (upR HB.out hz); clear hz))
    go_ret
    exact ⟨rfl, HB.out⟩
  have g2 : ¬ (60 : Int) < (S.length : Int) := by omega
  by_cases b3 : 60 < T.length
  · have g3 : (60 : Int) < (T.length : Int) := by omega
    clear b3
    go_enter Tryd.func4, Tryd.ntmps4
    go_wp2_with (first | (go_at_call 6; refine (HL.out _ HB.out).mono ?_; rintro e wz ⟨rfl, hz⟩; replace HB := hide (upR HB.out hz); clear hz))
    go_ret
    exact ⟨rfl, HB.out⟩
  have g3 : ¬ (60 : Int) < (T.length : Int) := by omega
  by_cases b4 : 60 < U.length
  · have g4 : (60 : Int) < (U.length : Int) := by omega
    clear b4
    go_enter Tryd.func4, Tryd.ntmps4
    go_wp2_with (first | (go_at_call 6; refine (HL.out _ HB.out).mono ?_; rintro e wz ⟨rfl, hz⟩; replace HB := hide (upR HB.out hz); clear hz))
    go_ret
    exact ⟨rfl, HB.out⟩
  have g4 : ¬ (60 : Int) < (U.length : Int) := by omega
  have HLk : Hid (∀ (A B : ByteArray) (W : World), A.size ≤ 1000 → B.size ≤ 1000 → Calls Tryd.prog 9 #[.string A, .string B] W fun e w' => e = .returned (.bool (likeR A.data.toList B.data.toList)) ∧ Below W.heap.size W w') := fun A B W ha hb => Like_any A B W (by omega) (by unfold maxLen; omega)
  have main : P.getLast? ≠ some 126 → (∃ L, L = P.length) → True := fun _ _ => trivial
  have HP : Hid (∀ W : World, Calls Tryd.prog 9 #[.string ⟨P.toArray⟩, .string ⟨S.toArray⟩] W fun e w' => e = .returned (.bool (likeR P S)) ∧ Below W.heap.size W w') := fun W => by
    have := HLk.out ⟨P.toArray⟩ ⟨S.toArray⟩ W (by rw [mk_size]; omega) (by rw [mk_size]; omega)
    simpa using this
  have HQ : Hid (∀ W : World, Calls Tryd.prog 9 #[.string ⟨Q.toArray⟩, .string ⟨T.toArray⟩] W fun e w' => e = .returned (.bool (likeR Q T)) ∧ Below W.heap.size W w') := fun W => by
    have := HLk.out ⟨Q.toArray⟩ ⟨T.toArray⟩ W (by rw [mk_size]; omega) (by rw [mk_size]; omega)
    simpa using this
  have HJ : Hid (P.getLast? ≠ some 126 → likeR P S = true → likeR Q T = true → ∀ W : World, Calls Tryd.prog 9 #[.string (⟨P.toArray⟩ ++ ⟨Q.toArray⟩), .string (⟨S.toArray⟩ ++ ⟨T.toArray⟩)] W fun e w' => e = .returned (.bool true) ∧ Below W.heap.size W w') := fun hp e1 e2 W => by
    have := HLk.out ⟨(P ++ Q).toArray⟩ ⟨(S ++ T).toArray⟩ W (by rw [mk_size, List.length_append]; omega) (by rw [mk_size, List.length_append]; omega)
    rw [show (⟨(P ++ Q).toArray⟩ : ByteArray).data.toList = P ++ Q by simp, show (⟨(S ++ T).toArray⟩ : ByteArray).data.toList = S ++ T by simp, like_join hp e1 e2] at this
    rw [ba_app, ba_app]
    exact this
  have HK : Hid (P.getLast? ≠ some 126 → likeR P S = true → likeR Q T = true → ∀ W : World, Calls Tryd.prog 9 #[.string (⟨P.toArray⟩ ++ ⟨#[42]⟩ ++ ⟨Q.toArray⟩), .string (⟨S.toArray⟩ ++ ⟨U.toArray⟩ ++ ⟨T.toArray⟩)] W fun e w' => e = .returned (.bool true) ∧ Below W.heap.size W w') := fun hp e1 e2 W => by
    have z1 : (⟨(P ++ ([42] : List UInt8) ++ Q).toArray⟩ : ByteArray).data.toList = P ++ ([42] : List UInt8) ++ Q := by simp
    have z2 : (⟨(S ++ U ++ T).toArray⟩ : ByteArray).data.toList = S ++ U ++ T := by simp
    have := HLk.out ⟨(P ++ ([42] : List UInt8) ++ Q).toArray⟩ ⟨(S ++ U ++ T).toArray⟩ W (by rw [mk_size]; simp only [List.length_append, List.length_cons, List.length_nil]; omega) (by rw [mk_size]; simp only [List.length_append]; omega)
    rw [z1, z2, like_wide U hp e1 e2] at this
    rw [show (⟨#[42]⟩ : ByteArray) = ⟨[42].toArray⟩ from rfl, ba_app, ba_app, ba_app, ba_app]
    exact this
  clear HLk
  clear main
  rcases Nat.eq_zero_or_pos P.length with hz | hz
  · have hlast : P.getLast? ≠ some 126 := by rw [List.eq_nil_of_length_eq_zero hz]; simp
    rw [hz] at sp
    have i0 : ¬ (60 : Int) < 0 := by omega
    cases e1 : likeR P S
    · rw [e1] at HP
      clear e1 HJ HK HQ
      go_enter Tryd.func4, Tryd.ntmps4
      go_wp2_with (first | (go_at_call 9; refine (HP.out _).mono ?_; rintro e wz ⟨rfl, hz⟩; replace HB := hide (upR HB.out hz); clear hz HP) | (go_at_call 6; refine (HL.out _ HB.out).mono ?_; rintro e wz ⟨rfl, hz⟩; replace HB := hide (upR HB.out hz); clear hz))
      go_ret
      exact ⟨rfl, HB.out⟩
    rw [e1] at HP
    cases e2 : likeR Q T
    · rw [e2] at HQ
      clear e1 e2 HJ HK
      go_enter Tryd.func4, Tryd.ntmps4
      go_wp2_with (first | (go_at_call 9; refine (HP.out _).mono ?_; rintro e wz ⟨rfl, hz⟩; replace HB := hide (upR HB.out hz); clear hz HP) | (go_at_call 9; refine (HQ.out _).mono ?_; rintro e wz ⟨rfl, hz⟩; replace HB := hide (upR HB.out hz); clear hz HQ) | (go_at_call 6; refine (HL.out _ HB.out).mono ?_; rintro e wz ⟨rfl, hz⟩; replace HB := hide (upR HB.out hz); clear hz))
      go_ret
      exact ⟨rfl, HB.out⟩
    rw [e2] at HQ
    have HJ := hide (HJ.out hlast e1 e2)
    have HK := hide (HK.out hlast e1 e2)
    clear e1 e2 hlast
    go_enter Tryd.func4, Tryd.ntmps4
    go_wp2_with (first | (go_at_call 9; refine (HP.out _).mono ?_; rintro e wz ⟨rfl, hz⟩; replace HB := hide (upR HB.out hz); clear hz HP) | (go_at_call 9; refine (HQ.out _).mono ?_; rintro e wz ⟨rfl, hz⟩; replace HB := hide (upR HB.out hz); clear hz HQ) | (go_at_call 9; refine (HJ.out _).mono ?_; rintro e wz ⟨rfl, hz⟩; replace HB := hide (upR HB.out hz); clear hz HJ) | (go_at_call 9; refine (HK.out _).mono ?_; rintro e wz ⟨rfl, hz⟩; replace HB := hide (upR HB.out hz); clear hz HK) | (go_at_call 6; refine (HL.out _ HB.out).mono ?_; rintro e wz ⟨rfl, hz⟩; replace HB := hide (upR HB.out hz); clear hz))
    go_ret
    exact ⟨rfl, HB.out⟩
  · obtain ⟨m, hm⟩ : ∃ m, P.length = m + 1 := ⟨P.length - 1, by omega⟩
    have hl2 : P.getLast? = some P[m] := by rw [List.getLast?_eq_getElem?, show P.length - 1 = m by omega]; exact List.getElem?_eq_getElem (by omega)
    have hx : ∀ h, (⟨P.toArray⟩ : ByteArray)[m]'h = P[m] := fun h => rfl
    have i1 : (0 : Int) < (P.length : Int) := by omega
    have i2 : (P.length : Int) - 1 = (m : Int) := by omega
    have i3 : IntKind.i64.wrap (m : Int) = (m : Int) := by rw [IntKind.wrap_i64]; omega
    have i4 : (m : Int) < (P.length : Int) := by omega
    have i5 : (0 : Int) ≤ (m : Int) := by omega
    by_cases c1 : (P[m].toNat : Int) = 126
    · have c2 : ((P[m].toNat : Int) == 126) = true := by rw [c1]; rfl
      clear HP HQ HJ HK
      go_enter Tryd.func4, Tryd.ntmps4
      go_wp2_with (first | (go_at_call 6; refine (HL.out _ HB.out).mono ?_; rintro e wz ⟨rfl, hz⟩; replace HB := hide (upR HB.out hz); clear hz))
      go_ret
      exact ⟨rfl, HB.out⟩
    · have c2 : ((P[m].toNat : Int) == 126) = false := by rw [beq_eq_false_iff_ne]; exact c1
      have hlast : P.getLast? ≠ some 126 := by
        rw [hl2]
        intro e
        exact c1 (by rw [Option.some.inj e]; rfl)
      clear hl2
      cases e1 : likeR P S
      · rw [e1] at HP
        clear e1 HJ HK HQ
        go_enter Tryd.func4, Tryd.ntmps4
        go_wp2_with (first | (go_at_call 9; refine (HP.out _).mono ?_; rintro e wz ⟨rfl, hz⟩; replace HB := hide (upR HB.out hz); clear hz HP) | (go_at_call 6; refine (HL.out _ HB.out).mono ?_; rintro e wz ⟨rfl, hz⟩; replace HB := hide (upR HB.out hz); clear hz))
        go_ret
        exact ⟨rfl, HB.out⟩
      rw [e1] at HP
      cases e2 : likeR Q T
      · rw [e2] at HQ
        clear e1 e2 HJ HK
        go_enter Tryd.func4, Tryd.ntmps4
        go_wp2_with (first | (go_at_call 9; refine (HP.out _).mono ?_; rintro e wz ⟨rfl, hz⟩; replace HB := hide (upR HB.out hz); clear hz HP) | (go_at_call 9; refine (HQ.out _).mono ?_; rintro e wz ⟨rfl, hz⟩; replace HB := hide (upR HB.out hz); clear hz HQ) | (go_at_call 6; refine (HL.out _ HB.out).mono ?_; rintro e wz ⟨rfl, hz⟩; replace HB := hide (upR HB.out hz); clear hz))
        go_ret
        exact ⟨rfl, HB.out⟩
      rw [e2] at HQ
      have HJ := hide (HJ.out hlast e1 e2)
      have HK := hide (HK.out hlast e1 e2)
      clear e1 e2 hlast
      go_enter Tryd.func4, Tryd.ntmps4
      go_wp2_with (first | (go_at_call 9; refine (HP.out _).mono ?_; rintro e wz ⟨rfl, hz⟩; replace HB := hide (upR HB.out hz); clear hz HP) | (go_at_call 9; refine (HQ.out _).mono ?_; rintro e wz ⟨rfl, hz⟩; replace HB := hide (upR HB.out hz); clear hz HQ) | (go_at_call 9; refine (HJ.out _).mono ?_; rintro e wz ⟨rfl, hz⟩; replace HB := hide (upR HB.out hz); clear hz HJ) | (go_at_call 9; refine (HK.out _).mono ?_; rintro e wz ⟨rfl, hz⟩; replace HB := hide (upR HB.out hz); clear hz HK) | (go_at_call 6; refine (HL.out _ HB.out).mono ?_; rintro e wz ⟨rfl, hz⟩; replace HB := hide (upR HB.out hz); clear hz))
      go_ret
      exact ⟨rfl, HB.out⟩
end Go.Proofs.YtpghgjibpbimeabDoor
