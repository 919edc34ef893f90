/-
  The contract of dates' Parse.
-/
import Derived.Test.YtlhpplhhdeifhaaDoorDt7
import Derived.Test.YtlhpplhhdeifhaaDoorDt4
import Derived.Test.YtlhpplhhdeifhaaDoorRegion
namespace Go.Proofs.YtlhpplhhdeifhaaDoor
open Go.RowKit

set_option maxHeartbeats 1000000 in
theorem parse_short (s : ByteArray) (w : World) (hs : s.size ≠ 10) :
    Calls Tryd.prog 22 #[.string s] w fun e w' => e = .returned (.tuple #[.int .i64 0, .int .i64 5]) ∧ Below w.heap.size w w' := by
  have HS : Hid (∀ W : World, Calls Tryd.prog 36 #[.string s] W fun e w' => e = .returned (.bool false) ∧ w' = W) := fun W => by
    have h1 : (((s.size : Nat) : Int) != 10) = true := by rw [bne_iff_ne]; omega
    clear hs
    go_enter Tryd.func36, Tryd.ntmps36
    go_wp2
    go_ret
    exact ⟨rfl, rfl⟩
  clear hs
  go_enter Tryd.func22, Tryd.ntmps22
  go_wp2_with (go_at_call 36; refine (HS.out _).mono ?_; rintro e wz ⟨rfl, hz⟩; subst wz)
  go_ret2
  exact ⟨rfl, Below.refl _ _⟩
theorem U3.out {w0 w : World} {b : Nat} {x y z : Int} (h : w.cell? ⟨b, 0, none⟩ = some (.int .i64 x) ∧ w.cell? ⟨b, 1, none⟩ = some (.int .i64 y) ∧ w.cell? ⟨b, 2, none⟩ = some (.int .i64 z) ∧ Q3 w0 b x y z w) : Q3 w0 b x y z w := h.2.2.2
theorem parseR_ten (b0 b1 b2 b3 b4 b5 b6 b7 b8 b9 : UInt8) : parseR [b0, b1, b2, b3, b4, b5, b6, b7, b8, b9] = if shapeB [b0, b1, b2, b3, b4, b5, b6, b7, b8, b9] then parseN (decV [b0, b1, b2, b3]) (decV [b5, b6]) (decV [b8, b9]) else (0, 5) := rfl
set_option linter.unusedSimpArgs false in
set_option maxHeartbeats 1000000 in
theorem parse_ten (b0 b1 b2 b3 b4 b5 b6 b7 b8 b9 : UInt8) (w : World) (hl : LenOk w) :
    Calls Tryd.prog 22 #[.string ⟨#[b0, b1, b2, b3, b4, b5, b6, b7, b8, b9]⟩] w fun e w' => e = .returned (.tuple #[.int .i64 (parseR [b0, b1, b2, b3, b4, b5, b6, b7, b8, b9]).1, .int .i64 (parseR [b0, b1, b2, b3, b4, b5, b6, b7, b8, b9]).2]) ∧ Below w.heap.size w w' := by
  have HS : Hid (∀ W : World, Calls Tryd.prog 36 #[.string ⟨#[b0, b1, b2, b3, b4, b5, b6, b7, b8, b9]⟩] W fun e w' => e = .returned (.bool (shapeB [b0, b1, b2, b3, b4, b5, b6, b7, b8, b9])) ∧ Below W.heap.size W w') := fun W => isShaped_ten b0 b1 b2 b3 b4 b5 b6 b7 b8 b9 W
  rw [parseR_ten]
  cases hs : shapeB [b0, b1, b2, b3, b4, b5, b6, b7, b8, b9]
  · rw [hs] at HS
    rw [if_neg (by decide)]
    clear hs
    go_enter Tryd.func22, Tryd.ntmps22
    go_wp2_with (go_at_call 36; refine (HS.out _).mono ?_; rintro e w1 ⟨rfl, hb1⟩)
    go_ret2
    exact ⟨rfl, by assumption⟩
  · rw [hs] at HS
    rw [if_pos rfl]
    have HR : Hid (∀ W : World, Calls Tryd.prog 37 #[.string ⟨#[b0, b1, b2, b3, b4, b5, b6, b7, b8, b9]⟩] W fun e w' => e = .returned (.agg #[.int .i64 (decV [b0, b1, b2, b3] : Int), .int .i64 (decV [b5, b6] : Int), .int .i64 (decV [b8, b9] : Int)]) ∧ Below W.heap.size W w') := fun W => read_ten b0 b1 b2 b3 b4 b5 b6 b7 b8 b9 W hs
    obtain ⟨q1, q2, q3⟩ := parts_bounds hs
    clear hs
    generalize decV [b0, b1, b2, b3] = Y at *
    generalize decV [b5, b6] = M at *
    generalize decV [b8, b9] = D at *
    generalize (⟨#[b0, b1, b2, b3, b4, b5, b6, b7, b8, b9]⟩ : ByteArray) = S at *
    have HC : Hid (∀ W : World, Below w.heap.size w W → Calls Tryd.prog 26 #[.agg #[.int .i64 (Y : Int), .int .i64 (M : Int), .int .i64 (D : Int)]] W fun e w' => e = .returned (.int .i64 (countR Y M D)) ∧ Below W.heap.size W w') := fun W hW => count_any Y M D W (by omega) (by omega) (by omega) (by omega) (by omega) (by omega) (len_below hl hW)
    have HD : Hid (∀ W : World, Calls Tryd.prog 25 #[.int .i64 (countR Y M D)] W fun e w' => e = .returned (.tuple #[.int .i64 (dailyR (countR Y M D)).1, .int .i64 (dailyR (countR Y M D)).2]) ∧ w' = W) := fun W => daily_any (countR Y M D) W
    by_cases hd : 1 ≤ countR Y M D ∧ countR Y M D ≤ 2958464
    · rw [daily_yes hd.1 hd.2] at HD
      obtain ⟨y, k, d, hi⟩ := day_exists hd.1 hd.2
      have HP : Hid (∀ W : World, Below w.heap.size w W → Calls Tryd.prog 30 #[.int .i64 (countR Y M D)] W fun e w' => e = .returned (.agg #[.int .i64 y, .int .i64 ((k : Int) + 1), .int .i64 d]) ∧ Below W.heap.size W w') := fun W hW => partsOf_any y k d _ W hi (len_below hl hW)
      have key : (y = (Y : Int) ∧ (k : Int) + 1 = (M : Int) ∧ d = (D : Int)) ∨ ¬ (y = (Y : Int) ∧ (k : Int) + 1 = (M : Int) ∧ d = (D : Int)) := Classical.em _
      have cells : ((y == (Y : Int)) = true ∧ ((k : Int) + 1 == (M : Int)) = true ∧ (d == (D : Int)) = true ∧ parseN Y M D = (countR Y M D, 0)) ∨ ((y == (Y : Int)) = true ∧ ((k : Int) + 1 == (M : Int)) = true ∧ (d == (D : Int)) = false ∧ parseN Y M D = (0, 3)) ∨ ((y == (Y : Int)) = true ∧ ((k : Int) + 1 == (M : Int)) = false ∧ parseN Y M D = (0, 3)) ∨ ((y == (Y : Int)) = false ∧ parseN Y M D = (0, 3)) := by
        rcases key with h | h
        · exact Or.inl ⟨beq_iff_eq.2 h.1, beq_iff_eq.2 h.2.1, beq_iff_eq.2 h.2.2, parse_same hi h.1 h.2.1 h.2.2⟩
        · have ho := parse_other q1 hi h
          by_cases h1 : y = (Y : Int)
          · by_cases h2 : (k : Int) + 1 = (M : Int)
            · exact Or.inr (Or.inl ⟨beq_iff_eq.2 h1, beq_iff_eq.2 h2, beq_eq_false_iff_ne.2 (fun h3 => h ⟨h1, h2, h3⟩), ho⟩)
            · exact Or.inr (Or.inr (Or.inl ⟨beq_iff_eq.2 h1, beq_eq_false_iff_ne.2 h2, ho⟩))
          · exact Or.inr (Or.inr (Or.inr ⟨beq_eq_false_iff_ne.2 h1, ho⟩))
      clear key hi hd hl q1 q2 q3
      generalize parseN Y M D = R at *
      generalize countR Y M D = N at *
      have hU : ∀ b, b = w.heap.size → True := fun _ _ => trivial
      clear hU
      rcases cells with ⟨e1, e2, e3, rfl⟩ | ⟨e1, e2, e3, rfl⟩ | ⟨e1, e2, rfl⟩ | ⟨e1, rfl⟩
      all_goals
        go_enter Tryd.func22, Tryd.ntmps22
        go_wp2_with (first | (go_at_call 36; refine (HS.out _).mono ?_; rintro e w1 ⟨rfl, hb1⟩) | (go_at_call 37; refine (HR.out _).mono ?_; rintro e w2 ⟨rfl, hb2⟩; have hq0 := Q3.new (up hb1 hb2) (Y : Int) (M : Int) (D : Int) 47) | (go_at_call 26; refine (HC.out _ hq0.k).mono ?_; rintro e w3 ⟨rfl, hb3⟩; have hq := hq0.below hb3; have ⟨⟨⟨z0, c0, c1, c2⟩, f0, f1, f2⟩, hB, _⟩ := hq) | (go_at_call 25; refine (HD.out _).mono ?_; rintro e wz ⟨rfl, hz⟩; subst wz))
        have HS3 := hide hq.t
        clear z0 c0 c1 c2 f0 f1 f2 hB hq hq0 hb1 hb2 hb3 HS HR HC HD
        generalize w2.heap.size = B at *
        go_region_held3 (fun w' => w'.cell? ⟨B, 0, none⟩ = some (.int .i64 (Y : Int)) ∧ w'.cell? ⟨B, 1, none⟩ = some (.int .i64 (M : Int)) ∧ w'.cell? ⟨B, 2, none⟩ = some (.int .i64 (D : Int)) ∧ Q3 w B Y M D w') (first | exact HS3.out | assumption | exact U3.drew (by assumption)) (first | (go_at_call 30; refine (HP.out _ (Q3.k (U3.out (by assumption)))).mono ?_; rintro e w5 ⟨rfl, hb5⟩; have hs5 := (Q3.below (U3.out (by assumption)) hb5).t))
        all_goals go_wp2
        all_goals go_ret2
        all_goals exact ⟨rfl, Q3.k (U3.out (by assumption))⟩
    · rw [daily_no (by omega)] at HD
      rw [parse_out q1 hd]
      clear hd hl q1 q2 q3
      generalize countR Y M D = N at *
      go_enter Tryd.func22, Tryd.ntmps22
      go_wp2_with (first | (go_at_call 36; refine (HS.out _).mono ?_; rintro e w1 ⟨rfl, hb1⟩) | (go_at_call 37; refine (HR.out _).mono ?_; rintro e w2 ⟨rfl, hb2⟩; have hq0 := Q3.new (up hb1 hb2) (Y : Int) (M : Int) (D : Int) 47) | (go_at_call 26; refine (HC.out _ hq0.k).mono ?_; rintro e w3 ⟨rfl, hb3⟩) | (go_at_call 25; refine (HD.out _).mono ?_; rintro e wz ⟨rfl, hz⟩; subst wz))
      have HS3 := hide (hq0.below hb3).k
      clear hq0 hb1 hb2 hb3 HS HR HC HD
      refine wp_region_held_drew (S := fun w' => Below w.heap.size w w') (by kernel_rfl) HS3.out.drew (fun hHeld => ?_)
      (refine takeD (i := 0) (some 18) rfl rfl (by kernel_rfl) (by kernel_rfl) (by kernel_rfl) (fun _ _ _ h => h) (v := ?_) rfl ?_ (by assumption) ?_; rotate_left; (focus (intro w hSw; (try dsimp only at hSw); first | (go_simp; done) | (go_simp; with_reducible rfl))); try simp only [Act.put, List.setIfInBounds_toArray, List.set_cons_zero, List.set_cons_succ]); (refine takeD (i := 1) (some 19) rfl rfl (by kernel_rfl) (by kernel_rfl) (by kernel_rfl) (fun _ _ _ h => h) (v := ?_) rfl ?_ (by assumption) ?_; rotate_left; (focus (intro w hSw; (try dsimp only at hSw); first | (go_simp; done) | (go_simp; with_reducible rfl))); try simp only [Act.put, List.setIfInBounds_toArray, List.set_cons_zero, List.set_cons_succ]); (refine takeD (i := 2) (some 20) rfl rfl (by kernel_rfl) (by kernel_rfl) (by kernel_rfl) (fun _ _ _ h => h) (v := ?_) rfl ?_ (by assumption) ?_; rotate_left; (focus (intro w hSw; (try dsimp only at hSw); first | (go_simp; done) | (go_simp; with_reducible rfl))); try simp only [Act.put, List.setIfInBounds_toArray, List.set_cons_zero, List.set_cons_succ]); (refine skipD (i := 3) (some 21) rfl rfl (by kernel_rfl) (by kernel_rfl) (by kernel_rfl) (fun _ _ _ h => h) rfl (by assumption) ?_; try simp only [Act.put, List.setIfInBounds_toArray, List.set_cons_zero, List.set_cons_succ]); (refine skipD (i := 4) (some 22) rfl rfl (by kernel_rfl) (by kernel_rfl) (by kernel_rfl) (fun _ _ _ h => h) rfl (by assumption) ?_; try simp only [Act.put, List.setIfInBounds_toArray, List.set_cons_zero, List.set_cons_succ]); (refine skipD (i := 5) (some 23) rfl rfl (by kernel_rfl) (by kernel_rfl) (by kernel_rfl) (fun _ _ _ h => h) rfl (by assumption) ?_; try simp only [Act.put, List.setIfInBounds_toArray, List.set_cons_zero, List.set_cons_succ]); (refine skipD (i := 6) (some 24) rfl rfl (by kernel_rfl) (by kernel_rfl) (by kernel_rfl) (fun _ _ _ h => h) rfl (by assumption) ?_; try simp only [Act.put, List.setIfInBounds_toArray, List.set_cons_zero, List.set_cons_succ]); (refine takeD (i := 7) (some 25) rfl rfl (by kernel_rfl) (by kernel_rfl) (by kernel_rfl) (fun _ _ _ h => h) (v := ?_) rfl ?_ (by assumption) ?_; rotate_left; (focus (intro w hSw; (try dsimp only at hSw); first | (go_simp; done) | (go_simp; with_reducible rfl))); try simp only [Act.put, List.setIfInBounds_toArray, List.set_cons_zero, List.set_cons_succ]); refine wpAnyH_done (by kernel_rfl) ?_ _
      go_wp2
      go_ret2
      exact ⟨rfl, by first | assumption | exact Below.drew (by assumption)⟩
theorem ten_bytes {s : ByteArray} (h : s.size = 10) : ∃ b0 b1 b2 b3 b4 b5 b6 b7 b8 b9 : UInt8, s = ⟨#[b0, b1, b2, b3, b4, b5, b6, b7, b8, b9]⟩ := by
  obtain ⟨⟨l⟩⟩ := s
  have hl : l.length = 10 := h
  rcases l with _ | ⟨b0, _ | ⟨b1, _ | ⟨b2, _ | ⟨b3, _ | ⟨b4, _ | ⟨b5, _ | ⟨b6, _ | ⟨b7, _ | ⟨b8, _ | ⟨b9, _ | ⟨b10, l⟩⟩⟩⟩⟩⟩⟩⟩⟩⟩⟩
  all_goals first | (simp at hl; done) | exact ⟨b0, b1, b2, b3, b4, b5, b6, b7, b8, b9, rfl⟩
/-- What Parse tells of any text. -/
def parseS (s : ByteArray) : Int × Int := if s.size = 10 then parseR s.data.toList else (0, 5)
theorem parse_any (s : ByteArray) (w : World) (hl : LenOk w) :
    Calls Tryd.prog 22 #[.string s] w fun e w' => e = .returned (.tuple #[.int .i64 (parseS s).1, .int .i64 (parseS s).2]) ∧ Below w.heap.size w w' := by
  unfold parseS
  by_cases h : s.size = 10
  · rw [if_pos h]
    obtain ⟨b0, b1, b2, b3, b4, b5, b6, b7, b8, b9, rfl⟩ := ten_bytes h
    exact parse_ten b0 b1 b2 b3 b4 b5 b6 b7 b8 b9 w hl
  · rw [if_neg h]
    exact parse_short s w h
end Go.Proofs.YtlhpplhhdeifhaaDoor
