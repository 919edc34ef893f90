/-
  The walk of PlaceLeast: for every two places it returns true.
-/
import Derived.Test.YtpognkhobmbfcabDoorPlSt
namespace Go.Proofs.YtpognkhobmbfcabDoor
open Go.RowKit

theorem of_comm (a b c d : Int) : ofR c d a b = ofR a b c d := by
  unfold ofR
  rw [Int.max_comm c a, Int.max_comm d b, Int.min_comm c a, Int.min_comm d b, Bool.and_comm (placeB c d)]
theorem wrap_small {n : Int} (h0 : 0 ≤ n) (h1 : n ≤ 4611686018427387904) : IntKind.i64.wrap n = n := by rw [IntKind.wrap_i64]; omega
theorem StS.of {w w' : World} {l : List (Nat × Int × Int × Int × Int)} {p q : Nat} {a b c d : Int} (h : St w l [(q, c, d), (p, a, b)] [] w') : w'.cell? ⟨p, 0, none⟩ = some (.int .i64 a) ∧ w'.cell? ⟨p, 1, none⟩ = some (.int .i64 b) ∧ w'.cell? ⟨q, 0, none⟩ = some (.int .i64 c) ∧ w'.cell? ⟨q, 1, none⟩ = some (.int .i64 d) ∧ St w l [(q, c, d), (p, a, b)] [] w' :=
  ⟨h.2.1.2.1.2.1, h.2.1.2.1.2.2, h.2.1.1.2.1, h.2.1.1.2.2, h⟩
theorem StS.st {w w' : World} {l : List (Nat × Int × Int × Int × Int)} {p q : Nat} {a b c d : Int} (h : w'.cell? ⟨p, 0, none⟩ = some (.int .i64 a) ∧ w'.cell? ⟨p, 1, none⟩ = some (.int .i64 b) ∧ w'.cell? ⟨q, 0, none⟩ = some (.int .i64 c) ∧ w'.cell? ⟨q, 1, none⟩ = some (.int .i64 d) ∧ St w l [(q, c, d), (p, a, b)] [] w') : St w l [(q, c, d), (p, a, b)] [] w' := h.2.2.2.2
theorem StS.drew {w w' : World} {l : List (Nat × Int × Int × Int × Int)} {p q : Nat} {a b c d : Int} (h : w'.cell? ⟨p, 0, none⟩ = some (.int .i64 a) ∧ w'.cell? ⟨p, 1, none⟩ = some (.int .i64 b) ∧ w'.cell? ⟨q, 0, none⟩ = some (.int .i64 c) ∧ w'.cell? ⟨q, 1, none⟩ = some (.int .i64 d) ∧ St w l [(q, c, d), (p, a, b)] [] w') : w'.drew.cell? ⟨p, 0, none⟩ = some (.int .i64 a) ∧ w'.drew.cell? ⟨p, 1, none⟩ = some (.int .i64 b) ∧ w'.drew.cell? ⟨q, 0, none⟩ = some (.int .i64 c) ∧ w'.drew.cell? ⟨q, 1, none⟩ = some (.int .i64 d) ∧ St w l [(q, c, d), (p, a, b)] [] w'.drew :=
  StS.of (St.below ((Below.refl _ _).drew) h.2.2.2.2)
set_option maxRecDepth 100000 in
set_option maxHeartbeats 8000000 in
theorem placeLeast_walk (a b c d : Int) (w : World) (ht : TabOk w) :
    Calls Tryd.prog 3 #[.agg #[.int .i64 a, .int .i64 b], .agg #[.int .i64 c, .int .i64 d]] w fun e w' => e = .returned (.bool true) ∧ Below w.heap.size w w' := by
  have HT := hide ht
  clear ht
  have H0 : Hid (St w [] [(w.heap.size + 1, c, d), (w.heap.size, a, b)] [] ((w.alloc (.cells #[.int .i64 a, .int .i64 b] 23)).alloc (.cells #[.int .i64 c, .int .i64 d] 23))) := by
    have := ((St.nil w).box2 a b 23).box2 c d 23
    show St _ _ _ _ _
    simpa using this
  have HO : Hid (∀ W : World, Calls Tryd.prog 4 #[.agg #[.int .i64 a, .int .i64 b], .agg #[.int .i64 c, .int .i64 d]] W fun e w' => e = .returned (.tuple #[.agg #[.int .i64 ((ofR a b c d).1), .int .i64 ((ofR a b c d).2.1), .int .i64 ((ofR a b c d).2.2.1), .int .i64 ((ofR a b c d).2.2.2.1)], .int .i64 (ofR a b c d).2.2.2.2]) ∧ Below W.heap.size W w') := fun W => of_any _ _ _ _ W
  have HN : Hid (∀ W : World, Calls Tryd.prog 4 #[.agg #[.int .i64 c, .int .i64 d], .agg #[.int .i64 a, .int .i64 b]] W fun e w' => e = .returned (.tuple #[.agg #[.int .i64 ((ofR a b c d).1), .int .i64 ((ofR a b c d).2.1), .int .i64 ((ofR a b c d).2.2.1), .int .i64 ((ofR a b c d).2.2.2.1)], .int .i64 (ofR a b c d).2.2.2.2]) ∧ Below W.heap.size W w') := fun W => by have := of_any c d a b W; rw [of_comm] at this; exact this
  by_cases hp : placeB a b = false ∨ placeB c d = false
  · rw [ofR_no hp] at HO
    clear hp HN
    go_enter Tryd.func3, Tryd.ntmps3
    go_wp2_with fail
    refine (HO.out _).mono ?_
    rintro e w1 ⟨rfl, hb⟩
    have hs := (St.below hb H0.out).box4 0 0 0 0 25
    go_wp2_with (go_at_call 5; refine (lives5_any _ (tab_below HT.out (St.out (by assumption)))).mono ?_; rintro e wn ⟨rfl, hb⟩; have hs := St.below hb (by assumption))
    go_ret
    exact ⟨rfl, St.out (by assumption)⟩
  · have p1 : placeB a b = true := by cases e : placeB a b <;> simp_all
    have p2 : placeB c d = true := by cases e : placeB c d <;> simp_all
    rw [ofR_yes p1 p2] at HO HN
    have q1 := placeB_iff.1 p1
    have q2 := placeB_iff.1 p2
    have hr : rightB (min a c) (min b d) (max a c) (max b d) = true := rightB_iff.2 (by omega)
    have HA : Hid (∀ W : World, Calls Tryd.prog 6 #[.agg #[.int .i64 (min a c), .int .i64 (min b d), .int .i64 (max a c), .int .i64 (max b d)]] W fun e w' => e = .returned (.tuple #[.int .i64 ((max a c - min a c + 1) * (max b d - min b d + 1)), .int .i64 0]) ∧ Below W.heap.size W w') := fun W => by have := area_any (min a c) (min b d) (max a c) (max b d) W; rw [areaR_yes hr] at this; exact this
    have HI : Hid (∀ W : World, Calls Tryd.prog 7 #[.agg #[.int .i64 (min a c), .int .i64 (min b d), .int .i64 (max a c), .int .i64 (max b d)], .agg #[.int .i64 a, .int .i64 b]] W fun e w' => e = .returned (.bool true) ∧ Below W.heap.size W w') := fun W => by have := in_any (min a c) (min b d) (max a c) (max b d) a b W; rw [inB_iff.2 ⟨hr, by omega⟩] at this; exact this
    have HJ : Hid (∀ W : World, Calls Tryd.prog 7 #[.agg #[.int .i64 (min a c), .int .i64 (min b d), .int .i64 (max a c), .int .i64 (max b d)], .agg #[.int .i64 c, .int .i64 d]] W fun e w' => e = .returned (.bool true) ∧ Below W.heap.size W w') := fun W => by have := in_any (min a c) (min b d) (max a c) (max b d) c d W; rw [inB_iff.2 ⟨hr, by omega⟩] at this; exact this
    have ga := area_small hr
    have v1 : 0 ≤ max a c - min a c ∧ max a c - min a c ≤ 1048576 := by omega
    have v2 : 0 ≤ max b d - min b d ∧ max b d - min b d ≤ 16384 := by omega
    clear p1 p2 q1 q2 hr hp
    generalize hm1 : min a c = m1 at *
    generalize hm2 : min b d = m2 at *
    generalize hm3 : max a c = m3 at *
    generalize hm4 : max b d = m4 at *
    have u1 : IntKind.i64.wrap (m3 - m1) = m3 - m1 := wrap_small (by omega) (by omega)
    have u2 : IntKind.i64.wrap (m3 - m1 + 1) = m3 - m1 + 1 := wrap_small (by omega) (by omega)
    have u3 : IntKind.i64.wrap (m4 - m2) = m4 - m2 := wrap_small (by omega) (by omega)
    have u4 : IntKind.i64.wrap (m4 - m2 + 1) = m4 - m2 + 1 := wrap_small (by omega) (by omega)
    obtain ⟨ga1, ga2⟩ := ga
    have e1 : (m1 == m1) = true := by simp
    have e2 : (m2 == m2) = true := by simp
    have e3 : (m3 == m3) = true := by simp
    have e4 : (m4 == m4) = true := by simp
    go_enter Tryd.func3, Tryd.ntmps3
    go_wp2_with fail
    refine (HO.out _).mono ?_
    rintro e w1 ⟨rfl, hb⟩
    have hs0 := St.below hb H0.out
    have hs := hs0.box4 m1 m2 m3 m4 25
    have ⟨_, ⟨⟨ze, ke0, ke1⟩, ⟨zf, kf0, kf1⟩, _⟩, _⟩ := hs0
    have HS := hide hs
    clear hs hs0 hb
    go_wp2_with fail
    refine (HN.out _).mono ?_
    rintro e w2 ⟨rfl, hb⟩
    have hs0 := St.below hb HS.out
    have hs := hs0.box4 m1 m2 m3 m4 25
    clear ze ke0 ke1 zf kf0 kf1
    have ⟨⟨⟨zd, kd0, kd1, kd2, kd3⟩, _⟩, ⟨⟨ze, ke0, ke1⟩, ⟨zf, kf0, kf1⟩, _⟩, _⟩ := hs0
    have HS := hide hs
    clear hs hs0 hb
    go_wp2_with fail
    refine (HA.out _).mono ?_
    rintro e w3 ⟨rfl, hb⟩
    have HS := hide (St.below hb HS.out)
    clear hb zd kd0 kd1 kd2 kd3 ze ke0 ke1 zf kf0 kf1
    go_wp2
    have hs8 := StS.of HS.out
    have hs := HS.out
    have ⟨⟨⟨zc, kc0, kc1, kc2, kc3⟩, ⟨zd, kd0, kd1, kd2, kd3⟩, _⟩, ⟨⟨ze, ke0, ke1⟩, ⟨zf, kf0, kf1⟩, _⟩, _⟩ := hs
    have hsd := St.below ((Below.refl _ _).drew) hs
    clear hs
    go_region_held3 (fun w' => w'.cell? ⟨w.heap.size, 0, none⟩ = some (.int .i64 a) ∧ w'.cell? ⟨w.heap.size, 1, none⟩ = some (.int .i64 b) ∧ w'.cell? ⟨w.heap.size + 1, 0, none⟩ = some (.int .i64 c) ∧ w'.cell? ⟨w.heap.size + 1, 1, none⟩ = some (.int .i64 d) ∧ St w [(w2.heap.size, m1, m2, m3, m4), (w1.heap.size, m1, m2, m3, m4)] [(w.heap.size + 1, c, d), (w.heap.size, a, b)] [] w') (first | exact hs8 | assumption | exact StS.drew (by assumption)) (fail)
    clear hs8
    go_wp2_with (first | (go_at_call_of 7 [Value.agg #[Value.int IntKind.i64 m1, Value.int IntKind.i64 m2, Value.int IntKind.i64 m3, Value.int IntKind.i64 m4], Value.agg #[Value.int IntKind.i64 a, Value.int IntKind.i64 b]]; refine (HI.out _).mono ?_; rintro e wn ⟨rfl, hb⟩; have hs := St.below hb (by assumption); have ⟨⟨⟨zc, kc0, kc1, kc2, kc3⟩, ⟨zd, kd0, kd1, kd2, kd3⟩, _⟩, ⟨⟨ze, ke0, ke1⟩, ⟨zf, kf0, kf1⟩, _⟩, _⟩ := hs) | (go_at_call_of 7 [Value.agg #[Value.int IntKind.i64 m1, Value.int IntKind.i64 m2, Value.int IntKind.i64 m3, Value.int IntKind.i64 m4], Value.agg #[Value.int IntKind.i64 c, Value.int IntKind.i64 d]]; refine (HJ.out _).mono ?_; rintro e wn ⟨rfl, hb⟩; have hs := St.below hb (by assumption); have ⟨⟨⟨zc, kc0, kc1, kc2, kc3⟩, ⟨zd, kd0, kd1, kd2, kd3⟩, _⟩, ⟨⟨ze, ke0, ke1⟩, ⟨zf, kf0, kf1⟩, _⟩, _⟩ := hs) | (go_at_call 5; refine (lives5_any _ (tab_below HT.out (St.out (by assumption)))).mono ?_; rintro e wn ⟨rfl, hb⟩; have hs := St.below hb (by assumption)))
    all_goals go_ret
    all_goals exact ⟨rfl, St.out (by assumption)⟩
end Go.Proofs.YtpognkhobmbfcabDoor
