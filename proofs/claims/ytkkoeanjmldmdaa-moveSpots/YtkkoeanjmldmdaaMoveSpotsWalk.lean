/-
  The walk of MoveSpots: for every input it returns true. (By movegen.py.)
-/
import Derived.Test.YtkkoeanjmldmdaaMvLives
import Derived.Test.YtkkoeanjmldmdaaMvMath
import Derived.Test.YtkkoeanjmldmdaaMr3
namespace Go.Proofs.Ytkkoeanjmldmdaa
open Go.RowKit

set_option maxRecDepth 100000 in
set_option maxHeartbeats 2000000 in
theorem moveSpots_walk (k a n r c : Int) (w : World) :
    Calls Try.prog 3 #[.agg #[.int .i64 k, .int .i64 a, .int .i64 n], .agg #[.int .i64 r, .int .i64 c]] w fun e w' => e = .returned (.bool true) ∧ Below w.heap.size w w' := by
  have H0 : Hid (St w [(w.heap.size, k, a, n)] [(w.heap.size + 1, r, c)] [] ((w.alloc (.cells #[.int .i64 k, .int .i64 a, .int .i64 n] 24)).alloc (.cells #[.int .i64 r, .int .i64 c] 26))) := by
    have := (((St.nil w).box3 k a n 24).box2 r c 26)
    show St _ _ _ _ _
    simpa using this
  have HV : Hid (∀ W : World, Calls Try.prog 15 #[] W fun e w' => e = .returned (.bool true) ∧ Below W.heap.size W w') := fun W => lives6_any W
  have HA : Hid (∀ W : World, Calls Try.prog 9 #[.agg #[.int .i64 k, .int .i64 a, .int .i64 n], .agg #[.int .i64 r, .int .i64 c]] W fun e w' => e = .returned (.tuple #[.agg #[.int .i64 ((spotR k a n r c).1), .int .i64 ((spotR k a n r c).2.1)], .int .i64 ((spotR k a n r c).2.2.1), .int .i64 ((spotR k a n r c).2.2.2)]) ∧ Below W.heap.size W w') := fun W => spot_any k a n r c W
  have HB : Hid (∀ W : World, Calls Try.prog 10 #[.agg #[.int .i64 k, .int .i64 a, .int .i64 n], .agg #[.int .i64 r, .int .i64 c]] W fun e w' => e = .returned (.tuple #[.agg #[.int .i64 ((spotR k a n r c).1), .int .i64 ((spotR k a n r c).2.1)], .int .i64 ((spotR k a n r c).2.2.1), .int .i64 ((spotR k a n r c).2.2.2)]) ∧ Below W.heap.size W w') := fun W => rspot_any k a n r c W
  have HC : Hid (∀ W : World, Calls Try.prog 11 #[.agg #[.int .i64 k, .int .i64 a, .int .i64 n]] W fun e w' => e = .returned (.tuple #[.agg #[.int .i64 ((backR k a n).1), .int .i64 ((backR k a n).2.1), .int .i64 ((backR k a n).2.2.1)], .int .i64 ((backR k a n).2.2.2)]) ∧ Below W.heap.size W w') := fun W => back_any k a n W
  have HD : Hid (∀ W : World, Calls Try.prog 12 #[.agg #[.int .i64 k, .int .i64 a, .int .i64 n]] W fun e w' => e = .returned (.tuple #[.agg #[.int .i64 ((backR k a n).1), .int .i64 ((backR k a n).2.1), .int .i64 ((backR k a n).2.2.1)], .int .i64 ((backR k a n).2.2.2)]) ∧ Below W.heap.size W w') := fun W => rback_any k a n W
  have HE : Hid (∀ W : World, Calls Try.prog 13 #[.agg #[.int .i64 k, .int .i64 a, .int .i64 n]] W fun e w' => e = .returned (.int .i64 (editR k a n)) ∧ Below W.heap.size W w') := fun W => edit_any k a n W
  have HF : Hid (∀ W : World, Calls Try.prog 14 #[.agg #[.int .i64 k, .int .i64 a, .int .i64 n]] W fun e w' => e = .returned (.int .i64 (editR k a n)) ∧ Below W.heap.size W w') := fun W => redit_any k a n W
  generalize (spotR k a n r c).1 = x at *
  generalize (spotR k a n r c).2.1 = y at *
  generalize (spotR k a n r c).2.2.1 = f at *
  generalize (spotR k a n r c).2.2.2 = z at *
  generalize (backR k a n).1 = m at *
  generalize (backR k a n).2.1 = a' at *
  generalize (backR k a n).2.2.1 = n' at *
  generalize (backR k a n).2.2.2 = j at *
  generalize editR k a n = ee at *
  have sx : (x == x) = true := by simp
  have sy : (y == y) = true := by simp
  have sf : (f == f) = true := by simp
  have sz : (z == z) = true := by simp
  have sm : (m == m) = true := by simp
  have sap : (a' == a') = true := by simp
  have snp : (n' == n') = true := by simp
  have sj : (j == j) = true := by simp
  have see : (ee == ee) = true := by simp
  go_enter Try.func3, Try.ntmps3
  go_wp2_with fail
  refine (HA.out _).mono ?_
  rintro e w1 ⟨rfl, hb⟩
  have hs := St.below hb H0.out
  have ⟨⟨⟨q30z, q300, q301, q302⟩, _⟩, ⟨⟨q20z, q200, q201⟩, _⟩, _, hbz⟩ := hs
  have HS1 := hide (hs.box2 x y 26)
  clear hs hb
  go_wp2_with fail
  refine (HB.out _).mono ?_
  rintro e w2 ⟨rfl, hb⟩
  have hs := St.below hb HS1.out
  clear q30z q300 q301 q302 q20z q200 q201 hbz
  have ⟨⟨⟨q30z, q300, q301, q302⟩, _⟩, ⟨⟨q20z, q200, q201⟩, ⟨q21z, q210, q211⟩, _⟩, _, hbz⟩ := hs
  have HS2 := hide (hs.box2 x y 26)
  clear hs hb HS1
  go_wp2_with fail
  refine (HC.out _).mono ?_
  rintro e w3 ⟨rfl, hb⟩
  have hs := St.below hb HS2.out
  clear q30z q300 q301 q302 q20z q200 q201 q21z q210 q211 hbz
  have ⟨⟨⟨q30z, q300, q301, q302⟩, _⟩, ⟨⟨q20z, q200, q201⟩, ⟨q21z, q210, q211⟩, ⟨q22z, q220, q221⟩, _⟩, _, hbz⟩ := hs
  have HS3 := hide (hs.box3 m a' n' 24)
  clear hs hb HS2
  go_wp2_with fail
  refine (HD.out _).mono ?_
  rintro e w4 ⟨rfl, hb⟩
  have hs := St.below hb HS3.out
  clear q30z q300 q301 q302 q20z q200 q201 q21z q210 q211 q22z q220 q221 hbz
  have ⟨⟨⟨q30z, q300, q301, q302⟩, ⟨q31z, q310, q311, q312⟩, _⟩, ⟨⟨q20z, q200, q201⟩, ⟨q21z, q210, q211⟩, ⟨q22z, q220, q221⟩, _⟩, _, hbz⟩ := hs
  have HS4 := hide (hs.box3 m a' n' 24)
  clear hs hb HS3
  go_wp2_with fail
  have hs := HS4.out
  generalize w4.alloc (.cells #[.int .i64 m, .int .i64 a', .int .i64 n'] 24) = wr at *
  have HX : Hid (∀ w', St w [(w4.heap.size, m, a', n'), (w3.heap.size, m, a', n'), (w.heap.size, k, a, n)] [(w2.heap.size, x, y), (w1.heap.size, x, y), (w.heap.size + 1, r, c)] [] w' → w'.cell? ⟨w4.heap.size, 0, none⟩ = some (.int .i64 m) ∧ w'.cell? ⟨w4.heap.size, 1, none⟩ = some (.int .i64 a') ∧ w'.cell? ⟨w4.heap.size, 2, none⟩ = some (.int .i64 n') ∧ w'.cell? ⟨w3.heap.size, 0, none⟩ = some (.int .i64 m) ∧ w'.cell? ⟨w3.heap.size, 1, none⟩ = some (.int .i64 a') ∧ w'.cell? ⟨w3.heap.size, 2, none⟩ = some (.int .i64 n') ∧ w'.cell? ⟨w.heap.size, 0, none⟩ = some (.int .i64 k) ∧ w'.cell? ⟨w.heap.size, 1, none⟩ = some (.int .i64 a) ∧ w'.cell? ⟨w.heap.size, 2, none⟩ = some (.int .i64 n) ∧ w'.cell? ⟨w2.heap.size, 0, none⟩ = some (.int .i64 x) ∧ w'.cell? ⟨w2.heap.size, 1, none⟩ = some (.int .i64 y) ∧ w'.cell? ⟨w1.heap.size, 0, none⟩ = some (.int .i64 x) ∧ w'.cell? ⟨w1.heap.size, 1, none⟩ = some (.int .i64 y) ∧ St w [(w4.heap.size, m, a', n'), (w3.heap.size, m, a', n'), (w.heap.size, k, a, n)] [(w2.heap.size, x, y), (w1.heap.size, x, y), (w.heap.size + 1, r, c)] [] w') := fun w' h => ⟨h.1.1.2.1, h.1.1.2.2.1, h.1.1.2.2.2, h.1.2.1.2.1, h.1.2.1.2.2.1, h.1.2.1.2.2.2, h.1.2.2.1.2.1, h.1.2.2.1.2.2.1, h.1.2.2.1.2.2.2, h.2.1.1.2.1, h.2.1.1.2.2, h.2.1.2.1.2.1, h.2.1.2.1.2.2, h⟩
  have hs8 := HX.out wr hs
  clear q30z q300 q301 q302 q31z q310 q311 q312 q20z q200 q201 q21z q210 q211 q22z q220 q221 hbz hs
  go_region_held3 (fun w' => w'.cell? ⟨w4.heap.size, 0, none⟩ = some (.int .i64 m) ∧ w'.cell? ⟨w4.heap.size, 1, none⟩ = some (.int .i64 a') ∧ w'.cell? ⟨w4.heap.size, 2, none⟩ = some (.int .i64 n') ∧ w'.cell? ⟨w3.heap.size, 0, none⟩ = some (.int .i64 m) ∧ w'.cell? ⟨w3.heap.size, 1, none⟩ = some (.int .i64 a') ∧ w'.cell? ⟨w3.heap.size, 2, none⟩ = some (.int .i64 n') ∧ w'.cell? ⟨w.heap.size, 0, none⟩ = some (.int .i64 k) ∧ w'.cell? ⟨w.heap.size, 1, none⟩ = some (.int .i64 a) ∧ w'.cell? ⟨w.heap.size, 2, none⟩ = some (.int .i64 n) ∧ w'.cell? ⟨w2.heap.size, 0, none⟩ = some (.int .i64 x) ∧ w'.cell? ⟨w2.heap.size, 1, none⟩ = some (.int .i64 y) ∧ w'.cell? ⟨w1.heap.size, 0, none⟩ = some (.int .i64 x) ∧ w'.cell? ⟨w1.heap.size, 1, none⟩ = some (.int .i64 y) ∧ St w [(w4.heap.size, m, a', n'), (w3.heap.size, m, a', n'), (w.heap.size, k, a, n)] [(w2.heap.size, x, y), (w1.heap.size, x, y), (w.heap.size + 1, r, c)] [] w') (first | exact hs8 | assumption | exact HX.out _ (St.drew (And.right (And.right (And.right (And.right (And.right (And.right (And.right (And.right (And.right (And.right (And.right (And.right (And.right (by assumption))))))))))))))) | exact HX.out _ (St.alloc (And.right (And.right (And.right (And.right (And.right (And.right (And.right (And.right (And.right (And.right (And.right (And.right (And.right (by assumption)))))))))))))) _)) (first | (go_at_call 13; refine (HE.out _).mono ?_; rintro e wn ⟨rfl, hb⟩; have hsn := HX.out _ (St.below hb (And.right (And.right (And.right (And.right (And.right (And.right (And.right (And.right (And.right (And.right (And.right (And.right (And.right (by assumption)))))))))))))))) | (go_at_call 14; refine (HF.out _).mono ?_; rintro e wn ⟨rfl, hb⟩; have hsn := HX.out _ (St.below hb (And.right (And.right (And.right (And.right (And.right (And.right (And.right (And.right (And.right (And.right (And.right (And.right (And.right (by assumption)))))))))))))))) | (go_at_call 15; refine (HV.out _).mono ?_; rintro e wn ⟨rfl, hb⟩; have hsn := HX.out _ (St.below hb (And.right (And.right (And.right (And.right (And.right (And.right (And.right (And.right (And.right (And.right (And.right (And.right (And.right (by assumption)))))))))))))))))
  all_goals go_wp2
  all_goals go_ret
  all_goals exact ⟨rfl, St.out (And.right (And.right (And.right (And.right (And.right (And.right (And.right (And.right (And.right (And.right (And.right (And.right (And.right (by assumption))))))))))))))⟩
end Go.Proofs.Ytkkoeanjmldmdaa
