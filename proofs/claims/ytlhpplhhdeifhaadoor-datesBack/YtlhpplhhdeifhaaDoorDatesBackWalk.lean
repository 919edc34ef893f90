/-
  The walk of DatesBack.
-/
import Derived.Test.YtlhpplhhdeifhaaDoorDt9
import Derived.Test.YtlhpplhhdeifhaaDoorDtBack
namespace Go.Proofs.YtlhpplhhdeifhaaDoor
open Go.RowKit

set_option maxHeartbeats 4000000 in
theorem datesBack_walk (n : Int) (w : World) (h : Env w) :
    Calls Tryd.prog 7 #[.int .i64 n] w fun e w' => e = .returned (.bool true) ∧ Below w.heap.size w w' := by
  have HL : Hid (∀ W : World, Below w.heap.size w W → Calls Tryd.prog 13 #[] W fun e w' => e = .returned (.bool true) ∧ Below W.heap.size W w') := fun W hW => lives_any W (h.below hW)
  by_cases a : 1 ≤ n ∧ n ≤ 2958464
  · obtain ⟨y, k, d, hd⟩ := day_exists a.1 a.2
    obtain ⟨z1, z2⟩ := text_parse hd
    have HP : Hid (∀ W : World, Below w.heap.size w W → Calls Tryd.prog 14 #[.int .i64 n] W fun e w' => e = .returned (.tuple #[.int .i64 y, .int .i64 ((k : Int) + 1), .int .i64 d, .int .i64 0]) ∧ Below W.heap.size W w') := fun W hW => parts_yes y k d n W hd (h.below hW).1
    have HS : Hid (∀ W : World, Below w.heap.size w W → Calls Tryd.prog 9 #[.int .i64 y, .int .i64 ((k : Int) + 1), .int .i64 d] W fun e w' => e = .returned (.tuple #[.int .i64 n, .int .i64 0]) ∧ Below W.heap.size W w') := fun W hW => by
      have := serial_any y ((k : Int) + 1) d W (h.below hW).1
      have u1 := hd.y1; have u2 := hd.y2; have u3 := hd.k1; have u4 := hd.d1; have u5 := hd.dle
      rw [serial_yes (by omega), hd.count, daily_yes a.1 a.2] at this
      exact this
    have HT : Hid (∀ W : World, Below w.heap.size w W → Calls Tryd.prog 18 #[.int .i64 n] W fun e w' => e = .returned (.tuple #[.string ⟨(textL y k d).toArray⟩, .int .i64 0]) ∧ Below W.heap.size W w') := fun W hW => print_yes y k d n W hd (h.below hW).1 (h.below hW).2
    have HQ : Hid (∀ W : World, Below w.heap.size w W → Calls Tryd.prog 22 #[.string ⟨(textL y k d).toArray⟩] W fun e w' => e = .returned (.tuple #[.int .i64 n, .int .i64 0]) ∧ Below W.heap.size W w') := fun W hW => by
      have := parse_any ⟨(textL y k d).toArray⟩ W (h.below hW).1
      rw [z2] at this
      exact this
    generalize (⟨(textL y k d).toArray⟩ : ByteArray) = T at *
    clear h hd a z2
    go_enter Tryd.func7, Tryd.ntmps7
    go_wp2_with fail
    refine (HP.out _ (Below.refl _ _)).mono ?_
    rintro e w1 ⟨rfl, hb1⟩
    go_wp2_with fail
    refine (HS.out _ hb1).mono ?_
    rintro e w2 ⟨rfl, hb2⟩
    have hb2 := up hb1 hb2
    go_wp2_with fail
    refine (HT.out _ hb2).mono ?_
    rintro e w3 ⟨rfl, hb3⟩
    have hb3 := up hb2 hb3
    go_wp2_with fail
    refine (HQ.out _ hb3).mono ?_
    rintro e w4 ⟨rfl, hb4⟩
    have hb4 := up hb3 hb4
    clear HP HS HT HQ
    go_wp2_with (go_at_call 13; refine (HL.out _ hb4).mono ?_; rintro e w5 ⟨rfl, hb5⟩)
    go_ret
    exact ⟨rfl, up hb4 hb5⟩
  · have HP : Hid (∀ W : World, Calls Tryd.prog 14 #[.int .i64 n] W fun e w' => e = .returned (.tuple #[.int .i64 0, .int .i64 0, .int .i64 0, .int .i64 2]) ∧ Below W.heap.size W w') := fun W => parts_no n W a
    clear h a
    go_enter Tryd.func7, Tryd.ntmps7
    go_wp2_with fail
    refine (HP.out _).mono ?_
    rintro e w1 ⟨rfl, hb1⟩
    go_wp2_with (go_at_call 13; refine (HL.out _ hb1).mono ?_; rintro e w5 ⟨rfl, hb5⟩)
    go_ret
    exact ⟨rfl, up hb1 hb5⟩
end Go.Proofs.YtlhpplhhdeifhaaDoor
