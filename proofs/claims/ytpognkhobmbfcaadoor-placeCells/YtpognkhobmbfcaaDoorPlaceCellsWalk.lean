/-
  The walk of PlaceCells: for every cell and text it returns true.
-/
import Derived.Test.YtpognkhobmbfcaaDoorPlSt
import Derived.Test.YtpognkhobmbfcaaDoorPt12
namespace Go.Proofs.YtpognkhobmbfcaaDoor
open Go.RowKit

set_option maxRecDepth 100000 in
set_option maxHeartbeats 8000000 in
theorem placeCells_walk (r c : Int) (x y : Bool) (s : ByteArray) (w : World) (ht : TabOk w) (hs : s.size ≤ maxLen) :
    Calls Tryd.prog 4 #[.agg #[.int .i64 r, .int .i64 c, .bool x, .bool y], .string s] w fun e w' => e = .returned (.bool true) ∧ Below w.heap.size w w' := by
  have HT := hide ht
  clear ht
  have HS : Hid (St w [] [] [(w.heap.size, r, c, x, y)] (w.alloc (.cells #[.int .i64 r, .int .i64 c, .bool x, .bool y] 36))) := (St.nil w).boxC r c x y 36
  have HP : Hid (∀ W : World, TabOk W → Calls Tryd.prog 14 #[.agg #[.int .i64 r, .int .i64 c, .bool x, .bool y]] W fun e w' => e = .returned (.tuple #[.string ⟨(printR r c x y).1.toArray⟩, .int .i64 (printR r c x y).2]) ∧ Below W.heap.size W w') := fun W h => print_any r c x y W h
  have HQ : Hid (∀ W : World, Calls Tryd.prog 15 #[.agg #[.int .i64 r, .int .i64 c, .bool x, .bool y]] W fun e w' => e = .returned (.tuple #[.string ⟨(printR r c x y).1.toArray⟩, .int .i64 (printR r c x y).2]) ∧ Below W.heap.size W w') := fun W => rprint_any r c x y W
  have HR : Hid (∀ W : World, Calls Tryd.prog 16 #[.string s] W fun e w' => e = .returned (.tuple #[.agg #[.int .i64 (parseR s.data.toList).1, .int .i64 (parseR s.data.toList).2.1, .bool (parseR s.data.toList).2.2.1, .bool (parseR s.data.toList).2.2.2.1], .int .i64 (parseR s.data.toList).2.2.2.2]) ∧ Below W.heap.size W w') := fun W => parse_any s W hs
  have HU : Hid (∀ W : World, Calls Tryd.prog 17 #[.string s] W fun e w' => e = .returned (.tuple #[.agg #[.int .i64 (parseR s.data.toList).1, .int .i64 (parseR s.data.toList).2.1, .bool (parseR s.data.toList).2.2.1, .bool (parseR s.data.toList).2.2.2.1], .int .i64 (parseR s.data.toList).2.2.2.2]) ∧ Below W.heap.size W w') := fun W => rparse_any s W hs
  clear hs
  generalize (printR r c x y).1 = T at *
  generalize (printR r c x y).2 = te at *
  generalize (parseR s.data.toList).1 = r' at *
  generalize (parseR s.data.toList).2.1 = c' at *
  generalize (parseR s.data.toList).2.2.1 = x' at *
  generalize (parseR s.data.toList).2.2.2.1 = y' at *
  generalize (parseR s.data.toList).2.2.2.2 = pe at *
  have i1 : (T == T) = true := by simp
  have i2 : (te == te) = true := by simp
  have i3 : (pe == pe) = true := by simp
  have j1 : (r' == r') = true := by simp
  have j2 : (c' == c') = true := by simp
  have j3 : (x' == x') = true := by simp
  have j4 : (y' == y') = true := by simp
  go_enter Tryd.func4, Tryd.ntmps4
  go_wp2_with fail
  refine (HP.out _ (tab_below HT.out HS.out.out)).mono ?_
  rintro e w1 ⟨rfl, hb⟩
  have hs0 := St.below hb HS.out
  have ⟨_, _, ⟨⟨za, ka0, ka1, ka2, ka3⟩, _⟩, _⟩ := hs0
  have HS := hide hs0
  clear hs0 hb
  go_wp2_with fail
  refine (HQ.out _).mono ?_
  rintro e w2 ⟨rfl, hb⟩
  clear za ka0 ka1 ka2 ka3
  have hs0 := St.below hb HS.out
  have ⟨_, _, ⟨⟨za, ka0, ka1, ka2, ka3⟩, _⟩, _⟩ := hs0
  have HS := hide hs0
  clear hs0 hb
  go_wp2_with fail
  refine (HR.out _).mono ?_
  rintro e w3 ⟨rfl, hb⟩
  clear za ka0 ka1 ka2 ka3
  have hs0 := St.below hb HS.out
  have ⟨_, _, ⟨⟨za, ka0, ka1, ka2, ka3⟩, _⟩, _⟩ := hs0
  have HS := hide (hs0.boxC r' c' x' y' 36)
  clear hs0 hb
  go_wp2_with fail
  refine (HU.out _).mono ?_
  rintro e w4 ⟨rfl, hb⟩
  clear za ka0 ka1 ka2 ka3
  have hs0 := St.below hb HS.out
  have ⟨_, _, ⟨⟨za, ka0, ka1, ka2, ka3⟩, ⟨zb, kb0, kb1, kb2, kb3⟩, _⟩, _⟩ := hs0
  have HS := hide (hs0.boxC r' c' x' y' 36)
  clear hs0 hb
  go_wp2_with fail
  refine (lives5_any _ (tab_below HT.out HS.out.out)).mono ?_
  rintro e w5 ⟨rfl, hb⟩
  clear za ka0 ka1 ka2 ka3 zb kb0 kb1 kb2 kb3
  have hs0 := St.below hb HS.out
  have ⟨_, _, ⟨⟨za, ka0, ka1, ka2, ka3⟩, ⟨zb, kb0, kb1, kb2, kb3⟩, ⟨zc, kc0, kc1, kc2, kc3⟩, _⟩, _⟩ := hs0
  have HS := hide hs0
  clear hs0 hb
  go_wp2
  go_ret
  exact ⟨rfl, HS.out.out⟩
end Go.Proofs.YtpognkhobmbfcaaDoor
