/-
  What an edit, and another place, do with a cell and with a range: the contracts of the closures.
-/
import Derived.Test.YtfpmmckpobpokaaGreatMVMv5
import Derived.Test.YtfpmmckpobpokaaGreatMVNum
set_option maxRecDepth 100000
set_option maxHeartbeats 4000000
namespace Go.Proofs.YtfpmmckpobpokaaGreat
open Go.RowKit
def CelAt (w : World) (b : Nat) (r c : Int) (x y : Bool) : Prop := b < w.heap.size ∧ (w.cell? ⟨b, 0, none⟩ = some (.int .i64 r) ∧ w.cell? ⟨b, 1, none⟩ = some (.int .i64 c) ∧ w.cell? ⟨b, 2, none⟩ = some (.bool x) ∧ w.cell? ⟨b, 3, none⟩ = some (.bool y)) ∧ w.frozen? ⟨b, 0, none⟩ = false ∧ w.frozen? ⟨b, 1, none⟩ = false ∧ w.frozen? ⟨b, 2, none⟩ = false ∧ w.frozen? ⟨b, 3, none⟩ = false
theorem CelAt.below {w w' : World} {b : Nat} {r c : Int} {x y : Bool} (h : CelAt w b r c x y) (k : Below w.heap.size w w') : CelAt w' b r c x y := by
 obtain ⟨h0, ⟨h1, h2, h3, h4⟩, h5, h6, h7, h8⟩ := h
 exact ⟨Nat.lt_of_lt_of_le h0 k.size, ⟨by rw [k.cell (p := ⟨b, 0, none⟩) h0]; exact h1, by rw [k.cell (p := ⟨b, 1, none⟩) h0]; exact h2, by rw [k.cell (p := ⟨b, 2, none⟩) h0]; exact h3, by rw [k.cell (p := ⟨b, 3, none⟩) h0]; exact h4⟩, by rw [k.frozen (p := ⟨b, 0, none⟩) h0]; exact h5, by rw [k.frozen (p := ⟨b, 1, none⟩) h0]; exact h6, by rw [k.frozen (p := ⟨b, 2, none⟩) h0]; exact h7, by rw [k.frozen (p := ⟨b, 3, none⟩) h0]; exact h8⟩
theorem CelAt.new (w : World) (r c : Int) (x y : Bool) (t : TypeId) : CelAt (w.alloc (.cells #[.int .i64 r, .int .i64 c, .bool x, .bool y] t)) w.heap.size r c x y :=
 ⟨by simp, ⟨by simp [go_sem], by simp [go_sem], by simp [go_sem], by simp [go_sem]⟩, by simp, by simp, by simp, by simp⟩
theorem CelAt.alloc {w : World} {b : Nat} {r c : Int} {x y : Bool} (h : CelAt w b r c x y) (o : Obj) : CelAt (w.alloc o) b r c x y := h.below ((Below.refl _ w).alloc (Nat.le_refl _) o)
theorem CelAt.two (w : World) (r c : Int) (x y : Bool) (r' c' : Int) (x' y' : Bool) (t t' : TypeId) : CelAt ((w.alloc (.cells #[.int .i64 r, .int .i64 c, .bool x, .bool y] t)).alloc (.cells #[.int .i64 r', .int .i64 c', .bool x', .bool y'] t')) w.heap.size r c x y ∧ CelAt ((w.alloc (.cells #[.int .i64 r, .int .i64 c, .bool x, .bool y] t)).alloc (.cells #[.int .i64 r', .int .i64 c', .bool x', .bool y'] t')) (w.heap.size + 1) r' c' x' y' := by
 refine ⟨(CelAt.new w r c x y t).alloc _, ?_⟩
 have := CelAt.new (w.alloc (.cells #[.int .i64 r, .int .i64 c, .bool x, .bool y] t)) r' c' x' y' t'
 simpa using this
theorem mcell_any (k a n r c : Int) (x y : Bool) (be : Nat) (w : World) (h : Pla.At3 w be k a n) :
  Calls Tryz.prog 62 #[.agg #[.int .i64 r, .int .i64 c, .bool x, .bool y], .pointer (some ⟨be, 0, none⟩)] w fun e w' => e = .returned (.tuple #[.agg #[.int .i64 (Pla.spotR k a n r c).1, .int .i64 (Pla.spotR k a n r c).2.1, .bool x, .bool y], .bool ((Pla.spotR k a n r c).2.2.1 == 0)]) ∧ Below w.heap.size w w' := by
 have HS : Hid (∀ W : World, Calls Tryz.prog 19 #[.agg #[.int .i64 k, .int .i64 a, .int .i64 n], .agg #[.int .i64 r, .int .i64 c]] W fun e w' => e = .returned (.tuple #[.agg #[.int .i64 (Pla.spotR k a n r c).1, .int .i64 (Pla.spotR k a n r c).2.1], .int .i64 (Pla.spotR k a n r c).2.2.1, .int .i64 (Pla.spotR k a n r c).2.2.2]) ∧ Below W.heap.size W w') := fun W => Pla.spot_any k a n r c W
 generalize Pla.spotR k a n r c = s at *
 obtain ⟨s1, s2, s3, s4⟩ := s
 dsimp only at HS ⊢
 obtain ⟨e1, e2, e3, e4⟩ := h
 have HC := hide (CelAt.two w r c x y 0 0 false false 30 30)
 have HB := hide (((Below.refl _ w).alloc (Nat.le_refl _) (.cells #[.int .i64 r, .int .i64 c, .bool x, .bool y] 30)).alloc (by simp) (.cells #[.int .i64 0, .int .i64 0, .bool false, .bool false] 30))
 go_enter Tryz.func62, Tryz.ntmps62
 go_wp2_with (go_at_call 19; refine (HS.out _).mono ?_; rintro e w1 ⟨rfl, hb1⟩; have ⟨z0, ⟨z1, z2, z3, z4⟩, z5, z6, z7, z8⟩ := HC.out.1.below hb1; have ⟨y0, ⟨y1, y2, y3, y4⟩, y5, y6, y7, y8⟩ := HC.out.2.below hb1; have HB1 := hide (HB.out.trans (hb1.mono HB.out.size)); clear hb1 e1 e2 e3 e4)
 refine bodyPost_ret (v := .tuple #[.agg #[.int .i64 s1, .int .i64 s2, .bool x, .bool y], .bool (s3 == 0)]) (by simp [results, Tryz.results62, go_sem, *]) rfl ⟨rfl, ?_⟩
 repeat' (first | with_reducible (first | exact Below.refl _ _ | refine Below.setCell ?_ ?_ _ | refine Below.alloc ?_ ?_ _ | refine below_drewN ?_ _ | refine Below.drew ?_ | refine Below.trans ?_ (Below.mono (by assumption) ?_) | exact Nat.le_refl _ | refine Nat.le_trans ?_ (Below.size (by assumption)) | refine zzA ?_ | refine zzB ?_ | refine zzC ?_ | refine zzD ?_) | (simp; done) | (simp; omega) | omega)
 exact HB1.out
theorem ordered_any (f t l g : Int) (w : World) : Calls Tryz.prog 65 #[.int .i64 f, .int .i64 t, .int .i64 l, .int .i64 g] w fun e w' => e = .returned (.tuple #[.int .i64 (if f ≤ t then l else g), .int .i64 (if f ≤ t then g else l)]) ∧ w' = w := by
 by_cases h : f ≤ t
 ·
  simp only [if_pos h]
  go_enter Tryz.func65, Tryz.ntmps65
  go_wp2
  exact bodyPost_ret (v := .tuple #[.int .i64 l, .int .i64 g]) (by simp [results, Tryz.results65, go_sem]) rfl ⟨rfl, rfl⟩
 ·
  simp only [if_neg h]
  go_enter Tryz.func65, Tryz.ntmps65
  go_wp2
  exact bodyPost_ret (v := .tuple #[.int .i64 g, .int .i64 l]) (by simp [results, Tryz.results65, go_sem]) rfl ⟨rfl, rfl⟩
end Go.Proofs.YtfpmmckpobpokaaGreat
