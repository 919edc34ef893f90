/-
  The contract of the answer's Compare.
-/
import Derived.Test.YtaokibkeoomfjaaDoorRefAlike
import Derived.Test.YtaokibkeoomfjaaDoorRefBytes
namespace Go.Proofs.YtaokibkeoomfjaaDoor
open Go.RowKit

theorem HasV.setV {w : World} {p : Nat} {k n : Int} {s : ByteArray} {b : Bool} {c : Int} (h : HasV w p k n s b c) (k' n' : Int) (s' : ByteArray) (b' : Bool) (c' : Int) : HasV (((((w.setCell ⟨p, 0, none⟩ (.int .i64 k')).setCell ⟨p, 1, none⟩ (.int .i64 n')).setCell ⟨p, 2, none⟩ (.string s')).setCell ⟨p, 3, none⟩ (.bool b')).setCell ⟨p, 4, none⟩ (.int .i64 c')) p k' n' s' b' c' := by
  obtain ⟨⟨l, h0, h1, h2, h3, h4⟩, f0, f1, f2, f3, f4⟩ := h
  exact ⟨⟨by simpa using l, by simp [go_sem, *], by simp [go_sem, *], by simp [go_sem, *], by simp [go_sem, *], by simp [go_sem, *]⟩, by simp [f0], by simp [f1], by simp [f2], by simp [f3], by simp [f4]⟩
theorem Below.setV {B : Nat} {a w : World} (h : Below B a w) {p : Nat} (hp : B ≤ p) (v0 v1 v2 v3 v4 : Value) : Below B a (((((w.setCell ⟨p, 0, none⟩ v0).setCell ⟨p, 1, none⟩ v1).setCell ⟨p, 2, none⟩ v2).setCell ⟨p, 3, none⟩ v3).setCell ⟨p, 4, none⟩ v4) :=
  ((((h.setCell (p := ⟨p, 0, none⟩) hp v0).setCell (p := ⟨p, 1, none⟩) hp v1).setCell (p := ⟨p, 2, none⟩) hp v2).setCell (p := ⟨p, 3, none⟩) hp v3).setCell (p := ⟨p, 4, none⟩) hp v4
theorem HasV.others {w : World} {p : Nat} {k n : Int} {s : ByteArray} {b : Bool} {c : Int} (h : HasV w p k n s b c) {q : Nat} (hq : q ≠ p) (v0 v1 v2 v3 v4 : Value) : HasV (((((w.setCell ⟨q, 0, none⟩ v0).setCell ⟨q, 1, none⟩ v1).setCell ⟨q, 2, none⟩ v2).setCell ⟨q, 3, none⟩ v3).setCell ⟨q, 4, none⟩ v4) p k n s b c :=
  ((((h.other hq 0 v0).other hq 1 v1).other hq 2 v2).other hq 3 v3).other hq 4 v4
theorem BB.setP {W w : World} {p q : Nat} {k n : Int} {s : ByteArray} {b : Bool} {c : Int} {k' n' : Int} {s' : ByteArray} {b' : Bool} {c' : Int} (h : Both w p q k n s b c k' n' s' b' c' ∧ Below W.heap.size W w) (hq : p ≠ q) (hp : W.heap.size ≤ p) (l m : Int) (t : ByteArray) (d : Bool) (g : Int) :
    Both (((((w.setCell ⟨p, 0, none⟩ (.int .i64 l)).setCell ⟨p, 1, none⟩ (.int .i64 m)).setCell ⟨p, 2, none⟩ (.string t)).setCell ⟨p, 3, none⟩ (.bool d)).setCell ⟨p, 4, none⟩ (.int .i64 g)) p q l m t d g k' n' s' b' c' ∧ Below W.heap.size W (((((w.setCell ⟨p, 0, none⟩ (.int .i64 l)).setCell ⟨p, 1, none⟩ (.int .i64 m)).setCell ⟨p, 2, none⟩ (.string t)).setCell ⟨p, 3, none⟩ (.bool d)).setCell ⟨p, 4, none⟩ (.int .i64 g)) :=
  ⟨⟨h.1.1.setV l m t d g, h.1.2.others hq _ _ _ _ _⟩, Below.setV h.2 hp _ _ _ _ _⟩
theorem BB.setQ {W w : World} {p q : Nat} {k n : Int} {s : ByteArray} {b : Bool} {c : Int} {k' n' : Int} {s' : ByteArray} {b' : Bool} {c' : Int} (h : Both w p q k n s b c k' n' s' b' c' ∧ Below W.heap.size W w) (hq : q ≠ p) (hp : W.heap.size ≤ q) (l m : Int) (t : ByteArray) (d : Bool) (g : Int) :
    Both (((((w.setCell ⟨q, 0, none⟩ (.int .i64 l)).setCell ⟨q, 1, none⟩ (.int .i64 m)).setCell ⟨q, 2, none⟩ (.string t)).setCell ⟨q, 3, none⟩ (.bool d)).setCell ⟨q, 4, none⟩ (.int .i64 g)) p q k n s b c l m t d g ∧ Below W.heap.size W (((((w.setCell ⟨q, 0, none⟩ (.int .i64 l)).setCell ⟨q, 1, none⟩ (.int .i64 m)).setCell ⟨q, 2, none⟩ (.string t)).setCell ⟨q, 3, none⟩ (.bool d)).setCell ⟨q, 4, none⟩ (.int .i64 g)) :=
  ⟨⟨h.1.1.others hq _ _ _ _ _, h.1.2.setV l m t d g⟩, Below.setV h.2 hp _ _ _ _ _⟩
theorem cmpI_sign (a b : Int) : cmpI a b = signR (decide (a < b)) (decide (b < a)) := by
  unfold cmpI signR
  by_cases h : a < b
  · simp [h]
  · by_cases h' : b < a <;> simp [h, h']
theorem cmpB_sign (a b : Bool) : cmpB a b = signR (!a && b) (a && !b) := by cases a <;> cases b <;> decide

set_option maxHeartbeats 1000000 in
theorem rcomp_no1 (k n : Int) (s : ByteArray) (b : Bool) (c : Int) (k' n' : Int) (s' : ByteArray) (b' : Bool) (c' : Int) (w : World) (HR : Hid (∀ W : World, Calls Tryd.prog 39 #[.agg #[.int .i64 k, .int .i64 n, .string s, .bool b, .int .i64 c]] W fun e w' => e = .returned (.bool false) ∧ Below W.heap.size W w')) :
    Calls Tryd.prog 19 #[.agg #[.int .i64 k, .int .i64 n, .string s, .bool b, .int .i64 c], .agg #[.int .i64 k', .int .i64 n', .string s', .bool b', .int .i64 c']] w fun e w' => e = .returned (.tuple #[.int .i64 0, .int .i64 2]) ∧ Below w.heap.size w w' := by
  have HY := hide (Both.new w k n s b c k' n' s' b' c')
  have HB := hide (((Below.refl w.heap.size w).alloc (Nat.le_refl _) (.cells #[.int .i64 k, .int .i64 n, .string s, .bool b, .int .i64 c] 25)).alloc (by simp) (.cells #[.int .i64 k', .int .i64 n', .string s', .bool b', .int .i64 c'] 25))
  go_enter Tryd.func19, Tryd.ntmps19
  go_wp2_with fail
  refine (HR.out _).mono ?_
  rintro e w1 ⟨rfl, hb⟩
  have HY := hide (Both.below HY.out hb)
  have HB := hide (HB.out.trans (hb.mono HB.out.size))
  clear hb
  obtain ⟨⟨⟨la, a0, a1, a2, a3, a4⟩, f0, f1, f2, f3, f4⟩, ⟨⟨lb, b0, b1, b2, b3, b4⟩, g0, g1, g2, g3, g4⟩⟩ := HY.out
  go_wp2
  go_ret2
  exact ⟨rfl, HB.out⟩
set_option maxHeartbeats 1000000 in
theorem rcomp_no2 (k n : Int) (s : ByteArray) (b : Bool) (c : Int) (k' n' : Int) (s' : ByteArray) (b' : Bool) (c' : Int) (w : World) (HR : Hid (∀ W : World, Calls Tryd.prog 39 #[.agg #[.int .i64 k, .int .i64 n, .string s, .bool b, .int .i64 c]] W fun e w' => e = .returned (.bool true) ∧ Below W.heap.size W w')) (HQ : Hid (∀ W : World, Calls Tryd.prog 39 #[.agg #[.int .i64 k', .int .i64 n', .string s', .bool b', .int .i64 c']] W fun e w' => e = .returned (.bool false) ∧ Below W.heap.size W w')) :
    Calls Tryd.prog 19 #[.agg #[.int .i64 k, .int .i64 n, .string s, .bool b, .int .i64 c], .agg #[.int .i64 k', .int .i64 n', .string s', .bool b', .int .i64 c']] w fun e w' => e = .returned (.tuple #[.int .i64 0, .int .i64 2]) ∧ Below w.heap.size w w' := by
  have HY := hide (Both.new w k n s b c k' n' s' b' c')
  have HB := hide (((Below.refl w.heap.size w).alloc (Nat.le_refl _) (.cells #[.int .i64 k, .int .i64 n, .string s, .bool b, .int .i64 c] 25)).alloc (by simp) (.cells #[.int .i64 k', .int .i64 n', .string s', .bool b', .int .i64 c'] 25))
  go_enter Tryd.func19, Tryd.ntmps19
  go_wp2_with fail
  refine (HR.out _).mono ?_
  rintro e w1 ⟨rfl, hb⟩
  have HY := hide (Both.below HY.out hb)
  have HB := hide (HB.out.trans (hb.mono HB.out.size))
  clear hb
  obtain ⟨⟨⟨la, a0, a1, a2, a3, a4⟩, f0, f1, f2, f3, f4⟩, ⟨⟨lb, b0, b1, b2, b3, b4⟩, g0, g1, g2, g3, g4⟩⟩ := HY.out
  go_wp2_with fail
  refine (HQ.out _).mono ?_
  rintro e w2 ⟨rfl, hb⟩
  have HY := hide (Both.below HY.out hb)
  have HB := hide (HB.out.trans (hb.mono HB.out.size))
  clear hb la a0 a1 a2 a3 a4 f0 f1 f2 f3 f4 lb b0 b1 b2 b3 b4 g0 g1 g2 g3 g4
  obtain ⟨⟨⟨la, a0, a1, a2, a3, a4⟩, f0, f1, f2, f3, f4⟩, ⟨⟨lb, b0, b1, b2, b3, b4⟩, g0, g1, g2, g3, g4⟩⟩ := HY.out
  go_wp2
  go_ret2
  exact ⟨rfl, HB.out⟩
set_option maxHeartbeats 1000000 in
theorem rcomp_f1 (k n : Int) (s : ByteArray) (b : Bool) (c : Int) (k' n' : Int) (s' : ByteArray) (b' : Bool) (c' : Int) (w : World) (h4 : k = 4) (HR : Hid (∀ W : World, Calls Tryd.prog 39 #[.agg #[.int .i64 k, .int .i64 n, .string s, .bool b, .int .i64 c]] W fun e w' => e = .returned (.bool true) ∧ Below W.heap.size W w')) (HQ : Hid (∀ W : World, Calls Tryd.prog 39 #[.agg #[.int .i64 k', .int .i64 n', .string s', .bool b', .int .i64 c']] W fun e w' => e = .returned (.bool true) ∧ Below W.heap.size W w')) :
    Calls Tryd.prog 19 #[.agg #[.int .i64 k, .int .i64 n, .string s, .bool b, .int .i64 c], .agg #[.int .i64 k', .int .i64 n', .string s', .bool b', .int .i64 c']] w fun e w' => e = .returned (.tuple #[.int .i64 0, .int .i64 c]) ∧ Below w.heap.size w w' := by
  subst h4
  have HY := hide (Both.new w 4 n s b c k' n' s' b' c')
  have HB := hide (((Below.refl w.heap.size w).alloc (Nat.le_refl _) (.cells #[.int .i64 4, .int .i64 n, .string s, .bool b, .int .i64 c] 25)).alloc (by simp) (.cells #[.int .i64 k', .int .i64 n', .string s', .bool b', .int .i64 c'] 25))
  go_enter Tryd.func19, Tryd.ntmps19
  go_wp2_with fail
  refine (HR.out _).mono ?_
  rintro e w1 ⟨rfl, hb⟩
  have HY := hide (Both.below HY.out hb)
  have HB := hide (HB.out.trans (hb.mono HB.out.size))
  clear hb
  obtain ⟨⟨⟨la, a0, a1, a2, a3, a4⟩, f0, f1, f2, f3, f4⟩, ⟨⟨lb, b0, b1, b2, b3, b4⟩, g0, g1, g2, g3, g4⟩⟩ := HY.out
  go_wp2_with fail
  refine (HQ.out _).mono ?_
  rintro e w2 ⟨rfl, hb⟩
  have HY := hide (Both.below HY.out hb)
  have HB := hide (HB.out.trans (hb.mono HB.out.size))
  clear hb la a0 a1 a2 a3 a4 f0 f1 f2 f3 f4 lb b0 b1 b2 b3 b4 g0 g1 g2 g3 g4
  obtain ⟨⟨⟨la, a0, a1, a2, a3, a4⟩, f0, f1, f2, f3, f4⟩, ⟨⟨lb, b0, b1, b2, b3, b4⟩, g0, g1, g2, g3, g4⟩⟩ := HY.out
  go_wp2
  go_quiet (fail)
  go_wp2
  go_ret2
  exact ⟨rfl, below_drewN HB.out _⟩
set_option maxHeartbeats 1000000 in
theorem rcomp_f2 (k n : Int) (s : ByteArray) (b : Bool) (c : Int) (k' n' : Int) (s' : ByteArray) (b' : Bool) (c' : Int) (w : World) (h4 : (k == 4) = false) (h5 : k' = 4) (HR : Hid (∀ W : World, Calls Tryd.prog 39 #[.agg #[.int .i64 k, .int .i64 n, .string s, .bool b, .int .i64 c]] W fun e w' => e = .returned (.bool true) ∧ Below W.heap.size W w')) (HQ : Hid (∀ W : World, Calls Tryd.prog 39 #[.agg #[.int .i64 k', .int .i64 n', .string s', .bool b', .int .i64 c']] W fun e w' => e = .returned (.bool true) ∧ Below W.heap.size W w')) :
    Calls Tryd.prog 19 #[.agg #[.int .i64 k, .int .i64 n, .string s, .bool b, .int .i64 c], .agg #[.int .i64 k', .int .i64 n', .string s', .bool b', .int .i64 c']] w fun e w' => e = .returned (.tuple #[.int .i64 0, .int .i64 c']) ∧ Below w.heap.size w w' := by
  subst h5
  have HY := hide (Both.new w k n s b c 4 n' s' b' c')
  have HB := hide (((Below.refl w.heap.size w).alloc (Nat.le_refl _) (.cells #[.int .i64 k, .int .i64 n, .string s, .bool b, .int .i64 c] 25)).alloc (by simp) (.cells #[.int .i64 4, .int .i64 n', .string s', .bool b', .int .i64 c'] 25))
  go_enter Tryd.func19, Tryd.ntmps19
  go_wp2_with fail
  refine (HR.out _).mono ?_
  rintro e w1 ⟨rfl, hb⟩
  have HY := hide (Both.below HY.out hb)
  have HB := hide (HB.out.trans (hb.mono HB.out.size))
  clear hb
  obtain ⟨⟨⟨la, a0, a1, a2, a3, a4⟩, f0, f1, f2, f3, f4⟩, ⟨⟨lb, b0, b1, b2, b3, b4⟩, g0, g1, g2, g3, g4⟩⟩ := HY.out
  go_wp2_with fail
  refine (HQ.out _).mono ?_
  rintro e w2 ⟨rfl, hb⟩
  have HY := hide (Both.below HY.out hb)
  have HB := hide (HB.out.trans (hb.mono HB.out.size))
  clear hb la a0 a1 a2 a3 a4 f0 f1 f2 f3 f4 lb b0 b1 b2 b3 b4 g0 g1 g2 g3 g4
  obtain ⟨⟨⟨la, a0, a1, a2, a3, a4⟩, f0, f1, f2, f3, f4⟩, ⟨⟨lb, b0, b1, b2, b3, b4⟩, g0, g1, g2, g3, g4⟩⟩ := HY.out
  go_wp2
  go_quiet (fail)
  go_wp2
  go_ret2
  exact ⟨rfl, below_drewN HB.out _⟩
set_option linter.unusedSimpArgs false in
set_option maxRecDepth 100000 in
set_option maxHeartbeats 8000000 in
theorem rcomp_1 (k n : Int) (s : ByteArray) (b : Bool) (c : Int) (k' n' : Int) (s' : ByteArray) (b' : Bool) (c' : Int) (w : World) (h4 : (k == 4) = false) (h5 : (k' == 4) = false) (hz : s.size ≤ maxLen) (hz' : s'.size ≤ maxLen) (HR : Hid (∀ W : World, Calls Tryd.prog 39 #[.agg #[.int .i64 k, .int .i64 n, .string s, .bool b, .int .i64 c]] W fun e w' => e = .returned (.bool true) ∧ Below W.heap.size W w')) (HQ : Hid (∀ W : World, Calls Tryd.prog 39 #[.agg #[.int .i64 k', .int .i64 n', .string s', .bool b', .int .i64 c']] W fun e w' => e = .returned (.bool true) ∧ Below W.heap.size W w')) (HF : Hid (∀ W : World, Calls Tryd.prog 43 #[.agg #[.int .i64 k, .int .i64 n, .string s, .bool b, .int .i64 c], .int .i64 k'] W fun e w' => e = .returned (.agg #[.int .i64 k, .int .i64 n, .string s, .bool b, .int .i64 c]) ∧ Below W.heap.size W w')) (HG : Hid (∀ W : World, Calls Tryd.prog 43 #[.agg #[.int .i64 k', .int .i64 n', .string s', .bool b', .int .i64 c'], .int .i64 k] W fun e w' => e = .returned (.agg #[.int .i64 k', .int .i64 n', .string s', .bool b', .int .i64 c']) ∧ Below W.heap.size W w')) :
    Calls Tryd.prog 19 #[.agg #[.int .i64 k, .int .i64 n, .string s, .bool b, .int .i64 c], .agg #[.int .i64 k', .int .i64 n', .string s', .bool b', .int .i64 c']] w fun e w' => e = .returned (.tuple #[.int .i64 (ordV k n s b k' n' s' b'), .int .i64 0]) ∧ Below w.heap.size w w' := by
  have HY := hide (Both.new w k n s b c k' n' s' b' c')
  have HB := hide (((Below.refl w.heap.size w).alloc (Nat.le_refl _) (.cells #[.int .i64 k, .int .i64 n, .string s, .bool b, .int .i64 c] 25)).alloc (by simp) (.cells #[.int .i64 k', .int .i64 n', .string s', .bool b', .int .i64 c'] 25))
  go_enter Tryd.func19, Tryd.ntmps19
  go_wp2_with fail
  refine (HR.out _).mono ?_
  rintro e w1 ⟨rfl, hb⟩
  have HY := hide (Both.below HY.out hb)
  have HB := hide (HB.out.trans (hb.mono HB.out.size))
  clear hb
  obtain ⟨⟨⟨la, a0, a1, a2, a3, a4⟩, f0, f1, f2, f3, f4⟩, ⟨⟨lb, b0, b1, b2, b3, b4⟩, g0, g1, g2, g3, g4⟩⟩ := HY.out
  go_wp2_with fail
  refine (HQ.out _).mono ?_
  rintro e w2 ⟨rfl, hb⟩
  have HY := hide (Both.below HY.out hb)
  have HB := hide (HB.out.trans (hb.mono HB.out.size))
  clear hb la a0 a1 a2 a3 a4 f0 f1 f2 f3 f4 lb b0 b1 b2 b3 b4 g0 g1 g2 g3 g4
  obtain ⟨⟨⟨la, a0, a1, a2, a3, a4⟩, f0, f1, f2, f3, f4⟩, ⟨⟨lb, b0, b1, b2, b3, b4⟩, g0, g1, g2, g3, g4⟩⟩ := HY.out
  go_wp2
  have hY := And.intro HY.out HB.out
  clear HY HB
  apply wp_cut0 (F := fun w' => Both w' w.heap.size (w.heap.size + 1) k n s b c k' n' s' b' c' ∧ Below w.heap.size w w')
  case hr =>
    replace hY := BB.drew hY
    refine wp_region_held_drew (S := fun w' => w'.cell? ⟨w.heap.size, 0, none⟩ = some (.int .i64 k) ∧ w'.cell? ⟨w.heap.size, 1, none⟩ = some (.int .i64 n) ∧ w'.cell? ⟨w.heap.size, 2, none⟩ = some (.string s) ∧ w'.cell? ⟨w.heap.size, 3, none⟩ = some (.bool b) ∧ w'.cell? ⟨w.heap.size, 4, none⟩ = some (.int .i64 c) ∧ w'.cell? ⟨(w.heap.size + 1), 0, none⟩ = some (.int .i64 k') ∧ w'.cell? ⟨(w.heap.size + 1), 1, none⟩ = some (.int .i64 n') ∧ w'.cell? ⟨(w.heap.size + 1), 2, none⟩ = some (.string s') ∧ w'.cell? ⟨(w.heap.size + 1), 3, none⟩ = some (.bool b') ∧ w'.cell? ⟨(w.heap.size + 1), 4, none⟩ = some (.int .i64 c') ∧ Below w.heap.size w w') (by kernel_rfl) ⟨hY.1.1.1.2.1, hY.1.1.1.2.2.1, hY.1.1.1.2.2.2.1, hY.1.1.1.2.2.2.2.1, hY.1.1.1.2.2.2.2.2, hY.1.2.1.2.1, hY.1.2.1.2.2.1, hY.1.2.1.2.2.2.1, hY.1.2.1.2.2.2.2.1, hY.1.2.1.2.2.2.2.2, hY.2⟩ (fun hHeld => ?_)
    (refine takeD (i := 0) (some 24) rfl rfl (by kernel_rfl) (by kernel_rfl) (by kernel_rfl) (fun _ _ _ h => h) (v := ?_) rfl ?_ (by assumption) ?_; rotate_left; (focus (intro w hSw; (try dsimp only at hSw); first | (go_simp; done) | (go_simp; with_reducible rfl))); try simp only [Act.put, List.setIfInBounds_toArray, List.set_cons_zero, List.set_cons_succ]); (refine takeD (i := 1) (some 25) rfl rfl (by kernel_rfl) (by kernel_rfl) (by kernel_rfl) (fun _ _ _ h => h) (v := ?_) rfl ?_ (by assumption) ?_; rotate_left; (focus (intro w hSw; (try dsimp only at hSw); first | (go_simp; done) | (go_simp; with_reducible rfl))); try simp only [Act.put, List.setIfInBounds_toArray, List.set_cons_zero, List.set_cons_succ]); (refine takeD (i := 2) (some 26) rfl rfl (by kernel_rfl) (by kernel_rfl) (by kernel_rfl) (fun _ _ _ h => h) (v := ?_) rfl ?_ (by assumption) ?_; rotate_left; (focus (intro w hSw; (try dsimp only at hSw); first | (go_simp; done) | (go_simp; with_reducible rfl))); try simp only [Act.put, List.setIfInBounds_toArray, List.set_cons_zero, List.set_cons_succ]); (refine takeD (i := 4) (some 28) rfl rfl (by kernel_rfl) (by kernel_rfl) (by kernel_rfl) (fun _ _ _ h => h) (v := ?_) rfl ?_ (by assumption) ?_; rotate_left; (focus (intro w hSw; (try dsimp only at hSw); first | (go_simp; done) | (go_simp; with_reducible rfl))); try simp only [Act.put, List.setIfInBounds_toArray, List.set_cons_zero, List.set_cons_succ]); (refine takeD (i := 5) (some 29) rfl rfl (by kernel_rfl) (by kernel_rfl) (by kernel_rfl) (fun _ _ _ h => h) (v := ?_) rfl ?_ (by assumption) ?_; rotate_left; (focus (intro w hSw; (try dsimp only at hSw); first | (go_simp; done) | (go_simp; with_reducible rfl))); try simp only [Act.put, List.setIfInBounds_toArray, List.set_cons_zero, List.set_cons_succ]); (refine takeD (i := 6) (some 30) rfl rfl (by kernel_rfl) (by kernel_rfl) (by kernel_rfl) (fun _ _ _ h => h) (v := ?_) rfl ?_ (by assumption) ?_; rotate_left; (focus (intro w hSw; (try dsimp only at hSw); first | (go_simp; done) | (go_simp; with_reducible rfl))); try simp only [Act.put, List.setIfInBounds_toArray, List.set_cons_zero, List.set_cons_succ]); (refine wpAnyH_ready (rs := [3]) (by kernel_rfl) (by simp) ?_; refine AllReadyH.cons (o := _) rfl (fun K hK => ?_) AllReadyH.nil; go_simp; (go_at_call 43; refine (HF.out _).mono ?_; rintro e w3 ⟨rfl, hb3⟩; have hY := BB.below hY hb3; obtain ⟨⟨⟨⟨la, a0, a1, a2, a3, a4⟩, f0, f1, f2, f3, f4⟩, ⟨⟨lb, b0, b1, b2, b3, b4⟩, g0, g1, g2, g3, g4⟩⟩, _⟩ := id hY); refine hK.out _ _ ⟨hY.1.1.1.2.1, hY.1.1.1.2.2.1, hY.1.1.1.2.2.2.1, hY.1.1.1.2.2.2.2.1, hY.1.1.1.2.2.2.2.2, hY.1.2.1.2.1, hY.1.2.1.2.2.1, hY.1.2.1.2.2.2.1, hY.1.2.1.2.2.2.2.1, hY.1.2.1.2.2.2.2.2, hY.2⟩ (fun hHeld => ?_); clear hK K; try simp only [Act.put, List.setIfInBounds_toArray, List.set_cons_zero, List.set_cons_succ]); (refine wpAnyH_ready (rs := [7]) (by kernel_rfl) (by simp) ?_; refine AllReadyH.cons (o := _) rfl (fun K hK => ?_) AllReadyH.nil; go_simp; (go_at_call 43; refine (HG.out _).mono ?_; rintro e w3 ⟨rfl, hb3⟩; have hY := BB.below hY hb3; obtain ⟨⟨⟨⟨la, a0, a1, a2, a3, a4⟩, f0, f1, f2, f3, f4⟩, ⟨⟨lb, b0, b1, b2, b3, b4⟩, g0, g1, g2, g3, g4⟩⟩, _⟩ := id hY); refine hK.out _ _ ⟨hY.1.1.1.2.1, hY.1.1.1.2.2.1, hY.1.1.1.2.2.2.1, hY.1.1.1.2.2.2.2.1, hY.1.1.1.2.2.2.2.2, hY.1.2.1.2.1, hY.1.2.1.2.2.1, hY.1.2.1.2.2.2.1, hY.1.2.1.2.2.2.2.1, hY.1.2.1.2.2.2.2.2, hY.2⟩ (fun hHeld => ?_); clear hK K; try simp only [Act.put, List.setIfInBounds_toArray, List.set_cons_zero, List.set_cons_succ]); (refine wpAnyH_ready (rs := [8]) (by kernel_rfl) (by simp) ?_; refine AllReadyH.cons (o := _) rfl (fun K hK => ?_) AllReadyH.nil; go_simp; (clear la a0 a1 a2 a3 a4 f0 f1 f2 f3 f4 lb b0 b1 b2 b3 b4 g0 g1 g2 g3 g4; have hY := BB.setP hY (by omega) (Nat.le_refl _) k n s b c; obtain ⟨⟨⟨⟨la, a0, a1, a2, a3, a4⟩, f0, f1, f2, f3, f4⟩, ⟨⟨lb, b0, b1, b2, b3, b4⟩, g0, g1, g2, g3, g4⟩⟩, _⟩ := id hY); refine hK.out _ _ ⟨hY.1.1.1.2.1, hY.1.1.1.2.2.1, hY.1.1.1.2.2.2.1, hY.1.1.1.2.2.2.2.1, hY.1.1.1.2.2.2.2.2, hY.1.2.1.2.1, hY.1.2.1.2.2.1, hY.1.2.1.2.2.2.1, hY.1.2.1.2.2.2.2.1, hY.1.2.1.2.2.2.2.2, hY.2⟩ (fun hHeld => ?_); clear hK K; try simp only [Act.put, List.setIfInBounds_toArray, List.set_cons_zero, List.set_cons_succ]); (refine wpAnyH_ready (rs := [9]) (by kernel_rfl) (by simp) ?_; refine AllReadyH.cons (o := _) rfl (fun K hK => ?_) AllReadyH.nil; go_simp; (clear la a0 a1 a2 a3 a4 f0 f1 f2 f3 f4 lb b0 b1 b2 b3 b4 g0 g1 g2 g3 g4; have hY := BB.setQ hY (by omega) (show w.heap.size ≤ w.heap.size + 1 by omega) k' n' s' b' c'); refine hK.out _ _ ⟨hY.1.1.1.2.1, hY.1.1.1.2.2.1, hY.1.1.1.2.2.2.1, hY.1.1.1.2.2.2.2.1, hY.1.1.1.2.2.2.2.2, hY.1.2.1.2.1, hY.1.2.1.2.2.1, hY.1.2.1.2.2.2.1, hY.1.2.1.2.2.2.2.1, hY.1.2.1.2.2.2.2.2, hY.2⟩ (fun hHeld => ?_); clear hK K; try simp only [Act.put, List.setIfInBounds_toArray, List.set_cons_zero, List.set_cons_succ]); refine wpAnyH_done (by kernel_rfl) ?_ _; exact ⟨rfl, hY⟩
  case hk =>
    clear la a0 a1 a2 a3 a4 f0 f1 f2 f3 f4 lb b0 b1 b2 b3 b4 g0 g1 g2 g3 g4 hY
    rintro w' ⟨⟨⟨⟨la, a0, a1, a2, a3, a4⟩, f0, f1, f2, f3, f4⟩, ⟨⟨lb, b0, b1, b2, b3, b4⟩, g0, g1, g2, g3, g4⟩⟩, hB⟩
    have HZ := hide hB
    clear hB
    by_cases e : k = k'
    case neg =>
      have t : (k != k') = true := by simpa using e
      have HX : Hid (ordV k n s b k' n' s' b' = signR (decide (k < k')) (decide (k' < k))) := by show _ = _; rw [show ordV k n s b k' n' s' b' = cmpI k k' by simp [ordV, e]]; exact cmpI_sign _ _
      clear e
      go_wp2_with (go_at_call 44; refine (sign_any _ _ _).mono ?_; rintro e w9 ⟨rfl, rfl⟩)
      go_ret2
      exact ⟨by rw [HX.out]; rfl, HZ.out⟩
    subst e
    by_cases c1 : k = 1
    · subst c1
      have HX : Hid (ordV 1 n s b 1 n' s' b' = signR (decide (n < n')) (decide (n' < n))) := by show _ = _; rw [show ordV 1 n s b 1 n' s' b' = cmpI n n' by simp [ordV]]; exact cmpI_sign _ _
      go_wp2_with (go_at_call 44; refine (sign_any _ _ _).mono ?_; rintro e w9 ⟨rfl, rfl⟩)
      go_ret2
      exact ⟨by rw [HX.out]; rfl, HZ.out⟩
    · by_cases c2 : k = 2
      · subst c2
        have hX : ordV 2 n s b 2 n' s' b' = cmpL (foldL s.data.toList) (foldL s'.data.toList) := by simp [ordV]
        have HD : Hid (∀ W : World, Calls Tryd.prog 27 #[.string s] W fun e w' => e = .returned (.string ⟨(foldL s.data.toList).toArray⟩) ∧ Below W.heap.size W w') := fun W => rfold_any s W hz
        have HG2 : Hid (∀ W : World, Calls Tryd.prog 27 #[.string s'] W fun e w' => e = .returned (.string ⟨(foldL s'.data.toList).toArray⟩) ∧ Below W.heap.size W w') := fun W => rfold_any s' W hz'
        have hT := list_ba (foldL s.data.toList)
        have hU := list_ba (foldL s'.data.toList)
        have hN : (⟨(foldL s.data.toList).toArray⟩ : ByteArray).size ≤ maxLen := by
          show (foldL s.data.toList).toArray.size ≤ maxLen
          rw [List.size_toArray, foldL_len]
          exact hz
        generalize (⟨(foldL s.data.toList).toArray⟩ : ByteArray) = T at *
        generalize (⟨(foldL s'.data.toList).toArray⟩ : ByteArray) = U at *
        have HM : Hid (∀ W : World, Calls Tryd.prog 45 #[.string T, .string U] W fun e w' => e = .returned (.int .i64 (cmpL T.toList U.toList)) ∧ Below W.heap.size W w') := fun W => bytes_any T U W hN
        rw [← hT, ← hU] at hX
        have HX := hide hX
        clear hT hU hN hX
        have HS := hide (And.intro a2 (And.intro b2 (And.intro la (And.intro lb HZ.out))))
        go_wp2
        go_region_held3 (fun w'' => w''.cell? ⟨w.heap.size, 2, none⟩ = some (.string s) ∧ w''.cell? ⟨w.heap.size + 1, 2, none⟩ = some (.string s') ∧ w.heap.size < w''.heap.size ∧ w.heap.size + 1 < w''.heap.size ∧ Below w.heap.size w w'') (first | exact HS.out | assumption | exact TwoS.drew (by assumption)) (first | (go_at_call_of 27 [Value.string s]; refine (HD.out _).mono ?_; rintro e w2 ⟨rfl, hb2⟩; have hs2 := TwoS.below (by assumption) hb2) | (go_at_call_of 27 [Value.string s']; refine (HG2.out _).mono ?_; rintro e w2 ⟨rfl, hb2⟩; have hs2 := TwoS.below (by assumption) hb2) | (go_at_call 45; refine (HM.out _).mono ?_; rintro e w2 ⟨rfl, hb2⟩; have hs2 := TwoS.below (by assumption) hb2))
        all_goals go_wp2
        all_goals go_ret2
        all_goals exact ⟨by rw [HX.out]; rfl, TwoS.out (by assumption)⟩
      · by_cases c3 : k = 3
        · subst c3
          cases b <;> cases b'
          all_goals
            go_wp2_with (go_at_call 44; refine (sign_any _ _ _).mono ?_; rintro e w9 ⟨rfl, rfl⟩)
            go_ret2
            exact ⟨rfl, HZ.out⟩
        · have HX : Hid (ordV k n s b k n' s' b' = 0) := by show _ = _; simp [ordV, c1, c2, c3]
          have t1 : (k == 1) = false := by simpa using c1
          have t2 : (k == 2) = false := by simpa using c2
          have t3 : (k == 3) = false := by simpa using c3
          clear c1 c2 c3
          go_wp2
          go_ret2
          exact ⟨by rw [HX.out]; rfl, HZ.out⟩
set_option linter.unusedSimpArgs false in
set_option maxRecDepth 100000 in
set_option maxHeartbeats 8000000 in
theorem rcomp_2 (k' n' : Int) (s' : ByteArray) (b' : Bool) (c' : Int) (w : World) (h5 : (k' == 4) = false) (hz' : s'.size ≤ maxLen) (HR : Hid (∀ W : World, Calls Tryd.prog 39 #[.agg #[.int .i64 0, .int .i64 0, .string ⟨#[]⟩, .bool false, .int .i64 0]] W fun e w' => e = .returned (.bool true) ∧ Below W.heap.size W w')) (HQ : Hid (∀ W : World, Calls Tryd.prog 39 #[.agg #[.int .i64 k', .int .i64 n', .string s', .bool b', .int .i64 c']] W fun e w' => e = .returned (.bool true) ∧ Below W.heap.size W w')) (HF : Hid (∀ W : World, Calls Tryd.prog 43 #[.agg #[.int .i64 0, .int .i64 0, .string ⟨#[]⟩, .bool false, .int .i64 0], .int .i64 k'] W fun e w' => e = .returned (.agg #[.int .i64 k', .int .i64 0, .string ⟨#[]⟩, .bool false, .int .i64 0]) ∧ Below W.heap.size W w')) (HG : Hid (∀ W : World, Calls Tryd.prog 43 #[.agg #[.int .i64 k', .int .i64 n', .string s', .bool b', .int .i64 c'], .int .i64 0] W fun e w' => e = .returned (.agg #[.int .i64 k', .int .i64 n', .string s', .bool b', .int .i64 c']) ∧ Below W.heap.size W w')) :
    Calls Tryd.prog 19 #[.agg #[.int .i64 0, .int .i64 0, .string ⟨#[]⟩, .bool false, .int .i64 0], .agg #[.int .i64 k', .int .i64 n', .string s', .bool b', .int .i64 c']] w fun e w' => e = .returned (.tuple #[.int .i64 (ordV k' 0 ⟨#[]⟩ false k' n' s' b'), .int .i64 0]) ∧ Below w.heap.size w w' := by
  have HY := hide (Both.new w 0 0 ⟨#[]⟩ false 0 k' n' s' b' c')
  have HB := hide (((Below.refl w.heap.size w).alloc (Nat.le_refl _) (.cells #[.int .i64 0, .int .i64 0, .string ⟨#[]⟩, .bool false, .int .i64 0] 25)).alloc (by simp) (.cells #[.int .i64 k', .int .i64 n', .string s', .bool b', .int .i64 c'] 25))
  go_enter Tryd.func19, Tryd.ntmps19
  go_wp2_with fail
  refine (HR.out _).mono ?_
  rintro e w1 ⟨rfl, hb⟩
  have HY := hide (Both.below HY.out hb)
  have HB := hide (HB.out.trans (hb.mono HB.out.size))
  clear hb
  obtain ⟨⟨⟨la, a0, a1, a2, a3, a4⟩, f0, f1, f2, f3, f4⟩, ⟨⟨lb, b0, b1, b2, b3, b4⟩, g0, g1, g2, g3, g4⟩⟩ := HY.out
  go_wp2_with fail
  refine (HQ.out _).mono ?_
  rintro e w2 ⟨rfl, hb⟩
  have HY := hide (Both.below HY.out hb)
  have HB := hide (HB.out.trans (hb.mono HB.out.size))
  clear hb la a0 a1 a2 a3 a4 f0 f1 f2 f3 f4 lb b0 b1 b2 b3 b4 g0 g1 g2 g3 g4
  obtain ⟨⟨⟨la, a0, a1, a2, a3, a4⟩, f0, f1, f2, f3, f4⟩, ⟨⟨lb, b0, b1, b2, b3, b4⟩, g0, g1, g2, g3, g4⟩⟩ := HY.out
  go_wp2
  have hY := And.intro HY.out HB.out
  clear HY HB
  apply wp_cut0 (F := fun w' => Both w' w.heap.size (w.heap.size + 1) k' 0 ⟨#[]⟩ false 0 k' n' s' b' c' ∧ Below w.heap.size w w')
  case hr =>
    replace hY := BB.drew hY
    refine wp_region_held_drew (S := fun w' => w'.cell? ⟨w.heap.size, 1, none⟩ = some (.int .i64 0) ∧ w'.cell? ⟨w.heap.size, 2, none⟩ = some (.string ⟨#[]⟩) ∧ w'.cell? ⟨w.heap.size, 3, none⟩ = some (.bool false) ∧ w'.cell? ⟨w.heap.size, 4, none⟩ = some (.int .i64 0) ∧ w'.cell? ⟨(w.heap.size + 1), 0, none⟩ = some (.int .i64 k') ∧ w'.cell? ⟨(w.heap.size + 1), 1, none⟩ = some (.int .i64 n') ∧ w'.cell? ⟨(w.heap.size + 1), 2, none⟩ = some (.string s') ∧ w'.cell? ⟨(w.heap.size + 1), 3, none⟩ = some (.bool b') ∧ w'.cell? ⟨(w.heap.size + 1), 4, none⟩ = some (.int .i64 c') ∧ Below w.heap.size w w') (by kernel_rfl) ⟨hY.1.1.1.2.2.1, hY.1.1.1.2.2.2.1, hY.1.1.1.2.2.2.2.1, hY.1.1.1.2.2.2.2.2, hY.1.2.1.2.1, hY.1.2.1.2.2.1, hY.1.2.1.2.2.2.1, hY.1.2.1.2.2.2.2.1, hY.1.2.1.2.2.2.2.2, hY.2⟩ (fun hHeld => ?_)
    (refine takeD (i := 1) (some 25) rfl rfl (by kernel_rfl) (by kernel_rfl) (by kernel_rfl) (fun _ _ _ h => h) (v := ?_) rfl ?_ (by assumption) ?_; rotate_left; (focus (intro w hSw; (try dsimp only at hSw); first | (go_simp; done) | (go_simp; with_reducible rfl))); try simp only [Act.put, List.setIfInBounds_toArray, List.set_cons_zero, List.set_cons_succ]); (refine takeD (i := 2) (some 26) rfl rfl (by kernel_rfl) (by kernel_rfl) (by kernel_rfl) (fun _ _ _ h => h) (v := ?_) rfl ?_ (by assumption) ?_; rotate_left; (focus (intro w hSw; (try dsimp only at hSw); first | (go_simp; done) | (go_simp; with_reducible rfl))); try simp only [Act.put, List.setIfInBounds_toArray, List.set_cons_zero, List.set_cons_succ]); (refine takeD (i := 4) (some 28) rfl rfl (by kernel_rfl) (by kernel_rfl) (by kernel_rfl) (fun _ _ _ h => h) (v := ?_) rfl ?_ (by assumption) ?_; rotate_left; (focus (intro w hSw; (try dsimp only at hSw); first | (go_simp; done) | (go_simp; with_reducible rfl))); try simp only [Act.put, List.setIfInBounds_toArray, List.set_cons_zero, List.set_cons_succ]); (refine takeD (i := 5) (some 29) rfl rfl (by kernel_rfl) (by kernel_rfl) (by kernel_rfl) (fun _ _ _ h => h) (v := ?_) rfl ?_ (by assumption) ?_; rotate_left; (focus (intro w hSw; (try dsimp only at hSw); first | (go_simp; done) | (go_simp; with_reducible rfl))); try simp only [Act.put, List.setIfInBounds_toArray, List.set_cons_zero, List.set_cons_succ]); refine wpAnyH_ready (rs := [0, 6]) (by kernel_rfl) (by simp) ?_; refine AllReadyH.cons (o := _) rfl (fun K hK => ?_) (AllReadyH.cons (o := _) rfl (fun K hK => ?_) AllReadyH.nil)
    · (go_simp; refine hK.out _ _ hHeld (fun hHeld => ?_); clear hK K; try simp only [Act.put, List.setIfInBounds_toArray, List.set_cons_zero, List.set_cons_succ])
      refine wpAnyH_ready (rs := [3, 6]) (by kernel_rfl) (by simp) ?_; refine AllReadyH.cons (o := _) rfl (fun K hK => ?_) (AllReadyH.cons (o := _) rfl (fun K hK => ?_) AllReadyH.nil)
      · (go_simp; (go_at_call 43; refine (HF.out _).mono ?_; rintro e w3 ⟨rfl, hb3⟩; have hY := BB.below hY hb3; obtain ⟨⟨⟨⟨la, a0, a1, a2, a3, a4⟩, f0, f1, f2, f3, f4⟩, ⟨⟨lb, b0, b1, b2, b3, b4⟩, g0, g1, g2, g3, g4⟩⟩, _⟩ := id hY); refine hK.out _ _ ⟨hY.1.1.1.2.2.1, hY.1.1.1.2.2.2.1, hY.1.1.1.2.2.2.2.1, hY.1.1.1.2.2.2.2.2, hY.1.2.1.2.1, hY.1.2.1.2.2.1, hY.1.2.1.2.2.2.1, hY.1.2.1.2.2.2.2.1, hY.1.2.1.2.2.2.2.2, hY.2⟩ (fun hHeld => ?_); clear hK K; try simp only [Act.put, List.setIfInBounds_toArray, List.set_cons_zero, List.set_cons_succ]); (refine wpAnyH_ready (rs := [6]) (by kernel_rfl) (by simp) ?_; refine AllReadyH.cons (o := _) rfl (fun K hK => ?_) AllReadyH.nil; go_simp; skip; refine hK.out _ _ hHeld (fun hHeld => ?_); clear hK K; try simp only [Act.put, List.setIfInBounds_toArray, List.set_cons_zero, List.set_cons_succ]); (refine wpAnyH_ready (rs := [7]) (by kernel_rfl) (by simp) ?_; refine AllReadyH.cons (o := _) rfl (fun K hK => ?_) AllReadyH.nil; go_simp; (go_at_call 43; refine (HG.out _).mono ?_; rintro e w3 ⟨rfl, hb3⟩; have hY := BB.below hY hb3; obtain ⟨⟨⟨⟨la, a0, a1, a2, a3, a4⟩, f0, f1, f2, f3, f4⟩, ⟨⟨lb, b0, b1, b2, b3, b4⟩, g0, g1, g2, g3, g4⟩⟩, _⟩ := id hY); refine hK.out _ _ ⟨hY.1.1.1.2.2.1, hY.1.1.1.2.2.2.1, hY.1.1.1.2.2.2.2.1, hY.1.1.1.2.2.2.2.2, hY.1.2.1.2.1, hY.1.2.1.2.2.1, hY.1.2.1.2.2.2.1, hY.1.2.1.2.2.2.2.1, hY.1.2.1.2.2.2.2.2, hY.2⟩ (fun hHeld => ?_); clear hK K; try simp only [Act.put, List.setIfInBounds_toArray, List.set_cons_zero, List.set_cons_succ]); (refine wpAnyH_ready (rs := [8]) (by kernel_rfl) (by simp) ?_; refine AllReadyH.cons (o := _) rfl (fun K hK => ?_) AllReadyH.nil; go_simp; (clear la a0 a1 a2 a3 a4 f0 f1 f2 f3 f4 lb b0 b1 b2 b3 b4 g0 g1 g2 g3 g4; have hY := BB.setP hY (by omega) (Nat.le_refl _) k' 0 ⟨#[]⟩ false 0; obtain ⟨⟨⟨⟨la, a0, a1, a2, a3, a4⟩, f0, f1, f2, f3, f4⟩, ⟨⟨lb, b0, b1, b2, b3, b4⟩, g0, g1, g2, g3, g4⟩⟩, _⟩ := id hY); refine hK.out _ _ ⟨hY.1.1.1.2.2.1, hY.1.1.1.2.2.2.1, hY.1.1.1.2.2.2.2.1, hY.1.1.1.2.2.2.2.2, hY.1.2.1.2.1, hY.1.2.1.2.2.1, hY.1.2.1.2.2.2.1, hY.1.2.1.2.2.2.2.1, hY.1.2.1.2.2.2.2.2, hY.2⟩ (fun hHeld => ?_); clear hK K; try simp only [Act.put, List.setIfInBounds_toArray, List.set_cons_zero, List.set_cons_succ]); (refine wpAnyH_ready (rs := [9]) (by kernel_rfl) (by simp) ?_; refine AllReadyH.cons (o := _) rfl (fun K hK => ?_) AllReadyH.nil; go_simp; (clear la a0 a1 a2 a3 a4 f0 f1 f2 f3 f4 lb b0 b1 b2 b3 b4 g0 g1 g2 g3 g4; have hY := BB.setQ hY (by omega) (show w.heap.size ≤ w.heap.size + 1 by omega) k' n' s' b' c'); refine hK.out _ _ ⟨hY.1.1.1.2.2.1, hY.1.1.1.2.2.2.1, hY.1.1.1.2.2.2.2.1, hY.1.1.1.2.2.2.2.2, hY.1.2.1.2.1, hY.1.2.1.2.2.1, hY.1.2.1.2.2.2.1, hY.1.2.1.2.2.2.2.1, hY.1.2.1.2.2.2.2.2, hY.2⟩ (fun hHeld => ?_); clear hK K; try simp only [Act.put, List.setIfInBounds_toArray, List.set_cons_zero, List.set_cons_succ]); refine wpAnyH_done (by kernel_rfl) ?_ _; exact ⟨rfl, hY⟩
      · (go_simp; refine hK.out _ _ hHeld (fun hHeld => ?_); clear hK K; try simp only [Act.put, List.setIfInBounds_toArray, List.set_cons_zero, List.set_cons_succ]); (refine wpAnyH_ready (rs := [3]) (by kernel_rfl) (by simp) ?_; refine AllReadyH.cons (o := _) rfl (fun K hK => ?_) AllReadyH.nil; go_simp; (go_at_call 43; refine (HF.out _).mono ?_; rintro e w3 ⟨rfl, hb3⟩; have hY := BB.below hY hb3; obtain ⟨⟨⟨⟨la, a0, a1, a2, a3, a4⟩, f0, f1, f2, f3, f4⟩, ⟨⟨lb, b0, b1, b2, b3, b4⟩, g0, g1, g2, g3, g4⟩⟩, _⟩ := id hY); refine hK.out _ _ ⟨hY.1.1.1.2.2.1, hY.1.1.1.2.2.2.1, hY.1.1.1.2.2.2.2.1, hY.1.1.1.2.2.2.2.2, hY.1.2.1.2.1, hY.1.2.1.2.2.1, hY.1.2.1.2.2.2.1, hY.1.2.1.2.2.2.2.1, hY.1.2.1.2.2.2.2.2, hY.2⟩ (fun hHeld => ?_); clear hK K; try simp only [Act.put, List.setIfInBounds_toArray, List.set_cons_zero, List.set_cons_succ]); (refine wpAnyH_ready (rs := [7]) (by kernel_rfl) (by simp) ?_; refine AllReadyH.cons (o := _) rfl (fun K hK => ?_) AllReadyH.nil; go_simp; (go_at_call 43; refine (HG.out _).mono ?_; rintro e w3 ⟨rfl, hb3⟩; have hY := BB.below hY hb3; obtain ⟨⟨⟨⟨la, a0, a1, a2, a3, a4⟩, f0, f1, f2, f3, f4⟩, ⟨⟨lb, b0, b1, b2, b3, b4⟩, g0, g1, g2, g3, g4⟩⟩, _⟩ := id hY); refine hK.out _ _ ⟨hY.1.1.1.2.2.1, hY.1.1.1.2.2.2.1, hY.1.1.1.2.2.2.2.1, hY.1.1.1.2.2.2.2.2, hY.1.2.1.2.1, hY.1.2.1.2.2.1, hY.1.2.1.2.2.2.1, hY.1.2.1.2.2.2.2.1, hY.1.2.1.2.2.2.2.2, hY.2⟩ (fun hHeld => ?_); clear hK K; try simp only [Act.put, List.setIfInBounds_toArray, List.set_cons_zero, List.set_cons_succ]); (refine wpAnyH_ready (rs := [8]) (by kernel_rfl) (by simp) ?_; refine AllReadyH.cons (o := _) rfl (fun K hK => ?_) AllReadyH.nil; go_simp; (clear la a0 a1 a2 a3 a4 f0 f1 f2 f3 f4 lb b0 b1 b2 b3 b4 g0 g1 g2 g3 g4; have hY := BB.setP hY (by omega) (Nat.le_refl _) k' 0 ⟨#[]⟩ false 0; obtain ⟨⟨⟨⟨la, a0, a1, a2, a3, a4⟩, f0, f1, f2, f3, f4⟩, ⟨⟨lb, b0, b1, b2, b3, b4⟩, g0, g1, g2, g3, g4⟩⟩, _⟩ := id hY); refine hK.out _ _ ⟨hY.1.1.1.2.2.1, hY.1.1.1.2.2.2.1, hY.1.1.1.2.2.2.2.1, hY.1.1.1.2.2.2.2.2, hY.1.2.1.2.1, hY.1.2.1.2.2.1, hY.1.2.1.2.2.2.1, hY.1.2.1.2.2.2.2.1, hY.1.2.1.2.2.2.2.2, hY.2⟩ (fun hHeld => ?_); clear hK K; try simp only [Act.put, List.setIfInBounds_toArray, List.set_cons_zero, List.set_cons_succ]); (refine wpAnyH_ready (rs := [9]) (by kernel_rfl) (by simp) ?_; refine AllReadyH.cons (o := _) rfl (fun K hK => ?_) AllReadyH.nil; go_simp; (clear la a0 a1 a2 a3 a4 f0 f1 f2 f3 f4 lb b0 b1 b2 b3 b4 g0 g1 g2 g3 g4; have hY := BB.setQ hY (by omega) (show w.heap.size ≤ w.heap.size + 1 by omega) k' n' s' b' c'); refine hK.out _ _ ⟨hY.1.1.1.2.2.1, hY.1.1.1.2.2.2.1, hY.1.1.1.2.2.2.2.1, hY.1.1.1.2.2.2.2.2, hY.1.2.1.2.1, hY.1.2.1.2.2.1, hY.1.2.1.2.2.2.1, hY.1.2.1.2.2.2.2.1, hY.1.2.1.2.2.2.2.2, hY.2⟩ (fun hHeld => ?_); clear hK K; try simp only [Act.put, List.setIfInBounds_toArray, List.set_cons_zero, List.set_cons_succ]); refine wpAnyH_done (by kernel_rfl) ?_ _; exact ⟨rfl, hY⟩
    · (go_simp; refine hK.out _ _ hHeld (fun hHeld => ?_); clear hK K; try simp only [Act.put, List.setIfInBounds_toArray, List.set_cons_zero, List.set_cons_succ]); (refine wpAnyH_ready (rs := [0]) (by kernel_rfl) (by simp) ?_; refine AllReadyH.cons (o := _) rfl (fun K hK => ?_) AllReadyH.nil; go_simp; skip; refine hK.out _ _ hHeld (fun hHeld => ?_); clear hK K; try simp only [Act.put, List.setIfInBounds_toArray, List.set_cons_zero, List.set_cons_succ]); (refine wpAnyH_ready (rs := [3]) (by kernel_rfl) (by simp) ?_; refine AllReadyH.cons (o := _) rfl (fun K hK => ?_) AllReadyH.nil; go_simp; (go_at_call 43; refine (HF.out _).mono ?_; rintro e w3 ⟨rfl, hb3⟩; have hY := BB.below hY hb3; obtain ⟨⟨⟨⟨la, a0, a1, a2, a3, a4⟩, f0, f1, f2, f3, f4⟩, ⟨⟨lb, b0, b1, b2, b3, b4⟩, g0, g1, g2, g3, g4⟩⟩, _⟩ := id hY); refine hK.out _ _ ⟨hY.1.1.1.2.2.1, hY.1.1.1.2.2.2.1, hY.1.1.1.2.2.2.2.1, hY.1.1.1.2.2.2.2.2, hY.1.2.1.2.1, hY.1.2.1.2.2.1, hY.1.2.1.2.2.2.1, hY.1.2.1.2.2.2.2.1, hY.1.2.1.2.2.2.2.2, hY.2⟩ (fun hHeld => ?_); clear hK K; try simp only [Act.put, List.setIfInBounds_toArray, List.set_cons_zero, List.set_cons_succ]); (refine wpAnyH_ready (rs := [7]) (by kernel_rfl) (by simp) ?_; refine AllReadyH.cons (o := _) rfl (fun K hK => ?_) AllReadyH.nil; go_simp; (go_at_call 43; refine (HG.out _).mono ?_; rintro e w3 ⟨rfl, hb3⟩; have hY := BB.below hY hb3; obtain ⟨⟨⟨⟨la, a0, a1, a2, a3, a4⟩, f0, f1, f2, f3, f4⟩, ⟨⟨lb, b0, b1, b2, b3, b4⟩, g0, g1, g2, g3, g4⟩⟩, _⟩ := id hY); refine hK.out _ _ ⟨hY.1.1.1.2.2.1, hY.1.1.1.2.2.2.1, hY.1.1.1.2.2.2.2.1, hY.1.1.1.2.2.2.2.2, hY.1.2.1.2.1, hY.1.2.1.2.2.1, hY.1.2.1.2.2.2.1, hY.1.2.1.2.2.2.2.1, hY.1.2.1.2.2.2.2.2, hY.2⟩ (fun hHeld => ?_); clear hK K; try simp only [Act.put, List.setIfInBounds_toArray, List.set_cons_zero, List.set_cons_succ]); (refine wpAnyH_ready (rs := [8]) (by kernel_rfl) (by simp) ?_; refine AllReadyH.cons (o := _) rfl (fun K hK => ?_) AllReadyH.nil; go_simp; (clear la a0 a1 a2 a3 a4 f0 f1 f2 f3 f4 lb b0 b1 b2 b3 b4 g0 g1 g2 g3 g4; have hY := BB.setP hY (by omega) (Nat.le_refl _) k' 0 ⟨#[]⟩ false 0; obtain ⟨⟨⟨⟨la, a0, a1, a2, a3, a4⟩, f0, f1, f2, f3, f4⟩, ⟨⟨lb, b0, b1, b2, b3, b4⟩, g0, g1, g2, g3, g4⟩⟩, _⟩ := id hY); refine hK.out _ _ ⟨hY.1.1.1.2.2.1, hY.1.1.1.2.2.2.1, hY.1.1.1.2.2.2.2.1, hY.1.1.1.2.2.2.2.2, hY.1.2.1.2.1, hY.1.2.1.2.2.1, hY.1.2.1.2.2.2.1, hY.1.2.1.2.2.2.2.1, hY.1.2.1.2.2.2.2.2, hY.2⟩ (fun hHeld => ?_); clear hK K; try simp only [Act.put, List.setIfInBounds_toArray, List.set_cons_zero, List.set_cons_succ]); (refine wpAnyH_ready (rs := [9]) (by kernel_rfl) (by simp) ?_; refine AllReadyH.cons (o := _) rfl (fun K hK => ?_) AllReadyH.nil; go_simp; (clear la a0 a1 a2 a3 a4 f0 f1 f2 f3 f4 lb b0 b1 b2 b3 b4 g0 g1 g2 g3 g4; have hY := BB.setQ hY (by omega) (show w.heap.size ≤ w.heap.size + 1 by omega) k' n' s' b' c'); refine hK.out _ _ ⟨hY.1.1.1.2.2.1, hY.1.1.1.2.2.2.1, hY.1.1.1.2.2.2.2.1, hY.1.1.1.2.2.2.2.2, hY.1.2.1.2.1, hY.1.2.1.2.2.1, hY.1.2.1.2.2.2.1, hY.1.2.1.2.2.2.2.1, hY.1.2.1.2.2.2.2.2, hY.2⟩ (fun hHeld => ?_); clear hK K; try simp only [Act.put, List.setIfInBounds_toArray, List.set_cons_zero, List.set_cons_succ]); refine wpAnyH_done (by kernel_rfl) ?_ _; exact ⟨rfl, hY⟩
  case hk =>
    clear la a0 a1 a2 a3 a4 f0 f1 f2 f3 f4 lb b0 b1 b2 b3 b4 g0 g1 g2 g3 g4 hY
    rintro w' ⟨⟨⟨⟨la, a0, a1, a2, a3, a4⟩, f0, f1, f2, f3, f4⟩, ⟨⟨lb, b0, b1, b2, b3, b4⟩, g0, g1, g2, g3, g4⟩⟩, hB⟩
    have HZ := hide hB
    clear hB
    by_cases c1 : k' = 1
    · subst c1
      have HX : Hid (ordV 1 0 ⟨#[]⟩ false 1 n' s' b' = signR (decide (0 < n')) (decide (n' < 0))) := by show _ = _; rw [show ordV 1 0 ⟨#[]⟩ false 1 n' s' b' = cmpI 0 n' by simp [ordV]]; exact cmpI_sign _ _
      go_wp2_with (go_at_call 44; refine (sign_any _ _ _).mono ?_; rintro e w9 ⟨rfl, rfl⟩)
      go_ret2
      exact ⟨by rw [HX.out]; rfl, HZ.out⟩
    · by_cases c2 : k' = 2
      · subst c2
        have hX : ordV 2 0 ⟨#[]⟩ false 2 n' s' b' = cmpL (foldL (⟨#[]⟩ : ByteArray).data.toList) (foldL s'.data.toList) := by simp [ordV]
        have HD : Hid (∀ W : World, Calls Tryd.prog 27 #[.string ⟨#[]⟩] W fun e w' => e = .returned (.string ⟨(foldL (⟨#[]⟩ : ByteArray).data.toList).toArray⟩) ∧ Below W.heap.size W w') := fun W => rfold_any ⟨#[]⟩ W (by decide)
        have HG2 : Hid (∀ W : World, Calls Tryd.prog 27 #[.string s'] W fun e w' => e = .returned (.string ⟨(foldL s'.data.toList).toArray⟩) ∧ Below W.heap.size W w') := fun W => rfold_any s' W hz'
        have hT := list_ba (foldL (⟨#[]⟩ : ByteArray).data.toList)
        have hU := list_ba (foldL s'.data.toList)
        have hN : (⟨(foldL (⟨#[]⟩ : ByteArray).data.toList).toArray⟩ : ByteArray).size ≤ maxLen := by
          show (foldL (⟨#[]⟩ : ByteArray).data.toList).toArray.size ≤ maxLen
          rw [List.size_toArray, foldL_len]
          exact by decide
        generalize (⟨(foldL (⟨#[]⟩ : ByteArray).data.toList).toArray⟩ : ByteArray) = T at *
        generalize (⟨(foldL s'.data.toList).toArray⟩ : ByteArray) = U at *
        have HM : Hid (∀ W : World, Calls Tryd.prog 45 #[.string T, .string U] W fun e w' => e = .returned (.int .i64 (cmpL T.toList U.toList)) ∧ Below W.heap.size W w') := fun W => bytes_any T U W hN
        rw [← hT, ← hU] at hX
        have HX := hide hX
        clear hT hU hN hX
        have HS := hide (And.intro a2 (And.intro b2 (And.intro la (And.intro lb HZ.out))))
        go_wp2
        go_region_held3 (fun w'' => w''.cell? ⟨w.heap.size, 2, none⟩ = some (.string ⟨#[]⟩) ∧ w''.cell? ⟨w.heap.size + 1, 2, none⟩ = some (.string s') ∧ w.heap.size < w''.heap.size ∧ w.heap.size + 1 < w''.heap.size ∧ Below w.heap.size w w'') (first | exact HS.out | assumption | exact TwoS.drew (by assumption)) (first | (go_at_call_of 27 [Value.string ⟨#[]⟩]; refine (HD.out _).mono ?_; rintro e w2 ⟨rfl, hb2⟩; have hs2 := TwoS.below (by assumption) hb2) | (go_at_call_of 27 [Value.string s']; refine (HG2.out _).mono ?_; rintro e w2 ⟨rfl, hb2⟩; have hs2 := TwoS.below (by assumption) hb2) | (go_at_call 45; refine (HM.out _).mono ?_; rintro e w2 ⟨rfl, hb2⟩; have hs2 := TwoS.below (by assumption) hb2))
        all_goals go_wp2
        all_goals go_ret2
        all_goals exact ⟨by rw [HX.out]; rfl, TwoS.out (by assumption)⟩
      · by_cases c3 : k' = 3
        · subst c3
          cases b'
          all_goals
            go_wp2_with (go_at_call 44; refine (sign_any _ _ _).mono ?_; rintro e w9 ⟨rfl, rfl⟩)
            go_ret2
            exact ⟨rfl, HZ.out⟩
        · have HX : Hid (ordV k' 0 ⟨#[]⟩ false k' n' s' b' = 0) := by show _ = _; simp [ordV, c1, c2, c3]
          have t1 : (k' == 1) = false := by simpa using c1
          have t2 : (k' == 2) = false := by simpa using c2
          have t3 : (k' == 3) = false := by simpa using c3
          clear c1 c2 c3
          go_wp2
          go_ret2
          exact ⟨by rw [HX.out]; rfl, HZ.out⟩
set_option linter.unusedSimpArgs false in
set_option maxRecDepth 100000 in
set_option maxHeartbeats 8000000 in
theorem rcomp_3 (k n : Int) (s : ByteArray) (b : Bool) (c : Int) (w : World) (h4 : (k == 4) = false) (hz : s.size ≤ maxLen) (HR : Hid (∀ W : World, Calls Tryd.prog 39 #[.agg #[.int .i64 k, .int .i64 n, .string s, .bool b, .int .i64 c]] W fun e w' => e = .returned (.bool true) ∧ Below W.heap.size W w')) (HQ : Hid (∀ W : World, Calls Tryd.prog 39 #[.agg #[.int .i64 0, .int .i64 0, .string ⟨#[]⟩, .bool false, .int .i64 0]] W fun e w' => e = .returned (.bool true) ∧ Below W.heap.size W w')) (HF : Hid (∀ W : World, Calls Tryd.prog 43 #[.agg #[.int .i64 k, .int .i64 n, .string s, .bool b, .int .i64 c], .int .i64 0] W fun e w' => e = .returned (.agg #[.int .i64 k, .int .i64 n, .string s, .bool b, .int .i64 c]) ∧ Below W.heap.size W w')) (HG : Hid (∀ W : World, Calls Tryd.prog 43 #[.agg #[.int .i64 0, .int .i64 0, .string ⟨#[]⟩, .bool false, .int .i64 0], .int .i64 k] W fun e w' => e = .returned (.agg #[.int .i64 k, .int .i64 0, .string ⟨#[]⟩, .bool false, .int .i64 0]) ∧ Below W.heap.size W w')) :
    Calls Tryd.prog 19 #[.agg #[.int .i64 k, .int .i64 n, .string s, .bool b, .int .i64 c], .agg #[.int .i64 0, .int .i64 0, .string ⟨#[]⟩, .bool false, .int .i64 0]] w fun e w' => e = .returned (.tuple #[.int .i64 (ordV k n s b k 0 ⟨#[]⟩ false), .int .i64 0]) ∧ Below w.heap.size w w' := by
  have HY := hide (Both.new w k n s b c 0 0 ⟨#[]⟩ false 0)
  have HB := hide (((Below.refl w.heap.size w).alloc (Nat.le_refl _) (.cells #[.int .i64 k, .int .i64 n, .string s, .bool b, .int .i64 c] 25)).alloc (by simp) (.cells #[.int .i64 0, .int .i64 0, .string ⟨#[]⟩, .bool false, .int .i64 0] 25))
  go_enter Tryd.func19, Tryd.ntmps19
  go_wp2_with fail
  refine (HR.out _).mono ?_
  rintro e w1 ⟨rfl, hb⟩
  have HY := hide (Both.below HY.out hb)
  have HB := hide (HB.out.trans (hb.mono HB.out.size))
  clear hb
  obtain ⟨⟨⟨la, a0, a1, a2, a3, a4⟩, f0, f1, f2, f3, f4⟩, ⟨⟨lb, b0, b1, b2, b3, b4⟩, g0, g1, g2, g3, g4⟩⟩ := HY.out
  go_wp2_with fail
  refine (HQ.out _).mono ?_
  rintro e w2 ⟨rfl, hb⟩
  have HY := hide (Both.below HY.out hb)
  have HB := hide (HB.out.trans (hb.mono HB.out.size))
  clear hb la a0 a1 a2 a3 a4 f0 f1 f2 f3 f4 lb b0 b1 b2 b3 b4 g0 g1 g2 g3 g4
  obtain ⟨⟨⟨la, a0, a1, a2, a3, a4⟩, f0, f1, f2, f3, f4⟩, ⟨⟨lb, b0, b1, b2, b3, b4⟩, g0, g1, g2, g3, g4⟩⟩ := HY.out
  go_wp2
  have hY := And.intro HY.out HB.out
  clear HY HB
  apply wp_cut0 (F := fun w' => Both w' w.heap.size (w.heap.size + 1) k n s b c k 0 ⟨#[]⟩ false 0 ∧ Below w.heap.size w w')
  case hr =>
    replace hY := BB.drew hY
    refine wp_region_held_drew (S := fun w' => w'.cell? ⟨w.heap.size, 0, none⟩ = some (.int .i64 k) ∧ w'.cell? ⟨w.heap.size, 1, none⟩ = some (.int .i64 n) ∧ w'.cell? ⟨w.heap.size, 2, none⟩ = some (.string s) ∧ w'.cell? ⟨w.heap.size, 3, none⟩ = some (.bool b) ∧ w'.cell? ⟨w.heap.size, 4, none⟩ = some (.int .i64 c) ∧ w'.cell? ⟨(w.heap.size + 1), 1, none⟩ = some (.int .i64 0) ∧ w'.cell? ⟨(w.heap.size + 1), 2, none⟩ = some (.string ⟨#[]⟩) ∧ w'.cell? ⟨(w.heap.size + 1), 3, none⟩ = some (.bool false) ∧ w'.cell? ⟨(w.heap.size + 1), 4, none⟩ = some (.int .i64 0) ∧ Below w.heap.size w w') (by kernel_rfl) ⟨hY.1.1.1.2.1, hY.1.1.1.2.2.1, hY.1.1.1.2.2.2.1, hY.1.1.1.2.2.2.2.1, hY.1.1.1.2.2.2.2.2, hY.1.2.1.2.2.1, hY.1.2.1.2.2.2.1, hY.1.2.1.2.2.2.2.1, hY.1.2.1.2.2.2.2.2, hY.2⟩ (fun hHeld => ?_)
    (refine takeD (i := 0) (some 24) rfl rfl (by kernel_rfl) (by kernel_rfl) (by kernel_rfl) (fun _ _ _ h => h) (v := ?_) rfl ?_ (by assumption) ?_; rotate_left; (focus (intro w hSw; (try dsimp only at hSw); first | (go_simp; done) | (go_simp; with_reducible rfl))); try simp only [Act.put, List.setIfInBounds_toArray, List.set_cons_zero, List.set_cons_succ]); (refine takeD (i := 1) (some 25) rfl rfl (by kernel_rfl) (by kernel_rfl) (by kernel_rfl) (fun _ _ _ h => h) (v := ?_) rfl ?_ (by assumption) ?_; rotate_left; (focus (intro w hSw; (try dsimp only at hSw); first | (go_simp; done) | (go_simp; with_reducible rfl))); try simp only [Act.put, List.setIfInBounds_toArray, List.set_cons_zero, List.set_cons_succ]); (refine takeD (i := 5) (some 29) rfl rfl (by kernel_rfl) (by kernel_rfl) (by kernel_rfl) (fun _ _ _ h => h) (v := ?_) rfl ?_ (by assumption) ?_; rotate_left; (focus (intro w hSw; (try dsimp only at hSw); first | (go_simp; done) | (go_simp; with_reducible rfl))); try simp only [Act.put, List.setIfInBounds_toArray, List.set_cons_zero, List.set_cons_succ]); (refine takeD (i := 6) (some 30) rfl rfl (by kernel_rfl) (by kernel_rfl) (by kernel_rfl) (fun _ _ _ h => h) (v := ?_) rfl ?_ (by assumption) ?_; rotate_left; (focus (intro w hSw; (try dsimp only at hSw); first | (go_simp; done) | (go_simp; with_reducible rfl))); try simp only [Act.put, List.setIfInBounds_toArray, List.set_cons_zero, List.set_cons_succ]); refine wpAnyH_ready (rs := [2, 4]) (by kernel_rfl) (by simp) ?_; refine AllReadyH.cons (o := _) rfl (fun K hK => ?_) (AllReadyH.cons (o := _) rfl (fun K hK => ?_) AllReadyH.nil)
    · (go_simp; refine hK.out _ _ hHeld (fun hHeld => ?_); clear hK K; try simp only [Act.put, List.setIfInBounds_toArray, List.set_cons_zero, List.set_cons_succ])
      refine wpAnyH_ready (rs := [3, 4]) (by kernel_rfl) (by simp) ?_; refine AllReadyH.cons (o := _) rfl (fun K hK => ?_) (AllReadyH.cons (o := _) rfl (fun K hK => ?_) AllReadyH.nil)
      · (go_simp; (go_at_call 43; refine (HF.out _).mono ?_; rintro e w3 ⟨rfl, hb3⟩; have hY := BB.below hY hb3; obtain ⟨⟨⟨⟨la, a0, a1, a2, a3, a4⟩, f0, f1, f2, f3, f4⟩, ⟨⟨lb, b0, b1, b2, b3, b4⟩, g0, g1, g2, g3, g4⟩⟩, _⟩ := id hY); refine hK.out _ _ ⟨hY.1.1.1.2.1, hY.1.1.1.2.2.1, hY.1.1.1.2.2.2.1, hY.1.1.1.2.2.2.2.1, hY.1.1.1.2.2.2.2.2, hY.1.2.1.2.2.1, hY.1.2.1.2.2.2.1, hY.1.2.1.2.2.2.2.1, hY.1.2.1.2.2.2.2.2, hY.2⟩ (fun hHeld => ?_); clear hK K; try simp only [Act.put, List.setIfInBounds_toArray, List.set_cons_zero, List.set_cons_succ]); (refine wpAnyH_ready (rs := [4]) (by kernel_rfl) (by simp) ?_; refine AllReadyH.cons (o := _) rfl (fun K hK => ?_) AllReadyH.nil; go_simp; skip; refine hK.out _ _ hHeld (fun hHeld => ?_); clear hK K; try simp only [Act.put, List.setIfInBounds_toArray, List.set_cons_zero, List.set_cons_succ]); (refine wpAnyH_ready (rs := [7]) (by kernel_rfl) (by simp) ?_; refine AllReadyH.cons (o := _) rfl (fun K hK => ?_) AllReadyH.nil; go_simp; (go_at_call 43; refine (HG.out _).mono ?_; rintro e w3 ⟨rfl, hb3⟩; have hY := BB.below hY hb3; obtain ⟨⟨⟨⟨la, a0, a1, a2, a3, a4⟩, f0, f1, f2, f3, f4⟩, ⟨⟨lb, b0, b1, b2, b3, b4⟩, g0, g1, g2, g3, g4⟩⟩, _⟩ := id hY); refine hK.out _ _ ⟨hY.1.1.1.2.1, hY.1.1.1.2.2.1, hY.1.1.1.2.2.2.1, hY.1.1.1.2.2.2.2.1, hY.1.1.1.2.2.2.2.2, hY.1.2.1.2.2.1, hY.1.2.1.2.2.2.1, hY.1.2.1.2.2.2.2.1, hY.1.2.1.2.2.2.2.2, hY.2⟩ (fun hHeld => ?_); clear hK K; try simp only [Act.put, List.setIfInBounds_toArray, List.set_cons_zero, List.set_cons_succ]); (refine wpAnyH_ready (rs := [8]) (by kernel_rfl) (by simp) ?_; refine AllReadyH.cons (o := _) rfl (fun K hK => ?_) AllReadyH.nil; go_simp; (clear la a0 a1 a2 a3 a4 f0 f1 f2 f3 f4 lb b0 b1 b2 b3 b4 g0 g1 g2 g3 g4; have hY := BB.setP hY (by omega) (Nat.le_refl _) k n s b c; obtain ⟨⟨⟨⟨la, a0, a1, a2, a3, a4⟩, f0, f1, f2, f3, f4⟩, ⟨⟨lb, b0, b1, b2, b3, b4⟩, g0, g1, g2, g3, g4⟩⟩, _⟩ := id hY); refine hK.out _ _ ⟨hY.1.1.1.2.1, hY.1.1.1.2.2.1, hY.1.1.1.2.2.2.1, hY.1.1.1.2.2.2.2.1, hY.1.1.1.2.2.2.2.2, hY.1.2.1.2.2.1, hY.1.2.1.2.2.2.1, hY.1.2.1.2.2.2.2.1, hY.1.2.1.2.2.2.2.2, hY.2⟩ (fun hHeld => ?_); clear hK K; try simp only [Act.put, List.setIfInBounds_toArray, List.set_cons_zero, List.set_cons_succ]); (refine wpAnyH_ready (rs := [9]) (by kernel_rfl) (by simp) ?_; refine AllReadyH.cons (o := _) rfl (fun K hK => ?_) AllReadyH.nil; go_simp; (clear la a0 a1 a2 a3 a4 f0 f1 f2 f3 f4 lb b0 b1 b2 b3 b4 g0 g1 g2 g3 g4; have hY := BB.setQ hY (by omega) (show w.heap.size ≤ w.heap.size + 1 by omega) k 0 ⟨#[]⟩ false 0); refine hK.out _ _ ⟨hY.1.1.1.2.1, hY.1.1.1.2.2.1, hY.1.1.1.2.2.2.1, hY.1.1.1.2.2.2.2.1, hY.1.1.1.2.2.2.2.2, hY.1.2.1.2.2.1, hY.1.2.1.2.2.2.1, hY.1.2.1.2.2.2.2.1, hY.1.2.1.2.2.2.2.2, hY.2⟩ (fun hHeld => ?_); clear hK K; try simp only [Act.put, List.setIfInBounds_toArray, List.set_cons_zero, List.set_cons_succ]); refine wpAnyH_done (by kernel_rfl) ?_ _; exact ⟨rfl, hY⟩
      · (go_simp; refine hK.out _ _ hHeld (fun hHeld => ?_); clear hK K; try simp only [Act.put, List.setIfInBounds_toArray, List.set_cons_zero, List.set_cons_succ]); (refine wpAnyH_ready (rs := [3]) (by kernel_rfl) (by simp) ?_; refine AllReadyH.cons (o := _) rfl (fun K hK => ?_) AllReadyH.nil; go_simp; (go_at_call 43; refine (HF.out _).mono ?_; rintro e w3 ⟨rfl, hb3⟩; have hY := BB.below hY hb3; obtain ⟨⟨⟨⟨la, a0, a1, a2, a3, a4⟩, f0, f1, f2, f3, f4⟩, ⟨⟨lb, b0, b1, b2, b3, b4⟩, g0, g1, g2, g3, g4⟩⟩, _⟩ := id hY); refine hK.out _ _ ⟨hY.1.1.1.2.1, hY.1.1.1.2.2.1, hY.1.1.1.2.2.2.1, hY.1.1.1.2.2.2.2.1, hY.1.1.1.2.2.2.2.2, hY.1.2.1.2.2.1, hY.1.2.1.2.2.2.1, hY.1.2.1.2.2.2.2.1, hY.1.2.1.2.2.2.2.2, hY.2⟩ (fun hHeld => ?_); clear hK K; try simp only [Act.put, List.setIfInBounds_toArray, List.set_cons_zero, List.set_cons_succ]); (refine wpAnyH_ready (rs := [7]) (by kernel_rfl) (by simp) ?_; refine AllReadyH.cons (o := _) rfl (fun K hK => ?_) AllReadyH.nil; go_simp; (go_at_call 43; refine (HG.out _).mono ?_; rintro e w3 ⟨rfl, hb3⟩; have hY := BB.below hY hb3; obtain ⟨⟨⟨⟨la, a0, a1, a2, a3, a4⟩, f0, f1, f2, f3, f4⟩, ⟨⟨lb, b0, b1, b2, b3, b4⟩, g0, g1, g2, g3, g4⟩⟩, _⟩ := id hY); refine hK.out _ _ ⟨hY.1.1.1.2.1, hY.1.1.1.2.2.1, hY.1.1.1.2.2.2.1, hY.1.1.1.2.2.2.2.1, hY.1.1.1.2.2.2.2.2, hY.1.2.1.2.2.1, hY.1.2.1.2.2.2.1, hY.1.2.1.2.2.2.2.1, hY.1.2.1.2.2.2.2.2, hY.2⟩ (fun hHeld => ?_); clear hK K; try simp only [Act.put, List.setIfInBounds_toArray, List.set_cons_zero, List.set_cons_succ]); (refine wpAnyH_ready (rs := [8]) (by kernel_rfl) (by simp) ?_; refine AllReadyH.cons (o := _) rfl (fun K hK => ?_) AllReadyH.nil; go_simp; (clear la a0 a1 a2 a3 a4 f0 f1 f2 f3 f4 lb b0 b1 b2 b3 b4 g0 g1 g2 g3 g4; have hY := BB.setP hY (by omega) (Nat.le_refl _) k n s b c; obtain ⟨⟨⟨⟨la, a0, a1, a2, a3, a4⟩, f0, f1, f2, f3, f4⟩, ⟨⟨lb, b0, b1, b2, b3, b4⟩, g0, g1, g2, g3, g4⟩⟩, _⟩ := id hY); refine hK.out _ _ ⟨hY.1.1.1.2.1, hY.1.1.1.2.2.1, hY.1.1.1.2.2.2.1, hY.1.1.1.2.2.2.2.1, hY.1.1.1.2.2.2.2.2, hY.1.2.1.2.2.1, hY.1.2.1.2.2.2.1, hY.1.2.1.2.2.2.2.1, hY.1.2.1.2.2.2.2.2, hY.2⟩ (fun hHeld => ?_); clear hK K; try simp only [Act.put, List.setIfInBounds_toArray, List.set_cons_zero, List.set_cons_succ]); (refine wpAnyH_ready (rs := [9]) (by kernel_rfl) (by simp) ?_; refine AllReadyH.cons (o := _) rfl (fun K hK => ?_) AllReadyH.nil; go_simp; (clear la a0 a1 a2 a3 a4 f0 f1 f2 f3 f4 lb b0 b1 b2 b3 b4 g0 g1 g2 g3 g4; have hY := BB.setQ hY (by omega) (show w.heap.size ≤ w.heap.size + 1 by omega) k 0 ⟨#[]⟩ false 0); refine hK.out _ _ ⟨hY.1.1.1.2.1, hY.1.1.1.2.2.1, hY.1.1.1.2.2.2.1, hY.1.1.1.2.2.2.2.1, hY.1.1.1.2.2.2.2.2, hY.1.2.1.2.2.1, hY.1.2.1.2.2.2.1, hY.1.2.1.2.2.2.2.1, hY.1.2.1.2.2.2.2.2, hY.2⟩ (fun hHeld => ?_); clear hK K; try simp only [Act.put, List.setIfInBounds_toArray, List.set_cons_zero, List.set_cons_succ]); refine wpAnyH_done (by kernel_rfl) ?_ _; exact ⟨rfl, hY⟩
    · (go_simp; refine hK.out _ _ hHeld (fun hHeld => ?_); clear hK K; try simp only [Act.put, List.setIfInBounds_toArray, List.set_cons_zero, List.set_cons_succ]); (refine wpAnyH_ready (rs := [2]) (by kernel_rfl) (by simp) ?_; refine AllReadyH.cons (o := _) rfl (fun K hK => ?_) AllReadyH.nil; go_simp; skip; refine hK.out _ _ hHeld (fun hHeld => ?_); clear hK K; try simp only [Act.put, List.setIfInBounds_toArray, List.set_cons_zero, List.set_cons_succ]); (refine wpAnyH_ready (rs := [3]) (by kernel_rfl) (by simp) ?_; refine AllReadyH.cons (o := _) rfl (fun K hK => ?_) AllReadyH.nil; go_simp; (go_at_call 43; refine (HF.out _).mono ?_; rintro e w3 ⟨rfl, hb3⟩; have hY := BB.below hY hb3; obtain ⟨⟨⟨⟨la, a0, a1, a2, a3, a4⟩, f0, f1, f2, f3, f4⟩, ⟨⟨lb, b0, b1, b2, b3, b4⟩, g0, g1, g2, g3, g4⟩⟩, _⟩ := id hY); refine hK.out _ _ ⟨hY.1.1.1.2.1, hY.1.1.1.2.2.1, hY.1.1.1.2.2.2.1, hY.1.1.1.2.2.2.2.1, hY.1.1.1.2.2.2.2.2, hY.1.2.1.2.2.1, hY.1.2.1.2.2.2.1, hY.1.2.1.2.2.2.2.1, hY.1.2.1.2.2.2.2.2, hY.2⟩ (fun hHeld => ?_); clear hK K; try simp only [Act.put, List.setIfInBounds_toArray, List.set_cons_zero, List.set_cons_succ]); (refine wpAnyH_ready (rs := [7]) (by kernel_rfl) (by simp) ?_; refine AllReadyH.cons (o := _) rfl (fun K hK => ?_) AllReadyH.nil; go_simp; (go_at_call 43; refine (HG.out _).mono ?_; rintro e w3 ⟨rfl, hb3⟩; have hY := BB.below hY hb3; obtain ⟨⟨⟨⟨la, a0, a1, a2, a3, a4⟩, f0, f1, f2, f3, f4⟩, ⟨⟨lb, b0, b1, b2, b3, b4⟩, g0, g1, g2, g3, g4⟩⟩, _⟩ := id hY); refine hK.out _ _ ⟨hY.1.1.1.2.1, hY.1.1.1.2.2.1, hY.1.1.1.2.2.2.1, hY.1.1.1.2.2.2.2.1, hY.1.1.1.2.2.2.2.2, hY.1.2.1.2.2.1, hY.1.2.1.2.2.2.1, hY.1.2.1.2.2.2.2.1, hY.1.2.1.2.2.2.2.2, hY.2⟩ (fun hHeld => ?_); clear hK K; try simp only [Act.put, List.setIfInBounds_toArray, List.set_cons_zero, List.set_cons_succ]); (refine wpAnyH_ready (rs := [8]) (by kernel_rfl) (by simp) ?_; refine AllReadyH.cons (o := _) rfl (fun K hK => ?_) AllReadyH.nil; go_simp; (clear la a0 a1 a2 a3 a4 f0 f1 f2 f3 f4 lb b0 b1 b2 b3 b4 g0 g1 g2 g3 g4; have hY := BB.setP hY (by omega) (Nat.le_refl _) k n s b c; obtain ⟨⟨⟨⟨la, a0, a1, a2, a3, a4⟩, f0, f1, f2, f3, f4⟩, ⟨⟨lb, b0, b1, b2, b3, b4⟩, g0, g1, g2, g3, g4⟩⟩, _⟩ := id hY); refine hK.out _ _ ⟨hY.1.1.1.2.1, hY.1.1.1.2.2.1, hY.1.1.1.2.2.2.1, hY.1.1.1.2.2.2.2.1, hY.1.1.1.2.2.2.2.2, hY.1.2.1.2.2.1, hY.1.2.1.2.2.2.1, hY.1.2.1.2.2.2.2.1, hY.1.2.1.2.2.2.2.2, hY.2⟩ (fun hHeld => ?_); clear hK K; try simp only [Act.put, List.setIfInBounds_toArray, List.set_cons_zero, List.set_cons_succ]); (refine wpAnyH_ready (rs := [9]) (by kernel_rfl) (by simp) ?_; refine AllReadyH.cons (o := _) rfl (fun K hK => ?_) AllReadyH.nil; go_simp; (clear la a0 a1 a2 a3 a4 f0 f1 f2 f3 f4 lb b0 b1 b2 b3 b4 g0 g1 g2 g3 g4; have hY := BB.setQ hY (by omega) (show w.heap.size ≤ w.heap.size + 1 by omega) k 0 ⟨#[]⟩ false 0); refine hK.out _ _ ⟨hY.1.1.1.2.1, hY.1.1.1.2.2.1, hY.1.1.1.2.2.2.1, hY.1.1.1.2.2.2.2.1, hY.1.1.1.2.2.2.2.2, hY.1.2.1.2.2.1, hY.1.2.1.2.2.2.1, hY.1.2.1.2.2.2.2.1, hY.1.2.1.2.2.2.2.2, hY.2⟩ (fun hHeld => ?_); clear hK K; try simp only [Act.put, List.setIfInBounds_toArray, List.set_cons_zero, List.set_cons_succ]); refine wpAnyH_done (by kernel_rfl) ?_ _; exact ⟨rfl, hY⟩
  case hk =>
    clear la a0 a1 a2 a3 a4 f0 f1 f2 f3 f4 lb b0 b1 b2 b3 b4 g0 g1 g2 g3 g4 hY
    rintro w' ⟨⟨⟨⟨la, a0, a1, a2, a3, a4⟩, f0, f1, f2, f3, f4⟩, ⟨⟨lb, b0, b1, b2, b3, b4⟩, g0, g1, g2, g3, g4⟩⟩, hB⟩
    have HZ := hide hB
    clear hB
    by_cases c1 : k = 1
    · subst c1
      have HX : Hid (ordV 1 n s b 1 0 ⟨#[]⟩ false = signR (decide (n < 0)) (decide (0 < n))) := by show _ = _; rw [show ordV 1 n s b 1 0 ⟨#[]⟩ false = cmpI n 0 by simp [ordV]]; exact cmpI_sign _ _
      go_wp2_with (go_at_call 44; refine (sign_any _ _ _).mono ?_; rintro e w9 ⟨rfl, rfl⟩)
      go_ret2
      exact ⟨by rw [HX.out]; rfl, HZ.out⟩
    · by_cases c2 : k = 2
      · subst c2
        have hX : ordV 2 n s b 2 0 ⟨#[]⟩ false = cmpL (foldL s.data.toList) (foldL (⟨#[]⟩ : ByteArray).data.toList) := by simp [ordV]
        have HD : Hid (∀ W : World, Calls Tryd.prog 27 #[.string s] W fun e w' => e = .returned (.string ⟨(foldL s.data.toList).toArray⟩) ∧ Below W.heap.size W w') := fun W => rfold_any s W hz
        have HG2 : Hid (∀ W : World, Calls Tryd.prog 27 #[.string ⟨#[]⟩] W fun e w' => e = .returned (.string ⟨(foldL (⟨#[]⟩ : ByteArray).data.toList).toArray⟩) ∧ Below W.heap.size W w') := fun W => rfold_any ⟨#[]⟩ W (by decide)
        have hT := list_ba (foldL s.data.toList)
        have hU := list_ba (foldL (⟨#[]⟩ : ByteArray).data.toList)
        have hN : (⟨(foldL s.data.toList).toArray⟩ : ByteArray).size ≤ maxLen := by
          show (foldL s.data.toList).toArray.size ≤ maxLen
          rw [List.size_toArray, foldL_len]
          exact hz
        generalize (⟨(foldL s.data.toList).toArray⟩ : ByteArray) = T at *
        generalize (⟨(foldL (⟨#[]⟩ : ByteArray).data.toList).toArray⟩ : ByteArray) = U at *
        have HM : Hid (∀ W : World, Calls Tryd.prog 45 #[.string T, .string U] W fun e w' => e = .returned (.int .i64 (cmpL T.toList U.toList)) ∧ Below W.heap.size W w') := fun W => bytes_any T U W hN
        rw [← hT, ← hU] at hX
        have HX := hide hX
        clear hT hU hN hX
        have HS := hide (And.intro a2 (And.intro b2 (And.intro la (And.intro lb HZ.out))))
        go_wp2
        go_region_held3 (fun w'' => w''.cell? ⟨w.heap.size, 2, none⟩ = some (.string s) ∧ w''.cell? ⟨w.heap.size + 1, 2, none⟩ = some (.string ⟨#[]⟩) ∧ w.heap.size < w''.heap.size ∧ w.heap.size + 1 < w''.heap.size ∧ Below w.heap.size w w'') (first | exact HS.out | assumption | exact TwoS.drew (by assumption)) (first | (go_at_call_of 27 [Value.string s]; refine (HD.out _).mono ?_; rintro e w2 ⟨rfl, hb2⟩; have hs2 := TwoS.below (by assumption) hb2) | (go_at_call_of 27 [Value.string ⟨#[]⟩]; refine (HG2.out _).mono ?_; rintro e w2 ⟨rfl, hb2⟩; have hs2 := TwoS.below (by assumption) hb2) | (go_at_call 45; refine (HM.out _).mono ?_; rintro e w2 ⟨rfl, hb2⟩; have hs2 := TwoS.below (by assumption) hb2))
        all_goals go_wp2
        all_goals go_ret2
        all_goals exact ⟨by rw [HX.out]; rfl, TwoS.out (by assumption)⟩
      · by_cases c3 : k = 3
        · subst c3
          cases b
          all_goals
            go_wp2_with (go_at_call 44; refine (sign_any _ _ _).mono ?_; rintro e w9 ⟨rfl, rfl⟩)
            go_ret2
            exact ⟨rfl, HZ.out⟩
        · have HX : Hid (ordV k n s b k 0 ⟨#[]⟩ false = 0) := by show _ = _; simp [ordV, c1, c2, c3]
          have t1 : (k == 1) = false := by simpa using c1
          have t2 : (k == 2) = false := by simpa using c2
          have t3 : (k == 3) = false := by simpa using c3
          clear c1 c2 c3
          go_wp2
          go_ret2
          exact ⟨by rw [HX.out]; rfl, HZ.out⟩
end Go.Proofs.YtaokibkeoomfjaaDoor
