/-
  The contract of the answer's Alike.
-/
import Derived.Test.YtaokibkeoomfjaaDoorComp4
import Derived.Test.YtaokibkeoomfjaaDoorValMem
namespace Go.Proofs.YtaokibkeoomfjaaDoor
open Go.RowKit

/-- A post that holds at the code's plain end alone. -/
def Norm (R : Act → World → Prop) : Exit → Act → World → Prop
  | .normal, a, w => R a w
  | _, _, _ => False
theorem wp_cut {P : Program} {c : Code} {Q : Exit → Act → World → Prop} {R : Act → World → Prop} {a : Act} {w : World} (hr : c.wp P (Norm R) a w) (hk : ∀ a w, R a w → Q .normal a w) : c.wp P Q a w :=
  Code.wp_mono (fun e a w h => by cases e <;> first | exact hk a w h | exact (h : False).elim) hr
theorem wp_cut0 {P : Program} {c : Code} {Q : Exit → Act → World → Prop} {T : Act} {F : World → Prop} {a : Act} {w : World} (hr : c.wp P (Norm fun a' w' => a' = T ∧ F w') a w) (hk : ∀ w', F w' → Q .normal T w') : c.wp P Q a w :=
  wp_cut hr fun a w ⟨e, f⟩ => by rw [e]; exact hk w f
theorem HasV.other {w : World} {p : Nat} {k n : Int} {s : ByteArray} {b : Bool} {c : Int} (h : HasV w p k n s b c) {q : Nat} (hq : q ≠ p) (o : Nat) (v : Value) : HasV (w.setCell ⟨q, o, none⟩ v) p k n s b c := by
  obtain ⟨⟨l, h0, h1, h2, h3, h4⟩, f0, f1, f2, f3, f4⟩ := h
  have e : ∀ j, (w.setCell ⟨q, o, none⟩ v).cell? ⟨p, j, none⟩ = w.cell? ⟨p, j, none⟩ := fun j => by rw [World.cell?_setCell_other (h := show (⟨q, o, none⟩ : Addr) ≠ ⟨p, j, none⟩ from fun x => hq (congrArg Addr.block x))]
  exact ⟨⟨by simpa using l, by rw [e]; exact h0, by rw [e]; exact h1, by rw [e]; exact h2, by rw [e]; exact h3, by rw [e]; exact h4⟩, by rw [World.frozen?_setCell]; exact f0, by rw [World.frozen?_setCell]; exact f1, by rw [World.frozen?_setCell]; exact f2, by rw [World.frozen?_setCell]; exact f3, by rw [World.frozen?_setCell]; exact f4⟩
theorem HasV.setS {w : World} {p : Nat} {k n : Int} {s : ByteArray} {b : Bool} {c : Int} (h : HasV w p k n s b c) (t : ByteArray) : HasV (w.setCell ⟨p, 2, none⟩ (.string t)) p k n t b c := by
  obtain ⟨⟨l, h0, h1, h2, h3, h4⟩, f0, f1, f2, f3, f4⟩ := h
  have e : ∀ j, j ≠ 2 → (w.setCell ⟨p, 2, none⟩ (.string t)).cell? ⟨p, j, none⟩ = w.cell? ⟨p, j, none⟩ := fun j hj => by rw [World.cell?_setCell_other (h := show (⟨p, 2, none⟩ : Addr) ≠ ⟨p, j, none⟩ from fun x => hj (congrArg Addr.off x).symm)]
  exact ⟨⟨by simpa using l, by rw [e 0 (by decide)]; exact h0, by rw [e 1 (by decide)]; exact h1, World.cell?_setCell_same _ _ _ h2, by rw [e 3 (by decide)]; exact h3, by rw [e 4 (by decide)]; exact h4⟩, by rw [World.frozen?_setCell]; exact f0, by rw [World.frozen?_setCell]; exact f1, by rw [World.frozen?_setCell]; exact f2, by rw [World.frozen?_setCell]; exact f3, by rw [World.frozen?_setCell]; exact f4⟩
/-- Two values lie in blocks that may be written. -/
def Both (w : World) (p q : Nat) (k n : Int) (s : ByteArray) (b : Bool) (c : Int) (k' n' : Int) (s' : ByteArray) (b' : Bool) (c' : Int) : Prop := HasV w p k n s b c ∧ HasV w q k' n' s' b' c'
theorem Both.new (w : World) (k n : Int) (s : ByteArray) (b : Bool) (c : Int) (k' n' : Int) (s' : ByteArray) (b' : Bool) (c' : Int) : Both ((w.alloc (.cells #[.int .i64 k, .int .i64 n, .string s, .bool b, .int .i64 c] 25)).alloc (.cells #[.int .i64 k', .int .i64 n', .string s', .bool b', .int .i64 c'] 25)) w.heap.size (w.heap.size + 1) k n s b c k' n' s' b' c' :=
  ⟨(HasV.at w w.heap.size k n s b c 25 rfl).alloc _, HasV.at (w.alloc (.cells #[.int .i64 k, .int .i64 n, .string s, .bool b, .int .i64 c] 25)) (w.heap.size + 1) k' n' s' b' c' 25 (by simp)⟩
theorem Both.below {w w' : World} {p q : Nat} {k n : Int} {s : ByteArray} {b : Bool} {c : Int} {k' n' : Int} {s' : ByteArray} {b' : Bool} {c' : Int} (h : Both w p q k n s b c k' n' s' b' c') (z : Below w.heap.size w w') : Both w' p q k n s b c k' n' s' b' c' := ⟨h.1.below z, h.2.below z⟩
theorem Both.drew {w : World} {p q : Nat} {k n : Int} {s : ByteArray} {b : Bool} {c : Int} {k' n' : Int} {s' : ByteArray} {b' : Bool} {c' : Int} (h : Both w p q k n s b c k' n' s' b' c') : Both w.drew p q k n s b c k' n' s' b' c' := h

theorem BB.below {W w w' : World} {p q : Nat} {k n : Int} {s : ByteArray} {b : Bool} {c : Int} {k' n' : Int} {s' : ByteArray} {b' : Bool} {c' : Int} (h : Both w p q k n s b c k' n' s' b' c' ∧ Below W.heap.size W w) (z : Below w.heap.size w w') : Both w' p q k n s b c k' n' s' b' c' ∧ Below W.heap.size W w' := ⟨h.1.below z, h.2.trans (z.mono h.2.size)⟩
theorem BB.drew {W w : World} {p q : Nat} {k n : Int} {s : ByteArray} {b : Bool} {c : Int} {k' n' : Int} {s' : ByteArray} {b' : Bool} {c' : Int} (h : Both w p q k n s b c k' n' s' b' c' ∧ Below W.heap.size W w) : Both w.drew p q k n s b c k' n' s' b' c' ∧ Below W.heap.size W w.drew := ⟨h.1, h.2.drew⟩

set_option maxHeartbeats 1000000 in
theorem ralike_no1 (k n : Int) (s : ByteArray) (b : Bool) (c : Int) (k' n' : Int) (s' : ByteArray) (b' : Bool) (c' : Int) (w : World) (HR : Hid (∀ W : World, Calls Tryd.prog 39 #[.agg #[.int .i64 k, .int .i64 n, .string s, .bool b, .int .i64 c]] W fun e w' => e = .returned (.bool false) ∧ Below W.heap.size W w')) :
    Calls Tryd.prog 21 #[.agg #[.int .i64 k, .int .i64 n, .string s, .bool b, .int .i64 c], .agg #[.int .i64 k', .int .i64 n', .string s', .bool b', .int .i64 c']] w fun e w' => e = .returned (.bool false) ∧ Below w.heap.size w w' := by
  have HY := hide (Both.new w k n s b c k' n' s' b' c')
  have HB := hide (((Below.refl w.heap.size w).alloc (Nat.le_refl _) (.cells #[.int .i64 k, .int .i64 n, .string s, .bool b, .int .i64 c] 25)).alloc (by simp) (.cells #[.int .i64 k', .int .i64 n', .string s', .bool b', .int .i64 c'] 25))
  go_enter Tryd.func21, Tryd.ntmps21
  go_wp2_with fail
  refine (HR.out _).mono ?_
  rintro e w1 ⟨rfl, hb⟩
  have HY := hide (Both.below HY.out hb)
  have HB := hide (HB.out.trans (hb.mono HB.out.size))
  clear hb
  obtain ⟨⟨⟨la, a0, a1, a2, a3, a4⟩, f0, f1, f2, f3, f4⟩, ⟨⟨lb, b0, b1, b2, b3, b4⟩, g0, g1, g2, g3, g4⟩⟩ := HY.out
  go_wp2
  go_ret
  exact ⟨rfl, HB.out⟩
set_option maxHeartbeats 1000000 in
theorem ralike_no2 (k n : Int) (s : ByteArray) (b : Bool) (c : Int) (k' n' : Int) (s' : ByteArray) (b' : Bool) (c' : Int) (w : World) (HR : Hid (∀ W : World, Calls Tryd.prog 39 #[.agg #[.int .i64 k, .int .i64 n, .string s, .bool b, .int .i64 c]] W fun e w' => e = .returned (.bool true) ∧ Below W.heap.size W w')) (HQ : Hid (∀ W : World, Calls Tryd.prog 39 #[.agg #[.int .i64 k', .int .i64 n', .string s', .bool b', .int .i64 c']] W fun e w' => e = .returned (.bool false) ∧ Below W.heap.size W w')) :
    Calls Tryd.prog 21 #[.agg #[.int .i64 k, .int .i64 n, .string s, .bool b, .int .i64 c], .agg #[.int .i64 k', .int .i64 n', .string s', .bool b', .int .i64 c']] w fun e w' => e = .returned (.bool false) ∧ Below w.heap.size w w' := by
  have HY := hide (Both.new w k n s b c k' n' s' b' c')
  have HB := hide (((Below.refl w.heap.size w).alloc (Nat.le_refl _) (.cells #[.int .i64 k, .int .i64 n, .string s, .bool b, .int .i64 c] 25)).alloc (by simp) (.cells #[.int .i64 k', .int .i64 n', .string s', .bool b', .int .i64 c'] 25))
  go_enter Tryd.func21, Tryd.ntmps21
  go_wp2_with fail
  refine (HR.out _).mono ?_
  rintro e w1 ⟨rfl, hb⟩
  have HY := hide (Both.below HY.out hb)
  have HB := hide (HB.out.trans (hb.mono HB.out.size))
  clear hb
  obtain ⟨⟨⟨la, a0, a1, a2, a3, a4⟩, f0, f1, f2, f3, f4⟩, ⟨⟨lb, b0, b1, b2, b3, b4⟩, g0, g1, g2, g3, g4⟩⟩ := HY.out
  go_wp2_with fail
  refine (HQ.out _).mono ?_
  rintro e w2 ⟨rfl, hb⟩
  have HY := hide (Both.below HY.out hb)
  have HB := hide (HB.out.trans (hb.mono HB.out.size))
  clear hb la a0 a1 a2 a3 a4 f0 f1 f2 f3 f4 lb b0 b1 b2 b3 b4 g0 g1 g2 g3 g4
  obtain ⟨⟨⟨la, a0, a1, a2, a3, a4⟩, f0, f1, f2, f3, f4⟩, ⟨⟨lb, b0, b1, b2, b3, b4⟩, g0, g1, g2, g3, g4⟩⟩ := HY.out
  go_wp2
  go_ret
  exact ⟨rfl, HB.out⟩
set_option maxHeartbeats 4000000 in
theorem ralike_yes (k n : Int) (s : ByteArray) (b : Bool) (c : Int) (k' n' : Int) (s' : ByteArray) (b' : Bool) (c' : Int) (T U : ByteArray) (w : World) (HR : Hid (∀ W : World, Calls Tryd.prog 39 #[.agg #[.int .i64 k, .int .i64 n, .string s, .bool b, .int .i64 c]] W fun e w' => e = .returned (.bool true) ∧ Below W.heap.size W w')) (HQ : Hid (∀ W : World, Calls Tryd.prog 39 #[.agg #[.int .i64 k', .int .i64 n', .string s', .bool b', .int .i64 c']] W fun e w' => e = .returned (.bool true) ∧ Below W.heap.size W w')) (HF : Hid (∀ W : World, Calls Tryd.prog 27 #[.string s] W fun e w' => e = .returned (.string T) ∧ Below W.heap.size W w')) (HG : Hid (∀ W : World, Calls Tryd.prog 27 #[.string s'] W fun e w' => e = .returned (.string U) ∧ Below W.heap.size W w')) :
    Calls Tryd.prog 21 #[.agg #[.int .i64 k, .int .i64 n, .string s, .bool b, .int .i64 c], .agg #[.int .i64 k', .int .i64 n', .string s', .bool b', .int .i64 c']] w fun e w' => e = .returned (.bool ((k == k') && (n == n') && (T.toList == U.toList) && (b == b') && (c == c'))) ∧ Below w.heap.size w w' := by
  have HY := hide (Both.new w k n s b c k' n' s' b' c')
  have HB := hide (((Below.refl w.heap.size w).alloc (Nat.le_refl _) (.cells #[.int .i64 k, .int .i64 n, .string s, .bool b, .int .i64 c] 25)).alloc (by simp) (.cells #[.int .i64 k', .int .i64 n', .string s', .bool b', .int .i64 c'] 25))
  go_enter Tryd.func21, Tryd.ntmps21
  go_wp2_with fail
  refine (HR.out _).mono ?_
  rintro e w1 ⟨rfl, hb⟩
  have HY := hide (Both.below HY.out hb)
  have HB := hide (HB.out.trans (hb.mono HB.out.size))
  clear hb
  obtain ⟨⟨⟨la, a0, a1, a2, a3, a4⟩, f0, f1, f2, f3, f4⟩, ⟨⟨lb, b0, b1, b2, b3, b4⟩, g0, g1, g2, g3, g4⟩⟩ := HY.out
  go_wp2_with fail
  refine (HQ.out _).mono ?_
  rintro e w2 ⟨rfl, hb⟩
  have HY := hide (Both.below HY.out hb)
  have HB := hide (HB.out.trans (hb.mono HB.out.size))
  clear hb la a0 a1 a2 a3 a4 f0 f1 f2 f3 f4 lb b0 b1 b2 b3 b4 g0 g1 g2 g3 g4
  obtain ⟨⟨⟨la, a0, a1, a2, a3, a4⟩, f0, f1, f2, f3, f4⟩, ⟨⟨lb, b0, b1, b2, b3, b4⟩, g0, g1, g2, g3, g4⟩⟩ := HY.out
  go_wp2
  have hY := And.intro HY.out HB.out
  apply wp_cut0 (F := fun w' => Both w' w.heap.size (w.heap.size + 1) k n T b c k' n' U b' c' ∧ Below w.heap.size w w')
  case hr =>
    go_region_with (first | (go_at_call_of 27 [Value.string s]; refine (HF.out _).mono ?_; rintro e w3 ⟨rfl, hb3⟩; have hY3 := BB.below (by first | assumption | exact BB.drew (by assumption)) hb3; obtain ⟨⟨⟨⟨la, a0, a1, a2, a3, a4⟩, f0, f1, f2, f3, f4⟩, ⟨⟨lb, b0, b1, b2, b3, b4⟩, g0, g1, g2, g3, g4⟩⟩, _⟩ := id hY3) | (go_at_call_of 27 [Value.string s']; refine (HG.out _).mono ?_; rintro e w3 ⟨rfl, hb3⟩; have hY3 := BB.below (by first | assumption | exact BB.drew (by assumption)) hb3; obtain ⟨⟨⟨⟨la, a0, a1, a2, a3, a4⟩, f0, f1, f2, f3, f4⟩, ⟨⟨lb, b0, b1, b2, b3, b4⟩, g0, g1, g2, g3, g4⟩⟩, _⟩ := id hY3))
    all_goals exact ⟨rfl, ⟨(hY3.1.1.setS T).other (by omega) 2 _, (hY3.1.2.other (by omega) 2 _).setS U⟩, (hY3.2.setCell (Nat.le_refl _) _).setCell (show w.heap.size ≤ w.heap.size + 1 by omega) _⟩
  case hk =>
    clear la a0 a1 a2 a3 a4 f0 f1 f2 f3 f4 lb b0 b1 b2 b3 b4 g0 g1 g2 g3 g4 hY HY HB
    rintro w' ⟨⟨⟨⟨la, a0, a1, a2, a3, a4⟩, f0, f1, f2, f3, f4⟩, ⟨⟨lb, b0, b1, b2, b3, b4⟩, g0, g1, g2, g3, g4⟩⟩, hB⟩
    have HB := hide hB
    clear hB
    rcases same_or k n T b c k' n' U b' c' with ⟨e0, e1, e2, e3, e4⟩ | e0 | ⟨e0, e1⟩ | ⟨e0, e1, e2⟩ | ⟨e0, e1, e2, e3⟩ | ⟨e0, e1, e2, e3, e4⟩
    · have HE : Hid (((k == k') && (n == n') && (T.toList == U.toList) && (b == b') && (c == c')) = true) := by show _ = _; simp [*]
      go_wp2
      go_ret
      exact ⟨by rw [HE.out]; rfl, HB.out⟩
    all_goals
      have HE : Hid (((k == k') && (n == n') && (T.toList == U.toList) && (b == b') && (c == c')) = false) := by show _ = _; simp [*]
      go_wp2
      go_ret
      exact ⟨by rw [HE.out]; rfl, HB.out⟩
theorem ralikeV_any (k n : Int) (s : ByteArray) (b : Bool) (c : Int) (k' n' : Int) (s' : ByteArray) (b' : Bool) (c' : Int) (w : World) (hz : s.size ≤ maxLen) (hz' : s'.size ≤ maxLen) :
    Calls Tryd.prog 21 #[.agg #[.int .i64 k, .int .i64 n, .string s, .bool b, .int .i64 c], .agg #[.int .i64 k', .int .i64 n', .string s', .bool b', .int .i64 c']] w fun e w' => e = .returned (.bool (alikeV k n s b c k' n' s' b' c')) ∧ Below w.heap.size w w' := by
  have HR : Hid (∀ W : World, Calls Tryd.prog 39 #[.agg #[.int .i64 k, .int .i64 n, .string s, .bool b, .int .i64 c]] W fun e w' => e = .returned (.bool (rightB k n s b c)) ∧ Below W.heap.size W w') := fun W => rright_any k n s b c W hz
  have HQ : Hid (∀ W : World, Calls Tryd.prog 39 #[.agg #[.int .i64 k', .int .i64 n', .string s', .bool b', .int .i64 c']] W fun e w' => e = .returned (.bool (rightB k' n' s' b' c')) ∧ Below W.heap.size W w') := fun W => rright_any k' n' s' b' c' W hz'
  cases hr : rightB k n s b c
  · rw [show alikeV k n s b c k' n' s' b' c' = false by simp [alikeV, hr]]
    rw [hr] at HR
    exact ralike_no1 k n s b c k' n' s' b' c' w HR
  · rw [hr] at HR
    cases hq : rightB k' n' s' b' c'
    · rw [show alikeV k n s b c k' n' s' b' c' = false by simp [alikeV, hq]]
      rw [hq] at HQ
      exact ralike_no2 k n s b c k' n' s' b' c' w HR HQ
    · rw [hq] at HQ
      have h := ralike_yes k n s b c k' n' s' b' c' _ _ w HR HQ (fun W => rfold_any s W hz) (fun W => rfold_any s' W hz')
      have e : alikeV k n s b c k' n' s' b' c' = ((k == k') && (n == n') && ((⟨(foldL s.data.toList).toArray⟩ : ByteArray).toList == (⟨(foldL s'.data.toList).toArray⟩ : ByteArray).toList) && (b == b') && (c == c')) := by
        rw [list_ba, list_ba, Bool.eq_iff_iff]
        simp [alikeV, hr, hq]
      rw [e]
      exact h
end Go.Proofs.YtaokibkeoomfjaaDoor
