/-
  The contracts of the answer's Rects and Uses.
-/
import Derived.Test.YtijjnchedgllgaaDoorFmE4
import Derived.Test.YtijjnchedgllgaaDoorFmI2
import Derived.Test.YtijjnchedgllgaaDoorFmI3
namespace Go.Proofs.YtijjnchedgllgaaDoor
open Go.RowKit Go.Shelf

theorem check_zero7 {h : Hd} {k : Fo} (e : checkN h k = 0) : rightN h k = true ∧ allB k = true := by
  have hr : rightN h k = true := by
    unfold checkN at e
    split at e
    · omega
    · split at e
      · omega
      · rename_i hr; simpa using hr
  refine ⟨hr, ?_⟩
  unfold rightN at hr
  simp at hr
  exact hr.2
theorem depth_fits7 {k : Fo} (hd : depthN k ≠ 0) : k.many + 1 ≤ 4096 ∧ k.deep + 1 ≤ 160 := by
  unfold depthN at hd
  by_cases hq : k.many + 1 ≤ 4096 ∧ k.deep + 1 ≤ 160
  · exact hq
  · rw [if_neg hq] at hd
    exact absurd rfl hd
set_option maxRecDepth 100000 in
set_option maxHeartbeats 2000000 in
theorem ruses09_any (D : Nat → Prop) (h : Hd) (k : Fo) (a : Option Addr) (n cap : Nat) (s : ByteArray) (w : World) (hD : ∀ c, D c → c < w.heap.size) (hk : Kv w D (.slice a n cap) k) (hm : k.many + 1 ≤ 4096) (hd : k.deep + 1 ≤ 160) (hv : h.vs.length ≤ maxLen) (ht : h.txt.length ≤ maxLen) (ho : okF k) :
    Calls Tryd.prog 18 #[.agg (hdC h (.slice a n cap)).toArray, .string s] w fun e w' => e = .returned (.bool (usesN s h k)) ∧ Below w.heap.size w w' := by
  have HC : Hid (∀ W : World, Below w.heap.size w W → Calls Tryd.prog 29 #[.agg (hdC h (.slice a n cap)).toArray] W fun e w' => e = .returned (.int .i64 (checkN h k)) ∧ Below W.heap.size W w') := fun W hW =>
    rcheck08_any D h k a n cap W (fun c hc => Nat.lt_of_lt_of_le (hD c hc) hW.size) (kv_to hk (fun b hb => ⟨hb, hW.block b (hD b hb)⟩)) hm hd hv ht ho
  have HL : Hid (∀ W : World, Below w.heap.size w W → Calls Tryd.prog 33 #[.agg (hdC h (.slice a n cap)).toArray, .string s] W fun e w' => e = .returned (.bool (usesB s (preF (.cons h k .nil)))) ∧ Below W.heap.size W w') := fun W hW =>
    called_step k (called_all k) D h (.slice a n cap) s W (fun c hc => Nat.lt_of_lt_of_le (hD c hc) hW.size) (kv_to hk (fun b hb => ⟨hb, hW.block b (hD b hb)⟩))
  have HB := hide ((Below.refl w.heap.size w).alloc (Nat.le_refl _) (.cells (hdC h (.slice a n cap)).toArray 44))
  have HX := hide (Box.new w (hdC h (.slice a n cap)))
  unfold usesN
  clear hk hv ht ho hm hd
  by_cases hz : checkN h k = 0
  · rw [hz] at HC
    rw [hz]
    generalize usesB s (preF (.cons h k .nil)) = E at *
    go_enter Tryd.func18, Tryd.ntmps18
    go_wp2_with (first | (with_reducible refine wpl_id ?_; refine wpl_load rfl _ rfl _ rfl (by ((repeat' (first | with_reducible exact Hid.out (by assumption) | with_reducible apply Box.set | with_reducible exact Box.new _ _ | with_reducible apply Box.other | with_reducible apply Box.alloc | with_reducible apply Box.drew | with_reducible apply Box.drewN | omega)); done)) ?_) | (with_reducible refine wpl_id ?_; refine wpl_loadW rfl _ rfl _ rfl (by ((repeat' (first | with_reducible exact Hid.out (by assumption) | with_reducible apply Box.set | with_reducible exact Box.new _ _ | with_reducible apply Box.other | with_reducible apply Box.alloc | with_reducible apply Box.drew | with_reducible apply Box.drewN | omega)); done)) ?_) | (go_at_call 29; refine (HC.out _ HB.out).mono ?_; rintro e w1 ⟨rfl, hb1⟩; have HB1 := hide (HB.out.trans (hb1.mono HB.out.size)); have HX1 := hide (HX.out.below hb1); clear hb1) | (go_at_call 33; refine (HL.out _ HB1.out).mono ?_; rintro e w2 ⟨rfl, hb2⟩; have HB2 := hide (HB1.out.trans (hb2.mono HB1.out.size)); clear hb2))
    go_ret
    exact ⟨by simp, HB2.out⟩
  · rw [show decide (checkN h k = 0) = false from decide_eq_false hz]
    have e0 : (checkN h k == 0) = false := by simpa using hz
    generalize checkN h k = E at *
    clear HL hz
    go_enter Tryd.func18, Tryd.ntmps18
    go_wp2_with (first | (with_reducible refine wpl_id ?_; refine wpl_load rfl _ rfl _ rfl (by ((repeat' (first | with_reducible exact Hid.out (by assumption) | with_reducible apply Box.set | with_reducible exact Box.new _ _ | with_reducible apply Box.other | with_reducible apply Box.alloc | with_reducible apply Box.drew | with_reducible apply Box.drewN | omega)); done)) ?_) | (go_at_call 29; refine (HC.out _ HB.out).mono ?_; rintro e w1 ⟨rfl, hb1⟩; have HB1 := hide (HB.out.trans (hb1.mono HB.out.size)); have HX1 := hide (HX.out.below hb1); clear hb1))
    go_ret
    exact ⟨by simp, HB1.out⟩
set_option maxRecDepth 100000 in
set_option maxHeartbeats 2000000 in
theorem rrects09_any (D : Nat → Prop) (h : Hd) (k : Fo) (a : Option Addr) (n cap : Nat) (w : World) (hD : ∀ c, D c → c < w.heap.size) (hk : Kv w D (.slice a n cap) k) (hm : k.many + 1 ≤ 4096) (hd : k.deep + 1 ≤ 160) (hv : h.vs.length ≤ maxLen) (ht : h.txt.length ≤ maxLen) (ho : okF k) :
    Calls Tryd.prog 15 #[.agg (hdC h (.slice a n cap)).toArray] w fun e w' => ∃ v, e = .returned (.tuple #[v, .int .i64 (checkN h k)]) ∧ Rcs w' v (rectsN h k) ∧ Below w.heap.size w w' := by
  have HC : Hid (∀ W : World, Below w.heap.size w W → Calls Tryd.prog 29 #[.agg (hdC h (.slice a n cap)).toArray] W fun e w' => e = .returned (.int .i64 (checkN h k)) ∧ Below W.heap.size W w') := fun W hW =>
    rcheck08_any D h k a n cap W (fun c hc => Nat.lt_of_lt_of_le (hD c hc) hW.size) (kv_to hk (fun b hb => ⟨hb, hW.block b (hD b hb)⟩)) hm hd hv ht ho
  have HL : Hid (checkN h k = 0 → ∀ W : World, Below w.heap.size w W → Calls Tryd.prog 32 #[.slice none 0 0, .agg (hdC h (.slice a n cap)).toArray] W fun e w' => ∃ v, e = .returned v ∧ Rcs w' v (rectsN h k) ∧ Below W.heap.size W w') := fun hz W hW => by
    refine (named_step k (named_all k) D h (.slice a n cap) (.slice none 0 0) [] W (fun c hc => ⟨Nat.lt_of_lt_of_le (hD c hc) hW.size, by simp [Value.ownBlock]⟩) (kv_to hk (fun b hb => ⟨hb, hW.block b (hD b hb)⟩)) (check_zero7 hz).1 (by simp; omega) (World.ownsRow_nil _ _ _ _)).mono ?_
    rintro e w' ⟨v, he, ho, hg, _⟩
    rw [← rects_acc h k hz] at ho
    exact ⟨v, he, Rcs.of ho, grown_below hg⟩
  have HB := hide ((Below.refl w.heap.size w).alloc (Nat.le_refl _) (.cells (hdC h (.slice a n cap)).toArray 44))
  have HX := hide (Box.new w (hdC h (.slice a n cap)))
  clear hk hv ht ho hm hd
  by_cases hz : checkN h k = 0
  · have HL2 := hide (HL.out hz)
    rw [hz] at HC
    rw [hz]
    clear HL hz
    generalize rectsN h k = L at *
    go_enter Tryd.func15, Tryd.ntmps15
    go_wp2_with (first | (with_reducible refine wpl_id ?_; refine wpl_load rfl _ rfl _ rfl (by ((repeat' (first | with_reducible exact Hid.out (by assumption) | with_reducible apply Box.set | with_reducible exact Box.new _ _ | with_reducible apply Box.other | with_reducible apply Box.alloc | with_reducible apply Box.drew | with_reducible apply Box.drewN | omega)); done)) ?_) | (go_at_call 29; refine (HC.out _ HB.out).mono ?_; rintro e w1 ⟨rfl, hb1⟩; have HB1 := hide (HB.out.trans (hb1.mono HB.out.size)); have HX1 := hide (HX.out.below hb1); clear hb1) | (go_at_call 32; refine (HL2.out _ HB1.out).mono ?_; rintro e w2 ⟨v2, rfl, hr2, hb2⟩; have HB2 := hide (HB1.out.trans (hb2.mono HB1.out.size)); have HR2 := hide hr2; clear hb2 hr2))
    go_ret2
    exact ⟨_, rfl, HR2.out, HB2.out⟩
  · have hrn : rectsN h k = [] := by unfold rectsN; rw [if_neg hz]
    rw [hrn]
    have e0 : (checkN h k != 0) = true := by simpa using hz
    generalize checkN h k = E at *
    clear HL hz hrn
    go_enter Tryd.func15, Tryd.ntmps15
    go_wp2_with (first | (with_reducible refine wpl_id ?_; refine wpl_load rfl _ rfl _ rfl (by ((repeat' (first | with_reducible exact Hid.out (by assumption) | with_reducible apply Box.set | with_reducible exact Box.new _ _ | with_reducible apply Box.other | with_reducible apply Box.alloc | with_reducible apply Box.drew | with_reducible apply Box.drewN | omega)); done)) ?_) | (go_at_call 29; refine (HC.out _ HB.out).mono ?_; rintro e w1 ⟨rfl, hb1⟩; have HB1 := hide (HB.out.trans (hb1.mono HB.out.size)); have HX1 := hide (HX.out.below hb1); clear hb1))
    go_ret2
    exact ⟨_, rfl, ⟨none, 0, rfl, .inl rfl⟩, HB1.out⟩
end Go.Proofs.YtijjnchedgllgaaDoor
