/-
  Move and Shift of any formula; the form of a formula is kept.
-/
import Derived.Test.YtfpmmckpobpokaaGreatMRwT7
import Derived.Test.YtfpmmckpobpokaaGreatMRwT2
set_option maxRecDepth 100000
set_option maxHeartbeats 4000000
namespace Go.Proofs.YtfpmmckpobpokaaGreat
open Go.RowKit
theorem deep10_any (D : Nat → Prop) (h : Hd) (k : Fo) (a : Option Addr) (n cap : Nat) (w : World) (hD : ∀ c, D c → c < w.heap.size) (hk : Kv w D (.slice a n cap) k) :
  Calls Tryz.prog 9 #[.agg (hdC h (.slice a n cap)).toArray] w fun e w' => e = .returned (.bool (decide (depthN k = 0))) ∧ Below w.heap.size w w' := by
 have HP : Hid (∀ W : World, Below w.heap.size w W → Calls Tryz.prog 27 #[.agg (hdC h (.slice a n cap)).toArray] W fun e w' => e = .returned (.int .i64 (depthN k : Int)) ∧ Below W.heap.size W w') := fun W hW => depth_any D h k _ W (fun c hc => Nat.lt_of_lt_of_le (hD c hc) hW.size) (kv_to hk (fun b hb => ⟨hb, hW.block b (hD b hb)⟩))
 have HX := hide (Box.new w (hdC h (.slice a n cap)))
 have HB := hide ((Below.refl _ w).alloc (Nat.le_refl _) (.cells (hdC h (.slice a n cap)).toArray 33))
 have he : ((depthN k : Int) == 0) = decide (depthN k = 0) := by
  by_cases h0 : depthN k = 0
  ·
   simp [h0]
  ·
   simp [h0]
 generalize depthN k = d at *
 clear hk hD
 go_enter Tryz.func9, Tryz.ntmps9
 go_wp2_with (first | (with_reducible refine wpl_id ?_; refine wpl_load rfl _ rfl _ rfl (by ((repeat' (first | with_reducible (first | exact Hid.out (by assumption) | apply Box.set | exact Box.new _ _ | apply Box.other | apply Box.alloc | apply Box.drew | apply Box.drewN) | omega)); done)) ?_) | (go_at_call 27; refine (HP.out _ HB.out).mono ?_; rintro e w1 ⟨rfl, hb1⟩; have HB1 := hide (HB.out.trans (hb1.mono HB.out.size)); clear hb1))
 go_ret
 exact ⟨by simp, HB1.out⟩
def doE (c : Int) (ok : Bool) : Int := if c = 0 then (if ok then 0 else 2) else c
def doneH (D : Do) (x : Int) (h : Hd) : Hd := if x = 0 then remH D h else zh
def doneK (D : Do) (x : Int) (h : Hd) (k : Fo) : Fo := if x = 0 then remK D h k else .nil
theorem kv_none (w : World) : Kv w (fun c => c < w.heap.size) (.slice none 0 0) .nil := ⟨none, 0, 0, rfl, rfl, .inl rfl⟩
theorem move_all (D : Nat → Prop) (h : Hd) (k : Fo) (a : Option Addr) (n cap : Nat) (ek ea en : Int) (w : World) (hf : Fine w D h k (.slice a n cap)) :
  Calls Tryz.prog 12 #[.agg (hdC h (.slice a n cap)).toArray, .agg #[.int .i64 ek, .int .i64 ea, .int .i64 en]] w fun e w' => ∃ a' n' cap', e = .returned (.tuple #[.agg (hdC (doneH (moveD ek ea en) (doE (checkN h k) (Pla.editB ek ea en)) h) (.slice a' n' cap')).toArray, .int .i64 (doE (checkN h k) (Pla.editB ek ea en))]) ∧ Kv w' (fun c => c < w'.heap.size) (.slice a' n' cap') (doneK (moveD ek ea en) (doE (checkN h k) (Pla.editB ek ea en)) h k) ∧ Below w.heap.size w w' := by
 by_cases hc : checkN h k = 0
 ·
  cases he : Pla.editB ek ea en
  ·
   rw [show doE (checkN h k) false = 2 by simp [doE, hc]]
   exact (move_no D h k a n cap ek ea en w hf 2 (.inr ⟨hc, he, rfl⟩)).mono (by rintro e w' ⟨rfl, hb⟩; exact ⟨none, 0, 0, rfl, kv_none w', hb⟩)
  ·
   rw [show doE (checkN h k) true = 0 by simp [doE, hc]]
   exact (move_ok D h k a n cap ek ea en w hf hc he).mono (by rintro e w' ⟨a', n', cap', rfl, hk, hb⟩; exact ⟨a', n', cap', rfl, new_lt hk, hb⟩)
 ·
  have e1 : doE (checkN h k) (Pla.editB ek ea en) = checkN h k := by simp [doE, hc]
  rw [e1, show doneH (moveD ek ea en) (checkN h k) h = zh by simp [doneH, hc], show doneK (moveD ek ea en) (checkN h k) h k = .nil by simp [doneK, hc]]
  exact (move_no D h k a n cap ek ea en w hf _ (.inl ⟨rfl, hc⟩)).mono (by rintro e w' ⟨rfl, hb⟩; exact ⟨none, 0, 0, rfl, kv_none w', hb⟩)
theorem doE_zero {c : Int} {ok : Bool} (h : doE c ok = 0) : c = 0 ∧ ok = true := by
 unfold doE at h
 by_cases hc : c = 0
 ·
  rw [if_pos hc] at h
  cases ok
  ·
   simp at h
  ·
   exact ⟨hc, rfl⟩
 ·
  rw [if_neg hc] at h
  exact absurd h hc
theorem check_rightN {h : Hd} {k : Fo} (hc : checkN h k = 0) : rightN h k = true := by
 unfold checkN at hc
 by_cases h1 : 160 < k.deep + 1
 ·
  rw [if_pos h1] at hc
  exact absurd hc (by omega)
 ·
  rw [if_neg h1] at hc
  by_cases h2 : rightN h k = false
  ·
   rw [if_pos h2] at hc
   exact absurd hc (by omega)
  ·
   simpa using h2
theorem kept_head (D : Do) (h : Hd) (n : Nat) (ha : aloneB h n = true) : (goneH h (remH D h) ∨ keptH h (remH D h)) ∧ (leafB h = true → n = 0) := by
 obtain ⟨kind, vk, vn, vs, vb, vc, row, col, fr, fc, row2, col2, fr2, fc2, txt⟩ := h
 unfold aloneB noVal noCell noTo at ha
 unfold goneH keptH remH leafB
 dsimp only at *
 by_cases k1 : kind = 1
 ·
  subst k1
  simp at ha
  simp [bareH, ha]
 rw [if_neg k1] at ha
 by_cases k2 : kind = 2
 ·
  subst k2
  simp at ha
  simp only [if_true]
  split
  ·
   simp [cellN, ha]
  ·
   simp [lostH, ha]
 rw [if_neg k2] at ha
 by_cases k3 : kind = 3
 ·
  subst k3
  simp at ha
  simp only [show ¬ (3 : Int) = 2 by omega, if_false, if_true]
  split
  ·
   simp [rangeN, ha]
  ·
   simp [lostH, ha]
 rw [if_neg k3] at ha
 simp only [k2, k3, if_false]
 by_cases k4 : kind = 4
 ·
  subst k4
  simp at ha
  simp [bareH, ha]
 rw [if_neg k4] at ha
 by_cases k5 : kind = 5
 ·
  subst k5
  simp at ha
  simp [bareH, ha]
 rw [if_neg k5] at ha
 by_cases k6 : kind = 6
 ·
  subst k6
  simp at ha
  simp [bareH, ha]
 rw [if_neg k6] at ha
 cases ha
theorem len_nil {k : Fo} (h : k.len = 0) : k = .nil := by
 cases k
 ·
  rfl
 ·
  simp [Fo.len] at h
end Go.Proofs.YtfpmmckpobpokaaGreat
