/-
  The answer's Sign, Right, Check and so.
-/
import Derived.Test.YtpghgjibpbimeaaGreatDoorCr8
import Derived.Test.YtpghgjibpbimeaaGreatDoorKVal6
namespace Go.Proofs.YtpghgjibpbimeaaGreatDoor
open Go.RowKit
set_option linter.unusedSimpArgs false

theorem six_or (g : ByteArray) : (g = ⟨#[61]⟩) ∨ (g = ⟨#[60, 62]⟩) ∨ (g = ⟨#[60]⟩) ∨ (g = ⟨#[62]⟩) ∨ (g = ⟨#[60, 61]⟩) ∨ (g = ⟨#[62, 61]⟩) ∨ ((g.toList == [61]) = false ∧ (g.toList == [60, 62]) = false ∧ (g.toList == [60]) = false ∧ (g.toList == [62]) = false ∧ (g.toList == [60, 61]) = false ∧ (g.toList == [62, 61]) = false ∧ csignB g.data.toList = false) := by
  have hq : g.toList = g.data.toList := by rw [ByteArray.toList_eq]
  by_cases h0 : g.data.toList = [61]
  · exact .inl (by rw [← ba_eta g, h0])
  by_cases h1 : g.data.toList = [60, 62]
  · exact .inr (.inl (by rw [← ba_eta g, h1]))
  by_cases h2 : g.data.toList = [60]
  · exact .inr (.inr (.inl (by rw [← ba_eta g, h2])))
  by_cases h3 : g.data.toList = [62]
  · exact .inr (.inr (.inr (.inl (by rw [← ba_eta g, h3]))))
  by_cases h4 : g.data.toList = [60, 61]
  · exact .inr (.inr (.inr (.inr (.inl (by rw [← ba_eta g, h4])))))
  by_cases h5 : g.data.toList = [62, 61]
  · exact .inr (.inr (.inr (.inr (.inr (.inl (by rw [← ba_eta g, h5]))))))
  · refine .inr (.inr (.inr (.inr (.inr (.inr (⟨by rw [hq]; simpa using h0, by rw [hq]; simpa using h1, by rw [hq]; simpa using h2, by rw [hq]; simpa using h3, by rw [hq]; simpa using h4, by rw [hq]; simpa using h5, ?_⟩))))))
    unfold csignB csigns
    simp [h0, h1, h2, h3, h4, h5]
set_option maxHeartbeats 1000000 in
theorem rsign_any (g : ByteArray) (w : World) : Calls Tryz.prog 30 #[.string g] w fun e w' => e = .returned (.bool (csignB g.data.toList)) ∧ Below w.heap.size w w' := by
  rcases six_or g with rfl | rfl | rfl | rfl | rfl | rfl | ⟨e1, e2, e3, e4, e5, e6, hf⟩
  · have HE : Hid (csignB ((⟨#[61]⟩ : ByteArray).data.toList) = true) := hide (by decide)
    go_enter Tryz.func30, Tryz.ntmps30
    go_wp2
    go_ret
    exact ⟨by rw [HE.out]; rfl, Below.refl _ _⟩
  · have HE : Hid (csignB ((⟨#[60, 62]⟩ : ByteArray).data.toList) = true) := hide (by decide)
    go_enter Tryz.func30, Tryz.ntmps30
    go_wp2
    go_ret
    exact ⟨by rw [HE.out]; rfl, Below.refl _ _⟩
  · have HE : Hid (csignB ((⟨#[60]⟩ : ByteArray).data.toList) = true) := hide (by decide)
    go_enter Tryz.func30, Tryz.ntmps30
    go_wp2
    go_ret
    exact ⟨by rw [HE.out]; rfl, Below.refl _ _⟩
  · have HE : Hid (csignB ((⟨#[62]⟩ : ByteArray).data.toList) = true) := hide (by decide)
    go_enter Tryz.func30, Tryz.ntmps30
    go_wp2
    go_ret
    exact ⟨by rw [HE.out]; rfl, Below.refl _ _⟩
  · have HE : Hid (csignB ((⟨#[60, 61]⟩ : ByteArray).data.toList) = true) := hide (by decide)
    go_enter Tryz.func30, Tryz.ntmps30
    go_wp2
    go_ret
    exact ⟨by rw [HE.out]; rfl, Below.refl _ _⟩
  · have HE : Hid (csignB ((⟨#[62, 61]⟩ : ByteArray).data.toList) = true) := hide (by decide)
    go_enter Tryz.func30, Tryz.ntmps30
    go_wp2
    go_ret
    exact ⟨by rw [HE.out]; rfl, Below.refl _ _⟩
  · rw [hf]
    go_enter Tryz.func30, Tryz.ntmps30
    go_wp2
    go_ret
    exact ⟨rfl, Below.refl _ _⟩
set_option maxHeartbeats 1000000 in
theorem rright13_any (g : ByteArray) (k n : Int) (s : ByteArray) (b : Bool) (c : Int) (w : World) (hz : s.size ≤ maxLen) :
    Calls Tryz.prog 15 #[.agg #[.string g, .int .i64 k, .int .i64 n, .string s, .bool b, .int .i64 c]] w fun e w' => e = .returned (.bool (rightC g k n s b c)) ∧ Below w.heap.size w w' := by
  have HV : Hid (∀ W : World, Calls Tryz.prog 31 #[.agg #[.int .i64 k, .int .i64 n, .string s, .bool b, .int .i64 c]] W fun e w' => e = .returned (.bool (rightB k n s b c)) ∧ Below W.heap.size W w') := fun W => rright_any k n s b c W hz
  have HG : Hid (∀ W : World, Calls Tryz.prog 30 #[.string g] W fun e w' => e = .returned (.bool (csignB g.data.toList)) ∧ Below W.heap.size W w') := fun W => rsign_any g W
  have HN := hide (BoxC.new w (g := g) (k := k) (n := n) (s := s) (b := b) (c := c))
  unfold rightC
  clear hz
  cases e1 : csignB g.data.toList
  · rw [e1] at HG
    clear HV e1
    simp only [Bool.false_and]
    go_enter Tryz.func15, Tryz.ntmps15
    go_wp2_with (first | (go_at_call 30; refine (HG.out _).mono ?_; rintro e w1 ⟨rfl, hb1⟩; have HN1 := hide (BoxC.below HN.out hb1); clear hb1))
    go_ret
    exact ⟨rfl, BoxC.out HN1.out⟩
  · rw [e1] at HG
    clear e1
    simp only [Bool.true_and]
    go_enter Tryz.func15, Tryz.ntmps15
    go_wp2_with (first | (go_at_call 30; refine (HG.out _).mono ?_; rintro e w1 ⟨rfl, hb1⟩; have HN1 := hide (BoxC.below HN.out hb1); obtain ⟨q0, q1, q2, q3, q4, q5, q6, q7⟩ := HN1.out; clear hb1) | (go_at_call 31; refine (HV.out _).mono ?_; rintro e w2 ⟨rfl, hb2⟩; have HN2 := hide (BoxC.below HN1.out hb2); clear hb2))
    go_ret
    exact ⟨rfl, BoxC.out HN2.out⟩
end Go.Proofs.YtpghgjibpbimeaaGreatDoor
