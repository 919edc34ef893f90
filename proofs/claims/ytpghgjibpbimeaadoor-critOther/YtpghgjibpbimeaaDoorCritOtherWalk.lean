/-
  The walk of CritOther.
-/
import Derived.Test.YtpghgjibpbimeaaDoorCrO1
import Derived.Test.YtpghgjibpbimeaaDoorCrO2
import Derived.Test.YtpghgjibpbimeaaDoorCrO3
import Derived.Test.YtpghgjibpbimeaaDoorCrO4
import Derived.Test.YtpghgjibpbimeaaDoorCrO5
import Derived.Test.YtpghgjibpbimeaaDoorCrO6
namespace Go.Proofs.YtpghgjibpbimeaaDoor
open Go.RowKit
set_option linter.unusedSimpArgs false

theorem fits_right {l : List UInt8} {k n : Int} {s : ByteArray} {b : Bool} {c k' n' : Int} {s' : ByteArray} {b' : Bool} {c' : Int} (h : rightB k n s b c = true) (h' : rightB k' n' s' b' c' = true) (hl : csignB l = true) : fitsR l k n s b c k' n' s' b' c' = fitR l k n s b c k' n' s' b' c' := by
  unfold fitsR; rw [h, h', hl]; rfl
theorem fit_ord {l : List UInt8} {k n : Int} {s : ByteArray} {b : Bool} {c k' n' : Int} {s' : ByteArray} {b' : Bool} {c' : Int} (h1 : l ≠ [61]) (h2 : l ≠ [60, 62]) : fitR l k n s b c k' n' s' b' c' = (decide (k' = k) && hasOrdB k' && soB l (compareV k' n' s' b' c' k n s b c).1) := by
  unfold fitR; rw [if_neg h1, if_neg h2]
theorem critOther_walk (k n : Int) (s : ByteArray) (b : Bool) (c k' n' : Int) (s' : ByteArray) (b' : Bool) (c' : Int) (w : World) (h : EnvK w) (hz : s.size ≤ maxLen) (hz' : s'.size ≤ maxLen) :
    Calls Tryd.prog 7 #[.agg #[.int .i64 k, .int .i64 n, .string s, .bool b, .int .i64 c], .agg #[.int .i64 k', .int .i64 n', .string s', .bool b', .int .i64 c']] w fun e w' => e = .returned (.bool true) ∧ Below w.heap.size w w' := by
  have HL : Hid (∀ W : World, Below w.heap.size w W → Calls Tryd.prog 12 #[] W fun e w' => e = .returned (.bool true) ∧ Below W.heap.size W w') := fun W hW => lives13_any W (h.below hW)
  have HV : Hid (∀ W : World, Calls Tryd.prog 19 #[.agg #[.int .i64 k, .int .i64 n, .string s, .bool b, .int .i64 c]] W fun e w' => e = .returned (.int .i64 (checkV k n s b c)) ∧ Below W.heap.size W w') := fun W => checkV_any k n s b c W hz
  have HV2 : Hid (∀ W : World, Calls Tryd.prog 19 #[.agg #[.int .i64 k', .int .i64 n', .string s', .bool b', .int .i64 c']] W fun e w' => e = .returned (.int .i64 (checkV k' n' s' b' c')) ∧ Below W.heap.size W w') := fun W => checkV_any k' n' s' b' c' W hz'
  obtain ⟨F, hF⟩ : ∃ F : ByteArray → Bool, ∀ G : ByteArray, fitsR G.data.toList k n s b c k' n' s' b' c' = F G := ⟨_, fun _ => rfl⟩
  have HF : Hid (∀ (G : ByteArray) (W : World), Below w.heap.size w W → Calls Tryd.prog 13 #[.agg #[.string G, .int .i64 k, .int .i64 n, .string s, .bool b, .int .i64 c], .agg #[.int .i64 k', .int .i64 n', .string s', .bool b', .int .i64 c']] W fun e w' => e = .returned (.bool (F G)) ∧ Below W.heap.size W w') := fun G W hW => by
    have := Fits_any G k n s b c k' n' s' b' c' W (h.below hW).signs hz hz'
    rwa [hF G] at this
  unfold checkV at HV HV2
  cases hr : rightB k n s b c
  · have f0 : ∀ G, F G = false := fun G => by rw [← hF G]; unfold fitsR; rw [hr]; simp
    rw [hr] at HV
    exact other_1 F (f0 _) (f0 _) HV HF HL
  rw [hr] at HV
  cases hr' : rightB k' n' s' b' c'
  · have f0 : ∀ G, F G = false := fun G => by rw [← hF G]; unfold fitsR; rw [hr']; simp
    rw [hr'] at HV2
    exact other_2 F (f0 _) (f0 _) HV HV2 HF HL
  rw [hr'] at HV2
  have q1 : F ⟨#[61]⟩ = askedB k n s b c k' n' s' b' c' := by rw [← hF]; exact fits_right hr hr' (by decide)
  have q2 : F ⟨#[60, 62]⟩ = !askedB k n s b c k' n' s' b' c' := by rw [← hF]; exact fits_right hr hr' (by decide)
  have f1 : (F ⟨#[61]⟩ == F ⟨#[60, 62]⟩) = false := by rw [q1, q2]; cases askedB k n s b c k' n' s' b' c' <;> rfl
  have q3 : F ⟨#[60]⟩ = (decide (k' = k) && hasOrdB k' && decide ((compareV k' n' s' b' c' k n s b c).1 < 0)) := by rw [← hF]; exact (fits_right hr hr' (by decide)).trans (fit_ord (by decide) (by decide))
  have q4 : F ⟨#[62, 61]⟩ = (decide (k' = k) && hasOrdB k' && decide (0 ≤ (compareV k' n' s' b' c' k n s b c).1)) := by rw [← hF]; exact (fits_right hr hr' (by decide)).trans (fit_ord (by decide) (by decide))
  have q5 : F ⟨#[62]⟩ = (decide (k' = k) && hasOrdB k' && decide (0 < (compareV k' n' s' b' c' k n s b c).1)) := by rw [← hF]; exact (fits_right hr hr' (by decide)).trans (fit_ord (by decide) (by decide))
  have q6 : F ⟨#[60, 61]⟩ = (decide (k' = k) && hasOrdB k' && decide ((compareV k' n' s' b' c' k n s b c).1 ≤ 0)) := by rw [← hF]; exact (fits_right hr hr' (by decide)).trans (fit_ord (by decide) (by decide))
  generalize (compareV k' n' s' b' c' k n s b c).1 = o at *
  have none : (decide (k' = k) && hasOrdB k') = false → F ⟨#[60]⟩ = false ∧ F ⟨#[62, 61]⟩ = false ∧ F ⟨#[62]⟩ = false ∧ F ⟨#[60, 61]⟩ = false := fun e => by rw [q3, q4, q5, q6, e]; simp
  by_cases e1 : k = k'
  · subst e1
    by_cases e2 : k = 0
    · subst e2
      obtain ⟨a1, a2, a3, a4⟩ := none (by decide)
      exact other_4 F f1 a1 a2 a3 a4 HV HV2 HF HL
    by_cases e3 : k = 4
    · subst e3
      obtain ⟨a1, a2, a3, a4⟩ := none (by decide)
      exact other_5 F f1 a1 a2 a3 a4 HV HV2 HF HL
    · have ho : hasOrdB k = true := by
        rcases right_cases hr with ⟨h, _⟩ | ⟨h, _⟩ | ⟨h, _⟩ | ⟨h, _⟩ | ⟨h, _⟩
        · exact absurd h e2
        · subst h; rfl
        · subst h; rfl
        · subst h; rfl
        · exact absurd h e3
      rw [ho, decide_eq_true rfl] at q3 q4 q5 q6
      have b1 : (k == 0) = false := by simp [e2]
      have b2 : (k == 4) = false := by simp [e3]
      have b3 : (k != 0) = true := by simp [e2]
      have b4 : (k != 4) = true := by simp [e3]
      simp only [Bool.true_and] at q3 q4 q5 q6
      by_cases o1 : o < 0
      · exact other_6 F f1 (by rw [q3, decide_eq_true o1]) (by rw [q4, decide_eq_false (by omega)]) (by rw [q5, decide_eq_false (by omega)]) (by rw [q6, decide_eq_true (by omega)]) b1 b2 b3 b4 e2 e3 HV HV2 HF HL
      by_cases o2 : 0 < o
      · exact other_8 F f1 (by rw [q3, decide_eq_false o1]) (by rw [q4, decide_eq_true (by omega)]) (by rw [q5, decide_eq_true o2]) (by rw [q6, decide_eq_false (by omega)]) b1 b2 b3 b4 e2 e3 HV HV2 HF HL
      · exact other_7 F f1 (by rw [q3, decide_eq_false o1]) (by rw [q4, decide_eq_true (by omega)]) (by rw [q5, decide_eq_false o2]) (by rw [q6, decide_eq_true (by omega)]) b1 b2 b3 b4 e2 e3 HV HV2 HF HL
  · obtain ⟨a1, a2, a3, a4⟩ := none (by rw [decide_eq_false (fun e => e1 e.symm)]; rfl)
    exact other_3 F f1 a1 a2 a3 a4 (by simp [e1]) HV HV2 HF HL
end Go.Proofs.YtpghgjibpbimeaaDoor
