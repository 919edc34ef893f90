/-
  The walk of CritSame.
-/
import Derived.Test.YtpghgjibpbimeabDoorCritQuietWalk
import Derived.Test.YtpghgjibpbimeabDoorCrS1
import Derived.Test.YtpghgjibpbimeabDoorCrS2
import Derived.Test.YtpghgjibpbimeabDoorCrS3
import Derived.Test.YtpghgjibpbimeabDoorCrS4
namespace Go.Proofs.YtpghgjibpbimeabDoor
open Go.RowKit
set_option linter.unusedSimpArgs false
set_option linter.unusedVariables false

theorem likeR_fold {p s t : List UInt8} (h : foldL s = foldL t) : likeR p s = likeR p t := by unfold likeR; rw [h]
theorem alike_parts {k n : Int} {s : ByteArray} {b : Bool} {c k' n' : Int} {s' : ByteArray} {b' : Bool} {c' : Int} (h : alikeV k n s b c k' n' s' b' c' = true) : rightB k n s b c = true ∧ rightB k' n' s' b' c' = true ∧ k = k' ∧ n = n' ∧ foldL s.data.toList = foldL s'.data.toList ∧ b = b' ∧ c = c' := by
  unfold alikeV at h
  simp only [Bool.and_eq_true, decide_eq_true_eq] at h
  exact ⟨h.1.1, h.1.2, h.2.1.1.1.1, h.2.1.1.1.2, h.2.1.1.2, h.2.1.2, h.2.2⟩
/-- Values that are the same fit the same criteria. -/
theorem fits_alike {l : List UInt8} {k n : Int} {s : ByteArray} {b : Bool} {c k' n' : Int} {s' : ByteArray} {b' : Bool} {c' k'' n'' : Int} {s'' : ByteArray} {b'' : Bool} {c'' : Int} (h : alikeV k' n' s' b' c' k'' n'' s'' b'' c'' = true) :
    fitsR l k n s b c k' n' s' b' c' = fitsR l k n s b c k'' n'' s'' b'' c'' := by
  obtain ⟨r1, r2, rfl, rfl, hf, rfl, rfl⟩ := alike_parts h
  have ha : askedB k n s b c k' n' s' b' c' = askedB k n s b c k' n' s'' b' c' := by
    unfold askedB
    rw [likeR_fold (p := s.data.toList) hf]
    unfold alikeV
    rw [r1, r2, hf]
  have hc : compareV k' n' s' b' c' k n s b c = compareV k' n' s'' b' c' k n s b c := by
    unfold compareV troubleV2 ordV
    rw [r1, r2, hf]
  unfold fitsR fitR
  rw [r1, r2, ha, hc]
theorem asked_self {k n : Int} {s : ByteArray} {b : Bool} {c : Int} (hr : rightB k n s b c = true) (hq : k = 2 → quietB s.data.toList = true) : askedB k n s b c k n s b c = true := by
  unfold askedB
  by_cases hk : k = 2
  · rw [if_pos hk, (like_quiet (hq hk)).1]; simp [hk]
  · rw [if_neg hk]; unfold alikeV; rw [hr]; simp
theorem fits_self {k n : Int} {s : ByteArray} {b : Bool} {c : Int} (hr : rightB k n s b c = true) (hq : k = 2 → quietB s.data.toList = true) : fitsR [61] k n s b c k n s b c = true := by
  unfold fitsR fitR
  rw [hr, if_pos rfl, asked_self hr hq]
  rfl
theorem critSame_walk (g : ByteArray) (k n : Int) (s : ByteArray) (b : Bool) (c k' n' : Int) (s' : ByteArray) (b' : Bool) (c' k'' n'' : Int) (s'' : ByteArray) (b'' : Bool) (c'' : Int) (w : World) (h : EnvK w) (hz1 : s.size ≤ maxLen) (hz2 : s'.size ≤ maxLen) (hz3 : s''.size ≤ maxLen) :
    Calls Tryd.prog 5 #[.agg #[.string g, .int .i64 k, .int .i64 n, .string s, .bool b, .int .i64 c], .agg #[.int .i64 k', .int .i64 n', .string s', .bool b', .int .i64 c'], .agg #[.int .i64 k'', .int .i64 n'', .string s'', .bool b'', .int .i64 c'']] w fun e w' => e = .returned (.bool true) ∧ Below w.heap.size w w' := by
  have HL : Hid (∀ W : World, Below w.heap.size w W → Calls Tryd.prog 6 #[] W fun e w' => e = .returned (.bool true) ∧ Below W.heap.size W w') := fun W hW => lives13_any W (h.below hW)
  have HV : Hid (∀ W : World, Calls Tryd.prog 13 #[.agg #[.int .i64 k', .int .i64 n', .string s', .bool b', .int .i64 c']] W fun e w' => e = .returned (.int .i64 (checkV k' n' s' b' c')) ∧ Below W.heap.size W w') := fun W => checkV_any k' n' s' b' c' W hz2
  have HA : Hid (∀ W : World, Calls Tryd.prog 11 #[.agg #[.int .i64 k', .int .i64 n', .string s', .bool b', .int .i64 c'], .agg #[.int .i64 k'', .int .i64 n'', .string s'', .bool b'', .int .i64 c'']] W fun e w' => e = .returned (.bool (alikeV k' n' s' b' c' k'' n'' s'' b'' c'')) ∧ Below W.heap.size W w') := fun W => alikeV_any k' n' s' b' c' k'' n'' s'' b'' c'' W hz2 hz3
  have HQ : Hid (∀ W : World, Calls Tryd.prog 7 #[.string s'] W fun e w' => e = .returned (.bool (quietB s'.data.toList)) ∧ Below W.heap.size W w') := fun W => by
    have := quiet_any s'.data.toList W (by rw [Array.length_toList]; exact hz2)
    rwa [ba_eta] at this
  obtain ⟨F, hF⟩ : ∃ F : ByteArray → Int → Int → ByteArray → Bool → Int → Int → Int → ByteArray → Bool → Int → Bool, ∀ g k n s b c k' n' s' b' c', fitsR g.data.toList k n s b c k' n' s' b' c' = F g k n s b c k' n' s' b' c' := ⟨fun g k n s b c k' n' s' b' c' => fitsR g.data.toList k n s b c k' n' s' b' c', fun _ _ _ _ _ _ _ _ _ _ _ => rfl⟩
  have HF : Hid (∀ (g : ByteArray) (k n : Int) (s : ByteArray) (b : Bool) (c k' n' : Int) (s' : ByteArray) (b' : Bool) (c' : Int) (W : World), s.size ≤ maxLen → s'.size ≤ maxLen → Below w.heap.size w W → Calls Tryd.prog 12 #[.agg #[.string g, .int .i64 k, .int .i64 n, .string s, .bool b, .int .i64 c], .agg #[.int .i64 k', .int .i64 n', .string s', .bool b', .int .i64 c']] W fun e w' => e = .returned (.bool (F g k n s b c k' n' s' b' c')) ∧ Below W.heap.size W w') := fun g k n s b c k' n' s' b' c' W z1 z2 hW => by
    have := Fits_any g k n s b c k' n' s' b' c' W (h.below hW).signs z1 z2
    rwa [hF] at this
  have f3 : rightB k' n' s' b' c' = true → (k' = 2 → quietB s'.data.toList = true) → F ⟨#[61]⟩ k' n' s' b' c' k' n' s' b' c' = true := fun hr hq => by rw [← hF]; exact fits_self hr hq
  unfold checkV at HV
  cases ha : alikeV k' n' s' b' c' k'' n'' s'' b'' c''
  · rw [ha] at HA
    cases hr : rightB k' n' s' b' c'
    · rw [hr] at HV
      exact same_n1 F hz1 hz2 hz3 HA HV HF HL
    rw [hr] at HV
    by_cases hk : k' = 2
    · cases hq : quietB s'.data.toList
      · rw [hq] at HQ
        exact same_n2 F hz1 hz2 hz3 HA hk HV HQ HF HL
      · rw [hq] at HQ
        exact same_n3 F hz1 hz2 hz3 HA (f3 hr fun _ => hq) hk HV HQ HF HL
    · exact same_n4 F hz1 hz2 hz3 HA (f3 hr fun e => absurd e hk) (by simp [hk]) HV HF HL
  · rw [ha] at HA
    have hr := (alike_parts ha).1
    rw [hr] at HV
    have h12 : F g k n s b c k' n' s' b' c' = F g k n s b c k'' n'' s'' b'' c'' := by rw [← hF, ← hF]; exact fits_alike ha
    cases hv : F g k n s b c k' n' s' b' c'
    · rw [hv] at h12
      by_cases hk : k' = 2
      · cases hq : quietB s'.data.toList
        · rw [hq] at HQ
          exact same_f2 F hz1 hz2 hz3 hv h12.symm HA hk HV HQ HF HL
        · rw [hq] at HQ
          exact same_f3 F hz1 hz2 hz3 hv h12.symm HA (f3 hr fun _ => hq) hk HV HQ HF HL
      · exact same_f4 F hz1 hz2 hz3 hv h12.symm HA (f3 hr fun e => absurd e hk) (by simp [hk]) HV HF HL
    · rw [hv] at h12
      by_cases hk : k' = 2
      · cases hq : quietB s'.data.toList
        · rw [hq] at HQ
          exact same_t2 F hz1 hz2 hz3 hv h12.symm HA hk HV HQ HF HL
        · rw [hq] at HQ
          exact same_t3 F hz1 hz2 hz3 hv h12.symm HA (f3 hr fun _ => hq) hk HV HQ HF HL
      · exact same_t4 F hz1 hz2 hz3 hv h12.symm HA (f3 hr fun e => absurd e hk) (by simp [hk]) HV HF HL
end Go.Proofs.YtpghgjibpbimeabDoor
