/-
  The contract of num.Print.
-/
import Derived.Test.YtaokibkeoomfjaaDoorFmt
namespace Go.Proofs.YtaokibkeoomfjaaDoor
open Go.RowKit Go.Sort Go.Lib

/-- The fraction's digits, six of them, then those up to the last that is not 0. -/
def frac6 (m : Int) : List UInt8 := (Lib.decDigits (m % 1000000 + 1000000).toNat).tail
def fracT (m : Int) : List UInt8 := Lib.trimRightB (frac6 m) 48
/-- A number's text. -/
def textOf (n : Int) : List UInt8 :=
  (if n < 0 then [45] else []) ++ Lib.decDigits (absI n / 1000000).toNat ++ (if fracT (absI n) = [] then [] else 46 :: fracT (absI n))

set_option maxHeartbeats 400000 in
theorem print_bad (n : Int) (w : World) (h : fitsB n = false) :
    Calls Tryd.prog 35 #[.int .i64 n] w fun e w' => e = .returned (.tuple #[.string ⟨#[]⟩, .int .i64 2]) ∧ w' = w := by
  go_enter Tryd.func35, Tryd.ntmps35
  go_wp2_with (go_at_call 55; refine (fits_any _ _).mono ?_; rintro e w' ⟨rfl, rfl⟩)
  go_ret2
  exact ⟨rfl, rfl⟩

theorem dec_len {u : Nat} (h : u < 18446744073709551616) : (Lib.decDigits u).length ≤ 20 := by
  rw [Lib.decDigits_length]
  by_cases h1 : 1 ≤ u
  · have := Lib.numDigits_eq u h1 h; split at this <;> omega
  · have : u = 0 := by omega
    subst this
    rw [Lib.nDigits_small (by omega)]; omega

theorem dec_pos (u : Nat) : 1 ≤ (Lib.decDigits u).length := by
  rw [Lib.decDigits_length]
  by_cases h : u < 10
  · rw [Lib.nDigits_small h]; exact Nat.le_refl _
  · rw [Lib.nDigits_big h]; omega

theorem extract_tail (B : List UInt8) : ((⟨B.toArray⟩ : ByteArray).extract 1 B.length).data.toList = B.tail := by
  simp [ByteArray.extract, ByteArray.copySlice]
  exact List.take_of_length_le (by simp)
theorem ba_app (a b : List UInt8) : (⟨a.toArray⟩ : ByteArray) ++ ⟨b.toArray⟩ = ⟨(a ++ b).toArray⟩ := ByteArray.ext (by simp)
theorem text_dot (S A F : List UInt8) : (⟨(S ++ A ++ 46 :: F).toArray⟩ : ByteArray) = (⟨S.toArray⟩ ++ ⟨A.toArray⟩) ++ (⟨#[46]⟩ ++ ⟨F.toArray⟩) := by
  have h : (⟨#[46]⟩ : ByteArray) = ⟨([46] : List UInt8).toArray⟩ := rfl
  rw [h, ba_app, ba_app, ba_app]; rfl
theorem trim_len (l : List UInt8) (c : UInt8) : (Lib.trimRightB l c).length ≤ l.length := by
  unfold Lib.trimRightB
  rw [List.length_reverse]
  refine Nat.le_trans (List.dropWhile_sublist _).length_le ?_
  rw [List.length_reverse]; exact Nat.le_refl _

set_option maxHeartbeats 1000000 in
theorem print_good (n : Int) (w : World) (h : fitsB n = true) (htab : TabOk w) :
    Calls Tryd.prog 35 #[.int .i64 n] w fun e w' => e = .returned (.tuple #[.string ⟨(textOf n).toArray⟩, .int .i64 0]) ∧ Below w.heap.size w w' := by
  obtain ⟨n1, n2⟩ := fitsB_true h
  have x0 := absI_nn n
  have x1 := absI_le n1 n2
  have HF1 : Hid (∀ W : World, TabOk W → Calls Tryd.prog 56 #[.int .u64 (absI n / 1000000), .int .i64 10] W fun e w' => e = .returned (.string ⟨(Lib.decDigits (absI n / 1000000).toNat).toArray⟩) ∧ Below W.heap.size W w') := fun W hW => formatUint_any _ (by omega) (by omega) W hW
  have HF2 : Hid (∀ W : World, TabOk W → Calls Tryd.prog 56 #[.int .u64 (absI n % 1000000 + 1000000), .int .i64 10] W fun e w' => e = .returned (.string ⟨(Lib.decDigits (absI n % 1000000 + 1000000).toNat).toArray⟩) ∧ Below W.heap.size W w') := fun W hW => formatUint_any _ (by omega) (by omega) W hW
  have HX : Hid (textOf n = (if n < 0 then [45] else []) ++ Lib.decDigits (absI n / 1000000).toNat ++ (if Lib.trimRightB (Lib.decDigits (absI n % 1000000 + 1000000).toNat).tail 48 = [] then [] else 46 :: Lib.trimRightB (Lib.decDigits (absI n % 1000000 + 1000000).toNat).tail 48)) := rfl
  have lA := dec_len (u := (absI n / 1000000).toNat) (by omega)
  have lB := dec_len (u := (absI n % 1000000 + 1000000).toNat) (by omega)
  have pB := dec_pos (absI n % 1000000 + 1000000).toNat
  generalize Lib.decDigits (absI n / 1000000).toNat = A at *
  generalize Lib.decDigits (absI n % 1000000 + 1000000).toNat = B at *
  have HR : Hid (∀ W : World, Calls Tryd.prog 58 #[.string ((⟨B.toArray⟩ : ByteArray).extract 1 B.length), .string ⟨#[48]⟩] W fun e w' => e = .returned (.string ⟨(Lib.trimRightB B.tail 48).toArray⟩) ∧ w' = W) := fun W => by
    have := Tryd.strings_TrimRight_one ((⟨B.toArray⟩ : ByteArray).extract 1 B.length) 48 (by decide) W (by
      show ((⟨B.toArray⟩ : ByteArray).extract 1 B.length).data.size ≤ _
      rw [← Array.length_toList, extract_tail, List.length_tail]; omega)
    rw [extract_tail] at this
    exact this
  have lF : (Lib.trimRightB B.tail 48).length ≤ 20 := by
    have h1 := trim_len B.tail 48
    rw [List.length_tail] at h1; omega
  generalize Lib.trimRightB B.tail 48 = F at *
  have HT := hide htab
  clear htab
  by_cases hn : n < 0
  · go_enter Tryd.func35, Tryd.ntmps35
    go_wp2_with (first | (go_at_call 55; refine (fits_any _ _).mono ?_; rintro e w' ⟨rfl, rfl⟩) | (go_at_call 57; refine (size_any _ _ n1 n2).mono ?_; rintro e w' ⟨rfl, rfl⟩))
    refine (HF1.out _ HT.out).mono ?_
    rintro e w1 ⟨rfl, hb1⟩
    have HT1 := hide (tab_below HT.out hb1)
    go_wp2_with (go_at_call 57; refine (size_any _ _ n1 n2).mono ?_; rintro e w1 ⟨rfl, rfl⟩)
    refine (HF2.out _ HT1.out).mono ?_
    rintro e w2 ⟨rfl, hb2⟩
    by_cases hF : F = []
    · subst hF
      go_wp2_with (go_at_call 58; refine (HR.out _).mono ?_; rintro e w3 ⟨rfl, rfl⟩)
      go_ret2
      refine ⟨?_, hb1.trans (hb2.mono hb1.size)⟩
      rw [HX.out, if_pos hn, if_pos trivial, List.append_nil, ← ba_app]
      rfl
    · have tF : F.isEmpty = false := by cases F with | nil => exact absurd rfl hF | cons _ _ => rfl
      go_wp2_with (go_at_call 58; refine (HR.out _).mono ?_; rintro e w3 ⟨rfl, rfl⟩)
      go_ret2
      refine ⟨?_, hb1.trans (hb2.mono hb1.size)⟩
      rw [HX.out, if_pos hn, if_neg hF, text_dot]
      rfl
  · go_enter Tryd.func35, Tryd.ntmps35
    go_wp2_with (first | (go_at_call 55; refine (fits_any _ _).mono ?_; rintro e w' ⟨rfl, rfl⟩) | (go_at_call 57; refine (size_any _ _ n1 n2).mono ?_; rintro e w' ⟨rfl, rfl⟩))
    refine (HF1.out _ HT.out).mono ?_
    rintro e w1 ⟨rfl, hb1⟩
    have HT1 := hide (tab_below HT.out hb1)
    go_wp2_with (go_at_call 57; refine (size_any _ _ n1 n2).mono ?_; rintro e w1 ⟨rfl, rfl⟩)
    refine (HF2.out _ HT1.out).mono ?_
    rintro e w2 ⟨rfl, hb2⟩
    by_cases hF : F = []
    · subst hF
      go_wp2_with (go_at_call 58; refine (HR.out _).mono ?_; rintro e w3 ⟨rfl, rfl⟩)
      go_ret2
      refine ⟨?_, hb1.trans (hb2.mono hb1.size)⟩
      rw [HX.out, if_neg (by omega), if_pos trivial, List.append_nil, ← ba_app]
      rfl
    · have tF : F.isEmpty = false := by cases F with | nil => exact absurd rfl hF | cons _ _ => rfl
      go_wp2_with (go_at_call 58; refine (HR.out _).mono ?_; rintro e w3 ⟨rfl, rfl⟩)
      go_ret2
      refine ⟨?_, hb1.trans (hb2.mono hb1.size)⟩
      rw [HX.out, if_neg (by omega), if_neg hF, text_dot]
      rfl
end Go.Proofs.YtaokibkeoomfjaaDoor
