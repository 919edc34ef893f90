/-
  The contract of num.Parse.
-/
import Derived.Test.YtaokibkeoomfjaaDoorDigits
import Derived.Test.YtaokibkeoomfjaaDoorShelf
import Derived.Test.YtaokibkeoomfjaaDoorPrint
import Derived.Lib.IndexMore
namespace Go.Proofs.YtaokibkeoomfjaaDoor
open Go.RowKit

/-- Is a text, without its minus and cut at its point, a number's? -/
def okB (c : List UInt8 × List UInt8 × Bool) : Bool := digB c.1 && (!c.2.2 || (digB c.2.1 && decide (c.2.1.length ≤ 6)))
/-- All digits of a number's text, six behind the point. -/
def allDigits (c : List UInt8 × List UInt8 × Bool) : List UInt8 := c.1 ++ c.2.1 ++ List.replicate (6 - c.2.1.length) 48
/-- What Parse says. -/
def parseR (l : List UInt8) : Int × Int :=
  if 40 < l.length then (0, 5)
  else if okB (Lib.cut (Lib.trimPrefix l [45]) [46]) then told (put (Lib.hasPrefix l [45]) (gatherN (allDigits (Lib.cut (Lib.trimPrefix l [45]) [46])))) else (0, 5)

theorem cut_none {s sep : List UInt8} (h : (Lib.cut s sep).2.2 = false) : Lib.cut s sep = (s, [], false) := by
  unfold Lib.cut at *
  split at h
  · cases h
  · rename_i c; rw [if_neg c]
theorem cut_len (s sep : List UInt8) : (Lib.cut s sep).1.length ≤ s.length ∧ (Lib.cut s sep).2.1.length ≤ s.length := by
  unfold Lib.cut
  split
  · simp; omega
  · simp
theorem trimP_len (s p : List UInt8) : (Lib.trimPrefix s p).length ≤ s.length := by
  unfold Lib.trimPrefix; split <;> simp
theorem ok_digits {c : List UInt8 × List UInt8 × Bool} (h : okB c = true) (hn : c.2.2 = false → c.2.1 = []) : c.1.all isDig = true ∧ c.2.1.all isDig = true ∧ c.2.1.length ≤ 6 := by
  unfold okB digB at h
  obtain ⟨x, y, p⟩ := c
  cases p
  · have := hn rfl
    simp at this h ⊢
    subst this
    exact ⟨fun a ha => h.1 a ha, by simp, by simp⟩
  · simp at h ⊢
    exact ⟨h.1.1, h.2.1.1, h.2.2⟩
theorem all_digits {c : List UInt8 × List UInt8 × Bool} (h : okB c = true) (hn : c.2.2 = false → c.2.1 = []) : (allDigits c).all isDig = true := by
  obtain ⟨h1, h2, _⟩ := ok_digits h hn
  unfold allDigits
  rw [List.all_append, List.all_append, h1, h2, List.all_replicate]
  have : isDig 48 = true := by decide
  rw [this]; simp
theorem noughts_drop (k : Nat) (h : k ≤ 6) : ((⟨#[48, 48, 48, 48, 48, 48]⟩ : ByteArray).extract k 6) = ⟨(List.replicate (6 - k) 48).toArray⟩ := by
  have : k = 0 ∨ k = 1 ∨ k = 2 ∨ k = 3 ∨ k = 4 ∨ k = 5 ∨ k = 6 := by omega
  rcases this with h | h | h | h | h | h | h <;> subst h <;> rfl

set_option maxHeartbeats 1000000 in
theorem parse_any (s : ByteArray) (w : World) (m : Int) (hm : w.cell? ⟨2, 0, none⟩ = some (.int .i64 m)) (hs : s.size ≤ maxLen) :
    Calls Tryd.prog 48 #[.string s] w fun e w' => e = .returned (.tuple #[.int .i64 (parseR s.data.toList).1, .int .i64 (parseR s.data.toList).2]) ∧ Below w.heap.size w w' := by
  unfold maxLen at hs
  have hsz : s.size = s.data.toList.length := by simp
  by_cases h40 : 40 < s.size
  · have HE : Hid (parseR s.data.toList = (0, 5)) := by show parseR _ = _; unfold parseR; rw [if_pos (by omega)]
    clear hm hsz
    go_enter Tryd.func48, Tryd.ntmps48
    go_wp2
    go_ret2
    exact ⟨by rw [HE.out]; rfl, Below.refl _ _⟩
  · have HP := hide (fun W : World => Tryd.strings_CutPrefix s ⟨#[45]⟩ W)
    have e45 : (⟨#[45]⟩ : ByteArray).data.toList = [45] := rfl
    rw [e45] at HP
    have hpr : parseR s.data.toList = if okB (Lib.cut (Lib.trimPrefix s.data.toList [45]) [46]) then told (put (Lib.hasPrefix s.data.toList [45]) (gatherN (allDigits (Lib.cut (Lib.trimPrefix s.data.toList [45]) [46])))) else (0, 5) := by
      unfold parseR; rw [if_neg (by omega)]
    have hl := trimP_len s.data.toList [45]
    generalize Lib.hasPrefix s.data.toList [45] = neg at *
    generalize Lib.trimPrefix s.data.toList [45] = rest at *
    have HC := hide (fun (W : World) hW => Tryd.strings_Cut ⟨rest.toArray⟩ ⟨#[46]⟩ m W (by show rest.toArray.size < _; rw [List.size_toArray]; omega) hW)
    have e46 : (⟨#[46]⟩ : ByteArray).data.toList = [46] := rfl
    have er : (⟨rest.toArray⟩ : ByteArray).data.toList = rest := rfl
    rw [e46, er] at HC
    have hcl := cut_len rest [46]
    have hcn : (Lib.cut rest [46]).2.2 = false → (Lib.cut rest [46]).2.1 = [] := fun h => by rw [cut_none h]
    generalize Lib.cut rest [46] = c at *
    obtain ⟨whole, frac, pt⟩ := c
    have hcl1 : whole.length ≤ rest.length := hcl.1
    have hcl2 : frac.length ≤ rest.length := hcl.2
    have hcn' : pt = false → frac = [] := hcn
    clear hcl hcn
    have HC' : Hid (∀ W : World, W.cell? ⟨2, 0, none⟩ = some (.int .i64 m) → Calls Tryd.prog 67 #[.string ⟨rest.toArray⟩, .string ⟨#[46]⟩] W fun e w' => e = .returned (.tuple #[.string ⟨whole.toArray⟩, .string ⟨frac.toArray⟩, .bool pt]) ∧ ∃ n, w' = W.drewN n) := HC.out
    have HP' : Hid (∀ W : World, Calls Tryd.prog 66 #[.string s, .string ⟨#[45]⟩] W fun e w' => e = .returned (.tuple #[.string ⟨rest.toArray⟩, .bool neg]) ∧ w' = W) := HP.out
    have HM := hide hm
    have HDw := hide (fun W : World => isDigits_any ⟨whole.toArray⟩ W (by show whole.toArray.size ≤ _; rw [List.size_toArray]; omega))
    have HDf := hide (fun W : World => isFraction_any ⟨frac.toArray⟩ W (by show frac.toArray.size ≤ _; rw [List.size_toArray]; omega))
    have HDw' : Hid (∀ W : World, Calls Tryd.prog 68 #[.string ⟨whole.toArray⟩] W fun e w' => e = .returned (.bool (digB whole)) ∧ w' = W) := HDw.out
    have HDf' : Hid (∀ W : World, Calls Tryd.prog 69 #[.string ⟨frac.toArray⟩] W fun e w' => e = .returned (.bool (digB frac && decide (frac.length ≤ 6))) ∧ w' = W) := by
      have h : (⟨frac.toArray⟩ : ByteArray).size = frac.length := by show frac.toArray.size = _; rw [List.size_toArray]
      rw [h] at HDf; exact HDf.out
    have wl : whole.length ≤ 40 := by omega
    have fl : frac.length ≤ 40 := by omega
    have HN := hide hcn'
    have HR := hide hpr
    clear HC HP hm HDw HDf hcn' hpr e45 e46 er hsz
    cases hw : digB whole
    · have HE : Hid (parseR s.data.toList = (0, 5)) := by show parseR _ = _; rw [HR.out]; simp [okB, hw]
      go_enter Tryd.func48, Tryd.ntmps48
      go_wp2_with (first | (go_at_call 66; refine (HP'.out _).mono ?_; rintro e w' ⟨rfl, rfl⟩) | (go_at_call 67; refine (HC'.out _ HM.out).mono ?_; rintro e w1 ⟨rfl, nd, rfl⟩) | (go_at_call 68; refine (HDw'.out _).mono ?_; rintro e w2 ⟨rfl, rfl⟩))
      go_ret2
      exact ⟨by rw [HE.out]; rfl, below_drewN (Below.refl _ _) _⟩
    · cases hf : (!pt || (digB frac && decide (frac.length ≤ 6)))
      · have hno : okB (whole, frac, pt) = false := by simp only [okB, hw, Bool.true_and]; exact hf
        have HE : Hid (parseR s.data.toList = (0, 5)) := by show parseR _ = _; rw [HR.out, hno]; rfl
        clear hno
        have hp1 : pt = true := by cases pt <;> simp at hf ⊢
        have hp2 : (digB frac && decide (frac.length ≤ 6)) = false := by subst hp1; simpa using hf
        clear hf
        rw [hp2] at HDf'
        clear hp2
        subst hp1
        go_enter Tryd.func48, Tryd.ntmps48
        go_wp2_with (first | (go_at_call 66; refine (HP'.out _).mono ?_; rintro e w' ⟨rfl, rfl⟩) | (go_at_call 67; refine (HC'.out _ HM.out).mono ?_; rintro e w1 ⟨rfl, nd, rfl⟩) | (go_at_call 68; refine (HDw'.out _).mono ?_; rintro e w2 ⟨rfl, rfl⟩) | (go_at_call 69; refine (HDf'.out _).mono ?_; rintro e w2 ⟨rfl, rfl⟩))
        go_ret2
        exact ⟨by rw [HE.out]; rfl, below_drewN (Below.refl _ _) _⟩
      · have hok : okB (whole, frac, pt) = true := by simp only [okB, hw, Bool.true_and]; exact hf
        have hall := all_digits hok HN.out
        obtain ⟨_, _, hf6⟩ := ok_digits hok HN.out
        have hf6' : frac.length ≤ 6 := hf6
        have HE : Hid (parseR s.data.toList = told (put neg (gatherN (allDigits (whole, frac, pt))))) := by show parseR _ = _; rw [HR.out, if_pos hok]
        obtain ⟨g1, g2⟩ := gatherN_bd hall
        have HG : Hid (∀ W : World, Calls Tryd.prog 72 #[.string ((⟨whole.toArray⟩ : ByteArray) ++ ⟨frac.toArray⟩ ++ (⟨#[48, 48, 48, 48, 48, 48]⟩ : ByteArray).extract frac.length 6)] W fun e w' => e = .returned (.int .u64 (gatherN (allDigits (whole, frac, pt)))) ∧ w' = W) := by
          intro W
          have e : ((⟨whole.toArray⟩ : ByteArray) ++ ⟨frac.toArray⟩ ++ (⟨#[48, 48, 48, 48, 48, 48]⟩ : ByteArray).extract frac.length 6) = ⟨(allDigits (whole, frac, pt)).toArray⟩ := by
            rw [noughts_drop _ hf6', ba_app, ba_app]; rfl
          rw [e]
          exact gather_any ⟨(allDigits (whole, frac, pt)).toArray⟩ W (by show (allDigits (whole, frac, pt)).toArray.size ≤ _; rw [List.size_toArray]; simp [allDigits]; omega) hall
        generalize gatherN (allDigits (whole, frac, pt)) = G at *
        clear hall hok hf6 HR
        cases pt
        · clear hf HDf'
          go_enter Tryd.func48, Tryd.ntmps48
          go_wp2_with (first | (go_at_call 66; refine (HP'.out _).mono ?_; rintro e w' ⟨rfl, rfl⟩) | (go_at_call 67; refine (HC'.out _ HM.out).mono ?_; rintro e w1 ⟨rfl, nd, rfl⟩) | (go_at_call 68; refine (HDw'.out _).mono ?_; rintro e w2 ⟨rfl, rfl⟩) | (go_at_call 71; refine (signed_any _ _).mono ?_; rintro e w3 ⟨rfl, rfl⟩))
          refine (HG.out _).mono ?_
          rintro e w4 ⟨rfl, rfl⟩
          go_wp2_with fail
          refine (put_any G neg _ _ g1 (by omega) (by exact World.cell?_alloc_new _ _ _ 0)).mono ?_
          rintro e w5 ⟨rfl, rfl⟩
          go_wp2_with (go_at_call 70; refine (fitted_any _ _).mono ?_; rintro e w2 ⟨rfl, rfl⟩)
          go_ret2
          exact ⟨by rw [HE.out]; rfl, (below_drewN (Below.refl _ _) _).alloc (Nat.le_refl _) _⟩
        · have hp2 : (digB frac && decide (frac.length ≤ 6)) = true := by simpa using hf
          clear hf
          rw [hp2] at HDf'
          clear hp2
          go_enter Tryd.func48, Tryd.ntmps48
          go_wp2_with (first | (go_at_call 66; refine (HP'.out _).mono ?_; rintro e w' ⟨rfl, rfl⟩) | (go_at_call 67; refine (HC'.out _ HM.out).mono ?_; rintro e w1 ⟨rfl, nd, rfl⟩) | (go_at_call 68; refine (HDw'.out _).mono ?_; rintro e w2 ⟨rfl, rfl⟩) | (go_at_call 69; refine (HDf'.out _).mono ?_; rintro e w2 ⟨rfl, rfl⟩) | (go_at_call 71; refine (signed_any _ _).mono ?_; rintro e w3 ⟨rfl, rfl⟩))
          refine (HG.out _).mono ?_
          rintro e w4 ⟨rfl, rfl⟩
          go_wp2_with fail
          refine (put_any G neg _ _ g1 (by omega) (by exact World.cell?_alloc_new _ _ _ 0)).mono ?_
          rintro e w5 ⟨rfl, rfl⟩
          go_wp2_with (go_at_call 70; refine (fitted_any _ _).mono ?_; rintro e w2 ⟨rfl, rfl⟩)
          go_ret2
          exact ⟨by rw [HE.out]; rfl, (below_drewN (Below.refl _ _) _).alloc (Nat.le_refl _) _⟩
end Go.Proofs.YtaokibkeoomfjaaDoor
