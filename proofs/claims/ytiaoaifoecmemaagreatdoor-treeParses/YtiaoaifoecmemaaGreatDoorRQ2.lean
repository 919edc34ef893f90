/-
  Plain words on the tokens of a text: each is one that a node may have; a name has its bracket just behind it.
  The reader's small steps: how tightly a sign binds; whether a sign stands next; a token taken; giving up.
  Nodes in memory: a head's cells, a row of nodes, a slice of kids; the contract of the reader's cells.
-/
import Derived.Test.YtiaoaifoecmemaaGreatDoorRQ1
import Derived.Test.YtiaoaifoecmemaaGreatDoorRLxM4
import Derived.Defers
import Derived.Recover
import Derived.Deep.MidRow
import Derived.Deep.WholeRow
import Derived.Great.BuildSlice
set_option maxRecDepth 100000
set_option maxHeartbeats 4000000
namespace Go.Proofs.YtiaoaifoecmemaaGreatDoor
open Go.RowKit
theorem fit_of {t : Tok} (h : FitT t) (p : Int) : FitT (t.put p) := h
theorem fit_op {t : Tok} (h : t.kind = 4) : FitT t := ⟨fun e => by omega, fun e => by omega, fun e => by omega⟩
theorem fit_val {vk vn : Int} {vs : List UInt8} {vb : Bool} {vc : Int} (h : constB (valH (valTok vk vn vs vb vc)) = true) : FitT (valTok vk vn vs vb vc) :=
 ⟨fun _ => h, fun e => absurd e (by simp [valTok]), fun e => absurd e (by simp [valTok])⟩
theorem parse_ge {l : List UInt8} (h : (parseR l).2 = 0) (hm : Lib.hasPrefix l [45] = false) : fitsB (parseR l).1 = true ∧ 0 ≤ (parseR l).1 := by
  unfold parseR at *
  split at h
  · exact absurd h (by simp)
  · rename_i h40
    rw [if_neg h40]
    split at h
    · rename_i hok
      rw [if_pos hok]
      have hg := (gatherN_bd (all_digits hok (fun hn => by rw [cut_none hn]))).1
      rw [hm] at h ⊢
      simp only [put, Bool.false_eq_true, if_false] at h ⊢
      unfold told at *
      split at h
      · rename_i hf
        rw [if_pos hf]; exact ⟨hf, hg⟩
      · exact absurd h (by simp)
    · exact absurd h (by simp)
theorem fit_number {c : UInt8} (r : List UInt8) (h : isDig c = true) : FitT (numberT (c :: r)).1 := by
  unfold numberT
  split
  · rename_i h0
    have hn : numB c = true := by unfold numB; simp [h]
    have hm : Lib.hasPrefix ((c :: r).take (runN numB (c :: r))) [45] = false := by
      have h1 : 1 ≤ runN numB (c :: r) := run_pos hn
      obtain ⟨j, hj⟩ : ∃ j, runN numB (c :: r) = j + 1 := ⟨runN numB (c :: r) - 1, by omega⟩
      rw [hj, List.take_succ_cons]
      have hc := isDig_iff.1 h
      have : c ≠ 45 := fun e => by rw [e] at hc; exact absurd hc (by decide)
      simp [Lib.hasPrefix, List.isPrefixOf, Ne.symm this]
    obtain ⟨h1, h2⟩ := parse_ge h0 hm
    refine fit_val ?_
    simp only [constB, valH, valTok, rightB]
    simp [h1, h2]
  · exact fit_zt
theorem fit_text (l : List UInt8) : FitT (textT l).1 := by
  unfold textT
  cases e : txt l.tail with
  | none => exact fit_zt
  | some x =>
    show FitT (if 255 < x.1.length then (zt, 0, 7) else (valTok 2 0 x.1 false 0, x.2 + 1, (0 : Int)) : Tok × Nat × Int).1
    split
    · exact fit_zt
    · rename_i h
      refine fit_val ?_
      simp only [constB, valH, valTok, rightB]
      have : (⟨x.1.toArray⟩ : ByteArray).size = x.1.length := by show x.1.toArray.size = _; simp
      simp [this]; omega
theorem fit_fault (l : List UInt8) : FitT (faultT l).1 := by
 unfold faultT
 cases e : pick nameL l 1 7 with
 | none => exact fit_zt
 | some k =>
  obtain ⟨h1, h2, _⟩ := pick_some e
  refine fit_val ?_
  have h3 : (1 : Int) ≤ (k : Int) := by omega
  have h4 : (k : Int) ≤ 7 := by omega
  simp only [constB, valH, valTok, rightB]
  simp [h3, h4]
theorem fit_sign (l : List UInt8) : FitT (signT l).1 := by
 unfold signT
 cases pick signL l 0 15 with
 | none => exact fit_zt
 | some k => exact fit_op rfl
theorem fold_name {c : UInt8} (h : wordB c = true) (hd : c.toNat ≠ 36) : nameC (foldB c) = true := by
  unfold wordB letterB isDig at h
  simp only [Bool.or_eq_true, decide_eq_true_eq, Bool.and_eq_true] at h
  unfold nameC greatB digitB
  simp only [Bool.or_eq_true, Bool.and_eq_true, decide_eq_true_eq]
  by_cases hs : 97 ≤ c.toNat ∧ c.toNat ≤ 122
  · rw [foldB_in hs.1 hs.2]; omega
  · rw [foldB_out hs]; omega
theorem fold_great {c : UInt8} (h : letterB c = true) : greatB (foldB c) = true := by
  unfold letterB at h
  simp only [Bool.or_eq_true, decide_eq_true_eq] at h
  unfold greatB
  simp only [Bool.and_eq_true, decide_eq_true_eq]
  by_cases hs : 97 ≤ c.toNat ∧ c.toNat ≤ 122
  · rw [foldB_in hs.1 hs.2]; omega
  · rw [foldB_out hs]; omega
theorem take_run {p : UInt8 → Bool} (l : List UInt8) : l.take (runN p l) = l.takeWhile p := by
  unfold runN
  induction l with
  | nil => rfl
  | cons c l ih =>
    rw [List.takeWhile_cons]
    split
    · simp [ih]
    · rfl
theorem fit_name {c : UInt8} (r : List UInt8) (h : letterB c = true ∨ c.toNat = 36) : FitT (nameT ((c :: r).take (runN wordB (c :: r)))).1 := by
  have hw : wordB c = true := by unfold wordB; rcases h with h | h <;> simp [h]
  rw [take_run]
  have hall : ((c :: r).takeWhile wordB).all wordB = true := List.all_takeWhile
  rw [List.takeWhile_cons, if_pos hw] at hall ⊢
  generalize r.takeWhile wordB = q at *
  unfold nameT
  split
  · exact fit_zt
  · rename_i hn
    simp only [Bool.or_eq_true, not_or, decide_eq_true_eq, Bool.not_eq_true] at hn
    obtain ⟨h1, h2⟩ := hn
    refine ⟨fun e => absurd e (by simp [nameTok]), fun e => absurd e (by simp [nameTok]), fun _ => ?_⟩
    have hc : letterB c = true := by
      rcases h with h | h
      · exact h
      · simp [h] at h1
    simp only [nameTok, nameOk, foldL, List.map_cons, List.headD_cons, List.isEmpty_cons, Bool.not_false, Bool.true_and, List.length_cons, List.length_map, List.all_cons, Bool.and_eq_true, decide_eq_true_eq, List.all_map]
    simp only [List.any_cons, Bool.or_eq_false_iff, decide_eq_false_iff_not] at h1
    simp only [List.all_cons, Bool.and_eq_true] at hall
    refine ⟨⟨by simpa using h2, fold_great hc⟩, fold_name hall.1 h1.1, ?_⟩
    rw [List.all_eq_true]
    intro x hx
    exact fold_name (List.all_eq_true.1 hall.2 x hx) (fun e => by have := List.any_eq_false.1 h1.2 x hx; simp [e] at this)
theorem fit_plain (w : List UInt8) : FitT (plainT w).1 := by
  unfold plainT
  split
  · refine fit_val ?_
    simp only [constB, valH, valTok, rightB]
    simp
  · split
    · rename_i h
      refine ⟨fun e => absurd e (by simp [cellTok]), fun _ => ?_, fun e => absurd e (by simp [cellTok])⟩
      simp only [cellTok]
      unfold Pla.parseR at *
      split at h
      · exact absurd h (by simp)
      · rename_i h0
        rw [if_neg h0]
        split at h
        · rename_i h1
          rw [if_pos h1]; exact h1
        · exact absurd h (by simp)
    · exact fit_zt
theorem fit_first (l : List UInt8) : FitT (firstT l).1 := by
  match l with
  | [] => exact fit_zt
  | c :: r =>
    show FitT (if isDig c then _ else _ : Tok × Nat × Int).1
    split
    · exact fit_number r (by assumption)
    · split
      · exact fit_text _
      · split
        · exact fit_fault _
        · split
          · rename_i h
            unfold wordT
            split
            · exact fit_name r (by simpa using h)
            · exact fit_plain _
          · exact fit_sign _
theorem fit_run : ∀ (f p : Nat) (l : List UInt8), ∀ x ∈ runG f p l, FitT x.1
  | 0, _, _, x, h => by simp [runG] at h
  | f + 1, p, l, x, h => by
    rw [run_step f p l _ rfl _ rfl] at h
    simp only [List.mem_cons] at h
    rcases h with rfl | h
    · exact fit_of (fit_first _) _
    · split at h
      · simp at h
      · exact fit_run f _ _ x h
theorem fit_scan (l : List UInt8) : Fits (scanR l).1 := by
  by_cases h : (scanR l).2.2 = 0
  · obtain ⟨_, _, h3⟩ := scan_zero h
    rw [h3]
    intro t ht
    simp only [List.mem_map] at ht
    obtain ⟨x, hx, rfl⟩ := ht
    exact fit_run _ _ _ x hx
  · rw [scan_bad h]; intro t ht; simp at ht
theorem binding_61 (w : World) : Calls Tryz.prog 56 #[.string ⟨#[61]⟩] w fun e w' => e = .returned (.int .i64 1) ∧ w' = w := by
 have e61 : ((⟨#[61]⟩ : ByteArray).toList == [61]) = true := by kernel_rfl
 have e60_62 : ((⟨#[61]⟩ : ByteArray).toList == [60, 62]) = false := by kernel_rfl
 have e60 : ((⟨#[61]⟩ : ByteArray).toList == [60]) = false := by kernel_rfl
 have e62 : ((⟨#[61]⟩ : ByteArray).toList == [62]) = false := by kernel_rfl
 have e60_61 : ((⟨#[61]⟩ : ByteArray).toList == [60, 61]) = false := by kernel_rfl
 have e62_61 : ((⟨#[61]⟩ : ByteArray).toList == [62, 61]) = false := by kernel_rfl
 have e38 : ((⟨#[61]⟩ : ByteArray).toList == [38]) = false := by kernel_rfl
 have e43 : ((⟨#[61]⟩ : ByteArray).toList == [43]) = false := by kernel_rfl
 have e45 : ((⟨#[61]⟩ : ByteArray).toList == [45]) = false := by kernel_rfl
 have e42 : ((⟨#[61]⟩ : ByteArray).toList == [42]) = false := by kernel_rfl
 have e47 : ((⟨#[61]⟩ : ByteArray).toList == [47]) = false := by kernel_rfl
 go_enter Tryz.func56, Tryz.ntmps56
 go_wp2
 go_ret
 exact ⟨rfl, rfl⟩
theorem binding_60_62 (w : World) : Calls Tryz.prog 56 #[.string ⟨#[60, 62]⟩] w fun e w' => e = .returned (.int .i64 1) ∧ w' = w := by
 have e61 : ((⟨#[60, 62]⟩ : ByteArray).toList == [61]) = false := by kernel_rfl
 have e60_62 : ((⟨#[60, 62]⟩ : ByteArray).toList == [60, 62]) = true := by kernel_rfl
 have e60 : ((⟨#[60, 62]⟩ : ByteArray).toList == [60]) = false := by kernel_rfl
 have e62 : ((⟨#[60, 62]⟩ : ByteArray).toList == [62]) = false := by kernel_rfl
 have e60_61 : ((⟨#[60, 62]⟩ : ByteArray).toList == [60, 61]) = false := by kernel_rfl
 have e62_61 : ((⟨#[60, 62]⟩ : ByteArray).toList == [62, 61]) = false := by kernel_rfl
 have e38 : ((⟨#[60, 62]⟩ : ByteArray).toList == [38]) = false := by kernel_rfl
 have e43 : ((⟨#[60, 62]⟩ : ByteArray).toList == [43]) = false := by kernel_rfl
 have e45 : ((⟨#[60, 62]⟩ : ByteArray).toList == [45]) = false := by kernel_rfl
 have e42 : ((⟨#[60, 62]⟩ : ByteArray).toList == [42]) = false := by kernel_rfl
 have e47 : ((⟨#[60, 62]⟩ : ByteArray).toList == [47]) = false := by kernel_rfl
 go_enter Tryz.func56, Tryz.ntmps56
 go_wp2
 go_ret
 exact ⟨rfl, rfl⟩
theorem binding_60 (w : World) : Calls Tryz.prog 56 #[.string ⟨#[60]⟩] w fun e w' => e = .returned (.int .i64 1) ∧ w' = w := by
 have e61 : ((⟨#[60]⟩ : ByteArray).toList == [61]) = false := by kernel_rfl
 have e60_62 : ((⟨#[60]⟩ : ByteArray).toList == [60, 62]) = false := by kernel_rfl
 have e60 : ((⟨#[60]⟩ : ByteArray).toList == [60]) = true := by kernel_rfl
 have e62 : ((⟨#[60]⟩ : ByteArray).toList == [62]) = false := by kernel_rfl
 have e60_61 : ((⟨#[60]⟩ : ByteArray).toList == [60, 61]) = false := by kernel_rfl
 have e62_61 : ((⟨#[60]⟩ : ByteArray).toList == [62, 61]) = false := by kernel_rfl
 have e38 : ((⟨#[60]⟩ : ByteArray).toList == [38]) = false := by kernel_rfl
 have e43 : ((⟨#[60]⟩ : ByteArray).toList == [43]) = false := by kernel_rfl
 have e45 : ((⟨#[60]⟩ : ByteArray).toList == [45]) = false := by kernel_rfl
 have e42 : ((⟨#[60]⟩ : ByteArray).toList == [42]) = false := by kernel_rfl
 have e47 : ((⟨#[60]⟩ : ByteArray).toList == [47]) = false := by kernel_rfl
 go_enter Tryz.func56, Tryz.ntmps56
 go_wp2
 go_ret
 exact ⟨rfl, rfl⟩
theorem binding_62 (w : World) : Calls Tryz.prog 56 #[.string ⟨#[62]⟩] w fun e w' => e = .returned (.int .i64 1) ∧ w' = w := by
 have e61 : ((⟨#[62]⟩ : ByteArray).toList == [61]) = false := by kernel_rfl
 have e60_62 : ((⟨#[62]⟩ : ByteArray).toList == [60, 62]) = false := by kernel_rfl
 have e60 : ((⟨#[62]⟩ : ByteArray).toList == [60]) = false := by kernel_rfl
 have e62 : ((⟨#[62]⟩ : ByteArray).toList == [62]) = true := by kernel_rfl
 have e60_61 : ((⟨#[62]⟩ : ByteArray).toList == [60, 61]) = false := by kernel_rfl
 have e62_61 : ((⟨#[62]⟩ : ByteArray).toList == [62, 61]) = false := by kernel_rfl
 have e38 : ((⟨#[62]⟩ : ByteArray).toList == [38]) = false := by kernel_rfl
 have e43 : ((⟨#[62]⟩ : ByteArray).toList == [43]) = false := by kernel_rfl
 have e45 : ((⟨#[62]⟩ : ByteArray).toList == [45]) = false := by kernel_rfl
 have e42 : ((⟨#[62]⟩ : ByteArray).toList == [42]) = false := by kernel_rfl
 have e47 : ((⟨#[62]⟩ : ByteArray).toList == [47]) = false := by kernel_rfl
 go_enter Tryz.func56, Tryz.ntmps56
 go_wp2
 go_ret
 exact ⟨rfl, rfl⟩
theorem binding_60_61 (w : World) : Calls Tryz.prog 56 #[.string ⟨#[60, 61]⟩] w fun e w' => e = .returned (.int .i64 1) ∧ w' = w := by
 have e61 : ((⟨#[60, 61]⟩ : ByteArray).toList == [61]) = false := by kernel_rfl
 have e60_62 : ((⟨#[60, 61]⟩ : ByteArray).toList == [60, 62]) = false := by kernel_rfl
 have e60 : ((⟨#[60, 61]⟩ : ByteArray).toList == [60]) = false := by kernel_rfl
 have e62 : ((⟨#[60, 61]⟩ : ByteArray).toList == [62]) = false := by kernel_rfl
 have e60_61 : ((⟨#[60, 61]⟩ : ByteArray).toList == [60, 61]) = true := by kernel_rfl
 have e62_61 : ((⟨#[60, 61]⟩ : ByteArray).toList == [62, 61]) = false := by kernel_rfl
 have e38 : ((⟨#[60, 61]⟩ : ByteArray).toList == [38]) = false := by kernel_rfl
 have e43 : ((⟨#[60, 61]⟩ : ByteArray).toList == [43]) = false := by kernel_rfl
 have e45 : ((⟨#[60, 61]⟩ : ByteArray).toList == [45]) = false := by kernel_rfl
 have e42 : ((⟨#[60, 61]⟩ : ByteArray).toList == [42]) = false := by kernel_rfl
 have e47 : ((⟨#[60, 61]⟩ : ByteArray).toList == [47]) = false := by kernel_rfl
 go_enter Tryz.func56, Tryz.ntmps56
 go_wp2
 go_ret
 exact ⟨rfl, rfl⟩
theorem binding_62_61 (w : World) : Calls Tryz.prog 56 #[.string ⟨#[62, 61]⟩] w fun e w' => e = .returned (.int .i64 1) ∧ w' = w := by
 have e61 : ((⟨#[62, 61]⟩ : ByteArray).toList == [61]) = false := by kernel_rfl
 have e60_62 : ((⟨#[62, 61]⟩ : ByteArray).toList == [60, 62]) = false := by kernel_rfl
 have e60 : ((⟨#[62, 61]⟩ : ByteArray).toList == [60]) = false := by kernel_rfl
 have e62 : ((⟨#[62, 61]⟩ : ByteArray).toList == [62]) = false := by kernel_rfl
 have e60_61 : ((⟨#[62, 61]⟩ : ByteArray).toList == [60, 61]) = false := by kernel_rfl
 have e62_61 : ((⟨#[62, 61]⟩ : ByteArray).toList == [62, 61]) = true := by kernel_rfl
 have e38 : ((⟨#[62, 61]⟩ : ByteArray).toList == [38]) = false := by kernel_rfl
 have e43 : ((⟨#[62, 61]⟩ : ByteArray).toList == [43]) = false := by kernel_rfl
 have e45 : ((⟨#[62, 61]⟩ : ByteArray).toList == [45]) = false := by kernel_rfl
 have e42 : ((⟨#[62, 61]⟩ : ByteArray).toList == [42]) = false := by kernel_rfl
 have e47 : ((⟨#[62, 61]⟩ : ByteArray).toList == [47]) = false := by kernel_rfl
 go_enter Tryz.func56, Tryz.ntmps56
 go_wp2
 go_ret
 exact ⟨rfl, rfl⟩
theorem binding_38 (w : World) : Calls Tryz.prog 56 #[.string ⟨#[38]⟩] w fun e w' => e = .returned (.int .i64 2) ∧ w' = w := by
 have e61 : ((⟨#[38]⟩ : ByteArray).toList == [61]) = false := by kernel_rfl
 have e60_62 : ((⟨#[38]⟩ : ByteArray).toList == [60, 62]) = false := by kernel_rfl
 have e60 : ((⟨#[38]⟩ : ByteArray).toList == [60]) = false := by kernel_rfl
 have e62 : ((⟨#[38]⟩ : ByteArray).toList == [62]) = false := by kernel_rfl
 have e60_61 : ((⟨#[38]⟩ : ByteArray).toList == [60, 61]) = false := by kernel_rfl
 have e62_61 : ((⟨#[38]⟩ : ByteArray).toList == [62, 61]) = false := by kernel_rfl
 have e38 : ((⟨#[38]⟩ : ByteArray).toList == [38]) = true := by kernel_rfl
 have e43 : ((⟨#[38]⟩ : ByteArray).toList == [43]) = false := by kernel_rfl
 have e45 : ((⟨#[38]⟩ : ByteArray).toList == [45]) = false := by kernel_rfl
 have e42 : ((⟨#[38]⟩ : ByteArray).toList == [42]) = false := by kernel_rfl
 have e47 : ((⟨#[38]⟩ : ByteArray).toList == [47]) = false := by kernel_rfl
 go_enter Tryz.func56, Tryz.ntmps56
 go_wp2
 go_ret
 exact ⟨rfl, rfl⟩
theorem binding_43 (w : World) : Calls Tryz.prog 56 #[.string ⟨#[43]⟩] w fun e w' => e = .returned (.int .i64 3) ∧ w' = w := by
 have e61 : ((⟨#[43]⟩ : ByteArray).toList == [61]) = false := by kernel_rfl
 have e60_62 : ((⟨#[43]⟩ : ByteArray).toList == [60, 62]) = false := by kernel_rfl
 have e60 : ((⟨#[43]⟩ : ByteArray).toList == [60]) = false := by kernel_rfl
 have e62 : ((⟨#[43]⟩ : ByteArray).toList == [62]) = false := by kernel_rfl
 have e60_61 : ((⟨#[43]⟩ : ByteArray).toList == [60, 61]) = false := by kernel_rfl
 have e62_61 : ((⟨#[43]⟩ : ByteArray).toList == [62, 61]) = false := by kernel_rfl
 have e38 : ((⟨#[43]⟩ : ByteArray).toList == [38]) = false := by kernel_rfl
 have e43 : ((⟨#[43]⟩ : ByteArray).toList == [43]) = true := by kernel_rfl
 have e45 : ((⟨#[43]⟩ : ByteArray).toList == [45]) = false := by kernel_rfl
 have e42 : ((⟨#[43]⟩ : ByteArray).toList == [42]) = false := by kernel_rfl
 have e47 : ((⟨#[43]⟩ : ByteArray).toList == [47]) = false := by kernel_rfl
 go_enter Tryz.func56, Tryz.ntmps56
 go_wp2
 go_ret
 exact ⟨rfl, rfl⟩
theorem binding_45 (w : World) : Calls Tryz.prog 56 #[.string ⟨#[45]⟩] w fun e w' => e = .returned (.int .i64 3) ∧ w' = w := by
 have e61 : ((⟨#[45]⟩ : ByteArray).toList == [61]) = false := by kernel_rfl
 have e60_62 : ((⟨#[45]⟩ : ByteArray).toList == [60, 62]) = false := by kernel_rfl
 have e60 : ((⟨#[45]⟩ : ByteArray).toList == [60]) = false := by kernel_rfl
 have e62 : ((⟨#[45]⟩ : ByteArray).toList == [62]) = false := by kernel_rfl
 have e60_61 : ((⟨#[45]⟩ : ByteArray).toList == [60, 61]) = false := by kernel_rfl
 have e62_61 : ((⟨#[45]⟩ : ByteArray).toList == [62, 61]) = false := by kernel_rfl
 have e38 : ((⟨#[45]⟩ : ByteArray).toList == [38]) = false := by kernel_rfl
 have e43 : ((⟨#[45]⟩ : ByteArray).toList == [43]) = false := by kernel_rfl
 have e45 : ((⟨#[45]⟩ : ByteArray).toList == [45]) = true := by kernel_rfl
 have e42 : ((⟨#[45]⟩ : ByteArray).toList == [42]) = false := by kernel_rfl
 have e47 : ((⟨#[45]⟩ : ByteArray).toList == [47]) = false := by kernel_rfl
 go_enter Tryz.func56, Tryz.ntmps56
 go_wp2
 go_ret
 exact ⟨rfl, rfl⟩
theorem binding_42 (w : World) : Calls Tryz.prog 56 #[.string ⟨#[42]⟩] w fun e w' => e = .returned (.int .i64 4) ∧ w' = w := by
 have e61 : ((⟨#[42]⟩ : ByteArray).toList == [61]) = false := by kernel_rfl
 have e60_62 : ((⟨#[42]⟩ : ByteArray).toList == [60, 62]) = false := by kernel_rfl
 have e60 : ((⟨#[42]⟩ : ByteArray).toList == [60]) = false := by kernel_rfl
 have e62 : ((⟨#[42]⟩ : ByteArray).toList == [62]) = false := by kernel_rfl
 have e60_61 : ((⟨#[42]⟩ : ByteArray).toList == [60, 61]) = false := by kernel_rfl
 have e62_61 : ((⟨#[42]⟩ : ByteArray).toList == [62, 61]) = false := by kernel_rfl
 have e38 : ((⟨#[42]⟩ : ByteArray).toList == [38]) = false := by kernel_rfl
 have e43 : ((⟨#[42]⟩ : ByteArray).toList == [43]) = false := by kernel_rfl
 have e45 : ((⟨#[42]⟩ : ByteArray).toList == [45]) = false := by kernel_rfl
 have e42 : ((⟨#[42]⟩ : ByteArray).toList == [42]) = true := by kernel_rfl
 have e47 : ((⟨#[42]⟩ : ByteArray).toList == [47]) = false := by kernel_rfl
 go_enter Tryz.func56, Tryz.ntmps56
 go_wp2
 go_ret
 exact ⟨rfl, rfl⟩
theorem binding_47 (w : World) : Calls Tryz.prog 56 #[.string ⟨#[47]⟩] w fun e w' => e = .returned (.int .i64 4) ∧ w' = w := by
 have e61 : ((⟨#[47]⟩ : ByteArray).toList == [61]) = false := by kernel_rfl
 have e60_62 : ((⟨#[47]⟩ : ByteArray).toList == [60, 62]) = false := by kernel_rfl
 have e60 : ((⟨#[47]⟩ : ByteArray).toList == [60]) = false := by kernel_rfl
 have e62 : ((⟨#[47]⟩ : ByteArray).toList == [62]) = false := by kernel_rfl
 have e60_61 : ((⟨#[47]⟩ : ByteArray).toList == [60, 61]) = false := by kernel_rfl
 have e62_61 : ((⟨#[47]⟩ : ByteArray).toList == [62, 61]) = false := by kernel_rfl
 have e38 : ((⟨#[47]⟩ : ByteArray).toList == [38]) = false := by kernel_rfl
 have e43 : ((⟨#[47]⟩ : ByteArray).toList == [43]) = false := by kernel_rfl
 have e45 : ((⟨#[47]⟩ : ByteArray).toList == [45]) = false := by kernel_rfl
 have e42 : ((⟨#[47]⟩ : ByteArray).toList == [42]) = false := by kernel_rfl
 have e47 : ((⟨#[47]⟩ : ByteArray).toList == [47]) = true := by kernel_rfl
 go_enter Tryz.func56, Tryz.ntmps56
 go_wp2
 go_ret
 exact ⟨rfl, rfl⟩
theorem binding_none (s : ByteArray) (w : World) (e61 : (s.toList == [61]) = false) (e60_62 : (s.toList == [60, 62]) = false) (e60 : (s.toList == [60]) = false) (e62 : (s.toList == [62]) = false) (e60_61 : (s.toList == [60, 61]) = false) (e62_61 : (s.toList == [62, 61]) = false) (e38 : (s.toList == [38]) = false) (e43 : (s.toList == [43]) = false) (e45 : (s.toList == [45]) = false) (e42 : (s.toList == [42]) = false) (e47 : (s.toList == [47]) = false) : Calls Tryz.prog 56 #[.string s] w fun e w' => e = .returned (.int .i64 0) ∧ w' = w := by
 go_enter Tryz.func56, Tryz.ntmps56
 go_wp2
 go_ret
 exact ⟨rfl, rfl⟩
theorem toList_data (s : ByteArray) : s.toList = s.data.toList := by
 exact ByteArray.toList_eq s
theorem str_of {s : ByteArray} {l : List UInt8} (h : s.data.toList = l) : s = ⟨l.toArray⟩ := by
 subst h; rfl
theorem binding_any (s : ByteArray) (w : World) : Calls Tryz.prog 56 #[.string s] w fun e w' => e = .returned (.int .i64 (bindN s.data.toList : Int)) ∧ w' = w := by
  by_cases h61 : s.data.toList = [61]
  · rw [h61, show (bindN [61] : Int) = 1 by decide, str_of h61]; exact binding_61 w
  by_cases h60_62 : s.data.toList = [60, 62]
  · rw [h60_62, show (bindN [60, 62] : Int) = 1 by decide, str_of h60_62]; exact binding_60_62 w
  by_cases h60 : s.data.toList = [60]
  · rw [h60, show (bindN [60] : Int) = 1 by decide, str_of h60]; exact binding_60 w
  by_cases h62 : s.data.toList = [62]
  · rw [h62, show (bindN [62] : Int) = 1 by decide, str_of h62]; exact binding_62 w
  by_cases h60_61 : s.data.toList = [60, 61]
  · rw [h60_61, show (bindN [60, 61] : Int) = 1 by decide, str_of h60_61]; exact binding_60_61 w
  by_cases h62_61 : s.data.toList = [62, 61]
  · rw [h62_61, show (bindN [62, 61] : Int) = 1 by decide, str_of h62_61]; exact binding_62_61 w
  by_cases h38 : s.data.toList = [38]
  · rw [h38, show (bindN [38] : Int) = 2 by decide, str_of h38]; exact binding_38 w
  by_cases h43 : s.data.toList = [43]
  · rw [h43, show (bindN [43] : Int) = 3 by decide, str_of h43]; exact binding_43 w
  by_cases h45 : s.data.toList = [45]
  · rw [h45, show (bindN [45] : Int) = 3 by decide, str_of h45]; exact binding_45 w
  by_cases h42 : s.data.toList = [42]
  · rw [h42, show (bindN [42] : Int) = 4 by decide, str_of h42]; exact binding_42 w
  by_cases h47 : s.data.toList = [47]
  · rw [h47, show (bindN [47] : Int) = 4 by decide, str_of h47]; exact binding_47 w
  have hb : bindN s.data.toList = 0 := by simp [bindN, h61, h60_62, h60, h62, h60_61, h62_61, h38, h43, h45, h42, h47]
  rw [hb]
  exact binding_none s w (by rw [toList_data]; simpa using h61) (by rw [toList_data]; simpa using h60_62) (by rw [toList_data]; simpa using h60) (by rw [toList_data]; simpa using h62) (by rw [toList_data]; simpa using h60_61) (by rw [toList_data]; simpa using h62_61) (by rw [toList_data]; simpa using h38) (by rw [toList_data]; simpa using h43) (by rw [toList_data]; simpa using h45) (by rw [toList_data]; simpa using h42) (by rw [toList_data]; simpa using h47)
def Rdr (w : World) (R : Nat) (l : List Tok) : Prop :=
 R < w.heap.size ∧ w.frozen? ⟨R, 0, none⟩ = false ∧ l ≠ [] ∧ ∃ g o cap, w.cell? ⟨R, 0, none⟩ = some (.slice (some ⟨g, o, none⟩) l.length cap) ∧ l.length ≤ cap ∧ cap ≤ maxLen ∧ g < R ∧ ∀ i t, l[i]? = some t → ∀ j, j < 12 → w.cell? ⟨g, o + 12 * i + j, none⟩ = (tokC t)[j]?
theorem hd_at {l : List Tok} (h : l ≠ []) : l[0]? = some (hd l) := by
 cases l with
 | nil => exact absurd rfl h
 | cons a l => rfl
structure Bar (R : Nat) (w w' : World) : Prop where
 os : w'.os = w.os
 tape : w'.tape = w.tape
 output : w'.output = w.output
 size : w.heap.size ≤ w'.heap.size
 block : ∀ k, k < w.heap.size → k ≠ R → w'.heap[k]? = w.heap[k]?
theorem Bar.refl (R : Nat) (w : World) : Bar R w w := ⟨rfl, rfl, rfl, Nat.le_refl _, fun _ _ _ => rfl⟩
theorem Bar.trans {R : Nat} {a b c : World} (h : Bar R a b) (k : Bar R b c) : Bar R a c :=
 ⟨k.os.trans h.os, k.tape.trans h.tape, k.output.trans h.output, Nat.le_trans h.size k.size, fun i hi hn => (k.block i (Nat.lt_of_lt_of_le hi h.size) hn).trans (h.block i hi hn)⟩
theorem Bar.of {R : Nat} {w w' : World} (h : Below w.heap.size w w') : Bar R w w' := ⟨h.os, h.tape, h.output, h.size, fun k hk _ => h.block k hk⟩
theorem Bar.below {R : Nat} {w w' : World} (h : Bar R w w') (hR : R ≤ w.heap.size) : Below R w w' := ⟨h.os, h.tape, h.output, h.size, fun k hk => h.block k (Nat.lt_of_lt_of_le hk hR) (Nat.ne_of_lt hk)⟩
theorem Bar.alloc {R : Nat} {a w : World} (h : Bar R a w) (o : Obj) : Bar R a (w.alloc o) := h.trans (Bar.of ((Below.refl _ _).alloc (Nat.le_refl _) o))
theorem Bar.drew {R : Nat} {a w : World} (h : Bar R a w) : Bar R a w.drew := ⟨h.os, h.tape, h.output, h.size, h.block⟩
theorem Bar.set {R : Nat} {a w : World} (h : Bar R a w) (i : Nat) (u : Value) : Bar R a (w.setCell ⟨R, i, none⟩ u) :=
 ⟨h.os, h.tape, h.output, by simpa using h.size, fun k hk hn => by rw [Below.heap_setCell _ _ _ _ hn]; exact h.block k hk hn⟩
theorem Bar.setNew {R : Nat} {a w : World} (h : Bar R a w) {p : Addr} (hp : a.heap.size ≤ p.block) (u : Value) : Bar R a (w.setCell p u) :=
 ⟨h.os, h.tape, h.output, by simpa using h.size, fun k hk hn => by rw [Below.heap_setCell _ _ _ _ (by omega)]; exact h.block k hk hn⟩
theorem Bar.cell {R : Nat} {w w' : World} (h : Bar R w w') {b o : Nat} (hb : b < w.heap.size) (hn : b ≠ R) : w'.cell? ⟨b, o, none⟩ = w.cell? ⟨b, o, none⟩ := World.cell?_of_block (w := w) (h.block b hb hn)
theorem Bar.frozen {R : Nat} {w w' : World} (h : Bar R w w') {b o : Nat} (hb : b < w.heap.size) (hn : b ≠ R) : w'.frozen? ⟨b, o, none⟩ = w.frozen? ⟨b, o, none⟩ := World.frozen?_of_block (w := w) (h.block b hb hn)
theorem Rdr.below {w w' : World} {R : Nat} {l : List Tok} (h : Rdr w R l) (k : Below w.heap.size w w') : Rdr w' R l := by
 obtain ⟨hR, hf, hne, g, o, cap, hc, hc1, hc2, hg, ht⟩ := h
 exact ⟨Nat.lt_of_lt_of_le hR k.size, by rw [k.frozen (p := ⟨R, 0, none⟩) hR]; exact hf, hne, g, o, cap, by rw [k.cell (p := ⟨R, 0, none⟩) hR]; exact hc, hc1, hc2, hg, fun i t hi j hj => by rw [k.cell (p := ⟨g, o + 12 * i + j, none⟩) (Nat.lt_trans hg hR)]; exact ht i t hi j hj⟩
theorem giveUp_any (R : Nat) (l : List Tok) (w : World) (h : Rdr w R l) :
  Calls Tryz.prog 39 #[.pointer (some ⟨R, 0, none⟩)] w fun e w' => e = .panicked [{ v := .iface 82 (.agg #[.int .i64 (hd l).pos, .int .i64 5]), recovered := false }] ∧ w' = w := by
 obtain ⟨hR, hf, hne, g, o, cap, hc, hc1, hc2, hg, ht⟩ := h
 have h0 := ht 0 _ (hd_at hne) 11 (by omega)
 have hl : 0 < l.length := List.length_pos_iff.2 hne
 have h11 : w.cell? ⟨g, o + 11, none⟩ = some (.int .i64 (hd l).pos) := h0
 clear h0 ht
 unfold maxLen at hc2
 go_enter Tryz.func39, Tryz.ntmps39
 go_wp2
 exact ⟨rfl, rfl, rfl⟩
theorem at_any (R : Nat) (l : List Tok) (s : ByteArray) (w : World) (h : Rdr w R l) :
    Calls Tryz.prog 102 #[.pointer (some ⟨R, 0, none⟩), .string s] w fun e w' => e = .returned (.bool (atB l s.data.toList)) ∧ w' = w := by
  obtain ⟨hR, hf, hne, g, o, cap, hc, hc1, hc2, hg, ht⟩ := h
  have h0 : w.cell? ⟨g, o, none⟩ = some (.int .i64 (hd l).kind) := ht 0 _ (hd_at hne) 0 (by omega)
  have h10 : w.cell? ⟨g, o + 10, none⟩ = some (.string ⟨(hd l).txt.toArray⟩) := ht 0 _ (hd_at hne) 10 (by omega)
  have hl : 0 < l.length := List.length_pos_iff.2 hne
  clear ht
  unfold maxLen at hc2
  have hA : atB l s.data.toList = (decide ((hd l).kind = 4) && ((hd l).txt == s.toList)) := by rw [toList_data, atB]; congr 1; rw [Bool.eq_iff_iff]; simp
  have HA := hide hA
  clear hA
  by_cases hk : (hd l).kind = 4
  · go_enter Tryz.func102, Tryz.ntmps102
    go_wp2
    go_ret
    exact ⟨by rw [HA.out]; simp [hk], rfl⟩
  · go_enter Tryz.func102, Tryz.ntmps102
    go_wp2
    go_ret
    exact ⟨by rw [HA.out]; simp [hk], rfl⟩
theorem take_any (R : Nat) (l : List Tok) (w : World) (h : Rdr w R l) (h2 : l.tail ≠ []) :
    Calls Tryz.prog 68 #[.pointer (some ⟨R, 0, none⟩)] w fun e w' => e = .returned (tokV (hd l)) ∧ Rdr w' R l.tail ∧ Bar R w w' := by
  obtain ⟨hR, hf, hne, g, o, cap, hc, hc1, hc2, hg, ht⟩ := h
  have hl : 0 < l.length := List.length_pos_iff.2 hne
  generalize hT : hd l = T at *
  obtain ⟨t0, t1, t2, t3, t4, t5, t6, t7, t8, t9, t10, t11⟩ := T
  have h0 := fun j hj => ht 0 _ ((hd_at hne).trans (by rw [hT])) j hj
  have d0 : w.cell? ⟨g, o, none⟩ = some (.int .i64 t0) := h0 0 (by omega)
  have d1 : w.cell? ⟨g, o + 1, none⟩ = some (.int .i64 t1) := h0 1 (by omega)
  have d2 : w.cell? ⟨g, o + 2, none⟩ = some (.int .i64 t2) := h0 2 (by omega)
  have d3 : w.cell? ⟨g, o + 3, none⟩ = some (.string ⟨t3.toArray⟩) := h0 3 (by omega)
  have d4 : w.cell? ⟨g, o + 4, none⟩ = some (.bool t4) := h0 4 (by omega)
  have d5 : w.cell? ⟨g, o + 5, none⟩ = some (.int .i64 t5) := h0 5 (by omega)
  have d6 : w.cell? ⟨g, o + 6, none⟩ = some (.int .i64 t6) := h0 6 (by omega)
  have d7 : w.cell? ⟨g, o + 7, none⟩ = some (.int .i64 t7) := h0 7 (by omega)
  have d8 : w.cell? ⟨g, o + 8, none⟩ = some (.bool t8) := h0 8 (by omega)
  have d9 : w.cell? ⟨g, o + 9, none⟩ = some (.bool t9) := h0 9 (by omega)
  have d10 : w.cell? ⟨g, o + 10, none⟩ = some (.string ⟨t10.toArray⟩) := h0 10 (by omega)
  have d11 : w.cell? ⟨g, o + 11, none⟩ = some (.int .i64 t11) := h0 11 (by omega)
  have HT := hide ht
  clear h0 ht hT
  have hcap : ¬ cap = 1 := fun e => h2 (by have : l.length = 1 := by omega
                                           cases l with
                                           | nil => rfl
                                           | cons a l => exact List.eq_nil_of_length_eq_zero (by simpa using this))
  have HM := hide hc2
  unfold maxLen at hc2
  have hgs : g < w.heap.size := Nat.lt_trans hg hR
  have HS : Hid (Rdr (w.setCell ⟨R, 0, none⟩ (.slice (some ⟨g, o + 12, none⟩) (l.length - 1) (cap - 1))) R l.tail) := by
    refine ⟨by simpa using hR, by rw [World.frozen?_setCell]; exact hf, h2, g, o + 12, cap - 1, ?_, by simp; omega, by have := HM.out; omega, hg, fun i t hi j hj => ?_⟩
    · rw [World.cell?_setCell_same _ _ _ (by rw [hc])]
      simp
    · rw [World.cell?_setCell_other _ _ _ _ (by intro e; have := congrArg Addr.block e; simp at this; omega)]
      have := HT.out (i + 1) t (by rw [← hi]; simp) j hj
      rw [show o + 12 + 12 * i + j = o + 12 * (i + 1) + j by omega]
      exact this
  go_enter Tryz.func68, Tryz.ntmps68
  go_wp2
  refine bodyPost_ret (v := tokV ⟨t0, t1, t2, t3, t4, t5, t6, t7, t8, t9, t10, t11⟩) (by simp [results, Tryz.results68, go_sem, tokV, tokC]) rfl ⟨rfl, ?_, ?_⟩
  · exact HS.out.below (((Below.refl _ _).alloc (Nat.le_refl _) _).alloc (by simp) _)
  · exact (((Bar.refl _ _).set _ _).alloc _).alloc _
theorem pass_yes (R : Nat) (l : List Tok) (s : ByteArray) (w : World) (h : Rdr w R l) (h2 : l.tail ≠ []) (ha : atB l s.data.toList = true) :
  Calls Tryz.prog 103 #[.pointer (some ⟨R, 0, none⟩), .string s] w fun e w' => e = .returned (.tuple #[]) ∧ Rdr w' R l.tail ∧ Bar R w w' := by
 have HR := hide h
 have HA : Hid (∀ W : World, Rdr W R l → Calls Tryz.prog 102 #[.pointer (some ⟨R, 0, none⟩), .string s] W fun e w' => e = .returned (.bool true) ∧ w' = W) := fun W hW => by
  have := at_any R l s W hW
  rw [ha] at this
  exact this
 clear h ha
 go_enter Tryz.func103, Tryz.ntmps103
 go_wp2_with (first | (go_at_call 102; refine (HA.out _ HR.out).mono ?_; rintro e wz ⟨rfl, hz⟩; subst wz) | (go_at_call 68; refine (take_any R l _ HR.out h2).mono ?_; rintro e w1 ⟨rfl, hr1, hb1⟩))
 refine bodyPost_end (v := .tuple #[]) (by simp [results, Tryz.results103, go_sem]) rfl ⟨rfl, hr1, hb1⟩
theorem pass_no (R : Nat) (l : List Tok) (s : ByteArray) (w : World) (h : Rdr w R l) (ha : atB l s.data.toList = false) :
  Calls Tryz.prog 103 #[.pointer (some ⟨R, 0, none⟩), .string s] w fun e w' => e = .panicked [{ v := .iface 82 (.agg #[.int .i64 (hd l).pos, .int .i64 5]), recovered := false }] ∧ w' = w := by
 have HR := hide h
 have HA : Hid (∀ W : World, Rdr W R l → Calls Tryz.prog 102 #[.pointer (some ⟨R, 0, none⟩), .string s] W fun e w' => e = .returned (.bool false) ∧ w' = W) := fun W hW => by
  have := at_any R l s W hW
  rw [ha] at this
  exact this
 clear h ha
 go_enter Tryz.func103, Tryz.ntmps103
 go_wp2_with (first | (go_at_call 102; refine (HA.out _ HR.out).mono ?_; rintro e wz ⟨rfl, hz⟩; subst wz) | (go_at_call 39; refine (giveUp_any R l _ HR.out).mono ?_; rintro e wz ⟨rfl, hz⟩; subst wz))
 exact ⟨rfl, rfl, rfl⟩
def hdC (h : Hd) (v : Value) : List Value := [.int .i64 h.kind, .int .i64 h.vk, .int .i64 h.vn, .string ⟨h.vs.toArray⟩, .bool h.vb, .int .i64 h.vc, .int .i64 h.row, .int .i64 h.col, .bool h.fr, .bool h.fc, .int .i64 h.row2, .int .i64 h.col2, .bool h.fr2, .bool h.fc2, .string ⟨h.txt.toArray⟩, v]
theorem hdC_len' (h : Hd) (v : Value) : (hdC h v).length = 16 := rfl
def nodeV (h : Hd) (v : Value) : Value := .agg (hdC h v).toArray
def Row (w : World) (D : Nat → Prop) : Fo → Nat → Nat → Prop
 | .nil, _, _ => True
 | .cons h k r, b, o => D b ∧ (∃ v, (∀ j, j < 16 → w.cell? ⟨b, o + j, none⟩ = (hdC h v)[j]?) ∧ ∃ a n cap, v = .slice a n cap ∧ n = k.len ∧ (k = .nil ∨ ∃ b' o', a = some ⟨b', o', none⟩ ∧ n ≤ cap ∧ cap ≤ maxLen ∧ Row w D k b' o')) ∧ Row w D r b (o + 16)
def Kv (w : World) (D : Nat → Prop) (v : Value) (k : Fo) : Prop := ∃ a n cap, v = .slice a n cap ∧ n = k.len ∧ (k = .nil ∨ ∃ b' o', a = some ⟨b', o', none⟩ ∧ n ≤ cap ∧ cap ≤ maxLen ∧ Row w D k b' o')
theorem row_cons {w : World} {D : Nat → Prop} {h : Hd} {k r : Fo} {b o : Nat} : Row w D (.cons h k r) b o ↔ D b ∧ (∃ v, (∀ j, j < 16 → w.cell? ⟨b, o + j, none⟩ = (hdC h v)[j]?) ∧ Kv w D v k) ∧ Row w D r b (o + 16) := Iff.rfl
theorem row_to {w w' : World} {D D' : Nat → Prop} (hs : ∀ b, D b → D' b ∧ w'.heap[b]? = w.heap[b]?) : ∀ (F : Fo) (b o : Nat), Row w D F b o → Row w' D' F b o
  | .nil, _, _, _ => trivial
  | .cons h k r, b, o, ⟨h1, ⟨v, hv, a, n, cap, e1, e2, e3⟩, h4⟩ => by
    refine ⟨(hs b h1).1, ⟨v, fun j hj => ?_, a, n, cap, e1, e2, ?_⟩, row_to hs r b (o + 16) h4⟩
    · rw [World.cell?_of_block (w := w) (hs b h1).2]; exact hv j hj
    · rcases e3 with e3 | ⟨b', o', e4, e5, e6, e7⟩
      · exact .inl e3
      · exact .inr ⟨b', o', e4, e5, e6, row_to hs k b' o' e7⟩
theorem kv_to {w w' : World} {D D' : Nat → Prop} {v : Value} {k : Fo} (h : Kv w D v k) (hs : ∀ b, D b → D' b ∧ w'.heap[b]? = w.heap[b]?) : Kv w' D' v k := by
  obtain ⟨a, n, cap, e1, e2, e3⟩ := h
  refine ⟨a, n, cap, e1, e2, ?_⟩
  rcases e3 with e3 | ⟨b', o', e4, e5, e6, e7⟩
  · exact .inl e3
  · exact .inr ⟨b', o', e4, e5, e6, row_to hs k b' o' e7⟩
theorem kv_nil (w : World) (D : Nat → Prop) (a : Option Addr) (cap : Nat) : Kv w D (.slice a 0 cap) .nil := ⟨a, 0, cap, rfl, rfl, .inl rfl⟩
def New (w w' : World) (b : Nat) : Prop := w.heap.size ≤ b ∧ b < w'.heap.size
theorem node_at {w : World} {D : Nat → Prop} {b o : Nat} {h : Hd} {k r : Fo} {v : Value} {pre rest : List Value} {t : TypeId} {fz : Nat × Nat} (hb : w.heap[b]? = some (.cells (pre ++ hdC h v ++ rest).toArray t fz)) (ho : pre.length = o) (hD : D b) (hk : Kv w D v k) (hr : Row w D r b (o + 16)) : Row w D (.cons h k r) b o := by
 refine row_cons.2 ⟨hD, ⟨v, fun j hj => ?_, hk⟩, hr⟩
 rw [cell_of_row w b (o + j) _ _ _ hb]
 subst ho
 rw [List.getElem?_toArray, List.append_assoc, List.getElem?_append_right (by omega), show pre.length + j - pre.length = j by omega, List.getElem?_append_left (by rw [hdC_len']; omega)]
theorem kv_one {w : World} {D : Nat → Prop} {c : Nat} {h : Hd} {k : Fo} {v : Value} {t : TypeId} {fz : Nat × Nat} (hc : w.heap[c]? = some (.cells (hdC h v).toArray t fz)) (hD : D c) (hk : Kv w D v k) : Kv w D (.slice (some ⟨c, 0, none⟩) 1 1) (.cons h k .nil) :=
 ⟨_, _, _, rfl, rfl, .inr ⟨c, 0, rfl, Nat.le_refl _, by unfold maxLen; omega, node_at (pre := []) (rest := []) (by simpa using hc) rfl hD hk trivial⟩⟩
theorem kv_two {w : World} {D : Nat → Prop} {c : Nat} {h h' : Hd} {k k' : Fo} {v v' : Value} {t : TypeId} {fz : Nat × Nat} (hc : w.heap[c]? = some (.cells (hdC h v ++ hdC h' v').toArray t fz)) (hD : D c) (hk : Kv w D v k) (hk' : Kv w D v' k') : Kv w D (.slice (some ⟨c, 0, none⟩) 2 2) (.cons h k (.cons h' k' .nil)) :=
 ⟨_, _, _, rfl, rfl, .inr ⟨c, 0, rfl, Nat.le_refl _, by unfold maxLen; omega, node_at (pre := []) (rest := hdC h' v') (by simpa using hc) rfl hD hk (node_at (pre := hdC h v) (rest := []) (by simpa using hc) rfl hD hk' trivial)⟩⟩
theorem Rdr.set {w : World} {R : Nat} {l : List Tok} (h : Rdr w R l) {b : Nat} (hb : R < b) (i : Nat) (u : Value) : Rdr (w.setCell ⟨b, i, none⟩ u) R l := by
  obtain ⟨hR, hf, hne, g, o, cap, hc, hc1, hc2, hg, ht⟩ := h
  refine ⟨by simpa using hR, by rw [World.frozen?_setCell]; exact hf, hne, g, o, cap, ?_, hc1, hc2, hg, fun i' t hi j hj => ?_⟩
  · rw [World.cell?_setCell_other _ _ _ _ (by intro e; have := congrArg Addr.block e; simp at this; omega)]; exact hc
  · rw [World.cell?_setCell_other _ _ _ _ (by intro e; have := congrArg Addr.block e; simp at this; omega)]; exact ht i' t hi j hj
theorem Rdr.alloc {w : World} {R : Nat} {l : List Tok} (h : Rdr w R l) (o : Obj) : Rdr (w.alloc o) R l := h.below ((Below.refl _ _).alloc (Nat.le_refl _) o)
theorem Rdr.drew {w : World} {R : Nat} {l : List Tok} (h : Rdr w R l) : Rdr w.drew R l := h
theorem below_drewN0 (w : World) : ∀ (n : Nat), Below w.heap.size w (w.drewN n)
 | n => ⟨by simp [World.drewN], by simp [World.drewN], by simp [World.drewN], by simp [World.drewN], fun _ _ => by simp [World.drewN]⟩
theorem Rdr.drewN {w : World} {R : Nat} {l : List Tok} (h : Rdr w R l) (n : Nat) : Rdr (w.drewN n) R l := h.below (below_drewN0 w n)
theorem Bar.drewN {R : Nat} {a w : World} (h : Bar R a w) (n : Nat) : Bar R a (w.drewN n) := h.trans (Bar.of (below_drewN0 w n))
def Box (w : World) (b : Nat) (cs : List Value) : Prop := w.heap[b]? = some (.cells cs.toArray 34 (0, 0))
theorem hdC_len (h : Hd) (v : Value) : (hdC h v).length = 16 := rfl
theorem hdC_one (h : Hd) {v : Value} (hv : v.oneCell' = true) : (hdC h v).toArray.all (·.oneCell') = true := by
  rw [Array.all_eq_true_iff_forall_mem]
  intro u hu
  simp only [hdC, List.mem_toArray, List.mem_cons, List.not_mem_nil, or_false] at hu
  rcases hu with rfl | rfl | rfl | rfl | rfl | rfl | rfl | rfl | rfl | rfl | rfl | rfl | rfl | rfl | rfl | rfl <;> first | rfl | exact hv
theorem Box.lt {w : World} {b : Nat} {cs : List Value} (h : Box w b cs) : b < w.heap.size := (Array.getElem?_eq_some_iff.1 h).1
theorem Box.bar {R : Nat} {w w' : World} {b : Nat} {cs : List Value} (h : Box w b cs) (k : Bar R w w') (hb : b ≠ R) : Box w' b cs := by
 unfold Box; rw [k.block b h.lt hb]; exact h
theorem Box.below {w w' : World} {b : Nat} {cs : List Value} (h : Box w b cs) (k : Below w.heap.size w w') : Box w' b cs := by
 unfold Box; rw [k.block b h.lt]; exact h
theorem Box.alloc {w : World} {b : Nat} {cs : List Value} (h : Box w b cs) (o : Obj) : Box (w.alloc o) b cs := h.below ((Below.refl _ _).alloc (Nat.le_refl _) o)
theorem Box.new (w : World) (cs : List Value) : Box (w.alloc (.cells cs.toArray 34)) w.heap.size cs := heap_alloc_new w _
theorem Box.drewN {w : World} {b : Nat} {cs : List Value} (h : Box w b cs) (n : Nat) : Box (w.drewN n) b cs := h.below (below_drewN0 w n)
theorem setRow_heap (w : World) (g k : Nat) (cs : Array Value) (h : k ≠ g) : (w.setRow g cs).heap[k]? = w.heap[k]? := by
 show (w.heap.modify g _)[k]? = _
 rw [Array.getElem?_modify, if_neg (Ne.symm h)]
theorem setRow_size (w : World) (g : Nat) (cs : Array Value) : (w.setRow g cs).heap.size = w.heap.size := by
 show (w.heap.modify g _).size = _
 simp
theorem Box.set {w : World} {b : Nat} {cs : List Value} (h : Box w b cs) (cs' : List Value) : Box (w.setRow b cs'.toArray) b cs' := by
 show (w.heap.modify b _)[b]? = _
 rw [Array.getElem?_modify, if_pos rfl, show w.heap[b]? = _ from h]
 rfl
theorem Box.other {w : World} {b g : Nat} {cs : List Value} (h : Box w b cs) (hb : b ≠ g) (cs' : Array Value) : Box (w.setRow g cs') b cs := by
 unfold Box; rw [setRow_heap w g b cs' hb]; exact h
theorem Bar.row {R : Nat} {a w : World} (h : Bar R a w) {b : Nat} (hb : a.heap.size ≤ b) (cs : Array Value) : Bar R a (w.setRow b cs) :=
 ⟨h.os, h.tape, h.output, by rw [setRow_size]; exact h.size, fun k hk hn => by rw [setRow_heap _ _ _ _ (by omega)]; exact h.block k hk hn⟩
theorem Rdr.row {w : World} {R : Nat} {l : List Tok} (h : Rdr w R l) {b : Nat} (hb : R < b) (cs : Array Value) : Rdr (w.setRow b cs) R l := by
 obtain ⟨hR, hf, hne, g, o, cap, hc, hc1, hc2, hg, ht⟩ := h
 have hbl : ∀ k, k < b → (w.setRow b cs).heap[k]? = w.heap[k]? := fun k hk => setRow_heap _ _ _ _ (by omega)
 exact ⟨by rw [setRow_size]; exact hR, by rw [World.frozen?_of_block (w := w) (a := ⟨R, 0, none⟩) (hbl R hb)]; exact hf, hne, g, o, cap, by rw [World.cell?_of_block (w := w) (a := ⟨R, 0, none⟩) (hbl R hb)]; exact hc, hc1, hc2, hg, fun i t hi j hj => by
  rw [World.cell?_of_block (w := w) (a := ⟨g, o + 12 * i + j, none⟩) (hbl g (by omega))]; exact ht i t hi j hj⟩
theorem infoNode : (Tryz.prog.info? 34).map (fun i => (i.zero, i.size)) = some (some (.agg (hdC zh (.slice none 0 0)).toArray), 16) := by kernel_rfl
theorem sizeNode : (Tryz.prog.info? 34).map (·.size) = some 16 := by kernel_rfl
theorem Box.load {w : World} {b : Nat} {h : Hd} {v : Value} (k : Box w b (hdC h v)) : (loadCellsFrom ⟨b, 0, none⟩ 0 16 #[]).run Tryz.prog w = .ok (hdC h v).toArray w := by
 have := run_loadCells_list (P := Tryz.prog) (w := w) ⟨b, 0, none⟩ (hdC h v) (fun j u hu => by
  rw [Addr.add_mid, Nat.zero_add, cell_of_row w b j _ _ _ k]; simpa using hu)
 simpa [loadCells, hdC_len] using this
theorem Box.store {w : World} {b : Nat} {cs : List Value} (k : Box w b cs) (hl : cs.length = 16) (h : Hd) {v : Value} (hv : v.oneCell' = true) : (storeCells ⟨b, 0, none⟩ (hdC h v) 0).run Tryz.prog w = .ok () (w.setRow b (hdC h v).toArray) := by
 have := run_storeVar_row (P := Tryz.prog) w b 34 34 cs.toArray (hdC h v).toArray k (by rw [sizeNode]; rfl) (by simp [hl, hdC_len]) (hdC_one h hv)
 cases hq : Tryz.prog.info? 34 with
 | none => have := sizeNode; simp [hq] at this
 | some i =>
  have hs : 16 = i.size := by have := sizeNode; simp [hq] at this; omega
  have hs' : (hdC h v).length = i.size := by rw [hdC_len]; exact hs
  simpa [storeVar, sizeOf, typeInfo, hq, Value.cells, hs'] using this
theorem Box.rules {w : World} {b : Nat} {cs : List Value} (k : Box w b cs) (hl : cs.length = 16) :
  (∀ (h : Hd) (p : Option Addr) (n cap : Nat), (storeCells ⟨b, 0, none⟩ (hdC h (.slice p n cap)) 0).run Tryz.prog w = .ok () (w.setRow b (hdC h (.slice p n cap)).toArray)) ∧
  (∀ (o : Obj) (h : Hd) (p : Option Addr) (n cap : Nat), (storeCells ⟨b, 0, none⟩ (hdC h (.slice p n cap)) 0).run Tryz.prog (w.alloc o) = .ok () ((w.alloc o).setRow b (hdC h (.slice p n cap)).toArray)) ∧
  (∀ (o o' : Obj) (h : Hd) (p : Option Addr) (n cap : Nat), (storeCells ⟨b, 0, none⟩ (hdC h (.slice p n cap)) 0).run Tryz.prog ((w.alloc o).alloc o') = .ok () (((w.alloc o).alloc o').setRow b (hdC h (.slice p n cap)).toArray)) :=
 ⟨fun h _ _ _ => k.store hl h rfl, fun _ h _ _ _ => (k.alloc _).store hl h rfl, fun _ _ h _ _ _ => ((k.alloc _).alloc _).store hl h rfl⟩
theorem Box.ret {fn : Func} {p : Tmp} (hf : fn.results = #[.cell p 34]) {tmps : Array Value} {w : World} {b : Nat} {h : Hd} {v : Value} (k : Box w b (hdC h v)) (hp : tmps.getD p undef = .pointer (some ⟨b, 0, none⟩)) : (results fn tmps).run Tryz.prog w = .ok (nodeV h v) w :=
 results_cell_row hf tmps w b 34 (hdC h v).toArray (0, 0) _ hp k Tryz.underlying34 rfl (by rw [sizeNode]; rfl)
theorem build1 (h : Hd) (v : Value) (w : World) : (Instr.buildSlice 32 1 #[(0, .agg (hdC h v).toArray)]).run Tryz.prog w = .ok (.slice (some ⟨w.heap.size, 0, none⟩) 1 1) (w.alloc (.cells (hdC h v).toArray 34)) := by
 obtain ⟨ie, hie, hz, hs⟩ : ∃ ie, Tryz.prog.info? 34 = some ie ∧ ie.zero = some (.agg (hdC zh (.slice none 0 0)).toArray) ∧ ie.size = 16 := by
  have := infoNode
  cases hq : Tryz.prog.info? 34 with
  | none => simp [hq] at this
  | some i => simp [hq] at this; exact ⟨i, rfl, this.1, this.2⟩
 refine run_buildSlice w 32 34 1 _ _ ie _ Tryz.underlying32 hie hz (by rw [hs]; decide) (by rw [hs]; decide) ?_
 rw [hs]
 kernel_rfl
theorem build2 (h h' : Hd) (v v' : Value) (w : World) : (Instr.buildSlice 32 2 #[(0, .agg (hdC h v).toArray), (1, .agg (hdC h' v').toArray)]).run Tryz.prog w = .ok (.slice (some ⟨w.heap.size, 0, none⟩) 2 2) (w.alloc (.cells (hdC h v ++ hdC h' v').toArray 34)) := by
 obtain ⟨ie, hie, hz, hs⟩ : ∃ ie, Tryz.prog.info? 34 = some ie ∧ ie.zero = some (.agg (hdC zh (.slice none 0 0)).toArray) ∧ ie.size = 16 := by
  have := infoNode
  cases hq : Tryz.prog.info? 34 with
  | none => simp [hq] at this
  | some i => simp [hq] at this; exact ⟨i, rfl, this.1, this.2⟩
 refine run_buildSlice w 32 34 2 _ _ ie _ Tryz.underlying32 hie hz (by rw [hs]; decide) (by rw [hs]; decide) ?_
 rw [hs]
 kernel_rfl
theorem Box.drew {w : World} {b : Nat} {cs : List Value} (h : Box w b cs) : Box w.drew b cs := h
theorem wpl_id {ops : Array Oper} {l : List Oper} {a : Act} {w : World} {Q : Exit → Act → World → Prop} (h : wpList Tryz.prog ops Q l a w) : wpList Tryz.prog ops Q l a w := h
theorem wpl_load {ops : Array Oper} {rest : List Oper} {o : Oper} {a : Act} {w : World} {Q : Exit → Act → World → Prop} (hgd : o.guard = none) (x : Operand) (ho : o.op = .load 34 x)
  (g : Nat) (hx : a.eval x = .pointer (some ⟨g, 0, none⟩)) {h : Hd} {v : Value} (hb : Box w g (hdC h v))
  (hk : wpList Tryz.prog ops Q rest (a.put o.dst (.agg (hdC h v).toArray)) w) : wpList Tryz.prog ops Q (o :: rest) a w :=
 wpList_load_row hgd 34 x ho g hx 34 _ (0, 0) _ hb Tryz.underlying34 rfl (by rw [sizeNode]; rfl) hk
theorem wpl_store {ops : Array Oper} {rest : List Oper} {o : Oper} {a : Act} {w : World} {Q : Exit → Act → World → Prop} (hgd : o.guard = none) (x y : Operand) (ho : o.op = .store 34 x y)
  (g : Nat) (hx : a.eval x = .pointer (some ⟨g, 0, none⟩)) {h : Hd} {p : Option Addr} {n cap : Nat} (hy : a.eval y = .agg (hdC h (.slice p n cap)).toArray) {cs : List Value} (hb : Box w g cs) (hl : cs.length = 16)
  (hk : wpList Tryz.prog ops Q rest (a.put o.dst undef) (w.setRow g (hdC h (.slice p n cap)).toArray)) : wpList Tryz.prog ops Q (o :: rest) a w :=
 wpList_store_row hgd 34 x y ho g _ hx hy 34 _ hb (by rw [sizeNode]; rfl) (by simp [hl, hdC_len]) (hdC_one h rfl) hk
theorem run_val (t : Tok) (w : World) : (Instr.build 34 #[(0, .int .i64 1), (1, .agg #[.int .i64 t.vk, .int .i64 t.vn, .string ⟨t.vs.toArray⟩, .bool t.vb, .int .i64 t.vc])]).run Tryz.prog w = .ok (.agg (hdC (valH t) (.slice none 0 0)).toArray) w := run_build w _ _ _ (by kernel_rfl)
theorem run_cell (t : Tok) (w : World) : (Instr.build 34 #[(0, .int .i64 2), (2, .agg #[.int .i64 t.row, .int .i64 t.col, .bool t.fr, .bool t.fc])]).run Tryz.prog w = .ok (.agg (hdC (cellH t) (.slice none 0 0)).toArray) w := run_build w _ _ _ (by kernel_rfl)
theorem run_range (t u : Tok) (w : World) : (Instr.build 34 #[(0, .int .i64 3), (2, .agg #[.int .i64 t.row, .int .i64 t.col, .bool t.fr, .bool t.fc]), (3, .agg #[.int .i64 u.row, .int .i64 u.col, .bool u.fr, .bool u.fc])]).run Tryz.prog w = .ok (.agg (hdC (rangeH t u) (.slice none 0 0)).toArray) w := run_build w _ _ _ (by kernel_rfl)
theorem run_neg (a : Option Addr) (n cap : Nat) (w : World) : (Instr.build 34 #[(0, .int .i64 4), (5, .slice a n cap)]).run Tryz.prog w = .ok (.agg (hdC negH (.slice a n cap)).toArray) w := run_build w _ _ _ (by kernel_rfl)
theorem run_bin (l : List UInt8) (a : Option Addr) (n cap : Nat) (w : World) : (Instr.build 34 #[(0, .int .i64 5), (4, .string ⟨l.toArray⟩), (5, .slice a n cap)]).run Tryz.prog w = .ok (.agg (hdC (binH l) (.slice a n cap)).toArray) w := run_build w _ _ _ (by kernel_rfl)
theorem run_call (l : List UInt8) (w : World) : (Instr.build 34 #[(0, .int .i64 6), (4, .string ⟨l.toArray⟩)]).run Tryz.prog w = .ok (.agg (hdC (callH l) (.slice none 0 0)).toArray) w := run_build w _ _ _ (by kernel_rfl)
theorem wp_loadN {o : Oper} {a : Act} {w : World} {K : Act → World → Prop} {Q : Exit → Act → World → Prop} (x : Operand) (ho : o.op = .load 34 x) (g : Nat) (hx : a.eval x = .pointer (some ⟨g, 0, none⟩)) {h : Hd} {v : Value} (hb : Box w g (hdC h v))
  (hk : K (a.put o.dst (.agg (hdC h v).toArray)) w) : o.wp Tryz.prog a w K Q := wp_load_row 34 x ho g hx 34 _ (0, 0) _ hb Tryz.underlying34 rfl (by rw [sizeNode]; rfl) hk
theorem wp_storeN {o : Oper} {a : Act} {w : World} {K : Act → World → Prop} {Q : Exit → Act → World → Prop} (x y : Operand) (ho : o.op = .store 34 x y) (g : Nat) (hx : a.eval x = .pointer (some ⟨g, 0, none⟩)) {h : Hd} {p : Option Addr} {n cap : Nat} (hy : a.eval y = .agg (hdC h (.slice p n cap)).toArray) {cs : List Value} (hb : Box w g cs) (hl : cs.length = 16)
  (hk : K (a.put o.dst undef) (w.setRow g (hdC h (.slice p n cap)).toArray)) : o.wp Tryz.prog a w K Q := wp_store_row 34 x y ho g _ hx hy 34 _ hb (by rw [sizeNode]; rfl) (by simp [hl, hdC_len]) (hdC_one h rfl) hk
theorem wp_run {o : Oper} {a : Act} {w w' : World} {K : Act → World → Prop} {Q : Exit → Act → World → Prop} {v : Value} (he : (execOp a.eval o).run Tryz.prog w = .ok (.value v) w') (hk : K (a.put o.dst v) w') : o.wp Tryz.prog a w K Q := by
 unfold Oper.wp; rw [he]; exact hk
theorem wp_buildN {o : Oper} {a : Act} {w w' : World} {K : Act → World → Prop} {Q : Exit → Act → World → Prop} (t : TypeId) (ps : Array (Nat × Operand)) (ho : o.op = .build t ps) {qs : Array (Nat × Value)} (hq : (ps.toList.map fun (i, x) => (i, a.eval x)) = qs.toList) {v : Value} (hr : (Instr.build t qs).run Tryz.prog w = .ok v w') (hk : K (a.put o.dst v) w') : o.wp Tryz.prog a w K Q := by
 refine wp_run (v := v) ?_ hk
 have hq' : (ps.map fun (i, x) => (i, a.eval x)) = qs := by rw [← Array.toList_inj, Array.toList_map]; exact hq
 unfold execOp
 simp only [ho, hq', Sem.run_bind, hr, Result.andThen_ok]
 rfl
theorem wp_buildS {o : Oper} {a : Act} {w w' : World} {K : Act → World → Prop} {Q : Exit → Act → World → Prop} (t : TypeId) (n : Nat) (ps : Array (Nat × Operand)) (ho : o.op = .buildSlice t n ps) {qs : Array (Nat × Value)} (hq : (ps.toList.map fun (i, x) => (i, a.eval x)) = qs.toList) {v : Value} (hr : (Instr.buildSlice t n qs).run Tryz.prog w = .ok v w') (hk : K (a.put o.dst v) w') : o.wp Tryz.prog a w K Q := by
 refine wp_run (v := v) ?_ hk
 have hq' : (ps.map fun (i, x) => (i, a.eval x)) = qs := by rw [← Array.toList_inj, Array.toList_map]; exact hq
 unfold execOp
 simp only [ho, hq', Sem.run_bind, hr, Result.andThen_ok]
 rfl
theorem wpl_buildN {ops : Array Oper} {rest : List Oper} {o : Oper} {a : Act} {w w' : World} {Q : Exit → Act → World → Prop} (hgd : o.guard = none) (t : TypeId) (ps : Array (Nat × Operand)) (ho : o.op = .build t ps) {qs : Array (Nat × Value)} (hq : (ps.toList.map fun (i, x) => (i, a.eval x)) = qs.toList) {v : Value} (hr : (Instr.build t qs).run Tryz.prog w = .ok v w') (hk : wpList Tryz.prog ops Q rest (a.put o.dst v) w') : wpList Tryz.prog ops Q (o :: rest) a w :=
 wpList_plain hgd fun _ hK => wp_buildN t ps ho hq hr (hK _ _ hk)
theorem wpl_buildS {ops : Array Oper} {rest : List Oper} {o : Oper} {a : Act} {w w' : World} {Q : Exit → Act → World → Prop} (hgd : o.guard = none) (t : TypeId) (n : Nat) (ps : Array (Nat × Operand)) (ho : o.op = .buildSlice t n ps) {qs : Array (Nat × Value)} (hq : (ps.toList.map fun (i, x) => (i, a.eval x)) = qs.toList) {v : Value} (hr : (Instr.buildSlice t n qs).run Tryz.prog w = .ok v w') (hk : wpList Tryz.prog ops Q rest (a.put o.dst v) w') : wpList Tryz.prog ops Q (o :: rest) a w :=
 wpList_plain hgd fun _ hK => wp_buildS t n ps ho hq hr (hK _ _ hk)
theorem wrap_le {x : Int} (h1 : -1000000 ≤ x) (h2 : x ≤ 1000000) : IntKind.i64.wrap x = x := by
 rw [IntKind.wrap_i64]; omega
theorem readyP {ops : Array Oper} {Q : Exit → Act → World → Prop} {md : Region.Mode} {S : World → Prop} {fuel : Nat} {listed : Array Bool} {a : Act} {w : World} {i : Nat} {o : Oper} {rs : List Nat} (ho : ops[i]? = some o) (hg : o.guard = none)
  (h : ∀ K' : Act → World → Prop, Shut (∀ a w, S w → (S w → wpAnyH Tryz.prog md ops Q S fuel (listed.setIfInBounds i true) a w) → K' a w) → Oper.wp Tryz.prog o a w K' Q)
  (hs : AllReadyH Tryz.prog md ops Q S fuel listed a w rs) : AllReadyH Tryz.prog md ops Q S fuel listed a w (i :: rs) :=
 AllReadyH.cons ho (fun K' hK => by rw [if_pos (by simp [Region.wanted, hg])]; exact h K' hK) hs
theorem newStore (w : World) (c : Array Value) (h : Hd) (a : Option Addr) (n cap : Nat) (hc : c.size = 16) : (storeCells ⟨w.heap.size, 0, none⟩ (hdC h (.slice a n cap)) 0).run Tryz.prog (w.alloc (.cells c 34)) = .ok () (w.alloc (.cells (hdC h (.slice a n cap)).toArray 34)) := by
 have := run_storeCells_new (P := Tryz.prog) w 34 c (hdC h (.slice a n cap)).toArray (by rw [sizeNode]; rfl) (by rw [hc]; rfl) (hdC_one h rfl)
 simpa using this
def Ended (l : List Tok) : Prop := ∃ i e, l = i ++ [e] ∧ e.kind = 0 ∧ e.txt = []
theorem ended_ne {l : List Tok} (h : Ended l) : l ≠ [] := by
 obtain ⟨i, e, rfl, _⟩ := h; simp
theorem ended_tail {l : List Tok} (h : Ended l) (h1 : (hd l).kind ≠ 0 ∨ (hd l).txt ≠ []) : Ended l.tail := by
  obtain ⟨i, e, rfl, h2, h3⟩ := h
  cases i with
  | nil =>
    rcases h1 with h1 | h1
    · exact absurd h2 h1
    · exact absurd h3 h1
  | cons a i => exact ⟨i, e, rfl, h2, h3⟩
theorem ended_at {l : List Tok} {s : List UInt8} (h : Ended l) (h1 : atB l s = true) : Ended l.tail := ended_tail h (.inl (by have := (atB_kind h1).1; omega))
def Told (R : Nat) (w : World) (r : Rs) (e : Ending) (w' : World) : Prop :=
 match r with
 | .ok h k l => ∃ a n cap, e = .returned (nodeV h (.slice a n cap)) ∧ Kv w' (New w w') (.slice a n cap) k ∧ Rdr w' R l ∧ Bar R w w' ∧ Ended l
 | .bad l => e = .panicked [{ v := .iface 82 (.agg #[.int .i64 (hd l).pos, .int .i64 5]), recovered := false }] ∧ Bar R w w'
theorem go_ended : ∀ (f : Nat) (c : Cmd) (l : List Tok), fine c → Ended l → ∀ h k r, go f c l = .ok h k r → Ended r
  | 0, _, _, _, _, _, _, _, e => by simp [go] at e
  | f + 1, .form m, l, hm, he, h, k, r, e => by
    rw [go] at e
    cases e1 : go f .single l with
    | bad r => rw [e1] at e; cases e
    | ok h1 k1 r1 =>
      rw [e1] at e
      exact go_ended f (.loop m h1 k1) r1 hm (go_ended f .single l trivial he _ _ _ e1) _ _ _ e
  | f + 1, .loop m h0 k0, l, hm, he, h, k, r, e => by
    rw [go] at e
    split at e
    · cases e; exact he
    · rename_i hb
      simp only [fine] at hm
      have ht := ended_tail he (.inr (fun x => by rw [x] at hb; exact hb (by rw [bind_nil]; omega)))
      cases e1 : go f (.form (bindN (hd l).txt + 1)) l.tail with
      | bad r => rw [e1] at e; cases e
      | ok h1 k1 r1 =>
        rw [e1] at e
        exact go_ended f (.loop m _ _) r1 hm (go_ended f (.form (bindN (hd l).txt + 1)) l.tail (by simp [fine]) ht _ _ _ e1) _ _ _ e
  | f + 1, .single, l, hm, he, h, k, r, e => by
    rw [go] at e
    split at e
    · rename_i h1
      cases e; exact ended_tail he (.inl (by omega))
    · split at e
      · rename_i h1
        have ht := ended_tail he (.inl (by omega))
        split at e
        · rename_i h2
          have ht2 := ended_at ht h2
          split at e
          · rename_i h3
            cases e; exact ended_tail ht2 (.inl (by omega))
          · cases e
        · cases e; exact ht
      · split at e
        · rename_i h1
          have ht := ended_tail he (.inl (by omega))
          split at e
          · rename_i h2
            have ht2 := ended_at ht h2
            split at e
            · rename_i h3
              cases e; exact ended_at ht2 h3
            · cases e1 : go f (.kids .nil) l.tail.tail with
              | bad r => rw [e1] at e; cases e
              | ok h1 k1 r1 =>
                rw [e1] at e
                have a := go_ended f (.kids .nil) l.tail.tail trivial ht2 _ _ _ e1
                simp only at e
                split at e
                · rename_i h3
                  cases e; exact ended_at a h3
                · cases e
          · cases e
        · split at e
          · rename_i h2
            have ht2 := ended_at he h2
            cases e1 : go f .single l.tail with
            | bad r => rw [e1] at e; cases e
            | ok h1 k1 r1 =>
              rw [e1] at e
              have a := go_ended f .single l.tail trivial ht2 _ _ _ e1
              cases e; exact a
          · split at e
            · rename_i h2
              have ht2 := ended_at he h2
              cases e1 : go f (.form 1) l.tail with
              | bad r => rw [e1] at e; cases e
              | ok h1 k1 r1 =>
                rw [e1] at e
                have a := go_ended f (.form 1) l.tail (by simp [fine]) ht2 _ _ _ e1
                simp only at e
                split at e
                · rename_i h3
                  cases e; exact ended_at a h3
                · cases e
            · cases e
  | f + 1, .kids acc, l, hm, he, h, k, r, e => by
    rw [go] at e
    cases e1 : go f (.form 1) l with
    | bad r => rw [e1] at e; cases e
    | ok h1 k1 r1 =>
      rw [e1] at e
      have a := go_ended f (.form 1) l (by simp [fine]) he _ _ _ e1
      simp only at e
      split at e
      · rename_i h3
        exact go_ended f (.kids (acc.snoc h1 k1)) r1.tail trivial (ended_at a h3) _ _ _ e
      · cases e; exact a
theorem rd_ended {c : Cmd} {l : List Tok} (hc : fine c) (he : Ended l) {h k r} (e : rd c l = .ok h k r) : Ended r := go_ended _ _ _ hc he _ _ _ e
theorem tok_field1 (x0 x1 x2 x3 x4 x5 x6 x7 x8 x9 x10 x11 : Value) (w : World) : (Instr.field 66 (.agg #[x0, x1, x2, x3, x4, x5, x6, x7, x8, x9, x10, x11]) 1).run Tryz.prog w = .ok (.agg #[x1, x2, x3, x4, x5]) w := by
 simp [Instr.field, go_sem, asAgg, Result.andThen]
theorem tok_field2 (x0 x1 x2 x3 x4 x5 x6 x7 x8 x9 x10 x11 : Value) (w : World) : (Instr.field 66 (.agg #[x0, x1, x2, x3, x4, x5, x6, x7, x8, x9, x10, x11]) 2).run Tryz.prog w = .ok (.agg #[x6, x7, x8, x9]) w := by
 simp [Instr.field, go_sem, asAgg, Result.andThen]
theorem tok_field3 (x0 x1 x2 x3 x4 x5 x6 x7 x8 x9 x10 x11 : Value) (w : World) : (Instr.field 66 (.agg #[x0, x1, x2, x3, x4, x5, x6, x7, x8, x9, x10, x11]) 3).run Tryz.prog w = .ok (x10) w := by
 simp [Instr.field, go_sem, asAgg, Result.andThen]
end Go.Proofs.YtiaoaifoecmemaaGreatDoor
