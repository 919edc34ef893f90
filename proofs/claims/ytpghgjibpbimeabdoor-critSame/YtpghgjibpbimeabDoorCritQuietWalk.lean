/-
  The law's quiet; the walk of CritQuiet.
-/
import Derived.Test.YtpghgjibpbimeabDoorCr8
namespace Go.Proofs.YtpghgjibpbimeabDoor
open Go.RowKit
set_option linter.unusedSimpArgs false

theorem mk_size (l : List UInt8) : (⟨l.toArray⟩ : ByteArray).size = l.length := by show l.toArray.size = _; simp
def quietC (c : UInt8) : Bool := !(c == 63 || c == 42 || c == 126)
theorem quiet_next {S : List UInt8} {k : Nat} (h : k < S.length) (hq : quietB (S.take k) = true) (hc : quietC S[k] = true) : quietB (S.take (k + 1)) = true := by
  unfold quietB at *
  rw [List.take_succ_eq_append_getElem h, List.all_append, hq]
  simp only [List.all_cons, List.all_nil, Bool.and_true, Bool.true_and]
  exact hc
theorem quiet_stop {S : List UInt8} {k : Nat} (h : k < S.length) (hc : quietC S[k] = false) : quietB S = false := by
  unfold quietB
  rw [List.all_eq_false]
  exact ⟨S[k], List.getElem_mem h, by unfold quietC at hc; simp [hc]⟩
set_option maxRecDepth 100000 in
set_option maxHeartbeats 2000000 in
theorem quiet_any (S : List UInt8) (w : World) (hs : S.length ≤ 9223372036854775807) :
    Calls Tryd.prog 7 #[.string ⟨S.toArray⟩] w fun e w' => e = .returned (.bool (quietB S)) ∧ Below w.heap.size w w' := by
  have sz := mk_size S
  obtain ⟨R, hR⟩ : ∃ R, quietB S = R := ⟨_, rfl⟩
  rw [hR]
  have HR := hide hR
  clear hR
  go_enter Tryd.func7, Tryd.ntmps7
  go_wp2
  go_loopw [3] (fun iv wr => ∃ k : Nat, k ≤ S.length ∧ iv = .int .i64 k ∧ Hid (quietB (S.take k) = true) ∧ Below w.heap.size w wr) (fun iv _ => S.length - (intOf iv).toNat)
  case atStart => exact ⟨0, Nat.zero_le _, rfl, rfl, Below.refl _ w⟩
  case round =>
    obtain ⟨k, hk, rfl, HQ, hB⟩ := hrel
    by_cases hlt : k < S.length
    · have g1 : (k : Int) < (S.length : Int) := by omega
      have hx : ∀ h, (⟨S.toArray⟩ : ByteArray)[k]'h = S[k] := fun h => rfl
      have h3 : ∀ n : UInt8, (S[k] == n) = ((S[k].toNat : Int) == (n.toNat : Int)) := fun n => by
        by_cases h : S[k] = n
        · rw [h]; simp
        · have e : ((S[k].toNat : Int) == (n.toNat : Int)) = false := by rw [beq_eq_false_iff_ne]; exact fun q => h (UInt8.toNat_inj.1 (by omega))
          rw [e]; simp [h]
      have HC : Hid (quietC S[k] = !(((S[k].toNat : Int) == 63) || ((S[k].toNat : Int) == 42) || ((S[k].toNat : Int) == 126))) := by
        show _ = _
        unfold quietC
        rw [h3 63, h3 42, h3 126]; rfl
      have HS := hide (fun h => HR.out.symm.trans (quiet_stop hlt h))
      have HN := hide (fun h => quiet_next hlt HQ.out h)
      clear h3 HQ
      by_cases c1 : (S[k].toNat : Int) = 63
      · have b1 : ((S[k].toNat : Int) == 63) = true := by rw [c1]; rfl
        have HF : Hid (R = false) := HS.out (by rw [HC.out, b1]; rfl)
        clear HS HN HC
        go_wp2
        go_ret
        rw [HF.out]
        exact ⟨rfl, hB⟩
      have d1 : ((S[k].toNat : Int) == 63) = false := by rw [beq_eq_false_iff_ne]; exact c1
      by_cases c2 : (S[k].toNat : Int) = 42
      · have b1 : ((S[k].toNat : Int) == 42) = true := by rw [c2]; rfl
        have HF : Hid (R = false) := HS.out (by rw [HC.out, b1]; simp)
        clear HS HN HC
        go_wp2
        go_ret
        rw [HF.out]
        exact ⟨rfl, hB⟩
      have d2 : ((S[k].toNat : Int) == 42) = false := by rw [beq_eq_false_iff_ne]; exact c2
      by_cases c3 : (S[k].toNat : Int) = 126
      · have b1 : ((S[k].toNat : Int) == 126) = true := by rw [c3]; rfl
        have HF : Hid (R = false) := HS.out (by rw [HC.out, b1]; simp)
        clear HS HN HC
        go_wp2
        go_ret
        rw [HF.out]
        exact ⟨rfl, hB⟩
      have d3 : ((S[k].toNat : Int) == 126) = false := by rw [beq_eq_false_iff_ne]; exact c3
      have HF : Hid (quietB (S.take (k + 1)) = true) := HN.out (by rw [HC.out, d1, d2, d3]; rfl)
      clear HS HN HC
      go_wp2
      go_roundw
      case rel => exact ⟨k + 1, hlt, by go_num, HF, hB⟩
      case measure => simp [intOf]; omega
    · have hk' : k = S.length := by omega
      have HF : Hid (R = true) := by show _ = _; rw [← HR.out]; have := HQ.out; rwa [hk', List.take_length] at this
      have g1 : ¬ (k : Int) < (S.length : Int) := by omega
      clear HQ hk'
      go_wp2
      go_ret
      rw [HF.out]
      exact ⟨rfl, hB⟩
theorem like_quiet {p s : List UInt8} (h : quietB p = true) : likeR p s = decide (foldL p = foldL s) ∧ wildB (stepsR (foldL p)) = false := by
  have hq : quietB (foldL p) = true := by
    unfold quietB foldL at *
    rw [List.all_map, List.all_eq_true] at *
    intro c hc
    have h1 := h c hc
    by_cases hi : 97 ≤ c.toNat ∧ c.toNat ≤ 122
    · have e := foldB_in hi.1 hi.2
      have a1 : foldB c ≠ 63 := fun q => by rw [q] at e; have : (63 : UInt8).toNat = 63 := rfl; omega
      have a2 : foldB c ≠ 42 := fun q => by rw [q] at e; have : (42 : UInt8).toNat = 42 := rfl; omega
      have a3 : foldB c ≠ 126 := fun q => by rw [q] at e; have : (126 : UInt8).toNat = 126 := rfl; omega
      simp [a1, a2, a3]
    · rw [Function.comp, foldB_out hi]; exact h1
  unfold likeR
  rw [steps_quiet hq]
  exact ⟨lk_selves _ _, wild_selves _⟩
theorem like_all (s : List UInt8) : likeR [42] s = true := by
  unfold likeR
  rw [show stepsR (foldL [42]) = [⟨2, 0⟩] by kernel_rfl]
  exact lk_star _
theorem like_byte (s : List UInt8) : likeR [63] s = decide (s.length = 1) := by
  unfold likeR
  rw [show stepsR (foldL [63]) = [⟨1, 0⟩] by kernel_rfl]
  match s with
  | [] => rfl
  | [c] => rfl
  | c :: d :: r => simp [foldL, lk, takesB]
theorem like_some (s : List UInt8) : likeR [63, 42] s = decide (0 < s.length) := by
  unfold likeR
  rw [show stepsR (foldL [63, 42]) = [⟨1, 0⟩, ⟨2, 0⟩] by kernel_rfl]
  cases s with
  | nil => rfl
  | cons c r =>
    show lk (⟨1, 0⟩ :: [⟨2, 0⟩]) (foldB c :: foldL r) = _
    rw [lk_one (by decide), lk_star]
    simp [takesB]
set_option maxRecDepth 100000 in
set_option maxHeartbeats 4000000 in
theorem critQuiet_walk (p s : ByteArray) (w : World) (h : EnvK w) (h1 : p.size ≤ maxLen) (h2 : s.size ≤ maxLen) :
    Calls Tryd.prog 3 #[.string p, .string s] w fun e w' => e = .returned (.bool true) ∧ Below w.heap.size w w' := by
  have HL : Hid (∀ W : World, Below w.heap.size w W → Calls Tryd.prog 6 #[] W fun e w' => e = .returned (.bool true) ∧ Below W.heap.size W w') := fun W hW => lives13_any W (h.below hW)
  have HB := hide (Below.refl w.heap.size w)
  clear h
  obtain ⟨P, rfl⟩ : ∃ X : List UInt8, p = ⟨X.toArray⟩ := ⟨p.data.toList, by simp⟩
  obtain ⟨S, rfl⟩ : ∃ X : List UInt8, s = ⟨X.toArray⟩ := ⟨s.data.toList, by simp⟩
  have sp := mk_size P
  have ss := mk_size S
  rw [mk_size] at h1 h2
  unfold maxLen at h1 h2
  by_cases b0 : 200 < P.length
  · have g0 : (200 : Int) < (P.length : Int) := by omega
    clear b0
    go_enter Tryd.func3, Tryd.ntmps3
    go_wp2_with (first | (go_at_call 6; refine (HL.out _ HB.out).mono ?_; rintro e wz ⟨rfl, hz⟩; replace HB := hide (upR HB.out hz); clear hz))
    go_ret
    exact ⟨rfl, HB.out⟩
  have g0 : ¬ (200 : Int) < (P.length : Int) := by omega
  by_cases b1 : 200 < S.length
  · have g1 : (200 : Int) < (S.length : Int) := by omega
    clear b1
    go_enter Tryd.func3, Tryd.ntmps3
    go_wp2_with (first | (go_at_call 6; refine (HL.out _ HB.out).mono ?_; rintro e wz ⟨rfl, hz⟩; replace HB := hide (upR HB.out hz); clear hz))
    go_ret
    exact ⟨rfl, HB.out⟩
  have g1 : ¬ (200 : Int) < (S.length : Int) := by omega
  have HLk : Hid (∀ (A B : ByteArray) (W : World), A.size ≤ 1000 → B.size ≤ 1000 → Calls Tryd.prog 9 #[.string A, .string B] W fun e w' => e = .returned (.bool (likeR A.data.toList B.data.toList)) ∧ Below W.heap.size W w') := fun A B W ha hb => Like_any A B W (by omega) (by unfold maxLen; omega)
  have HQ : Hid (∀ W : World, Calls Tryd.prog 7 #[.string ⟨P.toArray⟩] W fun e w' => e = .returned (.bool (quietB P)) ∧ Below W.heap.size W w') := fun W => quiet_any P W (by omega)
  have H1 : Hid (∀ W : World, Calls Tryd.prog 9 #[.string ⟨#[42]⟩, .string ⟨S.toArray⟩] W fun e w' => e = .returned (.bool true) ∧ Below W.heap.size W w') := fun W => by
    have := HLk.out ⟨#[42]⟩ ⟨S.toArray⟩ W (by decide) (by rw [mk_size]; omega)
    rwa [show (⟨S.toArray⟩ : ByteArray).data.toList = S by simp, show (⟨#[42]⟩ : ByteArray).data.toList = [42] from rfl, like_all] at this
  have H2 : Hid (∀ W : World, Calls Tryd.prog 9 #[.string ⟨#[63]⟩, .string ⟨S.toArray⟩] W fun e w' => e = .returned (.bool (decide ((S.length : Int) = 1))) ∧ Below W.heap.size W w') := fun W => by
    have := HLk.out ⟨#[63]⟩ ⟨S.toArray⟩ W (by decide) (by rw [mk_size]; omega)
    rw [show (⟨S.toArray⟩ : ByteArray).data.toList = S by simp, show (⟨#[63]⟩ : ByteArray).data.toList = [63] from rfl, like_byte] at this
    rwa [show decide ((S.length : Int) = 1) = decide (S.length = 1) by rw [decide_eq_decide]; omega]
  have H3 : Hid (∀ W : World, Calls Tryd.prog 9 #[.string ⟨#[63, 42]⟩, .string ⟨S.toArray⟩] W fun e w' => e = .returned (.bool (decide ((0 : Int) < (S.length : Int)))) ∧ Below W.heap.size W w') := fun W => by
    have := HLk.out ⟨#[63, 42]⟩ ⟨S.toArray⟩ W (by decide) (by rw [mk_size]; omega)
    rw [show (⟨S.toArray⟩ : ByteArray).data.toList = S by simp, show (⟨#[63, 42]⟩ : ByteArray).data.toList = [63, 42] from rfl, like_some] at this
    rwa [show decide ((0 : Int) < (S.length : Int)) = decide (0 < S.length) by rw [decide_eq_decide]; omega]
  cases hq : quietB P
  · rw [hq] at HQ
    clear hq HLk
    go_enter Tryd.func3, Tryd.ntmps3
    go_wp2_with (first | (go_at_call 7; refine (HQ.out _).mono ?_; rintro e wz ⟨rfl, hz⟩; replace HB := hide (upR HB.out hz); clear hz HQ) | (go_at_call 9; refine (H1.out _).mono ?_; rintro e wz ⟨rfl, hz⟩; replace HB := hide (upR HB.out hz); clear hz H1) | (go_at_call 9; refine (H2.out _).mono ?_; rintro e wz ⟨rfl, hz⟩; replace HB := hide (upR HB.out hz); clear hz H2) | (go_at_call 9; refine (H3.out _).mono ?_; rintro e wz ⟨rfl, hz⟩; replace HB := hide (upR HB.out hz); clear hz H3) | (go_at_call 6; refine (HL.out _ HB.out).mono ?_; rintro e wz ⟨rfl, hz⟩; replace HB := hide (upR HB.out hz); clear hz))
    go_ret
    exact ⟨rfl, HB.out⟩
  rw [hq] at HQ
  obtain ⟨l1, l2⟩ := like_quiet (s := S) hq
  have HW : Hid (∀ W : World, Calls Tryd.prog 8 #[.string ⟨P.toArray⟩] W fun e w' => e = .returned (.bool false) ∧ Below W.heap.size W w') := fun W => by
    have := Wild_any ⟨P.toArray⟩ W (by rw [mk_size]; omega)
    rwa [show (⟨P.toArray⟩ : ByteArray).data.toList = P by simp, l2] at this
  have HK : Hid (∀ W : World, Calls Tryd.prog 9 #[.string ⟨P.toArray⟩, .string ⟨S.toArray⟩] W fun e w' => e = .returned (.bool (foldL P == foldL S)) ∧ Below W.heap.size W w') := fun W => by
    have := HLk.out ⟨P.toArray⟩ ⟨S.toArray⟩ W (by rw [mk_size]; omega) (by rw [mk_size]; omega)
    rw [show (⟨S.toArray⟩ : ByteArray).data.toList = S by simp, show (⟨P.toArray⟩ : ByteArray).data.toList = P by simp, l1] at this
    rwa [show (foldL P == foldL S) = decide (foldL P = foldL S) by rw [Bool.eq_iff_iff]; simp]
  have HFo : Hid (∀ (A : List UInt8) (W : World), Calls Tryd.prog 10 #[.string ⟨A.toArray⟩] W fun e w' => e = .returned (.string ⟨(foldL A).toArray⟩) ∧ Below W.heap.size W w') := fun A W => by
    have := fold_any ⟨A.toArray⟩ W
    rwa [show (⟨A.toArray⟩ : ByteArray).data.toList = A by simp] at this
  clear hq HLk l1 l2
  have t1 := list_ba (foldL P)
  have t2 := list_ba (foldL S)
  have HBx := HB
  go_enter Tryd.func3, Tryd.ntmps3
  go_wp2_with (first | (go_at_call 7; refine (HQ.out _).mono ?_; rintro e wz ⟨rfl, hz⟩; replace HB := hide (upR HB.out hz); clear hz HQ) | (go_at_call 8; refine (HW.out _).mono ?_; rintro e wz ⟨rfl, hz⟩; replace HB := hide (upR HB.out hz); clear hz HW) | (go_at_call 9; refine (HK.out _).mono ?_; rintro e wz ⟨rfl, hz⟩; replace HB := hide (upR HB.out hz); clear hz HK) | (go_at_call 10; refine (HFo.out _ _).mono ?_; rintro e wz ⟨rfl, hz⟩; replace HB := hide (upR HB.out hz); clear hz) | (go_at_call 9; refine (H1.out _).mono ?_; rintro e wz ⟨rfl, hz⟩; replace HB := hide (upR HB.out hz); clear hz H1) | (go_at_call 9; refine (H2.out _).mono ?_; rintro e wz ⟨rfl, hz⟩; replace HB := hide (upR HB.out hz); clear hz H2) | (go_at_call 9; refine (H3.out _).mono ?_; rintro e wz ⟨rfl, hz⟩; replace HB := hide (upR HB.out hz); clear hz H3) | (go_at_call 6; refine (HL.out _ HB.out).mono ?_; rintro e wz ⟨rfl, hz⟩; replace HB := hide (upR HB.out hz); clear hz))
  go_ret
  exact ⟨rfl, HB.out⟩
end Go.Proofs.YtpghgjibpbimeabDoor
