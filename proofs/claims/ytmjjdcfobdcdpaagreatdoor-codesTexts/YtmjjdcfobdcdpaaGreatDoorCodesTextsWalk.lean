/-
  The walk of CodesTexts.
-/
import Derived.Test.YtmjjdcfobdcdpaaGreatDoorCd13
namespace Go.Proofs.YtmjjdcfobdcdpaaGreatDoor
open Go.RowKit
set_option linter.unusedSimpArgs false

theorem code_eq (S : List UInt8) : (⟨#[34]⟩ : ByteArray) ++ ⟨S.toArray⟩ ++ ⟨#[34, 48, 46, 48, 35]⟩ = ⟨(codeT S).toArray⟩ := by
  rw [show (⟨#[34]⟩ : ByteArray) = ⟨[34].toArray⟩ from rfl, show (⟨#[34, 48, 46, 48, 35]⟩ : ByteArray) = ⟨[34, 48, 46, 48, 35].toArray⟩ from rfl, ba_app, ba_app]; rfl
theorem code_len (S : List UInt8) : (codeT S).length = S.length + 6 := by simp [codeT, litT]
set_option maxRecDepth 100000 in
set_option maxHeartbeats 8000000 in
theorem codesTexts_walk (c s : ByteArray) (n : Int) (w : World) (h : EnvC w) (hc : c.size ≤ maxLen) (hs : s.size ≤ maxLen) :
    Calls Tryz.prog 8 #[.string c, .string s, .int .i64 n] w fun e w' => e = .returned (.bool true) ∧ Below w.heap.size w w' := by
  have HL : Hid (∀ W : World, Below w.heap.size w W → Calls Tryz.prog 13 #[] W fun e w' => e = .returned (.bool true) ∧ Below W.heap.size W w') := fun W hW => lives_any W (h.below hW)
  have HN : Hid (∀ (n : Int) (W : World), Calls Tryz.prog 17 #[.int .i64 n] W fun e w' => e = .returned (.agg #[.int .i64 1, .int .i64 n, .string ⟨#[]⟩, .bool false, .int .i64 0]) ∧ Below W.heap.size W w') := hide lnumber_any
  have HX : Hid (∀ (s : ByteArray) (W : World), Calls Tryz.prog 22 #[.string s] W fun e w' => e = .returned (.agg #[.int .i64 2, .int .i64 0, .string s, .bool false, .int .i64 0]) ∧ Below W.heap.size W w') := hide ltext_any
  obtain ⟨C, rfl⟩ : ∃ C : List UInt8, c = ⟨C.toArray⟩ := ⟨c.data.toList, by simp⟩
  obtain ⟨S, rfl⟩ : ∃ S : List UInt8, s = ⟨S.toArray⟩ := ⟨s.data.toList, by simp⟩
  have sz := mk_size S
  rw [mk_size] at hc hs
  unfold maxLen at hc hs
  by_cases h255 : 255 < S.length
  · have g0 : (255 : Int) < (S.length : Int) := by omega
    have HB := hide (Below.refl w.heap.size w)
    clear h
    go_enter Tryz.func8, Tryz.ntmps8
    go_wp2_with (first | (go_at_call 13; refine (HL.out _ HB.out).mono ?_; rintro e w9 ⟨rfl, hb1⟩; replace HB := hide (up HB.out hb1); clear hb1))
    go_ret
    exact ⟨rfl, HB.out⟩
  have g0 : ¬ (255 : Int) < (S.length : Int) := by omega
  have HJ : Hid (∀ W : World, Below w.heap.size w W → Calls Tryz.prog 21 #[.string ⟨#[64]⟩, .agg #[.int .i64 2, .int .i64 0, .string ⟨S.toArray⟩, .bool false, .int .i64 0], .string ⟨S.toArray⟩] W fun e w' => e = .returned (.bool true) ∧ Below W.heap.size W w') := fun W hW => is_yes (text_at (by omega)) W (h.below hW) (by decide) (by rw [sz]; unfold maxLen; omega)
  have HC : Hid (∀ W : World, Below w.heap.size w W → Calls Tryz.prog 9 #[.string ⟨C.toArray⟩] W fun e w' => e = .returned (.int .i64 (checkR C)) ∧ Below W.heap.size W w') := fun W hW => Check_any C W hc (h.below hW).cell
  have HP : Hid (∀ W : World, Below w.heap.size w W → Calls Tryz.prog 11 #[.string ⟨C.toArray⟩] W fun e w' => e = .returned (.bool (plainR C)) ∧ Below W.heap.size W w') := fun W hW => Plain_any C W hc (h.below hW).cell
  have HI : Hid (∀ W : World, plainR C = true → Below w.heap.size w W → Calls Tryz.prog 21 #[.string ⟨C.toArray⟩, .agg #[.int .i64 2, .int .i64 0, .string ⟨S.toArray⟩, .bool false, .int .i64 0], .string ⟨S.toArray⟩] W fun e w' => e = .returned (.bool true) ∧ Below W.heap.size W w') := fun W hp hW => is_yes (text_plain hp (by omega)) W (h.below hW) hc (by rw [sz]; unfold maxLen; omega)
  have HCase : (∃ E, checkR C = E ∧ (E == 0) = false ∧ E ≠ 0) ∨ (checkR C = 0 ∧ plainR C = false) ∨ (checkR C = 0 ∧ plainR C = true) := by
    by_cases e : checkR C = 0
    · cases hp : plainR C
      · exact .inr (.inl ⟨e, rfl⟩)
      · exact .inr (.inr ⟨e, rfl⟩)
    · exact .inl ⟨_, rfl, by rw [beq_eq_false_iff_ne]; exact e, e⟩
  rcases HCase with ⟨E, e1, e2, e3⟩ | ⟨e1, e2⟩ | ⟨e1, e2⟩
  · rw [e1] at HC
    clear HI HP e1
    have HB := hide (Below.refl w.heap.size w)
    go_enter Tryz.func8, Tryz.ntmps8
    go_wp2_with (first | (go_at_call 22; refine (HX.out _ _).mono ?_; rintro e w1 ⟨rfl, hb1⟩; replace HB := hide (up HB.out hb1); clear hb1) | (go_at_call 9; refine (HC.out _ HB.out).mono ?_; rintro e w2 ⟨rfl, hb1⟩; replace HB := hide (up HB.out hb1); clear hb1) | (go_at_call 11; refine (HP.out _ HB.out).mono ?_; rintro e w2 ⟨rfl, hb1⟩; replace HB := hide (up HB.out hb1); clear hb1) | (first | (go_at_call 21; refine (HI.out _ HB.out).mono ?_; rintro e w3 ⟨rfl, hb1⟩; replace HB := hide (up HB.out hb1); clear hb1; clear HI) | (go_at_call 21; refine (HJ.out _ HB.out).mono ?_; rintro e w3 ⟨rfl, hb1⟩; replace HB := hide (up HB.out hb1); clear hb1; clear HJ)))
    go_loopw [7] (fun iv wr => ∃ k : Nat, k ≤ S.length ∧ iv = .int .i64 k ∧ Hid (∀ c ∈ S.take k, c ≠ 34) ∧ Below w.heap.size w wr) (fun iv _ => S.length - (intOf iv).toNat)
    case atStart => exact ⟨0, Nat.zero_le _, rfl, by intro c hc; simp at hc, HB.out⟩
    case round =>
      obtain ⟨k, hk, rfl, HQ, hB⟩ := hrel
      replace HB := hide hB
      clear hB
      by_cases hlt : k < S.length
      · have g1 : (k : Int) < (S.length : Int) := by omega
        have hx : ∀ h, (⟨S.toArray⟩ : ByteArray)[k]'h = S[k] := fun h => rfl
        by_cases c1 : (S[k].toNat : Int) = 34
        · have b1 : ((S[k].toNat : Int) == 34) = true := by rw [c1]; rfl
          clear HQ
          go_wp2_with (first | (go_at_call 13; refine (HL.out _ HB.out).mono ?_; rintro e w9 ⟨rfl, hb1⟩; replace HB := hide (up HB.out hb1); clear hb1))
          go_ret
          exact ⟨rfl, HB.out⟩
        · have b1 : ((S[k].toNat : Int) == 34) = false := by rw [beq_eq_false_iff_ne]; exact c1
          have HQ2 : Hid (∀ c ∈ S.take (k + 1), c ≠ 34) := by
            intro c hc
            rw [List.take_succ_eq_append_getElem hlt] at hc
            rcases List.mem_append.1 hc with hc | hc
            · exact HQ.out c hc
            · simp at hc
              subst hc
              intro e
              exact c1 (by rw [e]; rfl)
          clear HQ
          go_wp2
          go_roundw
          case rel => exact ⟨k + 1, hlt, by go_num, HQ2, HB.out⟩
          case measure => simp [intOf]; omega
      have hno := HQ.out
      have hk' : k = S.length := by omega
      rw [hk', List.take_length] at hno
      have g1 : ¬ (k : Int) < (S.length : Int) := by omega
      clear HQ hk
      subst hk'
      by_cases c5 : 50 < S.length
      · have g5 : (50 : Int) < (S.length : Int) := by omega
        clear hno c5
        go_wp2_with (first | (go_at_call 13; refine (HL.out _ HB.out).mono ?_; rintro e w9 ⟨rfl, hb1⟩; replace HB := hide (up HB.out hb1); clear hb1))
        go_ret
        exact ⟨rfl, HB.out⟩
      have g5 : ¬ (50 : Int) < (S.length : Int) := by omega
      by_cases cn : n < 0
      · clear hno c5
        go_wp2_with (first | (go_at_call 13; refine (HL.out _ HB.out).mono ?_; rintro e w9 ⟨rfl, hb1⟩; replace HB := hide (up HB.out hb1); clear hb1))
        go_ret
        exact ⟨rfl, HB.out⟩
      cases hf : fitsB n
      · obtain ⟨qa, qb⟩ := texts_wrong hf S hno (by omega)
        have HA : Hid (∀ W : World, Below w.heap.size w W → Calls Tryz.prog 14 #[.string ⟨#[48, 46, 48, 35]⟩, .agg #[.int .i64 1, .int .i64 n, .string ⟨#[]⟩, .bool false, .int .i64 0]] W fun e w' => e = .returned (.tuple #[.string ⟨#[]⟩, .int .i64 2]) ∧ Below W.heap.size W w') := fun W hW => Apply_any qa W (by decide) (h.below hW).cell (h.below hW).tab (h.below hW).len (by decide)
        have HD : Hid (∀ W : World, Below w.heap.size w W → Calls Tryz.prog 14 #[.string (⟨#[34]⟩ ++ ⟨S.toArray⟩ ++ ⟨#[34, 48, 46, 48, 35]⟩), .agg #[.int .i64 1, .int .i64 n, .string ⟨#[]⟩, .bool false, .int .i64 0]] W fun e w' => e = .returned (.tuple #[.string ⟨#[]⟩, .int .i64 2]) ∧ Below W.heap.size W w') := fun W hW => by
          rw [code_eq]
          exact Apply_any qb W (by rw [code_len]; omega) (h.below hW).cell (h.below hW).tab (h.below hW).len (by decide)
        clear qa qb hno hf
        go_wp2_with (first | (go_at_call 17; refine (HN.out _ _).mono ?_; rintro e w1 ⟨rfl, hb1⟩; replace HB := hide (up HB.out hb1); clear hb1) | (first | (go_at_call 14; refine (HA.out _ HB.out).mono ?_; rintro e w3 ⟨rfl, hb1⟩; replace HB := hide (up HB.out hb1); clear hb1; clear HA) | (go_at_call 14; refine (HD.out _ HB.out).mono ?_; rintro e w3 ⟨rfl, hb1⟩; replace HB := hide (up HB.out hb1); clear hb1; clear HD)) | (go_at_call 13; refine (HL.out _ HB.out).mono ?_; rintro e w9 ⟨rfl, hb1⟩; replace HB := hide (up HB.out hb1); clear hb1))
        go_ret
        exact ⟨rfl, HB.out⟩
      · obtain ⟨A, qa, qb, hA⟩ := texts_num hf (by omega) S hno (by omega)
        have HA : Hid (∀ W : World, Below w.heap.size w W → Calls Tryz.prog 14 #[.string ⟨#[48, 46, 48, 35]⟩, .agg #[.int .i64 1, .int .i64 n, .string ⟨#[]⟩, .bool false, .int .i64 0]] W fun e w' => e = .returned (.tuple #[.string ⟨A.toArray⟩, .int .i64 0]) ∧ Below W.heap.size W w') := fun W hW => Apply_any qa W (by decide) (h.below hW).cell (h.below hW).tab (h.below hW).len (by decide)
        have HD : Hid (∀ W : World, Below w.heap.size w W → Calls Tryz.prog 14 #[.string (⟨#[34]⟩ ++ ⟨S.toArray⟩ ++ ⟨#[34, 48, 46, 48, 35]⟩), .agg #[.int .i64 1, .int .i64 n, .string ⟨#[]⟩, .bool false, .int .i64 0]] W fun e w' => e = .returned (.tuple #[.string (⟨S.toArray⟩ ++ ⟨A.toArray⟩), .int .i64 0]) ∧ Below W.heap.size W w') := fun W hW => by
          rw [code_eq, ba_app]
          exact Apply_any qb W (by rw [code_len]; omega) (h.below hW).cell (h.below hW).tab (h.below hW).len (by decide)
        clear qa qb hno hf
        go_wp2_with (first | (go_at_call 17; refine (HN.out _ _).mono ?_; rintro e w1 ⟨rfl, hb1⟩; replace HB := hide (up HB.out hb1); clear hb1) | (first | (go_at_call 14; refine (HA.out _ HB.out).mono ?_; rintro e w3 ⟨rfl, hb1⟩; replace HB := hide (up HB.out hb1); clear hb1; clear HA) | (go_at_call 14; refine (HD.out _ HB.out).mono ?_; rintro e w3 ⟨rfl, hb1⟩; replace HB := hide (up HB.out hb1); clear hb1; clear HD)) | (go_at_call 13; refine (HL.out _ HB.out).mono ?_; rintro e w9 ⟨rfl, hb1⟩; replace HB := hide (up HB.out hb1); clear hb1))
        go_ret
        exact ⟨rfl, HB.out⟩

  · rw [e1] at HC
    rw [e2] at HP
    clear HI e1 e2
    have HB := hide (Below.refl w.heap.size w)
    go_enter Tryz.func8, Tryz.ntmps8
    go_wp2_with (first | (go_at_call 22; refine (HX.out _ _).mono ?_; rintro e w1 ⟨rfl, hb1⟩; replace HB := hide (up HB.out hb1); clear hb1) | (go_at_call 9; refine (HC.out _ HB.out).mono ?_; rintro e w2 ⟨rfl, hb1⟩; replace HB := hide (up HB.out hb1); clear hb1) | (go_at_call 11; refine (HP.out _ HB.out).mono ?_; rintro e w2 ⟨rfl, hb1⟩; replace HB := hide (up HB.out hb1); clear hb1) | (first | (go_at_call 21; refine (HI.out _ HB.out).mono ?_; rintro e w3 ⟨rfl, hb1⟩; replace HB := hide (up HB.out hb1); clear hb1; clear HI) | (go_at_call 21; refine (HJ.out _ HB.out).mono ?_; rintro e w3 ⟨rfl, hb1⟩; replace HB := hide (up HB.out hb1); clear hb1; clear HJ)))
    go_loopw [7] (fun iv wr => ∃ k : Nat, k ≤ S.length ∧ iv = .int .i64 k ∧ Hid (∀ c ∈ S.take k, c ≠ 34) ∧ Below w.heap.size w wr) (fun iv _ => S.length - (intOf iv).toNat)
    case atStart => exact ⟨0, Nat.zero_le _, rfl, by intro c hc; simp at hc, HB.out⟩
    case round =>
      obtain ⟨k, hk, rfl, HQ, hB⟩ := hrel
      replace HB := hide hB
      clear hB
      by_cases hlt : k < S.length
      · have g1 : (k : Int) < (S.length : Int) := by omega
        have hx : ∀ h, (⟨S.toArray⟩ : ByteArray)[k]'h = S[k] := fun h => rfl
        by_cases c1 : (S[k].toNat : Int) = 34
        · have b1 : ((S[k].toNat : Int) == 34) = true := by rw [c1]; rfl
          clear HQ
          go_wp2_with (first | (go_at_call 13; refine (HL.out _ HB.out).mono ?_; rintro e w9 ⟨rfl, hb1⟩; replace HB := hide (up HB.out hb1); clear hb1))
          go_ret
          exact ⟨rfl, HB.out⟩
        · have b1 : ((S[k].toNat : Int) == 34) = false := by rw [beq_eq_false_iff_ne]; exact c1
          have HQ2 : Hid (∀ c ∈ S.take (k + 1), c ≠ 34) := by
            intro c hc
            rw [List.take_succ_eq_append_getElem hlt] at hc
            rcases List.mem_append.1 hc with hc | hc
            · exact HQ.out c hc
            · simp at hc
              subst hc
              intro e
              exact c1 (by rw [e]; rfl)
          clear HQ
          go_wp2
          go_roundw
          case rel => exact ⟨k + 1, hlt, by go_num, HQ2, HB.out⟩
          case measure => simp [intOf]; omega
      have hno := HQ.out
      have hk' : k = S.length := by omega
      rw [hk', List.take_length] at hno
      have g1 : ¬ (k : Int) < (S.length : Int) := by omega
      clear HQ hk
      subst hk'
      by_cases c5 : 50 < S.length
      · have g5 : (50 : Int) < (S.length : Int) := by omega
        clear hno c5
        go_wp2_with (first | (go_at_call 13; refine (HL.out _ HB.out).mono ?_; rintro e w9 ⟨rfl, hb1⟩; replace HB := hide (up HB.out hb1); clear hb1))
        go_ret
        exact ⟨rfl, HB.out⟩
      have g5 : ¬ (50 : Int) < (S.length : Int) := by omega
      by_cases cn : n < 0
      · clear hno c5
        go_wp2_with (first | (go_at_call 13; refine (HL.out _ HB.out).mono ?_; rintro e w9 ⟨rfl, hb1⟩; replace HB := hide (up HB.out hb1); clear hb1))
        go_ret
        exact ⟨rfl, HB.out⟩
      cases hf : fitsB n
      · obtain ⟨qa, qb⟩ := texts_wrong hf S hno (by omega)
        have HA : Hid (∀ W : World, Below w.heap.size w W → Calls Tryz.prog 14 #[.string ⟨#[48, 46, 48, 35]⟩, .agg #[.int .i64 1, .int .i64 n, .string ⟨#[]⟩, .bool false, .int .i64 0]] W fun e w' => e = .returned (.tuple #[.string ⟨#[]⟩, .int .i64 2]) ∧ Below W.heap.size W w') := fun W hW => Apply_any qa W (by decide) (h.below hW).cell (h.below hW).tab (h.below hW).len (by decide)
        have HD : Hid (∀ W : World, Below w.heap.size w W → Calls Tryz.prog 14 #[.string (⟨#[34]⟩ ++ ⟨S.toArray⟩ ++ ⟨#[34, 48, 46, 48, 35]⟩), .agg #[.int .i64 1, .int .i64 n, .string ⟨#[]⟩, .bool false, .int .i64 0]] W fun e w' => e = .returned (.tuple #[.string ⟨#[]⟩, .int .i64 2]) ∧ Below W.heap.size W w') := fun W hW => by
          rw [code_eq]
          exact Apply_any qb W (by rw [code_len]; omega) (h.below hW).cell (h.below hW).tab (h.below hW).len (by decide)
        clear qa qb hno hf
        go_wp2_with (first | (go_at_call 17; refine (HN.out _ _).mono ?_; rintro e w1 ⟨rfl, hb1⟩; replace HB := hide (up HB.out hb1); clear hb1) | (first | (go_at_call 14; refine (HA.out _ HB.out).mono ?_; rintro e w3 ⟨rfl, hb1⟩; replace HB := hide (up HB.out hb1); clear hb1; clear HA) | (go_at_call 14; refine (HD.out _ HB.out).mono ?_; rintro e w3 ⟨rfl, hb1⟩; replace HB := hide (up HB.out hb1); clear hb1; clear HD)) | (go_at_call 13; refine (HL.out _ HB.out).mono ?_; rintro e w9 ⟨rfl, hb1⟩; replace HB := hide (up HB.out hb1); clear hb1))
        go_ret
        exact ⟨rfl, HB.out⟩
      · obtain ⟨A, qa, qb, hA⟩ := texts_num hf (by omega) S hno (by omega)
        have HA : Hid (∀ W : World, Below w.heap.size w W → Calls Tryz.prog 14 #[.string ⟨#[48, 46, 48, 35]⟩, .agg #[.int .i64 1, .int .i64 n, .string ⟨#[]⟩, .bool false, .int .i64 0]] W fun e w' => e = .returned (.tuple #[.string ⟨A.toArray⟩, .int .i64 0]) ∧ Below W.heap.size W w') := fun W hW => Apply_any qa W (by decide) (h.below hW).cell (h.below hW).tab (h.below hW).len (by decide)
        have HD : Hid (∀ W : World, Below w.heap.size w W → Calls Tryz.prog 14 #[.string (⟨#[34]⟩ ++ ⟨S.toArray⟩ ++ ⟨#[34, 48, 46, 48, 35]⟩), .agg #[.int .i64 1, .int .i64 n, .string ⟨#[]⟩, .bool false, .int .i64 0]] W fun e w' => e = .returned (.tuple #[.string (⟨S.toArray⟩ ++ ⟨A.toArray⟩), .int .i64 0]) ∧ Below W.heap.size W w') := fun W hW => by
          rw [code_eq, ba_app]
          exact Apply_any qb W (by rw [code_len]; omega) (h.below hW).cell (h.below hW).tab (h.below hW).len (by decide)
        clear qa qb hno hf
        go_wp2_with (first | (go_at_call 17; refine (HN.out _ _).mono ?_; rintro e w1 ⟨rfl, hb1⟩; replace HB := hide (up HB.out hb1); clear hb1) | (first | (go_at_call 14; refine (HA.out _ HB.out).mono ?_; rintro e w3 ⟨rfl, hb1⟩; replace HB := hide (up HB.out hb1); clear hb1; clear HA) | (go_at_call 14; refine (HD.out _ HB.out).mono ?_; rintro e w3 ⟨rfl, hb1⟩; replace HB := hide (up HB.out hb1); clear hb1; clear HD)) | (go_at_call 13; refine (HL.out _ HB.out).mono ?_; rintro e w9 ⟨rfl, hb1⟩; replace HB := hide (up HB.out hb1); clear hb1))
        go_ret
        exact ⟨rfl, HB.out⟩

  · rw [e1] at HC
    rw [e2] at HP
    have HI := hide fun W hW => HI.out W e2 hW
    clear e1 e2
    have HB := hide (Below.refl w.heap.size w)
    go_enter Tryz.func8, Tryz.ntmps8
    go_wp2_with (first | (go_at_call 22; refine (HX.out _ _).mono ?_; rintro e w1 ⟨rfl, hb1⟩; replace HB := hide (up HB.out hb1); clear hb1) | (go_at_call 9; refine (HC.out _ HB.out).mono ?_; rintro e w2 ⟨rfl, hb1⟩; replace HB := hide (up HB.out hb1); clear hb1) | (go_at_call 11; refine (HP.out _ HB.out).mono ?_; rintro e w2 ⟨rfl, hb1⟩; replace HB := hide (up HB.out hb1); clear hb1) | (first | (go_at_call 21; refine (HI.out _ HB.out).mono ?_; rintro e w3 ⟨rfl, hb1⟩; replace HB := hide (up HB.out hb1); clear hb1; clear HI) | (go_at_call 21; refine (HJ.out _ HB.out).mono ?_; rintro e w3 ⟨rfl, hb1⟩; replace HB := hide (up HB.out hb1); clear hb1; clear HJ)))
    go_loopw [7] (fun iv wr => ∃ k : Nat, k ≤ S.length ∧ iv = .int .i64 k ∧ Hid (∀ c ∈ S.take k, c ≠ 34) ∧ Below w.heap.size w wr) (fun iv _ => S.length - (intOf iv).toNat)
    case atStart => exact ⟨0, Nat.zero_le _, rfl, by intro c hc; simp at hc, HB.out⟩
    case round =>
      obtain ⟨k, hk, rfl, HQ, hB⟩ := hrel
      replace HB := hide hB
      clear hB
      by_cases hlt : k < S.length
      · have g1 : (k : Int) < (S.length : Int) := by omega
        have hx : ∀ h, (⟨S.toArray⟩ : ByteArray)[k]'h = S[k] := fun h => rfl
        by_cases c1 : (S[k].toNat : Int) = 34
        · have b1 : ((S[k].toNat : Int) == 34) = true := by rw [c1]; rfl
          clear HQ
          go_wp2_with (first | (go_at_call 13; refine (HL.out _ HB.out).mono ?_; rintro e w9 ⟨rfl, hb1⟩; replace HB := hide (up HB.out hb1); clear hb1))
          go_ret
          exact ⟨rfl, HB.out⟩
        · have b1 : ((S[k].toNat : Int) == 34) = false := by rw [beq_eq_false_iff_ne]; exact c1
          have HQ2 : Hid (∀ c ∈ S.take (k + 1), c ≠ 34) := by
            intro c hc
            rw [List.take_succ_eq_append_getElem hlt] at hc
            rcases List.mem_append.1 hc with hc | hc
            · exact HQ.out c hc
            · simp at hc
              subst hc
              intro e
              exact c1 (by rw [e]; rfl)
          clear HQ
          go_wp2
          go_roundw
          case rel => exact ⟨k + 1, hlt, by go_num, HQ2, HB.out⟩
          case measure => simp [intOf]; omega
      have hno := HQ.out
      have hk' : k = S.length := by omega
      rw [hk', List.take_length] at hno
      have g1 : ¬ (k : Int) < (S.length : Int) := by omega
      clear HQ hk
      subst hk'
      by_cases c5 : 50 < S.length
      · have g5 : (50 : Int) < (S.length : Int) := by omega
        clear hno c5
        go_wp2_with (first | (go_at_call 13; refine (HL.out _ HB.out).mono ?_; rintro e w9 ⟨rfl, hb1⟩; replace HB := hide (up HB.out hb1); clear hb1))
        go_ret
        exact ⟨rfl, HB.out⟩
      have g5 : ¬ (50 : Int) < (S.length : Int) := by omega
      by_cases cn : n < 0
      · clear hno c5
        go_wp2_with (first | (go_at_call 13; refine (HL.out _ HB.out).mono ?_; rintro e w9 ⟨rfl, hb1⟩; replace HB := hide (up HB.out hb1); clear hb1))
        go_ret
        exact ⟨rfl, HB.out⟩
      cases hf : fitsB n
      · obtain ⟨qa, qb⟩ := texts_wrong hf S hno (by omega)
        have HA : Hid (∀ W : World, Below w.heap.size w W → Calls Tryz.prog 14 #[.string ⟨#[48, 46, 48, 35]⟩, .agg #[.int .i64 1, .int .i64 n, .string ⟨#[]⟩, .bool false, .int .i64 0]] W fun e w' => e = .returned (.tuple #[.string ⟨#[]⟩, .int .i64 2]) ∧ Below W.heap.size W w') := fun W hW => Apply_any qa W (by decide) (h.below hW).cell (h.below hW).tab (h.below hW).len (by decide)
        have HD : Hid (∀ W : World, Below w.heap.size w W → Calls Tryz.prog 14 #[.string (⟨#[34]⟩ ++ ⟨S.toArray⟩ ++ ⟨#[34, 48, 46, 48, 35]⟩), .agg #[.int .i64 1, .int .i64 n, .string ⟨#[]⟩, .bool false, .int .i64 0]] W fun e w' => e = .returned (.tuple #[.string ⟨#[]⟩, .int .i64 2]) ∧ Below W.heap.size W w') := fun W hW => by
          rw [code_eq]
          exact Apply_any qb W (by rw [code_len]; omega) (h.below hW).cell (h.below hW).tab (h.below hW).len (by decide)
        clear qa qb hno hf
        go_wp2_with (first | (go_at_call 17; refine (HN.out _ _).mono ?_; rintro e w1 ⟨rfl, hb1⟩; replace HB := hide (up HB.out hb1); clear hb1) | (first | (go_at_call 14; refine (HA.out _ HB.out).mono ?_; rintro e w3 ⟨rfl, hb1⟩; replace HB := hide (up HB.out hb1); clear hb1; clear HA) | (go_at_call 14; refine (HD.out _ HB.out).mono ?_; rintro e w3 ⟨rfl, hb1⟩; replace HB := hide (up HB.out hb1); clear hb1; clear HD)) | (go_at_call 13; refine (HL.out _ HB.out).mono ?_; rintro e w9 ⟨rfl, hb1⟩; replace HB := hide (up HB.out hb1); clear hb1))
        go_ret
        exact ⟨rfl, HB.out⟩
      · obtain ⟨A, qa, qb, hA⟩ := texts_num hf (by omega) S hno (by omega)
        have HA : Hid (∀ W : World, Below w.heap.size w W → Calls Tryz.prog 14 #[.string ⟨#[48, 46, 48, 35]⟩, .agg #[.int .i64 1, .int .i64 n, .string ⟨#[]⟩, .bool false, .int .i64 0]] W fun e w' => e = .returned (.tuple #[.string ⟨A.toArray⟩, .int .i64 0]) ∧ Below W.heap.size W w') := fun W hW => Apply_any qa W (by decide) (h.below hW).cell (h.below hW).tab (h.below hW).len (by decide)
        have HD : Hid (∀ W : World, Below w.heap.size w W → Calls Tryz.prog 14 #[.string (⟨#[34]⟩ ++ ⟨S.toArray⟩ ++ ⟨#[34, 48, 46, 48, 35]⟩), .agg #[.int .i64 1, .int .i64 n, .string ⟨#[]⟩, .bool false, .int .i64 0]] W fun e w' => e = .returned (.tuple #[.string (⟨S.toArray⟩ ++ ⟨A.toArray⟩), .int .i64 0]) ∧ Below W.heap.size W w') := fun W hW => by
          rw [code_eq, ba_app]
          exact Apply_any qb W (by rw [code_len]; omega) (h.below hW).cell (h.below hW).tab (h.below hW).len (by decide)
        clear qa qb hno hf
        go_wp2_with (first | (go_at_call 17; refine (HN.out _ _).mono ?_; rintro e w1 ⟨rfl, hb1⟩; replace HB := hide (up HB.out hb1); clear hb1) | (first | (go_at_call 14; refine (HA.out _ HB.out).mono ?_; rintro e w3 ⟨rfl, hb1⟩; replace HB := hide (up HB.out hb1); clear hb1; clear HA) | (go_at_call 14; refine (HD.out _ HB.out).mono ?_; rintro e w3 ⟨rfl, hb1⟩; replace HB := hide (up HB.out hb1); clear hb1; clear HD)) | (go_at_call 13; refine (HL.out _ HB.out).mono ?_; rintro e w9 ⟨rfl, hb1⟩; replace HB := hide (up HB.out hb1); clear hb1))
        go_ret
        exact ⟨rfl, HB.out⟩

end Go.Proofs.YtmjjdcfobdcdpaaGreatDoor
