/-
  LexTexts: any text of at most 255 bytes, written with its quotes doubled, is told as it is.
-/
import Derived.Test.YtmmdflkjlhckhaaGreatDoorLxLives
import Derived.Test.YtmmdflkjlhckhaaGreatDoorLxTextsMath
namespace Go.Proofs.YtmmdflkjlhckhaaGreatDoor
open Go.RowKit Go.Shelf

theorem dbl_step (s : ByteArray) (k : Nat) (h : k < s.size) : dbl (s.data.toList.take (k + 1)) = dbl (s.data.toList.take k) ++ (if s[k].toNat = 34 then [34] else []) ++ [s[k]] := by
  have hl : s.data.toList.length = s.size := by simp
  have e0 : s[k] = s.data.toList[k]'(by omega) := by rw [ByteArray.getElem_eq_getElem_data, Array.getElem_toList]
  rw [List.take_succ_eq_append_getElem (by omega), dbl_app, ← e0]
  simp only [dbl]
  split <;> simp
theorem row_empty {n₀ : Nat} {w : World} {v : Value} (h : RowT n₀ w v []) : v = .slice none 0 0 ∨ ∃ g cap, v = .slice (some ⟨g, 0, none⟩) 0 cap := by
  unfold RowT at h
  rcases h.2 with ⟨h, _⟩ | ⟨g, cap, cur, h1, _⟩
  · exact .inl h
  · exact .inr ⟨g, cap, h1⟩
theorem str_one (s : ByteArray) (k : Nat) (h : k < s.size) : s.extract k (k + 1) = ⟨#[s[k]]⟩ := by
  apply ByteArray.ext
  apply Array.toList_inj.1
  have hl : s.data.toList.length = s.size := by simp
  have e0 : s[k] = s.data.toList[k]'(by omega) := by rw [ByteArray.getElem_eq_getElem_data, Array.getElem_toList]
  rw [ByteArray.data_extract, Array.toList_extract, List.extract_eq_take_drop]
  have : k + 1 - k = 1 := by omega
  rw [this, List.drop_eq_getElem_cons (by omega), ← e0]
  rfl
set_option maxRecDepth 100000 in
set_option maxHeartbeats 4000000 in
theorem lexTexts_walk (s : ByteArray) (w : World) (he : EnvL w) (hs : s.size ≤ maxLen) :
    Calls Tryz.prog 7 #[.string s] w fun e w' => e = .returned (.bool true) ∧ Below w.heap.size w w' := by
  unfold maxLen at hs
  have HV : Hid (∀ W : World, EnvL W → Calls Tryz.prog 11 #[] W fun e w' => e = .returned (.bool true) ∧ Below W.heap.size W w') := fun W hW => lives_any W hW
  have HE := hide he
  clear he
  by_cases h300 : 300 < s.size
  · have g : (300 : Int) < s.size := by omega
    go_enter Tryz.func7, Tryz.ntmps7
    go_wp2_with (go_at_call 11; refine (HV.out _ HE.out).mono ?_; rintro e w1 ⟨rfl, hb1⟩)
    go_ret
    exact ⟨rfl, hb1⟩
  · have g : ¬ (300 : Int) < s.size := by omega
    have HL : Hid (s.data.toList.length = s.size) := by show _ = _; simp
    go_enter Tryz.func7, Tryz.ntmps7
    go_wp2
    go_loop [3, 4] (fun tv iv => ∃ (k : Nat) (T : ByteArray), k ≤ s.size ∧ iv = .int .i64 k ∧ tv = .string T ∧ T.data.toList = dbl (s.data.toList.take k)) (fun _ iv => s.size - (intOf iv).toNat)
    case atStart => exact ⟨0, ⟨#[]⟩, Nat.zero_le _, rfl, rfl, rfl⟩
    case round =>
      obtain ⟨k, T, hk, rfl, rfl, hT⟩ := hrel
      have hTs : T.size ≤ 600 := by
        have h1 := dbl_len (s.data.toList.take k)
        rw [← hT, List.length_take] at h1
        have h2 : T.data.toList.length = T.size := by simp
        omega
      have HT := hide hT
      clear hT
      by_cases hlt : k < s.size
      · have HS := hide (dbl_step s k hlt)
        have ho := str_one s k hlt
        by_cases h34 : s[k].toNat = 34
        · have e1 : ((s[k].toNat : Int) == 34) = true := by rw [beq_iff_eq]; omega
          have n1 : ¬ 9223372036854775807 < T.size + 1 := by omega
          have n2 : ¬ 9223372036854775807 < T.size + 1 + 1 := by omega
          go_wp2
          go_round
          case rel =>
            refine ⟨k + 1, _, by omega, by go_num, rfl, ?_⟩
            rw [HS.out, if_pos h34, ← HT.out]
            simp
          case measure => simp [intOf]; omega
        · have e1 : ((s[k].toNat : Int) == 34) = false := by rw [beq_eq_false_iff_ne]; omega
          have n1 : ¬ 9223372036854775807 < T.size + 1 := by omega
          go_wp2
          go_round
          case rel =>
            refine ⟨k + 1, _, by omega, by go_num, rfl, ?_⟩
            rw [HS.out, if_neg h34, ← HT.out]
            simp
          case measure => simp [intOf]; omega
      · obtain rfl : k = s.size := by omega
        have n1 : ¬ 9223372036854775807 < 1 + T.size := by omega
        have n2 : ¬ 9223372036854775807 < 1 + T.size + 1 := by omega
        have hD : (⟨#[34]⟩ ++ T ++ ⟨#[34]⟩ : ByteArray).data.toList = 34 :: (dbl s.data.toList ++ [34]) := by
          have := HT.out
          rw [List.take_of_length_le (by have := HL.out; omega)] at this
          simp [this]
        have HC : Hid (∀ W : World, EnvL W → Calls Tryz.prog 8 #[.string (⟨#[34]⟩ ++ T ++ ⟨#[34]⟩)] W fun e w' => ∃ v, e = .returned (.tuple #[v, .int .i64 (scanR (34 :: (dbl s.data.toList ++ [34]))).2.1, .int .i64 (scanR (34 :: (dbl s.data.toList ++ [34]))).2.2]) ∧ RowT W.heap.size w' v (scanR (34 :: (dbl s.data.toList ++ [34]))).1 ∧ Below W.heap.size W w') := fun W hW => by
          have := scan_any (⟨#[34]⟩ ++ T ++ ⟨#[34]⟩) W hW (by
            have h2 : (⟨#[34]⟩ ++ T ++ ⟨#[34]⟩ : ByteArray).size = 1 + T.size + 1 := by rw [ByteArray.size_append, ByteArray.size_append]; rfl
            unfold maxLen; omega)
          rw [hD] at this
          exact this
        rw [scan_texts s.data.toList (by have := HL.out; omega)] at HC
        clear hD HT
        by_cases h255 : 255 < s.size
        · rw [if_pos (by have := HL.out; omega)] at HC
          have g255 : (255 : Int) < s.size := by omega
          have HC' : Hid (∀ W : World, EnvL W → Calls Tryz.prog 8 #[.string (⟨#[34]⟩ ++ T ++ ⟨#[34]⟩)] W fun e w' => ∃ v, e = .returned (.tuple #[v, .int .i64 0, .int .i64 7]) ∧ (v = .slice none 0 0 ∨ ∃ g cap, v = .slice (some ⟨g, 0, none⟩) 0 cap) ∧ Below W.heap.size W w') := fun W hW => (HC.out W hW).mono (by
            rintro e w' ⟨v, rfl, hr, hb⟩
            exact ⟨v, rfl, row_empty hr, hb⟩)
          clear HC
          go_wp2_with fail
          refine (HC'.out _ HE.out).mono ?_
          rintro e w1 ⟨v, rfl, (rfl | ⟨gv, capv, rfl⟩), hb1⟩
          all_goals
            go_wp2_with (go_at_call 11; refine (HV.out _ (HE.out.below hb1)).mono ?_; rintro e w2 ⟨rfl, hb2⟩)
            go_ret
            exact ⟨rfl, hb1.trans (hb2.mono hb1.size)⟩
        · rw [if_neg (by have := HL.out; omega)] at HC
          have g255 : ¬ (255 : Int) < s.size := by omega
          go_wp2_with fail
          refine (HC.out _ HE.out).mono ?_
          rintro e w1 ⟨v, rfl, hr, hb1⟩
          obtain ⟨gv, capv, rfl, _, _, _, _⟩ := row_open hr
          have k0 : w1.cell? ⟨gv, 0, none⟩ = some (.int .i64 1) := (row_cell hr 0 _ rfl 0 (by omega) 0 rfl).trans rfl
          have k1 : w1.cell? ⟨gv, 1, none⟩ = some (.int .i64 2) := (row_cell hr 0 _ rfl 1 (by omega) 1 rfl).trans rfl
          have k2 : w1.cell? ⟨gv, 2, none⟩ = some (.int .i64 0) := (row_cell hr 0 _ rfl 2 (by omega) 2 rfl).trans rfl
          have k3 : w1.cell? ⟨gv, 3, none⟩ = some (.string ⟨s.data.toList.toArray⟩) := (row_cell hr 0 _ rfl 3 (by omega) 3 rfl).trans rfl
          have k4 : w1.cell? ⟨gv, 4, none⟩ = some (.bool false) := (row_cell hr 0 _ rfl 4 (by omega) 4 rfl).trans rfl
          have k5 : w1.cell? ⟨gv, 5, none⟩ = some (.int .i64 0) := (row_cell hr 0 _ rfl 5 (by omega) 5 rfl).trans rfl
          have k6 : w1.cell? ⟨gv, 6, none⟩ = some (.int .i64 0) := (row_cell hr 0 _ rfl 6 (by omega) 6 rfl).trans rfl
          have k7 : w1.cell? ⟨gv, 7, none⟩ = some (.int .i64 0) := (row_cell hr 0 _ rfl 7 (by omega) 7 rfl).trans rfl
          have k8 : w1.cell? ⟨gv, 8, none⟩ = some (.bool false) := (row_cell hr 0 _ rfl 8 (by omega) 8 rfl).trans rfl
          have k9 : w1.cell? ⟨gv, 9, none⟩ = some (.bool false) := (row_cell hr 0 _ rfl 9 (by omega) 9 rfl).trans rfl
          have k10 : w1.cell? ⟨gv, 10, none⟩ = some (.string ⟨#[]⟩) := (row_cell hr 0 _ rfl 10 (by omega) 10 rfl).trans rfl
          have k11 : w1.cell? ⟨gv, 11, none⟩ = some (.int .i64 0) := (row_cell hr 0 _ rfl 11 (by omega) 11 rfl).trans rfl
          rw [show (⟨s.data.toList.toArray⟩ : ByteArray) = s from rfl] at k3
          clear hr
          go_wp2_with (go_at_call 11; refine (HV.out _ (HE.out.below hb1)).mono ?_; rintro e w2 ⟨rfl, hb2⟩)
          go_ret
          exact ⟨rfl, hb1.trans (hb2.mono hb1.size)⟩
end Go.Proofs.YtmmdflkjlhckhaaGreatDoor
