/-
  The answer's text.
-/
import Derived.Test.YtiaoaifoecmemaaGreatDoorRLxR1
import Derived.Test.YtiaoaifoecmemaaGreatDoorRLxM1
set_option maxRecDepth 100000
set_option maxHeartbeats 4000000
namespace Go.Proofs.YtiaoaifoecmemaaGreatDoor
open Go.RowKit
theorem str_one' (s : ByteArray) (k : Nat) (h : k < s.size) : s.extract k (k + 1) = ⟨#[s[k]]⟩ := by
 apply ByteArray.ext
 apply Array.toList_inj.1
 have hl : s.data.toList.length = s.size := by simp
 have e0 : s[k] = s.data.toList[k]'(by omega) := by rw [ByteArray.getElem_eq_getElem_data, Array.getElem_toList]
 rw [ByteArray.data_extract, Array.toList_extract, List.extract_eq_take_drop]
 have : k + 1 - k = 1 := by omega
 rw [this, List.drop_eq_getElem_cons (by omega), ← e0]
 rfl
def TxtAt (l : List UInt8) (j k : Nat) (T : List UInt8) : Prop := txt (l.drop j) = (txt (l.drop k)).map (fun x => (T ++ x.1, (k - j) + x.2))
theorem txt_start (l : List UInt8) (j : Nat) : TxtAt l j j [] := by unfold TxtAt; cases txt (l.drop j) <;> simp
theorem txt_go {l : List UInt8} {j k : Nat} {T : List UInt8} (h : TxtAt l j k T) (hj : j ≤ k) (hk : k < l.length) (hc : l[k].toNat ≠ 34) : TxtAt l j (k + 1) (T ++ [l[k]]) := by
 unfold TxtAt at *
 rw [h, List.drop_eq_getElem_cons hk, txt_in _ hc]
 cases txt (l.drop (k + 1)) with
 | none => rfl
 | some x => simp; omega
theorem txt_dble {l : List UInt8} {j k : Nat} {T : List UInt8} (h : TxtAt l j k T) (hj : j ≤ k) (hk : k + 1 < l.length) (hc : l[k].toNat = 34) (hd : l[k + 1].toNat = 34) : TxtAt l j (k + 2) (T ++ [34]) := by
 unfold TxtAt at *
 rw [h, List.drop_eq_getElem_cons (show k < l.length by omega), List.drop_eq_getElem_cons hk, byte34.1 hc, byte34.1 hd, txt_two]
 cases txt (l.drop (k + 2)) with
 | none => rfl
 | some x => simp; omega
theorem txt_close {l : List UInt8} {j k : Nat} {T : List UInt8} (h : TxtAt l j k T) (hk : k < l.length) (hc : l[k].toNat = 34) (hd : ∀ h : k + 1 < l.length, l[k + 1].toNat ≠ 34) : txt (l.drop j) = some (T, (k - j) + 1) := by
  unfold TxtAt at h
  rw [h, List.drop_eq_getElem_cons hk, byte34.1 hc]
  by_cases h1 : k + 1 < l.length
  · rw [List.drop_eq_getElem_cons h1, txt_end _ (hd h1)]; simp
  · rw [List.drop_of_length_le (by omega)]; simp [txt]
theorem txt_over {l : List UInt8} {j k : Nat} {T : List UInt8} (h : TxtAt l j k T) (hk : l.length ≤ k) : txt (l.drop j) = none := by
 unfold TxtAt at h
 rw [h, List.drop_of_length_le hk]; simp [txt]
theorem rtext_any (s : ByteArray) (a : Nat) (w : World) (hs : s.size ≤ 1024) (ha : a < s.size) :
    Calls Tryz.prog 71 #[.string s, .int .i64 (a : Int)] w fun e w' => e = .returned (.tuple #[tokV (atX a (textT (s.data.toList.drop a))).1, .int .i64 (atX a (textT (s.data.toList.drop a))).2.1, .int .i64 (atX a (textT (s.data.toList.drop a))).2.2]) ∧ Below w.heap.size w w' := by
  have HL : Hid (s.data.toList.length = s.size) := by show _ = _; simp
  have HB : Hid (∀ k (h : k < s.size), s[k] = s.data.toList[k]'(by have := HL.out; omega)) := fun k h => by rw [ByteArray.getElem_eq_getElem_data, Array.getElem_toList]
  have hT : textT (s.data.toList.drop a) = textOfT (txt (s.data.toList.drop (a + 1))) := by unfold textT; rw [List.tail_drop]
  rw [hT]
  clear hT
  go_enter Tryz.func71, Tryz.ntmps71
  go_wp2
  go_loopw [7, 8] (fun tv iv wr => ∃ (k : Nat) (T : ByteArray), a + 1 ≤ k ∧ k ≤ s.size ∧ T.size + a + 1 ≤ k ∧ iv = .int .i64 k ∧ tv = .string T ∧ TxtAt s.data.toList (a + 1) k T.data.toList ∧ Below (w.heap.size + 1) (w.alloc (.cells #[.int .i64 0, .int .i64 0, .int .i64 0, .string ⟨#[]⟩, .bool false, .int .i64 0, .int .i64 0, .int .i64 0, .bool false, .bool false, .string ⟨#[]⟩, .int .i64 0] 66)) wr) (fun _ iv _ => s.size - (intOf iv).toNat)
  case atStart => exact ⟨a + 1, ⟨#[]⟩, by omega, by omega, by show 0 + a + 1 ≤ _; omega, by go_num, rfl, txt_start _ _, Below.refl _ _⟩
  case round =>
    obtain ⟨k, T, hk1, hk2, hk3, rfl, rfl, hx, hBr⟩ := hrel
    have HX := hide hx
    clear hx
    obtain ⟨c_r, f_r⟩ := bcelln hBr
    have z_r : w.heap.size < wr.heap.size := by have := hBr.size; simp at this; omega
    by_cases hlt : k < s.size
    · have g1 : (k : Int) < s.size := by omega
      by_cases h34 : s[k].toNat = 34
      · have e1 : ((s[k].toNat : Int) != 34) = false := by unfold bne; rw [show ((s[k].toNat : Int) == 34) = true by rw [beq_iff_eq]; omega]; rfl
        by_cases hlt2 : k + 1 < s.size
        · have g2 : (k : Int) + 1 < s.size := by omega
          by_cases h34' : s[k + 1].toNat = 34
          · have e2 : ((s[k + 1].toNat : Int) == 34) = true := by rw [beq_iff_eq]; omega
            have HY := hide (txt_dble HX.out hk1 (by have := HL.out; omega) (by rw [← HB.out k hlt]; exact h34) (by rw [← HB.out (k + 1) hlt2]; exact h34'))
            have n1 : ¬ 9223372036854775807 < T.size + 1 := by omega
            clear h34 h34'
            go_wp2
            go_roundw
            case rel => exact ⟨k + 2, T ++ ⟨#[34]⟩, by omega, by omega, by rw [ByteArray.size_append]; show T.size + 1 + a + 1 ≤ _; omega, by go_num, rfl, by have := HY.out; simpa using this, hBr⟩
            case measure => simp [intOf]; omega
          · have e2 : ((s[k + 1].toNat : Int) == 34) = false := by rw [beq_eq_false_iff_ne]; omega
            have HY := hide (txt_close HX.out (by have := HL.out; omega) (by rw [← HB.out k hlt]; exact h34) (fun h => by rw [← HB.out (k + 1) hlt2]; exact h34'))
            clear h34 h34'
            by_cases h255 : 255 < T.size
            · have g255 : (255 : Int) < T.size := by omega
              go_wp2
              rw [HY.out, show textOfT (some (T.data.toList, k - (a + 1) + 1)) = (zt, 0, 7) by show (if _ then _ else _) = _; rw [if_pos (by simpa using h255)], atX_no]
              refine bodyPost_ret (v := .tuple #[.agg #[.int .i64 0, .int .i64 0, .int .i64 0, .string ⟨#[]⟩, .bool false, .int .i64 0, .int .i64 0, .int .i64 0, .bool false, .bool false, .string ⟨#[]⟩, .int .i64 0], .int .i64 0, .int .i64 7]) (by simp [results, Tryz.results71, go_sem, *]) rfl ⟨rfl, ?_⟩
              repeat' (first | with_reducible (first | exact Below.refl _ _ | refine Below.setCell ?_ ?_ _ | refine Below.alloc ?_ ?_ _ | refine below_drewN ?_ _ | refine Below.drew ?_ | refine Below.trans ?_ (Below.mono (by assumption) ?_) | exact Nat.le_refl _ | refine Nat.le_trans ?_ (Below.size (by assumption)) | refine zzA ?_ | refine zzB ?_ | refine zzC ?_ | refine zzD ?_) | (simp; done) | (simp; omega) | omega)
            · have g255 : ¬ (255 : Int) < T.size := by omega
              go_wp2
              rw [HY.out, show textOfT (some (T.data.toList, k - (a + 1) + 1)) = (valTok 2 0 T.data.toList false 0, k - (a + 1) + 1 + 1, 0) by show (if _ then _ else _) = _; rw [if_neg (by simpa using h255)], atX_yes a _ (by simp [valTok]), show a + (k - (a + 1) + 1 + 1) = k + 1 by omega]
              refine bodyPost_ret (v := .tuple #[.agg #[.int .i64 1, .int .i64 2, .int .i64 0, .string T, .bool false, .int .i64 0, .int .i64 0, .int .i64 0, .bool false, .bool false, .string ⟨#[]⟩, .int .i64 (a : Int)], .int .i64 ((k : Int) + 1), .int .i64 0]) (by simp [results, Tryz.results71, go_sem, *]) rfl ⟨rfl, ?_⟩
              repeat' (first | with_reducible (first | exact Below.refl _ _ | refine Below.setCell ?_ ?_ _ | refine Below.alloc ?_ ?_ _ | refine below_drewN ?_ _ | refine Below.drew ?_ | refine Below.trans ?_ (Below.mono (by assumption) ?_) | exact Nat.le_refl _ | refine Nat.le_trans ?_ (Below.size (by assumption)) | refine zzA ?_ | refine zzB ?_ | refine zzC ?_ | refine zzD ?_) | (simp; done) | (simp; omega) | omega)
        · have g2 : ¬ (k : Int) + 1 < s.size := by omega
          have HY := hide (txt_close HX.out (by have := HL.out; omega) (by rw [← HB.out k hlt]; exact h34) (fun h => by have := HL.out; omega))
          clear h34
          by_cases h255 : 255 < T.size
          · have g255 : (255 : Int) < T.size := by omega
            go_wp2
            rw [HY.out, show textOfT (some (T.data.toList, k - (a + 1) + 1)) = (zt, 0, 7) by show (if _ then _ else _) = _; rw [if_pos (by simpa using h255)], atX_no]
            refine bodyPost_ret (v := .tuple #[.agg #[.int .i64 0, .int .i64 0, .int .i64 0, .string ⟨#[]⟩, .bool false, .int .i64 0, .int .i64 0, .int .i64 0, .bool false, .bool false, .string ⟨#[]⟩, .int .i64 0], .int .i64 0, .int .i64 7]) (by simp [results, Tryz.results71, go_sem, *]) rfl ⟨rfl, ?_⟩
            repeat' (first | with_reducible (first | exact Below.refl _ _ | refine Below.setCell ?_ ?_ _ | refine Below.alloc ?_ ?_ _ | refine below_drewN ?_ _ | refine Below.drew ?_ | refine Below.trans ?_ (Below.mono (by assumption) ?_) | exact Nat.le_refl _ | refine Nat.le_trans ?_ (Below.size (by assumption)) | refine zzA ?_ | refine zzB ?_ | refine zzC ?_ | refine zzD ?_) | (simp; done) | (simp; omega) | omega)
          · have g255 : ¬ (255 : Int) < T.size := by omega
            go_wp2
            rw [HY.out, show textOfT (some (T.data.toList, k - (a + 1) + 1)) = (valTok 2 0 T.data.toList false 0, k - (a + 1) + 1 + 1, 0) by show (if _ then _ else _) = _; rw [if_neg (by simpa using h255)], atX_yes a _ (by simp [valTok]), show a + (k - (a + 1) + 1 + 1) = k + 1 by omega]
            refine bodyPost_ret (v := .tuple #[.agg #[.int .i64 1, .int .i64 2, .int .i64 0, .string T, .bool false, .int .i64 0, .int .i64 0, .int .i64 0, .bool false, .bool false, .string ⟨#[]⟩, .int .i64 (a : Int)], .int .i64 ((k : Int) + 1), .int .i64 0]) (by simp [results, Tryz.results71, go_sem, *]) rfl ⟨rfl, ?_⟩
            repeat' (first | with_reducible (first | exact Below.refl _ _ | refine Below.setCell ?_ ?_ _ | refine Below.alloc ?_ ?_ _ | refine below_drewN ?_ _ | refine Below.drew ?_ | refine Below.trans ?_ (Below.mono (by assumption) ?_) | exact Nat.le_refl _ | refine Nat.le_trans ?_ (Below.size (by assumption)) | refine zzA ?_ | refine zzB ?_ | refine zzC ?_ | refine zzD ?_) | (simp; done) | (simp; omega) | omega)
      · have e1 : ((s[k].toNat : Int) != 34) = true := by unfold bne; rw [show ((s[k].toNat : Int) == 34) = false by rw [beq_eq_false_iff_ne]; omega]; rfl
        have HY := hide (txt_go HX.out hk1 (by have := HL.out; omega) (by rw [← HB.out k hlt]; exact h34))
        have ho := str_one' s k hlt
        have n1 : ¬ 9223372036854775807 < T.size + 1 := by omega
        clear h34
        go_wp2
        go_roundw
        case rel => exact ⟨k + 1, T ++ ⟨#[s[k]]⟩, by omega, by omega, by rw [ByteArray.size_append]; show T.size + 1 + a + 1 ≤ _; omega, by go_num, rfl, by have := HY.out; rw [← HB.out k hlt] at this; simpa using this, hBr⟩
        case measure => simp [intOf]; omega
    · have g1 : ¬ (k : Int) < s.size := by omega
      have HY := hide (txt_over HX.out (by have := HL.out; omega))
      go_wp2
      rw [HY.out, show textOfT none = (zt, 0, 5) from rfl, atX_no]
      refine bodyPost_ret (v := .tuple #[.agg #[.int .i64 0, .int .i64 0, .int .i64 0, .string ⟨#[]⟩, .bool false, .int .i64 0, .int .i64 0, .int .i64 0, .bool false, .bool false, .string ⟨#[]⟩, .int .i64 0], .int .i64 0, .int .i64 5]) (by simp [results, Tryz.results71, go_sem, *]) rfl ⟨rfl, ?_⟩
      repeat' (first | with_reducible (first | exact Below.refl _ _ | refine Below.setCell ?_ ?_ _ | refine Below.alloc ?_ ?_ _ | refine below_drewN ?_ _ | refine Below.drew ?_ | refine Below.trans ?_ (Below.mono (by assumption) ?_) | exact Nat.le_refl _ | refine Nat.le_trans ?_ (Below.size (by assumption)) | refine zzA ?_ | refine zzB ?_ | refine zzC ?_ | refine zzD ?_) | (simp; done) | (simp; omega) | omega)
end Go.Proofs.YtiaoaifoecmemaaGreatDoor
