/-
  The contracts of the answer's Fold and of value's.
-/
import Derived.Test.YtaokibkeoomfjaaDoorFoldMath
import Derived.LoopTactic
namespace Go.Proofs.YtaokibkeoomfjaaDoor
open Go.RowKit

set_option maxHeartbeats 1000000 in
theorem rfold_any (s : ByteArray) (w : World) (hs : s.size ≤ maxLen) :
    Calls Tryd.prog 27 #[.string s] w fun e w' => e = .returned (.string ⟨(foldL s.data.toList).toArray⟩) ∧ Below w.heap.size w w' := by
  unfold maxLen at hs
  obtain ⟨cap, w1, hconv, hb1, hr1, hz1⟩ := bytes_conv s w
  have HB1 := hide hb1
  have HR1 := hide hr1
  have hl : s.data.toList.length = s.size := by simp
  have HL := hide hl
  clear hb1 hr1 hl
  go_enter Tryd.func27, Tryd.ntmps27
  go_wp2
  go_loopw [4] (fun i wr => ∃ k : Nat, k ≤ s.size ∧ i = .int .i64 k ∧ Below w.heap.size w wr ∧ RowB wr w.heap.size (foldTo s.data.toList k)) (fun i _ => s.size - (intOf i).toNat)
  case atStart => exact ⟨0, Nat.zero_le _, rfl, HB1.out, by rw [foldTo_zero]; exact HR1.out⟩
  case round =>
    obtain ⟨k, hk, rfl, hb, hr⟩ := hrel
    have HB := hide hb
    have HR := hide hr
    clear hb hr hconv
    by_cases hlt : k < s.size
    · have hl := HL.out
      have hkl : k < s.data.toList.length := by omega
      have hkf : k < (foldTo s.data.toList k).length := by rw [foldTo_len]; exact hkl
      have HS := hide (foldTo_step s.data.toList k hkl)
      have HK := hide (foldTo_skip s.data.toList k hkl)
      have hcell := (HR.out.2 k hkf).1
      have hfz := (HR.out.2 k hkf).2
      rw [foldTo_at _ k hkl] at hcell
      have hu : s.data.toList[k].toNat < 256 := UInt8.toNat_lt _
      generalize s.data.toList[k] = c at *
      have HF := hide hkf
      clear hl hkl hkf
      by_cases h1 : (97 : Int) ≤ c.toNat
      · by_cases h2 : (c.toNat : Int) ≤ 122
        · go_wp2
          go_roundw
          case rel =>
            have e : ((c.toNat : Int) - 97 + 65) = ((foldB c).toNat : Int) := by rw [foldB_in (by omega) (by omega)]; omega
            exact ⟨k + 1, by omega, by go_num, HB.out.setCell (Nat.le_refl _) _, by rw [HS.out, e]; exact HR.out.set HF.out _⟩
          case measure => simp [intOf]; omega
        · go_wp2
          go_roundw
          case rel => exact ⟨k + 1, by omega, by go_num, HB.out, by rw [HK.out (foldB_out (by omega))]; exact HR.out⟩
          case measure => simp [intOf]; omega
      · go_wp2
        go_roundw
        case rel => exact ⟨k + 1, by omega, by go_num, HB.out, by rw [HK.out (foldB_out (by omega))]; exact HR.out⟩
        case measure => simp [intOf]; omega
    · have hbk := fun cap => bytes_back wr w.heap.size cap s.size _ HR.out (by rw [foldTo_len]; exact HL.out.symm)
      have HA := hide (foldTo_all s.data.toList (k := k) (by have := HL.out; omega))
      go_wp2
      go_ret
      exact ⟨by rw [← HA.out]; rfl, HB.out⟩

set_option maxHeartbeats 1000000 in
theorem fold_any (s : ByteArray) (w : World) :
    Calls Tryd.prog 26 #[.string s] w fun e w' => e = .returned (.string ⟨(foldL s.data.toList).toArray⟩) ∧ Below w.heap.size w w' := by
  obtain ⟨cap, w1, hconv, hb1, hr1, hz1⟩ := bytes_conv s w
  have HB1 := hide hb1
  have HR1 := hide hr1
  have hl : s.data.toList.length = s.size := by simp
  have HL := hide hl
  clear hb1 hr1 hl
  go_enter Tryd.func26, Tryd.ntmps26
  go_wp2
  go_loopw [4] (fun _ wr => ∃ pos : Nat, pos ≤ s.size ∧ Below w.heap.size w wr ∧ wr.heap[w.heap.size + 1]? = some (.stringIter s pos) ∧ RowB wr w.heap.size (foldTo s.data.toList pos)) (fun _ wr => s.size - wr.iterPos (w.heap.size + 1))
  case atStart =>
    refine ⟨0, Nat.zero_le _, HB1.out.alloc (by omega) _, ?_, by rw [foldTo_zero]; exact HR1.out.alloc _⟩
    have := World.iter_heap w1 s 0
    rw [hz1] at this
    exact this
  case round =>
    obtain ⟨pos, hk, hb, hit, hr⟩ := hrel
    clear hconv HB1 HR1
    have HB := hide hb
    have HR := hide hr
    have HI := hide hit
    clear hb hr hit
    by_cases hlt : pos < s.size
    · have hl := HL.out
      have hkl : pos < s.data.toList.length := by omega
      have hle : pos + (Utf8.decode s pos).2 ≤ s.size ∧ 1 ≤ (Utf8.decode s pos).2 := by
        by_cases ha : (s[pos]'hlt).toNat < 128
        · rw [decode_ascii s pos hlt ha]; exact ⟨hlt, Nat.le_refl _⟩
        · exact ⟨(decode_wide s pos hlt (by omega)).1, (decode_high s pos hlt (by omega)).2⟩
      have hnx : ∀ ty, (Instr.next (.pointer (some ⟨w.heap.size + 1, 0, none⟩)) true ty).run Tryd.prog wr = _ := fun ty => Lib.run_next_any_at wr (w.heap.size + 1) s pos ty HI.out hlt
      have HB2 := hide (Lib.below_iterAt HB.out (k := w.heap.size + 1) (by omega) s (pos + (Utf8.decode s pos).2))
      have HR2 := hide (HR.out.iterAt (k := w.heap.size + 1) (by omega) s (pos + (Utf8.decode s pos).2))
      have HI2 := hide (Lib.iterAt_heap wr (w.heap.size + 1) s pos (pos + (Utf8.decode s pos).2) HI.out)
      have HP := hide (show wr.iterPos (w.heap.size + 1) = pos by simp [World.iterPos, HI.out])
      generalize wr.iterAt (w.heap.size + 1) s (pos + (Utf8.decode s pos).2) = W2 at *
      have HP2 := hide (show W2.iterPos (w.heap.size + 1) = pos + (Utf8.decode s pos).2 by simp [World.iterPos, HI2.out])
      have hkf : pos < (foldTo s.data.toList pos).length := by rw [foldTo_len]; exact hkl
      have hcell := (HR2.out.2 pos hkf).1
      have hfz := (HR2.out.2 pos hkf).2
      rw [foldTo_at _ pos hkl] at hcell
      have hu : s.data.toList[pos].toNat < 256 := UInt8.toNat_lt _
      have e0 : s[pos] = s.data.toList[pos] := by rw [ByteArray.getElem_eq_getElem_data, Array.getElem_toList]
      by_cases hi : 97 ≤ s.data.toList[pos].toNat ∧ s.data.toList[pos].toNat ≤ 122
      · have hd : Utf8.decode s pos = (s.data.toList[pos].toNat, 1) := by rw [← e0]; exact decode_ascii s pos hlt (by rw [e0]; omega)
        rw [hd] at hnx HP2 HI2
        have HS := hide (foldTo_step s.data.toList pos hkl)
        clear hd e0 hle hl
        generalize s.data.toList[pos] = c at *
        have HF := hide hkf
        clear hkl hkf
        obtain ⟨i1, i2⟩ := hi
        have h1 : (97 : Int) ≤ c.toNat := by omega
        have h2 : (c.toNat : Int) ≤ 122 := by omega
        go_wp2
        have e : ((c.toNat : Int) - 32) = ((foldB c).toNat : Int) := by rw [foldB_in i1 i2]; omega
        go_roundw
        case rel =>
          refine ⟨pos + 1, hlt, HB2.out.setCell (Nat.le_refl _) _, ?_, by rw [HS.out, e]; exact HR2.out.set HF.out _⟩
          rw [Below.heap_setCell _ _ _ _ (show w.heap.size + 1 ≠ w.heap.size by omega)]
          exact HI2.out
        case measure =>
          have : (W2.setCell ⟨w.heap.size, pos, none⟩ (.int .u8 ((c.toNat : Int) - 32))).iterPos (w.heap.size + 1) = pos + 1 := by
            unfold World.iterPos
            rw [Below.heap_setCell _ _ _ _ (show w.heap.size + 1 ≠ w.heap.size by omega), HI2.out]
          rw [this, HP.out]; omega
      · have HK : Hid (foldTo s.data.toList (pos + (Utf8.decode s pos).2) = foldTo s.data.toList pos) := by
          by_cases ha : (s[pos]'hlt).toNat < 128
          · rw [decode_ascii s pos hlt ha]; exact foldTo_skip _ _ hkl (foldB_out hi)
          · exact foldTo_wide s pos hlt (by omega)
        have hd : ¬ (97 ≤ (Utf8.decode s pos).1 ∧ (Utf8.decode s pos).1 ≤ 122) := by
          by_cases ha : (s[pos]'hlt).toNat < 128
          · rw [decode_ascii s pos hlt ha, e0]; exact hi
          · have := (decode_high s pos hlt (by omega)).1; omega
        clear hi hcell hfz hu e0 hkl hkf hl
        obtain ⟨l1, l2⟩ := hle
        generalize (Utf8.decode s pos).1 = d at *
        generalize (Utf8.decode s pos).2 = m at *
        by_cases h1 : (97 : Int) ≤ (d : Int)
        · have h2 : ¬ (d : Int) ≤ 122 := by omega
          go_wp2
          go_roundw
          case rel => exact ⟨pos + m, l1, HB2.out, HI2.out, by rw [HK.out]; exact HR2.out⟩
          case measure => rw [HP2.out, HP.out]; omega
        · go_wp2
          go_roundw
          case rel => exact ⟨pos + m, l1, HB2.out, HI2.out, by rw [HK.out]; exact HR2.out⟩
          case measure => rw [HP2.out, HP.out]; omega
    · have hnx : ∀ ty, (Instr.next (.pointer (some ⟨w.heap.size + 1, 0, none⟩)) true ty).run Tryd.prog wr = _ := fun ty => Lib.run_next_end_at wr (w.heap.size + 1) s pos ty HI.out hlt
      have hbk := fun cap => bytes_back wr w.heap.size cap s.size _ HR.out (by rw [foldTo_len]; exact HL.out.symm)
      have HA := hide (foldTo_all s.data.toList (k := pos) (by have := HL.out; omega))
      go_wp2
      go_ret
      exact ⟨by rw [← HA.out]; rfl, HB.out⟩
end Go.Proofs.YtaokibkeoomfjaaDoor
