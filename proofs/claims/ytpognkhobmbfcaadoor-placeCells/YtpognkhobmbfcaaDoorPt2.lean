/-
  The contract of the answer's Letters.
-/
import Derived.Test.YtpognkhobmbfcaaDoorPt1
import Derived.LoopN
namespace Go.Proofs.YtpognkhobmbfcaaDoor
open Go.RowKit

/-- The last m letters of a count, from A on. -/
def padL (k : Nat) : Nat → List UInt8
  | 0 => []
  | m + 1 => padL (k / 26) m ++ [UInt8.ofNat (65 + k % 26)]
theorem pad_one {n : Nat} (h : 0 < n) (h' : n ≤ 26) : padL (n - 1) 1 = lettersN n := by
  rw [letters_one h h']; simp only [padL, List.nil_append]; rw [show 65 + (n - 1) % 26 = 64 + n by omega]
theorem pad_two {n : Nat} (h : 26 < n) (h' : n ≤ 702) : padL (n - 27) 2 = lettersN n := by
  rw [letters_two h h']; simp only [padL, List.nil_append]; rw [show 65 + (n - 27) % 26 = 65 + (n - 1) % 26 by omega, show 65 + (n - 27) / 26 % 26 = 64 + (n - 1) / 26 by omega]; rfl
theorem pad_three {n : Nat} (h : 702 < n) (h' : n ≤ 16384) : padL (n - 703) 3 = lettersN n := by
  rw [letters_three h h']; simp only [padL, List.nil_append]
  rw [show 65 + (n - 703) % 26 = 65 + (n - 1) % 26 by omega, show 65 + (n - 703) / 26 % 26 = 65 + ((n - 1) / 26 - 1) % 26 by omega, show 65 + (n - 703) / 26 / 26 % 26 = 64 + ((n - 1) / 26 - 1) / 26 by omega]; rfl
/-- One letter, laid in a new block, as a text. -/
theorem one_letter (w : World) (u : Nat) (c : UInt8) (hc : (c.toNat : Int) = 65 + (u : Int) % 26) : (convert 62 9 (.slice (some ⟨w.heap.size, 0, none⟩) 1 1)).run Tryd.prog (w.alloc (.cells #[.int .u8 (65 + (u : Int) % 26)] 5)) = .ok (.string ⟨([c] : List UInt8).toArray⟩) (w.alloc (.cells #[.int .u8 (65 + (u : Int) % 26)] 5)) := by
  have h := run_convert_bytes_back (P := Tryd.prog) (w.alloc (.cells #[.int .u8 (65 + (u : Int) % 26)] 5)) 62 9 5 ⟨w.heap.size, 0, none⟩ 1 [c] Tryd.underlying62 Tryd.underlying5 Tryd.underlying9 (fun j hj => by
    have : j = 0 := by simpa using hj
    subst this
    show (w.alloc (.cells #[.int .u8 (65 + (u : Int) % 26)] 5)).cell? (Addr.add ⟨w.heap.size, 0, none⟩ 0) = some (.int .u8 (c.toNat : Int))
    rw [hc]
    exact World.cell?_alloc_new _ _ _ 0)
  exact h
theorem let_byte (u : Nat) : ((UInt8.ofNat (65 + u % 26)).toNat : Int) = 65 + (u : Int) % 26 := by
  have := ofNat_nat (n := 65 + u % 26) (by omega)
  omega

set_option maxRecDepth 100000 in
set_option maxHeartbeats 2000000 in
theorem rletters_any (c : Int) (w : World) :
    Calls Tryd.prog 10 #[.int .i64 c] w fun e w' => e = .returned (.tuple #[.string ⟨(lettersR c).1.toArray⟩, .int .i64 (lettersR c).2]) ∧ Below w.heap.size w w' := by
  by_cases h1 : c < 1
  · rw [lettersR_no (colB_no.2 (by omega))]
    go_enter Tryd.func10, Tryd.ntmps10
    go_wp2
    go_ret2
    exact ⟨rfl, Below.refl _ _⟩
  · by_cases h2 : c > 16384
    · rw [lettersR_no (colB_no.2 (by omega))]
      go_enter Tryd.func10, Tryd.ntmps10
      go_wp2
      go_ret2
      exact ⟨rfl, Below.refl _ _⟩
    · rw [lettersR_yes (colB_iff.2 (by omega))]
      obtain ⟨n, rfl⟩ : ∃ n : Nat, c = n := ⟨c.toNat, by omega⟩
      rw [Int.toNat_natCast]
      rcases (show n ≤ 26 ∨ (26 < n ∧ n ≤ 702) ∨ 702 < n by omega) with a | ⟨a, b⟩ | a
      · have HP := hide (pad_one (n := n) (by omega) a)
        have a1 : (n : Int) - 1 = ((n - 1 : Nat) : Int) := by omega
        go_enter Tryd.func10, Tryd.ntmps10
        go_wp2
        refine wp_loop_rounds 1 ?_
        rw [rounds_succ]
        go_wp2
        go_loopw [4, 7, 8] (fun kv sv iv wr => ∃ (j q : Nat) (t : List UInt8), j ≤ 1 ∧ iv = .int .i64 j ∧ kv = .int .i64 q ∧ q ≤ 16384 ∧ sv = .string ⟨t.toArray⟩ ∧ t.length = j ∧ padL q (1 - j) ++ t = lettersN n ∧ Below w.heap.size w wr) (fun _ _ iv _ => 1 - (intOf iv).toNat)
        case atStart => exact ⟨0, n - 1, [], by omega, rfl, by first | rfl | (congr 1; omega), by omega, rfl, rfl, by rw [List.append_nil]; exact HP.out, Below.refl _ _⟩
        case round =>
          obtain ⟨j, q, t, hj, rfl, rfl, hq, rfl, hl, ht, hb⟩ := hrel
          have HB := hide hb
          have HT := hide ht
          clear hb ht HP a1
          by_cases hlt : j < 1
          · have hlt' : (j : Int) < 1 := by omega
            have hcv := one_letter wr q _ (let_byte q)
            obtain ⟨d, hd⟩ : ∃ d, d = UInt8.ofNat (65 + q % 26) := ⟨_, rfl⟩
            rw [← hd] at hcv
            have HD := hide hd
            clear hd
            go_wp2
            go_roundw
            case rel =>
              refine ⟨j + 1, q / 26, d :: t, by omega, by go_num, by first | rfl | (congr 1; omega), by omega, by rw [str_cons], by simp [hl], ?_, HB.out.alloc HB.out.size _⟩
              have := HT.out
              rw [show 1 - j = (1 - (j + 1)) + 1 by omega] at this
              simp only [padL, List.append_assoc, List.singleton_append] at this
              rw [HD.out]; exact this
            case measure => simp [intOf]; omega
          · have hlt' : ¬ (j : Int) < 1 := by omega
            go_wp2
            go_ret2
            refine ⟨?_, HB.out⟩
            have := HT.out
            rw [show 1 - j = 0 by omega] at this
            simp only [padL, List.nil_append] at this
            rw [this]; rfl
      · have HP := hide (pad_two (n := n) a b)
        have a1 : (n : Int) - 27 = ((n - 27 : Nat) : Int) := by omega
        go_enter Tryd.func10, Tryd.ntmps10
        go_wp2
        refine wp_loop_rounds 2 ?_
        rw [rounds_succ]
        go_wp2
        rw [rounds_succ]
        go_wp2
        go_loopw [4, 7, 8] (fun kv sv iv wr => ∃ (j q : Nat) (t : List UInt8), j ≤ 2 ∧ iv = .int .i64 j ∧ kv = .int .i64 q ∧ q ≤ 16384 ∧ sv = .string ⟨t.toArray⟩ ∧ t.length = j ∧ padL q (2 - j) ++ t = lettersN n ∧ Below w.heap.size w wr) (fun _ _ iv _ => 2 - (intOf iv).toNat)
        case atStart => exact ⟨0, n - 27, [], by omega, rfl, by first | rfl | (congr 1; omega), by omega, rfl, rfl, by rw [List.append_nil]; exact HP.out, Below.refl _ _⟩
        case round =>
          obtain ⟨j, q, t, hj, rfl, rfl, hq, rfl, hl, ht, hb⟩ := hrel
          have HB := hide hb
          have HT := hide ht
          clear hb ht HP a1
          by_cases hlt : j < 2
          · have hlt' : (j : Int) < 2 := by omega
            have hcv := one_letter wr q _ (let_byte q)
            obtain ⟨d, hd⟩ : ∃ d, d = UInt8.ofNat (65 + q % 26) := ⟨_, rfl⟩
            rw [← hd] at hcv
            have HD := hide hd
            clear hd
            go_wp2
            go_roundw
            case rel =>
              refine ⟨j + 1, q / 26, d :: t, by omega, by go_num, by first | rfl | (congr 1; omega), by omega, by rw [str_cons], by simp [hl], ?_, HB.out.alloc HB.out.size _⟩
              have := HT.out
              rw [show 2 - j = (2 - (j + 1)) + 1 by omega] at this
              simp only [padL, List.append_assoc, List.singleton_append] at this
              rw [HD.out]; exact this
            case measure => simp [intOf]; omega
          · have hlt' : ¬ (j : Int) < 2 := by omega
            go_wp2
            go_ret2
            refine ⟨?_, HB.out⟩
            have := HT.out
            rw [show 2 - j = 0 by omega] at this
            simp only [padL, List.nil_append] at this
            rw [this]; rfl
      · have HP := hide (pad_three (n := n) a (by omega))
        have a1 : (n : Int) - 703 = ((n - 703 : Nat) : Int) := by omega
        go_enter Tryd.func10, Tryd.ntmps10
        go_wp2
        refine wp_loop_rounds 3 ?_
        rw [rounds_succ]
        go_wp2
        rw [rounds_succ]
        go_wp2
        rw [rounds_succ]
        go_wp2
        go_loopw [4, 7, 8] (fun kv sv iv wr => ∃ (j q : Nat) (t : List UInt8), j ≤ 3 ∧ iv = .int .i64 j ∧ kv = .int .i64 q ∧ q ≤ 16384 ∧ sv = .string ⟨t.toArray⟩ ∧ t.length = j ∧ padL q (3 - j) ++ t = lettersN n ∧ Below w.heap.size w wr) (fun _ _ iv _ => 3 - (intOf iv).toNat)
        case atStart => exact ⟨0, n - 703, [], by omega, rfl, by first | rfl | (congr 1; omega), by omega, rfl, rfl, by rw [List.append_nil]; exact HP.out, Below.refl _ _⟩
        case round =>
          obtain ⟨j, q, t, hj, rfl, rfl, hq, rfl, hl, ht, hb⟩ := hrel
          have HB := hide hb
          have HT := hide ht
          clear hb ht HP a1
          by_cases hlt : j < 3
          · have hlt' : (j : Int) < 3 := by omega
            have hcv := one_letter wr q _ (let_byte q)
            obtain ⟨d, hd⟩ : ∃ d, d = UInt8.ofNat (65 + q % 26) := ⟨_, rfl⟩
            rw [← hd] at hcv
            have HD := hide hd
            clear hd
            go_wp2
            go_roundw
            case rel =>
              refine ⟨j + 1, q / 26, d :: t, by omega, by go_num, by first | rfl | (congr 1; omega), by omega, by rw [str_cons], by simp [hl], ?_, HB.out.alloc HB.out.size _⟩
              have := HT.out
              rw [show 3 - j = (3 - (j + 1)) + 1 by omega] at this
              simp only [padL, List.append_assoc, List.singleton_append] at this
              rw [HD.out]; exact this
            case measure => simp [intOf]; omega
          · have hlt' : ¬ (j : Int) < 3 := by omega
            go_wp2
            go_ret2
            refine ⟨?_, HB.out⟩
            have := HT.out
            rw [show 3 - j = 0 by omega] at this
            simp only [padL, List.nil_append] at this
            rw [this]; rfl
end Go.Proofs.YtpognkhobmbfcaaDoor
