/-
  The contracts of told over a list, slices.IndexFunc and ContainsFunc, and folded.
-/
import Derived.Test.YtfopebfejmlhbabMaL
import Derived.Test.YtfopebfejmlhbabMa4
namespace Go.Proofs.Ytfopebfejmlhbab
open Go.RowKit

set_option maxHeartbeats 1000000 in
theorem index_any (xs : List Int) (a : Option Addr) (cap : Nat) (P : Int → Bool) (g : Nat) (w : World) (r1 : Enters g) (hr : RowI w a xs) (hc : ∀ (n : Int) (W : World), Calls Try.prog g #[.int .i64 n] W fun e w' => e = .returned (.bool (P n)) ∧ w' = W) :
    Calls Try.prog 56 #[.slice a xs.length cap, .func (.func g) #[] #[]] w fun e w' => (∃ r : Int, e = .returned (.int .i64 r) ∧ decide (0 ≤ r) = xs.any P) ∧ w' = w := by
  have HC := hide hc
  have HR := hide hr
  have R1 := hide r1
  have hlen := hr.1
  clear hc hr r1
  go_enter Try.func56, Try.ntmps56
  go_wp2
  go_loop [8] (fun i => ∃ k : Nat, k ≤ xs.length ∧ i = .int .i64 k ∧ ∀ j, j < k → P (xs.getD j 0) = false) (fun i => xs.length - (intOf i).toNat)
  case atStart => exact ⟨0, Nat.zero_le _, rfl, fun j hj => absurd hj (by omega)⟩
  case round =>
    obtain ⟨k, hk, rfl, hn⟩ := hrel
    have HN := hide hn
    clear hn
    by_cases hlt : k < xs.length
    · obtain ⟨x, rfl, hcell⟩ := HR.out.2 k hlt
      have HC1 : Hid (∀ W : World, Calls Try.prog g #[.int .i64 (xs.getD k 0)] W fun e w' => e = .returned (.bool (P (xs.getD k 0))) ∧ w' = W) := fun W => HC.out _ W
      cases hp : P (xs.getD k 0)
      · rw [hp] at HC1
        have HN2 : Hid (∀ j, j < k + 1 → P (xs.getD j 0) = false) := by
          intro j hj
          by_cases e : j = k
          · rw [e]; exact hp
          · exact HN.out j (by omega)
        clear hp HC
        generalize xs.getD k 0 = n at *
        go_wp2_with (rw [R1.out, Oper.upon_enter]; refine (HC1.out _).mono ?_; rintro e w1 ⟨rfl, rfl⟩)
        go_round
        case rel => exact ⟨k + 1, by omega, by go_num, HN2.out⟩
        case measure => simp [intOf]; omega
      · rw [hp] at HC1
        have HA : Hid (xs.any P = true) := any_getD hlt hp
        clear hp HC
        generalize xs.getD k 0 = n at *
        go_wp2_with (rw [R1.out, Oper.upon_enter]; refine (HC1.out _).mono ?_; rintro e w1 ⟨rfl, rfl⟩)
        go_ret
        exact ⟨⟨(k : Int), rfl, by rw [HA.out]; simp⟩, rfl⟩
    · have : k = xs.length := by omega
      subst this
      have HA : Hid (xs.any P = false) := none_getD HN.out
      go_wp2
      go_ret
      exact ⟨⟨-1, rfl, by rw [HA.out]; rfl⟩, rfl⟩

set_option maxHeartbeats 1000000 in
theorem contains_any (xs : List Int) (a : Option Addr) (cap : Nat) (P : Int → Bool) (g : Nat) (w : World) (r1 : Enters g) (hr : RowI w a xs) (hc : ∀ (n : Int) (W : World), Calls Try.prog g #[.int .i64 n] W fun e w' => e = .returned (.bool (P n)) ∧ w' = W) :
    Calls Try.prog 37 #[.slice a xs.length cap, .func (.func g) #[] #[]] w fun e w' => e = .returned (.bool (xs.any P)) ∧ w' = w := by
  have HI := hide (index_any xs a cap P g w r1 hr hc)
  clear hr hc r1
  go_enter Try.func37, Try.ntmps37
  go_wp2_with (go_at_call 56; refine HI.out.mono ?_; rintro e w1 ⟨⟨r, rfl, hr⟩, rfl⟩; have HR := hide hr; clear hr)
  go_ret
  exact ⟨by rw [← HR.out]; rfl, rfl⟩

set_option maxHeartbeats 1000000 in
theorem folded_any (xs : List Int) (a : Option Addr) (cap : Nat) (F : Int → Int → Int × Int) (I : Int → Prop) (s0 : Int) (g : Nat) (w : World) (r1 : Enters g) (hr : RowI w a xs) (hI : I s0)
    (hk : ∀ s n, I s → n ∈ xs → (F s n).2 = 0 → I (F s n).1)
    (hc : ∀ (s n : Int) (W : World), I s → n ∈ xs → Calls Try.prog g #[.int .i64 s, .int .i64 n] W fun e w' => e = .returned (.tuple #[.int .i64 (F s n).1, .int .i64 (F s n).2]) ∧ Below W.heap.size W w') :
    Calls Try.prog 39 #[.slice a xs.length cap, .int .i64 s0, .func (.func g) #[] #[]] w fun e w' => e = .returned (.tuple #[.int .i64 (foldR F s0 xs).1, .int .i64 (foldR F s0 xs).2]) ∧ Below w.heap.size w w' := by
  have HC := hide hc
  have HR := hide hr
  have R1 := hide r1
  have HK := hide hk
  have HI := hide hI
  have hlen := hr.1
  clear hc hr r1 hk hI
  go_enter Try.func39, Try.ntmps39
  go_wp2
  go_loopw [8, 15] (fun s i wr => ∃ (k : Nat) (S : Int), k ≤ xs.length ∧ i = .int .i64 k ∧ s = .int .i64 S ∧ I S ∧ foldR F s0 xs = foldR F S (xs.drop k) ∧ Below w.heap.size w wr) (fun _ i _ => xs.length - (intOf i).toNat)
  case atStart => exact ⟨0, s0, Nat.zero_le _, rfl, rfl, HI.out, rfl, Below.refl _ _⟩
  case round =>
    obtain ⟨k, S, hk, rfl, rfl, hS, hf, hb⟩ := hrel
    have HF := hide hf
    have HB := hide hb
    have HS := hide hS
    clear hf hb hS HI
    by_cases hlt : k < xs.length
    · obtain ⟨x, rfl, hcell⟩ := (HR.out.below HB.out).2 k hlt
      have hm := mem_getD hlt
      have HC1 := hide (fun W : World => HC.out S _ W HS.out hm)
      have HK1 := hide (HK.out S _ HS.out hm)
      have hd : foldR F S (xs.drop k) = if (F S (xs.getD k 0)).2 = 0 then foldR F (F S (xs.getD k 0)).1 (xs.drop (k + 1)) else (0, (F S (xs.getD k 0)).2) := by rw [drop_getD hlt]; rfl
      have HD := hide (HF.out.trans hd)
      clear hd HF HS HC HK hm
      generalize xs.getD k 0 = n at *
      generalize F S n = y at *
      obtain ⟨y1, y2⟩ := y
      by_cases z : y2 = 0
      · subst z
        have HE : Hid (foldR F s0 xs = foldR F y1 (xs.drop (k + 1))) := HD.out.trans (if_pos rfl)
        have HJ : Hid (I y1) := HK1.out rfl
        clear HD HK1
        go_wp2_with (rw [R1.out, Oper.upon_enter]; refine (HC1.out _).mono ?_; rintro e w1 ⟨rfl, hb1⟩; have HB1 := hide (up HB.out hb1); clear hb1)
        go_roundw
        case rel => exact ⟨k + 1, y1, by omega, by go_num, rfl, HJ.out, HE.out, HB1.out⟩
        case measure => simp [intOf]; omega
      · have z1 : (y2 == 0) = false := by rw [beq_eq_false_iff_ne]; exact z
        have z2 : (y2 != 0) = true := by rw [bne, z1]; rfl
        have HE : Hid (foldR F s0 xs = (0, y2)) := HD.out.trans (if_neg z)
        clear HD HK1 z
        go_wp2_with (rw [R1.out, Oper.upon_enter]; refine (HC1.out _).mono ?_; rintro e w1 ⟨rfl, hb1⟩; have HB1 := hide (up HB.out hb1); clear hb1)
        go_ret2
        exact ⟨by rw [HE.out]; rfl, HB1.out⟩
    · have : k = xs.length := by omega
      subst this
      have HE : Hid (foldR F s0 xs = (S, 0)) := by show _ = _; rw [HF.out, List.drop_length]; rfl
      go_wp2
      go_ret2
      exact ⟨by rw [HE.out]; rfl, HB.out⟩
end Go.Proofs.Ytfopebfejmlhbab
