/-
  The contracts of maths.product, words.less, root and Root.
-/
import Derived.Test.YtfopebfejmlhbabMa5
namespace Go.Proofs.Ytfopebfejmlhbab
open Go.RowKit

set_option maxHeartbeats 1000000 in
theorem mprod_any (x y : Int) (w : World) (hx0 : 0 ≤ x) (hx : x ≤ 1000000000000000000) (hy0 : 0 ≤ y) (hy : y ≤ 1000000000000000000) :
    Calls Try.prog 32 #[.int .i64 x, .int .i64 y] w fun e w' => e = .returned (.agg #[.int .u64 (x * y / 18446744073709551616), .int .u64 (x * y % 18446744073709551616)]) ∧ Below w.heap.size w w' := by
  have HM : Hid (∀ w : World, Calls Try.prog 50 #[.int .u64 x, .int .u64 y] w fun e w' => e = .returned (.tuple #[.int .u64 (x * y / 18446744073709551616), .int .u64 (x * y % 18446744073709551616)]) ∧ w' = w) := fun w => mul64_any x y w hx0 (by omega) hy0 (by omega)
  have hw1 : IntKind.u64.wrap x = x := by rw [IntKind.wrap_u64]; omega
  have hw2 : IntKind.u64.wrap y = y := by rw [IntKind.wrap_u64]; omega
  generalize x * y / 18446744073709551616 = hi at *
  generalize x * y % 18446744073709551616 = lo at *
  clear hx0 hx hy0 hy
  go_enter Try.func32, Try.ntmps32
  go_wp2_with (go_at_call 50; refine (HM.out _).mono ?_; rintro e w1 ⟨rfl, rfl⟩)
  exact bodyPost_ret (v := .agg #[.int .u64 hi, .int .u64 lo]) (by simp [results, Try.results32, go_sem]) rfl ⟨rfl, by repeat' (first | with_reducible exact Below.refl _ _ | with_reducible refine Below.setCell ?_ ?_ _ | with_reducible refine Below.alloc ?_ ?_ _ | with_reducible refine below_drewN ?_ _ | with_reducible refine Below.drew ?_ | with_reducible refine Below.trans ?_ (Below.mono (by assumption) ?_) | with_reducible exact Nat.le_refl _ | with_reducible refine Nat.le_trans ?_ (Below.size (by assumption)) | with_reducible refine Nat.le_trans ?_ (size_alloc _ _) | with_reducible refine Nat.le_trans ?_ (size_set _ _ _) | with_reducible refine Nat.le_trans ?_ (size_drewN _ _) | with_reducible refine Nat.le_trans ?_ (size_drew _) | (simp; done) | (simp; omega) | omega)⟩

set_option maxHeartbeats 1000000 in
theorem less_any (a b : Int) (w : World) :
    Calls Try.prog 33 #[.agg #[.int .u64 (a / 18446744073709551616), .int .u64 (a % 18446744073709551616)], .agg #[.int .u64 (b / 18446744073709551616), .int .u64 (b % 18446744073709551616)]] w fun e w' => e = .returned (.bool (decide (a < b))) ∧ Below w.heap.size w w' := by
  by_cases c : a / 18446744073709551616 = b / 18446744073709551616
  · have HE : Hid (decide (a < b) = decide (a % 18446744073709551616 < b % 18446744073709551616)) := by show _ = _; rw [decide_eq_decide]; omega
    generalize decide (a < b) = r at *
    have c1 : (a / 18446744073709551616 == b / 18446744073709551616) = true := by rw [c]; exact beq_self_eq_true _
    have c2 : (a / 18446744073709551616 != b / 18446744073709551616) = false := by rw [bne, c1]; rfl
    generalize a / 18446744073709551616 = a1 at *
    generalize a % 18446744073709551616 = a2 at *
    generalize b / 18446744073709551616 = b1 at *
    generalize b % 18446744073709551616 = b2 at *
    subst c
    go_enter Try.func33, Try.ntmps33
    go_wp2
    go_ret
    exact ⟨by rw [HE.out]; rfl, by repeat' (first | with_reducible exact Below.refl _ _ | with_reducible refine Below.setCell ?_ ?_ _ | with_reducible refine Below.alloc ?_ ?_ _ | with_reducible refine below_drewN ?_ _ | with_reducible refine Below.drew ?_ | with_reducible refine Below.trans ?_ (Below.mono (by assumption) ?_) | with_reducible exact Nat.le_refl _ | with_reducible refine Nat.le_trans ?_ (Below.size (by assumption)) | with_reducible refine Nat.le_trans ?_ (size_alloc _ _) | with_reducible refine Nat.le_trans ?_ (size_set _ _ _) | with_reducible refine Nat.le_trans ?_ (size_drewN _ _) | with_reducible refine Nat.le_trans ?_ (size_drew _) | (simp; done) | (simp; omega) | omega)⟩
  · have HE : Hid (decide (a < b) = decide (a / 18446744073709551616 < b / 18446744073709551616)) := by show _ = _; rw [decide_eq_decide]; omega
    generalize decide (a < b) = r at *
    have c1 : (a / 18446744073709551616 == b / 18446744073709551616) = false := by rw [beq_eq_false_iff_ne]; exact c
    have c2 : (a / 18446744073709551616 != b / 18446744073709551616) = true := by rw [bne, c1]; rfl
    generalize a / 18446744073709551616 = a1 at *
    generalize a % 18446744073709551616 = a2 at *
    generalize b / 18446744073709551616 = b1 at *
    generalize b % 18446744073709551616 = b2 at *
    go_enter Try.func33, Try.ntmps33
    go_wp2
    go_ret
    exact ⟨by rw [HE.out]; rfl, by repeat' (first | with_reducible exact Below.refl _ _ | with_reducible refine Below.setCell ?_ ?_ _ | with_reducible refine Below.alloc ?_ ?_ _ | with_reducible refine below_drewN ?_ _ | with_reducible refine Below.drew ?_ | with_reducible refine Below.trans ?_ (Below.mono (by assumption) ?_) | with_reducible exact Nat.le_refl _ | with_reducible refine Nat.le_trans ?_ (Below.size (by assumption)) | with_reducible refine Nat.le_trans ?_ (size_alloc _ _) | with_reducible refine Nat.le_trans ?_ (size_set _ _ _) | with_reducible refine Nat.le_trans ?_ (size_drewN _ _) | with_reducible refine Nat.le_trans ?_ (size_drew _) | (simp; done) | (simp; omega) | omega)⟩

/-- What is held while a root is looked for: the square's two words in the block b. -/
abbrev SqS (b : Nat) (h l : Int) (w X : World) : Prop := X.cell? ⟨b, 0, none⟩ = some (.int .u64 h) ∧ X.cell? ⟨b, 1, none⟩ = some (.int .u64 l) ∧ b < X.heap.size ∧ Below w.heap.size w X
theorem SqS.out {b : Nat} {h l : Int} {w X : World} (s : SqS b h l w X) : Below w.heap.size w X := s.2.2.2
theorem SqS.below {b : Nat} {h l : Int} {w X Y : World} (s : SqS b h l w X) (k : Below X.heap.size X Y) : SqS b h l w Y := by
  obtain ⟨h0, h1, hb, hB⟩ := s
  exact ⟨(k.cell hb).trans h0, (k.cell hb).trans h1, Nat.lt_of_lt_of_le hb k.size, up hB k⟩
theorem SqS.drew {b : Nat} {h l : Int} {w X : World} (s : SqS b h l w X) : SqS b h l w X.drew := s.below (Below.refl _ _).drew

theorem mid_lt {L H M : Int} (hL : 0 ≤ L) (hM : (L + H) / 2 = M) (hlt : L < H) : L ≤ M ∧ M < H ∧ 0 ≤ M := by omega

set_option maxHeartbeats 1000000 in
theorem root_any (n r : Int) (w : World) (hn : fitsB n = true) (h0 : 0 ≤ n) (hr : RootIs (n * 1000000) r) :
    Calls Try.prog 18 #[.agg #[.int .i64 n]] w fun e w' => e = .returned (.tuple #[.int .i64 r, .int .i64 0]) ∧ Below w.heap.size w w' := by
  obtain ⟨n1, n2⟩ := fitsB_true hn
  have HP := hide (fun W : World => mprod_any n 1000000 W h0 (by omega) (by decide) (by decide))
  have HR := hide hr
  have hcn : (w.alloc (.cells #[.int .i64 n] 33)).cell? ⟨w.heap.size, 0, none⟩ = some (.int .i64 n) := by simp [go_sem]
  have hl0 : w.heap.size < (w.alloc (.cells #[.int .i64 n] 33)).heap.size := by simp
  have HB := hide ((Below.refl w.heap.size w).alloc (Nat.le_refl _) (.cells #[.int .i64 n] 33))
  have hN : n * 1000000 ≤ 1000000000000 * (1000000000000 + 1) := by omega
  have hlt : ¬ n < 0 := by omega
  obtain ⟨N, eN⟩ : ∃ N, N = n * 1000000 := ⟨_, rfl⟩
  rw [← eN] at HP HR hN
  have HL := hide (fun (p : Int) (W : World) => less_any p N W)
  generalize N / 18446744073709551616 = h at *
  generalize N % 18446744073709551616 = l at *
  clear hr hn n1 n2 h0 eN
  go_enter Try.func18, Try.ntmps18
  go_wp2_with (go_at_call 32; refine (HP.out _).mono ?_; rintro e w1 ⟨rfl, hb1⟩; have HB1 := hide (up HB.out hb1); clear hb1)
  have hsq : SqS w1.heap.size h l w (w1.alloc (.cells #[.int .u64 h, .int .u64 l] 49)) := ⟨by simp [go_sem], by simp [go_sem], by simp, HB1.out.alloc HB1.out.size _⟩
  generalize w1.alloc (.cells #[.int .u64 h, .int .u64 l] 49) = W0 at *
  generalize w1.heap.size = b at *
  have HQ := hide hsq
  clear hsq HB1 HP hcn hl0 HB
  go_loopw [6, 7] (fun lo hi wr => ∃ L H : Int, lo = .int .i64 L ∧ hi = .int .i64 H ∧ 0 ≤ L ∧ L ≤ H ∧ H ≤ 1000000000000 ∧ (L = 0 ∨ (L - 1) * L < N) ∧ N ≤ H * (H + 1) ∧ SqS b h l w wr) (fun lo hi _ => (intOf hi - intOf lo).toNat)
  case atStart => exact ⟨0, 1000000000000, rfl, rfl, by decide, by decide, by decide, Or.inl rfl, hN, HQ.out⟩
  case round =>
    obtain ⟨L, H, rfl, rfl, hL0, hLH, hH, hl, hh, hs⟩ := hrel
    have HLo := hide hl
    have HHi := hide hh
    clear hl hh HQ hN
    by_cases hc : L < H
    · obtain ⟨M, hM⟩ : ∃ M, (L + H) / 2 = M := ⟨_, rfl⟩
      obtain ⟨m1, m2, m3⟩ := mid_lt hL0 hM hc
      have hM' : (L + H).tdiv 2 = M := by rw [Int.tdiv_eq_ediv_of_nonneg (by omega)]; exact hM
      have w1 : IntKind.i64.wrap (L + H) = L + H := wrapI (by omega) (by omega)
      have w2 : IntKind.i64.wrap M = M := wrapI (by omega) (by omega)
      have w3 : IntKind.i64.wrap (M + 1) = M + 1 := wrapI (by omega) (by omega)
      have HP := hide (fun W : World => mprod_any M (M + 1) W m3 (by omega) (by omega) (by omega))
      have HE := HL.out (M * (M + 1))
      have HX : Hid (∀ W : World, Calls Try.prog 33 #[.agg #[.int .u64 (M * (M + 1) / 18446744073709551616), .int .u64 (M * (M + 1) % 18446744073709551616)], .agg #[.int .u64 h, .int .u64 l]] W fun e w' => e = .returned (.bool (decide (M * (M + 1) < N))) ∧ Below W.heap.size W w') := HE
      have HS := hide hs.drew
      clear HE hM hs HL
      generalize M * (M + 1) / 18446744073709551616 = ph at *
      generalize M * (M + 1) % 18446744073709551616 = pl at *
      by_cases c : M * (M + 1) < N
      · have HU : Hid ((M + 1 - 1) * (M + 1) < N) := by rw [show M + 1 - 1 = M by omega]; exact c
        rw [decide_eq_true c] at HX
        clear c
        go_wp2_with fail
        go_region_held3 (fun X => X.cell? ⟨b, 0, none⟩ = some (.int .u64 h) ∧ X.cell? ⟨b, 1, none⟩ = some (.int .u64 l) ∧ b < X.heap.size ∧ Below w.heap.size w X) (first | exact HS.out | assumption | exact SqS.drew (by assumption)) (first | (go_at_call 32; refine (HP.out _).mono ?_; rintro e w2 ⟨rfl, hb2⟩; have hs2 := SqS.below (by assumption) hb2) | (go_at_call 33; refine (HX.out _).mono ?_; rintro e w3 ⟨rfl, hb3⟩; have hs3 := SqS.below (by assumption) hb3))
        all_goals go_wp2
        all_goals go_roundw
        case rel => exact ⟨M + 1, H, rfl, rfl, by omega, by omega, hH, Or.inr HU.out, HHi.out, hs3⟩
        case measure => simp [intOf]; omega
      · have HU : Hid (N ≤ M * (M + 1)) := Int.not_lt.1 c
        rw [decide_eq_false c] at HX
        clear c
        go_wp2_with fail
        go_region_held3 (fun X => X.cell? ⟨b, 0, none⟩ = some (.int .u64 h) ∧ X.cell? ⟨b, 1, none⟩ = some (.int .u64 l) ∧ b < X.heap.size ∧ Below w.heap.size w X) (first | exact HS.out | assumption | exact SqS.drew (by assumption)) (first | (go_at_call 32; refine (HP.out _).mono ?_; rintro e w2 ⟨rfl, hb2⟩; have hs2 := SqS.below (by assumption) hb2) | (go_at_call 33; refine (HX.out _).mono ?_; rintro e w3 ⟨rfl, hb3⟩; have hs3 := SqS.below (by assumption) hb3))
        all_goals go_wp2
        all_goals go_roundw
        case rel => exact ⟨L, M, rfl, rfl, hL0, m1, by omega, HLo.out, HU.out, hs3⟩
        case measure => simp [intOf]; omega
    · have hE : L = H := by omega
      subst hE
      have hR : L = r := root_unique ⟨hL0, HHi.out, HLo.out⟩ HR.out
      subst hR
      have HS := hide hs.out
      clear hs
      go_wp2
      go_ret2
      exact ⟨rfl, HS.out⟩

set_option maxHeartbeats 1000000 in
theorem root_neg (n : Int) (w : World) (h0 : n < 0) :
    Calls Try.prog 18 #[.agg #[.int .i64 n]] w fun e w' => e = .returned (.tuple #[.int .i64 0, .int .i64 2]) ∧ Below w.heap.size w w' := by
  go_enter Try.func18, Try.ntmps18
  go_wp2
  go_ret2
  exact ⟨rfl, by repeat' (first | with_reducible exact Below.refl _ _ | with_reducible refine Below.setCell ?_ ?_ _ | with_reducible refine Below.alloc ?_ ?_ _ | with_reducible refine below_drewN ?_ _ | with_reducible refine Below.drew ?_ | with_reducible refine Below.trans ?_ (Below.mono (by assumption) ?_) | with_reducible exact Nat.le_refl _ | with_reducible refine Nat.le_trans ?_ (Below.size (by assumption)) | with_reducible refine Nat.le_trans ?_ (size_alloc _ _) | with_reducible refine Nat.le_trans ?_ (size_set _ _ _) | with_reducible refine Nat.le_trans ?_ (size_drewN _ _) | with_reducible refine Nat.le_trans ?_ (size_drew _) | (simp; done) | (simp; omega) | omega)⟩

/-- What Root makes of n: r, where n is not below 0. -/
def mrootR (n r : Int) : Int × Int := if n < 0 then (0, 2) else (r, 0)

set_option maxHeartbeats 1000000 in
theorem Root_any (n r : Int) (w : World) (hr : fitsB n = true → 0 ≤ n → RootIs (n * 1000000) r) :
    Calls Try.prog 7 #[.int .i64 n] w fun e w' => e = .returned (.tuple #[.int .i64 (shown1 n (mrootR n r)).1, .int .i64 (shown1 n (mrootR n r)).2]) ∧ Below w.heap.size w w' := by
  have HT := hide (fun W : World => told1_any n (mrootR n r) 18 #[] W (fun _ _ => by kernel_rfl) (fun hf W' _ => by
    by_cases h : n < 0
    · rw [show mrootR n r = (0, 2) from if_pos h]; exact root_neg n W' h
    · rw [show mrootR n r = (r, 0) from if_neg h]; exact root_any n r W' hf (by omega) (hr hf (by omega))))
  generalize shown1 n (mrootR n r) = x at *
  obtain ⟨x1, x2⟩ := x
  go_enter Try.func7, Try.ntmps7
  go_wp2_with (go_at_call 17; refine (HT.out _).mono ?_; rintro e w1 ⟨rfl, hb1⟩)
  go_ret2
  exact ⟨rfl, hb1⟩
end Go.Proofs.Ytfopebfejmlhbab
