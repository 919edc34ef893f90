/-
  The answer's gcd, good, Gcd, Lcm.
-/
import Derived.Test.YtfopebfejmlhbaaMb4
import Derived.Test.YtfopebfejmlhbaaMa11
namespace Go.Proofs.Ytfopebfejmlhbaa
open Go.RowKit

set_option maxHeartbeats 1000000 in
theorem rgcd_any (a b : Nat) (w : World) (ha : a ≤ 1000000000000000000) (hb : b ≤ 1000000000000000000) :
    Calls Try.prog 67 #[.int .i64 a, .int .i64 b] w fun e w' => e = .returned (.int .i64 (Nat.gcd a b : Nat)) ∧ Below w.heap.size w w' := by
  obtain ⟨g, hg⟩ : ∃ g, Nat.gcd a b = g := ⟨_, rfl⟩
  rw [hg]
  have HG := hide hg
  have HB := hide (Below.refl w.heap.size w)
  clear hg
  go_enter Try.func67, Try.ntmps67
  go_wp2
  go_loopw [0, 1] (fun p q wr => ∃ x y : Nat, p = .int .i64 (x : Int) ∧ q = .int .i64 (y : Int) ∧ x ≤ 1000000000000000000 ∧ y ≤ 1000000000000000000 ∧ Nat.gcd x y = g ∧ Below w.heap.size w wr) (fun _ q _ => (intOf q).toNat)
  case atStart => exact ⟨a, b, rfl, rfl, ha, hb, HG.out, HB.out⟩
  case round =>
    obtain ⟨x, y, rfl, rfl, hx, hy, he, hbl⟩ := hrel
    have HE := hide he
    have HW := hide hbl
    clear he hbl HG HB
    by_cases z : y = 0
    · subst z
      have HF : Hid (x = g) := by show x = g; rw [← HE.out, Nat.gcd_zero_right]
      clear HE
      go_wp2
      go_ret
      exact ⟨by rw [HF.out]; rfl, HW.out⟩
    · obtain ⟨r, hr⟩ : ∃ r, x % y = r := ⟨_, rfl⟩
      have hlt : r < y := by rw [← hr]; exact Nat.mod_lt _ (by omega)
      have z1 : ((y : Int) == 0) = false := by rw [beq_eq_false_iff_ne]; omega
      have z2 : ¬ (y : Int) = 0 := by omega
      have m1 : (x : Int) % (y : Int) = (r : Int) := by rw [← hr]; exact (Int.natCast_emod x y).symm
      have m2 : (x : Int).tmod (y : Int) = (r : Int) := by rw [tm_pos (by omega)]; exact m1
      have w1 : IntKind.i64.wrap (r : Int) = (r : Int) := wrapI (by omega) (by omega)
      have HF : Hid (Nat.gcd y r = g) := by show _ = g; rw [← HE.out, ← hr, Nat.gcd_comm x y, Nat.gcd_rec y x, Nat.gcd_comm]
      have HD := hide (fun k => below_drewN HW.out k)
      clear HE hr
      go_wp2_with fail
      go_quiet (fail)
      go_wp2_with fail
      go_roundw
      case rel => exact ⟨y, r, rfl, rfl, hy, by omega, HF.out, HD.out _⟩
      case measure => simp [intOf]; omega

def badB (n : Int) : Bool := !(fitsB n) || decide (n < 0)
theorem good_out {xs : List Int} {k : Nat} (h : k < xs.length) (hb : badB (xs.getD k 0) = true) (x : Int × Int) : shownL xs (if xs.any (fun n => decide (n < 0)) then (0, 2) else x) = (0, 5) := by
  unfold shownL
  by_cases c : xs.all fitsB = true
  · rw [if_pos c]
    have hf : fitsB (xs.getD k 0) = true := List.all_eq_true.1 c _ (mem_getD h)
    unfold badB at hb
    rw [hf] at hb
    rw [if_pos (any_getD (P := fun n => decide (n < 0)) h (by simpa using hb))]; rfl
  · rw [if_neg c]
theorem bad_not {n : Int} (h : badB n = false) : fitsB n = true ∧ decide (n < 0) = false := by
  unfold badB at h
  cases hf : fitsB n
  · rw [hf] at h; simp at h
  · cases hd : decide (n < 0)
    · exact ⟨rfl, rfl⟩
    · rw [hd] at h; simp at h
theorem good_in {xs : List Int} (h : ∀ j, j < xs.length → badB (xs.getD j 0) = false) (x : Int × Int) : shownL xs (if xs.any (fun n => decide (n < 0)) then (0, 2) else x) = shown x := by
  unfold shownL
  rw [if_pos (all_getD fun j hj => (bad_not (h j hj)).1), none_getD (P := fun n => decide (n < 0)) fun j hj => (bad_not (h j hj)).2]
  rfl
theorem badB_bd {n : Int} (h : badB n = false) : 0 ≤ n ∧ n ≤ 1000000000000000000 ∧ fitsB n = true := by
  unfold badB at h
  cases hf : fitsB n
  · rw [hf] at h; simp at h
  · rw [hf] at h
    have h2 : ¬ n < 0 := by simpa using h
    exact ⟨by omega, (fitsB_true hf).2, rfl⟩

set_option maxHeartbeats 1000000 in
theorem rgood_any (xs : List Int) (a : Option Addr) (cap : Nat) (w : World) (hr : RowI w a xs) :
    Calls Try.prog 66 #[.slice a xs.length cap] w fun e w' => ((e = .returned (.bool true) ∧ ∀ j, j < xs.length → badB (xs.getD j 0) = false) ∨ (e = .returned (.bool false) ∧ ∃ k, k < xs.length ∧ badB (xs.getD k 0) = true)) ∧ w' = w := by
  have HR := hide hr
  have hlen := hr.1
  clear hr
  have HF := hide (fun (n : Int) (W : World) => rfits_any n W)
  go_enter Try.func66, Try.ntmps66
  go_wp2
  go_loop [3] (fun i => ∃ k : Nat, k ≤ xs.length ∧ i = .int .i64 k ∧ ∀ j, j < k → badB (xs.getD j 0) = false) (fun i => xs.length - (intOf i).toNat)
  case atStart => exact ⟨0, Nat.zero_le _, rfl, fun j hj => absurd hj (by omega)⟩
  case round =>
    obtain ⟨k, hk, rfl, hn⟩ := hrel
    have HN := hide hn
    clear hn
    by_cases hlt : k < xs.length
    · obtain ⟨x, rfl, hcell⟩ := HR.out.2 k hlt
      have HX := hide (fun W : World => HF.out (xs.getD k 0) W)
      cases hb : badB (xs.getD k 0)
      · have HN2 : Hid (∀ j, j < k + 1 → badB (xs.getD j 0) = false) := by
          intro j hj
          by_cases e : j = k
          · rw [e]; exact hb
          · exact HN.out j (by omega)
        have b := badB_bd hb
        rw [b.2.2] at HX
        have b1 : ¬ xs.getD k 0 < 0 := by omega
        clear hb HN HF b
        generalize xs.getD k 0 = n at *
        go_wp2_with (go_at_call 47; refine (HX.out _).mono ?_; rintro e w1 ⟨rfl, rfl⟩)
        go_round
        case rel => exact ⟨k + 1, by omega, by go_num, HN2.out⟩
        case measure => simp [intOf]; omega
      · have HA : Hid (∃ k, k < xs.length ∧ badB (xs.getD k 0) = true) := ⟨k, hlt, hb⟩
        cases hf : fitsB (xs.getD k 0)
        · rw [hf] at HX
          clear hb HN HF hf
          generalize xs.getD k 0 = n at *
          go_wp2_with (go_at_call 47; refine (HX.out _).mono ?_; rintro e w1 ⟨rfl, rfl⟩)
          go_ret
          exact ⟨Or.inr ⟨rfl, HA.out⟩, rfl⟩
        · rw [hf] at HX
          have b1 : xs.getD k 0 < 0 := by unfold badB at hb; rw [hf] at hb; simpa using hb
          clear hb HN HF hf
          generalize xs.getD k 0 = n at *
          go_wp2_with (go_at_call 47; refine (HX.out _).mono ?_; rintro e w1 ⟨rfl, rfl⟩)
          go_ret
          exact ⟨Or.inr ⟨rfl, HA.out⟩, rfl⟩
    · have : k = xs.length := by omega
      subst this
      go_wp2
      go_ret
      exact ⟨Or.inl ⟨rfl, HN.out⟩, rfl⟩

theorem gcd_bd {m q : Nat} (hm : m ≤ 1000000000000) (hq : q ≤ 1000000000000) : Nat.gcd m q ≤ 1000000000000 := by
  by_cases z : m = 0
  · rw [z, Nat.gcd_zero_left]; exact hq
  · exact Nat.le_trans (Nat.gcd_le_left q (by omega)) hm

set_option maxHeartbeats 1000000 in
theorem rGcd_any (xs : List Int) (a : Option Addr) (cap : Nat) (w : World) (hr : RowI w a xs) :
    Calls Try.prog 35 #[.slice a xs.length cap] w fun e w' => e = .returned (.tuple #[.int .i64 (shownL xs (mdivR xs)).1, .int .i64 (shownL xs (mdivR xs)).2]) ∧ Below w.heap.size w w' := by
  have HR := hide hr
  have hlen := hr.1
  have HO := hide (rgood_any xs a cap w hr)
  have HB := hide (Below.refl w.heap.size w)
  clear hr
  have HS : Hid (∀ r : Int × Int, (∀ j, j < xs.length → badB (xs.getD j 0) = false) → r = ((gcdL 0 xs : Int) * 1000000, 0) → shownL xs (mdivR xs) = shown r) := by
    intro r h e
    rw [e]
    exact good_in h _
  have HZ : Hid ((∃ k, k < xs.length ∧ badB (xs.getD k 0) = true) → shownL xs (mdivR xs) = (0, 5)) := fun ⟨k, h, hb⟩ => good_out h hb _
  generalize shownL xs (mdivR xs) = G at *
  go_enter Try.func35, Try.ntmps35
  go_wp2_with (go_at_call 66; refine HO.out.mono ?_; rintro e W1 ⟨⟨rfl, hgood⟩ | ⟨rfl, hbad⟩, rfl⟩)
  · have HH := hide hgood
    clear hgood HZ HO
    go_loopw [4, 5] (fun g i wr => ∃ (k m : Nat), k ≤ xs.length ∧ i = .int .i64 k ∧ g = .int .i64 (m : Int) ∧ m ≤ 1000000000000 ∧ gcdL 0 xs = gcdL m (xs.drop k) ∧ Below W1.heap.size W1 wr) (fun _ i _ => xs.length - (intOf i).toNat)
    case atStart => exact ⟨0, 0, Nat.zero_le _, rfl, rfl, Nat.zero_le _, rfl, HB.out⟩
    case round =>
      obtain ⟨k, m, hk, rfl, rfl, hm, he, hb⟩ := hrel
      have HE := hide he
      have HW := hide hb
      clear he hb HB
      by_cases hlt : k < xs.length
      · obtain ⟨x, rfl, hcell⟩ := (HR.out.below HW.out).2 k hlt
        obtain ⟨n0, n1, n2⟩ := badB_bd (HH.out k hlt)
        have hd : gcdL m (xs.drop k) = gcdL (Nat.gcd m (whN (xs.getD k 0))) (xs.drop (k + 1)) := by rw [drop_getD hlt]; rfl
        have HD := hide (HE.out.trans hd)
        have hq : whN (xs.getD k 0) ≤ 1000000000000 := by unfold whN; omega
        have q1 : xs.getD k 0 / 1000000 = (whN (xs.getD k 0) : Int) := by unfold whN; omega
        have q2 : (xs.getD k 0).tdiv 1000000 = (whN (xs.getD k 0) : Int) := by rw [Int.tdiv_eq_ediv_of_nonneg n0]; exact q1
        generalize whN (xs.getD k 0) = q at *
        generalize xs.getD k 0 = n at *
        have w1 : IntKind.i64.wrap (q : Int) = (q : Int) := wrapI (by omega) (by omega)
        have HC := hide (fun W : World => rgcd_any m q W (by omega) (by omega))
        have hbd := gcd_bd hm hq
        clear hd HE n1 n2
        generalize Nat.gcd m q = g at *
        go_wp2_with (go_at_call 67; refine (HC.out _).mono ?_; rintro e w1 ⟨rfl, hb1⟩; have HB1 := hide (up HW.out hb1); clear hb1)
        go_roundw
        case rel => exact ⟨k + 1, g, by omega, by go_num, rfl, hbd, HD.out, HB1.out⟩
        case measure => simp [intOf]; omega
      · have : k = xs.length := by omega
        subst this
        have hg : gcdL 0 xs = m := by rw [HE.out, List.drop_length]; rfl
        have HF : Hid (G = ((m : Int) * 1000000, 0)) := by
          show G = _
          rw [HS.out _ HH.out rfl, hg, shown_fit rfl (fitsB_of (by show _ ≤ (m : Int) * 1000000; omega) (by show (m : Int) * 1000000 ≤ _; omega))]
        have w3 : IntKind.i64.wrap ((m : Int) * 1000000) = (m : Int) * 1000000 := wrapI (by omega) (by omega)
        clear HE hg HS
        go_wp2
        go_ret2
        exact ⟨by rw [HF.out]; rfl, HW.out⟩
  · have HF := hide (HZ.out hbad)
    clear hbad HZ HO
    go_ret2
    exact ⟨by rw [HF.out]; rfl, HB.out⟩

/-- What a round of Lcm reckons with. -/
theorem lcm_parts {m q : Nat} (hm : 1 ≤ m) (hm2 : m ≤ 1000000000000) (hq : 1 ≤ q) (hq2 : q ≤ 1000000000000) :
    ∃ g b c : Nat, Nat.gcd m q = g ∧ 1 ≤ g ∧ g ≤ 1000000000000 ∧ q / g = b ∧ 1 ≤ b ∧ b ≤ 1000000000000 ∧ 1000000000000 / b = c ∧ c ≤ 1000000000000 ∧ m * b = Nat.lcm m q ∧ (c < m ↔ 1000000000000 < m * b) := by
  have hg : 0 < Nat.gcd m q := Nat.gcd_pos_of_pos_left _ (by omega)
  have hgq : Nat.gcd m q ≤ q := Nat.gcd_le_right m (by omega)
  have hb : 0 < q / Nat.gcd m q := Nat.div_pos hgq hg
  refine ⟨_, _, _, rfl, hg, by omega, rfl, hb, Nat.le_trans (Nat.div_le_self _ _) hq2, rfl, Nat.div_le_self _ _, ?_, ?_⟩
  · rw [Nat.lcm, Nat.mul_div_assoc m (Nat.gcd_dvd_right m q)]
  · rw [Nat.div_lt_iff_lt_mul hb]

set_option maxHeartbeats 2000000 in
theorem rLcm_any (xs : List Int) (a : Option Addr) (cap : Nat) (w : World) (hr : RowI w a xs) :
    Calls Try.prog 37 #[.slice a xs.length cap] w fun e w' => e = .returned (.tuple #[.int .i64 (shownL xs (mmulR xs)).1, .int .i64 (shownL xs (mmulR xs)).2]) ∧ Below w.heap.size w w' := by
  have HR := hide hr
  have hlen := hr.1
  have HO := hide (rgood_any xs a cap w hr)
  have HB := hide (Below.refl w.heap.size w)
  clear hr
  have HS : Hid ((∀ j, j < xs.length → badB (xs.getD j 0) = false) → shownL xs (mmulR xs) = shown (if xs.any (fun n => decide (n < 1000000)) then (0, 0) else lcmT (lcmL 1 xs))) := fun h => good_in h _
  have HZ : Hid ((∃ k, k < xs.length ∧ badB (xs.getD k 0) = true) → shownL xs (mmulR xs) = (0, 5)) := fun ⟨k, h, hb⟩ => good_out h hb _
  generalize shownL xs (mmulR xs) = G at *
  go_enter Try.func37, Try.ntmps37
  go_wp2_with (go_at_call 66; refine HO.out.mono ?_; rintro e W1 ⟨⟨rfl, hgood⟩ | ⟨rfl, hbad⟩, rfl⟩)
  · have HH := hide hgood
    clear hgood HZ HO
    go_loop [4] (fun i => ∃ k : Nat, k ≤ xs.length ∧ i = .int .i64 k ∧ ∀ j, j < k → decide (xs.getD j 0 < 1000000) = false) (fun i => xs.length - (intOf i).toNat)
    case atStart => exact ⟨0, Nat.zero_le _, rfl, fun j hj => absurd hj (by omega)⟩
    case round =>
      obtain ⟨k, hk, rfl, hn⟩ := hrel
      have HN := hide hn
      clear hn
      by_cases hlt : k < xs.length
      · obtain ⟨x, rfl, hcell⟩ := HR.out.2 k hlt
        obtain ⟨n0, n1, n2⟩ := badB_bd (HH.out k hlt)
        obtain ⟨q, q1⟩ : ∃ q : Nat, xs.getD k 0 / 1000000 = (q : Int) := ⟨(xs.getD k 0 / 1000000).toNat, by omega⟩
        have q2 : (xs.getD k 0).tdiv 1000000 = (q : Int) := by rw [Int.tdiv_eq_ediv_of_nonneg n0]; exact q1
        have w1 : IntKind.i64.wrap (q : Int) = (q : Int) := wrapI (by omega) (by omega)
        by_cases c : xs.getD k 0 < 1000000
        · have HF : Hid (G = (0, 0)) := by
            show G = _
            rw [HS.out HH.out, if_pos (any_getD (P := fun n => decide (n < 1000000)) hlt (decide_eq_true c))]; rfl
          have q0 : q = 0 := by omega
          subst q0
          clear HS HN n1 n2 c
          generalize xs.getD k 0 = n at *
          go_wp2
          go_ret2
          exact ⟨by rw [HF.out]; rfl, HB.out⟩
        · have HN2 : Hid (∀ j, j < k + 1 → decide (xs.getD j 0 < 1000000) = false) := by
            intro j hj
            by_cases e : j = k
            · rw [e]; exact decide_eq_false c
            · exact HN.out j (by omega)
          have z1 : ((q : Int) == 0) = false := by rw [beq_eq_false_iff_ne]; omega
          have z2 : ¬ (q : Int) = 0 := by omega
          clear HN n1 n2 c
          generalize xs.getD k 0 = n at *
          go_wp2
          go_round
          case rel => exact ⟨k + 1, by omega, by go_num, HN2.out⟩
          case measure => simp [intOf]; omega
      · have : k = xs.length := by omega
        subst this
        have HG : Hid (G = shown (lcmT (lcmL 1 xs))) := by
          show G = _
          rw [HS.out HH.out, none_getD (P := fun n => decide (n < 1000000)) HN.out]; rfl
        clear HS
        go_wp2
        go_loopw [5, 6] (fun g i wr => ∃ (k m : Nat), k ≤ xs.length ∧ i = .int .i64 k ∧ g = .int .i64 (m : Int) ∧ 1 ≤ m ∧ m ≤ 1000000000000 ∧ lcmL 1 xs = lcmL m (xs.drop k) ∧ Below W1.heap.size W1 wr) (fun _ i _ => xs.length - (intOf i).toNat)
        case atStart => exact ⟨0, 1, Nat.zero_le _, rfl, rfl, Nat.le_refl _, by decide, rfl, HB.out⟩
        case round =>
          obtain ⟨k, m, hk, rfl, rfl, hm1, hm, he, hb⟩ := hrel
          have HE := hide he
          have HW := hide hb
          clear he hb HB
          by_cases hlt : k < xs.length
          · obtain ⟨x, rfl, hcell⟩ := (HR.out.below HW.out).2 k hlt
            obtain ⟨n0, n1, n2⟩ := badB_bd (HH.out k hlt)
            have hge : ¬ xs.getD k 0 < 1000000 := of_decide_eq_false (HN.out k hlt)
            have hd : lcmL m (xs.drop k) = if 1000000000000 < Nat.lcm m (whN (xs.getD k 0)) then none else lcmL (Nat.lcm m (whN (xs.getD k 0))) (xs.drop (k + 1)) := by rw [drop_getD hlt]; rfl
            have hqb : 1 ≤ whN (xs.getD k 0) ∧ whN (xs.getD k 0) ≤ 1000000000000 := by unfold whN; omega
            have q1 : xs.getD k 0 / 1000000 = (whN (xs.getD k 0) : Int) := by unfold whN; omega
            have q2 : (xs.getD k 0).tdiv 1000000 = (whN (xs.getD k 0) : Int) := by rw [Int.tdiv_eq_ediv_of_nonneg n0]; exact q1
            generalize whN (xs.getD k 0) = q at *
            generalize xs.getD k 0 = n at *
            obtain ⟨g, b, c, hg, g1, g2, hqg, b1, b2, hc, c2, hl, hiff⟩ := lcm_parts hm1 hm hqb.1 hqb.2
            have hL := HE.out.trans hd
            have HC := hide (fun W : World => rgcd_any m q W (by omega) (by omega))
            rw [hg] at HC
            rw [← hl] at hL
            have w1 : IntKind.i64.wrap (q : Int) = (q : Int) := wrapI (by omega) (by omega)
            have gz1 : ((g : Int) == 0) = false := by rw [beq_eq_false_iff_ne]; omega
            have gz2 : ¬ (g : Int) = 0 := by omega
            have bz1 : ((b : Int) == 0) = false := by rw [beq_eq_false_iff_ne]; omega
            have bz2 : ¬ (b : Int) = 0 := by omega
            have e1 : (q : Int) / (g : Int) = (b : Int) := by rw [← hqg]; exact (Int.natCast_ediv q g).symm
            have e2 : (q : Int).tdiv (g : Int) = (b : Int) := by rw [Int.tdiv_eq_ediv_of_nonneg (by omega)]; exact e1
            have e3 : (1000000000000 : Int) / (b : Int) = (c : Int) := by rw [← hc]; exact (Int.natCast_ediv 1000000000000 b).symm
            have e4 : (1000000000000 : Int).tdiv (b : Int) = (c : Int) := by rw [Int.tdiv_eq_ediv_of_nonneg (by decide)]; exact e3
            have w2 : IntKind.i64.wrap (b : Int) = (b : Int) := wrapI (by omega) (by omega)
            have w3 : IntKind.i64.wrap (c : Int) = (c : Int) := wrapI (by omega) (by omega)
            obtain ⟨z, hz⟩ : ∃ z, m * b = z := ⟨_, rfl⟩
            have hz' : (m : Int) * (b : Int) = (z : Int) := by rw [← hz]; exact (Int.natCast_mul m b).symm
            have hz1 : 1 ≤ z := by rw [← hz]; exact Nat.mul_pos hm1 b1
            rw [hz] at hL hiff
            by_cases cc : c < m
            · have HF : Hid (G = (0, 5)) := by
                show G = _
                rw [HG.out, hL, if_pos (hiff.1 cc)]; rfl
              have cc' : (c : Int) < (m : Int) := by omega
              clear hd HE HG hL hg hqg hc hl hiff hz
              go_wp2_with (go_at_call 67; refine (HC.out _).mono ?_; rintro e w1 ⟨rfl, hb1⟩; have HB1 := hide (up HW.out hb1); clear hb1)
              go_ret2
              exact ⟨by rw [HF.out]; rfl, HB1.out⟩
            · have hzb : ¬ 1000000000000 < z := fun h => cc (hiff.2 h)
              have HD := hide (hL.trans (if_neg hzb))
              have w4 : IntKind.i64.wrap (z : Int) = (z : Int) := wrapI (by omega) (by omega)
              clear hd HE hL hg hqg hc hl hiff hz
              go_wp2_with (go_at_call 67; refine (HC.out _).mono ?_; rintro e w1 ⟨rfl, hb1⟩; have HB1 := hide (up HW.out hb1); clear hb1)
              go_roundw
              case rel => exact ⟨k + 1, z, by omega, by go_num, rfl, hz1, by omega, HD.out, HB1.out⟩
              case measure => simp [intOf]; omega
          · have : k = xs.length := by omega
            subst this
            have hg : lcmL 1 xs = some m := by rw [HE.out, List.drop_length]; rfl
            have HF : Hid (G = ((m : Int) * 1000000, 0)) := by
              show G = _
              rw [HG.out, hg]
              show shown ((m : Int) * 1000000, 0) = _
              rw [shown_fit rfl (fitsB_of (by show _ ≤ (m : Int) * 1000000; omega) (by show (m : Int) * 1000000 ≤ _; omega))]
            have w3 : IntKind.i64.wrap ((m : Int) * 1000000) = (m : Int) * 1000000 := wrapI (by omega) (by omega)
            clear HE hg HG
            go_wp2
            go_ret2
            exact ⟨by rw [HF.out]; rfl, HW.out⟩
  · have HF := hide (HZ.out hbad)
    clear hbad HZ HO
    go_ret2
    exact ⟨by rw [HF.out]; rfl, HB.out⟩
end Go.Proofs.Ytfopebfejmlhbaa
