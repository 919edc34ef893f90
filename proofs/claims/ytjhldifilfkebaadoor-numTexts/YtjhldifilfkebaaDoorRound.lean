/-
  The contracts of num.tenTo, Round's closure, quotient with it, num.Round, num.Floor.
-/
import Derived.Test.YtjhldifilfkebaaDoorMulDiv
import Derived.Laws.EntriesVeiled
import Derived.Deep.RegionWith
namespace Go.Proofs.YtjhldifilfkebaaDoor
open Go.RowKit

/-- A power of ten. -/
def p10 (k : Nat) : Int := 10 ^ k
theorem p10_zero : p10 0 = 1 := rfl
theorem p10_succ (k : Nat) : p10 (k + 1) = p10 k * 10 := by unfold p10; rw [Int.pow_succ]
theorem p10_pos (k : Nat) : 0 < p10 k := by unfold p10; exact Int.pow_pos (by decide)
theorem p10_le {k : Nat} (h : k ≤ 18) : p10 k ≤ 1000000000000000000 := by
  have h1 : (10 : Int) ^ k ≤ 10 ^ 18 := by
    have := Nat.pow_le_pow_right (n := 10) (by decide) h
    exact_mod_cast this
  unfold p10
  have h2 : (10 : Int) ^ 18 = 1000000000000000000 := by decide
  omega

set_option maxHeartbeats 400000 in
theorem tenTo_any (n : Nat) (hn : n ≤ 18) (w : World) :
    Calls Tryd.prog 41 #[.int .i64 n] w fun e w' => e = .returned (.int .u64 (p10 n)) ∧ w' = w := by
  go_enter Tryd.func41, Tryd.ntmps41
  go_wp2
  go_loop [3, 5] (fun p i => ∃ k : Nat, k ≤ n ∧ i = .int .i64 k ∧ p = .int .u64 (p10 k)) (fun _ i => n - (intOf i).toNat)
  case atStart => exact ⟨0, Nat.zero_le _, rfl, by rw [p10_zero]⟩
  case round =>
    obtain ⟨k, hk, rfl, rfl⟩ := hrel
    have h1 := p10_pos k
    by_cases hlt : k < n
    · have HS := hide (p10_succ k)
      have h2 : p10 k ≤ 100000000000000000 := by
        have a := p10_le (k := k + 1) (by omega)
        rw [p10_succ] at a
        omega
      go_wp2
      go_round
      case rel => exact ⟨k + 1, by omega, by go_num, by rw [HS.out]⟩
      case measure => simp [intOf]; omega
    · have : k = n := by omega
      subst this
      go_wp2
      go_ret
      exact ⟨rfl, rfl⟩

set_option maxHeartbeats 400000 in
theorem round1_any (q d : Int) (neg : Bool) (bp bs bn : Nat) (w : World) (h0 : 0 ≤ q * d) (h1 : q * d ≤ 4000000000000000000)
    (hp : w.cell? ⟨bp, 0, none⟩ = some (.func (.func 54) #[] #[.pointer (some ⟨bn, 0, none⟩)])) (hs : w.cell? ⟨bs, 0, none⟩ = some (.int .u64 d)) (hn : w.cell? ⟨bn, 0, none⟩ = some (.bool neg)) :
    Calls Tryd.prog 42 #[.int .u64 q, .pointer (some ⟨bp, 0, none⟩), .pointer (some ⟨bs, 0, none⟩)] w fun e w' => e = .returned (.int .i64 (put neg (q * d))) ∧ w' = w := by
  go_enter Tryd.func42, Tryd.ntmps42
  go_wp2_with (go_at_call 54; refine (put_any _ _ _ _ h0 h1 hn).mono ?_; rintro e w2 ⟨rfl, rfl⟩)
  go_ret
  exact ⟨rfl, rfl⟩

theorem halfEven_mul {N d : Int} (hN : 0 ≤ N) (hd : 0 < d) : 0 ≤ halfEven N d * d ∧ halfEven N d * d ≤ N + d := by
  have h1 := Int.mul_ediv_add_emod N d
  have h2 := Int.emod_nonneg N (b := d) (by omega)
  have h3 := Int.ediv_nonneg hN (Int.le_of_lt hd)
  have h4 : N / d * d = d * (N / d) := Int.mul_comm _ _
  have h5 : 0 ≤ d * (N / d) := Int.mul_nonneg (by omega) h3
  unfold halfEven
  split
  · rw [Int.add_mul]; omega
  · omega

set_option maxHeartbeats 400000 in
theorem quotStep_any (lo d : Int) (neg : Bool) (bp bs bn : Nat) (w : World) (hlo : 0 ≤ lo) (hlo1 : lo ≤ 1000000000000000000) (hd0 : 0 < d) (hd1 : d ≤ 1000000000000000000)
    (hbp : bp < w.heap.size) (hbs : bs < w.heap.size) (hbn : bn < w.heap.size)
    (hp : w.cell? ⟨bp, 0, none⟩ = some (.func (.func 54) #[] #[.pointer (some ⟨bn, 0, none⟩)])) (hs : w.cell? ⟨bs, 0, none⟩ = some (.int .u64 d)) (hn : w.cell? ⟨bn, 0, none⟩ = some (.bool neg)) :
    Calls Tryd.prog 32 #[.agg #[.int .u64 0, .int .u64 lo], .int .u64 d, .func (.func 42) #[] #[.pointer (some ⟨bp, 0, none⟩), .pointer (some ⟨bs, 0, none⟩)]] w fun e w' => e = .returned (.tuple #[.int .i64 (told (put neg (halfEven lo d * d))).1, .int .i64 (told (put neg (halfEven lo d * d))).2]) ∧ Below w.heap.size w w' := by
  have HN : Hid (∀ w : World, Calls Tryd.prog 52 #[.agg #[.int .u64 0, .int .u64 lo], .int .u64 d] w fun e w' => e = .returned (.tuple #[.int .u64 (halfEven lo d), .int .i64 0]) ∧ Below w.heap.size w w') := by
    intro w
    have h := nearest_any 0 lo d w (Int.le_refl _) hlo hd0 hd1 (fun _ => div64_low lo d hlo (by omega) hd0 (by omega))
    rw [Int.zero_mul, Int.zero_add] at h
    have hq : lo / d ≤ lo := Int.ediv_le_self _ hlo
    rw [show nearN lo d = (halfEven lo d, 0) from by unfold nearN; rw [if_neg (by omega)]] at h
    exact h
  obtain ⟨m0, m1⟩ := halfEven_mul hlo hd0
  have m2 : halfEven lo d * d ≤ 4000000000000000000 := by omega
  clear m1 hd0 hd1 hlo hlo1
  generalize halfEven lo d = q at *
  have lp : bp < w.heap.size + 1 := by omega
  have ls : bs < w.heap.size + 1 := by omega
  have ln : bn < w.heap.size + 1 := by omega
  go_enter Tryd.func32, Tryd.ntmps32
  go_wp2_with (go_at_call 52; refine (HN.out _).mono ?_; rintro e w1 ⟨rfl, hb1⟩)
  have hp1 : w1.cell? ⟨bp, 0, none⟩ = some (.func (.func 54) #[] #[.pointer (some ⟨bn, 0, none⟩)]) := by
    rw [hb1.cell (p := ⟨bp, 0, none⟩) (by simpa using lp), ((Below.refl w.heap.size w).alloc (Nat.le_refl _) _).cell (p := ⟨bp, 0, none⟩) hbp]; exact hp
  have hs1 : w1.cell? ⟨bs, 0, none⟩ = some (.int .u64 d) := by
    rw [hb1.cell (p := ⟨bs, 0, none⟩) (by simpa using ls), ((Below.refl w.heap.size w).alloc (Nat.le_refl _) _).cell (p := ⟨bs, 0, none⟩) hbs]; exact hs
  have hn1 : w1.cell? ⟨bn, 0, none⟩ = some (.bool neg) := by
    rw [hb1.cell (p := ⟨bn, 0, none⟩) (by simpa using ln), ((Below.refl w.heap.size w).alloc (Nat.le_refl _) _).cell (p := ⟨bn, 0, none⟩) hbn]; exact hn
  go_wp2_with (first | (go_at_call 42; refine (round1_any _ _ _ _ _ _ _ m0 m2 hp1 hs1 hn1).mono ?_; rintro e w2 ⟨rfl, rfl⟩) | (go_at_call 30; refine (fitted_any _ _).mono ?_; rintro e w2 ⟨rfl, rfl⟩))
  go_ret2
  exact ⟨rfl, ((Below.refl _ _).alloc (Nat.le_refl _) _).trans (hb1.mono (by simp))⟩

theorem cell_third (W : World) (A B : Obj) (c : Value) (t : TypeId) : (((W.alloc A).alloc B).alloc (.cells #[c] t)).cell? ⟨W.heap.size + 1 + 1, 0, none⟩ = some c := by
  have h := World.cell?_alloc_new ((W.alloc A).alloc B) #[c] t 0
  simpa using h
theorem cell_second (W : World) (A C : Obj) (c : Value) (t : TypeId) : (((W.alloc A).alloc (.cells #[c] t)).alloc C).cell? ⟨W.heap.size + 1, 0, none⟩ = some c := by
  rw [World.cell?_alloc_lt _ _ _ (by simp)]
  simp
theorem cell_first (W : World) (B C : Obj) (c : Value) (t : TypeId) : (((W.alloc (.cells #[c] t)).alloc B).alloc C).cell? ⟨W.heap.size, 0, none⟩ = some c := by
  rw [World.cell?_alloc_lt _ _ _ (by simp; omega), World.cell?_alloc_lt _ _ _ (by simp)]
  simp

/-- Does Round take the places? -/
def plB (p : Int) : Bool := decide (-12 ≤ p) && decide (p ≤ 6)
/-- The number, rounded to places, or why not. -/
def roundR (n p : Int) : Int × Int := if fitsB n && plB p then told (put (decide (n < 0)) (halfEven (absI n) (p10 (6 - p).toNat) * p10 (6 - p).toNat)) else (0, 2)

set_option maxHeartbeats 2000000 in
theorem round_good (n p : Int) (w : World) (hf : fitsB n = true) (c1 : ¬ p < -12) (c2 : ¬ 6 < p) :
    Calls Tryd.prog 22 #[.int .i64 n, .int .i64 p] w fun e w' => e = .returned (.tuple #[.int .i64 (roundR n p).1, .int .i64 (roundR n p).2]) ∧ Below w.heap.size w w' := by
  have hpl : plB p = true := by unfold plB; simp; omega
  have HE : Hid (roundR n p = told (put (decide (n < 0)) (halfEven (absI n) (p10 (6 - p).toNat) * p10 (6 - p).toNat))) := by show roundR n p = _; simp [roundR, hf, hpl]
  obtain ⟨n1, n2⟩ := fitsB_true hf
  have HT := hide (tenTo_any (6 - p).toNat (by omega))
  rw [Int.toNat_of_nonneg (by omega)] at HT
  have d0 := p10_pos (6 - p).toNat
  have d1 := p10_le (k := (6 - p).toNat) (by omega)
  generalize p10 (6 - p).toNat = d at *
  have x0 := absI_nn n
  have x1 := absI_le n1 n2
  have hmf : ∀ (fn : Fn) (first cap : Array Value) (w : World), (Instr.makeFunc fn first cap).run Tryd.prog w = .ok (.func fn first cap) w := fun _ _ _ _ => rfl
  have HQ : Hid (∀ W : World, Calls Tryd.prog 32 #[.agg #[.int .u64 0, .int .u64 (absI n)], .int .u64 d, .func (.func 42) #[] #[.pointer (some ⟨W.heap.size + 1 + 1, 0, none⟩), .pointer (some ⟨W.heap.size + 1, 0, none⟩)]]
      (((W.alloc (.cells #[.bool (decide (n < 0))] 4)).alloc (.cells #[.int .u64 d] 41)).alloc (.cells #[.func (.func 54) #[] #[.pointer (some ⟨W.heap.size, 0, none⟩)]] 46)).drew
      fun e w' => e = .returned (.tuple #[.int .i64 (told (put (decide (n < 0)) (halfEven (absI n) d * d))).1, .int .i64 (told (put (decide (n < 0)) (halfEven (absI n) d * d))).2]) ∧ Below W.heap.size W w') := by
    intro W
    refine (quotStep_any (absI n) d (decide (n < 0)) (W.heap.size + 1 + 1) (W.heap.size + 1) W.heap.size _ x0 x1 d0 d1 (by simp) (by simp) (by simp; omega) (by exact cell_third _ _ _ _ _) (by exact cell_second _ _ _ _ _) (by exact cell_first _ _ _ _ _)).mono ?_
    rintro e w' ⟨rfl, hb⟩
    refine ⟨rfl, ?_⟩
    refine Below.trans ?_ (hb.mono (by simp; omega))
    exact ((((Below.refl _ _).alloc (Nat.le_refl _) _).alloc (by simp) _).alloc (by simp; omega) _).drew
  clear hpl
  go_enter Tryd.func22, Tryd.ntmps22
  go_wp2_with (first | (go_at_call 13; refine (fits_any _ _).mono ?_; rintro e w' ⟨rfl, rfl⟩) | (go_at_call 41; refine (HT.out _).mono ?_; rintro e w' ⟨rfl, rfl⟩) | (go_at_call 35; refine (signed_any _ _).mono ?_; rintro e w2 ⟨rfl, rfl⟩))
  go_region_with (first | (go_at_call 34; refine (size_any _ _ n1 n2).mono ?_; rintro e w3 ⟨rfl, rfl⟩) | (go_at_call 32; refine (HQ.out _).mono ?_; rintro e w4 ⟨rfl, hb4⟩))
  all_goals
    go_wp2
    go_ret2
    exact ⟨by rw [HE.out]; rfl, hb4⟩

set_option maxHeartbeats 400000 in
theorem round_any (n p : Int) (w : World) :
    Calls Tryd.prog 22 #[.int .i64 n, .int .i64 p] w fun e w' => e = .returned (.tuple #[.int .i64 (roundR n p).1, .int .i64 (roundR n p).2]) ∧ Below w.heap.size w w' := by
  cases hf : fitsB n
  · have HE : Hid (roundR n p = (0, 2)) := by show roundR n p = _; simp [roundR, hf]
    go_enter Tryd.func22, Tryd.ntmps22
    go_wp2_with (go_at_call 13; refine (fits_any _ _).mono ?_; rintro e w' ⟨rfl, rfl⟩)
    go_ret2
    exact ⟨by rw [HE.out]; rfl, Below.refl _ _⟩
  · by_cases c1 : p < -12
    · have HE : Hid (roundR n p = (0, 2)) := by show roundR n p = _; simp [roundR, plB]; omega
      go_enter Tryd.func22, Tryd.ntmps22
      go_wp2_with (go_at_call 13; refine (fits_any _ _).mono ?_; rintro e w' ⟨rfl, rfl⟩)
      go_ret2
      exact ⟨by rw [HE.out]; rfl, Below.refl _ _⟩
    · by_cases c2 : 6 < p
      · have HE : Hid (roundR n p = (0, 2)) := by show roundR n p = _; simp [roundR, plB]; omega
        go_enter Tryd.func22, Tryd.ntmps22
        go_wp2_with (go_at_call 13; refine (fits_any _ _).mono ?_; rintro e w' ⟨rfl, rfl⟩)
        go_ret2
        exact ⟨by rw [HE.out]; rfl, Below.refl _ _⟩
      · exact round_good n p w hf c1 c2
end Go.Proofs.YtjhldifilfkebaaDoor
