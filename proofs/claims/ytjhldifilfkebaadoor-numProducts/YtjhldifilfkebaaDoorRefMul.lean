/-
  The contract of the answer's Mul.
-/
import Derived.Test.YtjhldifilfkebaaDoorMulMath
import Derived.Deep.QuietTactic
import Derived.BigQuiet
import Derived.BigRegion
import Derived.Handy
namespace Go.Proofs.YtjhldifilfkebaaDoor
open Go.RowKit

/-- What the rows of digits hold. -/
structure St (B : Nat) (w wr : World) (gp gq gr : Nat) (P Q R : List Int) (c : Int) : Prop where
  p : ∀ j, j < 4 → wr.cell? ⟨gp, j, none⟩ = some (.int .i64 (P.getD j 0))
  q : ∀ j, j < 4 → wr.cell? ⟨gq, j, none⟩ = some (.int .i64 (Q.getD j 0))
  r : ∀ j, j < 8 → wr.cell? ⟨gr, j, none⟩ = some (.int .i64 (R.getD j 0))
  f : ∀ j, j < 8 → wr.frozen? ⟨gr, j, none⟩ = false
  len : R.length = 8
  np : gp ≠ gr
  nq : gq ≠ gr
  b : Below B w wr
  lt : B ≤ gr
  bd : ∀ j, 0 ≤ R.getD j 0 ∧ R.getD j 0 ≤ c

theorem getD_set (l : List Int) (i j : Nat) (x : Int) (h : i < l.length) : (l.set i x).getD j 0 = if i = j then x else l.getD j 0 := by
  by_cases e : i = j
  · subst e; simp [h]
  · simp [e]

theorem St.drew {B : Nat} {w wr : World} {gp gq gr : Nat} {P Q R : List Int} {c : Int} (h : St B w wr gp gq gr P Q R c) : St B w wr.drew gp gq gr P Q R c :=
  ⟨h.p, h.q, h.r, h.f, h.len, h.np, h.nq, h.b.drew, h.lt, h.bd⟩
/-- A store into the row. -/
theorem St.put {B : Nat} {w wr : World} {gp gq gr : Nat} {P Q R : List Int} {c c' : Int} (h : St B w wr gp gq gr P Q R c) (i : Nat) (hi : i < 8) (x : Int) (h0 : 0 ≤ x) (h1 : x ≤ c') (hc : c ≤ c') :
    St B w (wr.setCell ⟨gr, i, none⟩ (.int .i64 x)) gp gq gr P Q (R.set i x) c' := by
  refine ⟨fun j hj => ?_, fun j hj => ?_, fun j hj => ?_, fun j hj => ?_, by rw [List.length_set]; exact h.len, h.np, h.nq, h.b.setCell h.lt _, h.lt, fun j => ?_⟩
  · rw [World.cell?_setCell_other _ _ _ _ (by simp; intro e; exact absurd e.symm h.np)]; exact h.p j hj
  · rw [World.cell?_setCell_other _ _ _ _ (by simp; intro e; exact absurd e.symm h.nq)]; exact h.q j hj
  · rw [getD_set _ _ _ _ (by rw [h.len]; exact hi)]
    by_cases e : i = j
    · subst e; rw [if_pos rfl]; exact World.cell?_setCell_same _ _ _ (h.r i hi)
    · rw [if_neg e, World.cell?_setCell_other _ _ _ _ (by intro e2; exact e (Addr.mk.inj e2).2.1)]; exact h.r j hj
  · rw [World.frozen?_setCell]; exact h.f j hj
  · rw [getD_set _ _ _ _ (by rw [h.len]; exact hi)]
    have := h.bd j
    split <;> omega

theorem own_cells {w' : World} {base : Nat} {v : Value} {xs : List Value} (h : w'.ownsRow base 3 1 v 4 xs) : ∃ g cap, v = .slice (some ⟨g, 0, none⟩) 4 cap ∧ base ≤ g ∧ g < w'.heap.size ∧ 4 ≤ cap ∧ ∀ j, j < 4 → w'.cell? ⟨g, j, none⟩ = xs[j]? := by
  have h' := h
  obtain ⟨_, h | ⟨g, cap, cur, rfl, hb, hh, hc, _, _, _⟩⟩ := h
  · exact absurd h.2 (by decide)
  · refine ⟨g, cap, rfl, hb, ?_, hc, fun j hj => h'.cellAt j (by omega)⟩
    rcases Nat.lt_or_ge g w'.heap.size with h2 | h2
    · exact h2
    · rw [Array.getElem?_eq_none h2] at hh; cases hh

theorem map_at (l : List Int) (j : Nat) (h : j < l.length) : (l.map (Value.int .i64))[j]? = some (.int .i64 (l.getD j 0)) := by
  rw [List.getElem?_map, List.getElem?_eq_getElem h]
  simp [h]

theorem made8 : (madeCells (Value.int .i64 0).cells (8 * 1)).toList = [.int .i64 0, .int .i64 0, .int .i64 0, .int .i64 0, .int .i64 0, .int .i64 0, .int .i64 0, .int .i64 0] := by kernel_rfl
theorem st_start {w W1 W2 W3 : World} {A C : Int} {gp gq : Nat} (B1 : Below w.heap.size w W1) (B2 : Below W1.heap.size W1 W2)
    (lp' : gp < W1.heap.size) (lq' : gq < W2.heap.size)
    (cp : ∀ j, j < 4 → W1.cell? ⟨gp, j, none⟩ = ((lim A 4).map (Value.int .i64))[j]?) (cq : ∀ j, j < 4 → W2.cell? ⟨gq, j, none⟩ = ((lim C 4).map (Value.int .i64))[j]?)
    (own : W3.ownsRow W2.heap.size 3 1 (.slice (some ⟨W2.heap.size, 0, none⟩) 8 8) 8 (madeCells (Value.int .i64 0).cells (8 * 1)).toList) (gr : W2.grownBy W3 none) :
    St w.heap.size w W3 gp gq W2.heap.size (lim A 4) (lim C 4) (outerR (lim A 4) (lim C 4) 0) 0 := by
  have s1 := B1.size
  have s2 := B2.size
  have up : ∀ (g j : Nat), g < W2.heap.size → W3.cell? ⟨g, j, none⟩ = W2.cell? ⟨g, j, none⟩ := fun g j hg => World.cell?_of_block (a := ⟨g, j, none⟩) (gr.block g hg (by simp))
  refine ⟨fun j hj => ?_, fun j hj => ?_, fun j hj => ?_, fun j hj => ?_, rfl, by omega, by omega, ?_, by omega, fun j => ?_⟩
  · rw [up gp j (by omega), B2.cell (p := ⟨gp, j, none⟩) lp', cp j hj]
    exact map_at _ _ (by rw [lim_len]; exact hj)
  · rw [up gq j lq', cq j hj]
    exact map_at _ _ (by rw [lim_len]; exact hj)
  · rw [own.cellAt j (by omega), made8]
    match j, hj with
    | 0, _ => rfl
    | 1, _ => rfl
    | 2, _ => rfl
    | 3, _ => rfl
    | 4, _ => rfl
    | 5, _ => rfl
    | 6, _ => rfl
    | 7, _ => rfl
  · exact own.frozenAt j
  · exact (B1.trans (B2.mono s1)).trans ⟨gr.os, gr.tape, gr.output, gr.size, fun k hk => gr.block k (by omega) (by simp)⟩
  · show 0 ≤ ([0, 0, 0, 0, 0, 0, 0, 0] : List Int).getD j 0 ∧ ([0, 0, 0, 0, 0, 0, 0, 0] : List Int).getD j 0 ≤ 0
    match j with
    | 0 => decide
    | 1 => decide
    | 2 => decide
    | 3 => decide
    | 4 => decide
    | 5 => decide
    | 6 => decide
    | 7 => decide
    | j + 8 => simp

theorem lim_at {n : Int} (j : Nat) : 0 ≤ (lim n 4).getD j 0 ∧ (lim n 4).getD j 0 < 1000000 := by
  by_cases h : j < 4
  · unfold lim
    rw [List.getD_eq_getElem?_getD, List.getElem?_map, List.getElem?_range h]
    simp; omega
  · rw [List.getD_eq_getElem?_getD, List.getElem?_eq_none (by rw [lim_len]; omega)]; simp

theorem mulR_good {a b : Int} (ha : fitsB a = true) (hb : fitsB b = true) : mulR a b = if 1000000000000000000 < halfEven (absI a * absI b) 1000000 then (0, 3) else (put (decide (a < 0) != decide (b < 0)) (halfEven (absI a * absI b) 1000000), 0) := by
  rw [← quoR_eq _ (Int.mul_nonneg (absI_nn a) (absI_nn b)) (by decide)]; simp [mulR, ha, hb]
theorem half_ge {N d : Int} : N / d ≤ halfEven N d := by unfold halfEven; split <;> omega

theorem prod_bd {x y : Int} (h0 : 0 ≤ x) (h1 : x < 1000000) (k0 : 0 ≤ y) (k1 : y < 1000000) : 0 ≤ x * y ∧ x * y ≤ 1000000000000 := by
  refine ⟨Int.mul_nonneg h0 k0, ?_⟩
  have : x * y ≤ 1000000 * 1000000 := Int.mul_le_mul (by omega) (by omega) k0 (by omega)
  omega

set_option maxHeartbeats 4000000 in
set_option maxRecDepth 100000 in
theorem rmul_good (a b : Int) (w : World) (ha : fitsB a = true) (hb : fitsB b = true) :
    Calls Tryd.prog 17 #[.int .i64 a, .int .i64 b] w fun e w' => e = .returned (.tuple #[.int .i64 (mulR a b).1, .int .i64 (mulR a b).2]) ∧ Below w.heap.size w w' := by
  obtain ⟨a1, a2⟩ := fitsB_true ha
  obtain ⟨b1, b2⟩ := fitsB_true hb
  have x0 := absI_nn a
  have x1 := absI_le a1 a2
  have y0 := absI_nn b
  have y1 := absI_le b1 b2
  have HLa := hide (fun W : World => limbs_any (absI a) W x0 x1)
  have HLb := hide (fun W : World => limbs_any (absI b) W y0 y1)
  have HZa := hide (fun W : World => rsize_any a W a1 a2)
  have HZb := hide (fun W : World => rsize_any b W b1 b2)
  go_enter Tryd.func17, Tryd.ntmps17
  go_wp2_with (first | (go_at_call 14; refine (rfits_any _ _).mono ?_; rintro e w' ⟨rfl, rfl⟩) | (go_at_call 37; refine (HZa.out _).mono ?_; rintro e w' ⟨rfl, rfl⟩))
  refine (HLa.out _).mono ?_
  rintro e W1 ⟨v1, rfl, own1, B1⟩
  obtain ⟨gp, cp, rfl, lp, lp', hcp, cellp⟩ := own_cells own1
  clear own1
  go_wp2_with (go_at_call 37; refine (HZb.out _).mono ?_; rintro e W1 ⟨rfl, rfl⟩)
  refine (HLb.out _).mono ?_
  rintro e W2 ⟨v2, rfl, own2, B2⟩
  obtain ⟨gq, cq, rfl, lq, lq', hcq, cellq⟩ := own_cells own2
  clear own2
  obtain ⟨i0, hi, hz0, hz1, hz2⟩ := info_parts infoInt
  have CP := hide cellp
  have CQ := hide cellq
  clear cellp cellq
  go_wp2_with (at_make; refine wpList_make_full _ rfl _ _ 48 rfl W2.heap.size 3 i0 (.int .i64 0) 1 Tryd.underlying48 hi hz0 hz1 .i64 .i64 8 8 8 rfl rfl rfl rfl (by rw [hz2]; decide) (by decide) (Nat.le_refl _) ?_; intro W3 own3 gr3)
  have hst := st_start B1 B2 lp' lq' CP.out CQ.out own3 gr3
  clear own3 gr3 CP CQ B1 B2 lp lp' lq lq' hi hz0 hz1 hz2
  generalize W2.heap.size = gr at *
  go_wp2_with fail
  go_loopw [9] (fun i wr => ∃ n : Nat, n ≤ 4 ∧ i = .int .i64 n ∧ St w'.heap.size w' wr gp gq gr (lim (absI a) 4) (lim (absI b) 4) (outerR (lim (absI a) 4) (lim (absI b) 4) n) (4000000000000 * n)) (fun i _ => 4 - (intOf i).toNat)
  case atStart => exact ⟨0, by omega, rfl, hst⟩
  case round =>
    obtain ⟨n, hn, rfl, hst1⟩ := hrel
    clear hst
    by_cases hlt : n < 4
    · obtain ⟨wo, rfl⟩ : ∃ wo : World, wo = wr := ⟨_, rfl⟩
      go_wp2_with fail
      go_loopw [10] (fun k wr => ∃ m : Nat, m ≤ 4 ∧ k = .int .i64 m ∧ St w'.heap.size w' wr gp gq gr (lim (absI a) 4) (lim (absI b) 4) (innerR (lim (absI a) 4) (lim (absI b) 4) n m (outerR (lim (absI a) 4) (lim (absI b) 4) n)) (4000000000000 * n + 1000000000000 * m)) (fun k _ => 4 - (intOf k).toNat)
      case atStart => exact ⟨0, by omega, rfl, by simpa [innerR] using hst1⟩
      case round =>
        obtain ⟨m, hm, rfl, hst2⟩ := hrel
        clear hst1
        by_cases hlt2 : m < 4
        · have cr := hst2.r (n + m) (by omega)
          have cp' := hst2.p n hlt
          have cq' := hst2.q m hlt2
          have cf := hst2.f (n + m) (by omega)
          obtain ⟨r0, r1⟩ := hst2.bd (n + m)
          obtain ⟨p0, p1⟩ := lim_at (n := absI a) n
          obtain ⟨q0, q1⟩ := lim_at (n := absI b) m
          obtain ⟨z0, z1⟩ := prod_bd p0 p1 q0 q1
          have hst3 := hide (hst2.put (n + m) (by omega) ((innerR (lim (absI a) 4) (lim (absI b) 4) n m (outerR (lim (absI a) 4) (lim (absI b) 4) n)).getD (n + m) 0 + (lim (absI a) 4).getD n 0 * (lim (absI b) 4).getD m 0) (by omega) (c' := 4000000000000 * n + 1000000000000 * (m + 1 : Nat)) (by omega) (by omega)).drew
          have hst4 : Hid (St w'.heap.size w' (wr.setCell ⟨gr, n + m, none⟩ (.int .i64 ((innerR (lim (absI a) 4) (lim (absI b) 4) n m (outerR (lim (absI a) 4) (lim (absI b) 4) n)).getD (n + m) 0 + (lim (absI a) 4).getD n 0 * (lim (absI b) 4).getD m 0))).drew gp gq gr (lim (absI a) 4) (lim (absI b) 4) (innerR (lim (absI a) 4) (lim (absI b) 4) n (m + 1) (outerR (lim (absI a) 4) (lim (absI b) 4) n)) (4000000000000 * n + 1000000000000 * (m + 1 : Nat))) := hst3.out
          clear hst3 hst2
          generalize (innerR (lim (absI a) 4) (lim (absI b) 4) n m (outerR (lim (absI a) 4) (lim (absI b) 4) n)).getD (n + m) 0 = x at *
          generalize (lim (absI a) 4).getD n 0 = y at *
          generalize (lim (absI b) 4).getD m 0 = z at *
          have i1 : (n : Int) + (m : Int) < 8 := by omega
          have i2 : (n : Int) < 4 := by omega
          have i3 : (m : Int) < 4 := by omega
          go_wp2_with fail
          go_region
          clear cr cp' cq' cf
          go_wp2
          go_roundw
          case rel => exact ⟨m + 1, by omega, by go_num, hst4.out⟩
          case measure => simp [intOf]; omega
        · have : m = 4 := by omega
          subst this
          have hst5 : Hid (St w'.heap.size w' wr gp gq gr (lim (absI a) 4) (lim (absI b) 4) (outerR (lim (absI a) 4) (lim (absI b) 4) (n + 1)) (4000000000000 * (n + 1 : Nat))) := by
            have e : 4000000000000 * (n : Int) + 1000000000000 * ((4 : Nat) : Int) = 4000000000000 * ((n + 1 : Nat) : Int) := by omega
            rw [e] at hst2
            exact hst2
          clear hst2
          go_wp2
          go_roundw
          case rel => exact ⟨n + 1, by omega, by go_num, hst5.out⟩
          case measure => simp [intOf]; omega
    · have : n = 4 := by omega
      subst this
      have hst6 : St w'.heap.size w' wr gp gq gr (lim (absI a) 4) (lim (absI b) 4) (carryR (outerR (lim (absI a) 4) (lim (absI b) 4) 4) 0) (16000000000000 + 1000000000 * (0 : Nat)) := hst1
      clear hst1
      obtain ⟨wo, rfl⟩ : ∃ wo : World, wo = wr := ⟨_, rfl⟩
      go_wp2_with fail
      go_loopw [11] (fun i wr => ∃ n : Nat, n ≤ 7 ∧ i = .int .i64 n ∧ St w'.heap.size w' wr gp gq gr (lim (absI a) 4) (lim (absI b) 4) (carryR (outerR (lim (absI a) 4) (lim (absI b) 4) 4) n) (16000000000000 + 1000000000 * n)) (fun i _ => 7 - (intOf i).toNat)
      case atStart => exact ⟨0, by omega, rfl, hst6⟩
      case round =>
        obtain ⟨k, hk, rfl, hst7⟩ := hrel
        clear hst6
        by_cases hlt3 : k < 7
        · have cr := hst7.r k (by omega)
          have cr1 := hst7.r (k + 1) (by omega)
          have cf := hst7.f k (by omega)
          have cf1 := hst7.f (k + 1) (by omega)
          obtain ⟨r0, r1⟩ := hst7.bd k
          obtain ⟨s0, s1⟩ := hst7.bd (k + 1)
          have P1 := hst7.put (k + 1) (by omega) ((carryR (outerR (lim (absI a) 4) (lim (absI b) 4) 4) k).getD (k + 1) 0 + (carryR (outerR (lim (absI a) 4) (lim (absI b) 4) 4) k).getD k 0 / 1000000) (by omega) (c' := 16000000000000 + 1000000000 * (k + 1 : Nat)) (by omega) (by omega)
          have P2 := P1.put k (by omega) ((carryR (outerR (lim (absI a) 4) (lim (absI b) 4) 4) k).getD k 0 % 1000000) (by omega) (c' := 16000000000000 + 1000000000 * (k + 1 : Nat)) (by omega) (by omega)
          have hst8 : Hid (St w'.heap.size w' _ gp gq gr (lim (absI a) 4) (lim (absI b) 4) (carryR (outerR (lim (absI a) 4) (lim (absI b) 4) 4) (k + 1)) (16000000000000 + 1000000000 * (k + 1 : Nat))) := P2.drew
          have cr2 := P1.r k (by omega)
          have cf2 := P1.f k (by omega)
          rw [getD_set _ _ _ _ (by rw [hst7.len]; omega), if_neg (by omega)] at cr2
          clear P1 P2 hst7
          generalize (carryR (outerR (lim (absI a) 4) (lim (absI b) 4) 4) k).getD k 0 = x at *
          generalize (carryR (outerR (lim (absI a) 4) (lim (absI b) 4) 4) k).getD (k + 1) 0 = y at *
          have i1 : (k : Int) + 1 < 8 := by omega
          go_wp2_with fail
          go_region
          go_wp2
          go_roundw
          case rel => exact ⟨k + 1, by omega, by go_num, hst8.out⟩
          case measure => simp [intOf]; omega
        · have : k = 7 := by omega
          subst this
          have HE := hide (mulR_good ha hb)
          obtain ⟨r0, r1, r2, r3, r4, r5, r6, r7, eR, p0, q0, p1, q1, p2, q2, p3, q3, p4, q4, p5, q5, p6, q6, p7, eN⟩ := mul_digits (absI a) (absI b) x0 x1 y0 y1
          rw [eR] at hst7
          have c0 : wr.cell? ⟨gr, 0, none⟩ = some (.int .i64 r0) := hst7.r 0 (by omega)
          have c1 : wr.cell? ⟨gr, 1, none⟩ = some (.int .i64 r1) := hst7.r 1 (by omega)
          have c2 : wr.cell? ⟨gr, 2, none⟩ = some (.int .i64 r2) := hst7.r 2 (by omega)
          have c3 : wr.cell? ⟨gr, 3, none⟩ = some (.int .i64 r3) := hst7.r 3 (by omega)
          have c4 : wr.cell? ⟨gr, 4, none⟩ = some (.int .i64 r4) := hst7.r 4 (by omega)
          have c5 : wr.cell? ⟨gr, 5, none⟩ = some (.int .i64 r5) := hst7.r 5 (by omega)
          have c6 : wr.cell? ⟨gr, 6, none⟩ = some (.int .i64 r6) := hst7.r 6 (by omega)
          have c7 : wr.cell? ⟨gr, 7, none⟩ = some (.int .i64 r7) := hst7.r 7 (by omega)
          have q7 : r7 ≤ 16000000000000 + 1000000000 * ((7 : Nat) : Int) := (hst7.bd 7).2
          have FB := hst7.b
          clear hst7 eR HLa HLb HZa HZb ha hb x0 x1 y0 y1
          generalize absI a * absI b = N at *
          by_cases k5 : 0 < r5 + r6 + r7
          · have hg : 1000000000000000000 < halfEven N 1000000 := by
              have := half_ge (N := N) (d := 1000000); omega
            rw [if_pos hg] at HE
            clear eN hg
            go_wp2_with fail
            go_quiet (fail)
            go_wp2
            go_ret2
            exact ⟨by rw [HE.out]; rfl, below_drewN FB _⟩
          · have t5 : decide (0 < r5 + r6 + r7) = false := by simp [k5]
            by_cases k4 : 1 < r4
            · have hg : 1000000000000000000 < halfEven N 1000000 := by
                have := half_ge (N := N) (d := 1000000); omega
              rw [if_pos hg] at HE
              clear eN hg
              go_wp2_with fail
              go_quiet (fail)
              go_wp2
              go_ret2
              exact ⟨by rw [HE.out]; rfl, below_drewN FB _⟩
            · have e1 : N / 1000000 = r1 + 1000000 * (r2 + 1000000 * (r3 + 1000000 * r4)) := by omega
              have e2 : N % 1000000 = r0 := by omega
              have HV : Hid (∀ W : World, Calls Tryd.prog 38 #[.int .i64 (r1 + 1000000 * (r2 + 1000000 * (r3 + 1000000 * r4))), .int .i64 r0, .int .i64 1000000] W fun e w' => e = .returned (.int .i64 (halfEven N 1000000)) ∧ w' = W) := fun W => by
                have h := even_any (r1 + 1000000 * (r2 + 1000000 * (r3 + 1000000 * r4))) r0 1000000 W (by omega) (by omega) (by omega) (by omega) (by decide)
                rw [show evenR (r1 + 1000000 * (r2 + 1000000 * (r3 + 1000000 * r4))) r0 1000000 = halfEven N 1000000 from by rw [← e1, ← e2]; rfl] at h
                exact h
              have h1 : 0 ≤ halfEven N 1000000 := halfEven_nn (by omega) (by decide)
              have h2 : halfEven N 1000000 ≤ 4000000000000000000 := by unfold halfEven; split <;> omega
              generalize halfEven N 1000000 = E at *
              clear e1 e2 eN
              go_wp2_with fail
              go_quiet (fail)
              have FB2 : Below w'.heap.size w' (wr.drewN nq) := below_drewN FB _
              have d0 : (wr.drewN nq).cell? ⟨gr, 0, none⟩ = some (.int .i64 r0) := c0
              have d1 : (wr.drewN nq).cell? ⟨gr, 1, none⟩ = some (.int .i64 r1) := c1
              have d2 : (wr.drewN nq).cell? ⟨gr, 2, none⟩ = some (.int .i64 r2) := c2
              have d3 : (wr.drewN nq).cell? ⟨gr, 3, none⟩ = some (.int .i64 r3) := c3
              have d4 : (wr.drewN nq).cell? ⟨gr, 4, none⟩ = some (.int .i64 r4) := c4
              clear c0 c1 c2 c3 c4 c5 c6 c7 FB
              generalize wr.drewN nq = wx at *
              go_wp2_with fail
              go_quiet ((go_at_call 38; exact Calls.quiet_of_same (HV.out _)))
              by_cases hbig : 1000000000000000000 < E
              · rw [if_pos hbig] at HE
                go_wp2
                go_ret2
                exact ⟨by rw [HE.out]; rfl, below_drewN FB2 _⟩
              · rw [if_neg hbig] at HE
                by_cases sa : a < 0
                · by_cases sb : b < 0
                  · have e : put (decide (a < 0) != decide (b < 0)) E = E := by simp [put, sa, sb]
                    rw [e] at HE
                    clear e
                    have ta : decide (a < 0) = true := by simp [sa]
                    have tb : decide (b < 0) = true := by simp [sb]
                    go_wp2
                    go_ret2
                    exact ⟨by rw [HE.out]; rfl, below_drewN FB2 _⟩
                  · have e : put (decide (a < 0) != decide (b < 0)) E = -E := by simp [put, sa, sb]
                    rw [e] at HE
                    clear e
                    have ta : decide (a < 0) = true := by simp [sa]
                    have tb : decide (b < 0) = false := by simp [sb]
                    go_wp2
                    go_ret2
                    exact ⟨by rw [HE.out]; rfl, below_drewN FB2 _⟩
                · by_cases sb : b < 0
                  · have e : put (decide (a < 0) != decide (b < 0)) E = -E := by simp [put, sa, sb]
                    rw [e] at HE
                    clear e
                    have ta : decide (a < 0) = false := by simp [sa]
                    have tb : decide (b < 0) = true := by simp [sb]
                    go_wp2
                    go_ret2
                    exact ⟨by rw [HE.out]; rfl, below_drewN FB2 _⟩
                  · have e : put (decide (a < 0) != decide (b < 0)) E = E := by simp [put, sa, sb]
                    rw [e] at HE
                    clear e
                    have ta : decide (a < 0) = false := by simp [sa]
                    have tb : decide (b < 0) = false := by simp [sb]
                    go_wp2
                    go_ret2
                    exact ⟨by rw [HE.out]; rfl, below_drewN FB2 _⟩
end Go.Proofs.YtjhldifilfkebaaDoor
