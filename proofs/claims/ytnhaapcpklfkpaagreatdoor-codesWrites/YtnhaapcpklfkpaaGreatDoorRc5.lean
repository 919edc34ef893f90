/-
  The answer's Kind.
-/
import Derived.Test.YtnhaapcpklfkpaaGreatDoorRc4
import Derived.Test.YtnhaapcpklfkpaaGreatDoorCd5b
namespace Go.Proofs.YtnhaapcpklfkpaaGreatDoor
open Go.RowKit
set_option linter.unusedSimpArgs false

/-- How many pieces of each kind (the answer's numbers) are counted in a block. -/
def N5 (w : World) (b : Nat) (l : List Pc) : Prop := ∀ j, j < 5 → w.cell? ⟨b, j, none⟩ = some (.int .i64 (cntK l j)) ∧ w.frozen? ⟨b, j, none⟩ = false
theorem rcnt_snoc (l : List Pc) (q : Pc) (j : Nat) : cntK (l ++ [q]) j = cntK l j + (if q.k = j then 1 else 0) := by
  unfold cntK
  rw [List.filter_append, List.length_append]
  by_cases h : q.k = j
  · simp [h]
  · simp [h]
theorem N5.step {w : World} {b : Nat} {l : List Pc} {q : Pc} (h : N5 w b l) (hq : q.k < 5) : N5 (w.setCell ⟨b, q.k, none⟩ (.int .i64 ((cntK l q.k : Int) + 1))) b (l ++ [q]) := by
  intro j hj
  rw [rcnt_snoc]
  refine ⟨?_, by rw [World.frozen?_setCell]; exact (h j hj).2⟩
  by_cases e : q.k = j
  · subst e
    rw [World.cell?_setCell_same _ _ _ (h _ hq).1, if_pos rfl]; rfl
  · rw [World.cell?_setCell_other _ _ _ _ (fun x => e (by have := congrArg Addr.off x; simpa using this)), if_neg e]
    exact (h j hj).1
/-- The kinds' scan over 1 .. 3. -/
def kSt (c : Nat → Nat) : Nat → Nat × Nat
  | 0 => (0, 0)
  | k + 1 => if 0 < c (k + 1) then (k + 1, (kSt c k).2 + 1) else kSt c k
def rKind (qs : List Pc) : Int :=
  if 1 < (kSt (cntK qs) 3).2 ∨ 1 < cntK qs 1 ∨ 2 < cntK qs 4 ∨ (0 < cntK qs 4 ∧ (kSt (cntK qs) 3).1 ≠ 1) then -1 else ((kSt (cntK qs) 3).1 : Int)
theorem kSt_le (c : Nat → Nat) : ∀ k, (kSt c k).1 ≤ k ∧ (kSt c k).2 ≤ k
  | 0 => ⟨Nat.le_refl _, Nat.le_refl _⟩
  | k + 1 => by
    have := kSt_le c k
    unfold kSt
    split
    · exact ⟨Nat.le_refl _, Nat.succ_le_succ this.2⟩
    · exact ⟨by omega, by omega⟩
set_option maxRecDepth 100000 in
set_option maxHeartbeats 4000000 in
theorem rKind_any (u : Value) (qs : List Pc) (w : World) (hp : PcsAt w u qs) (hk : ∀ q ∈ qs, q.k < 5) (hl : qs.length ≤ 1000) :
    Calls Tryz.prog 14 #[u] w fun e w' => e = .returned (.int .i64 (rKind qs)) ∧ Below w.heap.size w w' := by
  obtain ⟨p, cap, rfl, hp⟩ := hp
  obtain ⟨R, hR⟩ : ∃ R, rKind qs = R := ⟨_, rfl⟩
  rw [hR]
  have HR := hide hR
  have HP := hide hp
  have HK := hide hk
  clear hR hp hk
  have hti : (qs.length : Int) ≤ 1000 := by omega
  go_enter Tryz.func14, Tryz.ntmps14
  go_wp2
  go_loopw [4] (fun iv wr => ∃ i : Nat, i ≤ qs.length ∧ iv = .int .i64 i ∧ Hid (N5 wr w.heap.size (qs.take i)) ∧ Hid (w.heap.size < wr.heap.size ∧ Below w.heap.size w wr)) (fun iv _ => qs.length - (intOf iv).toNat)
  case atStart =>
    refine ⟨0, Nat.zero_le _, rfl, ?_, ?_, by repeat' (first | with_reducible exact Below.refl _ _ | with_reducible refine Below.setCell ?_ ?_ _ | with_reducible refine Below.alloc ?_ ?_ _ | with_reducible refine below_drewN ?_ _ | with_reducible refine Below.drew ?_ | with_reducible refine Below.trans ?_ (Below.mono (by assumption) ?_) | with_reducible exact Nat.le_refl _ | with_reducible refine Nat.le_trans ?_ (Below.size (by assumption)) | with_reducible refine Nat.le_trans ?_ (size_alloc _ _) | with_reducible refine Nat.le_trans ?_ (size_set _ _ _) | with_reducible refine Nat.le_trans ?_ (size_drewN _ _) | with_reducible refine Nat.le_trans ?_ (size_drew _) | (simp; done) | (simp; omega) | omega)⟩
    · intro j hj
      have : j = 0 ∨ j = 1 ∨ j = 2 ∨ j = 3 ∨ j = 4 := by omega
      rcases this with rfl | rfl | rfl | rfl | rfl <;> simp [go_sem, cntK]
    · simp
  case round =>
    obtain ⟨i, hi, rfl, HN, HB⟩ := hrel
    by_cases hlt : i < qs.length
    · have gi : (i : Int) < (qs.length : Int) := by omega
      obtain ⟨gp, rfl, hgp, hcs⟩ := HP.out.resolve_left (by rintro rfl; simp at hlt)
      have hq := List.getElem?_eq_getElem hlt
      have hm : qs[i].k < 5 := HK.out _ (List.getElem_mem hlt)
      have hcell := (HB.out.2.cell (p := ⟨gp, i * 2, none⟩) hgp).trans (hcs i _ hq).1
      have hcell2 := (HB.out.2.cell (p := ⟨gp, i * 2 + 1, none⟩) hgp).trans (hcs i _ hq).2
      have hne : gp ≠ w.heap.size := by omega
      obtain ⟨hcnt, hfz⟩ := HN.out _ hm
      have hle : (cntK (qs.take i) qs[i].k : Int) ≤ 1000 := by have := cnt_le (qs.take i) qs[i].k; rw [List.length_take] at this; omega
      have wrc : IntKind.i64.wrap ((cntK (qs.take i) qs[i].k : Int) + 1) = (cntK (qs.take i) qs[i].k : Int) + 1 := by rw [IntKind.wrap_i64]; omega
      have HN2 : Hid (N5 (wr.setCell ⟨w.heap.size, qs[i].k, none⟩ (.int .i64 ((cntK (qs.take i) qs[i].k : Int) + 1))) w.heap.size (qs.take (i + 1))) := by
        rw [List.take_succ_eq_append_getElem hlt]; exact N5.step HN.out hm
      have HB2 : Hid (w.heap.size < (wr.setCell ⟨w.heap.size, qs[i].k, none⟩ (.int .i64 ((cntK (qs.take i) qs[i].k : Int) + 1))).heap.size ∧ Below w.heap.size w (wr.setCell ⟨w.heap.size, qs[i].k, none⟩ (.int .i64 ((cntK (qs.take i) qs[i].k : Int) + 1)))) := by
        obtain ⟨z1, z2⟩ := HB.out
        exact ⟨Nat.lt_of_lt_of_le z1 (Below.size (Below.setCell (Below.refl 0 wr) (Nat.zero_le _) _)), by repeat' (first | with_reducible exact Below.refl _ _ | with_reducible refine Below.setCell ?_ ?_ _ | with_reducible refine Below.alloc ?_ ?_ _ | with_reducible refine below_drewN ?_ _ | with_reducible refine Below.drew ?_ | with_reducible refine Below.trans ?_ (Below.mono (by assumption) ?_) | with_reducible exact Nat.le_refl _ | with_reducible refine Nat.le_trans ?_ (Below.size (by assumption)) | with_reducible refine Nat.le_trans ?_ (size_alloc _ _) | with_reducible refine Nat.le_trans ?_ (size_set _ _ _) | with_reducible refine Nat.le_trans ?_ (size_drewN _ _) | with_reducible refine Nat.le_trans ?_ (size_drew _) | (simp; done) | (simp; omega) | omega)⟩
      clear hcs hq HR HK HN HB HP
      obtain ⟨C, hC⟩ : ∃ C, cntK (qs.take i) qs[i].k = C := ⟨_, rfl⟩
      rw [hC] at hcnt hle wrc HN2 HB2
      obtain ⟨K, hK⟩ : ∃ K, qs[i].k = K := ⟨_, rfl⟩
      rw [hK] at hm hcell hcnt hfz HN2 HB2
      clear hC hK
      have hmi : (K : Int) < 5 := by omega
      go_wp2
      go_roundw
      case rel => exact ⟨i + 1, hlt, by go_num, HN2, HB2⟩
      case measure => simp [intOf] <;> omega
    · have gi : ¬ (i : Int) < (qs.length : Int) := by omega
      have e : qs.take i = qs := List.take_of_length_le (by omega)
      rw [e] at HN
      have n1 := (HN.out 1 (by omega)).1
      have n2 := (HN.out 2 (by omega)).1
      have n3 := (HN.out 3 (by omega)).1
      have n4 := (HN.out 4 (by omega)).1
      have l1 := cnt_le qs 1
      have l4 := cnt_le qs 4
      have hr : R = if 1 < (kSt (cntK qs) 3).2 ∨ 1 < cntK qs 1 ∨ 2 < cntK qs 4 ∨ (0 < cntK qs 4 ∧ (kSt (cntK qs) 3).1 ≠ 1) then -1 else ((kSt (cntK qs) 3).1 : Int) := by rw [← HR.out]; rfl
      have HF := hide hr
      clear hr HR HK HP HN e hi hlt
      obtain ⟨wo, hwo⟩ : ∃ wo : World, wo = wr := ⟨wr, rfl⟩
      subst hwo
      go_wp2
      go_loopw [5, 6, 7] (fun kv nv iv wx => ∃ k : Nat, k ≤ 3 ∧ kv = .int .i64 ((kSt (cntK qs) k).1 : Int) ∧ nv = .int .i64 ((kSt (cntK qs) k).2 : Int) ∧ iv = .int .i64 ((k : Int) + 1) ∧ wx = wo) (fun _ _ iv _ => 4 - (intOf iv).toNat)
      case atStart => exact ⟨0, by omega, rfl, rfl, rfl, rfl⟩
      case round =>
        obtain ⟨k, hk3, rfl, rfl, rfl, rfl⟩ := hrel
        by_cases hkk : k < 3
        · have gk : (k : Int) + 1 ≤ 3 := by omega
          have nk : wr.cell? ⟨w.heap.size, k + 1, none⟩ = some (.int .i64 (cntK qs (k + 1))) := by
            have : k = 0 ∨ k = 1 ∨ k = 2 := by omega
            rcases this with rfl | rfl | rfl <;> assumption
          have gk2 : (k : Int) + 1 < 5 := by omega
          have gk0 : (0 : Int) ≤ (k : Int) + 1 := by omega
          have tk : ((k : Int) + 1).toNat = k + 1 := by omega
          obtain ⟨_, b2⟩ := kSt_le (cntK qs) k
          have wk : IntKind.i64.wrap (((kSt (cntK qs) k).2 : Int) + 1) = ((kSt (cntK qs) k).2 : Int) + 1 := by rw [IntKind.wrap_i64]; omega
          have wk2 : IntKind.i64.wrap ((k : Int) + 1 + 1) = (k : Int) + 1 + 1 := by rw [IntKind.wrap_i64]; omega
          by_cases hc : 0 < cntK qs (k + 1)
          · have hci : (0 : Int) < (cntK qs (k + 1) : Int) := by omega
            have e1 : kSt (cntK qs) (k + 1) = (k + 1, (kSt (cntK qs) k).2 + 1) := by rw [kSt, if_pos hc]
            go_wp2
            go_roundw
            case rel => exact ⟨k + 1, by omega, by rw [e1]; rfl, by rw [e1]; rfl, by go_num, trivial⟩
            case measure => simp [intOf] <;> omega
          · have hci : ¬ (0 : Int) < (cntK qs (k + 1) : Int) := by omega
            have e1 : kSt (cntK qs) (k + 1) = kSt (cntK qs) k := by rw [kSt, if_neg hc]
            go_wp2
            go_roundw
            case rel => exact ⟨k + 1, by omega, by rw [e1], by rw [e1], by go_num, trivial⟩
            case measure => simp [intOf] <;> omega
        · obtain rfl : k = 3 := by omega
          clear hkk hk3
          obtain ⟨S1, hS1⟩ : ∃ S1, (kSt (cntK qs) 3).1 = S1 := ⟨_, rfl⟩
          obtain ⟨S2, hS2⟩ : ∃ S2, (kSt (cntK qs) 3).2 = S2 := ⟨_, rfl⟩
          rw [hS1, hS2] at HF ⊢
          clear hS1 hS2
          obtain ⟨C1, hC1⟩ : ∃ C1, cntK qs 1 = C1 := ⟨_, rfl⟩
          obtain ⟨C4, hC4⟩ : ∃ C4, cntK qs 4 = C4 := ⟨_, rfl⟩
          rw [hC1] at HF n1 l1
          rw [hC4] at HF n4 l4
          clear hC1 hC4 n2 n3
          have HBx := hide HB.out.2
          by_cases a1 : 1 < S2
          · have i1 : (1 : Int) < (S2 : Int) := by omega
            have HG : Hid (R = -1) := by show _ = _; rw [HF.out, if_pos (.inl a1)]
            clear HF
            go_wp2
            go_ret
            rw [HG.out]
            exact ⟨rfl, HBx.out⟩
          have i1 : ¬ (1 : Int) < (S2 : Int) := by omega
          by_cases a2 : 1 < C1
          · have i2 : (1 : Int) < (C1 : Int) := by omega
            have HG : Hid (R = -1) := by show _ = _; rw [HF.out, if_pos (.inr (.inl a2))]
            clear HF
            go_wp2
            go_ret
            rw [HG.out]
            exact ⟨rfl, HBx.out⟩
          have i2 : ¬ (1 : Int) < (C1 : Int) := by omega
          by_cases a3 : 2 < C4
          · have i3 : (2 : Int) < (C4 : Int) := by omega
            have HG : Hid (R = -1) := by show _ = _; rw [HF.out, if_pos (.inr (.inr (.inl a3)))]
            clear HF
            go_wp2
            go_ret
            rw [HG.out]
            exact ⟨rfl, HBx.out⟩
          have i3 : ¬ (2 : Int) < (C4 : Int) := by omega
          by_cases a4 : 0 < C4
          · have i4 : (0 : Int) < (C4 : Int) := by omega
            by_cases a5 : S1 = 1
            · have i5 : ((S1 : Int) == 1) = true := by rw [a5]; rfl
              have i5' : ((S1 : Int) != 1) = false := by rw [bne, i5]; rfl
              have HG : Hid (R = S1) := by show _ = _; rw [HF.out, if_neg]; rintro (h | h | h | h); exact a1 h; exact a2 h; exact a3 h; exact h.2 a5
              clear HF
              subst a5
              go_wp2
              go_ret
              rw [HG.out]
              exact ⟨rfl, HBx.out⟩
            · have i5 : ((S1 : Int) == 1) = false := by rw [beq_eq_false_iff_ne]; omega
              have i5' : ((S1 : Int) != 1) = true := by rw [bne, i5]; rfl
              have i5n : ¬ (S1 : Int) = 1 := by omega
              have HG : Hid (R = -1) := by show _ = _; rw [HF.out, if_pos (.inr (.inr (.inr ⟨a4, a5⟩)))]
              clear HF
              go_wp2
              go_ret
              rw [HG.out]
              exact ⟨rfl, HBx.out⟩
          · have i4 : ¬ (0 : Int) < (C4 : Int) := by omega
            have HG : Hid (R = S1) := by show _ = _; rw [HF.out, if_neg]; rintro (h | h | h | h); exact a1 h; exact a2 h; exact a3 h; exact a4 h.1
            clear HF
            go_wp2
            go_ret
            rw [HG.out]
            exact ⟨rfl, HBx.out⟩
end Go.Proofs.YtnhaapcpklfkpaaGreatDoor
