/-
  slices.DeleteFunc over sections, at isText.
-/
import Derived.Test.YtnhaapcpklfkpaaGreatDoorCd6
import Derived.Laws.IdiomCopy
import Derived.Lib.SliceRun
namespace Go.Proofs.YtnhaapcpklfkpaaGreatDoor
open Go.RowKit

theorem grown_cells (g : Nat) : ∀ (vs : List Value) (o : Nat) (w W : World), w.grownBy W (some g) → w.grownBy (W.setCells g o vs) (some g)
  | [], _, _, _, h => h
  | v :: r, o, w, W, h => by
    refine grown_cells g r (o + 1) w (W.setCell ⟨g, o, none⟩ v) ⟨h.os, h.tape, h.output, ?_, fun k hk hne => ?_⟩
    · simpa [World.setCell] using h.size
    · rw [Below.heap_setCell _ _ _ _ (fun e => hne (by rw [e]))]
      exact h.block k hk hne
theorem grown_below {w W W' : World} {g : Nat} (h : w.grownBy W (some g)) (k : Below W.heap.size W W') : w.grownBy W' (some g) :=
  ⟨k.os.trans h.os, k.tape.trans h.tape, k.output.trans h.output, Nat.le_trans h.size k.size, fun b hb hne => (k.block b (Nat.lt_of_lt_of_le hb h.size)).trans (h.block b hb hne)⟩
theorem grown_refl (w : World) (g : Nat) : w.grownBy w (some g) := ⟨rfl, rfl, rfl, Nat.le_refl _, fun _ _ _ => rfl⟩
theorem size_cells (g : Nat) : ∀ (vs : List Value) (o : Nat) (W : World), (W.setCells g o vs).heap.size = W.heap.size
  | [], _, _ => rfl
  | v :: r, o, W => by rw [World.setCells, size_cells g r]; simp [World.setCell]
theorem secs_cells {W : World} {g : Nat} {H : List (Value × List Pc)} (h : SecsAt W g H) (i : Nat) (hi : i < H.length) (j : Nat) (hj : j < 12) : (W.cell? ⟨g, i * 12 + j, none⟩).isSome = true := by
  rw [(h.2 i _ (List.getElem?_eq_getElem hi)).2 j hj]
  have : j = 0 ∨ j = 1 ∨ j = 2 ∨ j = 3 ∨ j = 4 ∨ j = 5 ∨ j = 6 ∨ j = 7 ∨ j = 8 ∨ j = 9 ∨ j = 10 ∨ j = 11 := by omega
  rcases this with rfl | rfl | rfl | rfl | rfl | rfl | rfl | rfl | rfl | rfl | rfl | rfl <;> rfl
theorem secs_put {W : World} {g : Nat} {H : List (Value × List Pc)} (h : SecsAt W g H) (i : Nat) (hi : i < H.length) (u : Value) (ps : List Pc) : SecsAt (W.setCells g (i * 12) (secC u ps)) g (H.set i (u, ps)) := by
  refine ⟨by rw [size_cells]; exact h.1, fun k x hx => ⟨by rw [size_cells]; exact h.1, fun j hj => ?_⟩⟩
  by_cases e : k = i
  · subst e
    rw [List.getElem?_set_self hi] at hx
    cases hx
    have hl : (secC u ps).length = 12 := rfl
    rw [World.cell?_setCells_in g (secC u ps) (k * 12) W (fun j hj => secs_cells h k hi j (by omega)) j (by omega)]
    exact (List.getElem?_eq_getElem (by omega)).symm
  · rw [List.getElem?_set_ne (fun e' => e e'.symm)] at hx
    rw [World.cell?_setCells_out g (secC u ps) (i * 12) W ⟨g, k * 12 + j, none⟩ (fun _ _ => by
      have hl : (secC u ps).length = 12 := rfl
      show k * 12 + j < i * 12 ∨ i * 12 + (secC u ps).length ≤ k * 12 + j
      omega)]
    exact (h.2 k x hx).2 j hj
theorem secs_cut {W : World} {g : Nat} {H : List (Value × List Pc)} (h : SecsAt W g H) (i : Nat) (vs : List Value) : SecsAt (W.setCells g (i * 12) vs) g (H.take i) := by
  refine ⟨by rw [size_cells]; exact h.1, fun k x hx => ⟨by rw [size_cells]; exact h.1, fun j hj => ?_⟩⟩
  rw [List.getElem?_take] at hx
  split at hx
  · rename_i hk
    rw [World.cell?_setCells_out g vs (i * 12) W ⟨g, k * 12 + j, none⟩ (fun _ _ => by show k * 12 + j < i * 12 ∨ _; omega)]
    exact (h.2 k x hx).2 j hj
  · cases hx
theorem info_sec : (Tryz.prog.info? 66).map (fun i => (i.zero, i.size)) = some (some (.agg #[.slice none 0 0, .int .i64 0, .int .i64 0, .int .i64 0, .int .i64 0, .int .i64 0, .int .i64 0, .bool false, .bool false, .int .i64 0, .int .i64 0, .int .i64 0]), 12) := by kernel_rfl
theorem run_clear_secs (W : World) (ty : TypeId) (g i m c : Nat) (H : List (Value × List Pc)) (h : SecsAt W g H) (hf : ∀ o, W.frozen? ⟨g, o, none⟩ = false) (him : i + m = H.length) (hm : 0 < m) :
    ∃ vs, (Builtin.clear_ #[32] ty #[.slice (some ⟨g, i * 12, none⟩) m c]).run Tryz.prog W = .ok (.tuple #[]) (W.setCells g (i * 12) vs) := by
  have hz := (zero_of_info info_sec).1
  obtain ⟨vs, hvs⟩ : ∃ vs, vs = (Builtin.zeroCells (Value.agg #[.slice none 0 0, .int .i64 0, .int .i64 0, .int .i64 0, .int .i64 0, .int .i64 0, .int .i64 0, .bool false, .bool false, .int .i64 0, .int .i64 0, .int .i64 0]).cells m).toList := ⟨_, rfl⟩
  have hl : vs.length = m * 12 := by rw [hvs]; simp [Builtin.zeroCells, Value.cells]
  have h1 : ∀ v ∈ vs, v.oneCell' = true := by
    intro v hv
    rw [hvs] at hv
    simp only [Builtin.zeroCells, Array.toList_map, List.mem_map] at hv
    obtain ⟨k, _, rfl⟩ := hv
    have : k % 12 < 12 := Nat.mod_lt _ (by decide)
    have e : k % 12 = 0 ∨ k % 12 = 1 ∨ k % 12 = 2 ∨ k % 12 = 3 ∨ k % 12 = 4 ∨ k % 12 = 5 ∨ k % 12 = 6 ∨ k % 12 = 7 ∨ k % 12 = 8 ∨ k % 12 = 9 ∨ k % 12 = 10 ∨ k % 12 = 11 := by omega
    show (#[Value.slice none 0 0, .int .i64 0, .int .i64 0, .int .i64 0, .int .i64 0, .int .i64 0, .int .i64 0, .bool false, .bool false, .int .i64 0, .int .i64 0, .int .i64 0][k % 12]!).oneCell' = true
    rcases e with e | e | e | e | e | e | e | e | e | e | e | e <;> rw [e] <;> rfl
  have hst := run_storeCells_cells (P := Tryz.prog) g (i * 12) vs 0 W (fun j hj => by
    have := secs_cells h (i + j / 12) (by omega) (j % 12) (Nat.mod_lt _ (by decide))
    rwa [show (i + j / 12) * 12 + j % 12 = i * 12 + 0 + j by omega] at this) (fun j _ => hf _) h1
  refine ⟨vs, ?_⟩
  obtain ⟨n, rfl⟩ : ∃ n, m = n + 1 := ⟨m - 1, by omega⟩
  rw [Nat.add_zero] at hst
  rw [hvs] at hst ⊢
  simp [Builtin.clear_, run_underlying Tryz.underlying32, hz, hst]
/-- The sections that are not of the kind text. -/
def leftG (G : List (Value × List Pc)) : List (Value × List Pc) := G.filter fun x => !textB x.2
theorem left_take {G : List (Value × List Pc)} {k : Nat} {x : Value × List Pc} (h : G[k]? = some x) : leftG (G.take (k + 1)) = leftG (G.take k) ++ if textB x.2 then [] else [x] := by
  unfold leftG
  rw [List.take_add_one, h, List.filter_append]
  cases ht : textB x.2 <;> simp [ht]
theorem take_put {α : Type} (H : List α) (i : Nat) (x : α) (h : i < H.length) : (H.set i x).take (i + 1) = H.take i ++ [x] := by
  rw [List.take_add_one, List.getElem?_set_self h, List.take_set_of_le (Nat.le_refl i)]; rfl
theorem drop_next {α : Type} {H G : List α} {j : Nat} (h : H.drop j = G.drop j) : H.drop (j + 1) = G.drop (j + 1) := by
  rw [← List.drop_drop, ← List.drop_drop, h]
set_option maxRecDepth 100000 in
set_option maxHeartbeats 8000000 in
theorem delete_any (g cap : Nat) (G : List (Value × List Pc)) (w : World) (h : SecsAt w g G) (hf : ∀ o, w.frozen? ⟨g, o, none⟩ = false) (hG : G.length ≤ 1000) (hcap : G.length ≤ cap) (hcap2 : cap ≤ maxLen) (hsl : ∀ x ∈ G, ∃ p n c, x.1 = Value.slice p n c) :
    Calls Tryz.prog 31 #[.slice (some ⟨g, 0, none⟩) G.length cap, .func (.func 29) #[] #[]] w fun e w' => e = .returned (.slice (some ⟨g, 0, none⟩) (leftG G).length cap) ∧ SecsAt w' g (leftG G) ∧ w.grownBy w' (some g) := by
  have HI := hide (index_text g cap G w h hG)
  have HS := hide h
  have HF := hide hf
  have hGi : (G.length : Int) ≤ 1000 := by omega
  have hci : (cap : Int) ≤ 9223372036854775807 := by unfold maxLen at hcap2; omega
  have hgci : (G.length : Int) ≤ (cap : Int) := by omega
  have hgl := h.1
  clear h hf
  by_cases hno : ∀ (j : Nat) (x : Value × List Pc), G[j]? = some x → textB x.2 = false
  · rw [idx_none hno] at HI
    have hF : leftG G = G := by
      unfold leftG
      rw [List.filter_eq_self]
      intro x hx
      obtain ⟨j, hj⟩ := List.mem_iff_getElem?.1 hx
      rw [hno j x hj]; rfl
    rw [hF]
    clear hF hno
    go_enter Tryz.func31, Tryz.ntmps31
    go_wp2_with (go_at_call 28; refine HI.out.mono ?_; rintro e w1 ⟨rfl, hb1⟩)
    go_ret
    exact ⟨rfl, HS.out.below hb1, grown_below (grown_refl w g) hb1⟩
  · obtain ⟨i0, x0, hi0, hx0, hp0, hmin⟩ : ∃ (i0 : Nat) (x0 : Value × List Pc), i0 < G.length ∧ G[i0]? = some x0 ∧ textB x0.2 = true ∧ ∀ (j : Nat) (y : Value × List Pc), j < i0 → G[j]? = some y → textB y.2 = false := by
      cases hfi : G.findIdx? (fun x => textB x.2) with
      | none =>
        rw [List.findIdx?_eq_none_iff] at hfi
        exact absurd (fun j x hj => hfi x (List.mem_of_getElem? hj)) hno
      | some i =>
        rw [List.findIdx?_eq_some_iff_getElem] at hfi
        obtain ⟨hl, hp, hm⟩ := hfi
        refine ⟨i, G[i], hl, List.getElem?_eq_getElem hl, hp, fun j y hj hy => ?_⟩
        have := hm j hj
        obtain ⟨hl2, rfl⟩ := List.getElem?_eq_some_iff.1 hy
        simpa using this
    rw [idx_some hx0 hp0 hmin] at HI
    have hst : (G.take i0) = leftG (G.take (i0 + 1)) := by
      rw [left_take hx0, hp0, if_pos rfl, List.append_nil]
      unfold leftG
      refine (List.filter_eq_self.2 fun x hx => ?_).symm
      obtain ⟨j, hj⟩ := List.mem_iff_getElem?.1 hx
      rw [List.getElem?_take] at hj
      split at hj
      · rename_i hji; rw [hmin j x hji hj]; rfl
      · cases hj
    have HST := hide hst
    have hi0i : (i0 : Int) < (G.length : Int) := by omega
    have hm1 : ((i0 : Int) == -1) = false := by rw [beq_eq_false_iff_ne]; omega
    clear hst hno hmin hp0 hx0
    go_enter Tryz.func31, Tryz.ntmps31
    go_wp2_with (go_at_call 28; refine HI.out.mono ?_; rintro e w1 ⟨rfl, hb1⟩; have HB1 := hide hb1; clear hb1)
    go_loopw [5, 6] (fun is js wr => ∃ (i j : Nat) (H : List (Value × List Pc)), i < j ∧ j ≤ G.length ∧ is = .int .i64 i ∧ js = .int .i64 j ∧ H.length = G.length ∧ H.take i = leftG (G.take j) ∧ H.drop j = G.drop j ∧ SecsAt wr g H ∧ (∀ o, wr.frozen? ⟨g, o, none⟩ = false) ∧ w.grownBy wr (some g)) (fun _ js _ => G.length - (intOf js).toNat)
    case atStart => exact ⟨i0, i0 + 1, G, by omega, by omega, rfl, by go_num, rfl, HST.out, rfl, HS.out.below HB1.out, fun o => (HB1.out.frozen (p := ⟨g, o, none⟩) hgl).trans (HF.out o), grown_below (grown_refl w g) HB1.out⟩
    case round =>
      obtain ⟨i, j, H, hij, hjn, rfl, rfl, hHl, hHt, hHd, hHs, hHf, hHg⟩ := hrel
      have K1 := hide hHl
      have K2 := hide hHt
      have K3 := hide hHd
      have K4 := hide hHs
      have K5 := hide hHf
      have K6 := hide hHg
      clear hHl hHt hHd hHs hHg HST HI
      have hgw := K4.out.1
      by_cases hlt : j < G.length
      · have hjH : j < H.length := by rw [K1.out]; exact hlt
        have hx : H[j]? = some H[j] := List.getElem?_eq_getElem hjH
        have hxG : G[j]? = some H[j] := by
          have := congrArg (fun l => l[0]?) K3.out
          simp only [List.getElem?_drop, Nat.add_zero] at this
          rw [← this]; exact hx
        obtain ⟨c0, c1, c2, c3, c4, c5, c6, c7, c8, c9, c10, c11⟩ := (K4.out.2 j _ hx).all
        have hiH : i < H.length := by omega
        obtain ⟨d0, d1, d2, d3, d4, d5, d6, d7, d8, d9, d10, d11⟩ := (K4.out.2 i _ (List.getElem?_eq_getElem hiH)).all
        have HX := hide hx
        have HXG := hide hxG
        have HTK := hide (left_take hxG)
        obtain ⟨q1, q2, q3, hu⟩ := hsl _ (List.mem_of_getElem? hxG)
        have hjl : j < H.length := hjH
        clear hx hxG
        generalize H[j] = x at *
        generalize H[i] = y at *
        obtain ⟨u, ps⟩ := x
        simp only at hu
        subst hu
        have HP := hide (fun W => isText_any (.slice q1 q2 q3) ps W)
        simp only [secV] at HP
        simp only at c0 c1 c2 c3 c4 c5 c6 c7 c8 c9 c10 c11
        cases hb : textB ps
        · rw [hb] at HP
          have HB2 := hide hb
          clear hb
          go_wp2_with (go_at_call 29; refine (HP.out _).mono ?_; rintro e w2 ⟨rfl, hb2⟩; have HB3 := hide hb2; have hz2 := Nat.lt_of_lt_of_le (Nat.lt_of_lt_of_le (Nat.lt_succ_self wr.heap.size) (Nat.le_of_eq (World.size_alloc wr _).symm)) hb2.size; obtain ⟨hc2, hf2⟩ := cbcell hb2; clear hb2)
          have HBw : Hid (Below wr.heap.size wr w2) := up ((Below.refl _ wr).alloc (Nat.le_refl _) _) HB3.out
          clear HB3
          go_roundw
          case rel => exact ⟨i + 1, j + 1, H.set i (.slice q1 q2 q3, ps), by omega, by omega, by go_num, by go_num, by rw [List.length_set]; exact K1.out, by rw [take_put H i _ hiH, HTK.out, HB2.out, K2.out]; rfl, by rw [List.drop_set_of_lt (by omega)]; exact drop_next K3.out, secs_put (K4.out.below HBw.out) i hiH (.slice q1 q2 q3) ps, fun o => (World.frozen?_setCells g (secC (.slice q1 q2 q3) ps) (i * 12) w2 ⟨g, o, none⟩).trans ((HBw.out.frozen (p := ⟨g, o, none⟩) hgw).trans (K5.out o)), grown_cells g (secC (.slice q1 q2 q3) ps) (i * 12) w w2 (grown_below K6.out HBw.out)⟩
          case measure => simp [intOf]; omega
        · rw [hb] at HP
          have HB2 := hide hb
          clear hb
          go_wp2_with (go_at_call 29; refine (HP.out _).mono ?_; rintro e w2 ⟨rfl, hb2⟩; have HB3 := hide hb2; have hz2 := Nat.lt_of_lt_of_le (Nat.lt_of_lt_of_le (Nat.lt_succ_self wr.heap.size) (Nat.le_of_eq (World.size_alloc wr _).symm)) hb2.size; obtain ⟨hc2, hf2⟩ := cbcell hb2; clear hb2)
          have HBw : Hid (Below wr.heap.size wr w2) := up ((Below.refl _ wr).alloc (Nat.le_refl _) _) HB3.out
          clear HB3
          go_roundw
          case rel => exact ⟨i, j + 1, H, by omega, by omega, rfl, by go_num, K1.out, by rw [HTK.out, HB2.out, K2.out]; simp, drop_next K3.out, K4.out.below HBw.out, fun o => (HBw.out.frozen (p := ⟨g, o, none⟩) hgw).trans (K5.out o), grown_below K6.out HBw.out⟩
          case measure => simp [intOf]; omega
      · obtain rfl : j = G.length := by omega
        have hlast : leftG (G.take G.length) = leftG G := by rw [List.take_length]
        have K7 : Hid (H.take i = leftG G) := K2.out.trans hlast
        have HIL : Hid ((leftG G).length = i) := by show _ = _; rw [← K7.out, List.length_take, K1.out]; omega
        obtain ⟨vs, hcl⟩ := run_clear_secs wr 0 g i (G.length - i) (cap - i) H K4.out K5.out (by rw [K1.out]; omega) (by omega)
        have hii : (i : Int) ≤ (G.length : Int) := by omega
        clear hlast
        go_wp2
        go_ret
        refine ⟨by rw [HIL.out]; rfl, ?_, grown_cells g vs (i * 12) w wr K6.out⟩
        have := secs_cut K4.out i vs
        rw [K7.out] at this
        exact this
end Go.Proofs.YtnhaapcpklfkpaaGreatDoor
