/-
  The contract of the answer's Parse.
-/
import Derived.Test.YtlhpplhhdeifhaaDoorDtR2
import Derived.Test.YtlhpplhhdeifhaaDoorDt8
import Derived.Laws.AppendOwn
import Derived.Laws.OwnMore
import Derived.OwnWalk
import Derived.Test.YtlhpplhhdeifhaaDoorRegion
namespace Go.Proofs.YtlhpplhhdeifhaaDoor
open Go.RowKit

theorem infoInt : (Tryd.prog.info? 3).map (fun i => (i.zero, i.size, i.bytes)) = some (some (.int .i64 0), 1, 8) := by kernel_rfl
set_option maxHeartbeats 1000000 in
theorem rparse_short (s : ByteArray) (w : World) (hs : s.size ≠ 10) :
    Calls Tryd.prog 23 #[.string s] w fun e w' => e = .returned (.tuple #[.int .i64 0, .int .i64 5]) ∧ Below w.heap.size w w' := by
  have h1 : (((s.size : Nat) : Int) != 10) = true := by rw [bne_iff_ne]; omega
  clear hs
  go_enter Tryd.func23, Tryd.ntmps23
  go_wp2
  go_ret2
  exact ⟨rfl, Below.refl _ _⟩
/-- What stands in the row behind k bytes. -/
def rAt (l : List UInt8) (k : Nat) : List Int := if k ≤ 4 then [] else if k ≤ 7 then [(decV (l.take 4) : Int)] else [(decV (l.take 4) : Int), (decV ((l.drop 5).take 2) : Int)]
/-- The number that is being read behind k bytes. -/
def nAt (l : List UInt8) (k : Nat) : Int := if k ≤ 4 then decV (l.take k) else if k ≤ 7 then decV ((l.drop 5).take (k - 5)) else decV ((l.drop 8).take (k - 8))
theorem row_step {w wr w1 : World} {n : Nat} {l : List Int} {x : Int} {v v' : Value} (o : Obj)
    (hnx : Below w.heap.size w wr) (hown : wr.ownsRow w.heap.size 3 1 v n (l.map (Value.int .i64)))
    (hown' : w1.ownsRow w.heap.size 3 1 v' (n + 1) (l.map (Value.int .i64) ++ [.int .i64 x])) (hgrow : (wr.alloc o).grownBy w1 v.ownBlock) :
    w1.ownsRow w.heap.size 3 1 v' (n + 1) ((l ++ [x]).map (Value.int .i64)) ∧ Below w.heap.size w w1 := by
  refine ⟨by rw [List.map_append]; exact hown', ?_⟩
  refine (hnx.alloc hnx.size o).grown hgrow ?_ (fun j hj => (hown.lt j hj).1)
  have := hnx.size; simp; omega
theorem own_two {w' : World} {base : Nat} {v : Value} {xs : List Value} (h : w'.ownsRow base 3 1 v 2 xs) : ∃ g cap, v = .slice (some ⟨g, 0, none⟩) 2 cap ∧ base ≤ g ∧ g < w'.heap.size ∧ 2 ≤ cap ∧ ∀ j, j < 2 → w'.cell? ⟨g, j, none⟩ = xs[j]? := by
  have h' := h
  obtain ⟨_, h | ⟨g, cap, cur, rfl, hb, hh, hc, _, _, _⟩⟩ := h
  · exact absurd h.2 (by decide)
  · refine ⟨g, cap, rfl, hb, ?_, hc, fun j hj => h'.cellAt j (by omega)⟩
    rcases Nat.lt_or_ge g w'.heap.size with h2 | h2
    · exact h2
    · rw [Array.getElem?_eq_none h2] at hh; cases hh
theorem V2.below {w0 w w' : World} {g : Nat} {x y : Int} (h : w.cell? ⟨g, 0, none⟩ = some (.int .i64 x) ∧ w.cell? ⟨g, 1, none⟩ = some (.int .i64 y) ∧ g < w.heap.size ∧ Below w0.heap.size w0 w) (k : Below w.heap.size w w') : w'.cell? ⟨g, 0, none⟩ = some (.int .i64 x) ∧ w'.cell? ⟨g, 1, none⟩ = some (.int .i64 y) ∧ g < w'.heap.size ∧ Below w0.heap.size w0 w' :=
  ⟨by rw [k.cell (p := ⟨g, 0, none⟩) h.2.2.1]; exact h.1, by rw [k.cell (p := ⟨g, 1, none⟩) h.2.2.1]; exact h.2.1, Nat.lt_of_lt_of_le h.2.2.1 k.size, up h.2.2.2 k⟩
theorem V2.drew {w0 w : World} {g : Nat} {x y : Int} (h : w.cell? ⟨g, 0, none⟩ = some (.int .i64 x) ∧ w.cell? ⟨g, 1, none⟩ = some (.int .i64 y) ∧ g < w.heap.size ∧ Below w0.heap.size w0 w) : w.drew.cell? ⟨g, 0, none⟩ = some (.int .i64 x) ∧ w.drew.cell? ⟨g, 1, none⟩ = some (.int .i64 y) ∧ g < w.drew.heap.size ∧ Below w0.heap.size w0 w.drew := V2.below h (Below.refl _ _).drew
theorem V2.out {w0 w : World} {g : Nat} {x y : Int} (h : w.cell? ⟨g, 0, none⟩ = some (.int .i64 x) ∧ w.cell? ⟨g, 1, none⟩ = some (.int .i64 y) ∧ g < w.heap.size ∧ Below w0.heap.size w0 w) : Below w0.heap.size w0 w := h.2.2.2
theorem dec_big : ∀ (l : List UInt8) (a : Nat), l.foldl (fun n c => n * 10 + (c.toNat - 48)) a + 1 ≤ (a + 1) * 1000 ^ l.length
  | [], a => by simp
  | c :: l, a => by
    have hu : c.toNat < 256 := UInt8.toNat_lt _
    have h1 := dec_big l (a * 10 + (c.toNat - 48))
    have h2 : (a * 10 + (c.toNat - 48) + 1) * 1000 ^ l.length ≤ ((a + 1) * 1000) * 1000 ^ l.length := Nat.mul_le_mul_right _ (by omega)
    rw [List.foldl_cons, List.length_cons, Nat.pow_succ, Nat.mul_comm (1000 ^ l.length) 1000, ← Nat.mul_assoc]
    omega
theorem dec_fair {l : List UInt8} (h : l.length ≤ 3) : (decV l : Int) ≤ 1000000000 := by
  have h1 := dec_big l 0
  have h2 : 1000 ^ l.length ≤ 1000 ^ 3 := Nat.pow_le_pow_right (by decide) h
  have h3 : (1000 : Nat) ^ 3 = 1000000000 := rfl
  unfold decV
  omega
theorem dig_step (l : List UInt8) (c : UInt8) : decV (l ++ [c]) = decV l * 10 + (c.toNat - 48) := by simp [decV]
set_option linter.unusedSimpArgs false in
set_option maxHeartbeats 4000000 in
set_option maxRecDepth 100000 in
theorem rparse_ten (b0 b1 b2 b3 b4 b5 b6 b7 b8 b9 : UInt8) (w : World) :
    Calls Tryd.prog 23 #[.string ⟨#[b0, b1, b2, b3, b4, b5, b6, b7, b8, b9]⟩] w fun e w' => e = .returned (.tuple #[.int .i64 (parseR [b0, b1, b2, b3, b4, b5, b6, b7, b8, b9]).1, .int .i64 (parseR [b0, b1, b2, b3, b4, b5, b6, b7, b8, b9]).2]) ∧ Below w.heap.size w w' := by
  obtain ⟨i0, hi, hz0, hz1, hz2⟩ := info_parts infoInt
  have hsz : (⟨#[b0, b1, b2, b3, b4, b5, b6, b7, b8, b9]⟩ : ByteArray).size = 10 := rfl
  go_enter Tryd.func23, Tryd.ntmps23
  go_wp2
  go_loopw [4, 5, 6] (fun v nv iv wr => ∃ k : Nat, k ≤ 10 ∧ iv = .int .i64 k ∧ nv = .int .i64 (nAt [b0, b1, b2, b3, b4, b5, b6, b7, b8, b9] k) ∧ wr.ownsRow w.heap.size 3 1 v (rAt [b0, b1, b2, b3, b4, b5, b6, b7, b8, b9] k).length ((rAt [b0, b1, b2, b3, b4, b5, b6, b7, b8, b9] k).map (Value.int .i64)) ∧ (∀ j, j < k → fitAt [b0, b1, b2, b3, b4, b5, b6, b7, b8, b9] j = true) ∧ Below w.heap.size w wr) (fun _ _ iv _ => 10 - (intOf iv).toNat)
  case atStart => exact ⟨0, by omega, rfl, rfl, World.ownsRow_nil _ _ _ _, fun j hj => absurd hj (by omega), Below.refl _ _⟩
  case round =>
    obtain ⟨k, hk, rfl, rfl, hown0, hall, hB⟩ := hrel
    have HA := hide hall
    clear hall
    have key : k = 0 ∨ k = 1 ∨ k = 2 ∨ k = 3 ∨ k = 4 ∨ k = 5 ∨ k = 6 ∨ k = 7 ∨ k = 8 ∨ k = 9 ∨ k = 10 := by omega
    clear hk
    rcases key with rfl | rfl | rfl | rfl | rfl | rfl | rfl | rfl | rfl | rfl | rfl
    · have hx : (⟨#[b0, b1, b2, b3, b4, b5, b6, b7, b8, b9]⟩ : ByteArray)[0]'(Nat.lt_of_lt_of_eq (by decide : 0 < 10) hsz.symm) = b0 := rfl
      cases hv : digB b0
      · have HR : Hid (parseR [b0, b1, b2, b3, b4, b5, b6, b7, b8, b9] = (0, 5)) := by
          show _ = _
          rw [parseR_ten, if_neg (by rw [shape_no (l := [b0, b1, b2, b3, b4, b5, b6, b7, b8, b9]) (j := 0) (by decide) hv]; decide)]
        have key : (b0.toNat : Int) < 48 ∨ (¬ (b0.toNat : Int) < 48 ∧ (57 : Int) < (b0.toNat : Int)) := by have := digB_no.1 hv; omega
        clear hv
        rcases key with e1 | ⟨e1, e2⟩
        all_goals go_wp2
        all_goals go_ret2
        all_goals exact ⟨by rw [HR.out]; rfl, hB⟩
      · have HV : Hid (fitAt [b0, b1, b2, b3, b4, b5, b6, b7, b8, b9] 0 = true) := hv
        have e0 := digB_iff.1 hv
        have e1 : ¬ (b0.toNat : Int) < 48 := by omega
        have e2 : ¬ (57 : Int) < (b0.toNat : Int) := by omega
        have e3 : IntKind.u8.wrap ((b0.toNat : Int) - 48) = (b0.toNat : Int) - 48 := by rw [IntKind.wrap_u8]; omega
        have HN : Hid ((decV [b0] : Int) = 10 * (decV [] : Int) + ((b0.toNat : Int) - 48)) := by
          show (decV ([] ++ [b0]) : Int) = _
          rw [dig_step]; omega
        have hn : nAt [b0, b1, b2, b3, b4, b5, b6, b7, b8, b9] 0 = (decV [] : Int) := rfl
        have hn2 : (decV [] : Int) ≤ 1000000000 := dec_fair (by simp)
        have hn3 : 0 ≤ (decV [] : Int) := Int.natCast_nonneg _
        rw [hn]
        clear hv hn e0
        generalize (decV [] : Int) = m at *
        go_wp2
        go_roundw
        case rel => exact ⟨1, by decide, rfl, by rw [show nAt [b0, b1, b2, b3, b4, b5, b6, b7, b8, b9] 1 = (decV [b0] : Int) from rfl, HN.out], hown0, fun j hj => by
          rcases Nat.lt_or_ge j 0 with q | q
          · exact HA.out j q
          · obtain rfl : j = 0 := by omega
            exact HV.out, by assumption⟩
        case measure => simp [intOf]
    · have hx : (⟨#[b0, b1, b2, b3, b4, b5, b6, b7, b8, b9]⟩ : ByteArray)[1]'(Nat.lt_of_lt_of_eq (by decide : 1 < 10) hsz.symm) = b1 := rfl
      cases hv : digB b1
      · have HR : Hid (parseR [b0, b1, b2, b3, b4, b5, b6, b7, b8, b9] = (0, 5)) := by
          show _ = _
          rw [parseR_ten, if_neg (by rw [shape_no (l := [b0, b1, b2, b3, b4, b5, b6, b7, b8, b9]) (j := 1) (by decide) hv]; decide)]
        have key : (b1.toNat : Int) < 48 ∨ (¬ (b1.toNat : Int) < 48 ∧ (57 : Int) < (b1.toNat : Int)) := by have := digB_no.1 hv; omega
        clear hv
        rcases key with e1 | ⟨e1, e2⟩
        all_goals go_wp2
        all_goals go_ret2
        all_goals exact ⟨by rw [HR.out]; rfl, hB⟩
      · have HV : Hid (fitAt [b0, b1, b2, b3, b4, b5, b6, b7, b8, b9] 1 = true) := hv
        have e0 := digB_iff.1 hv
        have e1 : ¬ (b1.toNat : Int) < 48 := by omega
        have e2 : ¬ (57 : Int) < (b1.toNat : Int) := by omega
        have e3 : IntKind.u8.wrap ((b1.toNat : Int) - 48) = (b1.toNat : Int) - 48 := by rw [IntKind.wrap_u8]; omega
        have HN : Hid ((decV [b0, b1] : Int) = 10 * (decV [b0] : Int) + ((b1.toNat : Int) - 48)) := by
          show (decV ([b0] ++ [b1]) : Int) = _
          rw [dig_step]; omega
        have hn : nAt [b0, b1, b2, b3, b4, b5, b6, b7, b8, b9] 1 = (decV [b0] : Int) := rfl
        have hn2 : (decV [b0] : Int) ≤ 1000000000 := dec_fair (by simp)
        have hn3 : 0 ≤ (decV [b0] : Int) := Int.natCast_nonneg _
        rw [hn]
        clear hv hn e0
        generalize (decV [b0] : Int) = m at *
        go_wp2
        go_roundw
        case rel => exact ⟨2, by decide, rfl, by rw [show nAt [b0, b1, b2, b3, b4, b5, b6, b7, b8, b9] 2 = (decV [b0, b1] : Int) from rfl, HN.out], hown0, fun j hj => by
          rcases Nat.lt_or_ge j 1 with q | q
          · exact HA.out j q
          · obtain rfl : j = 1 := by omega
            exact HV.out, by assumption⟩
        case measure => simp [intOf]
    · have hx : (⟨#[b0, b1, b2, b3, b4, b5, b6, b7, b8, b9]⟩ : ByteArray)[2]'(Nat.lt_of_lt_of_eq (by decide : 2 < 10) hsz.symm) = b2 := rfl
      cases hv : digB b2
      · have HR : Hid (parseR [b0, b1, b2, b3, b4, b5, b6, b7, b8, b9] = (0, 5)) := by
          show _ = _
          rw [parseR_ten, if_neg (by rw [shape_no (l := [b0, b1, b2, b3, b4, b5, b6, b7, b8, b9]) (j := 2) (by decide) hv]; decide)]
        have key : (b2.toNat : Int) < 48 ∨ (¬ (b2.toNat : Int) < 48 ∧ (57 : Int) < (b2.toNat : Int)) := by have := digB_no.1 hv; omega
        clear hv
        rcases key with e1 | ⟨e1, e2⟩
        all_goals go_wp2
        all_goals go_ret2
        all_goals exact ⟨by rw [HR.out]; rfl, hB⟩
      · have HV : Hid (fitAt [b0, b1, b2, b3, b4, b5, b6, b7, b8, b9] 2 = true) := hv
        have e0 := digB_iff.1 hv
        have e1 : ¬ (b2.toNat : Int) < 48 := by omega
        have e2 : ¬ (57 : Int) < (b2.toNat : Int) := by omega
        have e3 : IntKind.u8.wrap ((b2.toNat : Int) - 48) = (b2.toNat : Int) - 48 := by rw [IntKind.wrap_u8]; omega
        have HN : Hid ((decV [b0, b1, b2] : Int) = 10 * (decV [b0, b1] : Int) + ((b2.toNat : Int) - 48)) := by
          show (decV ([b0, b1] ++ [b2]) : Int) = _
          rw [dig_step]; omega
        have hn : nAt [b0, b1, b2, b3, b4, b5, b6, b7, b8, b9] 2 = (decV [b0, b1] : Int) := rfl
        have hn2 : (decV [b0, b1] : Int) ≤ 1000000000 := dec_fair (by simp)
        have hn3 : 0 ≤ (decV [b0, b1] : Int) := Int.natCast_nonneg _
        rw [hn]
        clear hv hn e0
        generalize (decV [b0, b1] : Int) = m at *
        go_wp2
        go_roundw
        case rel => exact ⟨3, by decide, rfl, by rw [show nAt [b0, b1, b2, b3, b4, b5, b6, b7, b8, b9] 3 = (decV [b0, b1, b2] : Int) from rfl, HN.out], hown0, fun j hj => by
          rcases Nat.lt_or_ge j 2 with q | q
          · exact HA.out j q
          · obtain rfl : j = 2 := by omega
            exact HV.out, by assumption⟩
        case measure => simp [intOf]
    · have hx : (⟨#[b0, b1, b2, b3, b4, b5, b6, b7, b8, b9]⟩ : ByteArray)[3]'(Nat.lt_of_lt_of_eq (by decide : 3 < 10) hsz.symm) = b3 := rfl
      cases hv : digB b3
      · have HR : Hid (parseR [b0, b1, b2, b3, b4, b5, b6, b7, b8, b9] = (0, 5)) := by
          show _ = _
          rw [parseR_ten, if_neg (by rw [shape_no (l := [b0, b1, b2, b3, b4, b5, b6, b7, b8, b9]) (j := 3) (by decide) hv]; decide)]
        have key : (b3.toNat : Int) < 48 ∨ (¬ (b3.toNat : Int) < 48 ∧ (57 : Int) < (b3.toNat : Int)) := by have := digB_no.1 hv; omega
        clear hv
        rcases key with e1 | ⟨e1, e2⟩
        all_goals go_wp2
        all_goals go_ret2
        all_goals exact ⟨by rw [HR.out]; rfl, hB⟩
      · have HV : Hid (fitAt [b0, b1, b2, b3, b4, b5, b6, b7, b8, b9] 3 = true) := hv
        have e0 := digB_iff.1 hv
        have e1 : ¬ (b3.toNat : Int) < 48 := by omega
        have e2 : ¬ (57 : Int) < (b3.toNat : Int) := by omega
        have e3 : IntKind.u8.wrap ((b3.toNat : Int) - 48) = (b3.toNat : Int) - 48 := by rw [IntKind.wrap_u8]; omega
        have HN : Hid ((decV [b0, b1, b2, b3] : Int) = 10 * (decV [b0, b1, b2] : Int) + ((b3.toNat : Int) - 48)) := by
          show (decV ([b0, b1, b2] ++ [b3]) : Int) = _
          rw [dig_step]; omega
        have hn : nAt [b0, b1, b2, b3, b4, b5, b6, b7, b8, b9] 3 = (decV [b0, b1, b2] : Int) := rfl
        have hn2 : (decV [b0, b1, b2] : Int) ≤ 1000000000 := dec_fair (by simp)
        have hn3 : 0 ≤ (decV [b0, b1, b2] : Int) := Int.natCast_nonneg _
        rw [hn]
        clear hv hn e0
        generalize (decV [b0, b1, b2] : Int) = m at *
        go_wp2
        go_roundw
        case rel => exact ⟨4, by decide, rfl, by rw [show nAt [b0, b1, b2, b3, b4, b5, b6, b7, b8, b9] 4 = (decV [b0, b1, b2, b3] : Int) from rfl, HN.out], hown0, fun j hj => by
          rcases Nat.lt_or_ge j 3 with q | q
          · exact HA.out j q
          · obtain rfl : j = 3 := by omega
            exact HV.out, by assumption⟩
        case measure => simp [intOf]
    · have hx : (⟨#[b0, b1, b2, b3, b4, b5, b6, b7, b8, b9]⟩ : ByteArray)[4]'(Nat.lt_of_lt_of_eq (by decide : 4 < 10) hsz.symm) = b4 := rfl
      cases hv : dashB b4
      · have HR : Hid (parseR [b0, b1, b2, b3, b4, b5, b6, b7, b8, b9] = (0, 5)) := by
          show _ = _
          rw [parseR_ten, if_neg (by rw [shape_no (l := [b0, b1, b2, b3, b4, b5, b6, b7, b8, b9]) (j := 4) (by decide) hv]; decide)]
        have e1 : ((b4.toNat : Int) != 45) = true := by unfold dashB at hv; rw [bne_iff_ne]; simp at hv; omega
        clear hv
        go_wp2
        go_ret2
        exact ⟨by rw [HR.out]; rfl, hB⟩
      · have HV : Hid (fitAt [b0, b1, b2, b3, b4, b5, b6, b7, b8, b9] 4 = true) := hv
        have e1 : ((b4.toNat : Int) != 45) = false := by unfold dashB at hv; rw [bne_eq_false_iff_eq]; simp at hv; omega
        have hown : wr.ownsRow w.heap.size 3 1 u4 0 (([] : List Int).map (Value.int .i64)) := hown0
        have hbs := hB.size
        show Code.wp _ _ _ _ _
        have hn : nAt [b0, b1, b2, b3, b4, b5, b6, b7, b8, b9] 4 = (decV [b0, b1, b2, b3] : Int) := rfl
        rw [hn]
        clear hv hown0 hn
        generalize hm : (decV [b0, b1, b2, b3] : Int) = m at *
        have HM := hide hm
        clear hm
        go_wp2_with (first
          | (at_builtin; refine wpList_append_own _ rfl _ _ 55 rfl w.heap.size 3 i0 (.int .i64 0) 1 8 Tryd.underlying55 hi hz0 hz1 hz2 rfl (by decide) _ _ _ rfl (hown.alloc _) ⟨wr.heap.size, 0, none⟩ 1 1 [.int .i64 m] rfl rfl ?c1 ?c2 ?c3 ?c4 ?c5 ?_)
          | go_in)
        case c1 =>
          intro j u hj
          match j, hj with
          | 0, hj => simp at hj; subst hj; simp [Addr.add]
        case c2 => intro u hu; simp at hu; subst hu; rfl
        case c3 => unfold maxLen; omega
        case c4 => omega
        case c5 => simp; omega
        intro v' w1 hown' hgrow _
        rw [← HM.out] at hown'
        have R := row_step _ hB hown hown' hgrow
        clear hown' hgrow hown hB
        go_wp2
        go_roundw
        case rel => exact ⟨5, by decide, rfl, rfl, R.1, fun j hj => by
          rcases Nat.lt_or_ge j 4 with q | q
          · exact HA.out j q
          · obtain rfl : j = 4 := by omega
            exact HV.out, R.2⟩
        case measure => simp [intOf]
    · have hx : (⟨#[b0, b1, b2, b3, b4, b5, b6, b7, b8, b9]⟩ : ByteArray)[5]'(Nat.lt_of_lt_of_eq (by decide : 5 < 10) hsz.symm) = b5 := rfl
      cases hv : digB b5
      · have HR : Hid (parseR [b0, b1, b2, b3, b4, b5, b6, b7, b8, b9] = (0, 5)) := by
          show _ = _
          rw [parseR_ten, if_neg (by rw [shape_no (l := [b0, b1, b2, b3, b4, b5, b6, b7, b8, b9]) (j := 5) (by decide) hv]; decide)]
        have key : (b5.toNat : Int) < 48 ∨ (¬ (b5.toNat : Int) < 48 ∧ (57 : Int) < (b5.toNat : Int)) := by have := digB_no.1 hv; omega
        clear hv
        rcases key with e1 | ⟨e1, e2⟩
        all_goals go_wp2
        all_goals go_ret2
        all_goals exact ⟨by rw [HR.out]; rfl, hB⟩
      · have HV : Hid (fitAt [b0, b1, b2, b3, b4, b5, b6, b7, b8, b9] 5 = true) := hv
        have e0 := digB_iff.1 hv
        have e1 : ¬ (b5.toNat : Int) < 48 := by omega
        have e2 : ¬ (57 : Int) < (b5.toNat : Int) := by omega
        have e3 : IntKind.u8.wrap ((b5.toNat : Int) - 48) = (b5.toNat : Int) - 48 := by rw [IntKind.wrap_u8]; omega
        have HN : Hid ((decV [b5] : Int) = 10 * (decV [] : Int) + ((b5.toNat : Int) - 48)) := by
          show (decV ([] ++ [b5]) : Int) = _
          rw [dig_step]; omega
        have hn : nAt [b0, b1, b2, b3, b4, b5, b6, b7, b8, b9] 5 = (decV [] : Int) := rfl
        have hn2 : (decV [] : Int) ≤ 1000000000 := dec_fair (by simp)
        have hn3 : 0 ≤ (decV [] : Int) := Int.natCast_nonneg _
        rw [hn]
        clear hv hn e0
        generalize (decV [] : Int) = m at *
        go_wp2
        go_roundw
        case rel => exact ⟨6, by decide, rfl, by rw [show nAt [b0, b1, b2, b3, b4, b5, b6, b7, b8, b9] 6 = (decV [b5] : Int) from rfl, HN.out], hown0, fun j hj => by
          rcases Nat.lt_or_ge j 5 with q | q
          · exact HA.out j q
          · obtain rfl : j = 5 := by omega
            exact HV.out, by assumption⟩
        case measure => simp [intOf]
    · have hx : (⟨#[b0, b1, b2, b3, b4, b5, b6, b7, b8, b9]⟩ : ByteArray)[6]'(Nat.lt_of_lt_of_eq (by decide : 6 < 10) hsz.symm) = b6 := rfl
      cases hv : digB b6
      · have HR : Hid (parseR [b0, b1, b2, b3, b4, b5, b6, b7, b8, b9] = (0, 5)) := by
          show _ = _
          rw [parseR_ten, if_neg (by rw [shape_no (l := [b0, b1, b2, b3, b4, b5, b6, b7, b8, b9]) (j := 6) (by decide) hv]; decide)]
        have key : (b6.toNat : Int) < 48 ∨ (¬ (b6.toNat : Int) < 48 ∧ (57 : Int) < (b6.toNat : Int)) := by have := digB_no.1 hv; omega
        clear hv
        rcases key with e1 | ⟨e1, e2⟩
        all_goals go_wp2
        all_goals go_ret2
        all_goals exact ⟨by rw [HR.out]; rfl, hB⟩
      · have HV : Hid (fitAt [b0, b1, b2, b3, b4, b5, b6, b7, b8, b9] 6 = true) := hv
        have e0 := digB_iff.1 hv
        have e1 : ¬ (b6.toNat : Int) < 48 := by omega
        have e2 : ¬ (57 : Int) < (b6.toNat : Int) := by omega
        have e3 : IntKind.u8.wrap ((b6.toNat : Int) - 48) = (b6.toNat : Int) - 48 := by rw [IntKind.wrap_u8]; omega
        have HN : Hid ((decV [b5, b6] : Int) = 10 * (decV [b5] : Int) + ((b6.toNat : Int) - 48)) := by
          show (decV ([b5] ++ [b6]) : Int) = _
          rw [dig_step]; omega
        have hn : nAt [b0, b1, b2, b3, b4, b5, b6, b7, b8, b9] 6 = (decV [b5] : Int) := rfl
        have hn2 : (decV [b5] : Int) ≤ 1000000000 := dec_fair (by simp)
        have hn3 : 0 ≤ (decV [b5] : Int) := Int.natCast_nonneg _
        rw [hn]
        clear hv hn e0
        generalize (decV [b5] : Int) = m at *
        go_wp2
        go_roundw
        case rel => exact ⟨7, by decide, rfl, by rw [show nAt [b0, b1, b2, b3, b4, b5, b6, b7, b8, b9] 7 = (decV [b5, b6] : Int) from rfl, HN.out], hown0, fun j hj => by
          rcases Nat.lt_or_ge j 6 with q | q
          · exact HA.out j q
          · obtain rfl : j = 6 := by omega
            exact HV.out, by assumption⟩
        case measure => simp [intOf]
    · have hx : (⟨#[b0, b1, b2, b3, b4, b5, b6, b7, b8, b9]⟩ : ByteArray)[7]'(Nat.lt_of_lt_of_eq (by decide : 7 < 10) hsz.symm) = b7 := rfl
      cases hv : dashB b7
      · have HR : Hid (parseR [b0, b1, b2, b3, b4, b5, b6, b7, b8, b9] = (0, 5)) := by
          show _ = _
          rw [parseR_ten, if_neg (by rw [shape_no (l := [b0, b1, b2, b3, b4, b5, b6, b7, b8, b9]) (j := 7) (by decide) hv]; decide)]
        have e1 : ((b7.toNat : Int) != 45) = true := by unfold dashB at hv; rw [bne_iff_ne]; simp at hv; omega
        clear hv
        go_wp2
        go_ret2
        exact ⟨by rw [HR.out]; rfl, hB⟩
      · have HV : Hid (fitAt [b0, b1, b2, b3, b4, b5, b6, b7, b8, b9] 7 = true) := hv
        have e1 : ((b7.toNat : Int) != 45) = false := by unfold dashB at hv; rw [bne_eq_false_iff_eq]; simp at hv; omega
        have hown : wr.ownsRow w.heap.size 3 1 u4 1 (([(decV [b0, b1, b2, b3] : Int)] : List Int).map (Value.int .i64)) := hown0
        have hbs := hB.size
        show Code.wp _ _ _ _ _
        have hn : nAt [b0, b1, b2, b3, b4, b5, b6, b7, b8, b9] 7 = (decV [b5, b6] : Int) := rfl
        rw [hn]
        clear hv hown0 hn
        generalize hm : (decV [b5, b6] : Int) = m at *
        have HM := hide hm
        clear hm
        go_wp2_with (first
          | (at_builtin; refine wpList_append_own _ rfl _ _ 55 rfl w.heap.size 3 i0 (.int .i64 0) 1 8 Tryd.underlying55 hi hz0 hz1 hz2 rfl (by decide) _ _ _ rfl (hown.alloc _) ⟨wr.heap.size, 0, none⟩ 1 1 [.int .i64 m] rfl rfl ?c1 ?c2 ?c3 ?c4 ?c5 ?_)
          | go_in)
        case c1 =>
          intro j u hj
          match j, hj with
          | 0, hj => simp at hj; subst hj; simp [Addr.add]
        case c2 => intro u hu; simp at hu; subst hu; rfl
        case c3 => unfold maxLen; omega
        case c4 => omega
        case c5 => simp; omega
        intro v' w1 hown' hgrow _
        rw [← HM.out] at hown'
        have R := row_step _ hB hown hown' hgrow
        clear hown' hgrow hown hB
        go_wp2
        go_roundw
        case rel => exact ⟨8, by decide, rfl, rfl, R.1, fun j hj => by
          rcases Nat.lt_or_ge j 7 with q | q
          · exact HA.out j q
          · obtain rfl : j = 7 := by omega
            exact HV.out, R.2⟩
        case measure => simp [intOf]
    · have hx : (⟨#[b0, b1, b2, b3, b4, b5, b6, b7, b8, b9]⟩ : ByteArray)[8]'(Nat.lt_of_lt_of_eq (by decide : 8 < 10) hsz.symm) = b8 := rfl
      cases hv : digB b8
      · have HR : Hid (parseR [b0, b1, b2, b3, b4, b5, b6, b7, b8, b9] = (0, 5)) := by
          show _ = _
          rw [parseR_ten, if_neg (by rw [shape_no (l := [b0, b1, b2, b3, b4, b5, b6, b7, b8, b9]) (j := 8) (by decide) hv]; decide)]
        have key : (b8.toNat : Int) < 48 ∨ (¬ (b8.toNat : Int) < 48 ∧ (57 : Int) < (b8.toNat : Int)) := by have := digB_no.1 hv; omega
        clear hv
        rcases key with e1 | ⟨e1, e2⟩
        all_goals go_wp2
        all_goals go_ret2
        all_goals exact ⟨by rw [HR.out]; rfl, hB⟩
      · have HV : Hid (fitAt [b0, b1, b2, b3, b4, b5, b6, b7, b8, b9] 8 = true) := hv
        have e0 := digB_iff.1 hv
        have e1 : ¬ (b8.toNat : Int) < 48 := by omega
        have e2 : ¬ (57 : Int) < (b8.toNat : Int) := by omega
        have e3 : IntKind.u8.wrap ((b8.toNat : Int) - 48) = (b8.toNat : Int) - 48 := by rw [IntKind.wrap_u8]; omega
        have HN : Hid ((decV [b8] : Int) = 10 * (decV [] : Int) + ((b8.toNat : Int) - 48)) := by
          show (decV ([] ++ [b8]) : Int) = _
          rw [dig_step]; omega
        have hn : nAt [b0, b1, b2, b3, b4, b5, b6, b7, b8, b9] 8 = (decV [] : Int) := rfl
        have hn2 : (decV [] : Int) ≤ 1000000000 := dec_fair (by simp)
        have hn3 : 0 ≤ (decV [] : Int) := Int.natCast_nonneg _
        rw [hn]
        clear hv hn e0
        generalize (decV [] : Int) = m at *
        go_wp2
        go_roundw
        case rel => exact ⟨9, by decide, rfl, by rw [show nAt [b0, b1, b2, b3, b4, b5, b6, b7, b8, b9] 9 = (decV [b8] : Int) from rfl, HN.out], hown0, fun j hj => by
          rcases Nat.lt_or_ge j 8 with q | q
          · exact HA.out j q
          · obtain rfl : j = 8 := by omega
            exact HV.out, by assumption⟩
        case measure => simp [intOf]
    · have hx : (⟨#[b0, b1, b2, b3, b4, b5, b6, b7, b8, b9]⟩ : ByteArray)[9]'(Nat.lt_of_lt_of_eq (by decide : 9 < 10) hsz.symm) = b9 := rfl
      cases hv : digB b9
      · have HR : Hid (parseR [b0, b1, b2, b3, b4, b5, b6, b7, b8, b9] = (0, 5)) := by
          show _ = _
          rw [parseR_ten, if_neg (by rw [shape_no (l := [b0, b1, b2, b3, b4, b5, b6, b7, b8, b9]) (j := 9) (by decide) hv]; decide)]
        have key : (b9.toNat : Int) < 48 ∨ (¬ (b9.toNat : Int) < 48 ∧ (57 : Int) < (b9.toNat : Int)) := by have := digB_no.1 hv; omega
        clear hv
        rcases key with e1 | ⟨e1, e2⟩
        all_goals go_wp2
        all_goals go_ret2
        all_goals exact ⟨by rw [HR.out]; rfl, hB⟩
      · have HV : Hid (fitAt [b0, b1, b2, b3, b4, b5, b6, b7, b8, b9] 9 = true) := hv
        have e0 := digB_iff.1 hv
        have e1 : ¬ (b9.toNat : Int) < 48 := by omega
        have e2 : ¬ (57 : Int) < (b9.toNat : Int) := by omega
        have e3 : IntKind.u8.wrap ((b9.toNat : Int) - 48) = (b9.toNat : Int) - 48 := by rw [IntKind.wrap_u8]; omega
        have HN : Hid ((decV [b8, b9] : Int) = 10 * (decV [b8] : Int) + ((b9.toNat : Int) - 48)) := by
          show (decV ([b8] ++ [b9]) : Int) = _
          rw [dig_step]; omega
        have hn : nAt [b0, b1, b2, b3, b4, b5, b6, b7, b8, b9] 9 = (decV [b8] : Int) := rfl
        have hn2 : (decV [b8] : Int) ≤ 1000000000 := dec_fair (by simp)
        have hn3 : 0 ≤ (decV [b8] : Int) := Int.natCast_nonneg _
        rw [hn]
        clear hv hn e0
        generalize (decV [b8] : Int) = m at *
        go_wp2
        go_roundw
        case rel => exact ⟨10, by decide, rfl, by rw [show nAt [b0, b1, b2, b3, b4, b5, b6, b7, b8, b9] 10 = (decV [b8, b9] : Int) from rfl, HN.out], hown0, fun j hj => by
          rcases Nat.lt_or_ge j 9 with q | q
          · exact HA.out j q
          · obtain rfl : j = 9 := by omega
            exact HV.out, by assumption⟩
        case measure => simp [intOf]
    · have hown : wr.ownsRow w.heap.size 3 1 u4 2 (([(decV [b0, b1, b2, b3] : Int), (decV [b5, b6] : Int)] : List Int).map (Value.int .i64)) := hown0
      obtain ⟨g, cap, hu4, hg1, hg2, hcap, hcell⟩ := own_two hown
      have c0 : wr.cell? ⟨g, 0, none⟩ = some (.int .i64 (decV [b0, b1, b2, b3] : Int)) := hcell 0 (by decide)
      have c1 : wr.cell? ⟨g, 1, none⟩ = some (.int .i64 (decV [b5, b6] : Int)) := hcell 1 (by decide)
      have hs := shape_yes HA.out
      obtain ⟨q1, q2, q3⟩ := parts_bounds hs
      have HR : Hid (parseR [b0, b1, b2, b3, b4, b5, b6, b7, b8, b9] = parseN (decV [b0, b1, b2, b3]) (decV [b5, b6]) (decV [b8, b9])) := by show _ = _; rw [parseR_ten, if_pos hs]
      have hn : nAt [b0, b1, b2, b3, b4, b5, b6, b7, b8, b9] 10 = (decV [b8, b9] : Int) := rfl
      rw [hn, hu4]
      clear hs hn hu4 hown hown0 hcell HA hsz hz0 hz1 hz2 hi
      generalize decV [b0, b1, b2, b3] = Y at *
      generalize decV [b5, b6] = M at *
      generalize decV [b8, b9] = D at *
      have HG : Hid (1 ≤ M → M ≤ 12 → ∀ W : World, Calls Tryd.prog 31 #[.int .i64 (Y : Int), .int .i64 (M : Int)] W fun e w' => e = .returned (.int .i64 (lenM Y M)) ∧ w' = W) := fun h1 h2 W => by
        have := rlong_any (Y : Int) (M - 1) W (by omega)
        rw [show ((M - 1 : Nat) : Int) + 1 = (M : Int) by omega, show M - 1 + 1 = M by omega] at this
        exact this
      by_cases g1 : (Y : Int) < 1900
      · have HZ : Hid (parseN Y M D = (0, 3)) := by show _ = _; unfold parseN; rw [if_neg (by rw [dateB_iff]; omega)]
        have g1' : ((Y : Int) < 1900) = True := eq_true g1
        go_wp2_with fail
        refine wp_region_held_drew (S := fun w' => w'.cell? ⟨g, 0, none⟩ = some (.int .i64 (Y : Int)) ∧ w'.cell? ⟨g, 1, none⟩ = some (.int .i64 (M : Int)) ∧ Below w.heap.size w w') (by kernel_rfl) ⟨c0, c1, hB.drew⟩ (fun hHeld => ?_)
        (refine takeD (i := 0) (some 46) rfl rfl (by kernel_rfl) (by kernel_rfl) (by kernel_rfl) (fun _ _ _ h => h) (v := ?_) rfl ?_ (by assumption) ?_; rotate_left; (focus (intro w hSw; (try dsimp only at hSw); first | (go_simp; done) | (go_simp; with_reducible rfl))); try simp only [Act.put, List.setIfInBounds_toArray, List.set_cons_zero, List.set_cons_succ]); (refine takeD (i := 1) (some 47) rfl rfl (by kernel_rfl) (by kernel_rfl) (by kernel_rfl) (fun _ _ _ h => h) (v := ?_) rfl ?_ (by assumption) ?_; rotate_left; (focus (intro w hSw; (try dsimp only at hSw); first | (go_simp; done) | (go_simp; with_reducible rfl))); try simp only [Act.put, List.setIfInBounds_toArray, List.set_cons_zero, List.set_cons_succ]); (refine takeD (i := 2) (some 48) rfl rfl (by kernel_rfl) (by kernel_rfl) (by kernel_rfl) (fun _ _ _ h => h) (v := ?_) rfl ?_ (by assumption) ?_; rotate_left; (focus (intro w hSw; (try dsimp only at hSw); first | (go_simp; done) | (go_simp; with_reducible rfl))); try simp only [Act.put, List.setIfInBounds_toArray, List.set_cons_zero, List.set_cons_succ]); (refine takeD (i := 3) (some 49) rfl rfl (by kernel_rfl) (by kernel_rfl) (by kernel_rfl) (fun _ _ _ h => h) (v := ?_) rfl ?_ (by assumption) ?_; rotate_left; (focus (intro w hSw; (try dsimp only at hSw); first | (go_simp; done) | (go_simp; with_reducible rfl))); try simp only [Act.put, List.setIfInBounds_toArray, List.set_cons_zero, List.set_cons_succ]); (refine takeD (i := 4) (some 50) rfl rfl (by kernel_rfl) (by kernel_rfl) (by kernel_rfl) (fun _ _ _ h => h) (v := ?_) rfl ?_ (by assumption) ?_; rotate_left; (focus (intro w hSw; (try dsimp only at hSw); first | (go_simp; done) | (go_simp; with_reducible rfl))); try simp only [Act.put, List.setIfInBounds_toArray, List.set_cons_zero, List.set_cons_succ]); (refine skipD (i := 5) (some 51) rfl rfl (by kernel_rfl) (by kernel_rfl) (by kernel_rfl) (fun _ _ _ h => h) rfl (by assumption) ?_; try simp only [Act.put, List.setIfInBounds_toArray, List.set_cons_zero, List.set_cons_succ]); (refine skipD (i := 6) (some 52) rfl rfl (by kernel_rfl) (by kernel_rfl) (by kernel_rfl) (fun _ _ _ h => h) rfl (by assumption) ?_; try simp only [Act.put, List.setIfInBounds_toArray, List.set_cons_zero, List.set_cons_succ]); (refine skipD (i := 7) (some 53) rfl rfl (by kernel_rfl) (by kernel_rfl) (by kernel_rfl) (fun _ _ _ h => h) rfl (by assumption) ?_; try simp only [Act.put, List.setIfInBounds_toArray, List.set_cons_zero, List.set_cons_succ]); (refine skipD (i := 8) (some 54) rfl rfl (by kernel_rfl) (by kernel_rfl) (by kernel_rfl) (fun _ _ _ h => h) rfl (by assumption) ?_; try simp only [Act.put, List.setIfInBounds_toArray, List.set_cons_zero, List.set_cons_succ]); (refine takeD (i := 9) (some 55) rfl rfl (by kernel_rfl) (by kernel_rfl) (by kernel_rfl) (fun _ _ _ h => h) (v := ?_) rfl ?_ (by assumption) ?_; rotate_left; (focus (intro w hSw; (try dsimp only at hSw); first | (go_simp; done) | (go_simp; with_reducible rfl))); try simp only [Act.put, List.setIfInBounds_toArray, List.set_cons_zero, List.set_cons_succ]); (refine takeD (i := 10) (some 56) rfl rfl (by kernel_rfl) (by kernel_rfl) (by kernel_rfl) (fun _ _ _ h => h) (v := ?_) rfl ?_ (by assumption) ?_; rotate_left; (focus (intro w hSw; (try dsimp only at hSw); first | (go_simp; done) | (go_simp; with_reducible rfl))); try simp only [Act.put, List.setIfInBounds_toArray, List.set_cons_zero, List.set_cons_succ]); (refine skipD (i := 11) (some 57) rfl rfl (by kernel_rfl) (by kernel_rfl) (by kernel_rfl) (fun _ _ _ h => h) rfl (by assumption) ?_; try simp only [Act.put, List.setIfInBounds_toArray, List.set_cons_zero, List.set_cons_succ]); (refine skipD (i := 12) (some 58) rfl rfl (by kernel_rfl) (by kernel_rfl) (by kernel_rfl) (fun _ _ _ h => h) rfl (by assumption) ?_; try simp only [Act.put, List.setIfInBounds_toArray, List.set_cons_zero, List.set_cons_succ]); (refine skipD (i := 13) (some 59) rfl rfl (by kernel_rfl) (by kernel_rfl) (by kernel_rfl) (fun _ _ _ h => h) rfl (by assumption) ?_; try simp only [Act.put, List.setIfInBounds_toArray, List.set_cons_zero, List.set_cons_succ]); (refine skipD (i := 14) (some 60) rfl rfl (by kernel_rfl) (by kernel_rfl) (by kernel_rfl) (fun _ _ _ h => h) rfl (by assumption) ?_; try simp only [Act.put, List.setIfInBounds_toArray, List.set_cons_zero, List.set_cons_succ]); (refine takeD (i := 15) (some 61) rfl rfl (by kernel_rfl) (by kernel_rfl) (by kernel_rfl) (fun _ _ _ h => h) (v := ?_) rfl ?_ (by assumption) ?_; rotate_left; (focus (intro w hSw; (try dsimp only at hSw); first | (go_simp; done) | (go_simp; with_reducible rfl))); try simp only [Act.put, List.setIfInBounds_toArray, List.set_cons_zero, List.set_cons_succ]); (refine takeD (i := 16) (some 62) rfl rfl (by kernel_rfl) (by kernel_rfl) (by kernel_rfl) (fun _ _ _ h => h) (v := ?_) rfl ?_ (by assumption) ?_; rotate_left; (focus (intro w hSw; (try dsimp only at hSw); first | (go_simp; done) | (go_simp; with_reducible rfl))); try simp only [Act.put, List.setIfInBounds_toArray, List.set_cons_zero, List.set_cons_succ]); (refine skipD (i := 17) (some 63) rfl rfl (by kernel_rfl) (by kernel_rfl) (by kernel_rfl) (fun _ _ _ h => h) rfl (by assumption) ?_; try simp only [Act.put, List.setIfInBounds_toArray, List.set_cons_zero, List.set_cons_succ]); (refine skipD (i := 18) (some 64) rfl rfl (by kernel_rfl) (by kernel_rfl) (by kernel_rfl) (fun _ _ _ h => h) rfl (by assumption) ?_; try simp only [Act.put, List.setIfInBounds_toArray, List.set_cons_zero, List.set_cons_succ]); (refine takeD (i := 19) (some 65) rfl rfl (by kernel_rfl) (by kernel_rfl) (by kernel_rfl) (fun _ _ _ h => h) (v := ?_) rfl ?_ (by assumption) ?_; rotate_left; (focus (intro w hSw; (try dsimp only at hSw); first | (go_simp; done) | (go_simp; with_reducible rfl))); try simp only [Act.put, List.setIfInBounds_toArray, List.set_cons_zero, List.set_cons_succ]); (refine takeD (i := 20) (some 66) rfl rfl (by kernel_rfl) (by kernel_rfl) (by kernel_rfl) (fun _ _ _ h => h) (v := ?_) rfl ?_ (by assumption) ?_; rotate_left; (focus (intro w hSw; (try dsimp only at hSw); first | (go_simp; done) | (go_simp; with_reducible rfl))); try simp only [Act.put, List.setIfInBounds_toArray, List.set_cons_zero, List.set_cons_succ]); (refine skipD (i := 21) (some 67) rfl rfl (by kernel_rfl) (by kernel_rfl) (by kernel_rfl) (fun _ _ _ h => h) rfl (by assumption) ?_; try simp only [Act.put, List.setIfInBounds_toArray, List.set_cons_zero, List.set_cons_succ]); (refine skipD (i := 22) (some 68) rfl rfl (by kernel_rfl) (by kernel_rfl) (by kernel_rfl) (fun _ _ _ h => h) rfl (by assumption) ?_; try simp only [Act.put, List.setIfInBounds_toArray, List.set_cons_zero, List.set_cons_succ]); (refine skipD (i := 23) (some 69) rfl rfl (by kernel_rfl) (by kernel_rfl) (by kernel_rfl) (fun _ _ _ h => h) rfl (by assumption) ?_; try simp only [Act.put, List.setIfInBounds_toArray, List.set_cons_zero, List.set_cons_succ]); (refine skipD (i := 24) (some 70) rfl rfl (by kernel_rfl) (by kernel_rfl) (by kernel_rfl) (fun _ _ _ h => h) rfl (by assumption) ?_; try simp only [Act.put, List.setIfInBounds_toArray, List.set_cons_zero, List.set_cons_succ]); (refine skipD (i := 25) (some 71) rfl rfl (by kernel_rfl) (by kernel_rfl) (by kernel_rfl) (fun _ _ _ h => h) rfl (by assumption) ?_; try simp only [Act.put, List.setIfInBounds_toArray, List.set_cons_zero, List.set_cons_succ]); (refine skipD (i := 26) (some 72) rfl rfl (by kernel_rfl) (by kernel_rfl) (by kernel_rfl) (fun _ _ _ h => h) rfl (by assumption) ?_; try simp only [Act.put, List.setIfInBounds_toArray, List.set_cons_zero, List.set_cons_succ]); (refine skipD (i := 27) (some 73) rfl rfl (by kernel_rfl) (by kernel_rfl) (by kernel_rfl) (fun _ _ _ h => h) rfl (by assumption) ?_; try simp only [Act.put, List.setIfInBounds_toArray, List.set_cons_zero, List.set_cons_succ]); (refine skipD (i := 28) (some 74) rfl rfl (by kernel_rfl) (by kernel_rfl) (by kernel_rfl) (fun _ _ _ h => h) rfl (by assumption) ?_; try simp only [Act.put, List.setIfInBounds_toArray, List.set_cons_zero, List.set_cons_succ]); (refine skipD (i := 29) (some 75) rfl rfl (by kernel_rfl) (by kernel_rfl) (by kernel_rfl) (fun _ _ _ h => h) rfl (by assumption) ?_; try simp only [Act.put, List.setIfInBounds_toArray, List.set_cons_zero, List.set_cons_succ]); (refine takeD (i := 30) (some 76) rfl rfl (by kernel_rfl) (by kernel_rfl) (by kernel_rfl) (fun _ _ _ h => h) (v := ?_) rfl ?_ (by assumption) ?_; rotate_left; (focus (intro w hSw; (try dsimp only at hSw); first | (go_simp; done) | (go_simp; with_reducible rfl))); try simp only [Act.put, List.setIfInBounds_toArray, List.set_cons_zero, List.set_cons_succ]); refine wpAnyH_done (by kernel_rfl) ?_ _
        clear hHeld
        have hB2 : Below w.heap.size w wr.drew := hB.drew
        go_wp2
        go_ret2
        exact ⟨by rw [HR.out, HZ.out]; rfl, hB2⟩
      · skip
        by_cases g2 : (M : Int) < 1
        · have HZ : Hid (parseN Y M D = (0, 3)) := by show _ = _; unfold parseN; rw [if_neg (by rw [dateB_iff]; omega)]
          have g1' : ((Y : Int) < 1900) = False := eq_false g1
          have g2' : ((M : Int) < 1) = True := eq_true g2
          go_wp2_with fail
          refine wp_region_held_drew (S := fun w' => w'.cell? ⟨g, 0, none⟩ = some (.int .i64 (Y : Int)) ∧ w'.cell? ⟨g, 1, none⟩ = some (.int .i64 (M : Int)) ∧ Below w.heap.size w w') (by kernel_rfl) ⟨c0, c1, hB.drew⟩ (fun hHeld => ?_)
          (refine takeD (i := 0) (some 46) rfl rfl (by kernel_rfl) (by kernel_rfl) (by kernel_rfl) (fun _ _ _ h => h) (v := ?_) rfl ?_ (by assumption) ?_; rotate_left; (focus (intro w hSw; (try dsimp only at hSw); first | (go_simp; done) | (go_simp; with_reducible rfl))); try simp only [Act.put, List.setIfInBounds_toArray, List.set_cons_zero, List.set_cons_succ]); (refine takeD (i := 1) (some 47) rfl rfl (by kernel_rfl) (by kernel_rfl) (by kernel_rfl) (fun _ _ _ h => h) (v := ?_) rfl ?_ (by assumption) ?_; rotate_left; (focus (intro w hSw; (try dsimp only at hSw); first | (go_simp; done) | (go_simp; with_reducible rfl))); try simp only [Act.put, List.setIfInBounds_toArray, List.set_cons_zero, List.set_cons_succ]); (refine takeD (i := 2) (some 48) rfl rfl (by kernel_rfl) (by kernel_rfl) (by kernel_rfl) (fun _ _ _ h => h) (v := ?_) rfl ?_ (by assumption) ?_; rotate_left; (focus (intro w hSw; (try dsimp only at hSw); first | (go_simp; done) | (go_simp; with_reducible rfl))); try simp only [Act.put, List.setIfInBounds_toArray, List.set_cons_zero, List.set_cons_succ]); (refine takeD (i := 3) (some 49) rfl rfl (by kernel_rfl) (by kernel_rfl) (by kernel_rfl) (fun _ _ _ h => h) (v := ?_) rfl ?_ (by assumption) ?_; rotate_left; (focus (intro w hSw; (try dsimp only at hSw); first | (go_simp; done) | (go_simp; with_reducible rfl))); try simp only [Act.put, List.setIfInBounds_toArray, List.set_cons_zero, List.set_cons_succ]); (refine takeD (i := 4) (some 50) rfl rfl (by kernel_rfl) (by kernel_rfl) (by kernel_rfl) (fun _ _ _ h => h) (v := ?_) rfl ?_ (by assumption) ?_; rotate_left; (focus (intro w hSw; (try dsimp only at hSw); first | (go_simp; done) | (go_simp; with_reducible rfl))); try simp only [Act.put, List.setIfInBounds_toArray, List.set_cons_zero, List.set_cons_succ]); (refine takeD (i := 5) (some 51) rfl rfl (by kernel_rfl) (by kernel_rfl) (by kernel_rfl) (fun _ _ _ h => h) (v := ?_) rfl ?_ (by assumption) ?_; rotate_left; (focus (intro w hSw; (try dsimp only at hSw); first | (go_simp; done) | (go_simp; with_reducible rfl))); try simp only [Act.put, List.setIfInBounds_toArray, List.set_cons_zero, List.set_cons_succ]); (refine takeD (i := 6) (some 52) rfl rfl (by kernel_rfl) (by kernel_rfl) (by kernel_rfl) (fun _ _ _ h => h) (v := ?_) rfl ?_ (by assumption) ?_; rotate_left; (focus (intro w hSw; (try dsimp only at hSw); first | (go_simp; done) | (go_simp; with_reducible rfl))); try simp only [Act.put, List.setIfInBounds_toArray, List.set_cons_zero, List.set_cons_succ]); (refine takeD (i := 7) (some 53) rfl rfl (by kernel_rfl) (by kernel_rfl) (by kernel_rfl) (fun _ _ _ h => h) (v := ?_) rfl ?_ (by assumption) ?_; rotate_left; (focus (intro w hSw; (try dsimp only at hSw); first | (go_simp; done) | (go_simp; with_reducible rfl))); try simp only [Act.put, List.setIfInBounds_toArray, List.set_cons_zero, List.set_cons_succ]); (refine takeD (i := 8) (some 54) rfl rfl (by kernel_rfl) (by kernel_rfl) (by kernel_rfl) (fun _ _ _ h => h) (v := ?_) rfl ?_ (by assumption) ?_; rotate_left; (focus (intro w hSw; (try dsimp only at hSw); first | (go_simp; done) | (go_simp; with_reducible rfl))); try simp only [Act.put, List.setIfInBounds_toArray, List.set_cons_zero, List.set_cons_succ]); (refine takeD (i := 9) (some 55) rfl rfl (by kernel_rfl) (by kernel_rfl) (by kernel_rfl) (fun _ _ _ h => h) (v := ?_) rfl ?_ (by assumption) ?_; rotate_left; (focus (intro w hSw; (try dsimp only at hSw); first | (go_simp; done) | (go_simp; with_reducible rfl))); try simp only [Act.put, List.setIfInBounds_toArray, List.set_cons_zero, List.set_cons_succ]); (refine takeD (i := 10) (some 56) rfl rfl (by kernel_rfl) (by kernel_rfl) (by kernel_rfl) (fun _ _ _ h => h) (v := ?_) rfl ?_ (by assumption) ?_; rotate_left; (focus (intro w hSw; (try dsimp only at hSw); first | (go_simp; done) | (go_simp; with_reducible rfl))); try simp only [Act.put, List.setIfInBounds_toArray, List.set_cons_zero, List.set_cons_succ]); (refine skipD (i := 11) (some 57) rfl rfl (by kernel_rfl) (by kernel_rfl) (by kernel_rfl) (fun _ _ _ h => h) rfl (by assumption) ?_; try simp only [Act.put, List.setIfInBounds_toArray, List.set_cons_zero, List.set_cons_succ]); (refine skipD (i := 12) (some 58) rfl rfl (by kernel_rfl) (by kernel_rfl) (by kernel_rfl) (fun _ _ _ h => h) rfl (by assumption) ?_; try simp only [Act.put, List.setIfInBounds_toArray, List.set_cons_zero, List.set_cons_succ]); (refine skipD (i := 13) (some 59) rfl rfl (by kernel_rfl) (by kernel_rfl) (by kernel_rfl) (fun _ _ _ h => h) rfl (by assumption) ?_; try simp only [Act.put, List.setIfInBounds_toArray, List.set_cons_zero, List.set_cons_succ]); (refine skipD (i := 14) (some 60) rfl rfl (by kernel_rfl) (by kernel_rfl) (by kernel_rfl) (fun _ _ _ h => h) rfl (by assumption) ?_; try simp only [Act.put, List.setIfInBounds_toArray, List.set_cons_zero, List.set_cons_succ]); (refine takeD (i := 15) (some 61) rfl rfl (by kernel_rfl) (by kernel_rfl) (by kernel_rfl) (fun _ _ _ h => h) (v := ?_) rfl ?_ (by assumption) ?_; rotate_left; (focus (intro w hSw; (try dsimp only at hSw); first | (go_simp; done) | (go_simp; with_reducible rfl))); try simp only [Act.put, List.setIfInBounds_toArray, List.set_cons_zero, List.set_cons_succ]); (refine takeD (i := 16) (some 62) rfl rfl (by kernel_rfl) (by kernel_rfl) (by kernel_rfl) (fun _ _ _ h => h) (v := ?_) rfl ?_ (by assumption) ?_; rotate_left; (focus (intro w hSw; (try dsimp only at hSw); first | (go_simp; done) | (go_simp; with_reducible rfl))); try simp only [Act.put, List.setIfInBounds_toArray, List.set_cons_zero, List.set_cons_succ]); (refine skipD (i := 17) (some 63) rfl rfl (by kernel_rfl) (by kernel_rfl) (by kernel_rfl) (fun _ _ _ h => h) rfl (by assumption) ?_; try simp only [Act.put, List.setIfInBounds_toArray, List.set_cons_zero, List.set_cons_succ]); (refine skipD (i := 18) (some 64) rfl rfl (by kernel_rfl) (by kernel_rfl) (by kernel_rfl) (fun _ _ _ h => h) rfl (by assumption) ?_; try simp only [Act.put, List.setIfInBounds_toArray, List.set_cons_zero, List.set_cons_succ]); (refine takeD (i := 19) (some 65) rfl rfl (by kernel_rfl) (by kernel_rfl) (by kernel_rfl) (fun _ _ _ h => h) (v := ?_) rfl ?_ (by assumption) ?_; rotate_left; (focus (intro w hSw; (try dsimp only at hSw); first | (go_simp; done) | (go_simp; with_reducible rfl))); try simp only [Act.put, List.setIfInBounds_toArray, List.set_cons_zero, List.set_cons_succ]); (refine takeD (i := 20) (some 66) rfl rfl (by kernel_rfl) (by kernel_rfl) (by kernel_rfl) (fun _ _ _ h => h) (v := ?_) rfl ?_ (by assumption) ?_; rotate_left; (focus (intro w hSw; (try dsimp only at hSw); first | (go_simp; done) | (go_simp; with_reducible rfl))); try simp only [Act.put, List.setIfInBounds_toArray, List.set_cons_zero, List.set_cons_succ]); (refine skipD (i := 21) (some 67) rfl rfl (by kernel_rfl) (by kernel_rfl) (by kernel_rfl) (fun _ _ _ h => h) rfl (by assumption) ?_; try simp only [Act.put, List.setIfInBounds_toArray, List.set_cons_zero, List.set_cons_succ]); (refine skipD (i := 22) (some 68) rfl rfl (by kernel_rfl) (by kernel_rfl) (by kernel_rfl) (fun _ _ _ h => h) rfl (by assumption) ?_; try simp only [Act.put, List.setIfInBounds_toArray, List.set_cons_zero, List.set_cons_succ]); (refine skipD (i := 23) (some 69) rfl rfl (by kernel_rfl) (by kernel_rfl) (by kernel_rfl) (fun _ _ _ h => h) rfl (by assumption) ?_; try simp only [Act.put, List.setIfInBounds_toArray, List.set_cons_zero, List.set_cons_succ]); (refine skipD (i := 24) (some 70) rfl rfl (by kernel_rfl) (by kernel_rfl) (by kernel_rfl) (fun _ _ _ h => h) rfl (by assumption) ?_; try simp only [Act.put, List.setIfInBounds_toArray, List.set_cons_zero, List.set_cons_succ]); (refine skipD (i := 25) (some 71) rfl rfl (by kernel_rfl) (by kernel_rfl) (by kernel_rfl) (fun _ _ _ h => h) rfl (by assumption) ?_; try simp only [Act.put, List.setIfInBounds_toArray, List.set_cons_zero, List.set_cons_succ]); (refine skipD (i := 26) (some 72) rfl rfl (by kernel_rfl) (by kernel_rfl) (by kernel_rfl) (fun _ _ _ h => h) rfl (by assumption) ?_; try simp only [Act.put, List.setIfInBounds_toArray, List.set_cons_zero, List.set_cons_succ]); (refine skipD (i := 27) (some 73) rfl rfl (by kernel_rfl) (by kernel_rfl) (by kernel_rfl) (fun _ _ _ h => h) rfl (by assumption) ?_; try simp only [Act.put, List.setIfInBounds_toArray, List.set_cons_zero, List.set_cons_succ]); (refine skipD (i := 28) (some 74) rfl rfl (by kernel_rfl) (by kernel_rfl) (by kernel_rfl) (fun _ _ _ h => h) rfl (by assumption) ?_; try simp only [Act.put, List.setIfInBounds_toArray, List.set_cons_zero, List.set_cons_succ]); (refine skipD (i := 29) (some 75) rfl rfl (by kernel_rfl) (by kernel_rfl) (by kernel_rfl) (fun _ _ _ h => h) rfl (by assumption) ?_; try simp only [Act.put, List.setIfInBounds_toArray, List.set_cons_zero, List.set_cons_succ]); (refine takeD (i := 30) (some 76) rfl rfl (by kernel_rfl) (by kernel_rfl) (by kernel_rfl) (fun _ _ _ h => h) (v := ?_) rfl ?_ (by assumption) ?_; rotate_left; (focus (intro w hSw; (try dsimp only at hSw); first | (go_simp; done) | (go_simp; with_reducible rfl))); try simp only [Act.put, List.setIfInBounds_toArray, List.set_cons_zero, List.set_cons_succ]); refine wpAnyH_done (by kernel_rfl) ?_ _
          clear hHeld
          have hB2 : Below w.heap.size w wr.drew := hB.drew
          go_wp2
          go_ret2
          exact ⟨by rw [HR.out, HZ.out]; rfl, hB2⟩
        · skip
          by_cases g3 : (12 : Int) < (M : Int)
          · have HZ : Hid (parseN Y M D = (0, 3)) := by show _ = _; unfold parseN; rw [if_neg (by rw [dateB_iff]; omega)]
            have g1' : ((Y : Int) < 1900) = False := eq_false g1
            have g2' : ((M : Int) < 1) = False := eq_false g2
            have g3' : ((12 : Int) < (M : Int)) = True := eq_true g3
            go_wp2_with fail
            refine wp_region_held_drew (S := fun w' => w'.cell? ⟨g, 0, none⟩ = some (.int .i64 (Y : Int)) ∧ w'.cell? ⟨g, 1, none⟩ = some (.int .i64 (M : Int)) ∧ Below w.heap.size w w') (by kernel_rfl) ⟨c0, c1, hB.drew⟩ (fun hHeld => ?_)
            (refine takeD (i := 0) (some 46) rfl rfl (by kernel_rfl) (by kernel_rfl) (by kernel_rfl) (fun _ _ _ h => h) (v := ?_) rfl ?_ (by assumption) ?_; rotate_left; (focus (intro w hSw; (try dsimp only at hSw); first | (go_simp; done) | (go_simp; with_reducible rfl))); try simp only [Act.put, List.setIfInBounds_toArray, List.set_cons_zero, List.set_cons_succ]); (refine takeD (i := 1) (some 47) rfl rfl (by kernel_rfl) (by kernel_rfl) (by kernel_rfl) (fun _ _ _ h => h) (v := ?_) rfl ?_ (by assumption) ?_; rotate_left; (focus (intro w hSw; (try dsimp only at hSw); first | (go_simp; done) | (go_simp; with_reducible rfl))); try simp only [Act.put, List.setIfInBounds_toArray, List.set_cons_zero, List.set_cons_succ]); (refine takeD (i := 2) (some 48) rfl rfl (by kernel_rfl) (by kernel_rfl) (by kernel_rfl) (fun _ _ _ h => h) (v := ?_) rfl ?_ (by assumption) ?_; rotate_left; (focus (intro w hSw; (try dsimp only at hSw); first | (go_simp; done) | (go_simp; with_reducible rfl))); try simp only [Act.put, List.setIfInBounds_toArray, List.set_cons_zero, List.set_cons_succ]); (refine takeD (i := 3) (some 49) rfl rfl (by kernel_rfl) (by kernel_rfl) (by kernel_rfl) (fun _ _ _ h => h) (v := ?_) rfl ?_ (by assumption) ?_; rotate_left; (focus (intro w hSw; (try dsimp only at hSw); first | (go_simp; done) | (go_simp; with_reducible rfl))); try simp only [Act.put, List.setIfInBounds_toArray, List.set_cons_zero, List.set_cons_succ]); (refine takeD (i := 4) (some 50) rfl rfl (by kernel_rfl) (by kernel_rfl) (by kernel_rfl) (fun _ _ _ h => h) (v := ?_) rfl ?_ (by assumption) ?_; rotate_left; (focus (intro w hSw; (try dsimp only at hSw); first | (go_simp; done) | (go_simp; with_reducible rfl))); try simp only [Act.put, List.setIfInBounds_toArray, List.set_cons_zero, List.set_cons_succ]); (refine takeD (i := 5) (some 51) rfl rfl (by kernel_rfl) (by kernel_rfl) (by kernel_rfl) (fun _ _ _ h => h) (v := ?_) rfl ?_ (by assumption) ?_; rotate_left; (focus (intro w hSw; (try dsimp only at hSw); first | (go_simp; done) | (go_simp; with_reducible rfl))); try simp only [Act.put, List.setIfInBounds_toArray, List.set_cons_zero, List.set_cons_succ]); (refine takeD (i := 6) (some 52) rfl rfl (by kernel_rfl) (by kernel_rfl) (by kernel_rfl) (fun _ _ _ h => h) (v := ?_) rfl ?_ (by assumption) ?_; rotate_left; (focus (intro w hSw; (try dsimp only at hSw); first | (go_simp; done) | (go_simp; with_reducible rfl))); try simp only [Act.put, List.setIfInBounds_toArray, List.set_cons_zero, List.set_cons_succ]); (refine takeD (i := 7) (some 53) rfl rfl (by kernel_rfl) (by kernel_rfl) (by kernel_rfl) (fun _ _ _ h => h) (v := ?_) rfl ?_ (by assumption) ?_; rotate_left; (focus (intro w hSw; (try dsimp only at hSw); first | (go_simp; done) | (go_simp; with_reducible rfl))); try simp only [Act.put, List.setIfInBounds_toArray, List.set_cons_zero, List.set_cons_succ]); (refine takeD (i := 8) (some 54) rfl rfl (by kernel_rfl) (by kernel_rfl) (by kernel_rfl) (fun _ _ _ h => h) (v := ?_) rfl ?_ (by assumption) ?_; rotate_left; (focus (intro w hSw; (try dsimp only at hSw); first | (go_simp; done) | (go_simp; with_reducible rfl))); try simp only [Act.put, List.setIfInBounds_toArray, List.set_cons_zero, List.set_cons_succ]); (refine takeD (i := 9) (some 55) rfl rfl (by kernel_rfl) (by kernel_rfl) (by kernel_rfl) (fun _ _ _ h => h) (v := ?_) rfl ?_ (by assumption) ?_; rotate_left; (focus (intro w hSw; (try dsimp only at hSw); first | (go_simp; done) | (go_simp; with_reducible rfl))); try simp only [Act.put, List.setIfInBounds_toArray, List.set_cons_zero, List.set_cons_succ]); (refine takeD (i := 10) (some 56) rfl rfl (by kernel_rfl) (by kernel_rfl) (by kernel_rfl) (fun _ _ _ h => h) (v := ?_) rfl ?_ (by assumption) ?_; rotate_left; (focus (intro w hSw; (try dsimp only at hSw); first | (go_simp; done) | (go_simp; with_reducible rfl))); try simp only [Act.put, List.setIfInBounds_toArray, List.set_cons_zero, List.set_cons_succ]); (refine takeD (i := 11) (some 57) rfl rfl (by kernel_rfl) (by kernel_rfl) (by kernel_rfl) (fun _ _ _ h => h) (v := ?_) rfl ?_ (by assumption) ?_; rotate_left; (focus (intro w hSw; (try dsimp only at hSw); first | (go_simp; done) | (go_simp; with_reducible rfl))); try simp only [Act.put, List.setIfInBounds_toArray, List.set_cons_zero, List.set_cons_succ]); (refine takeD (i := 12) (some 58) rfl rfl (by kernel_rfl) (by kernel_rfl) (by kernel_rfl) (fun _ _ _ h => h) (v := ?_) rfl ?_ (by assumption) ?_; rotate_left; (focus (intro w hSw; (try dsimp only at hSw); first | (go_simp; done) | (go_simp; with_reducible rfl))); try simp only [Act.put, List.setIfInBounds_toArray, List.set_cons_zero, List.set_cons_succ]); (refine takeD (i := 13) (some 59) rfl rfl (by kernel_rfl) (by kernel_rfl) (by kernel_rfl) (fun _ _ _ h => h) (v := ?_) rfl ?_ (by assumption) ?_; rotate_left; (focus (intro w hSw; (try dsimp only at hSw); first | (go_simp; done) | (go_simp; with_reducible rfl))); try simp only [Act.put, List.setIfInBounds_toArray, List.set_cons_zero, List.set_cons_succ]); (refine takeD (i := 14) (some 60) rfl rfl (by kernel_rfl) (by kernel_rfl) (by kernel_rfl) (fun _ _ _ h => h) (v := ?_) rfl ?_ (by assumption) ?_; rotate_left; (focus (intro w hSw; (try dsimp only at hSw); first | (go_simp; done) | (go_simp; with_reducible rfl))); try simp only [Act.put, List.setIfInBounds_toArray, List.set_cons_zero, List.set_cons_succ]); (refine takeD (i := 15) (some 61) rfl rfl (by kernel_rfl) (by kernel_rfl) (by kernel_rfl) (fun _ _ _ h => h) (v := ?_) rfl ?_ (by assumption) ?_; rotate_left; (focus (intro w hSw; (try dsimp only at hSw); first | (go_simp; done) | (go_simp; with_reducible rfl))); try simp only [Act.put, List.setIfInBounds_toArray, List.set_cons_zero, List.set_cons_succ]); (refine takeD (i := 16) (some 62) rfl rfl (by kernel_rfl) (by kernel_rfl) (by kernel_rfl) (fun _ _ _ h => h) (v := ?_) rfl ?_ (by assumption) ?_; rotate_left; (focus (intro w hSw; (try dsimp only at hSw); first | (go_simp; done) | (go_simp; with_reducible rfl))); try simp only [Act.put, List.setIfInBounds_toArray, List.set_cons_zero, List.set_cons_succ]); (refine skipD (i := 17) (some 63) rfl rfl (by kernel_rfl) (by kernel_rfl) (by kernel_rfl) (fun _ _ _ h => h) rfl (by assumption) ?_; try simp only [Act.put, List.setIfInBounds_toArray, List.set_cons_zero, List.set_cons_succ]); (refine skipD (i := 18) (some 64) rfl rfl (by kernel_rfl) (by kernel_rfl) (by kernel_rfl) (fun _ _ _ h => h) rfl (by assumption) ?_; try simp only [Act.put, List.setIfInBounds_toArray, List.set_cons_zero, List.set_cons_succ]); (refine takeD (i := 19) (some 65) rfl rfl (by kernel_rfl) (by kernel_rfl) (by kernel_rfl) (fun _ _ _ h => h) (v := ?_) rfl ?_ (by assumption) ?_; rotate_left; (focus (intro w hSw; (try dsimp only at hSw); first | (go_simp; done) | (go_simp; with_reducible rfl))); try simp only [Act.put, List.setIfInBounds_toArray, List.set_cons_zero, List.set_cons_succ]); (refine takeD (i := 20) (some 66) rfl rfl (by kernel_rfl) (by kernel_rfl) (by kernel_rfl) (fun _ _ _ h => h) (v := ?_) rfl ?_ (by assumption) ?_; rotate_left; (focus (intro w hSw; (try dsimp only at hSw); first | (go_simp; done) | (go_simp; with_reducible rfl))); try simp only [Act.put, List.setIfInBounds_toArray, List.set_cons_zero, List.set_cons_succ]); (refine skipD (i := 21) (some 67) rfl rfl (by kernel_rfl) (by kernel_rfl) (by kernel_rfl) (fun _ _ _ h => h) rfl (by assumption) ?_; try simp only [Act.put, List.setIfInBounds_toArray, List.set_cons_zero, List.set_cons_succ]); (refine skipD (i := 22) (some 68) rfl rfl (by kernel_rfl) (by kernel_rfl) (by kernel_rfl) (fun _ _ _ h => h) rfl (by assumption) ?_; try simp only [Act.put, List.setIfInBounds_toArray, List.set_cons_zero, List.set_cons_succ]); (refine skipD (i := 23) (some 69) rfl rfl (by kernel_rfl) (by kernel_rfl) (by kernel_rfl) (fun _ _ _ h => h) rfl (by assumption) ?_; try simp only [Act.put, List.setIfInBounds_toArray, List.set_cons_zero, List.set_cons_succ]); (refine skipD (i := 24) (some 70) rfl rfl (by kernel_rfl) (by kernel_rfl) (by kernel_rfl) (fun _ _ _ h => h) rfl (by assumption) ?_; try simp only [Act.put, List.setIfInBounds_toArray, List.set_cons_zero, List.set_cons_succ]); (refine skipD (i := 25) (some 71) rfl rfl (by kernel_rfl) (by kernel_rfl) (by kernel_rfl) (fun _ _ _ h => h) rfl (by assumption) ?_; try simp only [Act.put, List.setIfInBounds_toArray, List.set_cons_zero, List.set_cons_succ]); (refine skipD (i := 26) (some 72) rfl rfl (by kernel_rfl) (by kernel_rfl) (by kernel_rfl) (fun _ _ _ h => h) rfl (by assumption) ?_; try simp only [Act.put, List.setIfInBounds_toArray, List.set_cons_zero, List.set_cons_succ]); (refine skipD (i := 27) (some 73) rfl rfl (by kernel_rfl) (by kernel_rfl) (by kernel_rfl) (fun _ _ _ h => h) rfl (by assumption) ?_; try simp only [Act.put, List.setIfInBounds_toArray, List.set_cons_zero, List.set_cons_succ]); (refine skipD (i := 28) (some 74) rfl rfl (by kernel_rfl) (by kernel_rfl) (by kernel_rfl) (fun _ _ _ h => h) rfl (by assumption) ?_; try simp only [Act.put, List.setIfInBounds_toArray, List.set_cons_zero, List.set_cons_succ]); (refine skipD (i := 29) (some 75) rfl rfl (by kernel_rfl) (by kernel_rfl) (by kernel_rfl) (fun _ _ _ h => h) rfl (by assumption) ?_; try simp only [Act.put, List.setIfInBounds_toArray, List.set_cons_zero, List.set_cons_succ]); (refine takeD (i := 30) (some 76) rfl rfl (by kernel_rfl) (by kernel_rfl) (by kernel_rfl) (fun _ _ _ h => h) (v := ?_) rfl ?_ (by assumption) ?_; rotate_left; (focus (intro w hSw; (try dsimp only at hSw); first | (go_simp; done) | (go_simp; with_reducible rfl))); try simp only [Act.put, List.setIfInBounds_toArray, List.set_cons_zero, List.set_cons_succ]); refine wpAnyH_done (by kernel_rfl) ?_ _
            clear hHeld
            have hB2 : Below w.heap.size w wr.drew := hB.drew
            go_wp2
            go_ret2
            exact ⟨by rw [HR.out, HZ.out]; rfl, hB2⟩
          · skip
            by_cases g4 : (D : Int) < 1
            · have HZ : Hid (parseN Y M D = (0, 3)) := by show _ = _; unfold parseN; rw [if_neg (by rw [dateB_iff]; omega)]
              have g1' : ((Y : Int) < 1900) = False := eq_false g1
              have g2' : ((M : Int) < 1) = False := eq_false g2
              have g3' : ((12 : Int) < (M : Int)) = False := eq_false g3
              have g4' : ((D : Int) < 1) = True := eq_true g4
              go_wp2_with fail
              refine wp_region_held_drew (S := fun w' => w'.cell? ⟨g, 0, none⟩ = some (.int .i64 (Y : Int)) ∧ w'.cell? ⟨g, 1, none⟩ = some (.int .i64 (M : Int)) ∧ Below w.heap.size w w') (by kernel_rfl) ⟨c0, c1, hB.drew⟩ (fun hHeld => ?_)
              (refine takeD (i := 0) (some 46) rfl rfl (by kernel_rfl) (by kernel_rfl) (by kernel_rfl) (fun _ _ _ h => h) (v := ?_) rfl ?_ (by assumption) ?_; rotate_left; (focus (intro w hSw; (try dsimp only at hSw); first | (go_simp; done) | (go_simp; with_reducible rfl))); try simp only [Act.put, List.setIfInBounds_toArray, List.set_cons_zero, List.set_cons_succ]); (refine takeD (i := 1) (some 47) rfl rfl (by kernel_rfl) (by kernel_rfl) (by kernel_rfl) (fun _ _ _ h => h) (v := ?_) rfl ?_ (by assumption) ?_; rotate_left; (focus (intro w hSw; (try dsimp only at hSw); first | (go_simp; done) | (go_simp; with_reducible rfl))); try simp only [Act.put, List.setIfInBounds_toArray, List.set_cons_zero, List.set_cons_succ]); (refine takeD (i := 2) (some 48) rfl rfl (by kernel_rfl) (by kernel_rfl) (by kernel_rfl) (fun _ _ _ h => h) (v := ?_) rfl ?_ (by assumption) ?_; rotate_left; (focus (intro w hSw; (try dsimp only at hSw); first | (go_simp; done) | (go_simp; with_reducible rfl))); try simp only [Act.put, List.setIfInBounds_toArray, List.set_cons_zero, List.set_cons_succ]); (refine takeD (i := 3) (some 49) rfl rfl (by kernel_rfl) (by kernel_rfl) (by kernel_rfl) (fun _ _ _ h => h) (v := ?_) rfl ?_ (by assumption) ?_; rotate_left; (focus (intro w hSw; (try dsimp only at hSw); first | (go_simp; done) | (go_simp; with_reducible rfl))); try simp only [Act.put, List.setIfInBounds_toArray, List.set_cons_zero, List.set_cons_succ]); (refine takeD (i := 4) (some 50) rfl rfl (by kernel_rfl) (by kernel_rfl) (by kernel_rfl) (fun _ _ _ h => h) (v := ?_) rfl ?_ (by assumption) ?_; rotate_left; (focus (intro w hSw; (try dsimp only at hSw); first | (go_simp; done) | (go_simp; with_reducible rfl))); try simp only [Act.put, List.setIfInBounds_toArray, List.set_cons_zero, List.set_cons_succ]); (refine takeD (i := 5) (some 51) rfl rfl (by kernel_rfl) (by kernel_rfl) (by kernel_rfl) (fun _ _ _ h => h) (v := ?_) rfl ?_ (by assumption) ?_; rotate_left; (focus (intro w hSw; (try dsimp only at hSw); first | (go_simp; done) | (go_simp; with_reducible rfl))); try simp only [Act.put, List.setIfInBounds_toArray, List.set_cons_zero, List.set_cons_succ]); (refine takeD (i := 6) (some 52) rfl rfl (by kernel_rfl) (by kernel_rfl) (by kernel_rfl) (fun _ _ _ h => h) (v := ?_) rfl ?_ (by assumption) ?_; rotate_left; (focus (intro w hSw; (try dsimp only at hSw); first | (go_simp; done) | (go_simp; with_reducible rfl))); try simp only [Act.put, List.setIfInBounds_toArray, List.set_cons_zero, List.set_cons_succ]); (refine takeD (i := 7) (some 53) rfl rfl (by kernel_rfl) (by kernel_rfl) (by kernel_rfl) (fun _ _ _ h => h) (v := ?_) rfl ?_ (by assumption) ?_; rotate_left; (focus (intro w hSw; (try dsimp only at hSw); first | (go_simp; done) | (go_simp; with_reducible rfl))); try simp only [Act.put, List.setIfInBounds_toArray, List.set_cons_zero, List.set_cons_succ]); (refine takeD (i := 8) (some 54) rfl rfl (by kernel_rfl) (by kernel_rfl) (by kernel_rfl) (fun _ _ _ h => h) (v := ?_) rfl ?_ (by assumption) ?_; rotate_left; (focus (intro w hSw; (try dsimp only at hSw); first | (go_simp; done) | (go_simp; with_reducible rfl))); try simp only [Act.put, List.setIfInBounds_toArray, List.set_cons_zero, List.set_cons_succ]); (refine takeD (i := 9) (some 55) rfl rfl (by kernel_rfl) (by kernel_rfl) (by kernel_rfl) (fun _ _ _ h => h) (v := ?_) rfl ?_ (by assumption) ?_; rotate_left; (focus (intro w hSw; (try dsimp only at hSw); first | (go_simp; done) | (go_simp; with_reducible rfl))); try simp only [Act.put, List.setIfInBounds_toArray, List.set_cons_zero, List.set_cons_succ]); (refine takeD (i := 10) (some 56) rfl rfl (by kernel_rfl) (by kernel_rfl) (by kernel_rfl) (fun _ _ _ h => h) (v := ?_) rfl ?_ (by assumption) ?_; rotate_left; (focus (intro w hSw; (try dsimp only at hSw); first | (go_simp; done) | (go_simp; with_reducible rfl))); try simp only [Act.put, List.setIfInBounds_toArray, List.set_cons_zero, List.set_cons_succ]); (refine takeD (i := 11) (some 57) rfl rfl (by kernel_rfl) (by kernel_rfl) (by kernel_rfl) (fun _ _ _ h => h) (v := ?_) rfl ?_ (by assumption) ?_; rotate_left; (focus (intro w hSw; (try dsimp only at hSw); first | (go_simp; done) | (go_simp; with_reducible rfl))); try simp only [Act.put, List.setIfInBounds_toArray, List.set_cons_zero, List.set_cons_succ]); (refine takeD (i := 12) (some 58) rfl rfl (by kernel_rfl) (by kernel_rfl) (by kernel_rfl) (fun _ _ _ h => h) (v := ?_) rfl ?_ (by assumption) ?_; rotate_left; (focus (intro w hSw; (try dsimp only at hSw); first | (go_simp; done) | (go_simp; with_reducible rfl))); try simp only [Act.put, List.setIfInBounds_toArray, List.set_cons_zero, List.set_cons_succ]); (refine takeD (i := 13) (some 59) rfl rfl (by kernel_rfl) (by kernel_rfl) (by kernel_rfl) (fun _ _ _ h => h) (v := ?_) rfl ?_ (by assumption) ?_; rotate_left; (focus (intro w hSw; (try dsimp only at hSw); first | (go_simp; done) | (go_simp; with_reducible rfl))); try simp only [Act.put, List.setIfInBounds_toArray, List.set_cons_zero, List.set_cons_succ]); (refine takeD (i := 14) (some 60) rfl rfl (by kernel_rfl) (by kernel_rfl) (by kernel_rfl) (fun _ _ _ h => h) (v := ?_) rfl ?_ (by assumption) ?_; rotate_left; (focus (intro w hSw; (try dsimp only at hSw); first | (go_simp; done) | (go_simp; with_reducible rfl))); try simp only [Act.put, List.setIfInBounds_toArray, List.set_cons_zero, List.set_cons_succ]); (refine takeD (i := 15) (some 61) rfl rfl (by kernel_rfl) (by kernel_rfl) (by kernel_rfl) (fun _ _ _ h => h) (v := ?_) rfl ?_ (by assumption) ?_; rotate_left; (focus (intro w hSw; (try dsimp only at hSw); first | (go_simp; done) | (go_simp; with_reducible rfl))); try simp only [Act.put, List.setIfInBounds_toArray, List.set_cons_zero, List.set_cons_succ]); (refine takeD (i := 16) (some 62) rfl rfl (by kernel_rfl) (by kernel_rfl) (by kernel_rfl) (fun _ _ _ h => h) (v := ?_) rfl ?_ (by assumption) ?_; rotate_left; (focus (intro w hSw; (try dsimp only at hSw); first | (go_simp; done) | (go_simp; with_reducible rfl))); try simp only [Act.put, List.setIfInBounds_toArray, List.set_cons_zero, List.set_cons_succ]); (refine takeD (i := 17) (some 63) rfl rfl (by kernel_rfl) (by kernel_rfl) (by kernel_rfl) (fun _ _ _ h => h) (v := ?_) rfl ?_ (by assumption) ?_; rotate_left; (focus (intro w hSw; (try dsimp only at hSw); first | (go_simp; done) | (go_simp; with_reducible rfl))); try simp only [Act.put, List.setIfInBounds_toArray, List.set_cons_zero, List.set_cons_succ]); (refine takeD (i := 18) (some 64) rfl rfl (by kernel_rfl) (by kernel_rfl) (by kernel_rfl) (fun _ _ _ h => h) (v := ?_) rfl ?_ (by assumption) ?_; rotate_left; (focus (intro w hSw; (try dsimp only at hSw); first | (go_simp; done) | (go_simp; with_reducible rfl))); try simp only [Act.put, List.setIfInBounds_toArray, List.set_cons_zero, List.set_cons_succ]); (refine takeD (i := 19) (some 65) rfl rfl (by kernel_rfl) (by kernel_rfl) (by kernel_rfl) (fun _ _ _ h => h) (v := ?_) rfl ?_ (by assumption) ?_; rotate_left; (focus (intro w hSw; (try dsimp only at hSw); first | (go_simp; done) | (go_simp; with_reducible rfl))); try simp only [Act.put, List.setIfInBounds_toArray, List.set_cons_zero, List.set_cons_succ]); (refine takeD (i := 20) (some 66) rfl rfl (by kernel_rfl) (by kernel_rfl) (by kernel_rfl) (fun _ _ _ h => h) (v := ?_) rfl ?_ (by assumption) ?_; rotate_left; (focus (intro w hSw; (try dsimp only at hSw); first | (go_simp; done) | (go_simp; with_reducible rfl))); try simp only [Act.put, List.setIfInBounds_toArray, List.set_cons_zero, List.set_cons_succ]); (refine skipD (i := 21) (some 67) rfl rfl (by kernel_rfl) (by kernel_rfl) (by kernel_rfl) (fun _ _ _ h => h) rfl (by assumption) ?_; try simp only [Act.put, List.setIfInBounds_toArray, List.set_cons_zero, List.set_cons_succ]); (refine skipD (i := 22) (some 68) rfl rfl (by kernel_rfl) (by kernel_rfl) (by kernel_rfl) (fun _ _ _ h => h) rfl (by assumption) ?_; try simp only [Act.put, List.setIfInBounds_toArray, List.set_cons_zero, List.set_cons_succ]); (refine skipD (i := 23) (some 69) rfl rfl (by kernel_rfl) (by kernel_rfl) (by kernel_rfl) (fun _ _ _ h => h) rfl (by assumption) ?_; try simp only [Act.put, List.setIfInBounds_toArray, List.set_cons_zero, List.set_cons_succ]); (refine skipD (i := 24) (some 70) rfl rfl (by kernel_rfl) (by kernel_rfl) (by kernel_rfl) (fun _ _ _ h => h) rfl (by assumption) ?_; try simp only [Act.put, List.setIfInBounds_toArray, List.set_cons_zero, List.set_cons_succ]); (refine skipD (i := 25) (some 71) rfl rfl (by kernel_rfl) (by kernel_rfl) (by kernel_rfl) (fun _ _ _ h => h) rfl (by assumption) ?_; try simp only [Act.put, List.setIfInBounds_toArray, List.set_cons_zero, List.set_cons_succ]); (refine skipD (i := 26) (some 72) rfl rfl (by kernel_rfl) (by kernel_rfl) (by kernel_rfl) (fun _ _ _ h => h) rfl (by assumption) ?_; try simp only [Act.put, List.setIfInBounds_toArray, List.set_cons_zero, List.set_cons_succ]); (refine skipD (i := 27) (some 73) rfl rfl (by kernel_rfl) (by kernel_rfl) (by kernel_rfl) (fun _ _ _ h => h) rfl (by assumption) ?_; try simp only [Act.put, List.setIfInBounds_toArray, List.set_cons_zero, List.set_cons_succ]); (refine skipD (i := 28) (some 74) rfl rfl (by kernel_rfl) (by kernel_rfl) (by kernel_rfl) (fun _ _ _ h => h) rfl (by assumption) ?_; try simp only [Act.put, List.setIfInBounds_toArray, List.set_cons_zero, List.set_cons_succ]); (refine skipD (i := 29) (some 75) rfl rfl (by kernel_rfl) (by kernel_rfl) (by kernel_rfl) (fun _ _ _ h => h) rfl (by assumption) ?_; try simp only [Act.put, List.setIfInBounds_toArray, List.set_cons_zero, List.set_cons_succ]); (refine takeD (i := 30) (some 76) rfl rfl (by kernel_rfl) (by kernel_rfl) (by kernel_rfl) (fun _ _ _ h => h) (v := ?_) rfl ?_ (by assumption) ?_; rotate_left; (focus (intro w hSw; (try dsimp only at hSw); first | (go_simp; done) | (go_simp; with_reducible rfl))); try simp only [Act.put, List.setIfInBounds_toArray, List.set_cons_zero, List.set_cons_succ]); refine wpAnyH_done (by kernel_rfl) ?_ _
              clear hHeld
              have hB2 : Below w.heap.size w wr.drew := hB.drew
              go_wp2
              go_ret2
              exact ⟨by rw [HR.out, HZ.out]; rfl, hB2⟩
            · skip
              have HG' := hide (HG.out (by omega) (by omega))
              have g1' : ((Y : Int) < 1900) = False := eq_false g1
              have g2' : ((M : Int) < 1) = False := eq_false g2
              have g3' : ((12 : Int) < (M : Int)) = False := eq_false g3
              have g4' : ((D : Int) < 1) = False := eq_false g4
              by_cases g5 : lenM Y M < (D : Int)
              · have HZ : Hid (parseN Y M D = (0, 3)) := by show _ = _; unfold parseN; rw [if_neg (by rw [dateB_iff]; omega)]
                generalize lenM Y M = L at *
                have g5' : (L < (D : Int)) = True := eq_true g5
                go_wp2_with fail
                refine wp_region_held_drew (S := fun w' => w'.cell? ⟨g, 0, none⟩ = some (.int .i64 (Y : Int)) ∧ w'.cell? ⟨g, 1, none⟩ = some (.int .i64 (M : Int)) ∧ Below w.heap.size w w') (by kernel_rfl) ⟨c0, c1, hB.drew⟩ (fun hHeld => ?_)
                (refine takeD (i := 0) (some 46) rfl rfl (by kernel_rfl) (by kernel_rfl) (by kernel_rfl) (fun _ _ _ h => h) (v := ?_) rfl ?_ (by assumption) ?_; rotate_left; (focus (intro w hSw; (try dsimp only at hSw); first | (go_simp; done) | (go_simp; with_reducible rfl))); try simp only [Act.put, List.setIfInBounds_toArray, List.set_cons_zero, List.set_cons_succ]); (refine takeD (i := 1) (some 47) rfl rfl (by kernel_rfl) (by kernel_rfl) (by kernel_rfl) (fun _ _ _ h => h) (v := ?_) rfl ?_ (by assumption) ?_; rotate_left; (focus (intro w hSw; (try dsimp only at hSw); first | (go_simp; done) | (go_simp; with_reducible rfl))); try simp only [Act.put, List.setIfInBounds_toArray, List.set_cons_zero, List.set_cons_succ]); (refine takeD (i := 2) (some 48) rfl rfl (by kernel_rfl) (by kernel_rfl) (by kernel_rfl) (fun _ _ _ h => h) (v := ?_) rfl ?_ (by assumption) ?_; rotate_left; (focus (intro w hSw; (try dsimp only at hSw); first | (go_simp; done) | (go_simp; with_reducible rfl))); try simp only [Act.put, List.setIfInBounds_toArray, List.set_cons_zero, List.set_cons_succ]); (refine takeD (i := 3) (some 49) rfl rfl (by kernel_rfl) (by kernel_rfl) (by kernel_rfl) (fun _ _ _ h => h) (v := ?_) rfl ?_ (by assumption) ?_; rotate_left; (focus (intro w hSw; (try dsimp only at hSw); first | (go_simp; done) | (go_simp; with_reducible rfl))); try simp only [Act.put, List.setIfInBounds_toArray, List.set_cons_zero, List.set_cons_succ]); (refine takeD (i := 4) (some 50) rfl rfl (by kernel_rfl) (by kernel_rfl) (by kernel_rfl) (fun _ _ _ h => h) (v := ?_) rfl ?_ (by assumption) ?_; rotate_left; (focus (intro w hSw; (try dsimp only at hSw); first | (go_simp; done) | (go_simp; with_reducible rfl))); try simp only [Act.put, List.setIfInBounds_toArray, List.set_cons_zero, List.set_cons_succ]); (refine takeD (i := 5) (some 51) rfl rfl (by kernel_rfl) (by kernel_rfl) (by kernel_rfl) (fun _ _ _ h => h) (v := ?_) rfl ?_ (by assumption) ?_; rotate_left; (focus (intro w hSw; (try dsimp only at hSw); first | (go_simp; done) | (go_simp; with_reducible rfl))); try simp only [Act.put, List.setIfInBounds_toArray, List.set_cons_zero, List.set_cons_succ]); (refine takeD (i := 6) (some 52) rfl rfl (by kernel_rfl) (by kernel_rfl) (by kernel_rfl) (fun _ _ _ h => h) (v := ?_) rfl ?_ (by assumption) ?_; rotate_left; (focus (intro w hSw; (try dsimp only at hSw); first | (go_simp; done) | (go_simp; with_reducible rfl))); try simp only [Act.put, List.setIfInBounds_toArray, List.set_cons_zero, List.set_cons_succ]); (refine takeD (i := 7) (some 53) rfl rfl (by kernel_rfl) (by kernel_rfl) (by kernel_rfl) (fun _ _ _ h => h) (v := ?_) rfl ?_ (by assumption) ?_; rotate_left; (focus (intro w hSw; (try dsimp only at hSw); first | (go_simp; done) | (go_simp; with_reducible rfl))); try simp only [Act.put, List.setIfInBounds_toArray, List.set_cons_zero, List.set_cons_succ]); (refine takeD (i := 8) (some 54) rfl rfl (by kernel_rfl) (by kernel_rfl) (by kernel_rfl) (fun _ _ _ h => h) (v := ?_) rfl ?_ (by assumption) ?_; rotate_left; (focus (intro w hSw; (try dsimp only at hSw); first | (go_simp; done) | (go_simp; with_reducible rfl))); try simp only [Act.put, List.setIfInBounds_toArray, List.set_cons_zero, List.set_cons_succ]); (refine takeD (i := 9) (some 55) rfl rfl (by kernel_rfl) (by kernel_rfl) (by kernel_rfl) (fun _ _ _ h => h) (v := ?_) rfl ?_ (by assumption) ?_; rotate_left; (focus (intro w hSw; (try dsimp only at hSw); first | (go_simp; done) | (go_simp; with_reducible rfl))); try simp only [Act.put, List.setIfInBounds_toArray, List.set_cons_zero, List.set_cons_succ]); (refine takeD (i := 10) (some 56) rfl rfl (by kernel_rfl) (by kernel_rfl) (by kernel_rfl) (fun _ _ _ h => h) (v := ?_) rfl ?_ (by assumption) ?_; rotate_left; (focus (intro w hSw; (try dsimp only at hSw); first | (go_simp; done) | (go_simp; with_reducible rfl))); try simp only [Act.put, List.setIfInBounds_toArray, List.set_cons_zero, List.set_cons_succ]); (refine takeD (i := 11) (some 57) rfl rfl (by kernel_rfl) (by kernel_rfl) (by kernel_rfl) (fun _ _ _ h => h) (v := ?_) rfl ?_ (by assumption) ?_; rotate_left; (focus (intro w hSw; (try dsimp only at hSw); first | (go_simp; done) | (go_simp; with_reducible rfl))); try simp only [Act.put, List.setIfInBounds_toArray, List.set_cons_zero, List.set_cons_succ]); (refine takeD (i := 12) (some 58) rfl rfl (by kernel_rfl) (by kernel_rfl) (by kernel_rfl) (fun _ _ _ h => h) (v := ?_) rfl ?_ (by assumption) ?_; rotate_left; (focus (intro w hSw; (try dsimp only at hSw); first | (go_simp; done) | (go_simp; with_reducible rfl))); try simp only [Act.put, List.setIfInBounds_toArray, List.set_cons_zero, List.set_cons_succ]); (refine takeD (i := 13) (some 59) rfl rfl (by kernel_rfl) (by kernel_rfl) (by kernel_rfl) (fun _ _ _ h => h) (v := ?_) rfl ?_ (by assumption) ?_; rotate_left; (focus (intro w hSw; (try dsimp only at hSw); first | (go_simp; done) | (go_simp; with_reducible rfl))); try simp only [Act.put, List.setIfInBounds_toArray, List.set_cons_zero, List.set_cons_succ]); (refine takeD (i := 14) (some 60) rfl rfl (by kernel_rfl) (by kernel_rfl) (by kernel_rfl) (fun _ _ _ h => h) (v := ?_) rfl ?_ (by assumption) ?_; rotate_left; (focus (intro w hSw; (try dsimp only at hSw); first | (go_simp; done) | (go_simp; with_reducible rfl))); try simp only [Act.put, List.setIfInBounds_toArray, List.set_cons_zero, List.set_cons_succ]); (refine takeD (i := 15) (some 61) rfl rfl (by kernel_rfl) (by kernel_rfl) (by kernel_rfl) (fun _ _ _ h => h) (v := ?_) rfl ?_ (by assumption) ?_; rotate_left; (focus (intro w hSw; (try dsimp only at hSw); first | (go_simp; done) | (go_simp; with_reducible rfl))); try simp only [Act.put, List.setIfInBounds_toArray, List.set_cons_zero, List.set_cons_succ]); (refine takeD (i := 16) (some 62) rfl rfl (by kernel_rfl) (by kernel_rfl) (by kernel_rfl) (fun _ _ _ h => h) (v := ?_) rfl ?_ (by assumption) ?_; rotate_left; (focus (intro w hSw; (try dsimp only at hSw); first | (go_simp; done) | (go_simp; with_reducible rfl))); try simp only [Act.put, List.setIfInBounds_toArray, List.set_cons_zero, List.set_cons_succ]); (refine takeD (i := 17) (some 63) rfl rfl (by kernel_rfl) (by kernel_rfl) (by kernel_rfl) (fun _ _ _ h => h) (v := ?_) rfl ?_ (by assumption) ?_; rotate_left; (focus (intro w hSw; (try dsimp only at hSw); first | (go_simp; done) | (go_simp; with_reducible rfl))); try simp only [Act.put, List.setIfInBounds_toArray, List.set_cons_zero, List.set_cons_succ]); (refine takeD (i := 18) (some 64) rfl rfl (by kernel_rfl) (by kernel_rfl) (by kernel_rfl) (fun _ _ _ h => h) (v := ?_) rfl ?_ (by assumption) ?_; rotate_left; (focus (intro w hSw; (try dsimp only at hSw); first | (go_simp; done) | (go_simp; with_reducible rfl))); try simp only [Act.put, List.setIfInBounds_toArray, List.set_cons_zero, List.set_cons_succ]); (refine takeD (i := 19) (some 65) rfl rfl (by kernel_rfl) (by kernel_rfl) (by kernel_rfl) (fun _ _ _ h => h) (v := ?_) rfl ?_ (by assumption) ?_; rotate_left; (focus (intro w hSw; (try dsimp only at hSw); first | (go_simp; done) | (go_simp; with_reducible rfl))); try simp only [Act.put, List.setIfInBounds_toArray, List.set_cons_zero, List.set_cons_succ]); (refine takeD (i := 20) (some 66) rfl rfl (by kernel_rfl) (by kernel_rfl) (by kernel_rfl) (fun _ _ _ h => h) (v := ?_) rfl ?_ (by assumption) ?_; rotate_left; (focus (intro w hSw; (try dsimp only at hSw); first | (go_simp; done) | (go_simp; with_reducible rfl))); try simp only [Act.put, List.setIfInBounds_toArray, List.set_cons_zero, List.set_cons_succ]); (refine takeD (i := 21) (some 67) rfl rfl (by kernel_rfl) (by kernel_rfl) (by kernel_rfl) (fun _ _ _ h => h) (v := ?_) rfl ?_ (by assumption) ?_; rotate_left; (focus (intro w hSw; (try dsimp only at hSw); first | (go_simp; done) | (go_simp; with_reducible rfl))); try simp only [Act.put, List.setIfInBounds_toArray, List.set_cons_zero, List.set_cons_succ]); (refine takeD (i := 22) (some 68) rfl rfl (by kernel_rfl) (by kernel_rfl) (by kernel_rfl) (fun _ _ _ h => h) (v := ?_) rfl ?_ (by assumption) ?_; rotate_left; (focus (intro w hSw; (try dsimp only at hSw); first | (go_simp; done) | (go_simp; with_reducible rfl))); try simp only [Act.put, List.setIfInBounds_toArray, List.set_cons_zero, List.set_cons_succ]); (refine takeD (i := 23) (some 69) rfl rfl (by kernel_rfl) (by kernel_rfl) (by kernel_rfl) (fun _ _ _ h => h) (v := ?_) rfl ?_ (by assumption) ?_; rotate_left; (focus (intro w hSw; (try dsimp only at hSw); first | (go_simp; done) | (go_simp; with_reducible rfl))); try simp only [Act.put, List.setIfInBounds_toArray, List.set_cons_zero, List.set_cons_succ]); (refine takeD (i := 24) (some 70) rfl rfl (by kernel_rfl) (by kernel_rfl) (by kernel_rfl) (fun _ _ _ h => h) (v := ?_) rfl ?_ (by assumption) ?_; rotate_left; (focus (intro w hSw; (try dsimp only at hSw); first | (go_simp; done) | (go_simp; with_reducible rfl))); try simp only [Act.put, List.setIfInBounds_toArray, List.set_cons_zero, List.set_cons_succ]); (refine takeD (i := 25) (some 71) rfl rfl (by kernel_rfl) (by kernel_rfl) (by kernel_rfl) (fun _ _ _ h => h) (v := ?_) rfl ?_ (by assumption) ?_; rotate_left; (focus (intro w hSw; (try dsimp only at hSw); first | (go_simp; done) | (go_simp; with_reducible rfl))); try simp only [Act.put, List.setIfInBounds_toArray, List.set_cons_zero, List.set_cons_succ]); (refine takeD (i := 26) (some 72) rfl rfl (by kernel_rfl) (by kernel_rfl) (by kernel_rfl) (fun _ _ _ h => h) (v := ?_) rfl ?_ (by assumption) ?_; rotate_left; (focus (intro w hSw; (try dsimp only at hSw); first | (go_simp; done) | (go_simp; with_reducible rfl))); try simp only [Act.put, List.setIfInBounds_toArray, List.set_cons_zero, List.set_cons_succ]); (refine takeD (i := 27) (some 73) rfl rfl (by kernel_rfl) (by kernel_rfl) (by kernel_rfl) (fun _ _ _ h => h) (v := ?_) rfl ?_ (by assumption) ?_; rotate_left; (focus (intro w hSw; (try dsimp only at hSw); first | (go_simp; done) | (go_simp; with_reducible rfl))); try simp only [Act.put, List.setIfInBounds_toArray, List.set_cons_zero, List.set_cons_succ]); (refine wpAnyH_ready (rs := [28]) (by kernel_rfl) (by simp) ?_; refine AllReadyH.cons (o := _) rfl (fun K hK => ?_) AllReadyH.nil; go_simp; (go_at_call 31; refine (HG'.out _).mono ?_; rintro e wz ⟨rfl, hz⟩; subst wz); refine hK.out _ _ hHeld (fun hHeld => ?_); clear hK K; try simp only [Act.put, List.setIfInBounds_toArray, List.set_cons_zero, List.set_cons_succ]); (refine takeD (i := 29) (some 75) rfl rfl (by kernel_rfl) (by kernel_rfl) (by kernel_rfl) (fun _ _ _ h => h) (v := ?_) rfl ?_ (by assumption) ?_; rotate_left; (focus (intro w hSw; (try dsimp only at hSw); first | (go_simp; done) | (go_simp; with_reducible rfl))); try simp only [Act.put, List.setIfInBounds_toArray, List.set_cons_zero, List.set_cons_succ]); (refine takeD (i := 30) (some 76) rfl rfl (by kernel_rfl) (by kernel_rfl) (by kernel_rfl) (fun _ _ _ h => h) (v := ?_) rfl ?_ (by assumption) ?_; rotate_left; (focus (intro w hSw; (try dsimp only at hSw); first | (go_simp; done) | (go_simp; with_reducible rfl))); try simp only [Act.put, List.setIfInBounds_toArray, List.set_cons_zero, List.set_cons_succ]); refine wpAnyH_done (by kernel_rfl) ?_ _
                clear hHeld
                have hB2 : Below w.heap.size w wr.drew := hB.drew
                go_wp2
                go_ret2
                exact ⟨by rw [HR.out, HZ.out]; rfl, hB2⟩
              · have hd : dateB Y M D = true := dateB_iff.2 ⟨by omega, by omega, by omega, by omega, by omega⟩
                have HZ : Hid (parseN Y M D = (countR Y M D, 0)) := by show _ = _; unfold parseN; rw [if_pos hd]
                have HS : Hid (∀ W : World, Calls Tryd.prog 10 #[.int .i64 (Y : Int), .int .i64 (M : Int), .int .i64 (D : Int)] W fun e w' => e = .returned (.tuple #[.int .i64 (countR Y M D), .int .i64 0]) ∧ Below W.heap.size W w') := fun W => by
                  have := rserial_any (Y : Int) (M : Int) (D : Int) W
                  have hq := (date_is hd q1).day
                  rw [serial_yes (by omega), daily_yes hq.1 hq.2] at this
                  exact this
                clear hd
                generalize lenM Y M = L at *
                generalize countR Y M D = N at *
                have g5' : (L < (D : Int)) = False := eq_false g5
                go_wp2_with fail
                refine wp_region_held_drew (S := fun w' => w'.cell? ⟨g, 0, none⟩ = some (.int .i64 (Y : Int)) ∧ w'.cell? ⟨g, 1, none⟩ = some (.int .i64 (M : Int)) ∧ Below w.heap.size w w') (by kernel_rfl) ⟨c0, c1, hB.drew⟩ (fun hHeld => ?_)
                (refine takeD (i := 0) (some 46) rfl rfl (by kernel_rfl) (by kernel_rfl) (by kernel_rfl) (fun _ _ _ h => h) (v := ?_) rfl ?_ (by assumption) ?_; rotate_left; (focus (intro w hSw; (try dsimp only at hSw); first | (go_simp; done) | (go_simp; with_reducible rfl))); try simp only [Act.put, List.setIfInBounds_toArray, List.set_cons_zero, List.set_cons_succ]); (refine takeD (i := 1) (some 47) rfl rfl (by kernel_rfl) (by kernel_rfl) (by kernel_rfl) (fun _ _ _ h => h) (v := ?_) rfl ?_ (by assumption) ?_; rotate_left; (focus (intro w hSw; (try dsimp only at hSw); first | (go_simp; done) | (go_simp; with_reducible rfl))); try simp only [Act.put, List.setIfInBounds_toArray, List.set_cons_zero, List.set_cons_succ]); (refine takeD (i := 2) (some 48) rfl rfl (by kernel_rfl) (by kernel_rfl) (by kernel_rfl) (fun _ _ _ h => h) (v := ?_) rfl ?_ (by assumption) ?_; rotate_left; (focus (intro w hSw; (try dsimp only at hSw); first | (go_simp; done) | (go_simp; with_reducible rfl))); try simp only [Act.put, List.setIfInBounds_toArray, List.set_cons_zero, List.set_cons_succ]); (refine takeD (i := 3) (some 49) rfl rfl (by kernel_rfl) (by kernel_rfl) (by kernel_rfl) (fun _ _ _ h => h) (v := ?_) rfl ?_ (by assumption) ?_; rotate_left; (focus (intro w hSw; (try dsimp only at hSw); first | (go_simp; done) | (go_simp; with_reducible rfl))); try simp only [Act.put, List.setIfInBounds_toArray, List.set_cons_zero, List.set_cons_succ]); (refine takeD (i := 4) (some 50) rfl rfl (by kernel_rfl) (by kernel_rfl) (by kernel_rfl) (fun _ _ _ h => h) (v := ?_) rfl ?_ (by assumption) ?_; rotate_left; (focus (intro w hSw; (try dsimp only at hSw); first | (go_simp; done) | (go_simp; with_reducible rfl))); try simp only [Act.put, List.setIfInBounds_toArray, List.set_cons_zero, List.set_cons_succ]); (refine takeD (i := 5) (some 51) rfl rfl (by kernel_rfl) (by kernel_rfl) (by kernel_rfl) (fun _ _ _ h => h) (v := ?_) rfl ?_ (by assumption) ?_; rotate_left; (focus (intro w hSw; (try dsimp only at hSw); first | (go_simp; done) | (go_simp; with_reducible rfl))); try simp only [Act.put, List.setIfInBounds_toArray, List.set_cons_zero, List.set_cons_succ]); (refine takeD (i := 6) (some 52) rfl rfl (by kernel_rfl) (by kernel_rfl) (by kernel_rfl) (fun _ _ _ h => h) (v := ?_) rfl ?_ (by assumption) ?_; rotate_left; (focus (intro w hSw; (try dsimp only at hSw); first | (go_simp; done) | (go_simp; with_reducible rfl))); try simp only [Act.put, List.setIfInBounds_toArray, List.set_cons_zero, List.set_cons_succ]); (refine takeD (i := 7) (some 53) rfl rfl (by kernel_rfl) (by kernel_rfl) (by kernel_rfl) (fun _ _ _ h => h) (v := ?_) rfl ?_ (by assumption) ?_; rotate_left; (focus (intro w hSw; (try dsimp only at hSw); first | (go_simp; done) | (go_simp; with_reducible rfl))); try simp only [Act.put, List.setIfInBounds_toArray, List.set_cons_zero, List.set_cons_succ]); (refine takeD (i := 8) (some 54) rfl rfl (by kernel_rfl) (by kernel_rfl) (by kernel_rfl) (fun _ _ _ h => h) (v := ?_) rfl ?_ (by assumption) ?_; rotate_left; (focus (intro w hSw; (try dsimp only at hSw); first | (go_simp; done) | (go_simp; with_reducible rfl))); try simp only [Act.put, List.setIfInBounds_toArray, List.set_cons_zero, List.set_cons_succ]); (refine takeD (i := 9) (some 55) rfl rfl (by kernel_rfl) (by kernel_rfl) (by kernel_rfl) (fun _ _ _ h => h) (v := ?_) rfl ?_ (by assumption) ?_; rotate_left; (focus (intro w hSw; (try dsimp only at hSw); first | (go_simp; done) | (go_simp; with_reducible rfl))); try simp only [Act.put, List.setIfInBounds_toArray, List.set_cons_zero, List.set_cons_succ]); (refine takeD (i := 10) (some 56) rfl rfl (by kernel_rfl) (by kernel_rfl) (by kernel_rfl) (fun _ _ _ h => h) (v := ?_) rfl ?_ (by assumption) ?_; rotate_left; (focus (intro w hSw; (try dsimp only at hSw); first | (go_simp; done) | (go_simp; with_reducible rfl))); try simp only [Act.put, List.setIfInBounds_toArray, List.set_cons_zero, List.set_cons_succ]); (refine takeD (i := 11) (some 57) rfl rfl (by kernel_rfl) (by kernel_rfl) (by kernel_rfl) (fun _ _ _ h => h) (v := ?_) rfl ?_ (by assumption) ?_; rotate_left; (focus (intro w hSw; (try dsimp only at hSw); first | (go_simp; done) | (go_simp; with_reducible rfl))); try simp only [Act.put, List.setIfInBounds_toArray, List.set_cons_zero, List.set_cons_succ]); (refine takeD (i := 12) (some 58) rfl rfl (by kernel_rfl) (by kernel_rfl) (by kernel_rfl) (fun _ _ _ h => h) (v := ?_) rfl ?_ (by assumption) ?_; rotate_left; (focus (intro w hSw; (try dsimp only at hSw); first | (go_simp; done) | (go_simp; with_reducible rfl))); try simp only [Act.put, List.setIfInBounds_toArray, List.set_cons_zero, List.set_cons_succ]); (refine takeD (i := 13) (some 59) rfl rfl (by kernel_rfl) (by kernel_rfl) (by kernel_rfl) (fun _ _ _ h => h) (v := ?_) rfl ?_ (by assumption) ?_; rotate_left; (focus (intro w hSw; (try dsimp only at hSw); first | (go_simp; done) | (go_simp; with_reducible rfl))); try simp only [Act.put, List.setIfInBounds_toArray, List.set_cons_zero, List.set_cons_succ]); (refine takeD (i := 14) (some 60) rfl rfl (by kernel_rfl) (by kernel_rfl) (by kernel_rfl) (fun _ _ _ h => h) (v := ?_) rfl ?_ (by assumption) ?_; rotate_left; (focus (intro w hSw; (try dsimp only at hSw); first | (go_simp; done) | (go_simp; with_reducible rfl))); try simp only [Act.put, List.setIfInBounds_toArray, List.set_cons_zero, List.set_cons_succ]); (refine takeD (i := 15) (some 61) rfl rfl (by kernel_rfl) (by kernel_rfl) (by kernel_rfl) (fun _ _ _ h => h) (v := ?_) rfl ?_ (by assumption) ?_; rotate_left; (focus (intro w hSw; (try dsimp only at hSw); first | (go_simp; done) | (go_simp; with_reducible rfl))); try simp only [Act.put, List.setIfInBounds_toArray, List.set_cons_zero, List.set_cons_succ]); (refine takeD (i := 16) (some 62) rfl rfl (by kernel_rfl) (by kernel_rfl) (by kernel_rfl) (fun _ _ _ h => h) (v := ?_) rfl ?_ (by assumption) ?_; rotate_left; (focus (intro w hSw; (try dsimp only at hSw); first | (go_simp; done) | (go_simp; with_reducible rfl))); try simp only [Act.put, List.setIfInBounds_toArray, List.set_cons_zero, List.set_cons_succ]); (refine takeD (i := 17) (some 63) rfl rfl (by kernel_rfl) (by kernel_rfl) (by kernel_rfl) (fun _ _ _ h => h) (v := ?_) rfl ?_ (by assumption) ?_; rotate_left; (focus (intro w hSw; (try dsimp only at hSw); first | (go_simp; done) | (go_simp; with_reducible rfl))); try simp only [Act.put, List.setIfInBounds_toArray, List.set_cons_zero, List.set_cons_succ]); (refine takeD (i := 18) (some 64) rfl rfl (by kernel_rfl) (by kernel_rfl) (by kernel_rfl) (fun _ _ _ h => h) (v := ?_) rfl ?_ (by assumption) ?_; rotate_left; (focus (intro w hSw; (try dsimp only at hSw); first | (go_simp; done) | (go_simp; with_reducible rfl))); try simp only [Act.put, List.setIfInBounds_toArray, List.set_cons_zero, List.set_cons_succ]); (refine takeD (i := 19) (some 65) rfl rfl (by kernel_rfl) (by kernel_rfl) (by kernel_rfl) (fun _ _ _ h => h) (v := ?_) rfl ?_ (by assumption) ?_; rotate_left; (focus (intro w hSw; (try dsimp only at hSw); first | (go_simp; done) | (go_simp; with_reducible rfl))); try simp only [Act.put, List.setIfInBounds_toArray, List.set_cons_zero, List.set_cons_succ]); (refine takeD (i := 20) (some 66) rfl rfl (by kernel_rfl) (by kernel_rfl) (by kernel_rfl) (fun _ _ _ h => h) (v := ?_) rfl ?_ (by assumption) ?_; rotate_left; (focus (intro w hSw; (try dsimp only at hSw); first | (go_simp; done) | (go_simp; with_reducible rfl))); try simp only [Act.put, List.setIfInBounds_toArray, List.set_cons_zero, List.set_cons_succ]); (refine takeD (i := 21) (some 67) rfl rfl (by kernel_rfl) (by kernel_rfl) (by kernel_rfl) (fun _ _ _ h => h) (v := ?_) rfl ?_ (by assumption) ?_; rotate_left; (focus (intro w hSw; (try dsimp only at hSw); first | (go_simp; done) | (go_simp; with_reducible rfl))); try simp only [Act.put, List.setIfInBounds_toArray, List.set_cons_zero, List.set_cons_succ]); (refine takeD (i := 22) (some 68) rfl rfl (by kernel_rfl) (by kernel_rfl) (by kernel_rfl) (fun _ _ _ h => h) (v := ?_) rfl ?_ (by assumption) ?_; rotate_left; (focus (intro w hSw; (try dsimp only at hSw); first | (go_simp; done) | (go_simp; with_reducible rfl))); try simp only [Act.put, List.setIfInBounds_toArray, List.set_cons_zero, List.set_cons_succ]); (refine takeD (i := 23) (some 69) rfl rfl (by kernel_rfl) (by kernel_rfl) (by kernel_rfl) (fun _ _ _ h => h) (v := ?_) rfl ?_ (by assumption) ?_; rotate_left; (focus (intro w hSw; (try dsimp only at hSw); first | (go_simp; done) | (go_simp; with_reducible rfl))); try simp only [Act.put, List.setIfInBounds_toArray, List.set_cons_zero, List.set_cons_succ]); (refine takeD (i := 24) (some 70) rfl rfl (by kernel_rfl) (by kernel_rfl) (by kernel_rfl) (fun _ _ _ h => h) (v := ?_) rfl ?_ (by assumption) ?_; rotate_left; (focus (intro w hSw; (try dsimp only at hSw); first | (go_simp; done) | (go_simp; with_reducible rfl))); try simp only [Act.put, List.setIfInBounds_toArray, List.set_cons_zero, List.set_cons_succ]); (refine takeD (i := 25) (some 71) rfl rfl (by kernel_rfl) (by kernel_rfl) (by kernel_rfl) (fun _ _ _ h => h) (v := ?_) rfl ?_ (by assumption) ?_; rotate_left; (focus (intro w hSw; (try dsimp only at hSw); first | (go_simp; done) | (go_simp; with_reducible rfl))); try simp only [Act.put, List.setIfInBounds_toArray, List.set_cons_zero, List.set_cons_succ]); (refine takeD (i := 26) (some 72) rfl rfl (by kernel_rfl) (by kernel_rfl) (by kernel_rfl) (fun _ _ _ h => h) (v := ?_) rfl ?_ (by assumption) ?_; rotate_left; (focus (intro w hSw; (try dsimp only at hSw); first | (go_simp; done) | (go_simp; with_reducible rfl))); try simp only [Act.put, List.setIfInBounds_toArray, List.set_cons_zero, List.set_cons_succ]); (refine takeD (i := 27) (some 73) rfl rfl (by kernel_rfl) (by kernel_rfl) (by kernel_rfl) (fun _ _ _ h => h) (v := ?_) rfl ?_ (by assumption) ?_; rotate_left; (focus (intro w hSw; (try dsimp only at hSw); first | (go_simp; done) | (go_simp; with_reducible rfl))); try simp only [Act.put, List.setIfInBounds_toArray, List.set_cons_zero, List.set_cons_succ]); (refine wpAnyH_ready (rs := [28]) (by kernel_rfl) (by simp) ?_; refine AllReadyH.cons (o := _) rfl (fun K hK => ?_) AllReadyH.nil; go_simp; (go_at_call 31; refine (HG'.out _).mono ?_; rintro e wz ⟨rfl, hz⟩; subst wz); refine hK.out _ _ hHeld (fun hHeld => ?_); clear hK K; try simp only [Act.put, List.setIfInBounds_toArray, List.set_cons_zero, List.set_cons_succ]); (refine takeD (i := 29) (some 75) rfl rfl (by kernel_rfl) (by kernel_rfl) (by kernel_rfl) (fun _ _ _ h => h) (v := ?_) rfl ?_ (by assumption) ?_; rotate_left; (focus (intro w hSw; (try dsimp only at hSw); first | (go_simp; done) | (go_simp; with_reducible rfl))); try simp only [Act.put, List.setIfInBounds_toArray, List.set_cons_zero, List.set_cons_succ]); (refine takeD (i := 30) (some 76) rfl rfl (by kernel_rfl) (by kernel_rfl) (by kernel_rfl) (fun _ _ _ h => h) (v := ?_) rfl ?_ (by assumption) ?_; rotate_left; (focus (intro w hSw; (try dsimp only at hSw); first | (go_simp; done) | (go_simp; with_reducible rfl))); try simp only [Act.put, List.setIfInBounds_toArray, List.set_cons_zero, List.set_cons_succ]); refine wpAnyH_done (by kernel_rfl) ?_ _
                clear hHeld
                have hB2 : Below w.heap.size w wr.drew := hB.drew
                have HS2 := hide (V2.drew (w0 := w) ⟨c0, c1, hg2, hB⟩)
                go_wp2_with fail
                go_region_held3 (fun w' => w'.cell? ⟨g, 0, none⟩ = some (.int .i64 (Y : Int)) ∧ w'.cell? ⟨g, 1, none⟩ = some (.int .i64 (M : Int)) ∧ g < w'.heap.size ∧ Below w.heap.size w w') (first | exact HS2.out | assumption | exact V2.drew (by assumption)) (first | (go_at_call 10; refine (HS.out _).mono ?_; rintro e w2 ⟨rfl, hb2⟩; have hs2 := V2.below (by assumption) hb2))
                all_goals go_wp2
                all_goals go_ret2
                all_goals exact ⟨by rw [HR.out, HZ.out]; rfl, V2.out (by assumption)⟩
theorem rparse_any (s : ByteArray) (w : World) :
    Calls Tryd.prog 23 #[.string s] w fun e w' => e = .returned (.tuple #[.int .i64 (parseS s).1, .int .i64 (parseS s).2]) ∧ Below w.heap.size w w' := by
  unfold parseS
  by_cases h : s.size = 10
  · rw [if_pos h]
    obtain ⟨b0, b1, b2, b3, b4, b5, b6, b7, b8, b9, rfl⟩ := ten_bytes h
    exact rparse_ten b0 b1 b2 b3 b4 b5 b6 b7 b8 b9 w
  · rw [if_neg h]
    exact rparse_short s w h
end Go.Proofs.YtlhpplhhdeifhaaDoor
